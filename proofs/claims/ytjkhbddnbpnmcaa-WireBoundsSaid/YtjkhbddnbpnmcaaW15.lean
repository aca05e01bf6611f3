/-
  The Reader's Bytes; NewReader.
-/
import Derived.Test.YtjkhbddnbpnmcaaW14
namespace Go.Proofs.Ytjkhbddnbpnmcaa
open Go.RowKit
attribute [local go_sem ↓] Go.wp_at_zero Go.wp_at_succ

theorem below_grown {w w' : World} (h : Below w.heap.size w w') (row : Option Nat) : w.grownBy w' row := ⟨h.os, h.tape, h.output, h.size, fun k hk _ => h.block k hk⟩
theorem c16n (Rb : Nat) (bs : List Int) (w : World) (h : Rdr w Rb bs) (hl : bs.length < 4 ∨ (bs.length : Int) < 4 + numL (bs.take 4)) :
    Calls Try.prog 16 #[.pointer (some ⟨Rb, 0, none⟩)] w fun e w' => Short e ∧ w = w' := by
  by_cases h4 : bs.length < 4
  · have C := Lib.hid (c32n Rb 4 bs w h h4)
    clear h hl
    go_enter Try.func16, Try.ntmps16
    go_wp2_with (go_at_call 32; refine C.out.mono ?_; rintro e w' ⟨rfl, rfl⟩)
    exact ⟨rfl, rfl, rfl⟩
  · have hg : (bs.length : Int) < 4 + numL (bs.take 4) := by omega
    have hr := numL_range _ (byt_take h.byt 4)
    have hlt : (bs.take 4).length = 4 := by rw [List.length_take]; omega
    rw [hlt] at hr
    obtain ⟨m, hm⟩ := Int.eq_ofNat_of_zero_le hr.1
    have e32 : (2 : Int) ^ (8 * 4) = 4294967296 := by decide
    have hm2 : m < 4294967296 := by omega
    obtain ⟨b, off, c, hrd⟩ := rd_some (n := 4) h (by decide) (by omega)
    have C := Lib.hid (c32y Rb 4 _ c bs w hrd (by omega))
    have D := Lib.hid (c30n Rb (4 + m) bs w h (by omega))
    have N : Hid (Calls Try.prog 31 #[.slice (some ⟨b, off, none⟩) 4 c] w fun e w' => e = .returned (.int .i64 m) ∧ w = w') := by
      have := c31 (some ⟨b, off, none⟩) 4 c (bs.take 4) w hlt (by decide) (byt_take h.byt 4) (row_take 4 hrd.row)
      rw [hm] at this; exact this
    clear h hl h4 hg hr hlt hm e32 hrd
    go_enter Try.func16, Try.ntmps16
    go_wp2_with (first | (go_at_call 32; refine C.out.mono ?_; rintro e w' ⟨rfl, rfl⟩) | (go_at_call 31; refine N.out.mono ?_; rintro e w' ⟨rfl, rfl⟩) | (go_at_call 30; refine D.out.mono ?_; rintro e w' ⟨rfl, rfl⟩))
    exact ⟨rfl, rfl, rfl⟩
theorem c16y (Rb m : Nat) (bs : List Int) (w : World) (h : Rdr w Rb bs) (hm : numL (bs.take 4) = m) (hl : 4 + m ≤ bs.length) :
    Calls Try.prog 16 #[.pointer (some ⟨Rb, 0, none⟩)] w fun e w' => (∃ A c, e = .returned (.slice A m c) ∧ Row w' A ((bs.drop 4).take m) ∧ m ≤ c ∧ (A = none → c = 0)) ∧ Rdr w' Rb (bs.drop (4 + m)) ∧ w.grownBy w' (some Rb) := by
  have hr := numL_range _ (byt_take h.byt 4)
  have hlt : (bs.take 4).length = 4 := by rw [List.length_take]; omega
  rw [hlt] at hr
  have e32 : (2 : Int) ^ (8 * 4) = 4294967296 := by decide
  have hm2 : m < 4294967296 := by omega
  obtain ⟨b, off, c, hrd⟩ := rd_some (n := 4) h (by decide) (by omega)
  have C := Lib.hid (c32y Rb 4 _ c bs w hrd (by omega))
  have D := Lib.hid (c30y Rb (4 + m) b off c bs w hrd hl)
  have N : Hid (Calls Try.prog 31 #[.slice (some ⟨b, off, none⟩) 4 c] w fun e w' => e = .returned (.int .i64 m) ∧ w = w') := by
    have := c31 (some ⟨b, off, none⟩) 4 c (bs.take 4) w hlt (by decide) (byt_take h.byt 4) (row_take 4 hrd.row)
    rw [hm] at this; exact this
  have hc4 : 4 + m ≤ c := Nat.le_trans hl hrd.le
  have hcm := hrd.cm
  have hb1 : (4 : Int) ≤ ((4 + m : Nat) : Int) := by omega
  have hb2 : ((4 + m : Nat) : Int) ≤ (c : Int) := by omega
  have hb3 : (4 : Int) ≤ 4 + (m : Int) := by omega
  have hb4 : 4 + (m : Int) ≤ (c : Int) := by omega
  have hdt : (bs.take (4 + m)).drop 4 = (bs.drop 4).take m := by rw [List.drop_take, Nat.add_sub_cancel_left]
  have hsl : ((bs.drop 4).take m).length = m := by rw [List.length_take, List.length_drop]; omega
  have SR : Hid (∀ w1, Row w1 (some ⟨b, off, none⟩) (bs.take (4 + m)) → Src w1 (if c = 4 then some ⟨b, off, none⟩ else some ⟨b, off + 4, none⟩) m ((bs.drop 4).take m)) := fun w1 h1 => by
    by_cases hc : c = 4
    · exact ⟨hsl, .inl (by omega)⟩
    · rw [if_neg hc]
      have := row_drop 4 h1
      rw [hdt] at this
      exact src_row hsl this
  have sub : 4 + m - 4 = m := by omega
  clear h hr hlt e32 hrd hm
  by_cases hc : c = 4
  · have RS : Hid (∀ w1, Row w1 (some ⟨b, off, none⟩) (bs.take (4 + m)) → Src w1 (some ⟨b, off, none⟩) m ((bs.drop 4).take m)) := fun w1 h1 => by have := SR.out w1 h1; rwa [if_pos hc] at this
    clear SR hdt hsl
    subst hc
    go_enter Try.func16, Try.ntmps16
    go_wp2_with (first | (go_at_call 32; refine C.out.mono ?_; rintro e w' ⟨rfl, rfl⟩) | (go_at_call 31; refine N.out.mono ?_; rintro e w' ⟨rfl, rfl⟩) | (go_at_call 30; refine D.out.mono ?_; rintro e w1 ⟨rfl, h1, h2, h3⟩; have H1 := Lib.hid h1; have H2 := Lib.hid h2; have H3 := Lib.hid h3; clear h1 h2 h3) | (go_at_call 33; refine (c33 _ m _ _ _ (RS.out _ H2.out) (by omega)).mono ?_; rintro e w2 ⟨A2, c2, rfl, hown, hbel⟩; have OW := Lib.hid hown; have BL := Lib.hid hbel; clear hown hbel))
    go_ret
    refine ⟨⟨A2, c2, rfl, ?_, ?_, ?_⟩, ?_, ?_⟩
    · exact (row_own OW.out).1
    · exact (row_own OW.out).2.2
    · exact (src_own OW.out).2
    · exact H1.out.keep BL.out.block
    · exact H3.out.trans (below_grown BL.out _)
  · have RS : Hid (∀ w1, Row w1 (some ⟨b, off, none⟩) (bs.take (4 + m)) → Src w1 (some ⟨b, off + 4, none⟩) m ((bs.drop 4).take m)) := fun w1 h1 => by have := SR.out w1 h1; rwa [if_neg hc] at this
    clear SR hdt hsl
    go_enter Try.func16, Try.ntmps16
    go_wp2_with (first | (go_at_call 32; refine C.out.mono ?_; rintro e w' ⟨rfl, rfl⟩) | (go_at_call 31; refine N.out.mono ?_; rintro e w' ⟨rfl, rfl⟩) | (go_at_call 30; refine D.out.mono ?_; rintro e w1 ⟨rfl, h1, h2, h3⟩; have H1 := Lib.hid h1; have H2 := Lib.hid h2; have H3 := Lib.hid h3; clear h1 h2 h3) | (go_at_call 33; refine (c33 _ m _ _ _ (RS.out _ H2.out) (by omega)).mono ?_; rintro e w2 ⟨A2, c2, rfl, hown, hbel⟩; have OW := Lib.hid hown; have BL := Lib.hid hbel; clear hown hbel))
    go_ret
    exact ⟨⟨A2, c2, rfl, (row_own OW.out).1, (row_own OW.out).2.2, (src_own OW.out).2⟩, H1.out.keep BL.out.block, H3.out.trans (below_grown BL.out _)⟩

theorem own_cap {w : World} {base n c : Nat} {A : Option Addr} {xs : List Value} (h : w.ownsRow base 5 1 (.slice A n c) n xs) : c ≤ 9223372036854775807 ∧ ((A = none ∧ c = 0) ∨ ∃ g, A = some ⟨g, 0, none⟩ ∧ g < w.heap.size) := by
  rcases h.2 with ⟨e, _⟩ | ⟨g, cap, cur, e, _, hg, _, hm, _⟩
  · simp only [Value.slice.injEq] at e
    exact ⟨by omega, .inl ⟨e.1, e.2.2⟩⟩
  · simp only [Value.slice.injEq] at e
    unfold maxLen at hm
    exact ⟨by omega, .inr ⟨g, e.1, lt_of_block hg⟩⟩
theorem c28 (A : Option Addr) (len cap : Nat) (bs : List Int) (w : World) (hs : Src w A len bs) (hc : A = none → cap = 0) (hb : Byt bs) (hm : len ≤ 131072) :
    Calls Try.prog 28 #[.slice A len cap] w fun e w' => ∃ Rb, e = .returned (.pointer (some ⟨Rb, 0, none⟩)) ∧ Rdr w' Rb bs ∧ w.heap.size ≤ Rb ∧ Below w.heap.size w w' := by
  cases A with
  | none =>
    obtain rfl := hc rfl
    obtain rfl : len = 0 := by rcases hs.2 with h | ⟨_, _, e, _⟩; exact h; cases e
    have hbs := List.eq_nil_of_length_eq_zero hs.1
    have R1 : Hid (Rdr (w.alloc (Obj.cells #[.slice none 0 0] 58)) w.heap.size bs) := by
      rw [hbs]
      exact ⟨none, 0, ⟨heap_alloc_new w _, Nat.le_refl _, by decide, .inl rfl, (fun x hx => by cases hx), .inl ⟨rfl, rfl⟩⟩⟩
    have hbuild : ∀ w : World, (Instr.build 58 #[(0, .slice none 0 0)]).run Try.prog w = .ok (.agg #[.slice none 0 0]) w := fun w => run_build w 58 _ _ (by kernel_rfl)
    clear hs hbs
    go_enter Try.func28, Try.ntmps28
    go_wp2_with (go_at_call 33; refine (c33n _).mono ?_; rintro e w' ⟨rfl, rfl⟩)
    go_ret
    exact ⟨w.heap.size, rfl, R1.out, Nat.le_refl _, (Below.refl _ _).alloc (Nat.le_refl _) _⟩
  | some ad =>
    have HS := Lib.hid hs
    have HB := Lib.hid hb
    clear hs hb hc
    go_enter Try.func28, Try.ntmps28
    go_wp2_with fail
    refine (c33 ad len cap bs w HS.out (by omega)).mono ?_
    rintro e w1 ⟨A2, c2, rfl, hown, hbel⟩
    have hbuild : ∀ w : World, (Instr.build 58 #[(0, .slice A2 len c2)]).run Try.prog w = .ok (.agg #[.slice A2 len c2]) w := fun w => run_build w 58 _ _ (by kernel_rfl)
    have R1 : Hid (Rdr (w1.alloc (Obj.cells #[.slice A2 len c2] 58)) w1.heap.size bs) := by
      obtain ⟨r1, r2, r3⟩ := row_own hown
      obtain ⟨q1, q2⟩ := own_cap hown
      refine ⟨A2, c2, by rw [r2]; exact heap_alloc_new w1 _, by rw [r2]; exact r3, q1, row_block r1 (fun b _ _ _ hb => Below.heap_alloc w1 _ b hb), HB.out, ?_⟩
      rcases q2 with q2 | ⟨g, e, hg⟩
      · exact .inl q2
      · exact .inr ⟨g, 0, e, hg⟩
    have BL := Lib.hid hbel
    have ZL := Lib.hid hbel.size
    clear hown hbel
    go_wp2
    go_ret
    exact ⟨w1.heap.size, rfl, R1.out, ZL.out, BL.out.alloc ZL.out _⟩
end Go.Proofs.Ytjkhbddnbpnmcaa
