/-
  The Writer's Hash, Bytes, End; a number that is too long for what may be written.
-/
import Derived.Test.YtjkhbddnbpnmcaaW7
namespace Go.Proofs.Ytjkhbddnbpnmcaa
open Go.RowKit
attribute [local go_sem ↓] Go.wp_at_zero Go.wp_at_succ

theorem c26g (base Wb k : Nat) (n : Int) (bs : List Int) (w : World) (h : Wr base Wb w bs) (hk1 : 1 ≤ k) (hk7 : k ≤ 7) (hn0 : 0 ≤ n) (hn1 : n < 2 ^ (8 * k)) (hn : bs.length ≤ 131072) (hl : 131072 < bs.length + k) :
    Calls Try.prog 26 #[.pointer (some ⟨Wb, 0, none⟩), .int .i64 n, .int .i64 k] w fun e w' => e = .returned (.tuple #[]) ∧ Wx base Wb w' 3 ∧ Below base w w' := by
  obtain ⟨hb, x, ht⟩ := wr_three h
  obtain ⟨h0, h1, h2⟩ := three_cell ht
  have hz := (numOk n k hk7).2 ⟨hn0, hn1⟩
  have h8 : (8 * (k : Int)).toNat = 8 * k := by omega
  have hmin : min (8 * k) 64 = 8 * k := by omega
  have HW := Lib.hid h
  clear h hb ht
  go_enter Try.func26, Try.ntmps26
  go_wp2_with fail
  refine (c35 n k _ hk7).mono ?_
  rintro e w1 ⟨rfl, hown, hb1⟩
  have W1 : Hid (Wr base Wb w1 bs) := HW.out.keep hb1.block
  have B1 : Hid (Below base w w1) := hb1.mono (by obtain ⟨hb, x, ht⟩ := wr_three HW.out; exact Nat.le_trans hb (Nat.le_of_lt (lt_of_block ht)))
  clear hown hb1 h0 h1 h2
  go_wp2_with fail
  refine (c34g base Wb bs _ k k w1 W1.out hn hl).mono ?_
  rintro e w2 ⟨rfl, hw2, hb2⟩
  have W2 := Lib.hid hw2
  have B2 := Lib.hid (B1.out.trans hb2)
  clear hw2 hb2
  go_wp2
  go_end0
  exact ⟨rfl, W2.out, B2.out⟩

/-- a hash's value -/
def hval (h : List Int) : Value := .agg (bvals h).toArray
theorem len8 {h : List Int} (hl : h.length = 8) : ∃ a b c d e f g i, h = [a, b, c, d, e, f, g, i] := by
  match h, hl with
  | [a, b, c, d, e, f, g, i], _ => exact ⟨a, b, c, d, e, f, g, i, rfl⟩
theorem src_hash (w : World) (h : List Int) (hl : h.length = 8) : Src (w.alloc (Obj.cells (bvals h).toArray 29)) (some ⟨w.heap.size, 0, none⟩) 8 h := by
  refine ⟨hl, .inr ⟨w.heap.size, 0, rfl, fun i hi => ?_⟩⟩
  rw [cell_of_row _ w.heap.size (0 + i) _ 29 (0, 0) (heap_alloc_new w _), Nat.zero_add]
  simp [bvals, List.getD, show i < h.length by omega]

theorem c24 (base Wb : Nat) (bs h : List Int) (w : World) (hw : Wr base Wb w bs) (hl8 : h.length = 8) (hl : bs.length + 8 ≤ 131072) :
    Calls Try.prog 24 #[.pointer (some ⟨Wb, 0, none⟩), hval h] w fun e w' => e = .returned (.tuple #[]) ∧ Wr base Wb w' (bs ++ h) ∧ Below base w w' := by
  have S := Lib.hid (src_hash w h hl8)
  have W1 : Hid (Wr base Wb (w.alloc (Obj.cells (bvals h).toArray 29)) bs) := hw.keep (fun k hk => Below.heap_alloc w _ k hk)
  have B1 : Hid (Below base w (w.alloc (Obj.cells (bvals h).toArray 29))) := by
    obtain ⟨hb, x, ht⟩ := wr_three hw
    exact (Below.refl base w).alloc (Nat.le_trans hb (Nat.le_of_lt (lt_of_block ht))) _
  have C := Lib.hid (c34 base Wb bs (some ⟨w.heap.size, 0, none⟩) 8 8 h _ W1.out S.out (fun h => by cases h) hl)
  obtain ⟨a, b, c, d, e, f, g, i, rfl⟩ := len8 hl8
  clear hw
  unfold hval
  simp only [bvals, List.map_cons, List.map_nil] at C B1 ⊢
  go_enter Try.func24, Try.ntmps24
  go_wp2_with (go_at_call 34; refine C.out.mono ?_; rintro e w' ⟨rfl, h3, h4⟩; have H3 := Lib.hid h3; have H4 := Lib.hid h4; clear h3 h4)
  go_end0
  exact ⟨rfl, H3.out, B1.out.trans H4.out⟩
theorem c24x (base Wb : Nat) (err : Int) (h : List Int) (w : World) (he : err ≠ 0) (hw : Wx base Wb w err) (hl8 : h.length = 8) :
    Calls Try.prog 24 #[.pointer (some ⟨Wb, 0, none⟩), hval h] w fun e w' => e = .returned (.tuple #[]) ∧ Wx base Wb w' err ∧ Below base w w' := by
  have W1 : Hid (Wx base Wb (w.alloc (Obj.cells (bvals h).toArray 29)) err) := hw.keep (fun k hk => Below.heap_alloc w _ k hk)
  have B1 : Hid (Below base w (w.alloc (Obj.cells (bvals h).toArray 29))) := (Below.refl base w).alloc (Nat.le_trans hw.1 (Nat.le_of_lt (lt_of_block hw.2))) _
  have C := Lib.hid (fun v => c34x base Wb err v _ he W1.out)
  obtain ⟨a, b, c, d, e, f, g, i, rfl⟩ := len8 hl8
  clear hw
  unfold hval
  simp only [bvals, List.map_cons, List.map_nil] at C B1 W1 ⊢
  go_enter Try.func24, Try.ntmps24
  go_wp2_with (go_at_call 34; refine (C.out _).mono ?_; rintro e w' ⟨rfl, rfl⟩)
  go_end0
  exact ⟨rfl, W1.out, B1.out⟩

/-- a list as it is written: its length, it -/
def listB (ys : List Int) : List Int := digs ys.length 4 ++ ys
theorem c25 (base Wb : Nat) (bs ys : List Int) (A : Option Addr) (m c : Nat) (w0 w : World) (hbase : w0.heap.size = base) (hB : Below base w0 w) (hw : Wr base Wb w bs) (hs : Src w0 A m ys) (hc : A = none → c = 0) (hl : bs.length + (4 + m) ≤ 131072) :
    Calls Try.prog 25 #[.pointer (some ⟨Wb, 0, none⟩), .slice A m c] w fun e w' => e = .returned (.tuple #[]) ∧ Wr base Wb w' (bs ++ listB ys) ∧ Below base w w' := by
  have HW := Lib.hid hw
  have HS := Lib.hid hs
  have HC := Lib.hid hc
  have HB := Lib.hid hB
  have HZ := Lib.hid hbase
  have hm : m ≤ 9223372036854775807 := by omega
  clear hw hs hc hB hbase
  go_enter Try.func25, Try.ntmps25
  go_wp2_with fail
  refine (c35 m 4 _ (by decide)).mono ?_
  rintro e w1 ⟨rfl, hown, hb1⟩
  have S1 : Hid (Src w1 (some ⟨w.heap.size, 0, none⟩) 4 (digs m 4)) := by
    obtain ⟨A, c, e, h1, h2, _⟩ := own_row hown
    simp only [Value.slice.injEq] at e
    obtain ⟨rfl, _, rfl⟩ := e
    exact src_row h2 h1
  have W1 : Hid (Wr base Wb w1 bs) := HW.out.keep hb1.block
  have B1 : Hid (Below base w w1) := hb1.mono (by obtain ⟨hb, x, ht⟩ := wr_three HW.out; exact Nat.le_trans hb (Nat.le_of_lt (lt_of_block ht)))
  clear hown hb1
  go_wp2_with fail
  refine (c34 base Wb bs _ 4 4 (digs m 4) w1 W1.out S1.out (fun h => by cases h) (by omega)).mono ?_
  rintro e w2 ⟨rfl, hw2, hb2⟩
  have W2 := Lib.hid hw2
  have B2 := Lib.hid (B1.out.trans hb2)
  have S2 : Hid (Src w2 A m ys) := HS.out.keep (by rw [HZ.out]; exact (HB.out.trans B2.out).block)
  have L2 : Hid ((bs ++ digs m 4).length + m ≤ 131072) := by show (bs ++ digs m 4).length + m ≤ 131072; rw [List.length_append, digs_len]; omega
  clear hw2 hb2
  go_wp2_with fail
  refine (c34 base Wb _ A m c ys w2 W2.out S2.out HC.out L2.out).mono ?_
  rintro e w3 ⟨rfl, hw3, hb3⟩
  have W3 := Lib.hid hw3
  have B3 := Lib.hid (B2.out.trans hb3)
  clear hw3 hb3
  go_wp2
  go_end0
  refine ⟨rfl, ?_, B3.out⟩
  have h := W3.out
  unfold listB
  rw [HS.out.1, ← List.append_assoc]
  exact h
theorem c25x (base Wb : Nat) (err : Int) (A : Option Addr) (m c : Nat) (w : World) (he : err ≠ 0) (hw : Wx base Wb w err) :
    Calls Try.prog 25 #[.pointer (some ⟨Wb, 0, none⟩), .slice A m c] w fun e w' => e = .returned (.tuple #[]) ∧ Wx base Wb w' err ∧ Below base w w' := by
  have HW := Lib.hid hw
  have HE := Lib.hid he
  clear hw he
  go_enter Try.func25, Try.ntmps25
  go_wp2_with fail
  refine (c35 m 4 _ (by decide)).mono ?_
  rintro e w1 ⟨rfl, hown, hb1⟩
  have W1 : Hid (Wx base Wb w1 err) := HW.out.keep hb1.block
  have B1 : Hid (Below base w w1) := hb1.mono (Nat.le_trans HW.out.1 (Nat.le_of_lt (lt_of_block HW.out.2)))
  clear hown hb1
  have C := Lib.hid (fun v => c34x base Wb err v _ HE.out W1.out)
  go_wp2_with (go_at_call 34; refine (C.out _).mono ?_; rintro e w' ⟨rfl, rfl⟩)
  go_end0
  exact ⟨rfl, W1.out, B1.out⟩

/-- End: a copy of all that was written, or the error -/
theorem c27x (base Wb : Nat) (err : Int) (w : World) (hw : Wx base Wb w err) :
    Calls Try.prog 27 #[.pointer (some ⟨Wb, 0, none⟩)] w fun e w' => e = .returned (.tuple #[.slice none 0 0, .int .i64 err]) ∧ Below base w w' := by
  obtain ⟨h0, h1, h2⟩ := three_cell hw.2
  have C := Lib.hid (fun n => c37n Wb _ _ (w.drewN n) hw.2)
  clear hw
  go_enter Try.func27, Try.ntmps27
  go_wp2_with fail
  go_region_with (first | (go_at_call 37; refine (C.out 1).mono ?_; rintro e w' ⟨rfl, rfl⟩) | (go_at_call 33; refine (c33n _).mono ?_; rintro e w' ⟨rfl, rfl⟩))
  all_goals
    go_wp2
    go_ret2
    exact ⟨rfl, ⟨rfl, rfl, rfl, Nat.le_refl _, fun _ _ => rfl⟩⟩
theorem src_own {w : World} {base n c : Nat} {A : Option Addr} {xs : List Int} (h : w.ownsRow base 5 1 (.slice A n c) n (bvals xs)) : Src w A n xs ∧ (A = none → c = 0) := by
  obtain ⟨A', c', e, h1, h2, h3⟩ := own_row h
  simp only [Value.slice.injEq] at e
  obtain ⟨rfl, _, rfl⟩ := e
  refine ⟨src_row h2 h1, fun e => ?_⟩
  rcases h.2 with ⟨e2, _⟩ | ⟨g, cap, cur, e2, _⟩
  · simp only [Value.slice.injEq] at e2; exact e2.2.2
  · simp only [Value.slice.injEq] at e2; rw [e] at e2; cases e2.1
theorem c27 (base Wb : Nat) (bs : List Int) (w : World) (hw : Wr base Wb w bs) (hl : bs.length ≤ 131072) :
    Calls Try.prog 27 #[.pointer (some ⟨Wb, 0, none⟩)] w fun e w' => (∃ A c, e = .returned (.tuple #[.slice A bs.length c, .int .i64 0]) ∧ Row w' A bs ∧ bs.length ≤ c ∧ (A = none → c = 0)) ∧ Below base w w' := by
  rcases hw with ⟨rfl, hb, ht⟩ | ⟨Pb, A, c, ho⟩
  · exact (c27x base Wb 0 w ⟨hb, ht⟩).mono fun _ _ h => ⟨⟨none, 0, h.1, .inl rfl, Nat.le_refl _, fun _ => rfl⟩, h.2⟩
  obtain ⟨h0, h1, h2⟩ := three_cell ho.three
  have C := Lib.hid (fun n => c37 base Wb Pb A c bs (w.drewN n) (ho.drewN n))
  have S := Lib.hid (fun n => (src_own (ho.drewN n).own))
  have HB : Hid (base ≤ w.heap.size) := Nat.le_trans ho.bw (Nat.le_of_lt (lt_of_block ho.three))
  have HL := Lib.hid (lt_of_block ho.three)
  have HO := Lib.hid ho
  clear ho
  cases A with
  | none =>
    obtain rfl : c = 0 := (S.out 0).2 rfl
    have hz : bs.length = 0 := by
      have := HO.out.own.2
      rcases this with ⟨_, h⟩ | ⟨g, cap, cur, e, _⟩
      · exact h
      · cases e
    rw [hz] at C ⊢
    have hbs := List.eq_nil_of_length_eq_zero hz
    clear hz
    go_enter Try.func27, Try.ntmps27
    go_wp2_with fail
    go_region_with (first | (go_at_call 37; refine (C.out 1).mono ?_; rintro e w' ⟨rfl, n, rfl⟩) | (go_at_call 33; refine (c33n _).mono ?_; rintro e w' ⟨rfl, rfl⟩))
    all_goals
      go_wp2
      go_ret2
      exact ⟨⟨none, 0, rfl, .inl hbs, Nat.le_refl _, fun _ => rfl⟩, ⟨rfl, rfl, rfl, Nat.le_refl _, fun _ _ => rfl⟩⟩
  | some ad =>
    go_enter Try.func27, Try.ntmps27
    go_wp2_with fail
    go_region_held3 (fun w' => w'.cell? ⟨Wb, 2, none⟩ = some (.int .i64 0)) (go_keep) (first | (go_at_call 37; refine (C.out 1).mono ?_; rintro e w' ⟨rfl, n, rfl⟩) | (go_at_call 33; refine (c33 ad bs.length c bs _ (S.out _).1 (by omega)).mono ?_; rintro e w' ⟨A', c', rfl, hown, hbel⟩; have k2 : w'.cell? ⟨Wb, 2, none⟩ = some (.int .i64 0) := (hbel.cell (p := ⟨Wb, 2, none⟩) HL.out).trans h2; have OW := Lib.hid hown; have BL := Lib.hid hbel; clear hown hbel))
    all_goals
      go_wp2
      go_ret2
      obtain ⟨r1, r2⟩ := own_row OW.out |> fun ⟨A1, c1, e, h1, h2, h3⟩ => (by simp only [Value.slice.injEq] at e; obtain ⟨rfl, _, rfl⟩ := e; exact ⟨h1, h3⟩ : Row w' A' bs ∧ bs.length ≤ c')
      exact ⟨⟨A', c', rfl, r1, r2, (src_own OW.out).2⟩, ⟨BL.out.os, BL.out.tape, BL.out.output, BL.out.size, fun k hk => BL.out.block k (Nat.lt_of_lt_of_le hk HB.out)⟩⟩
end Go.Proofs.Ytjkhbddnbpnmcaa
