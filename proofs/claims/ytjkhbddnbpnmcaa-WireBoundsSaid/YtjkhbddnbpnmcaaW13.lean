/-
  The Reader in memory; look, take, Left, Num.
-/
import Derived.Test.YtjkhbddnbpnmcaaW12
namespace Go.Proofs.Ytjkhbddnbpnmcaa
open Go.RowKit
attribute [local go_sem ↓] Go.wp_at_zero Go.wp_at_succ

/-- a Reader with these bytes left -/
structure Rd (w : World) (Rb : Nat) (A : Option Addr) (c : Nat) (bs : List Int) : Prop where
  one : w.heap[Rb]? = some (.cells #[.slice A bs.length c] 58 (0, 0))
  le : bs.length ≤ c
  cm : c ≤ 9223372036854775807
  row : Row w A bs
  byt : Byt bs
  at' : (A = none ∧ c = 0) ∨ ∃ b off, A = some ⟨b, off, none⟩ ∧ b < Rb
def Rdr (w : World) (Rb : Nat) (bs : List Int) : Prop := ∃ A c, Rd w Rb A c bs
def endText : ByteArray := { data := #[119, 105, 114, 101, 58, 32, 116, 104, 101, 32, 98, 121, 116, 101, 115, 32, 101, 110, 100, 44, 32, 111, 114, 32, 115, 117, 99, 104, 32, 97, 32, 119, 105, 100, 116, 104, 32, 109, 97, 121, 32, 110, 111, 116, 32, 98, 101] }
def Short (e : Ending) : Prop := e = .panicked [{ v := .iface 62 (.string endText), recovered := false }]

theorem c32n (Rb n : Nat) (bs : List Int) (w : World) (h : Rdr w Rb bs) (hl : bs.length < n) :
    Calls Try.prog 32 #[.pointer (some ⟨Rb, 0, none⟩), .int .i64 n] w fun e w' => Short e ∧ w = w' := by
  obtain ⟨A, c, h⟩ := h
  have h0 := cell_of_one h.one
  have hlt : (bs.length : Int) < (n : Int) := by omega
  clear h
  go_enter Try.func32, Try.ntmps32
  go_wp2
  exact ⟨rfl, rfl, rfl⟩
theorem c32y (Rb n : Nat) (A : Option Addr) (c : Nat) (bs : List Int) (w : World) (h : Rd w Rb A c bs) (hl : n ≤ bs.length) :
    Calls Try.prog 32 #[.pointer (some ⟨Rb, 0, none⟩), .int .i64 n] w fun e w' => e = .returned (.slice A n c) ∧ w = w' := by
  have h0 := cell_of_one h.one
  have h1 := h.le
  have h2 := h.cm
  have hlt : ¬ (bs.length : Int) < (n : Int) := by omega
  have hb1 : (0 : Int) ≤ (n : Int) := by omega
  have hb2 : (n : Int) ≤ (c : Int) := by omega
  clear h
  go_enter Try.func32, Try.ntmps32
  go_wp2
  go_ret
  exact ⟨rfl, rfl⟩
theorem c14 (Rb : Nat) (bs : List Int) (w : World) (h : Rdr w Rb bs) :
    Calls Try.prog 14 #[.pointer (some ⟨Rb, 0, none⟩)] w fun e w' => e = .returned (.int .i64 bs.length) ∧ w = w' := by
  obtain ⟨A, c, h⟩ := h
  have h0 := cell_of_one h.one
  clear h
  go_enter Try.func14, Try.ntmps14
  go_wp2
  go_ret
  exact ⟨rfl, rfl⟩

theorem grown_set {w : World} {Rb : Nat} (u : Value) : w.grownBy (w.setCell ⟨Rb, 0, none⟩ u) (some Rb) :=
  ⟨rfl, rfl, rfl, by simp [World.setCell], fun k _ hk => heap_setCell_other w ⟨Rb, 0, none⟩ k u (fun e => hk (by simp [e]))⟩
theorem rd_next {w : World} {Rb b off c : Nat} {bs : List Int} {n : Nat} (h : Rd w Rb (some ⟨b, off, none⟩) c bs) (hn : n ≤ bs.length) (A' : Option Addr) (hA : A' = if c = n then some ⟨b, off, none⟩ else some ⟨b, off + n, none⟩) :
    Rdr (w.setCell ⟨Rb, 0, none⟩ (.slice A' (bs.length - n) (c - n))) Rb (bs.drop n) := by
  have hlt : b < Rb := by
    rcases h.at' with ⟨e, _⟩ | ⟨b', off', e, hb⟩
    · cases e
    · cases e; exact hb
  have hne : b ≠ Rb := by omega
  have hk : ∀ (b' off' : Nat), A' = some ⟨b', off', none⟩ → b' = b := by
    intro b' off' e
    rw [hA] at e
    split at e <;> · cases e; rfl
  have hl : (bs.drop n).length = bs.length - n := List.length_drop
  refine ⟨A', c - n, ?_, by rw [hl]; have := h.le; omega, by have := h.cm; omega, ?_, byt_drop h.byt n, .inr ?_⟩
  · rw [hl]; exact one_setCell h.one
  · have hr : Row w A' (bs.drop n) := by
      rw [hA]
      split
      · refine .inl (List.eq_nil_of_length_eq_zero (by have := h.le; omega))
      · exact row_drop n h.row
    exact row_block hr fun b' off' e _ _ => heap_setCell_other w ⟨Rb, 0, none⟩ b' _ (by rw [hk b' off' e]; exact hne)
  · rw [hA]
    split
    · exact ⟨b, off, rfl, hlt⟩
    · exact ⟨b, off + n, rfl, hlt⟩

theorem c30n (Rb n : Nat) (bs : List Int) (w : World) (h : Rdr w Rb bs) (hl : bs.length < n) :
    Calls Try.prog 30 #[.pointer (some ⟨Rb, 0, none⟩), .int .i64 n] w fun e w' => Short e ∧ w = w' := by
  have C := Lib.hid (c32n Rb n bs w h hl)
  clear h
  go_enter Try.func30, Try.ntmps30
  go_wp2_with (go_at_call 32; refine C.out.mono ?_; rintro e w' ⟨rfl, rfl⟩)
  exact ⟨rfl, rfl, rfl⟩
theorem c30y (Rb n b off c : Nat) (bs : List Int) (w : World) (h : Rd w Rb (some ⟨b, off, none⟩) c bs) (hl : n ≤ bs.length) :
    Calls Try.prog 30 #[.pointer (some ⟨Rb, 0, none⟩), .int .i64 n] w fun e w' => e = .returned (.slice (some ⟨b, off, none⟩) n c) ∧ Rdr w' Rb (bs.drop n) ∧ Row w' (some ⟨b, off, none⟩) (bs.take n) ∧ w.grownBy w' (some Rb) := by
  have C := Lib.hid (c32y Rb n _ c bs w h hl)
  have h0 := cell_of_one h.one
  have f0 := free_of_one h.one
  have h1 := h.le
  have h2 := h.cm
  have H := Lib.hid h
  have hb1 : (0 : Int) ≤ (n : Int) := by omega
  have hb2 : (n : Int) ≤ (bs.length : Int) := by omega
  have hb3 : (bs.length : Int) ≤ (c : Int) := by omega
  have hb4 : n ≤ c := by omega
  have RT : Hid (∀ u, Row (w.setCell ⟨Rb, 0, none⟩ u) (some ⟨b, off, none⟩) (bs.take n)) := fun u => row_block (row_take n h.row) fun b' off' e _ _ => heap_setCell_other w ⟨Rb, 0, none⟩ b' u (by
    rcases h.at' with ⟨e2, _⟩ | ⟨b2, off2, e2, hb⟩
    · cases e2
    · cases e2; cases e; exact Nat.ne_of_lt hb)
  clear h
  by_cases hcn : c = n
  · have RN := Lib.hid (rd_next H.out hl (some ⟨b, off, none⟩) (by rw [if_pos hcn]))
    rw [show c - n = 0 by omega, show bs.length - n = 0 by omega] at RN
    subst hcn
    go_enter Try.func30, Try.ntmps30
    go_wp2_with (go_at_call 32; refine C.out.mono ?_; rintro e w' ⟨rfl, rfl⟩)
    go_ret
    exact ⟨rfl, RN.out, RT.out _, grown_set _⟩
  · have RN := Lib.hid (rd_next H.out hl (some ⟨b, off + n, none⟩) (by rw [if_neg hcn]))
    go_enter Try.func30, Try.ntmps30
    go_wp2_with (go_at_call 32; refine C.out.mono ?_; rintro e w' ⟨rfl, rfl⟩)
    go_ret
    exact ⟨rfl, RN.out, RT.out _, grown_set _⟩

theorem rd_some {w : World} {Rb : Nat} {bs : List Int} {n : Nat} (h : Rdr w Rb bs) (h1 : 1 ≤ n) (hn : n ≤ bs.length) : ∃ b off c, Rd w Rb (some ⟨b, off, none⟩) c bs := by
  obtain ⟨A, c, h⟩ := h
  rcases h.at' with ⟨rfl, rfl⟩ | ⟨b, off, rfl, _⟩
  · have := h.le; omega
  · exact ⟨b, off, c, h⟩
theorem Rdr.keepR {w W : World} {Rb : Nat} {bs : List Int} (h : Rdr w Rb bs) (hk : ∀ k, k ≤ Rb → W.heap[k]? = w.heap[k]?) : Rdr W Rb bs := by
  obtain ⟨A, c, h⟩ := h
  refine ⟨A, c, (hk Rb (Nat.le_refl _)).trans h.one, h.le, h.cm, row_block h.row (fun b off e _ _ => hk b ?_), h.byt, h.at'⟩
  rcases h.at' with ⟨e2, _⟩ | ⟨b2, off2, e2, hb⟩
  · rw [e2] at e; cases e
  · rw [e2] at e; cases e; exact Nat.le_of_lt hb
theorem Rdr.keep {w W : World} {Rb : Nat} {bs : List Int} (h : Rdr w Rb bs) (hk : ∀ k, k < w.heap.size → W.heap[k]? = w.heap[k]?) : Rdr W Rb bs := by
  have hlt : Rb < w.heap.size := by obtain ⟨A, c, h⟩ := h; exact lt_of_block h.one
  exact h.keepR fun k hk' => hk k (by omega)
theorem Rdr.lt {w : World} {Rb : Nat} {bs : List Int} (h : Rdr w Rb bs) : Rb < w.heap.size := by
  obtain ⟨A, c, h⟩ := h
  exact lt_of_block h.one
theorem Rdr.byt {w : World} {Rb : Nat} {bs : List Int} (h : Rdr w Rb bs) : Byt bs := by
  obtain ⟨A, c, h⟩ := h
  exact h.byt
theorem c17y (Rb k : Nat) (bs : List Int) (w : World) (h : Rdr w Rb bs) (k1 : 1 ≤ k) (k7 : k ≤ 7) (hl : k ≤ bs.length) :
    Calls Try.prog 17 #[.pointer (some ⟨Rb, 0, none⟩), .int .i64 k] w fun e w' => e = .returned (.int .i64 (numL (bs.take k))) ∧ Rdr w' Rb (bs.drop k) ∧ w.grownBy w' (some Rb) := by
  obtain ⟨b, off, c, h⟩ := rd_some h k1 hl
  have C := Lib.hid (c30y Rb k b off c bs w h hl)
  have BY := Lib.hid (byt_take h.byt k)
  have LT : Hid ((bs.take k).length = k) := by show (bs.take k).length = k; rw [List.length_take]; omega
  have hb1 : ¬ (k : Int) < 1 := by omega
  have hb2 : ¬ (7 : Int) < (k : Int) := by omega
  clear h
  go_enter Try.func17, Try.ntmps17
  go_wp2_with (first | (go_at_call 30; refine C.out.mono ?_; rintro e w' ⟨rfl, h1, h2, h3⟩; have H1 := Lib.hid h1; have H2 := Lib.hid h2; have H3 := Lib.hid h3; clear h1 h2 h3) | (go_at_call 31; refine (c31 _ k c (bs.take k) _ LT.out (by omega) BY.out H2.out).mono ?_; rintro e w' ⟨rfl, rfl⟩))
  go_ret
  exact ⟨rfl, H1.out, H3.out⟩
theorem c17n (Rb : Nat) (k : Int) (bs : List Int) (w : World) (h : Rdr w Rb bs) (hl : k < 1 ∨ 7 < k ∨ (bs.length : Int) < k) :
    Calls Try.prog 17 #[.pointer (some ⟨Rb, 0, none⟩), .int .i64 k] w fun e w' => Short e ∧ w = w' := by
  by_cases k1 : k < 1
  · clear hl h
    go_enter Try.func17, Try.ntmps17
    go_wp2
    exact ⟨rfl, rfl, rfl⟩
  · by_cases k7 : 7 < k
    · clear hl h
      go_enter Try.func17, Try.ntmps17
      go_wp2
      exact ⟨rfl, rfl, rfl⟩
    · obtain ⟨K, rfl⟩ := Int.eq_ofNat_of_zero_le (show 0 ≤ k by omega)
      have C := Lib.hid (c30n Rb K bs w h (by omega))
      clear hl h
      go_enter Try.func17, Try.ntmps17
      go_wp2_with (go_at_call 30; refine C.out.mono ?_; rintro e w' ⟨rfl, rfl⟩)
      exact ⟨rfl, rfl, rfl⟩
end Go.Proofs.Ytjkhbddnbpnmcaa
