/-
  The Reader in memory; look, take, Left, Num.
-/
import Derived.Test.YtffaddefnpkcgaaGreatDoorZI
namespace Go.Proofs.YtffaddefnpkcgaaGreatDoor
open Go.RowKit
set_option maxRecDepth 100000
attribute [local go_sem ↓] Go.wp_at_zero Go.wp_at_succ
theorem row_own {w : World} {base n c : Nat} {A : Option Addr} {xs : List Int} (h : w.ownsRow base 5 1 (.slice A n c) n (bvals xs)) : Row w A xs ∧ xs.length = n ∧ n ≤ c := by
  obtain ⟨A', c', e, h1, h2, h3⟩ := own_row h
  simp only [Value.slice.injEq] at e
  obtain ⟨rfl, _, rfl⟩ := e
  exact ⟨h1, h2, h3⟩
structure Rd (B : Nat) (w : World) (Rb : Nat) (A : Option Addr) (c : Nat) (bs : List Int) : Prop where
  one : w.heap[Rb]? = some (.cells #[.slice A bs.length c] 189 (0, 0))
  le : bs.length ≤ c
  cm : c ≤ 9223372036854775807
  row : Row w A bs
  byt : Byt bs
  at' : (A = none ∧ c = 0) ∨ ∃ b off, A = some ⟨b, off, none⟩ ∧ B ≤ b ∧ b < Rb
def Rdr (B : Nat) (w : World) (Rb : Nat) (bs : List Int) : Prop := ∃ A c, Rd B w Rb A c bs
variable {B : Nat}
def endText : ByteArray := { data := #[119, 105, 114, 101, 58, 32, 116, 104, 101, 32, 98, 121, 116, 101, 115, 32, 101, 110, 100, 44, 32, 111, 114, 32, 115, 117, 99, 104, 32, 97, 32, 119, 105, 100, 116, 104, 32, 109, 97, 121, 32, 110, 111, 116, 32, 98, 101] }
def Short (e : Ending) : Prop := e = .panicked [{ v := .iface 190 (.string endText), recovered := false }]
theorem wc32n (Rb n : Nat) (bs : List Int) (w : World) (h : Rdr B w Rb bs) (hl : bs.length < n) :
    Calls Tryz.prog 165 #[.pointer (some ⟨Rb, 0, none⟩), .int .i64 n] w fun e w' => Short e ∧ w = w' := by
  obtain ⟨A, c, h⟩ := h
  have h0 := cell_of_one h.one
  have hlt : (bs.length : Int) < (n : Int) := by omega
  clear h
  go_enter Tryz.func165, Tryz.ntmps165
  go_wp2
  exact ⟨rfl, rfl, rfl⟩
theorem wc32y (Rb n : Nat) (A : Option Addr) (c : Nat) (bs : List Int) (w : World) (h : Rd B w Rb A c bs) (hl : n ≤ bs.length) :
    Calls Tryz.prog 165 #[.pointer (some ⟨Rb, 0, none⟩), .int .i64 n] w fun e w' => e = .returned (.slice A n c) ∧ w = w' := by
  have h0 := cell_of_one h.one
  have h1 := h.le
  have h2 := h.cm
  have hlt : ¬ (bs.length : Int) < (n : Int) := by omega
  have hb1 : (0 : Int) ≤ (n : Int) := by omega
  have hb2 : (n : Int) ≤ (c : Int) := by omega
  clear h
  go_enter Tryz.func165, Tryz.ntmps165
  go_wp2
  go_ret
  exact ⟨rfl, rfl⟩
theorem wc14 (Rb : Nat) (bs : List Int) (w : World) (h : Rdr B w Rb bs) :
    Calls Tryz.prog 82 #[.pointer (some ⟨Rb, 0, none⟩)] w fun e w' => e = .returned (.int .i64 bs.length) ∧ w = w' := by
  obtain ⟨A, c, h⟩ := h
  have h0 := cell_of_one h.one
  clear h
  go_enter Tryz.func82, Tryz.ntmps82
  go_wp2
  go_ret
  exact ⟨rfl, rfl⟩
theorem grown_set {w : World} {Rb : Nat} (u : Value) : w.grownBy (w.setCell ⟨Rb, 0, none⟩ u) (some Rb) :=
  ⟨rfl, rfl, rfl, by simp [World.setCell], fun k _ hk => heap_setCell_other w ⟨Rb, 0, none⟩ k u (fun e => hk (by simp [e]))⟩
theorem rd_next {w : World} {Rb b off c : Nat} {bs : List Int} {n : Nat} (h : Rd B w Rb (some ⟨b, off, none⟩) c bs) (hn : n ≤ bs.length) (A' : Option Addr) (hA : A' = if c = n then some ⟨b, off, none⟩ else some ⟨b, off + n, none⟩) :
    Rdr B (w.setCell ⟨Rb, 0, none⟩ (.slice A' (bs.length - n) (c - n))) Rb (bs.drop n) := by
  have hlt : B ≤ b ∧ b < Rb := by
    rcases h.at' with ⟨e, _⟩ | ⟨b', off', e, hb⟩
    · cases e
    · cases e; exact hb
  have hne : b ≠ Rb := by omega
  have hk : ∀ (b' off' : Nat), A' = some ⟨b', off', none⟩ → b' = b := by
    intro b' off' e
    rw [hA] at e
    split at e <;> · cases e; rfl
  have hl : (bs.drop n).length = bs.length - n := List.length_drop
  refine ⟨A', c - n, ?_, by rw [hl]; have := h.le; omega, by have := h.cm; omega, ?_, byt_drop h.byt n, .inr ?_⟩
  · rw [hl]; exact one_setCell h.one
  · have hr : Row w A' (bs.drop n) := by
      rw [hA]
      split
      · refine .inl (List.eq_nil_of_length_eq_zero (by have := h.le; omega))
      · exact row_drop n h.row
    exact row_block hr fun b' off' e _ _ => heap_setCell_other w ⟨Rb, 0, none⟩ b' _ (by rw [hk b' off' e]; exact hne)
  · rw [hA]
    split
    · exact ⟨b, off, rfl, hlt⟩
    · exact ⟨b, off + n, rfl, hlt⟩
theorem wc30n (Rb n : Nat) (bs : List Int) (w : World) (h : Rdr B w Rb bs) (hl : bs.length < n) :
    Calls Tryz.prog 163 #[.pointer (some ⟨Rb, 0, none⟩), .int .i64 n] w fun e w' => Short e ∧ w = w' := by
  have C := Lib.hid (wc32n Rb n bs w h hl)
  clear h
  go_enter Tryz.func163, Tryz.ntmps163
  go_wp2_with (go_at_call 165; refine C.out.mono ?_; rintro e w' ⟨rfl, rfl⟩)
  exact ⟨rfl, rfl, rfl⟩
theorem wc30y (Rb n b off c : Nat) (bs : List Int) (w : World) (h : Rd B w Rb (some ⟨b, off, none⟩) c bs) (hl : n ≤ bs.length) :
    Calls Tryz.prog 163 #[.pointer (some ⟨Rb, 0, none⟩), .int .i64 n] w fun e w' => e = .returned (.slice (some ⟨b, off, none⟩) n c) ∧ Rdr B w' Rb (bs.drop n) ∧ Row w' (some ⟨b, off, none⟩) (bs.take n) ∧ w.grownBy w' (some Rb) := by
  have C := Lib.hid (wc32y Rb n _ c bs w h hl)
  have h0 := cell_of_one h.one
  have f0 := free_of_one h.one
  have h1 := h.le
  have h2 := h.cm
  have H := Lib.hid h
  have hb1 : (0 : Int) ≤ (n : Int) := by omega
  have hb2 : (n : Int) ≤ (bs.length : Int) := by omega
  have hb3 : (bs.length : Int) ≤ (c : Int) := by omega
  have hb4 : n ≤ c := by omega
  have RT : Hid (∀ u, Row (w.setCell ⟨Rb, 0, none⟩ u) (some ⟨b, off, none⟩) (bs.take n)) := fun u => row_block (row_take n h.row) fun b' off' e _ _ => heap_setCell_other w ⟨Rb, 0, none⟩ b' u (by
    rcases h.at' with ⟨e2, _⟩ | ⟨b2, off2, e2, hb⟩
    · cases e2
    · cases e2; cases e; exact Nat.ne_of_lt hb.2)
  clear h
  by_cases hcn : c = n
  · have RN := Lib.hid (rd_next H.out hl (some ⟨b, off, none⟩) (by rw [if_pos hcn]))
    rw [show c - n = 0 by omega, show bs.length - n = 0 by omega] at RN
    subst hcn
    go_enter Tryz.func163, Tryz.ntmps163
    go_wp2_with (go_at_call 165; refine C.out.mono ?_; rintro e w' ⟨rfl, rfl⟩)
    go_ret
    exact ⟨rfl, RN.out, RT.out _, grown_set _⟩
  · have RN := Lib.hid (rd_next H.out hl (some ⟨b, off + n, none⟩) (by rw [if_neg hcn]))
    go_enter Tryz.func163, Tryz.ntmps163
    go_wp2_with (go_at_call 165; refine C.out.mono ?_; rintro e w' ⟨rfl, rfl⟩)
    go_ret
    exact ⟨rfl, RN.out, RT.out _, grown_set _⟩
theorem rd_some {w : World} {Rb : Nat} {bs : List Int} {n : Nat} (h : Rdr B w Rb bs) (h1 : 1 ≤ n) (hn : n ≤ bs.length) : ∃ b off c, Rd B w Rb (some ⟨b, off, none⟩) c bs := by
  obtain ⟨A, c, h⟩ := h
  rcases h.at' with ⟨rfl, rfl⟩ | ⟨b, off, rfl, _⟩
  · have := h.le; omega
  · exact ⟨b, off, c, h⟩
theorem Rdr.keepR {w W : World} {Rb : Nat} {bs : List Int} (h : Rdr B w Rb bs) (hk : ∀ k, k ≤ Rb → W.heap[k]? = w.heap[k]?) : Rdr B W Rb bs := by
  obtain ⟨A, c, h⟩ := h
  refine ⟨A, c, (hk Rb (Nat.le_refl _)).trans h.one, h.le, h.cm, row_block h.row (fun b off e _ _ => hk b ?_), h.byt, h.at'⟩
  rcases h.at' with ⟨e2, _⟩ | ⟨b2, off2, e2, hb⟩
  · rw [e2] at e; cases e
  · rw [e2] at e; cases e; exact Nat.le_of_lt hb.2
theorem Rdr.keep {w W : World} {Rb : Nat} {bs : List Int} (h : Rdr B w Rb bs) (hk : ∀ k, k < w.heap.size → W.heap[k]? = w.heap[k]?) : Rdr B W Rb bs := by
  have hlt : Rb < w.heap.size := by obtain ⟨A, c, h⟩ := h; exact lt_of_block h.one
  exact h.keepR fun k hk' => hk k (by omega)
theorem Rdr.lt {w : World} {Rb : Nat} {bs : List Int} (h : Rdr B w Rb bs) : Rb < w.heap.size := by
  obtain ⟨A, c, h⟩ := h
  exact lt_of_block h.one
theorem Rdr.byt {w : World} {Rb : Nat} {bs : List Int} (h : Rdr B w Rb bs) : Byt bs := by
  obtain ⟨A, c, h⟩ := h
  exact h.byt
theorem wc17y (Rb k : Nat) (bs : List Int) (w : World) (h : Rdr B w Rb bs) (k1 : 1 ≤ k) (k7 : k ≤ 7) (hl : k ≤ bs.length) :
    Calls Tryz.prog 162 #[.pointer (some ⟨Rb, 0, none⟩), .int .i64 k] w fun e w' => e = .returned (.int .i64 (numL (bs.take k))) ∧ Rdr B w' Rb (bs.drop k) ∧ w.grownBy w' (some Rb) := by
  obtain ⟨b, off, c, h⟩ := rd_some h k1 hl
  have C := Lib.hid (wc30y Rb k b off c bs w h hl)
  have BY := Lib.hid (byt_take h.byt k)
  have LT : Hid ((bs.take k).length = k) := by show (bs.take k).length = k; rw [List.length_take]; omega
  have hb1 : ¬ (k : Int) < 1 := by omega
  have hb2 : ¬ (7 : Int) < (k : Int) := by omega
  clear h
  go_enter Tryz.func162, Tryz.ntmps162
  go_wp2_with (first | (go_at_call 163; refine C.out.mono ?_; rintro e w' ⟨rfl, h1, h2, h3⟩; have H1 := Lib.hid h1; have H2 := Lib.hid h2; have H3 := Lib.hid h3; clear h1 h2 h3) | (go_at_call 164; refine (wc31 _ k c (bs.take k) _ LT.out (by omega) BY.out H2.out).mono ?_; rintro e w' ⟨rfl, rfl⟩))
  go_ret
  exact ⟨rfl, H1.out, H3.out⟩
theorem wc17n (Rb : Nat) (k : Int) (bs : List Int) (w : World) (h : Rdr B w Rb bs) (hl : k < 1 ∨ 7 < k ∨ (bs.length : Int) < k) :
    Calls Tryz.prog 162 #[.pointer (some ⟨Rb, 0, none⟩), .int .i64 k] w fun e w' => Short e ∧ w = w' := by
  by_cases k1 : k < 1
  · clear hl h
    go_enter Tryz.func162, Tryz.ntmps162
    go_wp2
    exact ⟨rfl, rfl, rfl⟩
  · by_cases k7 : 7 < k
    · clear hl h
      go_enter Tryz.func162, Tryz.ntmps162
      go_wp2
      exact ⟨rfl, rfl, rfl⟩
    · obtain ⟨K, rfl⟩ := Int.eq_ofNat_of_zero_le (show 0 ≤ k by omega)
      have C := Lib.hid (wc30n Rb K bs w h (by omega))
      clear hl h
      go_enter Tryz.func162, Tryz.ntmps162
      go_wp2_with (go_at_call 163; refine C.out.mono ?_; rintro e w' ⟨rfl, rfl⟩)
      exact ⟨rfl, rfl, rfl⟩
end Go.Proofs.YtffaddefnpkcgaaGreatDoor
namespace Go.Proofs.YtffaddefnpkcgaaGreatDoor
open Go.RowKit
variable {B : Nat}
set_option maxRecDepth 100000
attribute [local go_sem ↓] Go.wp_at_zero Go.wp_at_succ
theorem eight_set {w : World} {R : Nat} {a0 a1 a2 a3 a4 a5 a6 a7 z0 z1 z2 z3 z4 z5 z6 z7 : Value} (h : w.heap[R]? = some (.cells #[z0, z1, z2, z3, z4, z5, z6, z7] 29 (0, 0))) :
    ((((((((w.setCell ⟨R, 0, none⟩ a0).setCell ⟨R, 1, none⟩ a1).setCell ⟨R, 2, none⟩ a2).setCell ⟨R, 3, none⟩ a3).setCell ⟨R, 4, none⟩ a4).setCell ⟨R, 5, none⟩ a5).setCell ⟨R, 6, none⟩ a6).setCell ⟨R, 7, none⟩ a7).heap[R]? = some (.cells #[a0, a1, a2, a3, a4, a5, a6, a7] 29 (0, 0)) := by
  have h0 := heap_setCell_same w R 0 _ 29 a0 h
  have h1 := heap_setCell_same _ R 1 _ 29 a1 h0
  have h2 := heap_setCell_same _ R 2 _ 29 a2 h1
  have h3 := heap_setCell_same _ R 3 _ 29 a3 h2
  have h4 := heap_setCell_same _ R 4 _ 29 a4 h3
  have h5 := heap_setCell_same _ R 5 _ 29 a5 h4
  have h6 := heap_setCell_same _ R 6 _ 29 a6 h5
  have h7 := heap_setCell_same _ R 7 _ 29 a7 h6
  simpa using h7
theorem eight_far {w : World} {R k : Nat} (a0 a1 a2 a3 a4 a5 a6 a7 : Value) (h : k ≠ R) :
    ((((((((w.setCell ⟨R, 0, none⟩ a0).setCell ⟨R, 1, none⟩ a1).setCell ⟨R, 2, none⟩ a2).setCell ⟨R, 3, none⟩ a3).setCell ⟨R, 4, none⟩ a4).setCell ⟨R, 5, none⟩ a5).setCell ⟨R, 6, none⟩ a6).setCell ⟨R, 7, none⟩ a7).heap[k]? = w.heap[k]? := by
  rw [Below.heap_setCell _ _ _ _ h, Below.heap_setCell _ _ _ _ h, Below.heap_setCell _ _ _ _ h, Below.heap_setCell _ _ _ _ h, Below.heap_setCell _ _ _ _ h, Below.heap_setCell _ _ _ _ h, Below.heap_setCell _ _ _ _ h, Below.heap_setCell _ _ _ _ h]
theorem grown_far {w w1 : World} {R i : Nat} {row : Option Nat} (u : Value) (h : w.grownBy w1 row) (hR : w.heap.size ≤ R) : w.grownBy (w1.setCell ⟨R, i, none⟩ u) row :=
  ⟨h.os, h.tape, h.output, by have := h.size; simp [World.setCell]; exact this, fun k hk hne => (Below.heap_setCell _ _ _ _ (by show k ≠ R; omega)).trans (h.block k hk hne)⟩
theorem wc15n (Rb : Nat) (bs : List Int) (w : World) (h : Rdr B w Rb bs) (hl : bs.length < 8) :
    Calls Tryz.prog 161 #[.pointer (some ⟨Rb, 0, none⟩)] w fun e w' => Short e ∧ Rdr B w' Rb bs ∧ w.grownBy w' (some Rb) := by
  have R1 : Hid (Rdr B (w.alloc (Obj.cells #[.int .u8 0, .int .u8 0, .int .u8 0, .int .u8 0, .int .u8 0, .int .u8 0, .int .u8 0, .int .u8 0] 29)) Rb bs) := h.keep (fun k hk => Below.heap_alloc w _ k hk)
  have G1 : Hid (w.grownBy (w.alloc (Obj.cells #[.int .u8 0, .int .u8 0, .int .u8 0, .int .u8 0, .int .u8 0, .int .u8 0, .int .u8 0, .int .u8 0] 29)) (some Rb)) := ⟨rfl, rfl, rfl, by simp, fun k hk _ => Below.heap_alloc w _ k hk⟩
  have C := Lib.hid (wc30n Rb 8 bs _ R1.out hl)
  clear h
  go_enter Tryz.func161, Tryz.ntmps161
  go_wp2_with (go_at_call 163; refine C.out.mono ?_; rintro e w' ⟨rfl, rfl⟩)
  exact ⟨rfl, rfl, R1.out, G1.out⟩
theorem wc15y (Rb : Nat) (bs : List Int) (w : World) (h : Rdr B w Rb bs) (hl : 8 ≤ bs.length) :
    Calls Tryz.prog 161 #[.pointer (some ⟨Rb, 0, none⟩)] w fun e w' => e = .returned (hval (bs.take 8)) ∧ Rdr B w' Rb (bs.drop 8) ∧ w.grownBy w' (some Rb) := by
  have hR := h.lt
  have R1 : Hid (Rdr B (w.alloc (Obj.cells #[.int .u8 0, .int .u8 0, .int .u8 0, .int .u8 0, .int .u8 0, .int .u8 0, .int .u8 0, .int .u8 0] 29)) Rb bs) := h.keep (fun k hk => Below.heap_alloc w _ k hk)
  have G1 : Hid (w.grownBy (w.alloc (Obj.cells #[.int .u8 0, .int .u8 0, .int .u8 0, .int .u8 0, .int .u8 0, .int .u8 0, .int .u8 0, .int .u8 0] 29)) (some Rb)) := ⟨rfl, rfl, rfl, by simp, fun k hk _ => Below.heap_alloc w _ k hk⟩
  have HR : Hid ((w.alloc (Obj.cells #[.int .u8 0, .int .u8 0, .int .u8 0, .int .u8 0, .int .u8 0, .int .u8 0, .int .u8 0, .int .u8 0] 29)).heap[w.heap.size]? = some (.cells #[.int .u8 0, .int .u8 0, .int .u8 0, .int .u8 0, .int .u8 0, .int .u8 0, .int .u8 0, .int .u8 0] 29 (0, 0))) := heap_alloc_new w _
  obtain ⟨b, off, c, hrd⟩ := rd_some (n := 8) R1.out (by decide) hl
  have C := Lib.hid (wc30y Rb 8 b off c bs _ hrd hl)
  obtain ⟨hb, hc8⟩ : b < Rb ∧ 8 ≤ c := by
    refine ⟨?_, Nat.le_trans hl hrd.le⟩
    rcases hrd.at' with ⟨e, _⟩ | ⟨b', off', e, hb⟩
    · cases e
    · cases e; exact hb.2
  obtain ⟨a0, a1, a2, a3, a4, a5, a6, a7, ht⟩ := len8 (show (bs.take 8).length = 8 by rw [List.length_take]; omega)
  clear h hrd
  go_enter Tryz.func161, Tryz.ntmps161
  go_wp2_with fail
  refine C.out.mono ?_
  rintro e w1 ⟨rfl, h1, h2, h3⟩
  rw [ht] at h2
  have hcell : ∀ i, i < 8 → w1.cell? ⟨b, off + i, none⟩ = some (.int .u8 ([a0, a1, a2, a3, a4, a5, a6, a7].getD i 0)) := by
    rcases h2 with h2 | ⟨b', off', e, h2⟩
    · cases h2
    · cases e; exact h2
  have q0 : w1.cell? ⟨b, off, none⟩ = some (.int .u8 a0) := hcell 0 (by decide)
  have q1 : w1.cell? ⟨b, off + 1, none⟩ = some (.int .u8 a1) := hcell 1 (by decide)
  have q2 : w1.cell? ⟨b, off + 2, none⟩ = some (.int .u8 a2) := hcell 2 (by decide)
  have q3 : w1.cell? ⟨b, off + 3, none⟩ = some (.int .u8 a3) := hcell 3 (by decide)
  have q4 : w1.cell? ⟨b, off + 4, none⟩ = some (.int .u8 a4) := hcell 4 (by decide)
  have q5 : w1.cell? ⟨b, off + 5, none⟩ = some (.int .u8 a5) := hcell 5 (by decide)
  have q6 : w1.cell? ⟨b, off + 6, none⟩ = some (.int .u8 a6) := hcell 6 (by decide)
  have q7 : w1.cell? ⟨b, off + 7, none⟩ = some (.int .u8 a7) := hcell 7 (by decide)
  have hz : w1.heap[w.heap.size]? = some (.cells #[.int .u8 0, .int .u8 0, .int .u8 0, .int .u8 0, .int .u8 0, .int .u8 0, .int .u8 0, .int .u8 0] 29 (0, 0)) := (h3.block w.heap.size (by simp) (by simp; omega)).trans HR.out
  have hcl : ∀ i (hi : i < 8), w1.cell? ⟨w.heap.size, i, none⟩ = some (.int .u8 0) := fun i hi => by
    rw [cell_of_row w1 w.heap.size i _ 29 (0, 0) hz]
    match i, hi with
    | 0, _ => rfl
    | 1, _ => rfl
    | 2, _ => rfl
    | 3, _ => rfl
    | 4, _ => rfl
    | 5, _ => rfl
    | 6, _ => rfl
    | 7, _ => rfl
  have hfr : ∀ i, w1.frozen? ⟨w.heap.size, i, none⟩ = false := fun i => by simp [World.frozen?, hz]
  have z0 := hcl 0 (by decide)
  have z1 := hcl 1 (by decide)
  have z2 := hcl 2 (by decide)
  have z3 := hcl 3 (by decide)
  have z4 := hcl 4 (by decide)
  have z5 := hcl 5 (by decide)
  have z6 := hcl 6 (by decide)
  have z7 := hcl 7 (by decide)
  have f0 := hfr 0
  have f1 := hfr 1
  have f2 := hfr 2
  have f3 := hfr 3
  have f4 := hfr 4
  have f5 := hfr 5
  have f6 := hfr 6
  have f7 := hfr 7
  have H1 := Lib.hid h1
  have H3 := Lib.hid (G1.out.trans h3)
  have HT := Lib.hid ht
  have hat : ∀ w : World, (Instr.arrayAt 29 (.slice (some ⟨b, off, none⟩) 8 c)).run Tryz.prog w = .ok (.pointer (some ⟨b, off, none⟩)) w := fun w => by simp [Instr.arrayAt, run_underlying Tryz.underlying29]
  have E8 := Lib.hid (eight_set (a0 := .int .u8 a0) (a1 := .int .u8 a1) (a2 := .int .u8 a2) (a3 := .int .u8 a3) (a4 := .int .u8 a4) (a5 := .int .u8 a5) (a6 := .int .u8 a6) (a7 := .int .u8 a7) hz)
  have F8 := Lib.hid (fun k (h : k ≠ w.heap.size) => eight_far (w := w1) (.int .u8 a0) (.int .u8 a1) (.int .u8 a2) (.int .u8 a3) (.int .u8 a4) (.int .u8 a5) (.int .u8 a6) (.int .u8 a7) h)
  have hsz := H3.out.size
  clear h1 h2 h3 hz hcl hfr hcell ht
  go_wp2
  have RF := Lib.hid (H1.out.keepR (fun k hk => F8.out k (by omega)))
  have GF := Lib.hid (grown_far (i := 7) (.int .u8 a7) (grown_far (i := 6) (.int .u8 a6) (grown_far (i := 5) (.int .u8 a5) (grown_far (i := 4) (.int .u8 a4) (grown_far (i := 3) (.int .u8 a3) (grown_far (i := 2) (.int .u8 a2) (grown_far (i := 1) (.int .u8 a1) (grown_far (i := 0) (.int .u8 a0) H3.out (Nat.le_refl _)) (Nat.le_refl _)) (Nat.le_refl _)) (Nat.le_refl _)) (Nat.le_refl _)) (Nat.le_refl _)) (Nat.le_refl _)) (Nat.le_refl _))
  generalize ((((((((w1.setCell ⟨w.heap.size, 0, none⟩ (.int .u8 a0)).setCell ⟨w.heap.size, 1, none⟩ (.int .u8 a1)).setCell ⟨w.heap.size, 2, none⟩ (.int .u8 a2)).setCell ⟨w.heap.size, 3, none⟩ (.int .u8 a3)).setCell ⟨w.heap.size, 4, none⟩ (.int .u8 a4)).setCell ⟨w.heap.size, 5, none⟩ (.int .u8 a5)).setCell ⟨w.heap.size, 6, none⟩ (.int .u8 a6)).setCell ⟨w.heap.size, 7, none⟩ (.int .u8 a7)) = wf at *
  clear z0 z1 z2 z3 z4 z5 z6 z7 f0 f1 f2 f3 f4 f5 f6 f7 q0 q1 q2 q3 q4 q5 q6 q7
  have hz := E8.out
  have z0 : wf.cell? ⟨w.heap.size, 0, none⟩ = some (.int .u8 a0) := by rw [cell_of_row wf w.heap.size 0 _ 29 (0, 0) hz]; rfl
  have z1 : wf.cell? ⟨w.heap.size, 1, none⟩ = some (.int .u8 a1) := by rw [cell_of_row wf w.heap.size 1 _ 29 (0, 0) hz]; rfl
  have z2 : wf.cell? ⟨w.heap.size, 2, none⟩ = some (.int .u8 a2) := by rw [cell_of_row wf w.heap.size 2 _ 29 (0, 0) hz]; rfl
  have z3 : wf.cell? ⟨w.heap.size, 3, none⟩ = some (.int .u8 a3) := by rw [cell_of_row wf w.heap.size 3 _ 29 (0, 0) hz]; rfl
  have z4 : wf.cell? ⟨w.heap.size, 4, none⟩ = some (.int .u8 a4) := by rw [cell_of_row wf w.heap.size 4 _ 29 (0, 0) hz]; rfl
  have z5 : wf.cell? ⟨w.heap.size, 5, none⟩ = some (.int .u8 a5) := by rw [cell_of_row wf w.heap.size 5 _ 29 (0, 0) hz]; rfl
  have z6 : wf.cell? ⟨w.heap.size, 6, none⟩ = some (.int .u8 a6) := by rw [cell_of_row wf w.heap.size 6 _ 29 (0, 0) hz]; rfl
  have z7 : wf.cell? ⟨w.heap.size, 7, none⟩ = some (.int .u8 a7) := by rw [cell_of_row wf w.heap.size 7 _ 29 (0, 0) hz]; rfl
  clear hz
  refine bodyPost_ret (v := .agg #[.int .u8 a0, .int .u8 a1, .int .u8 a2, .int .u8 a3, .int .u8 a4, .int .u8 a5, .int .u8 a6, .int .u8 a7]) (by simp [results, Tryz.results161, go_sem, *]) rfl ?_
  exact ⟨by rw [HT.out] <;> rfl, RF.out, GF.out⟩
end Go.Proofs.YtffaddefnpkcgaaGreatDoor
namespace Go.Proofs.YtffaddefnpkcgaaGreatDoor
open Go.RowKit
variable {B : Nat}
set_option maxRecDepth 100000
attribute [local go_sem ↓] Go.wp_at_zero Go.wp_at_succ
theorem own_cap {w : World} {base n c : Nat} {A : Option Addr} {xs : List Value} (h : w.ownsRow base 5 1 (.slice A n c) n xs) : c ≤ 9223372036854775807 ∧ ((A = none ∧ c = 0) ∨ ∃ g, A = some ⟨g, 0, none⟩ ∧ g < w.heap.size) := by
  rcases h.2 with ⟨e, _⟩ | ⟨g, cap, cur, e, _, hg, _, hm, _⟩
  · simp only [Value.slice.injEq] at e
    exact ⟨by omega, .inl ⟨e.1, e.2.2⟩⟩
  · simp only [Value.slice.injEq] at e
    unfold maxLen at hm
    exact ⟨by omega, .inr ⟨g, e.1, lt_of_block hg⟩⟩
theorem wc28 (A : Option Addr) (len cap : Nat) (bs : List Int) (w : World) (hs : Src w A len bs) (hc : A = none → cap = 0) (hb : Byt bs) (hm : len ≤ 131072) :
    Calls Tryz.prog 80 #[.slice A len cap] w fun e w' => ∃ Rb, e = .returned (.pointer (some ⟨Rb, 0, none⟩)) ∧ Rdr w.heap.size w' Rb bs ∧ w.heap.size ≤ Rb ∧ Below w.heap.size w w' := by
  cases A with
  | none =>
    obtain rfl := hc rfl
    obtain rfl : len = 0 := by rcases hs.2 with h | ⟨_, _, e, _⟩; exact h; cases e
    have hbs := List.eq_nil_of_length_eq_zero hs.1
    have R1 : Hid (Rdr w.heap.size (w.alloc (Obj.cells #[.slice none 0 0] 189)) w.heap.size bs) := by
      rw [hbs]
      exact ⟨none, 0, ⟨heap_alloc_new w _, Nat.le_refl _, by decide, .inl rfl, (fun x hx => by cases hx), .inl ⟨rfl, rfl⟩⟩⟩
    have hbuild : ∀ w : World, (Instr.build 189 #[(0, .slice none 0 0)]).run Tryz.prog w = .ok (.agg #[.slice none 0 0]) w := fun w => run_build w 189 _ _ (by kernel_rfl)
    clear hs hbs
    go_enter Tryz.func80, Tryz.ntmps80
    go_wp2_with (go_at_call 68; refine (wc33n _).mono ?_; rintro e w' ⟨rfl, rfl⟩)
    go_ret
    exact ⟨w.heap.size, rfl, R1.out, Nat.le_refl _, (Below.refl _ _).alloc (Nat.le_refl _) _⟩
  | some ad =>
    have HS := Lib.hid hs
    have HB := Lib.hid hb
    clear hs hb hc
    go_enter Tryz.func80, Tryz.ntmps80
    go_wp2_with fail
    refine (wc33 ad len cap bs w HS.out (by omega)).mono ?_
    rintro e w1 ⟨A2, wc2, rfl, hown, hbel⟩
    have hbuild : ∀ w : World, (Instr.build 189 #[(0, .slice A2 len wc2)]).run Tryz.prog w = .ok (.agg #[.slice A2 len wc2]) w := fun w => run_build w 189 _ _ (by kernel_rfl)
    have R1 : Hid (Rdr w.heap.size (w1.alloc (Obj.cells #[.slice A2 len wc2] 189)) w1.heap.size bs) := by
      obtain ⟨r1, r2, r3⟩ := row_own hown
      obtain ⟨q1, q2⟩ := own_cap hown
      refine ⟨A2, wc2, by rw [r2]; exact heap_alloc_new w1 _, by rw [r2]; exact r3, q1, row_block r1 (fun b _ _ _ hb => Below.heap_alloc w1 _ b hb), HB.out, ?_⟩
      rcases q2 with q2 | ⟨g, e, hg⟩
      · exact .inl q2
      · exact .inr ⟨g, 0, e, own_base hown g (by rw [e]; rfl), hg⟩
    have BL := Lib.hid hbel
    have ZL := Lib.hid hbel.size
    clear hown hbel
    go_wp2
    go_ret
    exact ⟨w1.heap.size, rfl, R1.out, ZL.out, BL.out.alloc ZL.out _⟩
end Go.Proofs.YtffaddefnpkcgaaGreatDoor
namespace Go.Proofs.YtffaddefnpkcgaaGreatDoor
open Go.RowKit
set_option maxRecDepth 100000
theorem catch_idle (p : Addr) (w : World) :
    CallsD Tryz.prog 112 #[.pointer (some p)] .returning w fun e u' w' => e = .returned (.tuple #[]) ∧ u' = .returning ∧ w' = w := by
  have hta : ∀ w : World, (Instr.typeAssert .nilIface 20 190 true).run Tryz.prog w = .ok (.tuple #[.string ByteArray.empty, .bool false]) w := fun w => by kernel_rfl
  refine callsD_of_wpS Tryz.func112 rfl fun c₀ cs hu => ?_
  apply wpS_seq
  apply wpS_region
  simp [wpOpsS, go_sem, recoverD, hu, Tryz.ntmps112, Exit.thenS, hta]
  apply wpS_seq
  apply wpS_region
  simp [wpOpsS, go_sem, Exit.thenS]
  refine wpS_cond (t := false) (by simp [Act.eval, Array.replicate]) ?_
  simp only [Bool.false_eq_true, if_false]
  refine wpS_of_wp (wp_skip ?_)
  cases c₀
  simp_all [bodyPostS, results, Tryz.results112]
def Own (Cb : Nat) (w : World) : Prop := w.heap[Cb]? = some (.cells #[.int .i64 4] 43 (0, 0))
theorem wc29y (F Rb : Nat) (cap : Array Value) (w : World) (R : World → Prop) (hcf : ∀ w : World, (callFunc F (#[.pointer (some ⟨Rb, 0, none⟩)] ++ cap)).run Tryz.prog w = .ok (.enter F (#[.pointer (some ⟨Rb, 0, none⟩)] ++ cap)) w)
    (h : Calls Tryz.prog F (#[.pointer (some ⟨Rb, 0, none⟩)] ++ cap) (w.alloc (Obj.cells #[.int .i64 4] 43)) fun e w' => e = .returned (.tuple #[]) ∧ Own w.heap.size w' ∧ R w') :
    Calls Tryz.prog 81 #[.func (.func F) #[] cap, .pointer (some ⟨Rb, 0, none⟩)] w fun e w' => e = .returned (.int .i64 0) ∧ ∃ w1, R w1 ∧ Own w.heap.size w1 ∧ w' = w1.setCell ⟨w.heap.size, 0, none⟩ (.int .i64 0) := by
  have hnil : ∀ w : World, (binOp BinOp.eql 97 (.func (.func F) #[] cap) .nilFunc).run Tryz.prog w = .ok (.bool false) w := fun _ => rfl
  have hmf : ∀ (fn : Fn) (first cap : Array Value) (w : World), (Instr.makeFunc fn first cap).run Tryz.prog w = .ok (.func fn first cap) w := fun _ _ _ _ => rfl
  have H := Lib.hid h
  clear h
  go_enter_defers Tryz.func81, Tryz.ntmps81
  go_wp2_with fail
  refine H.out.mono ?_
  rintro e w1 ⟨rfl, ho, hR⟩
  have hc := cell_of_one ho
  have hf := free_of_one ho
  have HO := Lib.hid ho
  have HR := Lib.hid hR
  clear hR ho
  go_wp2_with fail
  refine leaves_cons (f := 112) (args := #[.pointer (some ⟨w.heap.size, 0, none⟩)]) (by simp) (by simp [go_sem]) ?_
  refine (catch_idle _ _).mono ?_
  rintro e u' w'' ⟨rfl, rfl, rfl⟩
  have hc2 := cell_of_one (one_setCell (u := .int .i64 0) HO.out)
  simp [Leaves, settle, results, Tryz.results81, go_sem, hc2]
  exact ⟨w1, HR.out, HO.out, rfl⟩
end Go.Proofs.YtffaddefnpkcgaaGreatDoor
namespace Go.Proofs.YtffaddefnpkcgaaGreatDoor
open Go.RowKit
set_option maxRecDepth 100000
structure St (Rb vb : Nat) (w w' : World) : Prop where
  os : w'.os = w.os
  tape : w'.tape = w.tape
  output : w'.output = w.output
  size : w.heap.size ≤ w'.heap.size
  block : ∀ k, k < w.heap.size → k ≠ Rb → k ≠ vb → w'.heap[k]? = w.heap[k]?
theorem St.refl (Rb vb : Nat) (w : World) : St Rb vb w w := ⟨rfl, rfl, rfl, Nat.le_refl _, fun _ _ _ _ => rfl⟩
theorem St.trans {Rb vb : Nat} {a b c : World} (h : St Rb vb a b) (k : St Rb vb b c) : St Rb vb a c :=
  ⟨k.os.trans h.os, k.tape.trans h.tape, k.output.trans h.output, Nat.le_trans h.size k.size, fun i hi h1 h2 => (k.block i (Nat.lt_of_lt_of_le hi h.size) h1 h2).trans (h.block i hi h1 h2)⟩
theorem St.of_grown {Rb vb : Nat} {w w' : World} (h : w.grownBy w' (some Rb)) : St Rb vb w w' :=
  ⟨h.os, h.tape, h.output, h.size, fun k hk h1 _ => h.block k hk (by simp; exact h1)⟩
theorem St.of_below {Rb vb : Nat} {w w' : World} (h : Below w.heap.size w w') : St Rb vb w w' :=
  ⟨h.os, h.tape, h.output, h.size, fun k hk _ _ => h.block k hk⟩
structure Left (vb : Nat) (o : Option Obj) (w w' : World) : Prop where
  grown : w.grownBy w' (some vb)
  var : w'.heap[vb]? = o
theorem left_of {Rb Cb vb : Nat} {o : Option Obj} {w w1 w2 : World} (hRb : w.heap.size ≤ Rb) (hB : Below w.heap.size w w1) (h : St Rb vb w1 w2) (ho : w2.heap[vb]? = o) (hv : vb < w.heap.size) (hC : w.heap.size ≤ Cb) (u : Value) :
    Left vb o w (w2.setCell ⟨Cb, 0, none⟩ u) := by
  refine ⟨⟨h.os.trans hB.os, h.tape.trans hB.tape, h.output.trans hB.output, by have := h.size; have := hB.size; simp [World.setCell]; omega, fun k hk hne => ?_⟩, ?_⟩
  · rw [Below.heap_setCell _ _ _ _ (by show k ≠ Cb; omega), h.block k (Nat.lt_of_lt_of_le hk hB.size) (by omega) (fun e => hne (by simp [e])), hB.block k hk]
  · rw [Below.heap_setCell _ _ _ _ (by show vb ≠ Cb; omega)]; exact ho
theorem wc12y (F : Nat) (cap : Array Value) (A : Option Addr) (len cp : Nat) (bs rest : List Int) (vb : Nat) (R : World → Prop) (w : World) (hs : Src w A len bs) (hc : A = none → cp = 0) (hb : Byt bs) (hm : len ≤ 131072) (hv : vb < w.heap.size)
    (hcf : ∀ (Rb : Nat) (w : World), (callFunc F (#[.pointer (some ⟨Rb, 0, none⟩)] ++ cap)).run Tryz.prog w = .ok (.enter F (#[.pointer (some ⟨Rb, 0, none⟩)] ++ cap)) w)
    (h : ∀ Rb Cb w1, Rdr w.heap.size w1 Rb bs → w.heap.size ≤ Rb → Rb < Cb → w1.heap.size = Cb + 1 → Below w.heap.size w w1 → Calls Tryz.prog F (#[.pointer (some ⟨Rb, 0, none⟩)] ++ cap) w1 fun e w' => e = .returned (.tuple #[]) ∧ Rdr w.heap.size w' Rb rest ∧ St Rb vb w1 w' ∧ ∀ u, R (w'.setCell ⟨Cb, 0, none⟩ u)) :
    Calls Tryz.prog 49 #[.slice A len cp, .func (.func F) #[] cap] w fun e w' => e = .returned (.int .i64 (if rest = [] then 0 else 4)) ∧ w.grownBy w' (some vb) ∧ R w' := by
  have hlt : ¬ (131072 : Int) < (len : Int) := by omega
  have C := Lib.hid (wc28 A len cp bs w hs hc hb hm)
  have H := Lib.hid h
  have HF := Lib.hid hcf
  clear hs hc hb h hcf
  go_enter Tryz.func49, Tryz.ntmps49
  go_wp2_with fail
  refine C.out.mono ?_
  rintro e w1 ⟨Rb, rfl, h1, h2, h3⟩
  have R1 : Hid (Rdr w.heap.size (w1.alloc (Obj.cells #[.int .i64 4] 43)) Rb bs) := h1.keep (fun k hk => Below.heap_alloc w1 _ k hk)
  have B1 : Hid (Below w.heap.size w (w1.alloc (Obj.cells #[.int .i64 4] 43))) := h3.alloc h3.size _
  have LR := Lib.hid h1.lt
  have HS := Lib.hid h3.size
  have H2 := Lib.hid h2
  have D := Lib.hid (wc29y F Rb cap w1 (fun w' => Rdr w.heap.size w' Rb rest ∧ St Rb vb (w1.alloc (Obj.cells #[.int .i64 4] 43)) w' ∧ ∀ u, R (w'.setCell ⟨w1.heap.size, 0, none⟩ u)) (HF.out Rb) ((H.out Rb w1.heap.size _ R1.out h2 h1.lt (by simp) B1.out).mono fun e w' h => ⟨h.1, (h.2.2.1.block w1.heap.size (by simp) (by have := h1.lt; omega) (by have := h3.size; omega)).trans (heap_alloc_new w1 _), h.2⟩))
  clear h1 h2 h3
  go_wp2_with fail
  refine D.out.mono ?_
  rintro e w2 ⟨rfl, wz, ⟨z1, z2, z3⟩, zo, rfl⟩
  have LF := Lib.hid (And.intro (left_of H2.out B1.out z2 rfl hv HS.out (.int .i64 0)).grown (z3 (.int .i64 0)))
  have RF : Hid (Rdr w.heap.size (wz.setCell ⟨w1.heap.size, 0, none⟩ (.int .i64 0)) Rb rest) := z1.keepR (fun k hk => Below.heap_setCell _ _ _ _ (by have := LR.out; show k ≠ w1.heap.size; omega))
  clear z1 z2 z3 zo
  generalize (wz.setCell ⟨w1.heap.size, 0, none⟩ (.int .i64 0)) = wf at *
  have E := Lib.hid (wc14 Rb rest wf RF.out)
  cases rest with
  | nil =>
    rw [List.length_nil] at E
    go_wp2_with (go_at_call 82; refine E.out.mono ?_; rintro e w' ⟨rfl, rfl⟩)
    go_ret
    exact ⟨rfl, LF.out⟩
  | cons x xs =>
    have hpos : (0 : Int) < ((x :: xs).length : Int) := by rw [List.length_cons]; omega
    generalize (x :: xs).length = n at *
    go_wp2_with (go_at_call 82; refine E.out.mono ?_; rintro e w' ⟨rfl, rfl⟩)
    go_ret
    exact ⟨rfl, LF.out⟩
end Go.Proofs.YtffaddefnpkcgaaGreatDoor

