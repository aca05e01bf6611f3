/-
  The Reader's Hash, Bytes; NewReader.
-/
import Derived.Test.YtjkhbddnbpnmcaaW13
namespace Go.Proofs.Ytjkhbddnbpnmcaa
open Go.RowKit
attribute [local go_sem ↓] Go.wp_at_zero Go.wp_at_succ

theorem eight_set {w : World} {R : Nat} {a0 a1 a2 a3 a4 a5 a6 a7 z0 z1 z2 z3 z4 z5 z6 z7 : Value} (h : w.heap[R]? = some (.cells #[z0, z1, z2, z3, z4, z5, z6, z7] 29 (0, 0))) :
    ((((((((w.setCell ⟨R, 0, none⟩ a0).setCell ⟨R, 1, none⟩ a1).setCell ⟨R, 2, none⟩ a2).setCell ⟨R, 3, none⟩ a3).setCell ⟨R, 4, none⟩ a4).setCell ⟨R, 5, none⟩ a5).setCell ⟨R, 6, none⟩ a6).setCell ⟨R, 7, none⟩ a7).heap[R]? = some (.cells #[a0, a1, a2, a3, a4, a5, a6, a7] 29 (0, 0)) := by
  have h0 := heap_setCell_same w R 0 _ 29 a0 h
  have h1 := heap_setCell_same _ R 1 _ 29 a1 h0
  have h2 := heap_setCell_same _ R 2 _ 29 a2 h1
  have h3 := heap_setCell_same _ R 3 _ 29 a3 h2
  have h4 := heap_setCell_same _ R 4 _ 29 a4 h3
  have h5 := heap_setCell_same _ R 5 _ 29 a5 h4
  have h6 := heap_setCell_same _ R 6 _ 29 a6 h5
  have h7 := heap_setCell_same _ R 7 _ 29 a7 h6
  simpa using h7
theorem eight_far {w : World} {R k : Nat} (a0 a1 a2 a3 a4 a5 a6 a7 : Value) (h : k ≠ R) :
    ((((((((w.setCell ⟨R, 0, none⟩ a0).setCell ⟨R, 1, none⟩ a1).setCell ⟨R, 2, none⟩ a2).setCell ⟨R, 3, none⟩ a3).setCell ⟨R, 4, none⟩ a4).setCell ⟨R, 5, none⟩ a5).setCell ⟨R, 6, none⟩ a6).setCell ⟨R, 7, none⟩ a7).heap[k]? = w.heap[k]? := by
  rw [Below.heap_setCell _ _ _ _ h, Below.heap_setCell _ _ _ _ h, Below.heap_setCell _ _ _ _ h, Below.heap_setCell _ _ _ _ h, Below.heap_setCell _ _ _ _ h, Below.heap_setCell _ _ _ _ h, Below.heap_setCell _ _ _ _ h, Below.heap_setCell _ _ _ _ h]
theorem grown_far {w w1 : World} {R i : Nat} {row : Option Nat} (u : Value) (h : w.grownBy w1 row) (hR : w.heap.size ≤ R) : w.grownBy (w1.setCell ⟨R, i, none⟩ u) row :=
  ⟨h.os, h.tape, h.output, by have := h.size; simp [World.setCell]; exact this, fun k hk hne => (Below.heap_setCell _ _ _ _ (by show k ≠ R; omega)).trans (h.block k hk hne)⟩
theorem c15n (Rb : Nat) (bs : List Int) (w : World) (h : Rdr w Rb bs) (hl : bs.length < 8) :
    Calls Try.prog 15 #[.pointer (some ⟨Rb, 0, none⟩)] w fun e w' => Short e ∧ Rdr w' Rb bs ∧ w.grownBy w' (some Rb) := by
  have R1 : Hid (Rdr (w.alloc (Obj.cells #[.int .u8 0, .int .u8 0, .int .u8 0, .int .u8 0, .int .u8 0, .int .u8 0, .int .u8 0, .int .u8 0] 29)) Rb bs) := h.keep (fun k hk => Below.heap_alloc w _ k hk)
  have G1 : Hid (w.grownBy (w.alloc (Obj.cells #[.int .u8 0, .int .u8 0, .int .u8 0, .int .u8 0, .int .u8 0, .int .u8 0, .int .u8 0, .int .u8 0] 29)) (some Rb)) := ⟨rfl, rfl, rfl, by simp, fun k hk _ => Below.heap_alloc w _ k hk⟩
  have C := Lib.hid (c30n Rb 8 bs _ R1.out hl)
  clear h
  go_enter Try.func15, Try.ntmps15
  go_wp2_with (go_at_call 30; refine C.out.mono ?_; rintro e w' ⟨rfl, rfl⟩)
  exact ⟨rfl, rfl, R1.out, G1.out⟩
theorem c15y (Rb : Nat) (bs : List Int) (w : World) (h : Rdr w Rb bs) (hl : 8 ≤ bs.length) :
    Calls Try.prog 15 #[.pointer (some ⟨Rb, 0, none⟩)] w fun e w' => e = .returned (hval (bs.take 8)) ∧ Rdr w' Rb (bs.drop 8) ∧ w.grownBy w' (some Rb) := by
  have hR := h.lt
  have R1 : Hid (Rdr (w.alloc (Obj.cells #[.int .u8 0, .int .u8 0, .int .u8 0, .int .u8 0, .int .u8 0, .int .u8 0, .int .u8 0, .int .u8 0] 29)) Rb bs) := h.keep (fun k hk => Below.heap_alloc w _ k hk)
  have G1 : Hid (w.grownBy (w.alloc (Obj.cells #[.int .u8 0, .int .u8 0, .int .u8 0, .int .u8 0, .int .u8 0, .int .u8 0, .int .u8 0, .int .u8 0] 29)) (some Rb)) := ⟨rfl, rfl, rfl, by simp, fun k hk _ => Below.heap_alloc w _ k hk⟩
  have HR : Hid ((w.alloc (Obj.cells #[.int .u8 0, .int .u8 0, .int .u8 0, .int .u8 0, .int .u8 0, .int .u8 0, .int .u8 0, .int .u8 0] 29)).heap[w.heap.size]? = some (.cells #[.int .u8 0, .int .u8 0, .int .u8 0, .int .u8 0, .int .u8 0, .int .u8 0, .int .u8 0, .int .u8 0] 29 (0, 0))) := heap_alloc_new w _
  obtain ⟨b, off, c, hrd⟩ := rd_some (n := 8) R1.out (by decide) hl
  have C := Lib.hid (c30y Rb 8 b off c bs _ hrd hl)
  obtain ⟨hb, hc8⟩ : b < Rb ∧ 8 ≤ c := by
    refine ⟨?_, Nat.le_trans hl hrd.le⟩
    rcases hrd.at' with ⟨e, _⟩ | ⟨b', off', e, hb⟩
    · cases e
    · cases e; exact hb
  obtain ⟨a0, a1, a2, a3, a4, a5, a6, a7, ht⟩ := len8 (show (bs.take 8).length = 8 by rw [List.length_take]; omega)
  clear h hrd
  go_enter Try.func15, Try.ntmps15
  go_wp2_with fail
  refine C.out.mono ?_
  rintro e w1 ⟨rfl, h1, h2, h3⟩
  rw [ht] at h2
  have hcell : ∀ i, i < 8 → w1.cell? ⟨b, off + i, none⟩ = some (.int .u8 ([a0, a1, a2, a3, a4, a5, a6, a7].getD i 0)) := by
    rcases h2 with h2 | ⟨b', off', e, h2⟩
    · cases h2
    · cases e; exact h2
  have q0 : w1.cell? ⟨b, off, none⟩ = some (.int .u8 a0) := hcell 0 (by decide)
  have q1 : w1.cell? ⟨b, off + 1, none⟩ = some (.int .u8 a1) := hcell 1 (by decide)
  have q2 : w1.cell? ⟨b, off + 2, none⟩ = some (.int .u8 a2) := hcell 2 (by decide)
  have q3 : w1.cell? ⟨b, off + 3, none⟩ = some (.int .u8 a3) := hcell 3 (by decide)
  have q4 : w1.cell? ⟨b, off + 4, none⟩ = some (.int .u8 a4) := hcell 4 (by decide)
  have q5 : w1.cell? ⟨b, off + 5, none⟩ = some (.int .u8 a5) := hcell 5 (by decide)
  have q6 : w1.cell? ⟨b, off + 6, none⟩ = some (.int .u8 a6) := hcell 6 (by decide)
  have q7 : w1.cell? ⟨b, off + 7, none⟩ = some (.int .u8 a7) := hcell 7 (by decide)
  have hz : w1.heap[w.heap.size]? = some (.cells #[.int .u8 0, .int .u8 0, .int .u8 0, .int .u8 0, .int .u8 0, .int .u8 0, .int .u8 0, .int .u8 0] 29 (0, 0)) := (h3.block w.heap.size (by simp) (by simp; omega)).trans HR.out
  have hcl : ∀ i (hi : i < 8), w1.cell? ⟨w.heap.size, i, none⟩ = some (.int .u8 0) := fun i hi => by
    rw [cell_of_row w1 w.heap.size i _ 29 (0, 0) hz]
    match i, hi with
    | 0, _ => rfl
    | 1, _ => rfl
    | 2, _ => rfl
    | 3, _ => rfl
    | 4, _ => rfl
    | 5, _ => rfl
    | 6, _ => rfl
    | 7, _ => rfl
  have hfr : ∀ i, w1.frozen? ⟨w.heap.size, i, none⟩ = false := fun i => by simp [World.frozen?, hz]
  have z0 := hcl 0 (by decide)
  have z1 := hcl 1 (by decide)
  have z2 := hcl 2 (by decide)
  have z3 := hcl 3 (by decide)
  have z4 := hcl 4 (by decide)
  have z5 := hcl 5 (by decide)
  have z6 := hcl 6 (by decide)
  have z7 := hcl 7 (by decide)
  have f0 := hfr 0
  have f1 := hfr 1
  have f2 := hfr 2
  have f3 := hfr 3
  have f4 := hfr 4
  have f5 := hfr 5
  have f6 := hfr 6
  have f7 := hfr 7
  have H1 := Lib.hid h1
  have H3 := Lib.hid (G1.out.trans h3)
  have HT := Lib.hid ht
  have hat : ∀ w : World, (Instr.arrayAt 29 (.slice (some ⟨b, off, none⟩) 8 c)).run Try.prog w = .ok (.pointer (some ⟨b, off, none⟩)) w := fun w => by simp [Instr.arrayAt, run_underlying Try.underlying29]
  have E8 := Lib.hid (eight_set (a0 := .int .u8 a0) (a1 := .int .u8 a1) (a2 := .int .u8 a2) (a3 := .int .u8 a3) (a4 := .int .u8 a4) (a5 := .int .u8 a5) (a6 := .int .u8 a6) (a7 := .int .u8 a7) hz)
  have F8 := Lib.hid (fun k (h : k ≠ w.heap.size) => eight_far (w := w1) (.int .u8 a0) (.int .u8 a1) (.int .u8 a2) (.int .u8 a3) (.int .u8 a4) (.int .u8 a5) (.int .u8 a6) (.int .u8 a7) h)
  have hsz := H3.out.size
  clear h1 h2 h3 hz hcl hfr hcell ht
  go_wp2
  have RF := Lib.hid (H1.out.keepR (fun k hk => F8.out k (by omega)))
  have GF := Lib.hid (grown_far (i := 7) (.int .u8 a7) (grown_far (i := 6) (.int .u8 a6) (grown_far (i := 5) (.int .u8 a5) (grown_far (i := 4) (.int .u8 a4) (grown_far (i := 3) (.int .u8 a3) (grown_far (i := 2) (.int .u8 a2) (grown_far (i := 1) (.int .u8 a1) (grown_far (i := 0) (.int .u8 a0) H3.out (Nat.le_refl _)) (Nat.le_refl _)) (Nat.le_refl _)) (Nat.le_refl _)) (Nat.le_refl _)) (Nat.le_refl _)) (Nat.le_refl _)) (Nat.le_refl _))
  generalize ((((((((w1.setCell ⟨w.heap.size, 0, none⟩ (.int .u8 a0)).setCell ⟨w.heap.size, 1, none⟩ (.int .u8 a1)).setCell ⟨w.heap.size, 2, none⟩ (.int .u8 a2)).setCell ⟨w.heap.size, 3, none⟩ (.int .u8 a3)).setCell ⟨w.heap.size, 4, none⟩ (.int .u8 a4)).setCell ⟨w.heap.size, 5, none⟩ (.int .u8 a5)).setCell ⟨w.heap.size, 6, none⟩ (.int .u8 a6)).setCell ⟨w.heap.size, 7, none⟩ (.int .u8 a7)) = wf at *
  clear z0 z1 z2 z3 z4 z5 z6 z7 f0 f1 f2 f3 f4 f5 f6 f7 q0 q1 q2 q3 q4 q5 q6 q7
  have hz := E8.out
  have z0 : wf.cell? ⟨w.heap.size, 0, none⟩ = some (.int .u8 a0) := by rw [cell_of_row wf w.heap.size 0 _ 29 (0, 0) hz]; rfl
  have z1 : wf.cell? ⟨w.heap.size, 1, none⟩ = some (.int .u8 a1) := by rw [cell_of_row wf w.heap.size 1 _ 29 (0, 0) hz]; rfl
  have z2 : wf.cell? ⟨w.heap.size, 2, none⟩ = some (.int .u8 a2) := by rw [cell_of_row wf w.heap.size 2 _ 29 (0, 0) hz]; rfl
  have z3 : wf.cell? ⟨w.heap.size, 3, none⟩ = some (.int .u8 a3) := by rw [cell_of_row wf w.heap.size 3 _ 29 (0, 0) hz]; rfl
  have z4 : wf.cell? ⟨w.heap.size, 4, none⟩ = some (.int .u8 a4) := by rw [cell_of_row wf w.heap.size 4 _ 29 (0, 0) hz]; rfl
  have z5 : wf.cell? ⟨w.heap.size, 5, none⟩ = some (.int .u8 a5) := by rw [cell_of_row wf w.heap.size 5 _ 29 (0, 0) hz]; rfl
  have z6 : wf.cell? ⟨w.heap.size, 6, none⟩ = some (.int .u8 a6) := by rw [cell_of_row wf w.heap.size 6 _ 29 (0, 0) hz]; rfl
  have z7 : wf.cell? ⟨w.heap.size, 7, none⟩ = some (.int .u8 a7) := by rw [cell_of_row wf w.heap.size 7 _ 29 (0, 0) hz]; rfl
  clear hz
  refine bodyPost_ret (v := .agg #[.int .u8 a0, .int .u8 a1, .int .u8 a2, .int .u8 a3, .int .u8 a4, .int .u8 a5, .int .u8 a6, .int .u8 a7]) (by simp [results, Try.results15, go_sem, *]) rfl ?_
  exact ⟨by rw [HT.out] <;> rfl, RF.out, GF.out⟩
end Go.Proofs.Ytjkhbddnbpnmcaa
