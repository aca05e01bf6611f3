/-
  The digest on its way: without Go; the document's sum as a function.
-/
import Derived.Test.YtimfinachecadaaDoorH4
namespace Go.Proofs.YtimfinachecadaaDoor
open Go.RowKit

def ivS : S8 := ⟨1779033703, 3144134277, 1013904242, 2773480762, 1359893119, 2600822924, 528734635, 1541459225⟩
theorem ivS_l : ivS.l = iv := rfl
/-- what is mixed behind k chunks -/
def hs (m : List Int) : Nat → S8
  | 0 => ivS
  | k + 1 => comp (hs m k) ((m.drop (64 * k)).take 64)
theorem hs_more (m ys : List Int) (k : Nat) (h : 64 * k ≤ m.length) : hs (m ++ ys) k = hs m k := by
  induction k with
  | zero => rfl
  | succ k ih =>
    rw [hs, hs, ih (by omega)]
    congr 1
    rw [List.drop_append_of_le_length (by omega), List.take_append_of_le_length (by rw [List.length_drop]; omega)]
/-- a digest that was fed m -/
structure Fed (w : World) (b : Nat) (m : List Int) : Prop where
  ex : ∃ bg, DA w b (hs m (m.length / 64)).l bg m.length ∧ bg.length = 64 ∧ bg.take (m.length % 64) = m.drop (64 * (m.length / 64))
theorem splice_bg (bg ys : List Int) (r : Nat) (h : r + ys.length ≤ bg.length) : (splice bg r ys).take (r + ys.length) = bg.take r ++ ys := by
  unfold splice
  rw [← List.append_assoc, List.take_left' (by rw [List.length_append, List.length_take]; omega)]
theorem splice_da (mx bg ys : List Int) (n : Int) (r : Nat) (hm : mx.length = 8) (h : r + ys.length ≤ bg.length) :
    (da mx bg n).toList.take (8 + r) ++ (bvals ys ++ (da mx bg n).toList.drop (8 + r + (bvals ys).length)) = (da mx (splice bg r ys) n).toList := by
  have hu : (uvals mx).length = 8 := by simp [uvals, hm]
  have hb : (bvals bg).length = bg.length := by simp [bvals]
  have hy : (bvals ys).length = ys.length := by simp [bvals]
  simp only [da]
  rw [← hu, List.take_append, List.drop_append, show (uvals mx).length + r - (uvals mx).length = r by omega, List.take_of_length_le (by omega), List.drop_of_length_le (by omega), List.nil_append,
    List.take_append_of_le_length (by omega), hy, show (uvals mx).length + r + ys.length - (uvals mx).length = r + ys.length by omega, List.drop_append_of_le_length (by omega)]
  simp [splice, bvals]
theorem fed_part {w' : World} {b : Nat} {m ys bg : List Int} (h2 : bg.length = 64) (h3 : bg.take (m.length % 64) = m.drop (64 * (m.length / 64)))
    (hy : m.length % 64 + ys.length < 64) (h : DA w' b (hs m (m.length / 64)).l (splice bg (m.length % 64) ys) ((m.length : Int) + ys.length)) : Fed w' b (m ++ ys) := by
  have e1 : (m ++ ys).length / 64 = m.length / 64 := by rw [List.length_append]; omega
  have e2 : (m ++ ys).length % 64 = m.length % 64 + ys.length := by rw [List.length_append]; omega
  refine ⟨splice bg (m.length % 64) ys, ?_, ?_, ?_⟩
  · rw [e1, hs_more m ys _ (by omega), List.length_append]
    push_cast
    exact h
  · rw [length_splice _ _ _ (by omega), h2]
  · rw [e1, e2, splice_bg _ _ _ (by omega), h3, List.drop_append_of_le_length (by omega)]
theorem full_block {m ys bg : List Int} (h2 : bg.length = 64) (h3 : bg.take (m.length % 64) = m.drop (64 * (m.length / 64)))
    (hy : m.length % 64 + ys.length = 64) : splice bg (m.length % 64) ys = ((m ++ ys).drop (64 * (m.length / 64))).take 64 := by
  have := splice_bg bg ys (m.length % 64) (by omega)
  rw [hy, List.take_of_length_le (by rw [length_splice _ _ _ (by omega)]; omega)] at this
  rw [this, h3, List.drop_append_of_le_length (by omega), List.take_of_length_le (by rw [List.length_append, List.length_drop]; omega)]
theorem fed_full {w' : World} {b : Nat} {m ys bg : List Int} (h2 : bg.length = 64) (h3 : bg.take (m.length % 64) = m.drop (64 * (m.length / 64)))
    (hy : m.length % 64 + ys.length = 64) (h : DA w' b (comp (hs m (m.length / 64)) (splice bg (m.length % 64) ys)).l (splice bg (m.length % 64) ys) ((m.length : Int) + ys.length)) : Fed w' b (m ++ ys) := by
  have e1 : (m ++ ys).length / 64 = m.length / 64 + 1 := by rw [List.length_append]; omega
  have e2 : (m ++ ys).length % 64 = 0 := by rw [List.length_append]; omega
  refine ⟨splice bg (m.length % 64) ys, ?_, ?_, ?_⟩
  · rw [e1, hs, hs_more m ys _ (by omega), ← full_block h2 h3 hy, List.length_append]
    push_cast
    exact h
  · rw [length_splice _ _ _ (by omega), h2]
  · rw [e1, e2, List.take_zero, List.drop_of_length_le (by rw [List.length_append]; omega)]
/-- but for block b nothing that was there has changed -/
structure Oth (b : Nat) (w w' : World) : Prop where
  below : Below b w w'
  oth : ∀ k, k < w.heap.size → k ≠ b → w'.heap[k]? = w.heap[k]?
theorem Oth.refl (b : Nat) (w : World) : Oth b w w := ⟨Below.refl _ _, fun _ _ _ => rfl⟩
theorem Oth.trans {b : Nat} {w v u : World} (h : Oth b w v) (k : Oth b v u) : Oth b w u :=
  ⟨h.below.trans k.below, fun i hi hne => (k.oth i (Nat.lt_of_lt_of_le hi h.below.size) hne).trans (h.oth i hi hne)⟩
theorem Oth.drewN {b : Nat} {w v : World} (h : Oth b w v) (n : Nat) : Oth b w (v.drewN n) := ⟨below_drewN h.below n, h.oth⟩
theorem Oth.drew {b : Nat} {w v : World} (h : Oth b w v) : Oth b w v.drew := ⟨h.below.drew, h.oth⟩
theorem Oth.set {b : Nat} {w v : World} (h : Oth b w v) (i : Nat) (x : Value) : Oth b w (v.setCell ⟨b, i, none⟩ x) :=
  ⟨h.below.setCell (Nat.le_refl _) _, fun k hk hne => heap_else i x hne (h.oth k hk hne)⟩
theorem Oth.setRow {b : Nat} {w v : World} (h : Oth b w v) (cs : Array Value) : Oth b w (v.setRow b cs) :=
  ⟨below_setRow h.below (Nat.le_refl _) _, fun k hk hne => (setRow_other v b k cs hne).trans (h.oth k hk hne)⟩
theorem Oth.alloc {b : Nat} {w v : World} (h : Oth b w v) (hb : b < w.heap.size) (o : Obj) : Oth b w (v.alloc o) :=
  ⟨h.below.alloc (Nat.le_of_lt (Nat.lt_of_lt_of_le hb h.below.size)) o, fun k hk hne => (Below.heap_alloc v o k (Nat.lt_of_lt_of_le hk h.below.size)).trans (h.oth k hk hne)⟩
theorem Oth.of_below {b : Nat} {w v : World} (hb : b ≤ w.heap.size) (h : Below w.heap.size w v) : Oth b w v := ⟨h.mono hb, fun k hk _ => h.block k hk⟩
theorem Src.oth {w w' : World} {b : Nat} {A : Option Addr} {m : Nat} {xs : List Int} (h : Src w A m xs) (hA : ∀ g o, A = some ⟨g, o, none⟩ → g ≠ b) (k : Oth b w w') : Src w' A m xs := by
  refine ⟨h.1, ?_⟩
  rcases h.2 with h2 | ⟨g, o, rfl, hc⟩
  · exact .inl h2
  · refine .inr ⟨g, o, rfl, fun i hi => ?_⟩
    have h0 := World.block_lt_of_cell? w ⟨g, o + i, none⟩ (hc i hi)
    rw [World.cell?_of_block (w := w) (w' := w') (a := ⟨g, o + i, none⟩) (k.oth g h0 (hA g o rfl))]
    exact hc i hi
theorem keys_oth {w W : World} {b : Nat} (h : Keys w) (k : Oth b w W) (hB : 0 < b) : Keys W := keys_below h k.below hB
end Go.Proofs.YtimfinachecadaaDoor
