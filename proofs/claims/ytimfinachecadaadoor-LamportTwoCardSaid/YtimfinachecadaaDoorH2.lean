/-
  Rows of words and the digest in memory.
-/
import Derived.Test.YtimfinachecadaaDoorH1
namespace Go.Proofs.YtimfinachecadaaDoor
open Go.RowKit

def UA (w : World) (b : Nat) (t : TypeId) (xs : List Int) : Prop := w.heap[b]? = some (.cells (ua xs) t (0, 0))
def BA (w : World) (b : Nat) (t : TypeId) (xs : List Int) : Prop := w.heap[b]? = some (.cells (ba xs) t (0, 0))
def DA (w : World) (b : Nat) (mx bg : List Int) (n : Int) : Prop := w.heap[b]? = some (.cells (da mx bg n) 61 (0, 0))
theorem ua_cell {w : World} {b : Nat} {t : TypeId} {xs : List Int} (h : UA w b t xs) (i : Nat) (hi : i < xs.length) : w.cell? ⟨b, i, none⟩ = some (.int .u32 (xs.getD i 0)) := by
  rw [cell_of_row w b i _ t (0, 0) h]
  simp [ua, uvals, List.getD, hi]
theorem ba_cell {w : World} {b : Nat} {t : TypeId} {xs : List Int} (h : BA w b t xs) (i : Nat) (hi : i < xs.length) : w.cell? ⟨b, i, none⟩ = some (.int .u8 (xs.getD i 0)) := by
  rw [cell_of_row w b i _ t (0, 0) h]
  simp [ba, bvals, List.getD, hi]
theorem free_of {w : World} {b : Nat} {cs : Array Value} {t : TypeId} (h : w.heap[b]? = some (.cells cs t (0, 0))) (i : Nat) : w.frozen? ⟨b, i, none⟩ = false := by
  simp [World.frozen?, h]
theorem da_mx {w : World} {b : Nat} {mx bg : List Int} {n : Int} (h : DA w b mx bg n) (hm : mx.length = 8) (i : Nat) (hi : i < 8) : w.cell? ⟨b, i, none⟩ = some (.int .u32 (mx.getD i 0)) := by
  rw [cell_of_row w b i _ 61 (0, 0) h]
  simp only [da, List.getElem?_toArray]
  rw [List.getElem?_append_left (by simp [uvals, hm, hi])]
  simp [uvals, List.getD, show i < mx.length by omega]
theorem da_bg {w : World} {b : Nat} {mx bg : List Int} {n : Int} (h : DA w b mx bg n) (hm : mx.length = 8) (hb : bg.length = 64) (i : Nat) (hi : i < 64) : w.cell? ⟨b, 8 + i, none⟩ = some (.int .u8 (bg.getD i 0)) := by
  rw [cell_of_row w b (8 + i) _ 61 (0, 0) h]
  simp only [da, List.getElem?_toArray]
  rw [List.getElem?_append_right (by simp [uvals, hm])]
  rw [List.getElem?_append_left (by simp [uvals, bvals, hm, hb]; omega)]
  simp [uvals, bvals, List.getD, hm, show i < bg.length by omega]
theorem da_n {w : World} {b : Nat} {mx bg : List Int} {n : Int} (h : DA w b mx bg n) (hm : mx.length = 8) (hb : bg.length = 64) : w.cell? ⟨b, 72, none⟩ = some (.int .u64 n) := by
  rw [cell_of_row w b 72 _ 61 (0, 0) h]
  simp only [da, List.getElem?_toArray]
  rw [List.getElem?_append_right (by simp [uvals, hm])]
  rw [List.getElem?_append_right (by simp [uvals, bvals, hm, hb])]
  simp [uvals, bvals, hm, hb]
theorem set_ua (xs : List Int) (i : Nat) (x : Int) : (ua xs).setIfInBounds i (.int .u32 x) = ua (xs.set i x) := by
  apply Array.ext'
  simp [ua, uvals, List.map_set]
theorem set_ba (xs : List Int) (i : Nat) (x : Int) : (ba xs).setIfInBounds i (.int .u8 x) = ba (xs.set i x) := by
  apply Array.ext'
  simp [ba, bvals, List.map_set]
theorem ua_set {w : World} {b : Nat} {t : TypeId} {xs : List Int} (h : UA w b t xs) (i : Nat) (x : Int) : UA (w.setCell ⟨b, i, none⟩ (.int .u32 x)) b t (xs.set i x) := by
  unfold UA at *
  rw [heap_setCell_same w b i _ t _ h, set_ua]
theorem ba_set {w : World} {b : Nat} {t : TypeId} {xs : List Int} (h : BA w b t xs) (i : Nat) (x : Int) : BA (w.setCell ⟨b, i, none⟩ (.int .u8 x)) b t (xs.set i x) := by
  unfold BA at *
  rw [heap_setCell_same w b i _ t _ h, set_ba]
theorem da_set_mx {w : World} {b : Nat} {mx bg : List Int} {n : Int} (h : DA w b mx bg n) (hm : mx.length = 8) (i : Nat) (hi : i < 8) (x : Int) : DA (w.setCell ⟨b, i, none⟩ (.int .u32 x)) b (mx.set i x) bg n := by
  unfold DA at *
  rw [heap_setCell_same w b i _ 61 _ h]
  congr 2
  apply Array.ext'
  simp only [da, Array.toList_setIfInBounds]
  rw [List.set_append_left _ _ (by simp [uvals, hm, hi])]
  simp [uvals, List.map_set]
theorem da_set_n {w : World} {b : Nat} {mx bg : List Int} {n : Int} (h : DA w b mx bg n) (hm : mx.length = 8) (hb : bg.length = 64) (x : Int) : DA (w.setCell ⟨b, 72, none⟩ (.int .u64 x)) b mx bg x := by
  unfold DA at *
  rw [heap_setCell_same w b 72 _ 61 _ h]
  congr 2
  apply Array.ext'
  simp only [da, Array.toList_setIfInBounds]
  rw [List.set_append_right _ _ (by simp [uvals, hm])]
  rw [List.set_append_right _ _ (by simp [uvals, bvals, hm, hb])]
  simp [uvals, bvals, hm, hb]
theorem heap_else {w : World} {b g : Nat} {o : Option Obj} (i : Nat) (u : Value) (hne : b ≠ g) (h : w.heap[b]? = o) : (w.setCell ⟨g, i, none⟩ u).heap[b]? = o := by
  rw [heap_setCell_other w ⟨g, i, none⟩ b u hne]; exact h
end Go.Proofs.YtimfinachecadaaDoor
