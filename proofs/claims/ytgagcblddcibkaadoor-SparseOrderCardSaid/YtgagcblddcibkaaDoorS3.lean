/-
  A tree in memory; set.
-/
import Derived.Test.YtgagcblddcibkaaDoorS2
namespace Go.Proofs.YtgagcblddcibkaaDoor
open Go.RowKit
open Go.Maps
/-- the tree's row of maps -/
def mrow (ms : Nat → Option Nat) : Array Value := ((List.range 17).map fun s => Value.map (ms s)).toArray
def updm (ms : Nat → Option Nat) (s : Nat) (m : Option Nat) : Nat → Option Nat := fun j => if j = s then m else ms j
def updL (F : Nat → Int → List Int) (s : Nat) (f : Int → List Int) : Nat → Int → List Int := fun j => if j = s then f else F j
theorem updm_same (ms : Nat → Option Nat) (s : Nat) (m : Option Nat) : updm ms s m s = m := by unfold updm; rw [if_pos rfl]
theorem updm_other (ms : Nat → Option Nat) {s j : Nat} (m : Option Nat) (h : j ≠ s) : updm ms s m j = ms j := by unfold updm; rw [if_neg h]
theorem updL_same (F : Nat → Int → List Int) (s : Nat) (f : Int → List Int) : updL F s f s = f := by unfold updL; rw [if_pos rfl]
theorem updL_other (F : Nat → Int → List Int) {s j : Nat} (f : Int → List Int) (h : j ≠ s) : updL F s f j = F j := by unfold updL; rw [if_neg h]
theorem mrow_get (ms : Nat → Option Nat) (i : Nat) (h : i < 17) : (mrow ms)[i]? = some (.map (ms i)) := by
  simp [mrow, h]
theorem mrow_set (ms : Nat → Option Nat) (s : Nat) (m : Option Nat) : (mrow ms).setIfInBounds s (.map m) = mrow (updm ms s m) := by
  apply Array.ext'
  apply List.ext_getElem?
  intro i
  simp only [mrow, Array.toList_setIfInBounds, List.getElem?_set, List.getElem?_map, List.length_map, List.length_range]
  by_cases e : s = i
  · subst e
    by_cases h : s < 17
    · simp [h, updm]
    · simp [h]
  · by_cases h : i < 17
    · simp [e, h, updm, Ne.symm e]
    · simp [e, h]
structure Tr (w : World) (B T : Nat) (ms : Nat → Option Nat) (F : Nat → Int → List Int) (N : Nat) : Prop where
  row : w.heap[T]? = some (.cells (mrow ms) 58 (0, 0))
  lo : B ≤ T
  nil : ∀ s, s < 17 → ms s = none → ∀ k, F s k = zeros 8
  map : ∀ s b, s < 17 → ms s = some b → B ≤ b ∧ b ≠ T ∧ MapIs w b N (F s)
  inj : ∀ s s' b, s < 17 → s' < 17 → ms s = some b → ms s' = some b → s = s'
/-- what a tree's step leaves: all but the tree's own blocks -/
structure Chg (w w' : World) (T : Nat) (ms ms' : Nat → Option Nat) : Prop where
  os : w'.os = w.os
  tape : w'.tape = w.tape
  output : w'.output = w.output
  size : w.heap.size ≤ w'.heap.size
  block : ∀ q, q < w.heap.size → q ≠ T → (∀ j, j < 17 → ms j ≠ some q) → w'.heap[q]? = w.heap[q]?
  maps : ∀ j b, j < 17 → ms' j = some b → ms j = some b ∨ w.heap.size ≤ b
theorem Chg.refl (w : World) (T : Nat) (ms : Nat → Option Nat) : Chg w w T ms ms := ⟨rfl, rfl, rfl, Nat.le_refl _, fun _ _ _ _ => rfl, fun _ _ _ h => .inl h⟩
theorem Chg.trans {w w' w'' : World} {T : Nat} {ms ms' ms'' : Nat → Option Nat} (h : Chg w w' T ms ms') (k : Chg w' w'' T ms' ms'') : Chg w w'' T ms ms'' := by
  refine ⟨k.os.trans h.os, k.tape.trans h.tape, k.output.trans h.output, Nat.le_trans h.size k.size, fun q hq hT hm => ?_, fun j b hj hb => ?_⟩
  · refine (k.block q (Nat.lt_of_lt_of_le hq h.size) hT fun j hj e => ?_).trans (h.block q hq hT hm)
    rcases h.maps j q hj e with h1 | h1
    · exact hm j hj h1
    · omega
  · rcases k.maps j b hj hb with h1 | h1
    · exact h.maps j b hj h1
    · have := h.size
      exact .inr (by omega)
theorem Chg.of_below {w w' : World} {T : Nat} {ms : Nat → Option Nat} (h : Below w.heap.size w w') : Chg w w' T ms ms := ⟨h.os, h.tape, h.output, h.size, fun q hq _ _ => h.block q hq, fun _ _ _ h => .inl h⟩
theorem Tr.lt {w : World} {B T N : Nat} {ms : Nat → Option Nat} {F : Nat → Int → List Int} (h : Tr w B T ms F N) : T < w.heap.size := lt_of_block h.row
theorem Tr.below {w w' : World} {B T N : Nat} {ms ms' : Nat → Option Nat} {F : Nat → Int → List Int} (h : Tr w B T ms F N) (c : Chg w w' T ms ms') : Below B w w' :=
  ⟨c.os, c.tape, c.output, c.size, fun q hq => c.block q (by have := h.lo; have := h.lt; omega) (by have := h.lo; omega) fun j hj e => by have := (h.map j q hj e).1; omega⟩
theorem Tr.keep {w w' : World} {B T N : Nat} {ms : Nat → Option Nat} {F : Nat → Int → List Int} (h : Tr w B T ms F N) (hb : ∀ q, q < w.heap.size → w'.heap[q]? = w.heap[q]?) : Tr w' B T ms F N :=
  ⟨(hb T h.lt).trans h.row, h.lo, h.nil, fun s b hs hm => ⟨(h.map s b hs hm).1, (h.map s b hs hm).2.1, (h.map s b hs hm).2.2.keep (hb b (h.map s b hs hm).2.2.lt)⟩, h.inj⟩
theorem Tr.grow {w w' : World} {B T N : Nat} {ms : Nat → Option Nat} {F : Nat → Int → List Int} (h : Tr w B T ms F N) (hb : Below w.heap.size w w') : Tr w' B T ms F N := h.keep hb.block
theorem Tr.cell {w : World} {B T N : Nat} {ms : Nat → Option Nat} {F : Nat → Int → List Int} (h : Tr w B T ms F N) (s : Nat) (hs : s < 17) : w.cell? ⟨T, s, none⟩ = some (.map (ms s)) := by
  rw [cell_of_row w T s _ 58 (0, 0) h.row, mrow_get ms s hs]
theorem Tr.mono {w : World} {B T N M : Nat} {ms : Nat → Option Nat} {F : Nat → Int → List Int} (h : Tr w B T ms F N) (hm : N ≤ M) : Tr w B T ms F M := ⟨h.row, h.lo, h.nil, fun s b hs hb => ⟨(h.map s b hs hb).1, (h.map s b hs hb).2.1, (h.map s b hs hb).2.2.mono hm⟩, h.inj⟩
/-- one map of it has turned -/
theorem Tr.turn {w w' : World} {B T N M s b : Nat} {ms : Nat → Option Nat} {F : Nat → Int → List Int} {f : Int → List Int} (h : Tr w B T ms F N) (hs : s < 17) (hb : ms s = some b) (ht : w.mapTurned w' b) (hf : MapIs w' b M f) (hm : N ≤ M) : Tr w' B T ms (updL F s f) M ∧ Chg w w' T ms ms := by
  have hg := ht.grown
  have h0 := h.map s b hs hb
  refine ⟨⟨(hg.block T h.lt (by simpa using fun e => h0.2.1 e.symm)).trans h.row, h.lo, fun j hj hn k => ?_, fun j c hj hc => ?_, h.inj⟩, ⟨hg.os, hg.tape, hg.output, hg.size, fun q hq _ hm => hg.block q hq (by intro e; exact hm s hs (hb.trans e.symm)), fun _ _ _ h => .inl h⟩⟩
  · rw [updL_other F f (fun e => by rw [e, hb] at hn; cases hn)]
    exact h.nil j hj hn k
  · by_cases e : j = s
    · subst e
      rw [hb] at hc
      obtain rfl := Option.some.inj hc
      rw [updL_same]
      exact ⟨h0.1, h0.2.1, hf⟩
    · have h1 := h.map j c hj hc
      have hne : c ≠ b := fun e2 => e (h.inj j s c hj hs hc (by rw [hb, e2]))
      rw [updL_other F f e]
      exact ⟨h1.1, h1.2.1, (h1.2.2.keep (hg.block c h1.2.2.lt (by simpa using hne))).mono hm⟩
/-- a map that was not there is laid -/
theorem Tr.lay {w : World} {B T N s : Nat} {ms : Nat → Option Nat} {F : Nat → Int → List Int} (h : Tr w B T ms F N) (hs : s < 17) (hn : ms s = none) : Tr ((w.alloc (.map #[] 0)).setCell ⟨T, s, none⟩ (.map (some w.heap.size))) B T (updm ms s (some w.heap.size)) F N ∧ Chg w ((w.alloc (.map #[] 0)).setCell ⟨T, s, none⟩ (.map (some w.heap.size))) T ms (updm ms s (some w.heap.size)) := by
  have hlt := h.lt
  have hrow : (w.alloc (.map #[] 0)).heap[T]? = some (.cells (mrow ms) 58 (0, 0)) := (Below.heap_alloc w _ T hlt).trans h.row
  have hoth : ∀ q, q ≠ T → ((w.alloc (.map #[] 0)).setCell ⟨T, s, none⟩ (.map (some w.heap.size))).heap[q]? = (w.alloc (.map #[] 0)).heap[q]? := fun q hq => heap_setCell_other _ ⟨T, s, none⟩ q _ hq
  refine ⟨⟨?_, h.lo, fun j hj hj2 k => ?_, fun j b hj hb => ?_, fun i j b hi hj hb hc => ?_⟩, ⟨rfl, rfl, rfl, ?_, fun q hq hT hm => ?_, fun j b hj hb => ?_⟩⟩
  · rw [heap_setCell_same _ T s _ 58 _ hrow, mrow_set]
  · by_cases e : j = s
    · rw [e, updm_same] at hj2
      cases hj2
    · rw [updm_other ms _ e] at hj2
      exact h.nil j hj hj2 k
  · by_cases e : j = s
    · subst e
      rw [updm_same] at hb
      obtain rfl := Option.some.inj hb
      have hne : w.heap.size ≠ T := by omega
      have hF : F j = fun _ => zeros 8 := funext fun k => h.nil j hj hn k
      rw [hF]
      exact ⟨by have := h.lo; omega, hne, ((MapIs_made w).keep (hoth _ hne)).mono (Nat.zero_le _)⟩
    · rw [updm_other ms _ e] at hb
      have h1 := h.map j b hj hb
      exact ⟨h1.1, h1.2.1, h1.2.2.keep ((hoth b h1.2.1).trans (Below.heap_alloc w _ b h1.2.2.lt))⟩
  · by_cases e : i = s
    · by_cases e2 : j = s
      · rw [e, e2]
      · rw [e, updm_same] at hb
        rw [updm_other ms _ e2] at hc
        obtain rfl := Option.some.inj hb
        have := (h.map j _ hj hc).2.2.lt
        omega
    · by_cases e2 : j = s
      · rw [e2, updm_same] at hc
        rw [updm_other ms _ e] at hb
        obtain rfl := Option.some.inj hc
        have := (h.map i _ hi hb).2.2.lt
        omega
      · rw [updm_other ms _ e] at hb
        rw [updm_other ms _ e2] at hc
        exact h.inj i j b hi hj hb hc
  · simp
  · rw [hoth q hT]
    exact Below.heap_alloc w _ q hq
  · by_cases e : j = s
    · rw [e, updm_same] at hb
      obtain rfl := Option.some.inj hb
      exact .inr (Nat.le_refl _)
    · rw [updm_other ms _ e] at hb
      exact .inl hb
end Go.Proofs.YtgagcblddcibkaaDoor
