/-
  Sum, Of, Two, Zero.
-/
import Derived.Test.YtimfinachecadaaDoorH8
namespace Go.Proofs.YtimfinachecadaaDoor
open Go.RowKit
theorem keys_pos {w : World} (h : Keys w) : 0 < w.heap.size := World.block_lt_of_cell? w ⟨0, 0, none⟩ (h 0 (by decide))
theorem fed_none {w : World} {b : Nat} (h : DA w b iv (zeros 64) 0) : Fed w b [] := ⟨zeros 64, h, zeros_len _, rfl⟩
theorem src_lt {w : World} {A : Option Addr} {m : Nat} {xs : List Int} (h : Src w A m xs) (h0 : 0 < m) : ∀ g o, A = some ⟨g, o, none⟩ → g < w.heap.size := by
  intro g o e
  rcases h.2 with h2 | ⟨g2, o2, h3, hc⟩
  · omega
  · rw [e] at h3
    cases h3
    exact World.block_lt_of_cell? w ⟨g, o + 0, none⟩ (hc 0 h0)
theorem Src.keep {w W : World} {A : Option Addr} {m : Nat} {xs : List Int} (h : Src w A m xs) (hb : ∀ k, k < w.heap.size → W.heap[k]? = w.heap[k]?) : Src W A m xs := by
  refine ⟨h.1, ?_⟩
  rcases h.2 with h2 | ⟨g, o, h3, hc⟩
  · exact .inl h2
  · refine .inr ⟨g, o, h3, fun i hi => ?_⟩
    rw [World.cell?_of_block (w := w) (w' := W) (a := ⟨g, o + i, none⟩) (hb g (World.block_lt_of_cell? w ⟨g, o + i, none⟩ (hc i hi)))]
    exact hc i hi
attribute [local irreducible] ua da ba kk sw S8.run rt hs comp splice outB sha
end Go.Proofs.YtimfinachecadaaDoor
