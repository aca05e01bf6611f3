/-
  A row of points in memory; points in order.
-/
import Derived.Test.YtdggnmlhgglccaaU34
import Derived.Test.YtdggnmlhgglccaaU35
namespace Go.Proofs.Ytdggnmlhgglccaa
open Go.RowKit Go.Maps
set_option maxRecDepth 100000
/-- a row of points in memory -/
def PRow (w : World) (A : Option Addr) (ps : List (List Int)) : Prop := ps = [] ∨ ∃ g, A = some ⟨g, 0, none⟩ ∧ g < w.heap.size ∧ ∀ i, i < ps.length → w.rangeAt g (i * 9) (ptV (ps.getD i []))
theorem PRow.keep {w w' : World} {A : Option Addr} {ps : List (List Int)} (h : PRow w A ps) (hb : Below w.heap.size w w') : PRow w' A ps := by
  rcases h with h | ⟨g, e, hg, h⟩
  · exact .inl h
  · exact .inr ⟨g, e, Nat.lt_of_lt_of_le hg hb.size, fun i hi => range_keep1 (h i hi) (hb.block g hg)⟩
/-- the points of K in order, each once -/
structure Ord (ps K : List (List Int)) : Prop where
  nd : ps.Nodup
  mem : ∀ p, p ∈ ps ↔ p ∈ K
  lt : ps.Pairwise (fun a b => lessP a b = true)
end Go.Proofs.Ytdggnmlhgglccaa
