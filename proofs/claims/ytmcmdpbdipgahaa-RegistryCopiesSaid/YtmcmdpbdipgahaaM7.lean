/-
  Where a proof leads: the document's.
-/
import Derived.Test.YtmcmdpbdipgahaaM6
import Derived.Laws.ResultCell
namespace Go.Proofs.Ytmcmdpbdipgahaa
open Go.RowKit
theorem res2 {P : Program} {fn : Func} {p u : Tmp} {ty : TypeId} (h : fn.results = #[.cell p ty, .tmp u]) (tmps : Array Value) (w : World) (g : Nat) (t : TypeId) (cs : Array Value) (fr : Nat × Nat) (d : TypeDesc)
    (hp : tmps.getD p undef = .pointer (some ⟨g, 0, none⟩)) (hg : w.heap[g]? = some (.cells cs t fr))
    (hu : P.underlying ty = some d) (hd : (match d with | .struct _ | .array _ _ => true | _ => false) = true) (hi : (P.info? ty).map (·.size) = some cs.size) (b : Value) (hb : tmps.getD u undef = b) :
    (results fn tmps).run P w = .ok (.tuple #[.agg cs, b]) w := by
  rw [results_cell_tmp h, hp, hb]
  simp [asAddr, run_loadVar_row w g t ty cs fr d hg hu hd hi, Result.andThen]
/-- what the document's walk up answers -/
def UpR (hh : List Int) (b : Bool) (w : World) (e : Ending) (w' : World) : Prop := ∃ h : List Int, h.length = 8 ∧ (b = true → h = hh) ∧ e = .returned (.tuple #[.agg (ba h), .bool b]) ∧ Below w.heap.size w w'
attribute [local irreducible] ua da ba kk sw S8.run rt hs comp splice outB sha msg rootF leafH twoH stepsF cutN leadF

end Go.Proofs.Ytmcmdpbdipgahaa
