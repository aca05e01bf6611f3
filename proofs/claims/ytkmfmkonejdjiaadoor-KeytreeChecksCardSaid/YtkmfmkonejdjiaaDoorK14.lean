/-
  The walk of KeytreeChecks, over any number that is a byte.
-/
import Derived.Test.YtkmfmkonejdjiaaDoorK13
import Derived.OpenShut
namespace Go.Proofs.YtkmfmkonejdjiaaDoor
open Go.RowKit
open Go.ChangeShapes Go.WideShapes in
theorem q4i (hs n2 : List Int) (x : Int) (w : World) (hk : Keys w) (hh : hs.length = 24) (hbh : Byt hs) (hw : (Lit.int .u8 x).wf = true) (hn : n2.length = 2) (hbn : Byt n2) :
    Calls Tryd.prog 4 #[.agg (ba hs), .int .u8 x, .agg (ba n2)] w fun e w' => e = .returned (.bool true) ∧ Below w.heap.size w w' := by
  have h := bounds_u8 hw
  obtain ⟨m, rfl⟩ := Int.eq_ofNat_of_zero_le h.1
  exact q4 hs n2 m w hk hh hbh (by omega) hn hbn
end Go.Proofs.YtkmfmkonejdjiaaDoor
