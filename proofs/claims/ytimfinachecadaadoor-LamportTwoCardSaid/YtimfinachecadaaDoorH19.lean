/-
  Two, Zero.
-/
import Derived.Test.YtimfinachecadaaDoorH18
namespace Go.Proofs.YtimfinachecadaaDoor
open Go.RowKit
/-- what two hashes digest to -/
def twoM (p : Int) (x y : List Int) : List Int := [p] ++ digs 8 4 ++ x ++ digs 8 4 ++ y
def put8 (w : World) (b : Nat) (x0 x1 x2 x3 x4 x5 x6 x7 : Int) : World := ((((((((w.setCell ⟨b, 0, none⟩ (.int .u8 x0)).setCell ⟨b, 1, none⟩ (.int .u8 x1)).setCell ⟨b, 2, none⟩ (.int .u8 x2)).setCell ⟨b, 3, none⟩ (.int .u8 x3)).setCell ⟨b, 4, none⟩ (.int .u8 x4)).setCell ⟨b, 5, none⟩ (.int .u8 x5)).setCell ⟨b, 6, none⟩ (.int .u8 x6)).setCell ⟨b, 7, none⟩ (.int .u8 x7))
theorem put8_ba {w : World} {b : Nat} (x0 x1 x2 x3 x4 x5 x6 x7 : Int) (h : BA w b 23 (zeros 8)) : BA (put8 w b x0 x1 x2 x3 x4 x5 x6 x7) b 23 [x0, x1, x2, x3, x4, x5, x6, x7] := (ba_set (ba_set (ba_set (ba_set (ba_set (ba_set (ba_set (ba_set h 0 x0) 1 x1) 2 x2) 3 x3) 4 x4) 5 x5) 6 x6) 7 x7)
theorem put8_below {w v : World} {B b : Nat} (x0 x1 x2 x3 x4 x5 x6 x7 : Int) (h : Below B w v) (hb : B ≤ b) : Below B w (put8 v b x0 x1 x2 x3 x4 x5 x6 x7) := ((((((((h.setCell hb _).setCell hb _).setCell hb _).setCell hb _).setCell hb _).setCell hb _).setCell hb _).setCell hb _)
attribute [local irreducible] ua da ba kk sw S8.run rt hs comp splice outB sha msg
theorem ba8 : ba (zeros 8) = #[.int .u8 0, .int .u8 0, .int .u8 0, .int .u8 0, .int .u8 0, .int .u8 0, .int .u8 0, .int .u8 0] := by unfold ba bvals zeros; rfl
end Go.Proofs.YtimfinachecadaaDoor
