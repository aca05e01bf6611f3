/-
  Check.
-/
import Derived.Test.YtmcmdpbdipgahaaM7
namespace Go.Proofs.Ytmcmdpbdipgahaa
open Go.RowKit
/-- is it so? -/
def chkB (root leaf : List Int) (i n : Int) (m : Nat) (pr : List Int) : Bool := (decide (0 ≤ i) && (decide (i < n) && decide (n ≤ 65536))) && (decide (m = stepsF n.toNat i.toNat n.toNat) && decide (leadF n.toNat leaf i.toNat n.toNat m pr = root))
theorem eqh (x y : List Int) (w : World) (hx : x.length = 8) (hy : y.length = 8) : (Op.equalIn 10000 31 (.agg (ba x)) (.agg (ba y))).run Try.prog w = .ok (decide (x = y)) w := eq_ba 31 8 9998 Try.underlying31 x y w hx hy
attribute [local irreducible] ua da ba kk sw S8.run rt hs comp splice outB sha msg rootF leafH twoH stepsF cutN leadF

end Go.Proofs.Ytmcmdpbdipgahaa

/-
  The document's Check.
-/
namespace Go.Proofs.Ytmcmdpbdipgahaa
open Go.RowKit
attribute [local irreducible] ua da ba kk sw S8.run rt hs comp splice outB sha msg rootF leafH twoH stepsF cutN leadF

end Go.Proofs.Ytmcmdpbdipgahaa
