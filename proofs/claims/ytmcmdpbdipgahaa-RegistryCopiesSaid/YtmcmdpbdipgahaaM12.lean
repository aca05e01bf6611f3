/-
  Prove.
-/
import Derived.Test.YtmcmdpbdipgahaaMD
namespace Go.Proofs.Ytmcmdpbdipgahaa
open Go.RowKit
/-- what Prove answers where there is a proof -/
def PvR (R : List (List Int)) (w : World) (e : Ending) (w' : World) : Prop := ∃ (A : Option Addr) (c : Nat), e = .returned (.tuple #[.slice A R.length c, .bool true]) ∧ Src w' A (8 * R.length) R.flatten ∧ R.length ≤ c ∧ c ≤ maxLen ∧ Below w.heap.size w w'
def lenV : Value → Nat
  | .slice _ n _ => n
  | _ => 0
attribute [local irreducible] ua da ba kk sw S8.run rt hs comp splice outB sha msg rootF leafH twoH stepsF cutN leadF provL bvals

end Go.Proofs.Ytmcmdpbdipgahaa
