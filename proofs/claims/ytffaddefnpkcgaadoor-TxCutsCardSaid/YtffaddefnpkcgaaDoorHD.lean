/-
  The document's Digest.
-/
import Derived.Test.YtffaddefnpkcgaaDoorHC
import Derived.Test.YtffaddefnpkcgaaDoorHC
namespace Go.Proofs.YtffaddefnpkcgaaDoor
open Go.RowKit
set_option maxRecDepth 100000
theorem msg1 (p : Int) (pl : Nat → Nat) (px : Nat → List Int) (k : Nat) : msg p pl px (k + 1) = msg p pl px k ++ digs (pl k) 4 ++ px k := rfl
theorem msg0 (p : Int) (pl : Nat → Nat) (px : Nat → List Int) : msg p pl px 0 = [p] := rfl
attribute [local irreducible] ua da ba kk sw S8.run rt hs comp splice outB sha msg
end Go.Proofs.YtffaddefnpkcgaaDoor

/-
  The document's own Two.
-/
namespace Go.Proofs.YtffaddefnpkcgaaDoor
open Go.RowKit
end Go.Proofs.YtffaddefnpkcgaaDoor
