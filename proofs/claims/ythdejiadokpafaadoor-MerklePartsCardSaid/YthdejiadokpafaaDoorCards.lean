/-
  DERIVED. GIVEN WITH THE SEED: THE CARDS: each row of YthdejiadokpafaaDoorRows.lean that lists a variable, with what it lists TIED to the program's text (the seventh form; the later family's looks); each row that meets fmt, with fmt's text TOLD by the authors' own Lean function (tested against real Go, not proved from fmt's source: count such statements apart). THE CARD IS WHAT COUNTS. Prove the row's statement (the work); the ties are given (YthdejiadokpafaaDoorTie.lean); close each card by the builder's one call (the guide's Derived/Test/ToyasCard.lean, 'card_holds'). Laid BY PROGRAM, IN A SANDBOX (cutbox-door.mjs). By AI agents, Wed Nov 11 2026. No macro, syntax, notation, axiom, sorry.
-/
import Derived.Test.YthdejiadokpafaaDoorRows
import GoSem.ClaimSeven
namespace Go.Proofs.YthdejiadokpafaaDoor
namespace Rows

/-- THE TIED CARD OF 'drawbridgelaw5.MerkleMakes'. -/
def merkleMakesCard : Claim7 := { stood := { row := merkleMakesRow, standIns := [], harness := (true, "d6406f1ed32afb6a2ddb232a2c2f6afc69f2b1cd0c8a7c23464f0cb98ffda306"), looks := false }, kinds := [], alts := [], laidByText := true, laidKinds := [.data], laidTests := true, laidLooks := .later }
def MerkleMakesCardSaid : Prop := Claim7.holds Tryd.pinned (.plain (OpenSpec.ofChange merkleMakesSpec)) merkleMakesCard

/-- THE TIED CARD OF 'drawbridgelaw5.MerkleProves'. -/
def merkleProvesCard : Claim7 := { stood := { row := merkleProvesRow, standIns := [], harness := (true, "d6406f1ed32afb6a2ddb232a2c2f6afc69f2b1cd0c8a7c23464f0cb98ffda306"), looks := false }, kinds := [], alts := [], laidByText := true, laidKinds := [.data], laidTests := true, laidLooks := .later }
def MerkleProvesCardSaid : Prop := Claim7.holds Tryd.pinned (.plain (OpenSpec.ofChange merkleProvesSpec)) merkleProvesCard

/-- THE TIED CARD OF 'drawbridgelaw5.MerkleChecks'. -/
def merkleChecksCard : Claim7 := { stood := { row := merkleChecksRow, standIns := [], harness := (true, "d6406f1ed32afb6a2ddb232a2c2f6afc69f2b1cd0c8a7c23464f0cb98ffda306"), looks := false }, kinds := [], alts := [], laidByText := true, laidKinds := [.data], laidTests := true, laidLooks := .later }
def MerkleChecksCardSaid : Prop := Claim7.holds Tryd.pinned (.plain (OpenSpec.ofChange merkleChecksSpec)) merkleChecksCard

/-- THE TIED CARD OF 'drawbridgelaw5.MerkleParts'. -/
def merklePartsCard : Claim7 := { stood := { row := merklePartsRow, standIns := [], harness := (true, "d6406f1ed32afb6a2ddb232a2c2f6afc69f2b1cd0c8a7c23464f0cb98ffda306"), looks := false }, kinds := [], alts := [], laidByText := true, laidKinds := [.data], laidTests := true, laidLooks := .later }
def MerklePartsCardSaid : Prop := Claim7.holds Tryd.pinned (.plain (OpenSpec.ofChange merklePartsSpec)) merklePartsCard

/-- THE SECOND FORM's CARD OF 'drawbridgelaw5.MerkleMakes'. -/
def merkleMakesUptoCard : Claim7 := { stood := { row := merkleMakesUptoRow, standIns := [], harness := (true, "d6406f1ed32afb6a2ddb232a2c2f6afc69f2b1cd0c8a7c23464f0cb98ffda306"), looks := false }, kinds := [], alts := [], laidByText := true, laidKinds := [.data], laidTests := true, laidLooks := .later }
def MerkleMakesUptoCardSaid : Prop := Claim7.holds Tryd.pinned (.plain (OpenSpec.upto merkleMakesSpec)) merkleMakesUptoCard

/-- THE SECOND FORM's CARD OF 'drawbridgelaw5.MerkleProves'. -/
def merkleProvesUptoCard : Claim7 := { stood := { row := merkleProvesUptoRow, standIns := [], harness := (true, "d6406f1ed32afb6a2ddb232a2c2f6afc69f2b1cd0c8a7c23464f0cb98ffda306"), looks := false }, kinds := [], alts := [], laidByText := true, laidKinds := [.data], laidTests := true, laidLooks := .later }
def MerkleProvesUptoCardSaid : Prop := Claim7.holds Tryd.pinned (.plain (OpenSpec.upto merkleProvesSpec)) merkleProvesUptoCard

/-- THE SECOND FORM's CARD OF 'drawbridgelaw5.MerkleChecks'. -/
def merkleChecksUptoCard : Claim7 := { stood := { row := merkleChecksUptoRow, standIns := [], harness := (true, "d6406f1ed32afb6a2ddb232a2c2f6afc69f2b1cd0c8a7c23464f0cb98ffda306"), looks := false }, kinds := [], alts := [], laidByText := true, laidKinds := [.data], laidTests := true, laidLooks := .later }
def MerkleChecksUptoCardSaid : Prop := Claim7.holds Tryd.pinned (.plain (OpenSpec.upto merkleChecksSpec)) merkleChecksUptoCard

/-- THE SECOND FORM's CARD OF 'drawbridgelaw5.MerkleParts'. -/
def merklePartsUptoCard : Claim7 := { stood := { row := merklePartsUptoRow, standIns := [], harness := (true, "d6406f1ed32afb6a2ddb232a2c2f6afc69f2b1cd0c8a7c23464f0cb98ffda306"), looks := false }, kinds := [], alts := [], laidByText := true, laidKinds := [.data], laidTests := true, laidLooks := .later }
def MerklePartsUptoCardSaid : Prop := Claim7.holds Tryd.pinned (.plain (OpenSpec.upto merklePartsSpec)) merklePartsUptoCard
end Rows
end Go.Proofs.YthdejiadokpafaaDoor
