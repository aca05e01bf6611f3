/-
  DERIVED. GIVEN WITH THE SEED: THE CARDS: each row of YtimfinachecadaaDoorRows.lean that lists a variable, with what it lists TIED to the program's text (the seventh form; the later family's looks); each row that meets fmt, with fmt's text TOLD by the authors' own Lean function (tested against real Go, not proved from fmt's source: count such statements apart). THE CARD IS WHAT COUNTS. Prove the row's statement (the work); the ties are given (YtimfinachecadaaDoorTie.lean); close each card by the builder's one call (the guide's Derived/Test/ToyasCard.lean, 'card_holds'). Laid BY PROGRAM, IN A SANDBOX (cutbox-door.mjs). By AI agents, Wed Nov 11 2026. No macro, syntax, notation, axiom, sorry.
-/
import Derived.Test.YtimfinachecadaaDoorRows
import GoSem.ClaimSeven
namespace Go.Proofs.YtimfinachecadaaDoor
namespace Rows

/-- THE TIED CARD OF 'drawbridgelaw7.LamportSigns'. -/
def lamportSignsCard : Claim7 := { stood := { row := lamportSignsRow, standIns := [], harness := (true, "4a047b010a4adfa96d7a15958441ebce5084289a49d18e1548719efb37ee8077"), looks := false }, kinds := [], alts := [], laidByText := true, laidKinds := [.data], laidTests := true, laidLooks := .later }
def LamportSignsCardSaid : Prop := Claim7.holds Tryd.pinned (.plain (OpenSpec.ofChange lamportSignsSpec)) lamportSignsCard

/-- THE TIED CARD OF 'drawbridgelaw7.LamportReads'. -/
def lamportReadsCard : Claim7 := { stood := { row := lamportReadsRow, standIns := [], harness := (true, "4a047b010a4adfa96d7a15958441ebce5084289a49d18e1548719efb37ee8077"), looks := false }, kinds := [], alts := [], laidByText := true, laidKinds := [.data], laidTests := true, laidLooks := .later }
def LamportReadsCardSaid : Prop := Claim7.holds Tryd.pinned (.plain (OpenSpec.ofChange lamportReadsSpec)) lamportReadsCard

/-- THE TIED CARD OF 'drawbridgelaw7.LamportHalves'. -/
def lamportHalvesCard : Claim7 := { stood := { row := lamportHalvesRow, standIns := [], harness := (true, "4a047b010a4adfa96d7a15958441ebce5084289a49d18e1548719efb37ee8077"), looks := false }, kinds := [], alts := [], laidByText := true, laidKinds := [.data], laidTests := true, laidLooks := .later }
def LamportHalvesCardSaid : Prop := Claim7.holds Tryd.pinned (.plain (OpenSpec.ofChange lamportHalvesSpec)) lamportHalvesCard

/-- THE TIED CARD OF 'drawbridgelaw7.LamportKeys'. -/
def lamportKeysCard : Claim7 := { stood := { row := lamportKeysRow, standIns := [], harness := (true, "4a047b010a4adfa96d7a15958441ebce5084289a49d18e1548719efb37ee8077"), looks := false }, kinds := [], alts := [], laidByText := true, laidKinds := [.data], laidTests := true, laidLooks := .later }
def LamportKeysCardSaid : Prop := Claim7.holds Tryd.pinned (.plain (OpenSpec.ofChange lamportKeysSpec)) lamportKeysCard

/-- THE TIED CARD OF 'drawbridgelaw7.LamportTwo'. -/
def lamportTwoCard : Claim7 := { stood := { row := lamportTwoRow, standIns := [], harness := (true, "4a047b010a4adfa96d7a15958441ebce5084289a49d18e1548719efb37ee8077"), looks := false }, kinds := [], alts := [], laidByText := true, laidKinds := [.data], laidTests := true, laidLooks := .later }
def LamportTwoCardSaid : Prop := Claim7.holds Tryd.pinned (.plain (OpenSpec.ofChange lamportTwoSpec)) lamportTwoCard

/-- THE SECOND FORM's CARD OF 'drawbridgelaw7.LamportSigns'. -/
def lamportSignsUptoCard : Claim7 := { stood := { row := lamportSignsUptoRow, standIns := [], harness := (true, "4a047b010a4adfa96d7a15958441ebce5084289a49d18e1548719efb37ee8077"), looks := false }, kinds := [], alts := [], laidByText := true, laidKinds := [.data], laidTests := true, laidLooks := .later }
def LamportSignsUptoCardSaid : Prop := Claim7.holds Tryd.pinned (.plain (OpenSpec.upto lamportSignsSpec)) lamportSignsUptoCard

/-- THE SECOND FORM's CARD OF 'drawbridgelaw7.LamportReads'. -/
def lamportReadsUptoCard : Claim7 := { stood := { row := lamportReadsUptoRow, standIns := [], harness := (true, "4a047b010a4adfa96d7a15958441ebce5084289a49d18e1548719efb37ee8077"), looks := false }, kinds := [], alts := [], laidByText := true, laidKinds := [.data], laidTests := true, laidLooks := .later }
def LamportReadsUptoCardSaid : Prop := Claim7.holds Tryd.pinned (.plain (OpenSpec.upto lamportReadsSpec)) lamportReadsUptoCard

/-- THE SECOND FORM's CARD OF 'drawbridgelaw7.LamportHalves'. -/
def lamportHalvesUptoCard : Claim7 := { stood := { row := lamportHalvesUptoRow, standIns := [], harness := (true, "4a047b010a4adfa96d7a15958441ebce5084289a49d18e1548719efb37ee8077"), looks := false }, kinds := [], alts := [], laidByText := true, laidKinds := [.data], laidTests := true, laidLooks := .later }
def LamportHalvesUptoCardSaid : Prop := Claim7.holds Tryd.pinned (.plain (OpenSpec.upto lamportHalvesSpec)) lamportHalvesUptoCard

/-- THE SECOND FORM's CARD OF 'drawbridgelaw7.LamportKeys'. -/
def lamportKeysUptoCard : Claim7 := { stood := { row := lamportKeysUptoRow, standIns := [], harness := (true, "4a047b010a4adfa96d7a15958441ebce5084289a49d18e1548719efb37ee8077"), looks := false }, kinds := [], alts := [], laidByText := true, laidKinds := [.data], laidTests := true, laidLooks := .later }
def LamportKeysUptoCardSaid : Prop := Claim7.holds Tryd.pinned (.plain (OpenSpec.upto lamportKeysSpec)) lamportKeysUptoCard

/-- THE SECOND FORM's CARD OF 'drawbridgelaw7.LamportTwo'. -/
def lamportTwoUptoCard : Claim7 := { stood := { row := lamportTwoUptoRow, standIns := [], harness := (true, "4a047b010a4adfa96d7a15958441ebce5084289a49d18e1548719efb37ee8077"), looks := false }, kinds := [], alts := [], laidByText := true, laidKinds := [.data], laidTests := true, laidLooks := .later }
def LamportTwoUptoCardSaid : Prop := Claim7.holds Tryd.pinned (.plain (OpenSpec.upto lamportTwoSpec)) lamportTwoUptoCard
end Rows
end Go.Proofs.YtimfinachecadaaDoor
