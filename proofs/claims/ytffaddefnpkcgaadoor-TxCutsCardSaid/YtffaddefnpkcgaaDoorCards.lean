/-
  DERIVED. GIVEN WITH THE SEED: THE CARDS: each row of YtffaddefnpkcgaaDoorRows.lean that lists a variable, with what it lists TIED to the program's text (the seventh form; the later family's looks); each row that meets fmt, with fmt's text TOLD by the authors' own Lean function (tested against real Go, not proved from fmt's source: count such statements apart). THE CARD IS WHAT COUNTS. Prove the row's statement (the work); the ties are given (YtffaddefnpkcgaaDoorTie.lean); close each card by the builder's one call (the guide's Derived/Test/ToyasCard.lean, 'card_holds'). Laid BY PROGRAM, IN A SANDBOX (cutbox-door.mjs). By AI agents, Wed Nov 11 2026. No macro, syntax, notation, axiom, sorry.
-/
import Derived.Test.YtffaddefnpkcgaaDoorRows
import GoSem.ClaimSeven
namespace Go.Proofs.YtffaddefnpkcgaaDoor
namespace Rows

/-- THE TIED CARD OF 'drawbridgelaw10.TxCuts'. -/
def txCutsCard : Claim7 := { stood := { row := txCutsRow, standIns := [], harness := (true, "99f1cd6c7f68002136be21c30fd1ae04bd5e00022e1fb5fc085a7d5048235ee9"), looks := true }, kinds := [], alts := [], laidByText := true, laidKinds := [.data], laidTests := true, laidLooks := .later }
def TxCutsCardSaid : Prop := Claim7.holds Tryd.pinned (.plain (OpenSpec.ofChange txCutsSpec)) txCutsCard

/-- THE SECOND FORM's CARD OF 'drawbridgelaw10.TxCuts'. -/
def txCutsUptoCard : Claim7 := { stood := { row := txCutsUptoRow, standIns := [], harness := (true, "99f1cd6c7f68002136be21c30fd1ae04bd5e00022e1fb5fc085a7d5048235ee9"), looks := true }, kinds := [], alts := [], laidByText := true, laidKinds := [.data], laidTests := true, laidLooks := .later }
def TxCutsUptoCardSaid : Prop := Claim7.holds Tryd.pinned (.plain (OpenSpec.upto txCutsSpec)) txCutsUptoCard
end Rows
end Go.Proofs.YtffaddefnpkcgaaDoor
