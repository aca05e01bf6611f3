/-
  DERIVED. GIVEN WITH THE SEED: THE CARDS: each row of YtkmfmkonejdjiaaDoorRows.lean that lists a variable, with what it lists TIED to the program's text (the seventh form; the later family's looks); each row that meets fmt, with fmt's text TOLD by the authors' own Lean function (tested against real Go, not proved from fmt's source: count such statements apart). THE CARD IS WHAT COUNTS. Prove the row's statement (the work); the ties are given (YtkmfmkonejdjiaaDoorTie.lean); close each card by the builder's one call (the guide's Derived/Test/ToyasCard.lean, 'card_holds'). Laid BY PROGRAM, IN A SANDBOX (cutbox-door.mjs). By AI agents, Wed Nov 11 2026. No macro, syntax, notation, axiom, sorry.
-/
import Derived.Test.YtkmfmkonejdjiaaDoorRows
import GoSem.ClaimSeven
namespace Go.Proofs.YtkmfmkonejdjiaaDoor
namespace Rows

/-- THE TIED CARD OF 'drawbridgelaw8.KeytreeSigns'. -/
def keytreeSignsCard : Claim7 := { stood := { row := keytreeSignsRow, standIns := [], harness := (true, "b2cde0e86fb8f0261c92c5ce518caf091e1dd44e50ba7152d4cab52c35818390"), looks := false }, kinds := [], alts := [], laidByText := true, laidKinds := [.data], laidTests := true, laidLooks := .later }
def KeytreeSignsCardSaid : Prop := Claim7.holds Tryd.pinned (.plain (OpenSpec.ofChange keytreeSignsSpec)) keytreeSignsCard

/-- THE TIED CARD OF 'drawbridgelaw8.KeytreeChecks'. -/
def keytreeChecksCard : Claim7 := { stood := { row := keytreeChecksRow, standIns := [], harness := (true, "b2cde0e86fb8f0261c92c5ce518caf091e1dd44e50ba7152d4cab52c35818390"), looks := false }, kinds := [], alts := [], laidByText := true, laidKinds := [.data], laidTests := true, laidLooks := .later }
def KeytreeChecksCardSaid : Prop := Claim7.holds Tryd.pinned (.plain (OpenSpec.ofChange keytreeChecksSpec)) keytreeChecksCard

/-- THE TIED CARD OF 'drawbridgelaw8.KeytreeAll'. -/
def keytreeAllCard : Claim7 := { stood := { row := keytreeAllRow, standIns := [], harness := (true, "b2cde0e86fb8f0261c92c5ce518caf091e1dd44e50ba7152d4cab52c35818390"), looks := false }, kinds := [], alts := [], laidByText := true, laidKinds := [.data], laidTests := true, laidLooks := .later }
def KeytreeAllCardSaid : Prop := Claim7.holds Tryd.pinned (.plain (OpenSpec.ofChange keytreeAllSpec)) keytreeAllCard

/-- THE TIED CARD OF 'drawbridgelaw8.KeytreePaths'. -/
def keytreePathsCard : Claim7 := { stood := { row := keytreePathsRow, standIns := [], harness := (true, "b2cde0e86fb8f0261c92c5ce518caf091e1dd44e50ba7152d4cab52c35818390"), looks := false }, kinds := [], alts := [], laidByText := true, laidKinds := [.data], laidTests := true, laidLooks := .later }
def KeytreePathsCardSaid : Prop := Claim7.holds Tryd.pinned (.plain (OpenSpec.ofChange keytreePathsSpec)) keytreePathsCard

/-- THE SECOND FORM's CARD OF 'drawbridgelaw8.KeytreeSigns'. -/
def keytreeSignsUptoCard : Claim7 := { stood := { row := keytreeSignsUptoRow, standIns := [], harness := (true, "b2cde0e86fb8f0261c92c5ce518caf091e1dd44e50ba7152d4cab52c35818390"), looks := false }, kinds := [], alts := [], laidByText := true, laidKinds := [.data], laidTests := true, laidLooks := .later }
def KeytreeSignsUptoCardSaid : Prop := Claim7.holds Tryd.pinned (.plain (OpenSpec.upto keytreeSignsSpec)) keytreeSignsUptoCard

/-- THE SECOND FORM's CARD OF 'drawbridgelaw8.KeytreeChecks'. -/
def keytreeChecksUptoCard : Claim7 := { stood := { row := keytreeChecksUptoRow, standIns := [], harness := (true, "b2cde0e86fb8f0261c92c5ce518caf091e1dd44e50ba7152d4cab52c35818390"), looks := false }, kinds := [], alts := [], laidByText := true, laidKinds := [.data], laidTests := true, laidLooks := .later }
def KeytreeChecksUptoCardSaid : Prop := Claim7.holds Tryd.pinned (.plain (OpenSpec.upto keytreeChecksSpec)) keytreeChecksUptoCard

/-- THE SECOND FORM's CARD OF 'drawbridgelaw8.KeytreeAll'. -/
def keytreeAllUptoCard : Claim7 := { stood := { row := keytreeAllUptoRow, standIns := [], harness := (true, "b2cde0e86fb8f0261c92c5ce518caf091e1dd44e50ba7152d4cab52c35818390"), looks := false }, kinds := [], alts := [], laidByText := true, laidKinds := [.data], laidTests := true, laidLooks := .later }
def KeytreeAllUptoCardSaid : Prop := Claim7.holds Tryd.pinned (.plain (OpenSpec.upto keytreeAllSpec)) keytreeAllUptoCard

/-- THE SECOND FORM's CARD OF 'drawbridgelaw8.KeytreePaths'. -/
def keytreePathsUptoCard : Claim7 := { stood := { row := keytreePathsUptoRow, standIns := [], harness := (true, "b2cde0e86fb8f0261c92c5ce518caf091e1dd44e50ba7152d4cab52c35818390"), looks := false }, kinds := [], alts := [], laidByText := true, laidKinds := [.data], laidTests := true, laidLooks := .later }
def KeytreePathsUptoCardSaid : Prop := Claim7.holds Tryd.pinned (.plain (OpenSpec.upto keytreePathsSpec)) keytreePathsUptoCard
end Rows
end Go.Proofs.YtkmfmkonejdjiaaDoor
