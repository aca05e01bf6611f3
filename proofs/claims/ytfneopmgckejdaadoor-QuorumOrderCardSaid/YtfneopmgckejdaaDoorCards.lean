/-
  DERIVED. GIVEN WITH THE SEED: THE CARDS: each row of YtfneopmgckejdaaDoorRows.lean that lists a variable, with what it lists TIED to the program's text (the seventh form; the later family's looks); each row that meets fmt, with fmt's text TOLD by the authors' own Lean function (tested against real Go, not proved from fmt's source: count such statements apart). THE CARD IS WHAT COUNTS. Prove the row's statement (the work); the ties are given (YtfneopmgckejdaaDoorTie.lean); close each card by the builder's one call (the guide's Derived/Test/ToyasCard.lean, 'card_holds'). Laid BY PROGRAM, IN A SANDBOX (cutbox-door.mjs). By AI agents, Wed Nov 11 2026. No macro, syntax, notation, axiom, sorry.
-/
import Derived.Test.YtfneopmgckejdaaDoorRows
import GoSem.ClaimSeven
namespace Go.Proofs.YtfneopmgckejdaaDoor
namespace Rows

/-- THE TIED CARD OF 'drawbridgelaw9.QuorumMay'. -/
def quorumMayCard : Claim7 := { stood := { row := quorumMayRow, standIns := [], harness := (true, "c7c4c9afa37c542d616b5f3df5fb61fce2ea5952d0e2d4240048b1718dce92be"), looks := false }, kinds := [], alts := [], laidByText := true, laidKinds := [.data], laidTests := true, laidLooks := .later }
def QuorumMayCardSaid : Prop := Claim7.holds Tryd.pinned (.plain (OpenSpec.ofChange quorumMaySpec)) quorumMayCard

/-- THE TIED CARD OF 'drawbridgelaw9.QuorumChecks'. -/
def quorumChecksCard : Claim7 := { stood := { row := quorumChecksRow, standIns := [], harness := (true, "c7c4c9afa37c542d616b5f3df5fb61fce2ea5952d0e2d4240048b1718dce92be"), looks := false }, kinds := [], alts := [], laidByText := true, laidKinds := [.data], laidTests := true, laidLooks := .later }
def QuorumChecksCardSaid : Prop := Claim7.holds Tryd.pinned (.plain (OpenSpec.ofChange quorumChecksSpec)) quorumChecksCard

/-- THE TIED CARD OF 'drawbridgelaw9.QuorumMore'. -/
def quorumMoreCard : Claim7 := { stood := { row := quorumMoreRow, standIns := [], harness := (true, "c7c4c9afa37c542d616b5f3df5fb61fce2ea5952d0e2d4240048b1718dce92be"), looks := false }, kinds := [], alts := [], laidByText := true, laidKinds := [.data], laidTests := true, laidLooks := .later }
def QuorumMoreCardSaid : Prop := Claim7.holds Tryd.pinned (.plain (OpenSpec.ofChange quorumMoreSpec)) quorumMoreCard

/-- THE TIED CARD OF 'drawbridgelaw9.QuorumOrder'. -/
def quorumOrderCard : Claim7 := { stood := { row := quorumOrderRow, standIns := [], harness := (true, "c7c4c9afa37c542d616b5f3df5fb61fce2ea5952d0e2d4240048b1718dce92be"), looks := false }, kinds := [], alts := [], laidByText := true, laidKinds := [.data], laidTests := true, laidLooks := .later }
def QuorumOrderCardSaid : Prop := Claim7.holds Tryd.pinned (.plain (OpenSpec.ofChange quorumOrderSpec)) quorumOrderCard

/-- THE SECOND FORM's CARD OF 'drawbridgelaw9.QuorumMay'. -/
def quorumMayUptoCard : Claim7 := { stood := { row := quorumMayUptoRow, standIns := [], harness := (true, "c7c4c9afa37c542d616b5f3df5fb61fce2ea5952d0e2d4240048b1718dce92be"), looks := false }, kinds := [], alts := [], laidByText := true, laidKinds := [.data], laidTests := true, laidLooks := .later }
def QuorumMayUptoCardSaid : Prop := Claim7.holds Tryd.pinned (.plain (OpenSpec.upto quorumMaySpec)) quorumMayUptoCard

/-- THE SECOND FORM's CARD OF 'drawbridgelaw9.QuorumChecks'. -/
def quorumChecksUptoCard : Claim7 := { stood := { row := quorumChecksUptoRow, standIns := [], harness := (true, "c7c4c9afa37c542d616b5f3df5fb61fce2ea5952d0e2d4240048b1718dce92be"), looks := false }, kinds := [], alts := [], laidByText := true, laidKinds := [.data], laidTests := true, laidLooks := .later }
def QuorumChecksUptoCardSaid : Prop := Claim7.holds Tryd.pinned (.plain (OpenSpec.upto quorumChecksSpec)) quorumChecksUptoCard

/-- THE SECOND FORM's CARD OF 'drawbridgelaw9.QuorumMore'. -/
def quorumMoreUptoCard : Claim7 := { stood := { row := quorumMoreUptoRow, standIns := [], harness := (true, "c7c4c9afa37c542d616b5f3df5fb61fce2ea5952d0e2d4240048b1718dce92be"), looks := false }, kinds := [], alts := [], laidByText := true, laidKinds := [.data], laidTests := true, laidLooks := .later }
def QuorumMoreUptoCardSaid : Prop := Claim7.holds Tryd.pinned (.plain (OpenSpec.upto quorumMoreSpec)) quorumMoreUptoCard

/-- THE SECOND FORM's CARD OF 'drawbridgelaw9.QuorumOrder'. -/
def quorumOrderUptoCard : Claim7 := { stood := { row := quorumOrderUptoRow, standIns := [], harness := (true, "c7c4c9afa37c542d616b5f3df5fb61fce2ea5952d0e2d4240048b1718dce92be"), looks := false }, kinds := [], alts := [], laidByText := true, laidKinds := [.data], laidTests := true, laidLooks := .later }
def QuorumOrderUptoCardSaid : Prop := Claim7.holds Tryd.pinned (.plain (OpenSpec.upto quorumOrderSpec)) quorumOrderUptoCard
end Rows
end Go.Proofs.YtfneopmgckejdaaDoor
