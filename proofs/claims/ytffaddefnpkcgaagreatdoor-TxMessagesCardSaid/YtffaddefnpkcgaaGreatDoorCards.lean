/-
  DERIVED. GIVEN WITH THE SEED: THE CARDS: each row of YtffaddefnpkcgaaGreatDoorRows.lean that lists a variable, with what it lists TIED to the program's text (the seventh form; the later family's looks); each row that meets fmt, with fmt's text TOLD by the authors' own Lean function (tested against real Go, not proved from fmt's source: count such statements apart). THE CARD IS WHAT COUNTS. Prove the row's statement (the work); the ties are given (YtffaddefnpkcgaaGreatDoorTie.lean); close each card by the builder's one call (the guide's Derived/Test/ToyasCard.lean, 'card_holds'). Laid BY PROGRAM, IN A SANDBOX (cutbox-door.mjs). By AI agents, Wed Nov 11 2026. No macro, syntax, notation, axiom, sorry.
-/
import Derived.Test.YtffaddefnpkcgaaGreatDoorRows
import GoSem.ClaimSeven
namespace Go.Proofs.YtffaddefnpkcgaaGreatDoor
namespace Rows

/-- THE TIED CARD OF 'drawbridgelaw10.TxWrites'. -/
def txWritesCard : Claim7 := { stood := { row := txWritesRow, standIns := [], harness := (true, "cec0eee617081e9393c3e1e5e5c0e2e2f9ec7efe91a74e6f7f88ae16184c2ae4"), looks := true }, kinds := [], alts := [], laidByText := true, laidKinds := [.data], laidTests := true, laidLooks := .later }
def TxWritesCardSaid : Prop := Claim7.holds Tryz.pinned (.plain (OpenSpec.ofChange txWritesSpec)) txWritesCard

/-- THE TIED CARD OF 'drawbridgelaw10.TxReads'. -/
def txReadsCard : Claim7 := { stood := { row := txReadsRow, standIns := [], harness := (true, "cec0eee617081e9393c3e1e5e5c0e2e2f9ec7efe91a74e6f7f88ae16184c2ae4"), looks := true }, kinds := [], alts := [], laidByText := true, laidKinds := [.data], laidTests := true, laidLooks := .later }
def TxReadsCardSaid : Prop := Claim7.holds Tryz.pinned (.plain (OpenSpec.ofChange txReadsSpec)) txReadsCard

/-- THE TIED CARD OF 'drawbridgelaw10.TxBack'. -/
def txBackCard : Claim7 := { stood := { row := txBackRow, standIns := [], harness := (true, "cec0eee617081e9393c3e1e5e5c0e2e2f9ec7efe91a74e6f7f88ae16184c2ae4"), looks := true }, kinds := [], alts := [], laidByText := true, laidKinds := [.data], laidTests := true, laidLooks := .later }
def TxBackCardSaid : Prop := Claim7.holds Tryz.pinned (.plain (OpenSpec.ofChange txBackSpec)) txBackCard

/-- THE TIED CARD OF 'drawbridgelaw10.TxMessages'. -/
def txMessagesCard : Claim7 := { stood := { row := txMessagesRow, standIns := [], harness := (true, "cec0eee617081e9393c3e1e5e5c0e2e2f9ec7efe91a74e6f7f88ae16184c2ae4"), looks := true }, kinds := [], alts := [], laidByText := true, laidKinds := [.data], laidTests := true, laidLooks := .later }
def TxMessagesCardSaid : Prop := Claim7.holds Tryz.pinned (.plain (OpenSpec.ofChange txMessagesSpec)) txMessagesCard

/-- THE TIED CARD OF 'drawbridgelaw10.TxKinds'. -/
def txKindsCard : Claim7 := { stood := { row := txKindsRow, standIns := [], harness := (true, "cec0eee617081e9393c3e1e5e5c0e2e2f9ec7efe91a74e6f7f88ae16184c2ae4"), looks := true }, kinds := [], alts := [], laidByText := true, laidKinds := [.data], laidTests := true, laidLooks := .later }
def TxKindsCardSaid : Prop := Claim7.holds Tryz.pinned (.plain (OpenSpec.ofChange txKindsSpec)) txKindsCard

/-- THE TIED CARD OF 'drawbridgelaw10.TxDigests'. -/
def txDigestsCard : Claim7 := { stood := { row := txDigestsRow, standIns := [], harness := (true, "cec0eee617081e9393c3e1e5e5c0e2e2f9ec7efe91a74e6f7f88ae16184c2ae4"), looks := true }, kinds := [], alts := [], laidByText := true, laidKinds := [.data], laidTests := true, laidLooks := .later }
def TxDigestsCardSaid : Prop := Claim7.holds Tryz.pinned (.plain (OpenSpec.ofChange txDigestsSpec)) txDigestsCard

/-- THE SECOND FORM's CARD OF 'drawbridgelaw10.TxWrites'. -/
def txWritesUptoCard : Claim7 := { stood := { row := txWritesUptoRow, standIns := [], harness := (true, "cec0eee617081e9393c3e1e5e5c0e2e2f9ec7efe91a74e6f7f88ae16184c2ae4"), looks := true }, kinds := [], alts := [], laidByText := true, laidKinds := [.data], laidTests := true, laidLooks := .later }
def TxWritesUptoCardSaid : Prop := Claim7.holds Tryz.pinned (.plain (OpenSpec.upto txWritesSpec)) txWritesUptoCard

/-- THE SECOND FORM's CARD OF 'drawbridgelaw10.TxReads'. -/
def txReadsUptoCard : Claim7 := { stood := { row := txReadsUptoRow, standIns := [], harness := (true, "cec0eee617081e9393c3e1e5e5c0e2e2f9ec7efe91a74e6f7f88ae16184c2ae4"), looks := true }, kinds := [], alts := [], laidByText := true, laidKinds := [.data], laidTests := true, laidLooks := .later }
def TxReadsUptoCardSaid : Prop := Claim7.holds Tryz.pinned (.plain (OpenSpec.upto txReadsSpec)) txReadsUptoCard

/-- THE SECOND FORM's CARD OF 'drawbridgelaw10.TxBack'. -/
def txBackUptoCard : Claim7 := { stood := { row := txBackUptoRow, standIns := [], harness := (true, "cec0eee617081e9393c3e1e5e5c0e2e2f9ec7efe91a74e6f7f88ae16184c2ae4"), looks := true }, kinds := [], alts := [], laidByText := true, laidKinds := [.data], laidTests := true, laidLooks := .later }
def TxBackUptoCardSaid : Prop := Claim7.holds Tryz.pinned (.plain (OpenSpec.upto txBackSpec)) txBackUptoCard

/-- THE SECOND FORM's CARD OF 'drawbridgelaw10.TxMessages'. -/
def txMessagesUptoCard : Claim7 := { stood := { row := txMessagesUptoRow, standIns := [], harness := (true, "cec0eee617081e9393c3e1e5e5c0e2e2f9ec7efe91a74e6f7f88ae16184c2ae4"), looks := true }, kinds := [], alts := [], laidByText := true, laidKinds := [.data], laidTests := true, laidLooks := .later }
def TxMessagesUptoCardSaid : Prop := Claim7.holds Tryz.pinned (.plain (OpenSpec.upto txMessagesSpec)) txMessagesUptoCard

/-- THE SECOND FORM's CARD OF 'drawbridgelaw10.TxKinds'. -/
def txKindsUptoCard : Claim7 := { stood := { row := txKindsUptoRow, standIns := [], harness := (true, "cec0eee617081e9393c3e1e5e5c0e2e2f9ec7efe91a74e6f7f88ae16184c2ae4"), looks := true }, kinds := [], alts := [], laidByText := true, laidKinds := [.data], laidTests := true, laidLooks := .later }
def TxKindsUptoCardSaid : Prop := Claim7.holds Tryz.pinned (.plain (OpenSpec.upto txKindsSpec)) txKindsUptoCard

/-- THE SECOND FORM's CARD OF 'drawbridgelaw10.TxDigests'. -/
def txDigestsUptoCard : Claim7 := { stood := { row := txDigestsUptoRow, standIns := [], harness := (true, "cec0eee617081e9393c3e1e5e5c0e2e2f9ec7efe91a74e6f7f88ae16184c2ae4"), looks := true }, kinds := [], alts := [], laidByText := true, laidKinds := [.data], laidTests := true, laidLooks := .later }
def TxDigestsUptoCardSaid : Prop := Claim7.holds Tryz.pinned (.plain (OpenSpec.upto txDigestsSpec)) txDigestsUptoCard
end Rows
end Go.Proofs.YtffaddefnpkcgaaGreatDoor
