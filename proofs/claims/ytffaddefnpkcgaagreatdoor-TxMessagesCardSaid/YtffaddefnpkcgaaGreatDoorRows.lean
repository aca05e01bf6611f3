/-
  NARROWER THAN 'FOR EVERY INPUT', by the rows' own cells (each row's printed sentence says how): TxWrites: laid · TxReads: laid · TxBack: laid · TxMessages: laid · TxKinds: laid · TxDigests: laid.
  DERIVED. THE GIVEN ROWS OF THIS SEAT. 6 by the template 'for every input the law returns true; each argument reads behind the call as it read before'; 0 by the template 'total and deterministic' (their statements: YtffaddefnpkcgaaGreatDoorTotals.lean).
  GIVEN WITH THE SEED: the statements are not yours to turn. If you find one false, say at which input.
  Laid BY PROGRAM, IN A SANDBOX (cutbox-rows.mjs): the forced cells as the released guide's own fill.sh prints them over the translation 15fe5fe6b1463e69… (all of the seat's roots in one cut). By AI agents, Wed Nov 11 2026. No macro, syntax, notation, axiom, sorry.
-/
import Derived.Test.YtffaddefnpkcgaaGreatDoorChecked
import GoSem.Claim
import GoSem.ClaimJoined
import GoSem.ClaimMapViews
import Derived.JoinedTies
import Derived.KernelRfl
namespace Go.Proofs.YtffaddefnpkcgaaGreatDoor
/- THE CELL 'sum', in the pinned program and in every row, IS THE sha256 OF THE DUMP (.gsa) THAT YtffaddefnpkcgaaGreatDoorProg.lean LOADS. Nothing in Lean hashes anything: it is a label: what it is worth is what the hold of that sum in a sandbox is worth. -/
noncomputable def Tryz.pinned : Pinned := { name := "ytffaddefnpkcgaagreatdoor", sum := "15fe5fe6b1463e69c3065b8b9f92a62b23faa58ce8cb515256595ce8f4214b6a", checked := Tryz.checked }
namespace Rows
def none {H : Type} : Left H := { results := [], args := [] }

/- WHAT THE LISTED PACKAGE-LEVEL VARIABLES READ AS WHEN THE CALL BEGINS. Each datum BY PROGRAM (the guide's laid-datum.mjs) off the statement by which the dump's own 'gosem.cut.vars' lays the variable. In a bare row this is a premise. The card (YtffaddefnpkcgaaGreatDoorCards.lean) ties it to the program's text. -/
def laid_drawbridge_hash_keys {H : Type} : DataW H := .agg [.lit (.int .u32 1116352408), .lit (.int .u32 1899447441), .lit (.int .u32 3049323471), .lit (.int .u32 3921009573), .lit (.int .u32 961987163), .lit (.int .u32 1508970993), .lit (.int .u32 2453635748), .lit (.int .u32 2870763221), .lit (.int .u32 3624381080), .lit (.int .u32 310598401), .lit (.int .u32 607225278), .lit (.int .u32 1426881987), .lit (.int .u32 1925078388), .lit (.int .u32 2162078206), .lit (.int .u32 2614888103), .lit (.int .u32 3248222580), .lit (.int .u32 3835390401), .lit (.int .u32 4022224774), .lit (.int .u32 264347078), .lit (.int .u32 604807628), .lit (.int .u32 770255983), .lit (.int .u32 1249150122), .lit (.int .u32 1555081692), .lit (.int .u32 1996064986), .lit (.int .u32 2554220882), .lit (.int .u32 2821834349), .lit (.int .u32 2952996808), .lit (.int .u32 3210313671), .lit (.int .u32 3336571891), .lit (.int .u32 3584528711), .lit (.int .u32 113926993), .lit (.int .u32 338241895), .lit (.int .u32 666307205), .lit (.int .u32 773529912), .lit (.int .u32 1294757372), .lit (.int .u32 1396182291), .lit (.int .u32 1695183700), .lit (.int .u32 1986661051), .lit (.int .u32 2177026350), .lit (.int .u32 2456956037), .lit (.int .u32 2730485921), .lit (.int .u32 2820302411), .lit (.int .u32 3259730800), .lit (.int .u32 3345764771), .lit (.int .u32 3516065817), .lit (.int .u32 3600352804), .lit (.int .u32 4094571909), .lit (.int .u32 275423344), .lit (.int .u32 430227734), .lit (.int .u32 506948616), .lit (.int .u32 659060556), .lit (.int .u32 883997877), .lit (.int .u32 958139571), .lit (.int .u32 1322822218), .lit (.int .u32 1537002063), .lit (.int .u32 1747873779), .lit (.int .u32 1955562222), .lit (.int .u32 2024104815), .lit (.int .u32 2227730452), .lit (.int .u32 2361852424), .lit (.int .u32 2428436474), .lit (.int .u32 2756734187), .lit (.int .u32 3204031479), .lit (.int .u32 3329325298)]

/-- 'drawbridgelaw10.TxWrites': WHATEVER THE INPUT: true; the input reads as it did. -/
def txWritesSpec : ChangeSpec := { name := "txWrites", fn := fun _ => fun
  | [d] => { results := [.lit (.bool true)], args := [d] }
  | _ => none }
def txWritesRow : OpenClaim := { program := "ytffaddefnpkcgaagreatdoor", sum := "15fe5fe6b1463e69c3065b8b9f92a62b23faa58ce8cb515256595ce8f4214b6a", func := "drawbridge/drawbridgelaw10.TxWrites", spec := "txWrites", unfollowed := true, recurses := true, named := ["drawbridge/hash.keys"], plainKeys := false, apart := false, laid := [("drawbridge/hash.keys", laid_drawbridge_hash_keys)] }
def TxWritesSaid : Prop := txWritesRow.holds Tryz.pinned (OpenSpec.ofChange txWritesSpec)

/-- ITS FALSE NEIGHBOUR: 'it returns false'. Refute it at one input. -/
def txWritesWrong : ChangeSpec := { name := "txWrites", fn := fun _ => fun
  | [d] => { results := [.lit (.bool false)], args := [d] }
  | _ => none }
def TxWritesWrongFalsely : Prop := txWritesRow.holds Tryz.pinned (OpenSpec.ofChange txWritesWrong)

/-- 'drawbridgelaw10.TxReads': WHATEVER THE INPUT: true; the input reads as it did. -/
def txReadsSpec : ChangeSpec := { name := "txReads", fn := fun _ => fun
  | [d] => { results := [.lit (.bool true)], args := [d] }
  | _ => none }
def txReadsRow : OpenClaim := { program := "ytffaddefnpkcgaagreatdoor", sum := "15fe5fe6b1463e69c3065b8b9f92a62b23faa58ce8cb515256595ce8f4214b6a", func := "drawbridge/drawbridgelaw10.TxReads", spec := "txReads", unfollowed := true, recurses := true, named := ["drawbridge/hash.keys"], plainKeys := false, apart := false, laid := [("drawbridge/hash.keys", laid_drawbridge_hash_keys)] }
def TxReadsSaid : Prop := txReadsRow.holds Tryz.pinned (OpenSpec.ofChange txReadsSpec)

/-- ITS FALSE NEIGHBOUR: 'it returns false'. Refute it at one input. -/
def txReadsWrong : ChangeSpec := { name := "txReads", fn := fun _ => fun
  | [d] => { results := [.lit (.bool false)], args := [d] }
  | _ => none }
def TxReadsWrongFalsely : Prop := txReadsRow.holds Tryz.pinned (OpenSpec.ofChange txReadsWrong)

/-- 'drawbridgelaw10.TxBack': WHATEVER THE INPUT: true; the input reads as it did. -/
def txBackSpec : ChangeSpec := { name := "txBack", fn := fun _ => fun
  | [d1, d2] => { results := [.lit (.bool true)], args := [d1, d2] }
  | _ => none }
def txBackRow : OpenClaim := { program := "ytffaddefnpkcgaagreatdoor", sum := "15fe5fe6b1463e69c3065b8b9f92a62b23faa58ce8cb515256595ce8f4214b6a", func := "drawbridge/drawbridgelaw10.TxBack", spec := "txBack", unfollowed := true, recurses := true, named := ["drawbridge/hash.keys"], plainKeys := false, apart := false, laid := [("drawbridge/hash.keys", laid_drawbridge_hash_keys)] }
def TxBackSaid : Prop := txBackRow.holds Tryz.pinned (OpenSpec.ofChange txBackSpec)

/-- ITS FALSE NEIGHBOUR: 'it returns false'. Refute it at one input. -/
def txBackWrong : ChangeSpec := { name := "txBack", fn := fun _ => fun
  | [d1, d2] => { results := [.lit (.bool false)], args := [d1, d2] }
  | _ => none }
def TxBackWrongFalsely : Prop := txBackRow.holds Tryz.pinned (OpenSpec.ofChange txBackWrong)

/-- 'drawbridgelaw10.TxMessages': WHATEVER THE INPUT: true; the input reads as it did. -/
def txMessagesSpec : ChangeSpec := { name := "txMessages", fn := fun _ => fun
  | [d1, d2, d3] => { results := [.lit (.bool true)], args := [d1, d2, d3] }
  | _ => none }
def txMessagesRow : OpenClaim := { program := "ytffaddefnpkcgaagreatdoor", sum := "15fe5fe6b1463e69c3065b8b9f92a62b23faa58ce8cb515256595ce8f4214b6a", func := "drawbridge/drawbridgelaw10.TxMessages", spec := "txMessages", unfollowed := true, recurses := true, named := ["drawbridge/hash.keys"], plainKeys := false, apart := false, laid := [("drawbridge/hash.keys", laid_drawbridge_hash_keys)] }
def TxMessagesSaid : Prop := txMessagesRow.holds Tryz.pinned (OpenSpec.ofChange txMessagesSpec)

/-- ITS FALSE NEIGHBOUR: 'it returns false'. Refute it at one input. -/
def txMessagesWrong : ChangeSpec := { name := "txMessages", fn := fun _ => fun
  | [d1, d2, d3] => { results := [.lit (.bool false)], args := [d1, d2, d3] }
  | _ => none }
def TxMessagesWrongFalsely : Prop := txMessagesRow.holds Tryz.pinned (OpenSpec.ofChange txMessagesWrong)

/-- 'drawbridgelaw10.TxKinds': WHATEVER THE INPUT: true; the input reads as it did. -/
def txKindsSpec : ChangeSpec := { name := "txKinds", fn := fun _ => fun
  | [d1, d2] => { results := [.lit (.bool true)], args := [d1, d2] }
  | _ => none }
def txKindsRow : OpenClaim := { program := "ytffaddefnpkcgaagreatdoor", sum := "15fe5fe6b1463e69c3065b8b9f92a62b23faa58ce8cb515256595ce8f4214b6a", func := "drawbridge/drawbridgelaw10.TxKinds", spec := "txKinds", unfollowed := true, recurses := true, named := ["drawbridge/hash.keys"], plainKeys := false, apart := false, laid := [("drawbridge/hash.keys", laid_drawbridge_hash_keys)] }
def TxKindsSaid : Prop := txKindsRow.holds Tryz.pinned (OpenSpec.ofChange txKindsSpec)

/-- ITS FALSE NEIGHBOUR: 'it returns false'. Refute it at one input. -/
def txKindsWrong : ChangeSpec := { name := "txKinds", fn := fun _ => fun
  | [d1, d2] => { results := [.lit (.bool false)], args := [d1, d2] }
  | _ => none }
def TxKindsWrongFalsely : Prop := txKindsRow.holds Tryz.pinned (OpenSpec.ofChange txKindsWrong)

/-- 'drawbridgelaw10.TxDigests': WHATEVER THE INPUT: true; the input reads as it did. -/
def txDigestsSpec : ChangeSpec := { name := "txDigests", fn := fun _ => fun
  | [d1, d2] => { results := [.lit (.bool true)], args := [d1, d2] }
  | _ => none }
def txDigestsRow : OpenClaim := { program := "ytffaddefnpkcgaagreatdoor", sum := "15fe5fe6b1463e69c3065b8b9f92a62b23faa58ce8cb515256595ce8f4214b6a", func := "drawbridge/drawbridgelaw10.TxDigests", spec := "txDigests", unfollowed := true, recurses := true, named := ["drawbridge/hash.keys"], plainKeys := false, apart := false, laid := [("drawbridge/hash.keys", laid_drawbridge_hash_keys)] }
def TxDigestsSaid : Prop := txDigestsRow.holds Tryz.pinned (OpenSpec.ofChange txDigestsSpec)

/-- ITS FALSE NEIGHBOUR: 'it returns false'. Refute it at one input. -/
def txDigestsWrong : ChangeSpec := { name := "txDigests", fn := fun _ => fun
  | [d1, d2] => { results := [.lit (.bool false)], args := [d1, d2] }
  | _ => none }
def TxDigestsWrongFalsely : Prop := txDigestsRow.holds Tryz.pinned (OpenSpec.ofChange txDigestsWrong)

/- THE SECOND FORM. 'bulk': how many values and letters a reading holds, each counted each time it is reached (what is shared counts as often as it is met; a slice's spare places count too). A statement '..UptoSaid' is the law's where the arguments, and the package variables that the reading takes, are together of bulk at most 1048576: NARROWER than '..Said'. Prove '..Said' where nothing that the law and all that it calls make is longer than what came in: it says more and counts as full. Else prove '..UptoSaid'. A law counts once. -/
mutual
def uptoBulk {H : Type} : DataW H → Nat
  | .lit (.string bytes) => bytes.length + 1
  | .lit _ => 1
  | .nil => 1
  | .ptr d => uptoBulk d + 1
  | .slice elems spare => uptoBulkAll elems + uptoBulkAll spare + 1
  | .agg parts => uptoBulkAll parts + 1
  | .iface _ d => uptoBulk d + 1
  | .map entries => uptoBulkEntries entries + 1
  | .held _ => 1
def uptoBulkAll {H : Type} : List (DataW H) → Nat
  | [] => 0
  | d :: r => uptoBulk d + uptoBulkAll r
def uptoBulkEntries {H : Type} : List (Lit × DataW H) → Nat
  | [] => 0
  | x :: r => uptoBulkEntry x + uptoBulkEntries r
def uptoBulkEntry {H : Type} : Lit × DataW H → Nat
  | (.string bytes, d) => bytes.length + uptoBulk d + 1
  | (_, d) => uptoBulk d + 1
 end
def uptoSmall : (H : Type) → List (DataW H) → Bool := fun _ ds => decide (uptoBulkAll ds ≤ 1048576)
def OpenSpec.upto (s : _root_.Go.ChangeSpec) : _root_.Go.OpenSpec := { _root_.Go.OpenSpec.ofChange s with cond := some uptoSmall }

/-- 'drawbridgelaw10.TxWrites', WHERE WHAT IT READS IS OF BULK AT MOST 1048576: true; the input reads as it did. -/
def txWritesUptoRow : OpenClaim := { program := "ytffaddefnpkcgaagreatdoor", sum := "15fe5fe6b1463e69c3065b8b9f92a62b23faa58ce8cb515256595ce8f4214b6a", func := "drawbridge/drawbridgelaw10.TxWrites", spec := "txWrites", unfollowed := true, recurses := true, named := ["drawbridge/hash.keys"], plainKeys := false, apart := false, laid := [("drawbridge/hash.keys", laid_drawbridge_hash_keys)], narrowed := true }
def TxWritesUptoSaid : Prop := txWritesUptoRow.holds Tryz.pinned (OpenSpec.upto txWritesSpec)

/-- 'drawbridgelaw10.TxReads', WHERE WHAT IT READS IS OF BULK AT MOST 1048576: true; the input reads as it did. -/
def txReadsUptoRow : OpenClaim := { program := "ytffaddefnpkcgaagreatdoor", sum := "15fe5fe6b1463e69c3065b8b9f92a62b23faa58ce8cb515256595ce8f4214b6a", func := "drawbridge/drawbridgelaw10.TxReads", spec := "txReads", unfollowed := true, recurses := true, named := ["drawbridge/hash.keys"], plainKeys := false, apart := false, laid := [("drawbridge/hash.keys", laid_drawbridge_hash_keys)], narrowed := true }
def TxReadsUptoSaid : Prop := txReadsUptoRow.holds Tryz.pinned (OpenSpec.upto txReadsSpec)

/-- 'drawbridgelaw10.TxBack', WHERE WHAT IT READS IS OF BULK AT MOST 1048576: true; the input reads as it did. -/
def txBackUptoRow : OpenClaim := { program := "ytffaddefnpkcgaagreatdoor", sum := "15fe5fe6b1463e69c3065b8b9f92a62b23faa58ce8cb515256595ce8f4214b6a", func := "drawbridge/drawbridgelaw10.TxBack", spec := "txBack", unfollowed := true, recurses := true, named := ["drawbridge/hash.keys"], plainKeys := false, apart := false, laid := [("drawbridge/hash.keys", laid_drawbridge_hash_keys)], narrowed := true }
def TxBackUptoSaid : Prop := txBackUptoRow.holds Tryz.pinned (OpenSpec.upto txBackSpec)

/-- 'drawbridgelaw10.TxMessages', WHERE WHAT IT READS IS OF BULK AT MOST 1048576: true; the input reads as it did. -/
def txMessagesUptoRow : OpenClaim := { program := "ytffaddefnpkcgaagreatdoor", sum := "15fe5fe6b1463e69c3065b8b9f92a62b23faa58ce8cb515256595ce8f4214b6a", func := "drawbridge/drawbridgelaw10.TxMessages", spec := "txMessages", unfollowed := true, recurses := true, named := ["drawbridge/hash.keys"], plainKeys := false, apart := false, laid := [("drawbridge/hash.keys", laid_drawbridge_hash_keys)], narrowed := true }
def TxMessagesUptoSaid : Prop := txMessagesUptoRow.holds Tryz.pinned (OpenSpec.upto txMessagesSpec)

/-- 'drawbridgelaw10.TxKinds', WHERE WHAT IT READS IS OF BULK AT MOST 1048576: true; the input reads as it did. -/
def txKindsUptoRow : OpenClaim := { program := "ytffaddefnpkcgaagreatdoor", sum := "15fe5fe6b1463e69c3065b8b9f92a62b23faa58ce8cb515256595ce8f4214b6a", func := "drawbridge/drawbridgelaw10.TxKinds", spec := "txKinds", unfollowed := true, recurses := true, named := ["drawbridge/hash.keys"], plainKeys := false, apart := false, laid := [("drawbridge/hash.keys", laid_drawbridge_hash_keys)], narrowed := true }
def TxKindsUptoSaid : Prop := txKindsUptoRow.holds Tryz.pinned (OpenSpec.upto txKindsSpec)

/-- 'drawbridgelaw10.TxDigests', WHERE WHAT IT READS IS OF BULK AT MOST 1048576: true; the input reads as it did. -/
def txDigestsUptoRow : OpenClaim := { program := "ytffaddefnpkcgaagreatdoor", sum := "15fe5fe6b1463e69c3065b8b9f92a62b23faa58ce8cb515256595ce8f4214b6a", func := "drawbridge/drawbridgelaw10.TxDigests", spec := "txDigests", unfollowed := true, recurses := true, named := ["drawbridge/hash.keys"], plainKeys := false, apart := false, laid := [("drawbridge/hash.keys", laid_drawbridge_hash_keys)], narrowed := true }
def TxDigestsUptoSaid : Prop := txDigestsUptoRow.holds Tryz.pinned (OpenSpec.upto txDigestsSpec)

end Rows
end Go.Proofs.YtffaddefnpkcgaaGreatDoor
