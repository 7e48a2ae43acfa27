/-
  NARROWER THAN 'FOR EVERY INPUT', by the rows' own cells (each row's printed sentence says how): MemoriesStore: laid · MemoriesOrder: laid.
  DERIVED. THE GIVEN ROWS OF THIS SEAT. 2 by the template 'for every input the law returns true; each argument reads behind the call as it read before'; 0 by the template 'total and deterministic' (their statements: YtcaikkfcjeojiaaDoorTotals.lean).
  GIVEN WITH THE SEED: the statements are not yours to turn. If you find one false, say at which input.
  Laid BY PROGRAM, IN A SANDBOX (cutbox-rows.mjs): the forced cells as the released guide's own fill.sh prints them over the translation 2e108477a19ed21a… (all of the seat's roots in one cut). By AI agents, Wed Nov 11 2026. No macro, syntax, notation, axiom, sorry.
-/
import Derived.Test.YtcaikkfcjeojiaaDoorChecked
import GoSem.Claim
import GoSem.ClaimJoined
import GoSem.ClaimMapViews
import Derived.JoinedTies
import Derived.KernelRfl
namespace Go.Proofs.YtcaikkfcjeojiaaDoor
/- THE CELL 'sum', in the pinned program and in every row, IS THE sha256 OF THE DUMP (.gsa) THAT YtcaikkfcjeojiaaDoorProg.lean LOADS. Nothing in Lean hashes anything: it is a label: what it is worth is what the hold of that sum in a sandbox is worth. -/
noncomputable def Tryd.pinned : Pinned := { name := "ytcaikkfcjeojiaadoor", sum := "2e108477a19ed21aa7fbe88eb8bd899d64d3d3ee89279428237ba02b0264fc3c", checked := Tryd.checked }
namespace Rows
def none {H : Type} : Left H := { results := [], args := [] }

/- WHAT THE LISTED PACKAGE-LEVEL VARIABLES READ AS WHEN THE CALL BEGINS. Each datum BY PROGRAM (the guide's laid-datum.mjs) off the statement by which the dump's own 'gosem.cut.vars' lays the variable. In a bare row this is a premise. The card (YtcaikkfcjeojiaaDoorCards.lean) ties it to the program's text. -/
def laid_probecard_logic_characters {H : Type} : DataW H := .agg [.lit (.int .u8 48), .lit (.int .u8 49), .lit (.int .u8 88), .lit (.int .u8 90)]

/-- 'probecardlaw09.MemoriesStore': WHATEVER THE INPUT: true; the input reads as it did. -/
def memoriesStoreSpec : ChangeSpec := { name := "memoriesStore", fn := fun _ => fun
  | [d1, d2] => { results := [.lit (.bool true)], args := [d1, d2] }
  | _ => none }
def memoriesStoreRow : OpenClaim := { program := "ytcaikkfcjeojiaadoor", sum := "2e108477a19ed21aa7fbe88eb8bd899d64d3d3ee89279428237ba02b0264fc3c", func := "probecard/probecardlaw09.MemoriesStore", spec := "memoriesStore", unfollowed := true, recurses := true, named := ["probecard/logic.characters"], apart := false, laid := [("probecard/logic.characters", laid_probecard_logic_characters)] }
def MemoriesStoreSaid : Prop := memoriesStoreRow.holds Tryd.pinned (OpenSpec.ofChange memoriesStoreSpec)

/-- ITS FALSE NEIGHBOUR: 'it returns false'. Refute it at one input. -/
def memoriesStoreWrong : ChangeSpec := { name := "memoriesStore", fn := fun _ => fun
  | [d1, d2] => { results := [.lit (.bool false)], args := [d1, d2] }
  | _ => none }
def MemoriesStoreWrongFalsely : Prop := memoriesStoreRow.holds Tryd.pinned (OpenSpec.ofChange memoriesStoreWrong)

/-- 'probecardlaw09.MemoriesOrder': WHATEVER THE INPUT: true; the input reads as it did. -/
def memoriesOrderSpec : ChangeSpec := { name := "memoriesOrder", fn := fun _ => fun
  | [d1, d2] => { results := [.lit (.bool true)], args := [d1, d2] }
  | _ => none }
def memoriesOrderRow : OpenClaim := { program := "ytcaikkfcjeojiaadoor", sum := "2e108477a19ed21aa7fbe88eb8bd899d64d3d3ee89279428237ba02b0264fc3c", func := "probecard/probecardlaw09.MemoriesOrder", spec := "memoriesOrder", unfollowed := true, recurses := true, named := ["probecard/logic.characters"], apart := false, laid := [("probecard/logic.characters", laid_probecard_logic_characters)] }
def MemoriesOrderSaid : Prop := memoriesOrderRow.holds Tryd.pinned (OpenSpec.ofChange memoriesOrderSpec)

/-- ITS FALSE NEIGHBOUR: 'it returns false'. Refute it at one input. -/
def memoriesOrderWrong : ChangeSpec := { name := "memoriesOrder", fn := fun _ => fun
  | [d1, d2] => { results := [.lit (.bool false)], args := [d1, d2] }
  | _ => none }
def MemoriesOrderWrongFalsely : Prop := memoriesOrderRow.holds Tryd.pinned (OpenSpec.ofChange memoriesOrderWrong)

/- THE SECOND FORM. 'bulk': how many values and letters a reading holds, each counted each time it is reached (what is shared counts as often as it is met; a slice's spare places count too). A statement '..UptoSaid' is the law's where the arguments, and the package variables that the reading takes, are together of bulk at most 1048576: NARROWER than '..Said'. Prove '..Said' where nothing that the law and all that it calls make is longer than what came in: it says more and counts as full. Else prove '..UptoSaid'. A law counts once. -/
mutual
def uptoBulk {H : Type} : DataW H → Nat
  | .lit (.string bytes) => bytes.length + 1
  | .lit _ => 1
  | .nil => 1
  | .ptr d => uptoBulk d + 1
  | .slice elems spare => uptoBulkAll elems + uptoBulkAll spare + 1
  | .agg parts => uptoBulkAll parts + 1
  | .iface _ d => uptoBulk d + 1
  | .map entries => uptoBulkEntries entries + 1
  | .held _ => 1
def uptoBulkAll {H : Type} : List (DataW H) → Nat
  | [] => 0
  | d :: r => uptoBulk d + uptoBulkAll r
def uptoBulkEntries {H : Type} : List (Lit × DataW H) → Nat
  | [] => 0
  | x :: r => uptoBulkEntry x + uptoBulkEntries r
def uptoBulkEntry {H : Type} : Lit × DataW H → Nat
  | (.string bytes, d) => bytes.length + uptoBulk d + 1
  | (_, d) => uptoBulk d + 1
 end
def uptoSmall : (H : Type) → List (DataW H) → Bool := fun _ ds => decide (uptoBulkAll ds ≤ 1048576)
def OpenSpec.upto (s : _root_.Go.ChangeSpec) : _root_.Go.OpenSpec := { _root_.Go.OpenSpec.ofChange s with cond := some uptoSmall }

/-- 'probecardlaw09.MemoriesStore', WHERE WHAT IT READS IS OF BULK AT MOST 1048576: true; the input reads as it did. -/
def memoriesStoreUptoRow : OpenClaim := { program := "ytcaikkfcjeojiaadoor", sum := "2e108477a19ed21aa7fbe88eb8bd899d64d3d3ee89279428237ba02b0264fc3c", func := "probecard/probecardlaw09.MemoriesStore", spec := "memoriesStore", unfollowed := true, recurses := true, named := ["probecard/logic.characters"], apart := false, laid := [("probecard/logic.characters", laid_probecard_logic_characters)], narrowed := true }
def MemoriesStoreUptoSaid : Prop := memoriesStoreUptoRow.holds Tryd.pinned (OpenSpec.upto memoriesStoreSpec)

/-- 'probecardlaw09.MemoriesOrder', WHERE WHAT IT READS IS OF BULK AT MOST 1048576: true; the input reads as it did. -/
def memoriesOrderUptoRow : OpenClaim := { program := "ytcaikkfcjeojiaadoor", sum := "2e108477a19ed21aa7fbe88eb8bd899d64d3d3ee89279428237ba02b0264fc3c", func := "probecard/probecardlaw09.MemoriesOrder", spec := "memoriesOrder", unfollowed := true, recurses := true, named := ["probecard/logic.characters"], apart := false, laid := [("probecard/logic.characters", laid_probecard_logic_characters)], narrowed := true }
def MemoriesOrderUptoSaid : Prop := memoriesOrderUptoRow.holds Tryd.pinned (OpenSpec.upto memoriesOrderSpec)

end Rows
end Go.Proofs.YtcaikkfcjeojiaaDoor
