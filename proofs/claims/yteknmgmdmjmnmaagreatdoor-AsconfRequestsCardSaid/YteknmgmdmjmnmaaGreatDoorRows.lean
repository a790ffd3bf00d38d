/-
  NARROWER THAN 'FOR EVERY INPUT', by the rows' own cells (each row's printed sentence says how): SackBuilds: laid · SackTells: laid · ForwardMerges: laid · AsconfMatchesReference: loops, laid · AsconfReads: loops, laid · AsconfRequests: loops, laid · AsconfAnswers: loops, laid · AsconfResults: loops, laid.
  DERIVED. THE GIVEN ROWS OF THIS SEAT. 8 by the template 'for every input the law returns true; each argument reads behind the call as it read before'; 0 by the template 'total and deterministic' (their statements: YteknmgmdmjmnmaaGreatDoorTotals.lean).
  GIVEN WITH THE SEED: the statements are not yours to turn. If you find one false, say at which input.
  Laid BY PROGRAM, IN A SANDBOX (cutbox-rows.mjs): the forced cells as the released guide's own fill.sh prints them over the translation 8ccfdadb19642c31… (all of the seat's roots in one cut). By AI agents, Wed Nov 11 2026. No macro, syntax, notation, axiom, sorry.
-/
import Derived.Test.YteknmgmdmjmnmaaGreatDoorChecked
import GoSem.Claim
import GoSem.ClaimJoined
import GoSem.ClaimMapViews
import Derived.JoinedTies
import Derived.KernelRfl
namespace Go.Proofs.YteknmgmdmjmnmaaGreatDoor
/- THE CELL 'sum', in the pinned program and in every row, IS THE sha256 OF THE DUMP (.gsa) THAT YteknmgmdmjmnmaaGreatDoorProg.lean LOADS. Nothing in Lean hashes anything: it is a label: what it is worth is what the hold of that sum in a sandbox is worth. -/
noncomputable def Tryz.pinned : Pinned := { name := "yteknmgmdmjmnmaagreatdoor", sum := "8ccfdadb19642c317d03dc7d6306b85260a22394553dcae0795ee03a8f92b9c7", checked := Tryz.checked }
namespace Rows
def none {H : Type} : Left H := { results := [], args := [] }

/- WHAT THE LISTED PACKAGE-LEVEL VARIABLES READ AS WHEN THE CALL BEGINS. Each datum BY PROGRAM (the guide's laid-datum.mjs) off the statement by which the dump's own 'gosem.cut.vars' lays the variable. In a bare row this is a premise. The card (YteknmgmdmjmnmaaGreatDoorCards.lean) ties it to the program's text. -/
def laid_errors_errorType {H : Type} : DataW H := .iface "internal/reflectlite.rtype" (.agg [.ptr (.lit (.string [101, 114, 114, 111, 114]))])
def laid_wharf_address_notations {H : Type} : DataW H := .agg [.agg [.lit (.int .u16 5), .lit (.int .i64 4), .lit (.int .i64 1), .lit (.int .i64 10), .lit (.string [46])], .agg [.lit (.int .u16 6), .lit (.int .i64 16), .lit (.int .i64 2), .lit (.int .i64 16), .lit (.string [58])]]

/-- 'wharflaw14.SackBuilds': WHATEVER THE INPUT: true; the input reads as it did. -/
def sackBuildsSpec : ChangeSpec := { name := "sackBuilds", fn := fun _ => fun
  | [d1, d2, d3] => { results := [.lit (.bool true)], args := [d1, d2, d3] }
  | _ => none }
def sackBuildsRow : OpenClaim := { program := "yteknmgmdmjmnmaagreatdoor", sum := "8ccfdadb19642c317d03dc7d6306b85260a22394553dcae0795ee03a8f92b9c7", func := "wharf/wharflaw14.SackBuilds", spec := "sackBuilds", inPlace := ["internal/reflectlite.ValueOf", "(internal/reflectlite.Value).Type", "(internal/reflectlite.Value).IsNil", "internal/reflectlite.TypeOf", "(internal/reflectlite.Value).Elem", "(internal/reflectlite.Value).Set"], unfollowed := true, recurses := true, named := ["errors.errorType"], plainKeys := false, apart := false, laid := [("errors.errorType", laid_errors_errorType)] }
def SackBuildsSaid : Prop := sackBuildsRow.holds Tryz.pinned (OpenSpec.ofChange sackBuildsSpec)

/-- ITS FALSE NEIGHBOUR: 'it returns false'. Refute it at one input. -/
def sackBuildsWrong : ChangeSpec := { name := "sackBuilds", fn := fun _ => fun
  | [d1, d2, d3] => { results := [.lit (.bool false)], args := [d1, d2, d3] }
  | _ => none }
def SackBuildsWrongFalsely : Prop := sackBuildsRow.holds Tryz.pinned (OpenSpec.ofChange sackBuildsWrong)

/-- 'wharflaw14.SackTells': WHATEVER THE INPUT: true; the input reads as it did. -/
def sackTellsSpec : ChangeSpec := { name := "sackTells", fn := fun _ => fun
  | [d1, d2, d3] => { results := [.lit (.bool true)], args := [d1, d2, d3] }
  | _ => none }
def sackTellsRow : OpenClaim := { program := "yteknmgmdmjmnmaagreatdoor", sum := "8ccfdadb19642c317d03dc7d6306b85260a22394553dcae0795ee03a8f92b9c7", func := "wharf/wharflaw14.SackTells", spec := "sackTells", inPlace := ["internal/reflectlite.ValueOf", "(internal/reflectlite.Value).Type", "(internal/reflectlite.Value).IsNil", "internal/reflectlite.TypeOf", "(internal/reflectlite.Value).Elem", "(internal/reflectlite.Value).Set"], unfollowed := true, recurses := true, named := ["errors.errorType"], plainKeys := false, apart := false, laid := [("errors.errorType", laid_errors_errorType)] }
def SackTellsSaid : Prop := sackTellsRow.holds Tryz.pinned (OpenSpec.ofChange sackTellsSpec)

/-- ITS FALSE NEIGHBOUR: 'it returns false'. Refute it at one input. -/
def sackTellsWrong : ChangeSpec := { name := "sackTells", fn := fun _ => fun
  | [d1, d2, d3] => { results := [.lit (.bool false)], args := [d1, d2, d3] }
  | _ => none }
def SackTellsWrongFalsely : Prop := sackTellsRow.holds Tryz.pinned (OpenSpec.ofChange sackTellsWrong)

/-- 'wharflaw16.ForwardMerges': WHATEVER THE INPUT: true; the input reads as it did. -/
def forwardMergesSpec : ChangeSpec := { name := "forwardMerges", fn := fun _ => fun
  | [d] => { results := [.lit (.bool true)], args := [d] }
  | _ => none }
def forwardMergesRow : OpenClaim := { program := "yteknmgmdmjmnmaagreatdoor", sum := "8ccfdadb19642c317d03dc7d6306b85260a22394553dcae0795ee03a8f92b9c7", func := "wharf/wharflaw16.ForwardMerges", spec := "forwardMerges", inPlace := ["internal/reflectlite.ValueOf", "(internal/reflectlite.Value).Type", "(internal/reflectlite.Value).IsNil", "internal/reflectlite.TypeOf", "(internal/reflectlite.Value).Elem", "(internal/reflectlite.Value).Set"], unfollowed := true, recurses := true, named := ["errors.errorType"], plainKeys := false, apart := false, laid := [("errors.errorType", laid_errors_errorType)] }
def ForwardMergesSaid : Prop := forwardMergesRow.holds Tryz.pinned (OpenSpec.ofChange forwardMergesSpec)

/-- ITS FALSE NEIGHBOUR: 'it returns false'. Refute it at one input. -/
def forwardMergesWrong : ChangeSpec := { name := "forwardMerges", fn := fun _ => fun
  | [d] => { results := [.lit (.bool false)], args := [d] }
  | _ => none }
def ForwardMergesWrongFalsely : Prop := forwardMergesRow.holds Tryz.pinned (OpenSpec.ofChange forwardMergesWrong)

/-- 'wharflaw18.AsconfMatchesReference': WHATEVER THE INPUT: true; the input reads as it did. -/
def asconfMatchesReferenceSpec : ChangeSpec := { name := "asconfMatchesReference", fn := fun _ => fun
  | [d1, d2, d3, d4] => { results := [.lit (.bool true)], args := [d1, d2, d3, d4] }
  | _ => none }
def asconfMatchesReferenceRow : OpenClaim := { program := "yteknmgmdmjmnmaagreatdoor", sum := "8ccfdadb19642c317d03dc7d6306b85260a22394553dcae0795ee03a8f92b9c7", func := "wharf/wharflaw18.AsconfMatchesReference", spec := "asconfMatchesReference", inPlace := ["internal/reflectlite.ValueOf", "(internal/reflectlite.Value).Type", "(internal/reflectlite.Value).IsNil", "internal/reflectlite.TypeOf", "(internal/reflectlite.Value).Elem", "(internal/reflectlite.Value).Set"], unfollowed := true, recurses := true, named := ["wharf/address.notations", "errors.errorType"], loops := true, plainKeys := false, apart := false, laid := [("errors.errorType", laid_errors_errorType), ("wharf/address.notations", laid_wharf_address_notations)] }
def AsconfMatchesReferenceSaid : Prop := asconfMatchesReferenceRow.holds Tryz.pinned (OpenSpec.ofChange asconfMatchesReferenceSpec)

/-- ITS FALSE NEIGHBOUR: 'it returns false'. Refute it at one input. -/
def asconfMatchesReferenceWrong : ChangeSpec := { name := "asconfMatchesReference", fn := fun _ => fun
  | [d1, d2, d3, d4] => { results := [.lit (.bool false)], args := [d1, d2, d3, d4] }
  | _ => none }
def AsconfMatchesReferenceWrongFalsely : Prop := asconfMatchesReferenceRow.holds Tryz.pinned (OpenSpec.ofChange asconfMatchesReferenceWrong)

/-- 'wharflaw18.AsconfReads': WHATEVER THE INPUT: true; the input reads as it did. -/
def asconfReadsSpec : ChangeSpec := { name := "asconfReads", fn := fun _ => fun
  | [d1, d2] => { results := [.lit (.bool true)], args := [d1, d2] }
  | _ => none }
def asconfReadsRow : OpenClaim := { program := "yteknmgmdmjmnmaagreatdoor", sum := "8ccfdadb19642c317d03dc7d6306b85260a22394553dcae0795ee03a8f92b9c7", func := "wharf/wharflaw18.AsconfReads", spec := "asconfReads", inPlace := ["internal/reflectlite.ValueOf", "(internal/reflectlite.Value).Type", "(internal/reflectlite.Value).IsNil", "internal/reflectlite.TypeOf", "(internal/reflectlite.Value).Elem", "(internal/reflectlite.Value).Set"], unfollowed := true, recurses := true, named := ["wharf/address.notations", "errors.errorType"], loops := true, plainKeys := false, apart := false, laid := [("errors.errorType", laid_errors_errorType), ("wharf/address.notations", laid_wharf_address_notations)] }
def AsconfReadsSaid : Prop := asconfReadsRow.holds Tryz.pinned (OpenSpec.ofChange asconfReadsSpec)

/-- ITS FALSE NEIGHBOUR: 'it returns false'. Refute it at one input. -/
def asconfReadsWrong : ChangeSpec := { name := "asconfReads", fn := fun _ => fun
  | [d1, d2] => { results := [.lit (.bool false)], args := [d1, d2] }
  | _ => none }
def AsconfReadsWrongFalsely : Prop := asconfReadsRow.holds Tryz.pinned (OpenSpec.ofChange asconfReadsWrong)

/-- 'wharflaw18.AsconfRequests': WHATEVER THE INPUT: true; the input reads as it did. -/
def asconfRequestsSpec : ChangeSpec := { name := "asconfRequests", fn := fun _ => fun
  | [d1, d2, d3] => { results := [.lit (.bool true)], args := [d1, d2, d3] }
  | _ => none }
def asconfRequestsRow : OpenClaim := { program := "yteknmgmdmjmnmaagreatdoor", sum := "8ccfdadb19642c317d03dc7d6306b85260a22394553dcae0795ee03a8f92b9c7", func := "wharf/wharflaw18.AsconfRequests", spec := "asconfRequests", inPlace := ["internal/reflectlite.ValueOf", "(internal/reflectlite.Value).Type", "(internal/reflectlite.Value).IsNil", "internal/reflectlite.TypeOf", "(internal/reflectlite.Value).Elem", "(internal/reflectlite.Value).Set"], unfollowed := true, recurses := true, named := ["wharf/address.notations", "errors.errorType"], loops := true, plainKeys := false, apart := false, laid := [("errors.errorType", laid_errors_errorType), ("wharf/address.notations", laid_wharf_address_notations)] }
def AsconfRequestsSaid : Prop := asconfRequestsRow.holds Tryz.pinned (OpenSpec.ofChange asconfRequestsSpec)

/-- ITS FALSE NEIGHBOUR: 'it returns false'. Refute it at one input. -/
def asconfRequestsWrong : ChangeSpec := { name := "asconfRequests", fn := fun _ => fun
  | [d1, d2, d3] => { results := [.lit (.bool false)], args := [d1, d2, d3] }
  | _ => none }
def AsconfRequestsWrongFalsely : Prop := asconfRequestsRow.holds Tryz.pinned (OpenSpec.ofChange asconfRequestsWrong)

/-- 'wharflaw18.AsconfAnswers': WHATEVER THE INPUT: true; the input reads as it did. -/
def asconfAnswersSpec : ChangeSpec := { name := "asconfAnswers", fn := fun _ => fun
  | [d1, d2] => { results := [.lit (.bool true)], args := [d1, d2] }
  | _ => none }
def asconfAnswersRow : OpenClaim := { program := "yteknmgmdmjmnmaagreatdoor", sum := "8ccfdadb19642c317d03dc7d6306b85260a22394553dcae0795ee03a8f92b9c7", func := "wharf/wharflaw18.AsconfAnswers", spec := "asconfAnswers", inPlace := ["internal/reflectlite.ValueOf", "(internal/reflectlite.Value).Type", "(internal/reflectlite.Value).IsNil", "internal/reflectlite.TypeOf", "(internal/reflectlite.Value).Elem", "(internal/reflectlite.Value).Set"], unfollowed := true, recurses := true, named := ["wharf/address.notations", "errors.errorType"], loops := true, plainKeys := false, apart := false, laid := [("errors.errorType", laid_errors_errorType), ("wharf/address.notations", laid_wharf_address_notations)] }
def AsconfAnswersSaid : Prop := asconfAnswersRow.holds Tryz.pinned (OpenSpec.ofChange asconfAnswersSpec)

/-- ITS FALSE NEIGHBOUR: 'it returns false'. Refute it at one input. -/
def asconfAnswersWrong : ChangeSpec := { name := "asconfAnswers", fn := fun _ => fun
  | [d1, d2] => { results := [.lit (.bool false)], args := [d1, d2] }
  | _ => none }
def AsconfAnswersWrongFalsely : Prop := asconfAnswersRow.holds Tryz.pinned (OpenSpec.ofChange asconfAnswersWrong)

/-- 'wharflaw18.AsconfResults': WHATEVER THE INPUT: true; the input reads as it did. -/
def asconfResultsSpec : ChangeSpec := { name := "asconfResults", fn := fun _ => fun
  | [d1, d2] => { results := [.lit (.bool true)], args := [d1, d2] }
  | _ => none }
def asconfResultsRow : OpenClaim := { program := "yteknmgmdmjmnmaagreatdoor", sum := "8ccfdadb19642c317d03dc7d6306b85260a22394553dcae0795ee03a8f92b9c7", func := "wharf/wharflaw18.AsconfResults", spec := "asconfResults", inPlace := ["internal/reflectlite.ValueOf", "(internal/reflectlite.Value).Type", "(internal/reflectlite.Value).IsNil", "internal/reflectlite.TypeOf", "(internal/reflectlite.Value).Elem", "(internal/reflectlite.Value).Set"], unfollowed := true, recurses := true, named := ["wharf/address.notations", "errors.errorType"], loops := true, plainKeys := false, apart := false, laid := [("errors.errorType", laid_errors_errorType), ("wharf/address.notations", laid_wharf_address_notations)] }
def AsconfResultsSaid : Prop := asconfResultsRow.holds Tryz.pinned (OpenSpec.ofChange asconfResultsSpec)

/-- ITS FALSE NEIGHBOUR: 'it returns false'. Refute it at one input. -/
def asconfResultsWrong : ChangeSpec := { name := "asconfResults", fn := fun _ => fun
  | [d1, d2] => { results := [.lit (.bool false)], args := [d1, d2] }
  | _ => none }
def AsconfResultsWrongFalsely : Prop := asconfResultsRow.holds Tryz.pinned (OpenSpec.ofChange asconfResultsWrong)

/- THE SECOND FORM. 'bulk': how many values and letters a reading holds, each counted each time it is reached (what is shared counts as often as it is met; a slice's spare places count too). A statement '..UptoSaid' is the law's where the arguments, and the package variables that the reading takes, are together of bulk at most 1048576: NARROWER than '..Said'. Prove '..Said' where nothing that the law and all that it calls make is longer than what came in: it says more and counts as full. Else prove '..UptoSaid'. A law counts once. -/
mutual
def uptoBulk {H : Type} : DataW H → Nat
  | .lit (.string bytes) => bytes.length + 1
  | .lit _ => 1
  | .nil => 1
  | .ptr d => uptoBulk d + 1
  | .slice elems spare => uptoBulkAll elems + uptoBulkAll spare + 1
  | .agg parts => uptoBulkAll parts + 1
  | .iface _ d => uptoBulk d + 1
  | .map entries => uptoBulkEntries entries + 1
  | .held _ => 1
def uptoBulkAll {H : Type} : List (DataW H) → Nat
  | [] => 0
  | d :: r => uptoBulk d + uptoBulkAll r
def uptoBulkEntries {H : Type} : List (Lit × DataW H) → Nat
  | [] => 0
  | x :: r => uptoBulkEntry x + uptoBulkEntries r
def uptoBulkEntry {H : Type} : Lit × DataW H → Nat
  | (.string bytes, d) => bytes.length + uptoBulk d + 1
  | (_, d) => uptoBulk d + 1
 end
def uptoSmall : (H : Type) → List (DataW H) → Bool := fun _ ds => decide (uptoBulkAll ds ≤ 1048576)
def OpenSpec.upto (s : _root_.Go.ChangeSpec) : _root_.Go.OpenSpec := { _root_.Go.OpenSpec.ofChange s with cond := some uptoSmall }

/-- 'wharflaw14.SackBuilds', WHERE WHAT IT READS IS OF BULK AT MOST 1048576: true; the input reads as it did. -/
def sackBuildsUptoRow : OpenClaim := { program := "yteknmgmdmjmnmaagreatdoor", sum := "8ccfdadb19642c317d03dc7d6306b85260a22394553dcae0795ee03a8f92b9c7", func := "wharf/wharflaw14.SackBuilds", spec := "sackBuilds", inPlace := ["internal/reflectlite.ValueOf", "(internal/reflectlite.Value).Type", "(internal/reflectlite.Value).IsNil", "internal/reflectlite.TypeOf", "(internal/reflectlite.Value).Elem", "(internal/reflectlite.Value).Set"], unfollowed := true, recurses := true, named := ["errors.errorType"], plainKeys := false, apart := false, laid := [("errors.errorType", laid_errors_errorType)], narrowed := true }
def SackBuildsUptoSaid : Prop := sackBuildsUptoRow.holds Tryz.pinned (OpenSpec.upto sackBuildsSpec)

/-- 'wharflaw14.SackTells', WHERE WHAT IT READS IS OF BULK AT MOST 1048576: true; the input reads as it did. -/
def sackTellsUptoRow : OpenClaim := { program := "yteknmgmdmjmnmaagreatdoor", sum := "8ccfdadb19642c317d03dc7d6306b85260a22394553dcae0795ee03a8f92b9c7", func := "wharf/wharflaw14.SackTells", spec := "sackTells", inPlace := ["internal/reflectlite.ValueOf", "(internal/reflectlite.Value).Type", "(internal/reflectlite.Value).IsNil", "internal/reflectlite.TypeOf", "(internal/reflectlite.Value).Elem", "(internal/reflectlite.Value).Set"], unfollowed := true, recurses := true, named := ["errors.errorType"], plainKeys := false, apart := false, laid := [("errors.errorType", laid_errors_errorType)], narrowed := true }
def SackTellsUptoSaid : Prop := sackTellsUptoRow.holds Tryz.pinned (OpenSpec.upto sackTellsSpec)

/-- 'wharflaw16.ForwardMerges', WHERE WHAT IT READS IS OF BULK AT MOST 1048576: true; the input reads as it did. -/
def forwardMergesUptoRow : OpenClaim := { program := "yteknmgmdmjmnmaagreatdoor", sum := "8ccfdadb19642c317d03dc7d6306b85260a22394553dcae0795ee03a8f92b9c7", func := "wharf/wharflaw16.ForwardMerges", spec := "forwardMerges", inPlace := ["internal/reflectlite.ValueOf", "(internal/reflectlite.Value).Type", "(internal/reflectlite.Value).IsNil", "internal/reflectlite.TypeOf", "(internal/reflectlite.Value).Elem", "(internal/reflectlite.Value).Set"], unfollowed := true, recurses := true, named := ["errors.errorType"], plainKeys := false, apart := false, laid := [("errors.errorType", laid_errors_errorType)], narrowed := true }
def ForwardMergesUptoSaid : Prop := forwardMergesUptoRow.holds Tryz.pinned (OpenSpec.upto forwardMergesSpec)

/-- 'wharflaw18.AsconfMatchesReference', WHERE WHAT IT READS IS OF BULK AT MOST 1048576: true; the input reads as it did. -/
def asconfMatchesReferenceUptoRow : OpenClaim := { program := "yteknmgmdmjmnmaagreatdoor", sum := "8ccfdadb19642c317d03dc7d6306b85260a22394553dcae0795ee03a8f92b9c7", func := "wharf/wharflaw18.AsconfMatchesReference", spec := "asconfMatchesReference", inPlace := ["internal/reflectlite.ValueOf", "(internal/reflectlite.Value).Type", "(internal/reflectlite.Value).IsNil", "internal/reflectlite.TypeOf", "(internal/reflectlite.Value).Elem", "(internal/reflectlite.Value).Set"], unfollowed := true, recurses := true, named := ["wharf/address.notations", "errors.errorType"], loops := true, plainKeys := false, apart := false, laid := [("errors.errorType", laid_errors_errorType), ("wharf/address.notations", laid_wharf_address_notations)], narrowed := true }
def AsconfMatchesReferenceUptoSaid : Prop := asconfMatchesReferenceUptoRow.holds Tryz.pinned (OpenSpec.upto asconfMatchesReferenceSpec)

/-- 'wharflaw18.AsconfReads', WHERE WHAT IT READS IS OF BULK AT MOST 1048576: true; the input reads as it did. -/
def asconfReadsUptoRow : OpenClaim := { program := "yteknmgmdmjmnmaagreatdoor", sum := "8ccfdadb19642c317d03dc7d6306b85260a22394553dcae0795ee03a8f92b9c7", func := "wharf/wharflaw18.AsconfReads", spec := "asconfReads", inPlace := ["internal/reflectlite.ValueOf", "(internal/reflectlite.Value).Type", "(internal/reflectlite.Value).IsNil", "internal/reflectlite.TypeOf", "(internal/reflectlite.Value).Elem", "(internal/reflectlite.Value).Set"], unfollowed := true, recurses := true, named := ["wharf/address.notations", "errors.errorType"], loops := true, plainKeys := false, apart := false, laid := [("errors.errorType", laid_errors_errorType), ("wharf/address.notations", laid_wharf_address_notations)], narrowed := true }
def AsconfReadsUptoSaid : Prop := asconfReadsUptoRow.holds Tryz.pinned (OpenSpec.upto asconfReadsSpec)

/-- 'wharflaw18.AsconfRequests', WHERE WHAT IT READS IS OF BULK AT MOST 1048576: true; the input reads as it did. -/
def asconfRequestsUptoRow : OpenClaim := { program := "yteknmgmdmjmnmaagreatdoor", sum := "8ccfdadb19642c317d03dc7d6306b85260a22394553dcae0795ee03a8f92b9c7", func := "wharf/wharflaw18.AsconfRequests", spec := "asconfRequests", inPlace := ["internal/reflectlite.ValueOf", "(internal/reflectlite.Value).Type", "(internal/reflectlite.Value).IsNil", "internal/reflectlite.TypeOf", "(internal/reflectlite.Value).Elem", "(internal/reflectlite.Value).Set"], unfollowed := true, recurses := true, named := ["wharf/address.notations", "errors.errorType"], loops := true, plainKeys := false, apart := false, laid := [("errors.errorType", laid_errors_errorType), ("wharf/address.notations", laid_wharf_address_notations)], narrowed := true }
def AsconfRequestsUptoSaid : Prop := asconfRequestsUptoRow.holds Tryz.pinned (OpenSpec.upto asconfRequestsSpec)

/-- 'wharflaw18.AsconfAnswers', WHERE WHAT IT READS IS OF BULK AT MOST 1048576: true; the input reads as it did. -/
def asconfAnswersUptoRow : OpenClaim := { program := "yteknmgmdmjmnmaagreatdoor", sum := "8ccfdadb19642c317d03dc7d6306b85260a22394553dcae0795ee03a8f92b9c7", func := "wharf/wharflaw18.AsconfAnswers", spec := "asconfAnswers", inPlace := ["internal/reflectlite.ValueOf", "(internal/reflectlite.Value).Type", "(internal/reflectlite.Value).IsNil", "internal/reflectlite.TypeOf", "(internal/reflectlite.Value).Elem", "(internal/reflectlite.Value).Set"], unfollowed := true, recurses := true, named := ["wharf/address.notations", "errors.errorType"], loops := true, plainKeys := false, apart := false, laid := [("errors.errorType", laid_errors_errorType), ("wharf/address.notations", laid_wharf_address_notations)], narrowed := true }
def AsconfAnswersUptoSaid : Prop := asconfAnswersUptoRow.holds Tryz.pinned (OpenSpec.upto asconfAnswersSpec)

/-- 'wharflaw18.AsconfResults', WHERE WHAT IT READS IS OF BULK AT MOST 1048576: true; the input reads as it did. -/
def asconfResultsUptoRow : OpenClaim := { program := "yteknmgmdmjmnmaagreatdoor", sum := "8ccfdadb19642c317d03dc7d6306b85260a22394553dcae0795ee03a8f92b9c7", func := "wharf/wharflaw18.AsconfResults", spec := "asconfResults", inPlace := ["internal/reflectlite.ValueOf", "(internal/reflectlite.Value).Type", "(internal/reflectlite.Value).IsNil", "internal/reflectlite.TypeOf", "(internal/reflectlite.Value).Elem", "(internal/reflectlite.Value).Set"], unfollowed := true, recurses := true, named := ["wharf/address.notations", "errors.errorType"], loops := true, plainKeys := false, apart := false, laid := [("errors.errorType", laid_errors_errorType), ("wharf/address.notations", laid_wharf_address_notations)], narrowed := true }
def AsconfResultsUptoSaid : Prop := asconfResultsUptoRow.holds Tryz.pinned (OpenSpec.upto asconfResultsSpec)

end Rows
end Go.Proofs.YteknmgmdmjmnmaaGreatDoor
