/-
  NARROWER THAN 'FOR EVERY INPUT', by the rows' own cells (each row's printed sentence says how): TlvMatchesReference: laid · TlvJoins: laid · TlvFrames: laid.
  DERIVED. THE GIVEN ROWS OF THIS SEAT. 3 by the template 'for every input the law returns true; each argument reads behind the call as it read before'; 0 by the template 'total and deterministic' (their statements: YtomplajecekhiaaDoorTotals.lean).
  GIVEN WITH THE SEED: the statements are not yours to turn. If you find one false, say at which input.
  Laid BY PROGRAM, IN A SANDBOX (cutbox-rows.mjs): the forced cells as the released guide's own fill.sh prints them over the translation bdeea7d02e31e833… (all of the seat's roots in one cut). By AI agents, Wed Nov 11 2026. No macro, syntax, notation, axiom, sorry.
-/
import Derived.Test.YtomplajecekhiaaDoorChecked
import GoSem.Claim
import GoSem.ClaimJoined
import GoSem.ClaimMapViews
import Derived.JoinedTies
import Derived.KernelRfl
namespace Go.Proofs.YtomplajecekhiaaDoor
/- THE CELL 'sum', in the pinned program and in every row, IS THE sha256 OF THE DUMP (.gsa) THAT YtomplajecekhiaaDoorProg.lean LOADS. Nothing in Lean hashes anything: it is a label: what it is worth is what the hold of that sum in a sandbox is worth. -/
noncomputable def Tryd.pinned : Pinned := { name := "ytomplajecekhiaadoor", sum := "bdeea7d02e31e833192f930d7adb1ac6bcbf7969da55f4499cb5e692acefe143", checked := Tryd.checked }
namespace Rows
def none {H : Type} : Left H := { results := [], args := [] }

/- WHAT THE LISTED PACKAGE-LEVEL VARIABLES READ AS WHEN THE CALL BEGINS. Each datum BY PROGRAM (the guide's laid-datum.mjs) off the statement by which the dump's own 'gosem.cut.vars' lays the variable. In a bare row this is a premise. The card (YtomplajecekhiaaDoorCards.lean) ties it to the program's text. -/
def laid_errors_errorType {H : Type} : DataW H := .iface "internal/reflectlite.rtype" (.agg [.ptr (.lit (.string [101, 114, 114, 111, 114]))])

/-- 'wharflaw06.TlvMatchesReference': WHATEVER THE INPUT: true; the input reads as it did. -/
def tlvMatchesReferenceSpec : ChangeSpec := { name := "tlvMatchesReference", fn := fun _ => fun
  | [d] => { results := [.lit (.bool true)], args := [d] }
  | _ => none }
def tlvMatchesReferenceRow : OpenClaim := { program := "ytomplajecekhiaadoor", sum := "bdeea7d02e31e833192f930d7adb1ac6bcbf7969da55f4499cb5e692acefe143", func := "wharf/wharflaw06.TlvMatchesReference", spec := "tlvMatchesReference", inPlace := ["internal/reflectlite.ValueOf", "(internal/reflectlite.Value).Type", "(internal/reflectlite.Value).IsNil", "internal/reflectlite.TypeOf", "(internal/reflectlite.Value).Elem", "(internal/reflectlite.Value).Set"], unfollowed := true, recurses := true, named := ["errors.errorType"], apart := false, laid := [("errors.errorType", laid_errors_errorType)] }
def TlvMatchesReferenceSaid : Prop := tlvMatchesReferenceRow.holds Tryd.pinned (OpenSpec.ofChange tlvMatchesReferenceSpec)

/-- ITS FALSE NEIGHBOUR: 'it returns false'. Refute it at one input. -/
def tlvMatchesReferenceWrong : ChangeSpec := { name := "tlvMatchesReference", fn := fun _ => fun
  | [d] => { results := [.lit (.bool false)], args := [d] }
  | _ => none }
def TlvMatchesReferenceWrongFalsely : Prop := tlvMatchesReferenceRow.holds Tryd.pinned (OpenSpec.ofChange tlvMatchesReferenceWrong)

/-- 'wharflaw06.TlvJoins': WHATEVER THE INPUT: true; the input reads as it did. -/
def tlvJoinsSpec : ChangeSpec := { name := "tlvJoins", fn := fun _ => fun
  | [d] => { results := [.lit (.bool true)], args := [d] }
  | _ => none }
def tlvJoinsRow : OpenClaim := { program := "ytomplajecekhiaadoor", sum := "bdeea7d02e31e833192f930d7adb1ac6bcbf7969da55f4499cb5e692acefe143", func := "wharf/wharflaw06.TlvJoins", spec := "tlvJoins", inPlace := ["internal/reflectlite.ValueOf", "(internal/reflectlite.Value).Type", "(internal/reflectlite.Value).IsNil", "internal/reflectlite.TypeOf", "(internal/reflectlite.Value).Elem", "(internal/reflectlite.Value).Set"], unfollowed := true, recurses := true, named := ["errors.errorType"], apart := false, laid := [("errors.errorType", laid_errors_errorType)] }
def TlvJoinsSaid : Prop := tlvJoinsRow.holds Tryd.pinned (OpenSpec.ofChange tlvJoinsSpec)

/-- ITS FALSE NEIGHBOUR: 'it returns false'. Refute it at one input. -/
def tlvJoinsWrong : ChangeSpec := { name := "tlvJoins", fn := fun _ => fun
  | [d] => { results := [.lit (.bool false)], args := [d] }
  | _ => none }
def TlvJoinsWrongFalsely : Prop := tlvJoinsRow.holds Tryd.pinned (OpenSpec.ofChange tlvJoinsWrong)

/-- 'wharflaw06.TlvFrames': WHATEVER THE INPUT: true; the input reads as it did. -/
def tlvFramesSpec : ChangeSpec := { name := "tlvFrames", fn := fun _ => fun
  | [d1, d2, d3, d4, d5] => { results := [.lit (.bool true)], args := [d1, d2, d3, d4, d5] }
  | _ => none }
def tlvFramesRow : OpenClaim := { program := "ytomplajecekhiaadoor", sum := "bdeea7d02e31e833192f930d7adb1ac6bcbf7969da55f4499cb5e692acefe143", func := "wharf/wharflaw06.TlvFrames", spec := "tlvFrames", inPlace := ["internal/reflectlite.ValueOf", "(internal/reflectlite.Value).Type", "(internal/reflectlite.Value).IsNil", "internal/reflectlite.TypeOf", "(internal/reflectlite.Value).Elem", "(internal/reflectlite.Value).Set"], unfollowed := true, recurses := true, named := ["errors.errorType"], apart := false, laid := [("errors.errorType", laid_errors_errorType)] }
def TlvFramesSaid : Prop := tlvFramesRow.holds Tryd.pinned (OpenSpec.ofChange tlvFramesSpec)

/-- ITS FALSE NEIGHBOUR: 'it returns false'. Refute it at one input. -/
def tlvFramesWrong : ChangeSpec := { name := "tlvFrames", fn := fun _ => fun
  | [d1, d2, d3, d4, d5] => { results := [.lit (.bool false)], args := [d1, d2, d3, d4, d5] }
  | _ => none }
def TlvFramesWrongFalsely : Prop := tlvFramesRow.holds Tryd.pinned (OpenSpec.ofChange tlvFramesWrong)

/- THE SECOND FORM. 'bulk': how many values and letters a reading holds, each counted each time it is reached (what is shared counts as often as it is met; a slice's spare places count too). A statement '..UptoSaid' is the law's where the arguments, and the package variables that the reading takes, are together of bulk at most 1048576: NARROWER than '..Said'. Prove '..Said' where nothing that the law and all that it calls make is longer than what came in: it says more and counts as full. Else prove '..UptoSaid'. A law counts once. -/
mutual
def uptoBulk {H : Type} : DataW H → Nat
  | .lit (.string bytes) => bytes.length + 1
  | .lit _ => 1
  | .nil => 1
  | .ptr d => uptoBulk d + 1
  | .slice elems spare => uptoBulkAll elems + uptoBulkAll spare + 1
  | .agg parts => uptoBulkAll parts + 1
  | .iface _ d => uptoBulk d + 1
  | .map entries => uptoBulkEntries entries + 1
  | .held _ => 1
def uptoBulkAll {H : Type} : List (DataW H) → Nat
  | [] => 0
  | d :: r => uptoBulk d + uptoBulkAll r
def uptoBulkEntries {H : Type} : List (Lit × DataW H) → Nat
  | [] => 0
  | x :: r => uptoBulkEntry x + uptoBulkEntries r
def uptoBulkEntry {H : Type} : Lit × DataW H → Nat
  | (.string bytes, d) => bytes.length + uptoBulk d + 1
  | (_, d) => uptoBulk d + 1
 end
def uptoSmall : (H : Type) → List (DataW H) → Bool := fun _ ds => decide (uptoBulkAll ds ≤ 1048576)
def OpenSpec.upto (s : _root_.Go.ChangeSpec) : _root_.Go.OpenSpec := { _root_.Go.OpenSpec.ofChange s with cond := some uptoSmall }

/-- 'wharflaw06.TlvMatchesReference', WHERE WHAT IT READS IS OF BULK AT MOST 1048576: true; the input reads as it did. -/
def tlvMatchesReferenceUptoRow : OpenClaim := { program := "ytomplajecekhiaadoor", sum := "bdeea7d02e31e833192f930d7adb1ac6bcbf7969da55f4499cb5e692acefe143", func := "wharf/wharflaw06.TlvMatchesReference", spec := "tlvMatchesReference", inPlace := ["internal/reflectlite.ValueOf", "(internal/reflectlite.Value).Type", "(internal/reflectlite.Value).IsNil", "internal/reflectlite.TypeOf", "(internal/reflectlite.Value).Elem", "(internal/reflectlite.Value).Set"], unfollowed := true, recurses := true, named := ["errors.errorType"], apart := false, laid := [("errors.errorType", laid_errors_errorType)], narrowed := true }
def TlvMatchesReferenceUptoSaid : Prop := tlvMatchesReferenceUptoRow.holds Tryd.pinned (OpenSpec.upto tlvMatchesReferenceSpec)

/-- 'wharflaw06.TlvJoins', WHERE WHAT IT READS IS OF BULK AT MOST 1048576: true; the input reads as it did. -/
def tlvJoinsUptoRow : OpenClaim := { program := "ytomplajecekhiaadoor", sum := "bdeea7d02e31e833192f930d7adb1ac6bcbf7969da55f4499cb5e692acefe143", func := "wharf/wharflaw06.TlvJoins", spec := "tlvJoins", inPlace := ["internal/reflectlite.ValueOf", "(internal/reflectlite.Value).Type", "(internal/reflectlite.Value).IsNil", "internal/reflectlite.TypeOf", "(internal/reflectlite.Value).Elem", "(internal/reflectlite.Value).Set"], unfollowed := true, recurses := true, named := ["errors.errorType"], apart := false, laid := [("errors.errorType", laid_errors_errorType)], narrowed := true }
def TlvJoinsUptoSaid : Prop := tlvJoinsUptoRow.holds Tryd.pinned (OpenSpec.upto tlvJoinsSpec)

/-- 'wharflaw06.TlvFrames', WHERE WHAT IT READS IS OF BULK AT MOST 1048576: true; the input reads as it did. -/
def tlvFramesUptoRow : OpenClaim := { program := "ytomplajecekhiaadoor", sum := "bdeea7d02e31e833192f930d7adb1ac6bcbf7969da55f4499cb5e692acefe143", func := "wharf/wharflaw06.TlvFrames", spec := "tlvFrames", inPlace := ["internal/reflectlite.ValueOf", "(internal/reflectlite.Value).Type", "(internal/reflectlite.Value).IsNil", "internal/reflectlite.TypeOf", "(internal/reflectlite.Value).Elem", "(internal/reflectlite.Value).Set"], unfollowed := true, recurses := true, named := ["errors.errorType"], apart := false, laid := [("errors.errorType", laid_errors_errorType)], narrowed := true }
def TlvFramesUptoSaid : Prop := tlvFramesUptoRow.holds Tryd.pinned (OpenSpec.upto tlvFramesSpec)

end Rows
end Go.Proofs.YtomplajecekhiaaDoor
