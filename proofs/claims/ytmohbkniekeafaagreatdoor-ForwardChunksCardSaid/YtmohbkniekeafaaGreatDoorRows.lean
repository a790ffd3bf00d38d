/-
  NARROWER THAN 'FOR EVERY INPUT', by the rows' own cells (each row's printed sentence says how): SackBuilds: laid · SackTells: laid · ForwardMatchesReference: laid · ForwardChunks: loops, laid · ForwardMerges: laid · ForwardCompares: laid · ForwardMost: laid · StreamMatchesReference: laid · StreamReads: loops, laid · StreamMakes: loops, laid · StreamAnswers: loops, laid · StreamMore: laid.
  DERIVED. THE GIVEN ROWS OF THIS SEAT. 12 by the template 'for every input the law returns true; each argument reads behind the call as it read before'; 0 by the template 'total and deterministic' (their statements: YtmohbkniekeafaaGreatDoorTotals.lean).
  GIVEN WITH THE SEED: the statements are not yours to turn. If you find one false, say at which input.
  Laid BY PROGRAM, IN A SANDBOX (cutbox-rows.mjs): the forced cells as the released guide's own fill.sh prints them over the translation 1083a45727008738… (all of the seat's roots in one cut). By AI agents, Wed Nov 11 2026. No macro, syntax, notation, axiom, sorry.
-/
import Derived.Test.YtmohbkniekeafaaGreatDoorChecked
import GoSem.Claim
import GoSem.ClaimJoined
import GoSem.ClaimMapViews
import Derived.JoinedTies
import Derived.KernelRfl
namespace Go.Proofs.YtmohbkniekeafaaGreatDoor
/- THE CELL 'sum', in the pinned program and in every row, IS THE sha256 OF THE DUMP (.gsa) THAT YtmohbkniekeafaaGreatDoorProg.lean LOADS. Nothing in Lean hashes anything: it is a label: what it is worth is what the hold of that sum in a sandbox is worth. -/
noncomputable def Tryz.pinned : Pinned := { name := "ytmohbkniekeafaagreatdoor", sum := "1083a45727008738274d0e0c47755b9319981fc764174f1dad95befad5f2ac49", checked := Tryz.checked }
namespace Rows
def none {H : Type} : Left H := { results := [], args := [] }

/- WHAT THE LISTED PACKAGE-LEVEL VARIABLES READ AS WHEN THE CALL BEGINS. Each datum BY PROGRAM (the guide's laid-datum.mjs) off the statement by which the dump's own 'gosem.cut.vars' lays the variable. In a bare row this is a premise. The card (YtmohbkniekeafaaGreatDoorCards.lean) ties it to the program's text. -/
def laid_errors_errorType {H : Type} : DataW H := .iface "internal/reflectlite.rtype" (.agg [.ptr (.lit (.string [101, 114, 114, 111, 114]))])

/-- 'wharflaw14.SackBuilds': WHATEVER THE INPUT: true; the input reads as it did. -/
def sackBuildsSpec : ChangeSpec := { name := "sackBuilds", fn := fun _ => fun
  | [d1, d2, d3] => { results := [.lit (.bool true)], args := [d1, d2, d3] }
  | _ => none }
def sackBuildsRow : OpenClaim := { program := "ytmohbkniekeafaagreatdoor", sum := "1083a45727008738274d0e0c47755b9319981fc764174f1dad95befad5f2ac49", func := "wharf/wharflaw14.SackBuilds", spec := "sackBuilds", inPlace := ["internal/reflectlite.ValueOf", "(internal/reflectlite.Value).Type", "(internal/reflectlite.Value).IsNil", "internal/reflectlite.TypeOf", "(internal/reflectlite.Value).Elem", "(internal/reflectlite.Value).Set"], unfollowed := true, recurses := true, named := ["errors.errorType"], plainKeys := false, apart := false, laid := [("errors.errorType", laid_errors_errorType)] }
def SackBuildsSaid : Prop := sackBuildsRow.holds Tryz.pinned (OpenSpec.ofChange sackBuildsSpec)

/-- ITS FALSE NEIGHBOUR: 'it returns false'. Refute it at one input. -/
def sackBuildsWrong : ChangeSpec := { name := "sackBuilds", fn := fun _ => fun
  | [d1, d2, d3] => { results := [.lit (.bool false)], args := [d1, d2, d3] }
  | _ => none }
def SackBuildsWrongFalsely : Prop := sackBuildsRow.holds Tryz.pinned (OpenSpec.ofChange sackBuildsWrong)

/-- 'wharflaw14.SackTells': WHATEVER THE INPUT: true; the input reads as it did. -/
def sackTellsSpec : ChangeSpec := { name := "sackTells", fn := fun _ => fun
  | [d1, d2, d3] => { results := [.lit (.bool true)], args := [d1, d2, d3] }
  | _ => none }
def sackTellsRow : OpenClaim := { program := "ytmohbkniekeafaagreatdoor", sum := "1083a45727008738274d0e0c47755b9319981fc764174f1dad95befad5f2ac49", func := "wharf/wharflaw14.SackTells", spec := "sackTells", inPlace := ["internal/reflectlite.ValueOf", "(internal/reflectlite.Value).Type", "(internal/reflectlite.Value).IsNil", "internal/reflectlite.TypeOf", "(internal/reflectlite.Value).Elem", "(internal/reflectlite.Value).Set"], unfollowed := true, recurses := true, named := ["errors.errorType"], plainKeys := false, apart := false, laid := [("errors.errorType", laid_errors_errorType)] }
def SackTellsSaid : Prop := sackTellsRow.holds Tryz.pinned (OpenSpec.ofChange sackTellsSpec)

/-- ITS FALSE NEIGHBOUR: 'it returns false'. Refute it at one input. -/
def sackTellsWrong : ChangeSpec := { name := "sackTells", fn := fun _ => fun
  | [d1, d2, d3] => { results := [.lit (.bool false)], args := [d1, d2, d3] }
  | _ => none }
def SackTellsWrongFalsely : Prop := sackTellsRow.holds Tryz.pinned (OpenSpec.ofChange sackTellsWrong)

/-- 'wharflaw16.ForwardMatchesReference': WHATEVER THE INPUT: true; the input reads as it did. -/
def forwardMatchesReferenceSpec : ChangeSpec := { name := "forwardMatchesReference", fn := fun _ => fun
  | [d1, d2, d3] => { results := [.lit (.bool true)], args := [d1, d2, d3] }
  | _ => none }
def forwardMatchesReferenceRow : OpenClaim := { program := "ytmohbkniekeafaagreatdoor", sum := "1083a45727008738274d0e0c47755b9319981fc764174f1dad95befad5f2ac49", func := "wharf/wharflaw16.ForwardMatchesReference", spec := "forwardMatchesReference", inPlace := ["internal/reflectlite.ValueOf", "(internal/reflectlite.Value).Type", "(internal/reflectlite.Value).IsNil", "internal/reflectlite.TypeOf", "(internal/reflectlite.Value).Elem", "(internal/reflectlite.Value).Set"], unfollowed := true, recurses := true, named := ["errors.errorType"], plainKeys := false, apart := false, laid := [("errors.errorType", laid_errors_errorType)] }
def ForwardMatchesReferenceSaid : Prop := forwardMatchesReferenceRow.holds Tryz.pinned (OpenSpec.ofChange forwardMatchesReferenceSpec)

/-- ITS FALSE NEIGHBOUR: 'it returns false'. Refute it at one input. -/
def forwardMatchesReferenceWrong : ChangeSpec := { name := "forwardMatchesReference", fn := fun _ => fun
  | [d1, d2, d3] => { results := [.lit (.bool false)], args := [d1, d2, d3] }
  | _ => none }
def ForwardMatchesReferenceWrongFalsely : Prop := forwardMatchesReferenceRow.holds Tryz.pinned (OpenSpec.ofChange forwardMatchesReferenceWrong)

/-- 'wharflaw16.ForwardChunks': WHATEVER THE INPUT: true; the input reads as it did. -/
def forwardChunksSpec : ChangeSpec := { name := "forwardChunks", fn := fun _ => fun
  | [d] => { results := [.lit (.bool true)], args := [d] }
  | _ => none }
def forwardChunksRow : OpenClaim := { program := "ytmohbkniekeafaagreatdoor", sum := "1083a45727008738274d0e0c47755b9319981fc764174f1dad95befad5f2ac49", func := "wharf/wharflaw16.ForwardChunks", spec := "forwardChunks", inPlace := ["internal/reflectlite.ValueOf", "(internal/reflectlite.Value).Type", "(internal/reflectlite.Value).IsNil", "internal/reflectlite.TypeOf", "(internal/reflectlite.Value).Elem", "(internal/reflectlite.Value).Set"], unfollowed := true, recurses := true, named := ["errors.errorType"], loops := true, plainKeys := false, apart := false, laid := [("errors.errorType", laid_errors_errorType)] }
def ForwardChunksSaid : Prop := forwardChunksRow.holds Tryz.pinned (OpenSpec.ofChange forwardChunksSpec)

/-- ITS FALSE NEIGHBOUR: 'it returns false'. Refute it at one input. -/
def forwardChunksWrong : ChangeSpec := { name := "forwardChunks", fn := fun _ => fun
  | [d] => { results := [.lit (.bool false)], args := [d] }
  | _ => none }
def ForwardChunksWrongFalsely : Prop := forwardChunksRow.holds Tryz.pinned (OpenSpec.ofChange forwardChunksWrong)

/-- 'wharflaw16.ForwardMerges': WHATEVER THE INPUT: true; the input reads as it did. -/
def forwardMergesSpec : ChangeSpec := { name := "forwardMerges", fn := fun _ => fun
  | [d] => { results := [.lit (.bool true)], args := [d] }
  | _ => none }
def forwardMergesRow : OpenClaim := { program := "ytmohbkniekeafaagreatdoor", sum := "1083a45727008738274d0e0c47755b9319981fc764174f1dad95befad5f2ac49", func := "wharf/wharflaw16.ForwardMerges", spec := "forwardMerges", inPlace := ["internal/reflectlite.ValueOf", "(internal/reflectlite.Value).Type", "(internal/reflectlite.Value).IsNil", "internal/reflectlite.TypeOf", "(internal/reflectlite.Value).Elem", "(internal/reflectlite.Value).Set"], unfollowed := true, recurses := true, named := ["errors.errorType"], plainKeys := false, apart := false, laid := [("errors.errorType", laid_errors_errorType)] }
def ForwardMergesSaid : Prop := forwardMergesRow.holds Tryz.pinned (OpenSpec.ofChange forwardMergesSpec)

/-- ITS FALSE NEIGHBOUR: 'it returns false'. Refute it at one input. -/
def forwardMergesWrong : ChangeSpec := { name := "forwardMerges", fn := fun _ => fun
  | [d] => { results := [.lit (.bool false)], args := [d] }
  | _ => none }
def ForwardMergesWrongFalsely : Prop := forwardMergesRow.holds Tryz.pinned (OpenSpec.ofChange forwardMergesWrong)

/-- 'wharflaw16.ForwardCompares': WHATEVER THE INPUT: true; the input reads as it did. -/
def forwardComparesSpec : ChangeSpec := { name := "forwardCompares", fn := fun _ => fun
  | [d1, d2, d3] => { results := [.lit (.bool true)], args := [d1, d2, d3] }
  | _ => none }
def forwardComparesRow : OpenClaim := { program := "ytmohbkniekeafaagreatdoor", sum := "1083a45727008738274d0e0c47755b9319981fc764174f1dad95befad5f2ac49", func := "wharf/wharflaw16.ForwardCompares", spec := "forwardCompares", inPlace := ["internal/reflectlite.ValueOf", "(internal/reflectlite.Value).Type", "(internal/reflectlite.Value).IsNil", "internal/reflectlite.TypeOf", "(internal/reflectlite.Value).Elem", "(internal/reflectlite.Value).Set"], unfollowed := true, recurses := true, named := ["errors.errorType"], plainKeys := false, apart := false, laid := [("errors.errorType", laid_errors_errorType)] }
def ForwardComparesSaid : Prop := forwardComparesRow.holds Tryz.pinned (OpenSpec.ofChange forwardComparesSpec)

/-- ITS FALSE NEIGHBOUR: 'it returns false'. Refute it at one input. -/
def forwardComparesWrong : ChangeSpec := { name := "forwardCompares", fn := fun _ => fun
  | [d1, d2, d3] => { results := [.lit (.bool false)], args := [d1, d2, d3] }
  | _ => none }
def ForwardComparesWrongFalsely : Prop := forwardComparesRow.holds Tryz.pinned (OpenSpec.ofChange forwardComparesWrong)

/-- 'wharflaw16.ForwardMost': WHATEVER THE INPUT: true; the input reads as it did. -/
def forwardMostSpec : ChangeSpec := { name := "forwardMost", fn := fun _ => fun
  | [d1, d2] => { results := [.lit (.bool true)], args := [d1, d2] }
  | _ => none }
def forwardMostRow : OpenClaim := { program := "ytmohbkniekeafaagreatdoor", sum := "1083a45727008738274d0e0c47755b9319981fc764174f1dad95befad5f2ac49", func := "wharf/wharflaw16.ForwardMost", spec := "forwardMost", inPlace := ["internal/reflectlite.ValueOf", "(internal/reflectlite.Value).Type", "(internal/reflectlite.Value).IsNil", "internal/reflectlite.TypeOf", "(internal/reflectlite.Value).Elem", "(internal/reflectlite.Value).Set"], unfollowed := true, recurses := true, named := ["errors.errorType"], plainKeys := false, apart := false, laid := [("errors.errorType", laid_errors_errorType)] }
def ForwardMostSaid : Prop := forwardMostRow.holds Tryz.pinned (OpenSpec.ofChange forwardMostSpec)

/-- ITS FALSE NEIGHBOUR: 'it returns false'. Refute it at one input. -/
def forwardMostWrong : ChangeSpec := { name := "forwardMost", fn := fun _ => fun
  | [d1, d2] => { results := [.lit (.bool false)], args := [d1, d2] }
  | _ => none }
def ForwardMostWrongFalsely : Prop := forwardMostRow.holds Tryz.pinned (OpenSpec.ofChange forwardMostWrong)

/-- 'wharflaw17.StreamMatchesReference': WHATEVER THE INPUT: true; the input reads as it did. -/
def streamMatchesReferenceSpec : ChangeSpec := { name := "streamMatchesReference", fn := fun _ => fun
  | [d1, d2, d3] => { results := [.lit (.bool true)], args := [d1, d2, d3] }
  | _ => none }
def streamMatchesReferenceRow : OpenClaim := { program := "ytmohbkniekeafaagreatdoor", sum := "1083a45727008738274d0e0c47755b9319981fc764174f1dad95befad5f2ac49", func := "wharf/wharflaw17.StreamMatchesReference", spec := "streamMatchesReference", inPlace := ["internal/reflectlite.ValueOf", "(internal/reflectlite.Value).Type", "(internal/reflectlite.Value).IsNil", "internal/reflectlite.TypeOf", "(internal/reflectlite.Value).Elem", "(internal/reflectlite.Value).Set"], unfollowed := true, recurses := true, named := ["errors.errorType"], plainKeys := false, apart := false, laid := [("errors.errorType", laid_errors_errorType)] }
def StreamMatchesReferenceSaid : Prop := streamMatchesReferenceRow.holds Tryz.pinned (OpenSpec.ofChange streamMatchesReferenceSpec)

/-- ITS FALSE NEIGHBOUR: 'it returns false'. Refute it at one input. -/
def streamMatchesReferenceWrong : ChangeSpec := { name := "streamMatchesReference", fn := fun _ => fun
  | [d1, d2, d3] => { results := [.lit (.bool false)], args := [d1, d2, d3] }
  | _ => none }
def StreamMatchesReferenceWrongFalsely : Prop := streamMatchesReferenceRow.holds Tryz.pinned (OpenSpec.ofChange streamMatchesReferenceWrong)

/-- 'wharflaw17.StreamReads': WHATEVER THE INPUT: true; the input reads as it did. -/
def streamReadsSpec : ChangeSpec := { name := "streamReads", fn := fun _ => fun
  | [d] => { results := [.lit (.bool true)], args := [d] }
  | _ => none }
def streamReadsRow : OpenClaim := { program := "ytmohbkniekeafaagreatdoor", sum := "1083a45727008738274d0e0c47755b9319981fc764174f1dad95befad5f2ac49", func := "wharf/wharflaw17.StreamReads", spec := "streamReads", inPlace := ["internal/reflectlite.ValueOf", "(internal/reflectlite.Value).Type", "(internal/reflectlite.Value).IsNil", "internal/reflectlite.TypeOf", "(internal/reflectlite.Value).Elem", "(internal/reflectlite.Value).Set"], unfollowed := true, recurses := true, named := ["errors.errorType"], loops := true, plainKeys := false, apart := false, laid := [("errors.errorType", laid_errors_errorType)] }
def StreamReadsSaid : Prop := streamReadsRow.holds Tryz.pinned (OpenSpec.ofChange streamReadsSpec)

/-- ITS FALSE NEIGHBOUR: 'it returns false'. Refute it at one input. -/
def streamReadsWrong : ChangeSpec := { name := "streamReads", fn := fun _ => fun
  | [d] => { results := [.lit (.bool false)], args := [d] }
  | _ => none }
def StreamReadsWrongFalsely : Prop := streamReadsRow.holds Tryz.pinned (OpenSpec.ofChange streamReadsWrong)

/-- 'wharflaw17.StreamMakes': WHATEVER THE INPUT: true; the input reads as it did. -/
def streamMakesSpec : ChangeSpec := { name := "streamMakes", fn := fun _ => fun
  | [d] => { results := [.lit (.bool true)], args := [d] }
  | _ => none }
def streamMakesRow : OpenClaim := { program := "ytmohbkniekeafaagreatdoor", sum := "1083a45727008738274d0e0c47755b9319981fc764174f1dad95befad5f2ac49", func := "wharf/wharflaw17.StreamMakes", spec := "streamMakes", inPlace := ["internal/reflectlite.ValueOf", "(internal/reflectlite.Value).Type", "(internal/reflectlite.Value).IsNil", "internal/reflectlite.TypeOf", "(internal/reflectlite.Value).Elem", "(internal/reflectlite.Value).Set"], unfollowed := true, recurses := true, named := ["errors.errorType"], loops := true, plainKeys := false, apart := false, laid := [("errors.errorType", laid_errors_errorType)] }
def StreamMakesSaid : Prop := streamMakesRow.holds Tryz.pinned (OpenSpec.ofChange streamMakesSpec)

/-- ITS FALSE NEIGHBOUR: 'it returns false'. Refute it at one input. -/
def streamMakesWrong : ChangeSpec := { name := "streamMakes", fn := fun _ => fun
  | [d] => { results := [.lit (.bool false)], args := [d] }
  | _ => none }
def StreamMakesWrongFalsely : Prop := streamMakesRow.holds Tryz.pinned (OpenSpec.ofChange streamMakesWrong)

/-- 'wharflaw17.StreamAnswers': WHATEVER THE INPUT: true; the input reads as it did. -/
def streamAnswersSpec : ChangeSpec := { name := "streamAnswers", fn := fun _ => fun
  | [d1, d2] => { results := [.lit (.bool true)], args := [d1, d2] }
  | _ => none }
def streamAnswersRow : OpenClaim := { program := "ytmohbkniekeafaagreatdoor", sum := "1083a45727008738274d0e0c47755b9319981fc764174f1dad95befad5f2ac49", func := "wharf/wharflaw17.StreamAnswers", spec := "streamAnswers", inPlace := ["internal/reflectlite.ValueOf", "(internal/reflectlite.Value).Type", "(internal/reflectlite.Value).IsNil", "internal/reflectlite.TypeOf", "(internal/reflectlite.Value).Elem", "(internal/reflectlite.Value).Set"], unfollowed := true, recurses := true, named := ["errors.errorType"], loops := true, plainKeys := false, apart := false, laid := [("errors.errorType", laid_errors_errorType)] }
def StreamAnswersSaid : Prop := streamAnswersRow.holds Tryz.pinned (OpenSpec.ofChange streamAnswersSpec)

/-- ITS FALSE NEIGHBOUR: 'it returns false'. Refute it at one input. -/
def streamAnswersWrong : ChangeSpec := { name := "streamAnswers", fn := fun _ => fun
  | [d1, d2] => { results := [.lit (.bool false)], args := [d1, d2] }
  | _ => none }
def StreamAnswersWrongFalsely : Prop := streamAnswersRow.holds Tryz.pinned (OpenSpec.ofChange streamAnswersWrong)

/-- 'wharflaw17.StreamMore': WHATEVER THE INPUT: true; the input reads as it did. -/
def streamMoreSpec : ChangeSpec := { name := "streamMore", fn := fun _ => fun
  | [d1, d2, d3] => { results := [.lit (.bool true)], args := [d1, d2, d3] }
  | _ => none }
def streamMoreRow : OpenClaim := { program := "ytmohbkniekeafaagreatdoor", sum := "1083a45727008738274d0e0c47755b9319981fc764174f1dad95befad5f2ac49", func := "wharf/wharflaw17.StreamMore", spec := "streamMore", inPlace := ["internal/reflectlite.ValueOf", "(internal/reflectlite.Value).Type", "(internal/reflectlite.Value).IsNil", "internal/reflectlite.TypeOf", "(internal/reflectlite.Value).Elem", "(internal/reflectlite.Value).Set"], unfollowed := true, recurses := true, named := ["errors.errorType"], plainKeys := false, apart := false, laid := [("errors.errorType", laid_errors_errorType)] }
def StreamMoreSaid : Prop := streamMoreRow.holds Tryz.pinned (OpenSpec.ofChange streamMoreSpec)

/-- ITS FALSE NEIGHBOUR: 'it returns false'. Refute it at one input. -/
def streamMoreWrong : ChangeSpec := { name := "streamMore", fn := fun _ => fun
  | [d1, d2, d3] => { results := [.lit (.bool false)], args := [d1, d2, d3] }
  | _ => none }
def StreamMoreWrongFalsely : Prop := streamMoreRow.holds Tryz.pinned (OpenSpec.ofChange streamMoreWrong)

/- THE SECOND FORM. 'bulk': how many values and letters a reading holds, each counted each time it is reached (what is shared counts as often as it is met; a slice's spare places count too). A statement '..UptoSaid' is the law's where the arguments, and the package variables that the reading takes, are together of bulk at most 1048576: NARROWER than '..Said'. Prove '..Said' where nothing that the law and all that it calls make is longer than what came in: it says more and counts as full. Else prove '..UptoSaid'. A law counts once. -/
mutual
def uptoBulk {H : Type} : DataW H → Nat
  | .lit (.string bytes) => bytes.length + 1
  | .lit _ => 1
  | .nil => 1
  | .ptr d => uptoBulk d + 1
  | .slice elems spare => uptoBulkAll elems + uptoBulkAll spare + 1
  | .agg parts => uptoBulkAll parts + 1
  | .iface _ d => uptoBulk d + 1
  | .map entries => uptoBulkEntries entries + 1
  | .held _ => 1
def uptoBulkAll {H : Type} : List (DataW H) → Nat
  | [] => 0
  | d :: r => uptoBulk d + uptoBulkAll r
def uptoBulkEntries {H : Type} : List (Lit × DataW H) → Nat
  | [] => 0
  | x :: r => uptoBulkEntry x + uptoBulkEntries r
def uptoBulkEntry {H : Type} : Lit × DataW H → Nat
  | (.string bytes, d) => bytes.length + uptoBulk d + 1
  | (_, d) => uptoBulk d + 1
 end
def uptoSmall : (H : Type) → List (DataW H) → Bool := fun _ ds => decide (uptoBulkAll ds ≤ 1048576)
def OpenSpec.upto (s : _root_.Go.ChangeSpec) : _root_.Go.OpenSpec := { _root_.Go.OpenSpec.ofChange s with cond := some uptoSmall }

/-- 'wharflaw14.SackBuilds', WHERE WHAT IT READS IS OF BULK AT MOST 1048576: true; the input reads as it did. -/
def sackBuildsUptoRow : OpenClaim := { program := "ytmohbkniekeafaagreatdoor", sum := "1083a45727008738274d0e0c47755b9319981fc764174f1dad95befad5f2ac49", func := "wharf/wharflaw14.SackBuilds", spec := "sackBuilds", inPlace := ["internal/reflectlite.ValueOf", "(internal/reflectlite.Value).Type", "(internal/reflectlite.Value).IsNil", "internal/reflectlite.TypeOf", "(internal/reflectlite.Value).Elem", "(internal/reflectlite.Value).Set"], unfollowed := true, recurses := true, named := ["errors.errorType"], plainKeys := false, apart := false, laid := [("errors.errorType", laid_errors_errorType)], narrowed := true }
def SackBuildsUptoSaid : Prop := sackBuildsUptoRow.holds Tryz.pinned (OpenSpec.upto sackBuildsSpec)

/-- 'wharflaw14.SackTells', WHERE WHAT IT READS IS OF BULK AT MOST 1048576: true; the input reads as it did. -/
def sackTellsUptoRow : OpenClaim := { program := "ytmohbkniekeafaagreatdoor", sum := "1083a45727008738274d0e0c47755b9319981fc764174f1dad95befad5f2ac49", func := "wharf/wharflaw14.SackTells", spec := "sackTells", inPlace := ["internal/reflectlite.ValueOf", "(internal/reflectlite.Value).Type", "(internal/reflectlite.Value).IsNil", "internal/reflectlite.TypeOf", "(internal/reflectlite.Value).Elem", "(internal/reflectlite.Value).Set"], unfollowed := true, recurses := true, named := ["errors.errorType"], plainKeys := false, apart := false, laid := [("errors.errorType", laid_errors_errorType)], narrowed := true }
def SackTellsUptoSaid : Prop := sackTellsUptoRow.holds Tryz.pinned (OpenSpec.upto sackTellsSpec)

/-- 'wharflaw16.ForwardMatchesReference', WHERE WHAT IT READS IS OF BULK AT MOST 1048576: true; the input reads as it did. -/
def forwardMatchesReferenceUptoRow : OpenClaim := { program := "ytmohbkniekeafaagreatdoor", sum := "1083a45727008738274d0e0c47755b9319981fc764174f1dad95befad5f2ac49", func := "wharf/wharflaw16.ForwardMatchesReference", spec := "forwardMatchesReference", inPlace := ["internal/reflectlite.ValueOf", "(internal/reflectlite.Value).Type", "(internal/reflectlite.Value).IsNil", "internal/reflectlite.TypeOf", "(internal/reflectlite.Value).Elem", "(internal/reflectlite.Value).Set"], unfollowed := true, recurses := true, named := ["errors.errorType"], plainKeys := false, apart := false, laid := [("errors.errorType", laid_errors_errorType)], narrowed := true }
def ForwardMatchesReferenceUptoSaid : Prop := forwardMatchesReferenceUptoRow.holds Tryz.pinned (OpenSpec.upto forwardMatchesReferenceSpec)

/-- 'wharflaw16.ForwardChunks', WHERE WHAT IT READS IS OF BULK AT MOST 1048576: true; the input reads as it did. -/
def forwardChunksUptoRow : OpenClaim := { program := "ytmohbkniekeafaagreatdoor", sum := "1083a45727008738274d0e0c47755b9319981fc764174f1dad95befad5f2ac49", func := "wharf/wharflaw16.ForwardChunks", spec := "forwardChunks", inPlace := ["internal/reflectlite.ValueOf", "(internal/reflectlite.Value).Type", "(internal/reflectlite.Value).IsNil", "internal/reflectlite.TypeOf", "(internal/reflectlite.Value).Elem", "(internal/reflectlite.Value).Set"], unfollowed := true, recurses := true, named := ["errors.errorType"], loops := true, plainKeys := false, apart := false, laid := [("errors.errorType", laid_errors_errorType)], narrowed := true }
def ForwardChunksUptoSaid : Prop := forwardChunksUptoRow.holds Tryz.pinned (OpenSpec.upto forwardChunksSpec)

/-- 'wharflaw16.ForwardMerges', WHERE WHAT IT READS IS OF BULK AT MOST 1048576: true; the input reads as it did. -/
def forwardMergesUptoRow : OpenClaim := { program := "ytmohbkniekeafaagreatdoor", sum := "1083a45727008738274d0e0c47755b9319981fc764174f1dad95befad5f2ac49", func := "wharf/wharflaw16.ForwardMerges", spec := "forwardMerges", inPlace := ["internal/reflectlite.ValueOf", "(internal/reflectlite.Value).Type", "(internal/reflectlite.Value).IsNil", "internal/reflectlite.TypeOf", "(internal/reflectlite.Value).Elem", "(internal/reflectlite.Value).Set"], unfollowed := true, recurses := true, named := ["errors.errorType"], plainKeys := false, apart := false, laid := [("errors.errorType", laid_errors_errorType)], narrowed := true }
def ForwardMergesUptoSaid : Prop := forwardMergesUptoRow.holds Tryz.pinned (OpenSpec.upto forwardMergesSpec)

/-- 'wharflaw16.ForwardCompares', WHERE WHAT IT READS IS OF BULK AT MOST 1048576: true; the input reads as it did. -/
def forwardComparesUptoRow : OpenClaim := { program := "ytmohbkniekeafaagreatdoor", sum := "1083a45727008738274d0e0c47755b9319981fc764174f1dad95befad5f2ac49", func := "wharf/wharflaw16.ForwardCompares", spec := "forwardCompares", inPlace := ["internal/reflectlite.ValueOf", "(internal/reflectlite.Value).Type", "(internal/reflectlite.Value).IsNil", "internal/reflectlite.TypeOf", "(internal/reflectlite.Value).Elem", "(internal/reflectlite.Value).Set"], unfollowed := true, recurses := true, named := ["errors.errorType"], plainKeys := false, apart := false, laid := [("errors.errorType", laid_errors_errorType)], narrowed := true }
def ForwardComparesUptoSaid : Prop := forwardComparesUptoRow.holds Tryz.pinned (OpenSpec.upto forwardComparesSpec)

/-- 'wharflaw16.ForwardMost', WHERE WHAT IT READS IS OF BULK AT MOST 1048576: true; the input reads as it did. -/
def forwardMostUptoRow : OpenClaim := { program := "ytmohbkniekeafaagreatdoor", sum := "1083a45727008738274d0e0c47755b9319981fc764174f1dad95befad5f2ac49", func := "wharf/wharflaw16.ForwardMost", spec := "forwardMost", inPlace := ["internal/reflectlite.ValueOf", "(internal/reflectlite.Value).Type", "(internal/reflectlite.Value).IsNil", "internal/reflectlite.TypeOf", "(internal/reflectlite.Value).Elem", "(internal/reflectlite.Value).Set"], unfollowed := true, recurses := true, named := ["errors.errorType"], plainKeys := false, apart := false, laid := [("errors.errorType", laid_errors_errorType)], narrowed := true }
def ForwardMostUptoSaid : Prop := forwardMostUptoRow.holds Tryz.pinned (OpenSpec.upto forwardMostSpec)

/-- 'wharflaw17.StreamMatchesReference', WHERE WHAT IT READS IS OF BULK AT MOST 1048576: true; the input reads as it did. -/
def streamMatchesReferenceUptoRow : OpenClaim := { program := "ytmohbkniekeafaagreatdoor", sum := "1083a45727008738274d0e0c47755b9319981fc764174f1dad95befad5f2ac49", func := "wharf/wharflaw17.StreamMatchesReference", spec := "streamMatchesReference", inPlace := ["internal/reflectlite.ValueOf", "(internal/reflectlite.Value).Type", "(internal/reflectlite.Value).IsNil", "internal/reflectlite.TypeOf", "(internal/reflectlite.Value).Elem", "(internal/reflectlite.Value).Set"], unfollowed := true, recurses := true, named := ["errors.errorType"], plainKeys := false, apart := false, laid := [("errors.errorType", laid_errors_errorType)], narrowed := true }
def StreamMatchesReferenceUptoSaid : Prop := streamMatchesReferenceUptoRow.holds Tryz.pinned (OpenSpec.upto streamMatchesReferenceSpec)

/-- 'wharflaw17.StreamReads', WHERE WHAT IT READS IS OF BULK AT MOST 1048576: true; the input reads as it did. -/
def streamReadsUptoRow : OpenClaim := { program := "ytmohbkniekeafaagreatdoor", sum := "1083a45727008738274d0e0c47755b9319981fc764174f1dad95befad5f2ac49", func := "wharf/wharflaw17.StreamReads", spec := "streamReads", inPlace := ["internal/reflectlite.ValueOf", "(internal/reflectlite.Value).Type", "(internal/reflectlite.Value).IsNil", "internal/reflectlite.TypeOf", "(internal/reflectlite.Value).Elem", "(internal/reflectlite.Value).Set"], unfollowed := true, recurses := true, named := ["errors.errorType"], loops := true, plainKeys := false, apart := false, laid := [("errors.errorType", laid_errors_errorType)], narrowed := true }
def StreamReadsUptoSaid : Prop := streamReadsUptoRow.holds Tryz.pinned (OpenSpec.upto streamReadsSpec)

/-- 'wharflaw17.StreamMakes', WHERE WHAT IT READS IS OF BULK AT MOST 1048576: true; the input reads as it did. -/
def streamMakesUptoRow : OpenClaim := { program := "ytmohbkniekeafaagreatdoor", sum := "1083a45727008738274d0e0c47755b9319981fc764174f1dad95befad5f2ac49", func := "wharf/wharflaw17.StreamMakes", spec := "streamMakes", inPlace := ["internal/reflectlite.ValueOf", "(internal/reflectlite.Value).Type", "(internal/reflectlite.Value).IsNil", "internal/reflectlite.TypeOf", "(internal/reflectlite.Value).Elem", "(internal/reflectlite.Value).Set"], unfollowed := true, recurses := true, named := ["errors.errorType"], loops := true, plainKeys := false, apart := false, laid := [("errors.errorType", laid_errors_errorType)], narrowed := true }
def StreamMakesUptoSaid : Prop := streamMakesUptoRow.holds Tryz.pinned (OpenSpec.upto streamMakesSpec)

/-- 'wharflaw17.StreamAnswers', WHERE WHAT IT READS IS OF BULK AT MOST 1048576: true; the input reads as it did. -/
def streamAnswersUptoRow : OpenClaim := { program := "ytmohbkniekeafaagreatdoor", sum := "1083a45727008738274d0e0c47755b9319981fc764174f1dad95befad5f2ac49", func := "wharf/wharflaw17.StreamAnswers", spec := "streamAnswers", inPlace := ["internal/reflectlite.ValueOf", "(internal/reflectlite.Value).Type", "(internal/reflectlite.Value).IsNil", "internal/reflectlite.TypeOf", "(internal/reflectlite.Value).Elem", "(internal/reflectlite.Value).Set"], unfollowed := true, recurses := true, named := ["errors.errorType"], loops := true, plainKeys := false, apart := false, laid := [("errors.errorType", laid_errors_errorType)], narrowed := true }
def StreamAnswersUptoSaid : Prop := streamAnswersUptoRow.holds Tryz.pinned (OpenSpec.upto streamAnswersSpec)

/-- 'wharflaw17.StreamMore', WHERE WHAT IT READS IS OF BULK AT MOST 1048576: true; the input reads as it did. -/
def streamMoreUptoRow : OpenClaim := { program := "ytmohbkniekeafaagreatdoor", sum := "1083a45727008738274d0e0c47755b9319981fc764174f1dad95befad5f2ac49", func := "wharf/wharflaw17.StreamMore", spec := "streamMore", inPlace := ["internal/reflectlite.ValueOf", "(internal/reflectlite.Value).Type", "(internal/reflectlite.Value).IsNil", "internal/reflectlite.TypeOf", "(internal/reflectlite.Value).Elem", "(internal/reflectlite.Value).Set"], unfollowed := true, recurses := true, named := ["errors.errorType"], plainKeys := false, apart := false, laid := [("errors.errorType", laid_errors_errorType)], narrowed := true }
def StreamMoreUptoSaid : Prop := streamMoreUptoRow.holds Tryz.pinned (OpenSpec.upto streamMoreSpec)

end Rows
end Go.Proofs.YtmohbkniekeafaaGreatDoor
