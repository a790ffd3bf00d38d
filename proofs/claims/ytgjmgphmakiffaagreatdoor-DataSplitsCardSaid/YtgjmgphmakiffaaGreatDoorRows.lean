/-
  NARROWER THAN 'FOR EVERY INPUT', by the rows' own cells (each row's printed sentence says how): DataMatchesReference: laid · DataChunks: loops, laid · DataSplits: laid · DataJoins: laid · DataMost: laid · SackMatchesReference: laid · SackChunks: loops, laid · SackCovers: laid · SackBuilds: laid · SackTells: laid.
  DERIVED. THE GIVEN ROWS OF THIS SEAT. 10 by the template 'for every input the law returns true; each argument reads behind the call as it read before'; 0 by the template 'total and deterministic' (their statements: YtgjmgphmakiffaaGreatDoorTotals.lean).
  GIVEN WITH THE SEED: the statements are not yours to turn. If you find one false, say at which input.
  Laid BY PROGRAM, IN A SANDBOX (cutbox-rows.mjs): the forced cells as the released guide's own fill.sh prints them over the translation ebf33dfb1114a134… (all of the seat's roots in one cut). By AI agents, Wed Nov 11 2026. No macro, syntax, notation, axiom, sorry.
-/
import Derived.Test.YtgjmgphmakiffaaGreatDoorChecked
import GoSem.Claim
import GoSem.ClaimJoined
import GoSem.ClaimMapViews
import Derived.JoinedTies
import Derived.KernelRfl
namespace Go.Proofs.YtgjmgphmakiffaaGreatDoor
/- THE CELL 'sum', in the pinned program and in every row, IS THE sha256 OF THE DUMP (.gsa) THAT YtgjmgphmakiffaaGreatDoorProg.lean LOADS. Nothing in Lean hashes anything: it is a label: what it is worth is what the hold of that sum in a sandbox is worth. -/
noncomputable def Tryz.pinned : Pinned := { name := "ytgjmgphmakiffaagreatdoor", sum := "ebf33dfb1114a1349ecca6e04cdea48a3f8adda23a1ed975dd7db9018360d591", checked := Tryz.checked }
namespace Rows
def none {H : Type} : Left H := { results := [], args := [] }

/- WHAT THE LISTED PACKAGE-LEVEL VARIABLES READ AS WHEN THE CALL BEGINS. Each datum BY PROGRAM (the guide's laid-datum.mjs) off the statement by which the dump's own 'gosem.cut.vars' lays the variable. In a bare row this is a premise. The card (YtgjmgphmakiffaaGreatDoorCards.lean) ties it to the program's text. -/
def laid_errors_errorType {H : Type} : DataW H := .iface "internal/reflectlite.rtype" (.agg [.ptr (.lit (.string [101, 114, 114, 111, 114]))])

/-- 'wharflaw13.DataMatchesReference': WHATEVER THE INPUT: true; the input reads as it did. -/
def dataMatchesReferenceSpec : ChangeSpec := { name := "dataMatchesReference", fn := fun _ => fun
  | [d] => { results := [.lit (.bool true)], args := [d] }
  | _ => none }
def dataMatchesReferenceRow : OpenClaim := { program := "ytgjmgphmakiffaagreatdoor", sum := "ebf33dfb1114a1349ecca6e04cdea48a3f8adda23a1ed975dd7db9018360d591", func := "wharf/wharflaw13.DataMatchesReference", spec := "dataMatchesReference", inPlace := ["internal/reflectlite.ValueOf", "(internal/reflectlite.Value).Type", "(internal/reflectlite.Value).IsNil", "internal/reflectlite.TypeOf", "(internal/reflectlite.Value).Elem", "(internal/reflectlite.Value).Set"], unfollowed := true, recurses := true, named := ["errors.errorType"], apart := false, laid := [("errors.errorType", laid_errors_errorType)] }
def DataMatchesReferenceSaid : Prop := dataMatchesReferenceRow.holds Tryz.pinned (OpenSpec.ofChange dataMatchesReferenceSpec)

/-- ITS FALSE NEIGHBOUR: 'it returns false'. Refute it at one input. -/
def dataMatchesReferenceWrong : ChangeSpec := { name := "dataMatchesReference", fn := fun _ => fun
  | [d] => { results := [.lit (.bool false)], args := [d] }
  | _ => none }
def DataMatchesReferenceWrongFalsely : Prop := dataMatchesReferenceRow.holds Tryz.pinned (OpenSpec.ofChange dataMatchesReferenceWrong)

/-- 'wharflaw13.DataChunks': WHATEVER THE INPUT: true; the input reads as it did. -/
def dataChunksSpec : ChangeSpec := { name := "dataChunks", fn := fun _ => fun
  | [d] => { results := [.lit (.bool true)], args := [d] }
  | _ => none }
def dataChunksRow : OpenClaim := { program := "ytgjmgphmakiffaagreatdoor", sum := "ebf33dfb1114a1349ecca6e04cdea48a3f8adda23a1ed975dd7db9018360d591", func := "wharf/wharflaw13.DataChunks", spec := "dataChunks", inPlace := ["internal/reflectlite.ValueOf", "(internal/reflectlite.Value).Type", "(internal/reflectlite.Value).IsNil", "internal/reflectlite.TypeOf", "(internal/reflectlite.Value).Elem", "(internal/reflectlite.Value).Set"], unfollowed := true, recurses := true, named := ["errors.errorType"], loops := true, apart := false, laid := [("errors.errorType", laid_errors_errorType)] }
def DataChunksSaid : Prop := dataChunksRow.holds Tryz.pinned (OpenSpec.ofChange dataChunksSpec)

/-- ITS FALSE NEIGHBOUR: 'it returns false'. Refute it at one input. -/
def dataChunksWrong : ChangeSpec := { name := "dataChunks", fn := fun _ => fun
  | [d] => { results := [.lit (.bool false)], args := [d] }
  | _ => none }
def DataChunksWrongFalsely : Prop := dataChunksRow.holds Tryz.pinned (OpenSpec.ofChange dataChunksWrong)

/-- 'wharflaw13.DataSplits': WHATEVER THE INPUT: true; the input reads as it did. -/
def dataSplitsSpec : ChangeSpec := { name := "dataSplits", fn := fun _ => fun
  | [d1, d2] => { results := [.lit (.bool true)], args := [d1, d2] }
  | _ => none }
def dataSplitsRow : OpenClaim := { program := "ytgjmgphmakiffaagreatdoor", sum := "ebf33dfb1114a1349ecca6e04cdea48a3f8adda23a1ed975dd7db9018360d591", func := "wharf/wharflaw13.DataSplits", spec := "dataSplits", inPlace := ["internal/reflectlite.ValueOf", "(internal/reflectlite.Value).Type", "(internal/reflectlite.Value).IsNil", "internal/reflectlite.TypeOf", "(internal/reflectlite.Value).Elem", "(internal/reflectlite.Value).Set"], unfollowed := true, recurses := true, named := ["errors.errorType"], apart := false, laid := [("errors.errorType", laid_errors_errorType)] }
def DataSplitsSaid : Prop := dataSplitsRow.holds Tryz.pinned (OpenSpec.ofChange dataSplitsSpec)

/-- ITS FALSE NEIGHBOUR: 'it returns false'. Refute it at one input. -/
def dataSplitsWrong : ChangeSpec := { name := "dataSplits", fn := fun _ => fun
  | [d1, d2] => { results := [.lit (.bool false)], args := [d1, d2] }
  | _ => none }
def DataSplitsWrongFalsely : Prop := dataSplitsRow.holds Tryz.pinned (OpenSpec.ofChange dataSplitsWrong)

/-- 'wharflaw13.DataJoins': WHATEVER THE INPUT: true; the input reads as it did. -/
def dataJoinsSpec : ChangeSpec := { name := "dataJoins", fn := fun _ => fun
  | [d] => { results := [.lit (.bool true)], args := [d] }
  | _ => none }
def dataJoinsRow : OpenClaim := { program := "ytgjmgphmakiffaagreatdoor", sum := "ebf33dfb1114a1349ecca6e04cdea48a3f8adda23a1ed975dd7db9018360d591", func := "wharf/wharflaw13.DataJoins", spec := "dataJoins", inPlace := ["internal/reflectlite.ValueOf", "(internal/reflectlite.Value).Type", "(internal/reflectlite.Value).IsNil", "internal/reflectlite.TypeOf", "(internal/reflectlite.Value).Elem", "(internal/reflectlite.Value).Set"], unfollowed := true, recurses := true, named := ["errors.errorType"], apart := false, laid := [("errors.errorType", laid_errors_errorType)] }
def DataJoinsSaid : Prop := dataJoinsRow.holds Tryz.pinned (OpenSpec.ofChange dataJoinsSpec)

/-- ITS FALSE NEIGHBOUR: 'it returns false'. Refute it at one input. -/
def dataJoinsWrong : ChangeSpec := { name := "dataJoins", fn := fun _ => fun
  | [d] => { results := [.lit (.bool false)], args := [d] }
  | _ => none }
def DataJoinsWrongFalsely : Prop := dataJoinsRow.holds Tryz.pinned (OpenSpec.ofChange dataJoinsWrong)

/-- 'wharflaw13.DataMost': WHATEVER THE INPUT: true; the input reads as it did. -/
def dataMostSpec : ChangeSpec := { name := "dataMost", fn := fun _ => fun
  | [d1, d2] => { results := [.lit (.bool true)], args := [d1, d2] }
  | _ => none }
def dataMostRow : OpenClaim := { program := "ytgjmgphmakiffaagreatdoor", sum := "ebf33dfb1114a1349ecca6e04cdea48a3f8adda23a1ed975dd7db9018360d591", func := "wharf/wharflaw13.DataMost", spec := "dataMost", inPlace := ["internal/reflectlite.ValueOf", "(internal/reflectlite.Value).Type", "(internal/reflectlite.Value).IsNil", "internal/reflectlite.TypeOf", "(internal/reflectlite.Value).Elem", "(internal/reflectlite.Value).Set"], unfollowed := true, recurses := true, named := ["errors.errorType"], apart := false, laid := [("errors.errorType", laid_errors_errorType)] }
def DataMostSaid : Prop := dataMostRow.holds Tryz.pinned (OpenSpec.ofChange dataMostSpec)

/-- ITS FALSE NEIGHBOUR: 'it returns false'. Refute it at one input. -/
def dataMostWrong : ChangeSpec := { name := "dataMost", fn := fun _ => fun
  | [d1, d2] => { results := [.lit (.bool false)], args := [d1, d2] }
  | _ => none }
def DataMostWrongFalsely : Prop := dataMostRow.holds Tryz.pinned (OpenSpec.ofChange dataMostWrong)

/-- 'wharflaw14.SackMatchesReference': WHATEVER THE INPUT: true; the input reads as it did. -/
def sackMatchesReferenceSpec : ChangeSpec := { name := "sackMatchesReference", fn := fun _ => fun
  | [d1, d2] => { results := [.lit (.bool true)], args := [d1, d2] }
  | _ => none }
def sackMatchesReferenceRow : OpenClaim := { program := "ytgjmgphmakiffaagreatdoor", sum := "ebf33dfb1114a1349ecca6e04cdea48a3f8adda23a1ed975dd7db9018360d591", func := "wharf/wharflaw14.SackMatchesReference", spec := "sackMatchesReference", inPlace := ["internal/reflectlite.ValueOf", "(internal/reflectlite.Value).Type", "(internal/reflectlite.Value).IsNil", "internal/reflectlite.TypeOf", "(internal/reflectlite.Value).Elem", "(internal/reflectlite.Value).Set"], unfollowed := true, recurses := true, named := ["errors.errorType"], apart := false, laid := [("errors.errorType", laid_errors_errorType)] }
def SackMatchesReferenceSaid : Prop := sackMatchesReferenceRow.holds Tryz.pinned (OpenSpec.ofChange sackMatchesReferenceSpec)

/-- ITS FALSE NEIGHBOUR: 'it returns false'. Refute it at one input. -/
def sackMatchesReferenceWrong : ChangeSpec := { name := "sackMatchesReference", fn := fun _ => fun
  | [d1, d2] => { results := [.lit (.bool false)], args := [d1, d2] }
  | _ => none }
def SackMatchesReferenceWrongFalsely : Prop := sackMatchesReferenceRow.holds Tryz.pinned (OpenSpec.ofChange sackMatchesReferenceWrong)

/-- 'wharflaw14.SackChunks': WHATEVER THE INPUT: true; the input reads as it did. -/
def sackChunksSpec : ChangeSpec := { name := "sackChunks", fn := fun _ => fun
  | [d] => { results := [.lit (.bool true)], args := [d] }
  | _ => none }
def sackChunksRow : OpenClaim := { program := "ytgjmgphmakiffaagreatdoor", sum := "ebf33dfb1114a1349ecca6e04cdea48a3f8adda23a1ed975dd7db9018360d591", func := "wharf/wharflaw14.SackChunks", spec := "sackChunks", inPlace := ["internal/reflectlite.ValueOf", "(internal/reflectlite.Value).Type", "(internal/reflectlite.Value).IsNil", "internal/reflectlite.TypeOf", "(internal/reflectlite.Value).Elem", "(internal/reflectlite.Value).Set"], unfollowed := true, recurses := true, named := ["errors.errorType"], loops := true, apart := false, laid := [("errors.errorType", laid_errors_errorType)] }
def SackChunksSaid : Prop := sackChunksRow.holds Tryz.pinned (OpenSpec.ofChange sackChunksSpec)

/-- ITS FALSE NEIGHBOUR: 'it returns false'. Refute it at one input. -/
def sackChunksWrong : ChangeSpec := { name := "sackChunks", fn := fun _ => fun
  | [d] => { results := [.lit (.bool false)], args := [d] }
  | _ => none }
def SackChunksWrongFalsely : Prop := sackChunksRow.holds Tryz.pinned (OpenSpec.ofChange sackChunksWrong)

/-- 'wharflaw14.SackCovers': WHATEVER THE INPUT: true; the input reads as it did. -/
def sackCoversSpec : ChangeSpec := { name := "sackCovers", fn := fun _ => fun
  | [d1, d2] => { results := [.lit (.bool true)], args := [d1, d2] }
  | _ => none }
def sackCoversRow : OpenClaim := { program := "ytgjmgphmakiffaagreatdoor", sum := "ebf33dfb1114a1349ecca6e04cdea48a3f8adda23a1ed975dd7db9018360d591", func := "wharf/wharflaw14.SackCovers", spec := "sackCovers", inPlace := ["internal/reflectlite.ValueOf", "(internal/reflectlite.Value).Type", "(internal/reflectlite.Value).IsNil", "internal/reflectlite.TypeOf", "(internal/reflectlite.Value).Elem", "(internal/reflectlite.Value).Set"], unfollowed := true, recurses := true, named := ["errors.errorType"], apart := false, laid := [("errors.errorType", laid_errors_errorType)] }
def SackCoversSaid : Prop := sackCoversRow.holds Tryz.pinned (OpenSpec.ofChange sackCoversSpec)

/-- ITS FALSE NEIGHBOUR: 'it returns false'. Refute it at one input. -/
def sackCoversWrong : ChangeSpec := { name := "sackCovers", fn := fun _ => fun
  | [d1, d2] => { results := [.lit (.bool false)], args := [d1, d2] }
  | _ => none }
def SackCoversWrongFalsely : Prop := sackCoversRow.holds Tryz.pinned (OpenSpec.ofChange sackCoversWrong)

/-- 'wharflaw14.SackBuilds': WHATEVER THE INPUT: true; the input reads as it did. -/
def sackBuildsSpec : ChangeSpec := { name := "sackBuilds", fn := fun _ => fun
  | [d1, d2, d3] => { results := [.lit (.bool true)], args := [d1, d2, d3] }
  | _ => none }
def sackBuildsRow : OpenClaim := { program := "ytgjmgphmakiffaagreatdoor", sum := "ebf33dfb1114a1349ecca6e04cdea48a3f8adda23a1ed975dd7db9018360d591", func := "wharf/wharflaw14.SackBuilds", spec := "sackBuilds", inPlace := ["internal/reflectlite.ValueOf", "(internal/reflectlite.Value).Type", "(internal/reflectlite.Value).IsNil", "internal/reflectlite.TypeOf", "(internal/reflectlite.Value).Elem", "(internal/reflectlite.Value).Set"], unfollowed := true, recurses := true, named := ["errors.errorType"], apart := false, laid := [("errors.errorType", laid_errors_errorType)] }
def SackBuildsSaid : Prop := sackBuildsRow.holds Tryz.pinned (OpenSpec.ofChange sackBuildsSpec)

/-- ITS FALSE NEIGHBOUR: 'it returns false'. Refute it at one input. -/
def sackBuildsWrong : ChangeSpec := { name := "sackBuilds", fn := fun _ => fun
  | [d1, d2, d3] => { results := [.lit (.bool false)], args := [d1, d2, d3] }
  | _ => none }
def SackBuildsWrongFalsely : Prop := sackBuildsRow.holds Tryz.pinned (OpenSpec.ofChange sackBuildsWrong)

/-- 'wharflaw14.SackTells': WHATEVER THE INPUT: true; the input reads as it did. -/
def sackTellsSpec : ChangeSpec := { name := "sackTells", fn := fun _ => fun
  | [d1, d2, d3] => { results := [.lit (.bool true)], args := [d1, d2, d3] }
  | _ => none }
def sackTellsRow : OpenClaim := { program := "ytgjmgphmakiffaagreatdoor", sum := "ebf33dfb1114a1349ecca6e04cdea48a3f8adda23a1ed975dd7db9018360d591", func := "wharf/wharflaw14.SackTells", spec := "sackTells", inPlace := ["internal/reflectlite.ValueOf", "(internal/reflectlite.Value).Type", "(internal/reflectlite.Value).IsNil", "internal/reflectlite.TypeOf", "(internal/reflectlite.Value).Elem", "(internal/reflectlite.Value).Set"], unfollowed := true, recurses := true, named := ["errors.errorType"], apart := false, laid := [("errors.errorType", laid_errors_errorType)] }
def SackTellsSaid : Prop := sackTellsRow.holds Tryz.pinned (OpenSpec.ofChange sackTellsSpec)

/-- ITS FALSE NEIGHBOUR: 'it returns false'. Refute it at one input. -/
def sackTellsWrong : ChangeSpec := { name := "sackTells", fn := fun _ => fun
  | [d1, d2, d3] => { results := [.lit (.bool false)], args := [d1, d2, d3] }
  | _ => none }
def SackTellsWrongFalsely : Prop := sackTellsRow.holds Tryz.pinned (OpenSpec.ofChange sackTellsWrong)

/- THE SECOND FORM. 'bulk': how many values and letters a reading holds, each counted each time it is reached (what is shared counts as often as it is met; a slice's spare places count too). A statement '..UptoSaid' is the law's where the arguments, and the package variables that the reading takes, are together of bulk at most 1048576: NARROWER than '..Said'. Prove '..Said' where nothing that the law and all that it calls make is longer than what came in: it says more and counts as full. Else prove '..UptoSaid'. A law counts once. -/
mutual
def uptoBulk {H : Type} : DataW H → Nat
  | .lit (.string bytes) => bytes.length + 1
  | .lit _ => 1
  | .nil => 1
  | .ptr d => uptoBulk d + 1
  | .slice elems spare => uptoBulkAll elems + uptoBulkAll spare + 1
  | .agg parts => uptoBulkAll parts + 1
  | .iface _ d => uptoBulk d + 1
  | .map entries => uptoBulkEntries entries + 1
  | .held _ => 1
def uptoBulkAll {H : Type} : List (DataW H) → Nat
  | [] => 0
  | d :: r => uptoBulk d + uptoBulkAll r
def uptoBulkEntries {H : Type} : List (Lit × DataW H) → Nat
  | [] => 0
  | x :: r => uptoBulkEntry x + uptoBulkEntries r
def uptoBulkEntry {H : Type} : Lit × DataW H → Nat
  | (.string bytes, d) => bytes.length + uptoBulk d + 1
  | (_, d) => uptoBulk d + 1
 end
def uptoSmall : (H : Type) → List (DataW H) → Bool := fun _ ds => decide (uptoBulkAll ds ≤ 1048576)
def OpenSpec.upto (s : _root_.Go.ChangeSpec) : _root_.Go.OpenSpec := { _root_.Go.OpenSpec.ofChange s with cond := some uptoSmall }

/-- 'wharflaw13.DataMatchesReference', WHERE WHAT IT READS IS OF BULK AT MOST 1048576: true; the input reads as it did. -/
def dataMatchesReferenceUptoRow : OpenClaim := { program := "ytgjmgphmakiffaagreatdoor", sum := "ebf33dfb1114a1349ecca6e04cdea48a3f8adda23a1ed975dd7db9018360d591", func := "wharf/wharflaw13.DataMatchesReference", spec := "dataMatchesReference", inPlace := ["internal/reflectlite.ValueOf", "(internal/reflectlite.Value).Type", "(internal/reflectlite.Value).IsNil", "internal/reflectlite.TypeOf", "(internal/reflectlite.Value).Elem", "(internal/reflectlite.Value).Set"], unfollowed := true, recurses := true, named := ["errors.errorType"], apart := false, laid := [("errors.errorType", laid_errors_errorType)], narrowed := true }
def DataMatchesReferenceUptoSaid : Prop := dataMatchesReferenceUptoRow.holds Tryz.pinned (OpenSpec.upto dataMatchesReferenceSpec)

/-- 'wharflaw13.DataChunks', WHERE WHAT IT READS IS OF BULK AT MOST 1048576: true; the input reads as it did. -/
def dataChunksUptoRow : OpenClaim := { program := "ytgjmgphmakiffaagreatdoor", sum := "ebf33dfb1114a1349ecca6e04cdea48a3f8adda23a1ed975dd7db9018360d591", func := "wharf/wharflaw13.DataChunks", spec := "dataChunks", inPlace := ["internal/reflectlite.ValueOf", "(internal/reflectlite.Value).Type", "(internal/reflectlite.Value).IsNil", "internal/reflectlite.TypeOf", "(internal/reflectlite.Value).Elem", "(internal/reflectlite.Value).Set"], unfollowed := true, recurses := true, named := ["errors.errorType"], loops := true, apart := false, laid := [("errors.errorType", laid_errors_errorType)], narrowed := true }
def DataChunksUptoSaid : Prop := dataChunksUptoRow.holds Tryz.pinned (OpenSpec.upto dataChunksSpec)

/-- 'wharflaw13.DataSplits', WHERE WHAT IT READS IS OF BULK AT MOST 1048576: true; the input reads as it did. -/
def dataSplitsUptoRow : OpenClaim := { program := "ytgjmgphmakiffaagreatdoor", sum := "ebf33dfb1114a1349ecca6e04cdea48a3f8adda23a1ed975dd7db9018360d591", func := "wharf/wharflaw13.DataSplits", spec := "dataSplits", inPlace := ["internal/reflectlite.ValueOf", "(internal/reflectlite.Value).Type", "(internal/reflectlite.Value).IsNil", "internal/reflectlite.TypeOf", "(internal/reflectlite.Value).Elem", "(internal/reflectlite.Value).Set"], unfollowed := true, recurses := true, named := ["errors.errorType"], apart := false, laid := [("errors.errorType", laid_errors_errorType)], narrowed := true }
def DataSplitsUptoSaid : Prop := dataSplitsUptoRow.holds Tryz.pinned (OpenSpec.upto dataSplitsSpec)

/-- 'wharflaw13.DataJoins', WHERE WHAT IT READS IS OF BULK AT MOST 1048576: true; the input reads as it did. -/
def dataJoinsUptoRow : OpenClaim := { program := "ytgjmgphmakiffaagreatdoor", sum := "ebf33dfb1114a1349ecca6e04cdea48a3f8adda23a1ed975dd7db9018360d591", func := "wharf/wharflaw13.DataJoins", spec := "dataJoins", inPlace := ["internal/reflectlite.ValueOf", "(internal/reflectlite.Value).Type", "(internal/reflectlite.Value).IsNil", "internal/reflectlite.TypeOf", "(internal/reflectlite.Value).Elem", "(internal/reflectlite.Value).Set"], unfollowed := true, recurses := true, named := ["errors.errorType"], apart := false, laid := [("errors.errorType", laid_errors_errorType)], narrowed := true }
def DataJoinsUptoSaid : Prop := dataJoinsUptoRow.holds Tryz.pinned (OpenSpec.upto dataJoinsSpec)

/-- 'wharflaw13.DataMost', WHERE WHAT IT READS IS OF BULK AT MOST 1048576: true; the input reads as it did. -/
def dataMostUptoRow : OpenClaim := { program := "ytgjmgphmakiffaagreatdoor", sum := "ebf33dfb1114a1349ecca6e04cdea48a3f8adda23a1ed975dd7db9018360d591", func := "wharf/wharflaw13.DataMost", spec := "dataMost", inPlace := ["internal/reflectlite.ValueOf", "(internal/reflectlite.Value).Type", "(internal/reflectlite.Value).IsNil", "internal/reflectlite.TypeOf", "(internal/reflectlite.Value).Elem", "(internal/reflectlite.Value).Set"], unfollowed := true, recurses := true, named := ["errors.errorType"], apart := false, laid := [("errors.errorType", laid_errors_errorType)], narrowed := true }
def DataMostUptoSaid : Prop := dataMostUptoRow.holds Tryz.pinned (OpenSpec.upto dataMostSpec)

/-- 'wharflaw14.SackMatchesReference', WHERE WHAT IT READS IS OF BULK AT MOST 1048576: true; the input reads as it did. -/
def sackMatchesReferenceUptoRow : OpenClaim := { program := "ytgjmgphmakiffaagreatdoor", sum := "ebf33dfb1114a1349ecca6e04cdea48a3f8adda23a1ed975dd7db9018360d591", func := "wharf/wharflaw14.SackMatchesReference", spec := "sackMatchesReference", inPlace := ["internal/reflectlite.ValueOf", "(internal/reflectlite.Value).Type", "(internal/reflectlite.Value).IsNil", "internal/reflectlite.TypeOf", "(internal/reflectlite.Value).Elem", "(internal/reflectlite.Value).Set"], unfollowed := true, recurses := true, named := ["errors.errorType"], apart := false, laid := [("errors.errorType", laid_errors_errorType)], narrowed := true }
def SackMatchesReferenceUptoSaid : Prop := sackMatchesReferenceUptoRow.holds Tryz.pinned (OpenSpec.upto sackMatchesReferenceSpec)

/-- 'wharflaw14.SackChunks', WHERE WHAT IT READS IS OF BULK AT MOST 1048576: true; the input reads as it did. -/
def sackChunksUptoRow : OpenClaim := { program := "ytgjmgphmakiffaagreatdoor", sum := "ebf33dfb1114a1349ecca6e04cdea48a3f8adda23a1ed975dd7db9018360d591", func := "wharf/wharflaw14.SackChunks", spec := "sackChunks", inPlace := ["internal/reflectlite.ValueOf", "(internal/reflectlite.Value).Type", "(internal/reflectlite.Value).IsNil", "internal/reflectlite.TypeOf", "(internal/reflectlite.Value).Elem", "(internal/reflectlite.Value).Set"], unfollowed := true, recurses := true, named := ["errors.errorType"], loops := true, apart := false, laid := [("errors.errorType", laid_errors_errorType)], narrowed := true }
def SackChunksUptoSaid : Prop := sackChunksUptoRow.holds Tryz.pinned (OpenSpec.upto sackChunksSpec)

/-- 'wharflaw14.SackCovers', WHERE WHAT IT READS IS OF BULK AT MOST 1048576: true; the input reads as it did. -/
def sackCoversUptoRow : OpenClaim := { program := "ytgjmgphmakiffaagreatdoor", sum := "ebf33dfb1114a1349ecca6e04cdea48a3f8adda23a1ed975dd7db9018360d591", func := "wharf/wharflaw14.SackCovers", spec := "sackCovers", inPlace := ["internal/reflectlite.ValueOf", "(internal/reflectlite.Value).Type", "(internal/reflectlite.Value).IsNil", "internal/reflectlite.TypeOf", "(internal/reflectlite.Value).Elem", "(internal/reflectlite.Value).Set"], unfollowed := true, recurses := true, named := ["errors.errorType"], apart := false, laid := [("errors.errorType", laid_errors_errorType)], narrowed := true }
def SackCoversUptoSaid : Prop := sackCoversUptoRow.holds Tryz.pinned (OpenSpec.upto sackCoversSpec)

/-- 'wharflaw14.SackBuilds', WHERE WHAT IT READS IS OF BULK AT MOST 1048576: true; the input reads as it did. -/
def sackBuildsUptoRow : OpenClaim := { program := "ytgjmgphmakiffaagreatdoor", sum := "ebf33dfb1114a1349ecca6e04cdea48a3f8adda23a1ed975dd7db9018360d591", func := "wharf/wharflaw14.SackBuilds", spec := "sackBuilds", inPlace := ["internal/reflectlite.ValueOf", "(internal/reflectlite.Value).Type", "(internal/reflectlite.Value).IsNil", "internal/reflectlite.TypeOf", "(internal/reflectlite.Value).Elem", "(internal/reflectlite.Value).Set"], unfollowed := true, recurses := true, named := ["errors.errorType"], apart := false, laid := [("errors.errorType", laid_errors_errorType)], narrowed := true }
def SackBuildsUptoSaid : Prop := sackBuildsUptoRow.holds Tryz.pinned (OpenSpec.upto sackBuildsSpec)

/-- 'wharflaw14.SackTells', WHERE WHAT IT READS IS OF BULK AT MOST 1048576: true; the input reads as it did. -/
def sackTellsUptoRow : OpenClaim := { program := "ytgjmgphmakiffaagreatdoor", sum := "ebf33dfb1114a1349ecca6e04cdea48a3f8adda23a1ed975dd7db9018360d591", func := "wharf/wharflaw14.SackTells", spec := "sackTells", inPlace := ["internal/reflectlite.ValueOf", "(internal/reflectlite.Value).Type", "(internal/reflectlite.Value).IsNil", "internal/reflectlite.TypeOf", "(internal/reflectlite.Value).Elem", "(internal/reflectlite.Value).Set"], unfollowed := true, recurses := true, named := ["errors.errorType"], apart := false, laid := [("errors.errorType", laid_errors_errorType)], narrowed := true }
def SackTellsUptoSaid : Prop := sackTellsUptoRow.holds Tryz.pinned (OpenSpec.upto sackTellsSpec)

end Rows
end Go.Proofs.YtgjmgphmakiffaaGreatDoor
