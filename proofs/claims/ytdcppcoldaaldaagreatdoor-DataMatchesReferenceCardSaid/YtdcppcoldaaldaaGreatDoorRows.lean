/-
  NARROWER THAN 'FOR EVERY INPUT', by the rows' own cells (each row's printed sentence says how): DataMatchesReference: laid · DataJoins: laid · SackMatchesReference: laid · SackChunks: loops, laid · SackCovers: laid · SackBuilds: laid · SackTells: laid · InitialMatchesReference: loops, laid · InitialChunks: loops, laid · InitialCookies: loops, laid · InitialParams: loops, laid · InitialStreams: laid.
  DERIVED. THE GIVEN ROWS OF THIS SEAT. 12 by the template 'for every input the law returns true; each argument reads behind the call as it read before'; 0 by the template 'total and deterministic' (their statements: YtdcppcoldaaldaaGreatDoorTotals.lean).
  GIVEN WITH THE SEED: the statements are not yours to turn. If you find one false, say at which input.
  Laid BY PROGRAM, IN A SANDBOX (cutbox-rows.mjs): the forced cells as the released guide's own fill.sh prints them over the translation b9341ac0f284788d… (all of the seat's roots in one cut). By AI agents, Wed Nov 11 2026. No macro, syntax, notation, axiom, sorry.
-/
import Derived.Test.YtdcppcoldaaldaaGreatDoorChecked
import GoSem.Claim
import GoSem.ClaimJoined
import GoSem.ClaimMapViews
import Derived.JoinedTies
import Derived.KernelRfl
namespace Go.Proofs.YtdcppcoldaaldaaGreatDoor
/- THE CELL 'sum', in the pinned program and in every row, IS THE sha256 OF THE DUMP (.gsa) THAT YtdcppcoldaaldaaGreatDoorProg.lean LOADS. Nothing in Lean hashes anything: it is a label: what it is worth is what the hold of that sum in a sandbox is worth. -/
noncomputable def Tryz.pinned : Pinned := { name := "ytdcppcoldaaldaagreatdoor", sum := "b9341ac0f284788daa6fe733f115af466bb20f211f2831d653e1466bf9fe7959", checked := Tryz.checked }
namespace Rows
def none {H : Type} : Left H := { results := [], args := [] }

/- WHAT THE LISTED PACKAGE-LEVEL VARIABLES READ AS WHEN THE CALL BEGINS. Each datum BY PROGRAM (the guide's laid-datum.mjs) off the statement by which the dump's own 'gosem.cut.vars' lays the variable. In a bare row this is a premise. The card (YtdcppcoldaaldaaGreatDoorCards.lean) ties it to the program's text. -/
def laid_errors_errorType {H : Type} : DataW H := .iface "internal/reflectlite.rtype" (.agg [.ptr (.lit (.string [101, 114, 114, 111, 114]))])

/-- 'wharflaw13.DataMatchesReference': WHATEVER THE INPUT: true; the input reads as it did. -/
def dataMatchesReferenceSpec : ChangeSpec := { name := "dataMatchesReference", fn := fun _ => fun
  | [d] => { results := [.lit (.bool true)], args := [d] }
  | _ => none }
def dataMatchesReferenceRow : OpenClaim := { program := "ytdcppcoldaaldaagreatdoor", sum := "b9341ac0f284788daa6fe733f115af466bb20f211f2831d653e1466bf9fe7959", func := "wharf/wharflaw13.DataMatchesReference", spec := "dataMatchesReference", inPlace := ["internal/reflectlite.ValueOf", "(internal/reflectlite.Value).Type", "(internal/reflectlite.Value).IsNil", "internal/reflectlite.TypeOf", "(internal/reflectlite.Value).Elem", "(internal/reflectlite.Value).Set"], unfollowed := true, recurses := true, named := ["errors.errorType"], apart := false, laid := [("errors.errorType", laid_errors_errorType)] }
def DataMatchesReferenceSaid : Prop := dataMatchesReferenceRow.holds Tryz.pinned (OpenSpec.ofChange dataMatchesReferenceSpec)

/-- ITS FALSE NEIGHBOUR: 'it returns false'. Refute it at one input. -/
def dataMatchesReferenceWrong : ChangeSpec := { name := "dataMatchesReference", fn := fun _ => fun
  | [d] => { results := [.lit (.bool false)], args := [d] }
  | _ => none }
def DataMatchesReferenceWrongFalsely : Prop := dataMatchesReferenceRow.holds Tryz.pinned (OpenSpec.ofChange dataMatchesReferenceWrong)

/-- 'wharflaw13.DataJoins': WHATEVER THE INPUT: true; the input reads as it did. -/
def dataJoinsSpec : ChangeSpec := { name := "dataJoins", fn := fun _ => fun
  | [d] => { results := [.lit (.bool true)], args := [d] }
  | _ => none }
def dataJoinsRow : OpenClaim := { program := "ytdcppcoldaaldaagreatdoor", sum := "b9341ac0f284788daa6fe733f115af466bb20f211f2831d653e1466bf9fe7959", func := "wharf/wharflaw13.DataJoins", spec := "dataJoins", inPlace := ["internal/reflectlite.ValueOf", "(internal/reflectlite.Value).Type", "(internal/reflectlite.Value).IsNil", "internal/reflectlite.TypeOf", "(internal/reflectlite.Value).Elem", "(internal/reflectlite.Value).Set"], unfollowed := true, recurses := true, named := ["errors.errorType"], apart := false, laid := [("errors.errorType", laid_errors_errorType)] }
def DataJoinsSaid : Prop := dataJoinsRow.holds Tryz.pinned (OpenSpec.ofChange dataJoinsSpec)

/-- ITS FALSE NEIGHBOUR: 'it returns false'. Refute it at one input. -/
def dataJoinsWrong : ChangeSpec := { name := "dataJoins", fn := fun _ => fun
  | [d] => { results := [.lit (.bool false)], args := [d] }
  | _ => none }
def DataJoinsWrongFalsely : Prop := dataJoinsRow.holds Tryz.pinned (OpenSpec.ofChange dataJoinsWrong)

/-- 'wharflaw14.SackMatchesReference': WHATEVER THE INPUT: true; the input reads as it did. -/
def sackMatchesReferenceSpec : ChangeSpec := { name := "sackMatchesReference", fn := fun _ => fun
  | [d1, d2] => { results := [.lit (.bool true)], args := [d1, d2] }
  | _ => none }
def sackMatchesReferenceRow : OpenClaim := { program := "ytdcppcoldaaldaagreatdoor", sum := "b9341ac0f284788daa6fe733f115af466bb20f211f2831d653e1466bf9fe7959", func := "wharf/wharflaw14.SackMatchesReference", spec := "sackMatchesReference", inPlace := ["internal/reflectlite.ValueOf", "(internal/reflectlite.Value).Type", "(internal/reflectlite.Value).IsNil", "internal/reflectlite.TypeOf", "(internal/reflectlite.Value).Elem", "(internal/reflectlite.Value).Set"], unfollowed := true, recurses := true, named := ["errors.errorType"], apart := false, laid := [("errors.errorType", laid_errors_errorType)] }
def SackMatchesReferenceSaid : Prop := sackMatchesReferenceRow.holds Tryz.pinned (OpenSpec.ofChange sackMatchesReferenceSpec)

/-- ITS FALSE NEIGHBOUR: 'it returns false'. Refute it at one input. -/
def sackMatchesReferenceWrong : ChangeSpec := { name := "sackMatchesReference", fn := fun _ => fun
  | [d1, d2] => { results := [.lit (.bool false)], args := [d1, d2] }
  | _ => none }
def SackMatchesReferenceWrongFalsely : Prop := sackMatchesReferenceRow.holds Tryz.pinned (OpenSpec.ofChange sackMatchesReferenceWrong)

/-- 'wharflaw14.SackChunks': WHATEVER THE INPUT: true; the input reads as it did. -/
def sackChunksSpec : ChangeSpec := { name := "sackChunks", fn := fun _ => fun
  | [d] => { results := [.lit (.bool true)], args := [d] }
  | _ => none }
def sackChunksRow : OpenClaim := { program := "ytdcppcoldaaldaagreatdoor", sum := "b9341ac0f284788daa6fe733f115af466bb20f211f2831d653e1466bf9fe7959", func := "wharf/wharflaw14.SackChunks", spec := "sackChunks", inPlace := ["internal/reflectlite.ValueOf", "(internal/reflectlite.Value).Type", "(internal/reflectlite.Value).IsNil", "internal/reflectlite.TypeOf", "(internal/reflectlite.Value).Elem", "(internal/reflectlite.Value).Set"], unfollowed := true, recurses := true, named := ["errors.errorType"], loops := true, apart := false, laid := [("errors.errorType", laid_errors_errorType)] }
def SackChunksSaid : Prop := sackChunksRow.holds Tryz.pinned (OpenSpec.ofChange sackChunksSpec)

/-- ITS FALSE NEIGHBOUR: 'it returns false'. Refute it at one input. -/
def sackChunksWrong : ChangeSpec := { name := "sackChunks", fn := fun _ => fun
  | [d] => { results := [.lit (.bool false)], args := [d] }
  | _ => none }
def SackChunksWrongFalsely : Prop := sackChunksRow.holds Tryz.pinned (OpenSpec.ofChange sackChunksWrong)

/-- 'wharflaw14.SackCovers': WHATEVER THE INPUT: true; the input reads as it did. -/
def sackCoversSpec : ChangeSpec := { name := "sackCovers", fn := fun _ => fun
  | [d1, d2] => { results := [.lit (.bool true)], args := [d1, d2] }
  | _ => none }
def sackCoversRow : OpenClaim := { program := "ytdcppcoldaaldaagreatdoor", sum := "b9341ac0f284788daa6fe733f115af466bb20f211f2831d653e1466bf9fe7959", func := "wharf/wharflaw14.SackCovers", spec := "sackCovers", inPlace := ["internal/reflectlite.ValueOf", "(internal/reflectlite.Value).Type", "(internal/reflectlite.Value).IsNil", "internal/reflectlite.TypeOf", "(internal/reflectlite.Value).Elem", "(internal/reflectlite.Value).Set"], unfollowed := true, recurses := true, named := ["errors.errorType"], apart := false, laid := [("errors.errorType", laid_errors_errorType)] }
def SackCoversSaid : Prop := sackCoversRow.holds Tryz.pinned (OpenSpec.ofChange sackCoversSpec)

/-- ITS FALSE NEIGHBOUR: 'it returns false'. Refute it at one input. -/
def sackCoversWrong : ChangeSpec := { name := "sackCovers", fn := fun _ => fun
  | [d1, d2] => { results := [.lit (.bool false)], args := [d1, d2] }
  | _ => none }
def SackCoversWrongFalsely : Prop := sackCoversRow.holds Tryz.pinned (OpenSpec.ofChange sackCoversWrong)

/-- 'wharflaw14.SackBuilds': WHATEVER THE INPUT: true; the input reads as it did. -/
def sackBuildsSpec : ChangeSpec := { name := "sackBuilds", fn := fun _ => fun
  | [d1, d2, d3] => { results := [.lit (.bool true)], args := [d1, d2, d3] }
  | _ => none }
def sackBuildsRow : OpenClaim := { program := "ytdcppcoldaaldaagreatdoor", sum := "b9341ac0f284788daa6fe733f115af466bb20f211f2831d653e1466bf9fe7959", func := "wharf/wharflaw14.SackBuilds", spec := "sackBuilds", inPlace := ["internal/reflectlite.ValueOf", "(internal/reflectlite.Value).Type", "(internal/reflectlite.Value).IsNil", "internal/reflectlite.TypeOf", "(internal/reflectlite.Value).Elem", "(internal/reflectlite.Value).Set"], unfollowed := true, recurses := true, named := ["errors.errorType"], apart := false, laid := [("errors.errorType", laid_errors_errorType)] }
def SackBuildsSaid : Prop := sackBuildsRow.holds Tryz.pinned (OpenSpec.ofChange sackBuildsSpec)

/-- ITS FALSE NEIGHBOUR: 'it returns false'. Refute it at one input. -/
def sackBuildsWrong : ChangeSpec := { name := "sackBuilds", fn := fun _ => fun
  | [d1, d2, d3] => { results := [.lit (.bool false)], args := [d1, d2, d3] }
  | _ => none }
def SackBuildsWrongFalsely : Prop := sackBuildsRow.holds Tryz.pinned (OpenSpec.ofChange sackBuildsWrong)

/-- 'wharflaw14.SackTells': WHATEVER THE INPUT: true; the input reads as it did. -/
def sackTellsSpec : ChangeSpec := { name := "sackTells", fn := fun _ => fun
  | [d1, d2, d3] => { results := [.lit (.bool true)], args := [d1, d2, d3] }
  | _ => none }
def sackTellsRow : OpenClaim := { program := "ytdcppcoldaaldaagreatdoor", sum := "b9341ac0f284788daa6fe733f115af466bb20f211f2831d653e1466bf9fe7959", func := "wharf/wharflaw14.SackTells", spec := "sackTells", inPlace := ["internal/reflectlite.ValueOf", "(internal/reflectlite.Value).Type", "(internal/reflectlite.Value).IsNil", "internal/reflectlite.TypeOf", "(internal/reflectlite.Value).Elem", "(internal/reflectlite.Value).Set"], unfollowed := true, recurses := true, named := ["errors.errorType"], apart := false, laid := [("errors.errorType", laid_errors_errorType)] }
def SackTellsSaid : Prop := sackTellsRow.holds Tryz.pinned (OpenSpec.ofChange sackTellsSpec)

/-- ITS FALSE NEIGHBOUR: 'it returns false'. Refute it at one input. -/
def sackTellsWrong : ChangeSpec := { name := "sackTells", fn := fun _ => fun
  | [d1, d2, d3] => { results := [.lit (.bool false)], args := [d1, d2, d3] }
  | _ => none }
def SackTellsWrongFalsely : Prop := sackTellsRow.holds Tryz.pinned (OpenSpec.ofChange sackTellsWrong)

/-- 'wharflaw15.InitialMatchesReference': WHATEVER THE INPUT: true; the input reads as it did. -/
def initialMatchesReferenceSpec : ChangeSpec := { name := "initialMatchesReference", fn := fun _ => fun
  | [d1, d2, d3] => { results := [.lit (.bool true)], args := [d1, d2, d3] }
  | _ => none }
def initialMatchesReferenceRow : OpenClaim := { program := "ytdcppcoldaaldaagreatdoor", sum := "b9341ac0f284788daa6fe733f115af466bb20f211f2831d653e1466bf9fe7959", func := "wharf/wharflaw15.InitialMatchesReference", spec := "initialMatchesReference", inPlace := ["internal/reflectlite.ValueOf", "(internal/reflectlite.Value).Type", "(internal/reflectlite.Value).IsNil", "internal/reflectlite.TypeOf", "(internal/reflectlite.Value).Elem", "(internal/reflectlite.Value).Set"], unfollowed := true, recurses := true, named := ["errors.errorType"], loops := true, apart := false, laid := [("errors.errorType", laid_errors_errorType)] }
def InitialMatchesReferenceSaid : Prop := initialMatchesReferenceRow.holds Tryz.pinned (OpenSpec.ofChange initialMatchesReferenceSpec)

/-- ITS FALSE NEIGHBOUR: 'it returns false'. Refute it at one input. -/
def initialMatchesReferenceWrong : ChangeSpec := { name := "initialMatchesReference", fn := fun _ => fun
  | [d1, d2, d3] => { results := [.lit (.bool false)], args := [d1, d2, d3] }
  | _ => none }
def InitialMatchesReferenceWrongFalsely : Prop := initialMatchesReferenceRow.holds Tryz.pinned (OpenSpec.ofChange initialMatchesReferenceWrong)

/-- 'wharflaw15.InitialChunks': WHATEVER THE INPUT: true; the input reads as it did. -/
def initialChunksSpec : ChangeSpec := { name := "initialChunks", fn := fun _ => fun
  | [d] => { results := [.lit (.bool true)], args := [d] }
  | _ => none }
def initialChunksRow : OpenClaim := { program := "ytdcppcoldaaldaagreatdoor", sum := "b9341ac0f284788daa6fe733f115af466bb20f211f2831d653e1466bf9fe7959", func := "wharf/wharflaw15.InitialChunks", spec := "initialChunks", inPlace := ["internal/reflectlite.ValueOf", "(internal/reflectlite.Value).Type", "(internal/reflectlite.Value).IsNil", "internal/reflectlite.TypeOf", "(internal/reflectlite.Value).Elem", "(internal/reflectlite.Value).Set"], unfollowed := true, recurses := true, named := ["errors.errorType"], loops := true, apart := false, laid := [("errors.errorType", laid_errors_errorType)] }
def InitialChunksSaid : Prop := initialChunksRow.holds Tryz.pinned (OpenSpec.ofChange initialChunksSpec)

/-- ITS FALSE NEIGHBOUR: 'it returns false'. Refute it at one input. -/
def initialChunksWrong : ChangeSpec := { name := "initialChunks", fn := fun _ => fun
  | [d] => { results := [.lit (.bool false)], args := [d] }
  | _ => none }
def InitialChunksWrongFalsely : Prop := initialChunksRow.holds Tryz.pinned (OpenSpec.ofChange initialChunksWrong)

/-- 'wharflaw15.InitialCookies': WHATEVER THE INPUT: true; the input reads as it did. -/
def initialCookiesSpec : ChangeSpec := { name := "initialCookies", fn := fun _ => fun
  | [d] => { results := [.lit (.bool true)], args := [d] }
  | _ => none }
def initialCookiesRow : OpenClaim := { program := "ytdcppcoldaaldaagreatdoor", sum := "b9341ac0f284788daa6fe733f115af466bb20f211f2831d653e1466bf9fe7959", func := "wharf/wharflaw15.InitialCookies", spec := "initialCookies", inPlace := ["internal/reflectlite.ValueOf", "(internal/reflectlite.Value).Type", "(internal/reflectlite.Value).IsNil", "internal/reflectlite.TypeOf", "(internal/reflectlite.Value).Elem", "(internal/reflectlite.Value).Set"], unfollowed := true, recurses := true, named := ["errors.errorType"], loops := true, apart := false, laid := [("errors.errorType", laid_errors_errorType)] }
def InitialCookiesSaid : Prop := initialCookiesRow.holds Tryz.pinned (OpenSpec.ofChange initialCookiesSpec)

/-- ITS FALSE NEIGHBOUR: 'it returns false'. Refute it at one input. -/
def initialCookiesWrong : ChangeSpec := { name := "initialCookies", fn := fun _ => fun
  | [d] => { results := [.lit (.bool false)], args := [d] }
  | _ => none }
def InitialCookiesWrongFalsely : Prop := initialCookiesRow.holds Tryz.pinned (OpenSpec.ofChange initialCookiesWrong)

/-- 'wharflaw15.InitialParams': WHATEVER THE INPUT: true; the input reads as it did. -/
def initialParamsSpec : ChangeSpec := { name := "initialParams", fn := fun _ => fun
  | [d1, d2] => { results := [.lit (.bool true)], args := [d1, d2] }
  | _ => none }
def initialParamsRow : OpenClaim := { program := "ytdcppcoldaaldaagreatdoor", sum := "b9341ac0f284788daa6fe733f115af466bb20f211f2831d653e1466bf9fe7959", func := "wharf/wharflaw15.InitialParams", spec := "initialParams", inPlace := ["internal/reflectlite.ValueOf", "(internal/reflectlite.Value).Type", "(internal/reflectlite.Value).IsNil", "internal/reflectlite.TypeOf", "(internal/reflectlite.Value).Elem", "(internal/reflectlite.Value).Set"], unfollowed := true, recurses := true, named := ["errors.errorType"], loops := true, apart := false, laid := [("errors.errorType", laid_errors_errorType)] }
def InitialParamsSaid : Prop := initialParamsRow.holds Tryz.pinned (OpenSpec.ofChange initialParamsSpec)

/-- ITS FALSE NEIGHBOUR: 'it returns false'. Refute it at one input. -/
def initialParamsWrong : ChangeSpec := { name := "initialParams", fn := fun _ => fun
  | [d1, d2] => { results := [.lit (.bool false)], args := [d1, d2] }
  | _ => none }
def InitialParamsWrongFalsely : Prop := initialParamsRow.holds Tryz.pinned (OpenSpec.ofChange initialParamsWrong)

/-- 'wharflaw15.InitialStreams': WHATEVER THE INPUT: true; the input reads as it did. -/
def initialStreamsSpec : ChangeSpec := { name := "initialStreams", fn := fun _ => fun
  | [d1, d2] => { results := [.lit (.bool true)], args := [d1, d2] }
  | _ => none }
def initialStreamsRow : OpenClaim := { program := "ytdcppcoldaaldaagreatdoor", sum := "b9341ac0f284788daa6fe733f115af466bb20f211f2831d653e1466bf9fe7959", func := "wharf/wharflaw15.InitialStreams", spec := "initialStreams", inPlace := ["internal/reflectlite.ValueOf", "(internal/reflectlite.Value).Type", "(internal/reflectlite.Value).IsNil", "internal/reflectlite.TypeOf", "(internal/reflectlite.Value).Elem", "(internal/reflectlite.Value).Set"], unfollowed := true, recurses := true, named := ["errors.errorType"], apart := false, laid := [("errors.errorType", laid_errors_errorType)] }
def InitialStreamsSaid : Prop := initialStreamsRow.holds Tryz.pinned (OpenSpec.ofChange initialStreamsSpec)

/-- ITS FALSE NEIGHBOUR: 'it returns false'. Refute it at one input. -/
def initialStreamsWrong : ChangeSpec := { name := "initialStreams", fn := fun _ => fun
  | [d1, d2] => { results := [.lit (.bool false)], args := [d1, d2] }
  | _ => none }
def InitialStreamsWrongFalsely : Prop := initialStreamsRow.holds Tryz.pinned (OpenSpec.ofChange initialStreamsWrong)

/- THE SECOND FORM. 'bulk': how many values and letters a reading holds, each counted each time it is reached (what is shared counts as often as it is met; a slice's spare places count too). A statement '..UptoSaid' is the law's where the arguments, and the package variables that the reading takes, are together of bulk at most 1048576: NARROWER than '..Said'. Prove '..Said' where nothing that the law and all that it calls make is longer than what came in: it says more and counts as full. Else prove '..UptoSaid'. A law counts once. -/
mutual
def uptoBulk {H : Type} : DataW H → Nat
  | .lit (.string bytes) => bytes.length + 1
  | .lit _ => 1
  | .nil => 1
  | .ptr d => uptoBulk d + 1
  | .slice elems spare => uptoBulkAll elems + uptoBulkAll spare + 1
  | .agg parts => uptoBulkAll parts + 1
  | .iface _ d => uptoBulk d + 1
  | .map entries => uptoBulkEntries entries + 1
  | .held _ => 1
def uptoBulkAll {H : Type} : List (DataW H) → Nat
  | [] => 0
  | d :: r => uptoBulk d + uptoBulkAll r
def uptoBulkEntries {H : Type} : List (Lit × DataW H) → Nat
  | [] => 0
  | x :: r => uptoBulkEntry x + uptoBulkEntries r
def uptoBulkEntry {H : Type} : Lit × DataW H → Nat
  | (.string bytes, d) => bytes.length + uptoBulk d + 1
  | (_, d) => uptoBulk d + 1
 end
def uptoSmall : (H : Type) → List (DataW H) → Bool := fun _ ds => decide (uptoBulkAll ds ≤ 1048576)
def OpenSpec.upto (s : _root_.Go.ChangeSpec) : _root_.Go.OpenSpec := { _root_.Go.OpenSpec.ofChange s with cond := some uptoSmall }

/-- 'wharflaw13.DataMatchesReference', WHERE WHAT IT READS IS OF BULK AT MOST 1048576: true; the input reads as it did. -/
def dataMatchesReferenceUptoRow : OpenClaim := { program := "ytdcppcoldaaldaagreatdoor", sum := "b9341ac0f284788daa6fe733f115af466bb20f211f2831d653e1466bf9fe7959", func := "wharf/wharflaw13.DataMatchesReference", spec := "dataMatchesReference", inPlace := ["internal/reflectlite.ValueOf", "(internal/reflectlite.Value).Type", "(internal/reflectlite.Value).IsNil", "internal/reflectlite.TypeOf", "(internal/reflectlite.Value).Elem", "(internal/reflectlite.Value).Set"], unfollowed := true, recurses := true, named := ["errors.errorType"], apart := false, laid := [("errors.errorType", laid_errors_errorType)], narrowed := true }
def DataMatchesReferenceUptoSaid : Prop := dataMatchesReferenceUptoRow.holds Tryz.pinned (OpenSpec.upto dataMatchesReferenceSpec)

/-- 'wharflaw13.DataJoins', WHERE WHAT IT READS IS OF BULK AT MOST 1048576: true; the input reads as it did. -/
def dataJoinsUptoRow : OpenClaim := { program := "ytdcppcoldaaldaagreatdoor", sum := "b9341ac0f284788daa6fe733f115af466bb20f211f2831d653e1466bf9fe7959", func := "wharf/wharflaw13.DataJoins", spec := "dataJoins", inPlace := ["internal/reflectlite.ValueOf", "(internal/reflectlite.Value).Type", "(internal/reflectlite.Value).IsNil", "internal/reflectlite.TypeOf", "(internal/reflectlite.Value).Elem", "(internal/reflectlite.Value).Set"], unfollowed := true, recurses := true, named := ["errors.errorType"], apart := false, laid := [("errors.errorType", laid_errors_errorType)], narrowed := true }
def DataJoinsUptoSaid : Prop := dataJoinsUptoRow.holds Tryz.pinned (OpenSpec.upto dataJoinsSpec)

/-- 'wharflaw14.SackMatchesReference', WHERE WHAT IT READS IS OF BULK AT MOST 1048576: true; the input reads as it did. -/
def sackMatchesReferenceUptoRow : OpenClaim := { program := "ytdcppcoldaaldaagreatdoor", sum := "b9341ac0f284788daa6fe733f115af466bb20f211f2831d653e1466bf9fe7959", func := "wharf/wharflaw14.SackMatchesReference", spec := "sackMatchesReference", inPlace := ["internal/reflectlite.ValueOf", "(internal/reflectlite.Value).Type", "(internal/reflectlite.Value).IsNil", "internal/reflectlite.TypeOf", "(internal/reflectlite.Value).Elem", "(internal/reflectlite.Value).Set"], unfollowed := true, recurses := true, named := ["errors.errorType"], apart := false, laid := [("errors.errorType", laid_errors_errorType)], narrowed := true }
def SackMatchesReferenceUptoSaid : Prop := sackMatchesReferenceUptoRow.holds Tryz.pinned (OpenSpec.upto sackMatchesReferenceSpec)

/-- 'wharflaw14.SackChunks', WHERE WHAT IT READS IS OF BULK AT MOST 1048576: true; the input reads as it did. -/
def sackChunksUptoRow : OpenClaim := { program := "ytdcppcoldaaldaagreatdoor", sum := "b9341ac0f284788daa6fe733f115af466bb20f211f2831d653e1466bf9fe7959", func := "wharf/wharflaw14.SackChunks", spec := "sackChunks", inPlace := ["internal/reflectlite.ValueOf", "(internal/reflectlite.Value).Type", "(internal/reflectlite.Value).IsNil", "internal/reflectlite.TypeOf", "(internal/reflectlite.Value).Elem", "(internal/reflectlite.Value).Set"], unfollowed := true, recurses := true, named := ["errors.errorType"], loops := true, apart := false, laid := [("errors.errorType", laid_errors_errorType)], narrowed := true }
def SackChunksUptoSaid : Prop := sackChunksUptoRow.holds Tryz.pinned (OpenSpec.upto sackChunksSpec)

/-- 'wharflaw14.SackCovers', WHERE WHAT IT READS IS OF BULK AT MOST 1048576: true; the input reads as it did. -/
def sackCoversUptoRow : OpenClaim := { program := "ytdcppcoldaaldaagreatdoor", sum := "b9341ac0f284788daa6fe733f115af466bb20f211f2831d653e1466bf9fe7959", func := "wharf/wharflaw14.SackCovers", spec := "sackCovers", inPlace := ["internal/reflectlite.ValueOf", "(internal/reflectlite.Value).Type", "(internal/reflectlite.Value).IsNil", "internal/reflectlite.TypeOf", "(internal/reflectlite.Value).Elem", "(internal/reflectlite.Value).Set"], unfollowed := true, recurses := true, named := ["errors.errorType"], apart := false, laid := [("errors.errorType", laid_errors_errorType)], narrowed := true }
def SackCoversUptoSaid : Prop := sackCoversUptoRow.holds Tryz.pinned (OpenSpec.upto sackCoversSpec)

/-- 'wharflaw14.SackBuilds', WHERE WHAT IT READS IS OF BULK AT MOST 1048576: true; the input reads as it did. -/
def sackBuildsUptoRow : OpenClaim := { program := "ytdcppcoldaaldaagreatdoor", sum := "b9341ac0f284788daa6fe733f115af466bb20f211f2831d653e1466bf9fe7959", func := "wharf/wharflaw14.SackBuilds", spec := "sackBuilds", inPlace := ["internal/reflectlite.ValueOf", "(internal/reflectlite.Value).Type", "(internal/reflectlite.Value).IsNil", "internal/reflectlite.TypeOf", "(internal/reflectlite.Value).Elem", "(internal/reflectlite.Value).Set"], unfollowed := true, recurses := true, named := ["errors.errorType"], apart := false, laid := [("errors.errorType", laid_errors_errorType)], narrowed := true }
def SackBuildsUptoSaid : Prop := sackBuildsUptoRow.holds Tryz.pinned (OpenSpec.upto sackBuildsSpec)

/-- 'wharflaw14.SackTells', WHERE WHAT IT READS IS OF BULK AT MOST 1048576: true; the input reads as it did. -/
def sackTellsUptoRow : OpenClaim := { program := "ytdcppcoldaaldaagreatdoor", sum := "b9341ac0f284788daa6fe733f115af466bb20f211f2831d653e1466bf9fe7959", func := "wharf/wharflaw14.SackTells", spec := "sackTells", inPlace := ["internal/reflectlite.ValueOf", "(internal/reflectlite.Value).Type", "(internal/reflectlite.Value).IsNil", "internal/reflectlite.TypeOf", "(internal/reflectlite.Value).Elem", "(internal/reflectlite.Value).Set"], unfollowed := true, recurses := true, named := ["errors.errorType"], apart := false, laid := [("errors.errorType", laid_errors_errorType)], narrowed := true }
def SackTellsUptoSaid : Prop := sackTellsUptoRow.holds Tryz.pinned (OpenSpec.upto sackTellsSpec)

/-- 'wharflaw15.InitialMatchesReference', WHERE WHAT IT READS IS OF BULK AT MOST 1048576: true; the input reads as it did. -/
def initialMatchesReferenceUptoRow : OpenClaim := { program := "ytdcppcoldaaldaagreatdoor", sum := "b9341ac0f284788daa6fe733f115af466bb20f211f2831d653e1466bf9fe7959", func := "wharf/wharflaw15.InitialMatchesReference", spec := "initialMatchesReference", inPlace := ["internal/reflectlite.ValueOf", "(internal/reflectlite.Value).Type", "(internal/reflectlite.Value).IsNil", "internal/reflectlite.TypeOf", "(internal/reflectlite.Value).Elem", "(internal/reflectlite.Value).Set"], unfollowed := true, recurses := true, named := ["errors.errorType"], loops := true, apart := false, laid := [("errors.errorType", laid_errors_errorType)], narrowed := true }
def InitialMatchesReferenceUptoSaid : Prop := initialMatchesReferenceUptoRow.holds Tryz.pinned (OpenSpec.upto initialMatchesReferenceSpec)

/-- 'wharflaw15.InitialChunks', WHERE WHAT IT READS IS OF BULK AT MOST 1048576: true; the input reads as it did. -/
def initialChunksUptoRow : OpenClaim := { program := "ytdcppcoldaaldaagreatdoor", sum := "b9341ac0f284788daa6fe733f115af466bb20f211f2831d653e1466bf9fe7959", func := "wharf/wharflaw15.InitialChunks", spec := "initialChunks", inPlace := ["internal/reflectlite.ValueOf", "(internal/reflectlite.Value).Type", "(internal/reflectlite.Value).IsNil", "internal/reflectlite.TypeOf", "(internal/reflectlite.Value).Elem", "(internal/reflectlite.Value).Set"], unfollowed := true, recurses := true, named := ["errors.errorType"], loops := true, apart := false, laid := [("errors.errorType", laid_errors_errorType)], narrowed := true }
def InitialChunksUptoSaid : Prop := initialChunksUptoRow.holds Tryz.pinned (OpenSpec.upto initialChunksSpec)

/-- 'wharflaw15.InitialCookies', WHERE WHAT IT READS IS OF BULK AT MOST 1048576: true; the input reads as it did. -/
def initialCookiesUptoRow : OpenClaim := { program := "ytdcppcoldaaldaagreatdoor", sum := "b9341ac0f284788daa6fe733f115af466bb20f211f2831d653e1466bf9fe7959", func := "wharf/wharflaw15.InitialCookies", spec := "initialCookies", inPlace := ["internal/reflectlite.ValueOf", "(internal/reflectlite.Value).Type", "(internal/reflectlite.Value).IsNil", "internal/reflectlite.TypeOf", "(internal/reflectlite.Value).Elem", "(internal/reflectlite.Value).Set"], unfollowed := true, recurses := true, named := ["errors.errorType"], loops := true, apart := false, laid := [("errors.errorType", laid_errors_errorType)], narrowed := true }
def InitialCookiesUptoSaid : Prop := initialCookiesUptoRow.holds Tryz.pinned (OpenSpec.upto initialCookiesSpec)

/-- 'wharflaw15.InitialParams', WHERE WHAT IT READS IS OF BULK AT MOST 1048576: true; the input reads as it did. -/
def initialParamsUptoRow : OpenClaim := { program := "ytdcppcoldaaldaagreatdoor", sum := "b9341ac0f284788daa6fe733f115af466bb20f211f2831d653e1466bf9fe7959", func := "wharf/wharflaw15.InitialParams", spec := "initialParams", inPlace := ["internal/reflectlite.ValueOf", "(internal/reflectlite.Value).Type", "(internal/reflectlite.Value).IsNil", "internal/reflectlite.TypeOf", "(internal/reflectlite.Value).Elem", "(internal/reflectlite.Value).Set"], unfollowed := true, recurses := true, named := ["errors.errorType"], loops := true, apart := false, laid := [("errors.errorType", laid_errors_errorType)], narrowed := true }
def InitialParamsUptoSaid : Prop := initialParamsUptoRow.holds Tryz.pinned (OpenSpec.upto initialParamsSpec)

/-- 'wharflaw15.InitialStreams', WHERE WHAT IT READS IS OF BULK AT MOST 1048576: true; the input reads as it did. -/
def initialStreamsUptoRow : OpenClaim := { program := "ytdcppcoldaaldaagreatdoor", sum := "b9341ac0f284788daa6fe733f115af466bb20f211f2831d653e1466bf9fe7959", func := "wharf/wharflaw15.InitialStreams", spec := "initialStreams", inPlace := ["internal/reflectlite.ValueOf", "(internal/reflectlite.Value).Type", "(internal/reflectlite.Value).IsNil", "internal/reflectlite.TypeOf", "(internal/reflectlite.Value).Elem", "(internal/reflectlite.Value).Set"], unfollowed := true, recurses := true, named := ["errors.errorType"], apart := false, laid := [("errors.errorType", laid_errors_errorType)], narrowed := true }
def InitialStreamsUptoSaid : Prop := initialStreamsUptoRow.holds Tryz.pinned (OpenSpec.upto initialStreamsSpec)

end Rows
end Go.Proofs.YtdcppcoldaaldaaGreatDoor
