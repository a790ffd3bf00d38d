/-
  NARROWER THAN 'FOR EVERY INPUT', by the rows' own cells (each row's printed sentence says how): ChunkMatchesReference: loops, laid · ChunkParses: laid · ChunkUnknown: laid · ChunkCopies: loops, laid · ChunkFlags: laid · DataMatchesReference: laid · DataChunks: loops, laid · DataSplits: laid · DataJoins: laid · DataMost: laid.
  DERIVED. THE GIVEN ROWS OF THIS SEAT. 10 by the template 'for every input the law returns true; each argument reads behind the call as it read before'; 0 by the template 'total and deterministic' (their statements: YthkbcpbgoefanaaGreatDoorTotals.lean).
  GIVEN WITH THE SEED: the statements are not yours to turn. If you find one false, say at which input.
  Laid BY PROGRAM, IN A SANDBOX (cutbox-rows.mjs): the forced cells as the released guide's own fill.sh prints them over the translation 11cf0cab25190151… (all of the seat's roots in one cut). By AI agents, Wed Nov 11 2026. No macro, syntax, notation, axiom, sorry.
-/
import Derived.Test.YthkbcpbgoefanaaGreatDoorChecked
import GoSem.Claim
import GoSem.ClaimJoined
import GoSem.ClaimMapViews
import Derived.JoinedTies
import Derived.KernelRfl
namespace Go.Proofs.YthkbcpbgoefanaaGreatDoor
/- THE CELL 'sum', in the pinned program and in every row, IS THE sha256 OF THE DUMP (.gsa) THAT YthkbcpbgoefanaaGreatDoorProg.lean LOADS. Nothing in Lean hashes anything: it is a label: what it is worth is what the hold of that sum in a sandbox is worth. -/
noncomputable def Tryz.pinned : Pinned := { name := "ythkbcpbgoefanaagreatdoor", sum := "11cf0cab25190151ea5942886df61240252aebf0a562e5e8d9b8c842eb75fc75", checked := Tryz.checked }
namespace Rows
def none {H : Type} : Left H := { results := [], args := [] }

/- WHAT THE LISTED PACKAGE-LEVEL VARIABLES READ AS WHEN THE CALL BEGINS. Each datum BY PROGRAM (the guide's laid-datum.mjs) off the statement by which the dump's own 'gosem.cut.vars' lays the variable. In a bare row this is a premise. The card (YthkbcpbgoefanaaGreatDoorCards.lean) ties it to the program's text. -/
def laid_errors_errorType {H : Type} : DataW H := .iface "internal/reflectlite.rtype" (.agg [.ptr (.lit (.string [101, 114, 114, 111, 114]))])

/-- 'wharflaw12.ChunkMatchesReference': WHATEVER THE INPUT: true; the input reads as it did. -/
def chunkMatchesReferenceSpec : ChangeSpec := { name := "chunkMatchesReference", fn := fun _ => fun
  | [d] => { results := [.lit (.bool true)], args := [d] }
  | _ => none }
def chunkMatchesReferenceRow : OpenClaim := { program := "ythkbcpbgoefanaagreatdoor", sum := "11cf0cab25190151ea5942886df61240252aebf0a562e5e8d9b8c842eb75fc75", func := "wharf/wharflaw12.ChunkMatchesReference", spec := "chunkMatchesReference", inPlace := ["internal/reflectlite.ValueOf", "(internal/reflectlite.Value).Type", "(internal/reflectlite.Value).IsNil", "internal/reflectlite.TypeOf", "(internal/reflectlite.Value).Elem", "(internal/reflectlite.Value).Set"], unfollowed := true, recurses := true, named := ["errors.errorType"], loops := true, apart := false, laid := [("errors.errorType", laid_errors_errorType)] }
def ChunkMatchesReferenceSaid : Prop := chunkMatchesReferenceRow.holds Tryz.pinned (OpenSpec.ofChange chunkMatchesReferenceSpec)

/-- ITS FALSE NEIGHBOUR: 'it returns false'. Refute it at one input. -/
def chunkMatchesReferenceWrong : ChangeSpec := { name := "chunkMatchesReference", fn := fun _ => fun
  | [d] => { results := [.lit (.bool false)], args := [d] }
  | _ => none }
def ChunkMatchesReferenceWrongFalsely : Prop := chunkMatchesReferenceRow.holds Tryz.pinned (OpenSpec.ofChange chunkMatchesReferenceWrong)

/-- 'wharflaw12.ChunkParses': WHATEVER THE INPUT: true; the input reads as it did. -/
def chunkParsesSpec : ChangeSpec := { name := "chunkParses", fn := fun _ => fun
  | [d] => { results := [.lit (.bool true)], args := [d] }
  | _ => none }
def chunkParsesRow : OpenClaim := { program := "ythkbcpbgoefanaagreatdoor", sum := "11cf0cab25190151ea5942886df61240252aebf0a562e5e8d9b8c842eb75fc75", func := "wharf/wharflaw12.ChunkParses", spec := "chunkParses", inPlace := ["internal/reflectlite.ValueOf", "(internal/reflectlite.Value).Type", "(internal/reflectlite.Value).IsNil", "internal/reflectlite.TypeOf", "(internal/reflectlite.Value).Elem", "(internal/reflectlite.Value).Set"], unfollowed := true, recurses := true, named := ["errors.errorType"], apart := false, laid := [("errors.errorType", laid_errors_errorType)] }
def ChunkParsesSaid : Prop := chunkParsesRow.holds Tryz.pinned (OpenSpec.ofChange chunkParsesSpec)

/-- ITS FALSE NEIGHBOUR: 'it returns false'. Refute it at one input. -/
def chunkParsesWrong : ChangeSpec := { name := "chunkParses", fn := fun _ => fun
  | [d] => { results := [.lit (.bool false)], args := [d] }
  | _ => none }
def ChunkParsesWrongFalsely : Prop := chunkParsesRow.holds Tryz.pinned (OpenSpec.ofChange chunkParsesWrong)

/-- 'wharflaw12.ChunkUnknown': WHATEVER THE INPUT: true; the input reads as it did. -/
def chunkUnknownSpec : ChangeSpec := { name := "chunkUnknown", fn := fun _ => fun
  | [d1, d2, d3, d4] => { results := [.lit (.bool true)], args := [d1, d2, d3, d4] }
  | _ => none }
def chunkUnknownRow : OpenClaim := { program := "ythkbcpbgoefanaagreatdoor", sum := "11cf0cab25190151ea5942886df61240252aebf0a562e5e8d9b8c842eb75fc75", func := "wharf/wharflaw12.ChunkUnknown", spec := "chunkUnknown", inPlace := ["internal/reflectlite.ValueOf", "(internal/reflectlite.Value).Type", "(internal/reflectlite.Value).IsNil", "internal/reflectlite.TypeOf", "(internal/reflectlite.Value).Elem", "(internal/reflectlite.Value).Set"], unfollowed := true, recurses := true, named := ["errors.errorType"], apart := false, laid := [("errors.errorType", laid_errors_errorType)] }
def ChunkUnknownSaid : Prop := chunkUnknownRow.holds Tryz.pinned (OpenSpec.ofChange chunkUnknownSpec)

/-- ITS FALSE NEIGHBOUR: 'it returns false'. Refute it at one input. -/
def chunkUnknownWrong : ChangeSpec := { name := "chunkUnknown", fn := fun _ => fun
  | [d1, d2, d3, d4] => { results := [.lit (.bool false)], args := [d1, d2, d3, d4] }
  | _ => none }
def ChunkUnknownWrongFalsely : Prop := chunkUnknownRow.holds Tryz.pinned (OpenSpec.ofChange chunkUnknownWrong)

/-- 'wharflaw12.ChunkCopies': WHATEVER THE INPUT: true; the input reads as it did. -/
def chunkCopiesSpec : ChangeSpec := { name := "chunkCopies", fn := fun _ => fun
  | [d1, d2] => { results := [.lit (.bool true)], args := [d1, d2] }
  | _ => none }
def chunkCopiesRow : OpenClaim := { program := "ythkbcpbgoefanaagreatdoor", sum := "11cf0cab25190151ea5942886df61240252aebf0a562e5e8d9b8c842eb75fc75", func := "wharf/wharflaw12.ChunkCopies", spec := "chunkCopies", inPlace := ["internal/reflectlite.ValueOf", "(internal/reflectlite.Value).Type", "(internal/reflectlite.Value).IsNil", "internal/reflectlite.TypeOf", "(internal/reflectlite.Value).Elem", "(internal/reflectlite.Value).Set"], unfollowed := true, recurses := true, named := ["errors.errorType"], loops := true, apart := false, laid := [("errors.errorType", laid_errors_errorType)] }
def ChunkCopiesSaid : Prop := chunkCopiesRow.holds Tryz.pinned (OpenSpec.ofChange chunkCopiesSpec)

/-- ITS FALSE NEIGHBOUR: 'it returns false'. Refute it at one input. -/
def chunkCopiesWrong : ChangeSpec := { name := "chunkCopies", fn := fun _ => fun
  | [d1, d2] => { results := [.lit (.bool false)], args := [d1, d2] }
  | _ => none }
def ChunkCopiesWrongFalsely : Prop := chunkCopiesRow.holds Tryz.pinned (OpenSpec.ofChange chunkCopiesWrong)

/-- 'wharflaw12.ChunkFlags': WHATEVER THE INPUT: true; the input reads as it did. -/
def chunkFlagsSpec : ChangeSpec := { name := "chunkFlags", fn := fun _ => fun
  | [d1, d2] => { results := [.lit (.bool true)], args := [d1, d2] }
  | _ => none }
def chunkFlagsRow : OpenClaim := { program := "ythkbcpbgoefanaagreatdoor", sum := "11cf0cab25190151ea5942886df61240252aebf0a562e5e8d9b8c842eb75fc75", func := "wharf/wharflaw12.ChunkFlags", spec := "chunkFlags", inPlace := ["internal/reflectlite.ValueOf", "(internal/reflectlite.Value).Type", "(internal/reflectlite.Value).IsNil", "internal/reflectlite.TypeOf", "(internal/reflectlite.Value).Elem", "(internal/reflectlite.Value).Set"], unfollowed := true, recurses := true, named := ["errors.errorType"], apart := false, laid := [("errors.errorType", laid_errors_errorType)] }
def ChunkFlagsSaid : Prop := chunkFlagsRow.holds Tryz.pinned (OpenSpec.ofChange chunkFlagsSpec)

/-- ITS FALSE NEIGHBOUR: 'it returns false'. Refute it at one input. -/
def chunkFlagsWrong : ChangeSpec := { name := "chunkFlags", fn := fun _ => fun
  | [d1, d2] => { results := [.lit (.bool false)], args := [d1, d2] }
  | _ => none }
def ChunkFlagsWrongFalsely : Prop := chunkFlagsRow.holds Tryz.pinned (OpenSpec.ofChange chunkFlagsWrong)

/-- 'wharflaw13.DataMatchesReference': WHATEVER THE INPUT: true; the input reads as it did. -/
def dataMatchesReferenceSpec : ChangeSpec := { name := "dataMatchesReference", fn := fun _ => fun
  | [d] => { results := [.lit (.bool true)], args := [d] }
  | _ => none }
def dataMatchesReferenceRow : OpenClaim := { program := "ythkbcpbgoefanaagreatdoor", sum := "11cf0cab25190151ea5942886df61240252aebf0a562e5e8d9b8c842eb75fc75", func := "wharf/wharflaw13.DataMatchesReference", spec := "dataMatchesReference", inPlace := ["internal/reflectlite.ValueOf", "(internal/reflectlite.Value).Type", "(internal/reflectlite.Value).IsNil", "internal/reflectlite.TypeOf", "(internal/reflectlite.Value).Elem", "(internal/reflectlite.Value).Set"], unfollowed := true, recurses := true, named := ["errors.errorType"], apart := false, laid := [("errors.errorType", laid_errors_errorType)] }
def DataMatchesReferenceSaid : Prop := dataMatchesReferenceRow.holds Tryz.pinned (OpenSpec.ofChange dataMatchesReferenceSpec)

/-- ITS FALSE NEIGHBOUR: 'it returns false'. Refute it at one input. -/
def dataMatchesReferenceWrong : ChangeSpec := { name := "dataMatchesReference", fn := fun _ => fun
  | [d] => { results := [.lit (.bool false)], args := [d] }
  | _ => none }
def DataMatchesReferenceWrongFalsely : Prop := dataMatchesReferenceRow.holds Tryz.pinned (OpenSpec.ofChange dataMatchesReferenceWrong)

/-- 'wharflaw13.DataChunks': WHATEVER THE INPUT: true; the input reads as it did. -/
def dataChunksSpec : ChangeSpec := { name := "dataChunks", fn := fun _ => fun
  | [d] => { results := [.lit (.bool true)], args := [d] }
  | _ => none }
def dataChunksRow : OpenClaim := { program := "ythkbcpbgoefanaagreatdoor", sum := "11cf0cab25190151ea5942886df61240252aebf0a562e5e8d9b8c842eb75fc75", func := "wharf/wharflaw13.DataChunks", spec := "dataChunks", inPlace := ["internal/reflectlite.ValueOf", "(internal/reflectlite.Value).Type", "(internal/reflectlite.Value).IsNil", "internal/reflectlite.TypeOf", "(internal/reflectlite.Value).Elem", "(internal/reflectlite.Value).Set"], unfollowed := true, recurses := true, named := ["errors.errorType"], loops := true, apart := false, laid := [("errors.errorType", laid_errors_errorType)] }
def DataChunksSaid : Prop := dataChunksRow.holds Tryz.pinned (OpenSpec.ofChange dataChunksSpec)

/-- ITS FALSE NEIGHBOUR: 'it returns false'. Refute it at one input. -/
def dataChunksWrong : ChangeSpec := { name := "dataChunks", fn := fun _ => fun
  | [d] => { results := [.lit (.bool false)], args := [d] }
  | _ => none }
def DataChunksWrongFalsely : Prop := dataChunksRow.holds Tryz.pinned (OpenSpec.ofChange dataChunksWrong)

/-- 'wharflaw13.DataSplits': WHATEVER THE INPUT: true; the input reads as it did. -/
def dataSplitsSpec : ChangeSpec := { name := "dataSplits", fn := fun _ => fun
  | [d1, d2] => { results := [.lit (.bool true)], args := [d1, d2] }
  | _ => none }
def dataSplitsRow : OpenClaim := { program := "ythkbcpbgoefanaagreatdoor", sum := "11cf0cab25190151ea5942886df61240252aebf0a562e5e8d9b8c842eb75fc75", func := "wharf/wharflaw13.DataSplits", spec := "dataSplits", inPlace := ["internal/reflectlite.ValueOf", "(internal/reflectlite.Value).Type", "(internal/reflectlite.Value).IsNil", "internal/reflectlite.TypeOf", "(internal/reflectlite.Value).Elem", "(internal/reflectlite.Value).Set"], unfollowed := true, recurses := true, named := ["errors.errorType"], apart := false, laid := [("errors.errorType", laid_errors_errorType)] }
def DataSplitsSaid : Prop := dataSplitsRow.holds Tryz.pinned (OpenSpec.ofChange dataSplitsSpec)

/-- ITS FALSE NEIGHBOUR: 'it returns false'. Refute it at one input. -/
def dataSplitsWrong : ChangeSpec := { name := "dataSplits", fn := fun _ => fun
  | [d1, d2] => { results := [.lit (.bool false)], args := [d1, d2] }
  | _ => none }
def DataSplitsWrongFalsely : Prop := dataSplitsRow.holds Tryz.pinned (OpenSpec.ofChange dataSplitsWrong)

/-- 'wharflaw13.DataJoins': WHATEVER THE INPUT: true; the input reads as it did. -/
def dataJoinsSpec : ChangeSpec := { name := "dataJoins", fn := fun _ => fun
  | [d] => { results := [.lit (.bool true)], args := [d] }
  | _ => none }
def dataJoinsRow : OpenClaim := { program := "ythkbcpbgoefanaagreatdoor", sum := "11cf0cab25190151ea5942886df61240252aebf0a562e5e8d9b8c842eb75fc75", func := "wharf/wharflaw13.DataJoins", spec := "dataJoins", inPlace := ["internal/reflectlite.ValueOf", "(internal/reflectlite.Value).Type", "(internal/reflectlite.Value).IsNil", "internal/reflectlite.TypeOf", "(internal/reflectlite.Value).Elem", "(internal/reflectlite.Value).Set"], unfollowed := true, recurses := true, named := ["errors.errorType"], apart := false, laid := [("errors.errorType", laid_errors_errorType)] }
def DataJoinsSaid : Prop := dataJoinsRow.holds Tryz.pinned (OpenSpec.ofChange dataJoinsSpec)

/-- ITS FALSE NEIGHBOUR: 'it returns false'. Refute it at one input. -/
def dataJoinsWrong : ChangeSpec := { name := "dataJoins", fn := fun _ => fun
  | [d] => { results := [.lit (.bool false)], args := [d] }
  | _ => none }
def DataJoinsWrongFalsely : Prop := dataJoinsRow.holds Tryz.pinned (OpenSpec.ofChange dataJoinsWrong)

/-- 'wharflaw13.DataMost': WHATEVER THE INPUT: true; the input reads as it did. -/
def dataMostSpec : ChangeSpec := { name := "dataMost", fn := fun _ => fun
  | [d1, d2] => { results := [.lit (.bool true)], args := [d1, d2] }
  | _ => none }
def dataMostRow : OpenClaim := { program := "ythkbcpbgoefanaagreatdoor", sum := "11cf0cab25190151ea5942886df61240252aebf0a562e5e8d9b8c842eb75fc75", func := "wharf/wharflaw13.DataMost", spec := "dataMost", inPlace := ["internal/reflectlite.ValueOf", "(internal/reflectlite.Value).Type", "(internal/reflectlite.Value).IsNil", "internal/reflectlite.TypeOf", "(internal/reflectlite.Value).Elem", "(internal/reflectlite.Value).Set"], unfollowed := true, recurses := true, named := ["errors.errorType"], apart := false, laid := [("errors.errorType", laid_errors_errorType)] }
def DataMostSaid : Prop := dataMostRow.holds Tryz.pinned (OpenSpec.ofChange dataMostSpec)

/-- ITS FALSE NEIGHBOUR: 'it returns false'. Refute it at one input. -/
def dataMostWrong : ChangeSpec := { name := "dataMost", fn := fun _ => fun
  | [d1, d2] => { results := [.lit (.bool false)], args := [d1, d2] }
  | _ => none }
def DataMostWrongFalsely : Prop := dataMostRow.holds Tryz.pinned (OpenSpec.ofChange dataMostWrong)

/- THE SECOND FORM. 'bulk': how many values and letters a reading holds, each counted each time it is reached (what is shared counts as often as it is met; a slice's spare places count too). A statement '..UptoSaid' is the law's where the arguments, and the package variables that the reading takes, are together of bulk at most 1048576: NARROWER than '..Said'. Prove '..Said' where nothing that the law and all that it calls make is longer than what came in: it says more and counts as full. Else prove '..UptoSaid'. A law counts once. -/
mutual
def uptoBulk {H : Type} : DataW H → Nat
  | .lit (.string bytes) => bytes.length + 1
  | .lit _ => 1
  | .nil => 1
  | .ptr d => uptoBulk d + 1
  | .slice elems spare => uptoBulkAll elems + uptoBulkAll spare + 1
  | .agg parts => uptoBulkAll parts + 1
  | .iface _ d => uptoBulk d + 1
  | .map entries => uptoBulkEntries entries + 1
  | .held _ => 1
def uptoBulkAll {H : Type} : List (DataW H) → Nat
  | [] => 0
  | d :: r => uptoBulk d + uptoBulkAll r
def uptoBulkEntries {H : Type} : List (Lit × DataW H) → Nat
  | [] => 0
  | x :: r => uptoBulkEntry x + uptoBulkEntries r
def uptoBulkEntry {H : Type} : Lit × DataW H → Nat
  | (.string bytes, d) => bytes.length + uptoBulk d + 1
  | (_, d) => uptoBulk d + 1
 end
def uptoSmall : (H : Type) → List (DataW H) → Bool := fun _ ds => decide (uptoBulkAll ds ≤ 1048576)
def OpenSpec.upto (s : _root_.Go.ChangeSpec) : _root_.Go.OpenSpec := { _root_.Go.OpenSpec.ofChange s with cond := some uptoSmall }

/-- 'wharflaw12.ChunkMatchesReference', WHERE WHAT IT READS IS OF BULK AT MOST 1048576: true; the input reads as it did. -/
def chunkMatchesReferenceUptoRow : OpenClaim := { program := "ythkbcpbgoefanaagreatdoor", sum := "11cf0cab25190151ea5942886df61240252aebf0a562e5e8d9b8c842eb75fc75", func := "wharf/wharflaw12.ChunkMatchesReference", spec := "chunkMatchesReference", inPlace := ["internal/reflectlite.ValueOf", "(internal/reflectlite.Value).Type", "(internal/reflectlite.Value).IsNil", "internal/reflectlite.TypeOf", "(internal/reflectlite.Value).Elem", "(internal/reflectlite.Value).Set"], unfollowed := true, recurses := true, named := ["errors.errorType"], loops := true, apart := false, laid := [("errors.errorType", laid_errors_errorType)], narrowed := true }
def ChunkMatchesReferenceUptoSaid : Prop := chunkMatchesReferenceUptoRow.holds Tryz.pinned (OpenSpec.upto chunkMatchesReferenceSpec)

/-- 'wharflaw12.ChunkParses', WHERE WHAT IT READS IS OF BULK AT MOST 1048576: true; the input reads as it did. -/
def chunkParsesUptoRow : OpenClaim := { program := "ythkbcpbgoefanaagreatdoor", sum := "11cf0cab25190151ea5942886df61240252aebf0a562e5e8d9b8c842eb75fc75", func := "wharf/wharflaw12.ChunkParses", spec := "chunkParses", inPlace := ["internal/reflectlite.ValueOf", "(internal/reflectlite.Value).Type", "(internal/reflectlite.Value).IsNil", "internal/reflectlite.TypeOf", "(internal/reflectlite.Value).Elem", "(internal/reflectlite.Value).Set"], unfollowed := true, recurses := true, named := ["errors.errorType"], apart := false, laid := [("errors.errorType", laid_errors_errorType)], narrowed := true }
def ChunkParsesUptoSaid : Prop := chunkParsesUptoRow.holds Tryz.pinned (OpenSpec.upto chunkParsesSpec)

/-- 'wharflaw12.ChunkUnknown', WHERE WHAT IT READS IS OF BULK AT MOST 1048576: true; the input reads as it did. -/
def chunkUnknownUptoRow : OpenClaim := { program := "ythkbcpbgoefanaagreatdoor", sum := "11cf0cab25190151ea5942886df61240252aebf0a562e5e8d9b8c842eb75fc75", func := "wharf/wharflaw12.ChunkUnknown", spec := "chunkUnknown", inPlace := ["internal/reflectlite.ValueOf", "(internal/reflectlite.Value).Type", "(internal/reflectlite.Value).IsNil", "internal/reflectlite.TypeOf", "(internal/reflectlite.Value).Elem", "(internal/reflectlite.Value).Set"], unfollowed := true, recurses := true, named := ["errors.errorType"], apart := false, laid := [("errors.errorType", laid_errors_errorType)], narrowed := true }
def ChunkUnknownUptoSaid : Prop := chunkUnknownUptoRow.holds Tryz.pinned (OpenSpec.upto chunkUnknownSpec)

/-- 'wharflaw12.ChunkCopies', WHERE WHAT IT READS IS OF BULK AT MOST 1048576: true; the input reads as it did. -/
def chunkCopiesUptoRow : OpenClaim := { program := "ythkbcpbgoefanaagreatdoor", sum := "11cf0cab25190151ea5942886df61240252aebf0a562e5e8d9b8c842eb75fc75", func := "wharf/wharflaw12.ChunkCopies", spec := "chunkCopies", inPlace := ["internal/reflectlite.ValueOf", "(internal/reflectlite.Value).Type", "(internal/reflectlite.Value).IsNil", "internal/reflectlite.TypeOf", "(internal/reflectlite.Value).Elem", "(internal/reflectlite.Value).Set"], unfollowed := true, recurses := true, named := ["errors.errorType"], loops := true, apart := false, laid := [("errors.errorType", laid_errors_errorType)], narrowed := true }
def ChunkCopiesUptoSaid : Prop := chunkCopiesUptoRow.holds Tryz.pinned (OpenSpec.upto chunkCopiesSpec)

/-- 'wharflaw12.ChunkFlags', WHERE WHAT IT READS IS OF BULK AT MOST 1048576: true; the input reads as it did. -/
def chunkFlagsUptoRow : OpenClaim := { program := "ythkbcpbgoefanaagreatdoor", sum := "11cf0cab25190151ea5942886df61240252aebf0a562e5e8d9b8c842eb75fc75", func := "wharf/wharflaw12.ChunkFlags", spec := "chunkFlags", inPlace := ["internal/reflectlite.ValueOf", "(internal/reflectlite.Value).Type", "(internal/reflectlite.Value).IsNil", "internal/reflectlite.TypeOf", "(internal/reflectlite.Value).Elem", "(internal/reflectlite.Value).Set"], unfollowed := true, recurses := true, named := ["errors.errorType"], apart := false, laid := [("errors.errorType", laid_errors_errorType)], narrowed := true }
def ChunkFlagsUptoSaid : Prop := chunkFlagsUptoRow.holds Tryz.pinned (OpenSpec.upto chunkFlagsSpec)

/-- 'wharflaw13.DataMatchesReference', WHERE WHAT IT READS IS OF BULK AT MOST 1048576: true; the input reads as it did. -/
def dataMatchesReferenceUptoRow : OpenClaim := { program := "ythkbcpbgoefanaagreatdoor", sum := "11cf0cab25190151ea5942886df61240252aebf0a562e5e8d9b8c842eb75fc75", func := "wharf/wharflaw13.DataMatchesReference", spec := "dataMatchesReference", inPlace := ["internal/reflectlite.ValueOf", "(internal/reflectlite.Value).Type", "(internal/reflectlite.Value).IsNil", "internal/reflectlite.TypeOf", "(internal/reflectlite.Value).Elem", "(internal/reflectlite.Value).Set"], unfollowed := true, recurses := true, named := ["errors.errorType"], apart := false, laid := [("errors.errorType", laid_errors_errorType)], narrowed := true }
def DataMatchesReferenceUptoSaid : Prop := dataMatchesReferenceUptoRow.holds Tryz.pinned (OpenSpec.upto dataMatchesReferenceSpec)

/-- 'wharflaw13.DataChunks', WHERE WHAT IT READS IS OF BULK AT MOST 1048576: true; the input reads as it did. -/
def dataChunksUptoRow : OpenClaim := { program := "ythkbcpbgoefanaagreatdoor", sum := "11cf0cab25190151ea5942886df61240252aebf0a562e5e8d9b8c842eb75fc75", func := "wharf/wharflaw13.DataChunks", spec := "dataChunks", inPlace := ["internal/reflectlite.ValueOf", "(internal/reflectlite.Value).Type", "(internal/reflectlite.Value).IsNil", "internal/reflectlite.TypeOf", "(internal/reflectlite.Value).Elem", "(internal/reflectlite.Value).Set"], unfollowed := true, recurses := true, named := ["errors.errorType"], loops := true, apart := false, laid := [("errors.errorType", laid_errors_errorType)], narrowed := true }
def DataChunksUptoSaid : Prop := dataChunksUptoRow.holds Tryz.pinned (OpenSpec.upto dataChunksSpec)

/-- 'wharflaw13.DataSplits', WHERE WHAT IT READS IS OF BULK AT MOST 1048576: true; the input reads as it did. -/
def dataSplitsUptoRow : OpenClaim := { program := "ythkbcpbgoefanaagreatdoor", sum := "11cf0cab25190151ea5942886df61240252aebf0a562e5e8d9b8c842eb75fc75", func := "wharf/wharflaw13.DataSplits", spec := "dataSplits", inPlace := ["internal/reflectlite.ValueOf", "(internal/reflectlite.Value).Type", "(internal/reflectlite.Value).IsNil", "internal/reflectlite.TypeOf", "(internal/reflectlite.Value).Elem", "(internal/reflectlite.Value).Set"], unfollowed := true, recurses := true, named := ["errors.errorType"], apart := false, laid := [("errors.errorType", laid_errors_errorType)], narrowed := true }
def DataSplitsUptoSaid : Prop := dataSplitsUptoRow.holds Tryz.pinned (OpenSpec.upto dataSplitsSpec)

/-- 'wharflaw13.DataJoins', WHERE WHAT IT READS IS OF BULK AT MOST 1048576: true; the input reads as it did. -/
def dataJoinsUptoRow : OpenClaim := { program := "ythkbcpbgoefanaagreatdoor", sum := "11cf0cab25190151ea5942886df61240252aebf0a562e5e8d9b8c842eb75fc75", func := "wharf/wharflaw13.DataJoins", spec := "dataJoins", inPlace := ["internal/reflectlite.ValueOf", "(internal/reflectlite.Value).Type", "(internal/reflectlite.Value).IsNil", "internal/reflectlite.TypeOf", "(internal/reflectlite.Value).Elem", "(internal/reflectlite.Value).Set"], unfollowed := true, recurses := true, named := ["errors.errorType"], apart := false, laid := [("errors.errorType", laid_errors_errorType)], narrowed := true }
def DataJoinsUptoSaid : Prop := dataJoinsUptoRow.holds Tryz.pinned (OpenSpec.upto dataJoinsSpec)

/-- 'wharflaw13.DataMost', WHERE WHAT IT READS IS OF BULK AT MOST 1048576: true; the input reads as it did. -/
def dataMostUptoRow : OpenClaim := { program := "ythkbcpbgoefanaagreatdoor", sum := "11cf0cab25190151ea5942886df61240252aebf0a562e5e8d9b8c842eb75fc75", func := "wharf/wharflaw13.DataMost", spec := "dataMost", inPlace := ["internal/reflectlite.ValueOf", "(internal/reflectlite.Value).Type", "(internal/reflectlite.Value).IsNil", "internal/reflectlite.TypeOf", "(internal/reflectlite.Value).Elem", "(internal/reflectlite.Value).Set"], unfollowed := true, recurses := true, named := ["errors.errorType"], apart := false, laid := [("errors.errorType", laid_errors_errorType)], narrowed := true }
def DataMostUptoSaid : Prop := dataMostUptoRow.holds Tryz.pinned (OpenSpec.upto dataMostSpec)

end Rows
end Go.Proofs.YthkbcpbgoefanaaGreatDoor
