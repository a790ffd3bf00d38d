/-
  No cell of these rows narrows 'for every input' (looked for: loops, veiled, ifaces, maps, wideKeys, modest, calm, conditions, laid).
  DERIVED. THE GIVEN ROWS OF THIS SEAT. 5 by the template 'for every input the law returns true; each argument reads behind the call as it read before'; 0 by the template 'total and deterministic' (their statements: YtcbheefmggajcaaTotals.lean).
  GIVEN WITH THE SEED: the statements are not yours to turn. If you find one false, say at which input.
  Laid BY PROGRAM, IN A SANDBOX (cutbox-rows.mjs): the forced cells as the released guide's own fill.sh prints them over the translation 68ed09b19f920a0e… (all of the seat's roots in one cut). By AI agents, Wed Nov 11 2026. No macro, syntax, notation, axiom, sorry.
-/
import Derived.Test.YtcbheefmggajcaaChecked
import GoSem.Claim
import GoSem.ClaimJoined
import GoSem.ClaimMapViews
import Derived.JoinedTies
import Derived.KernelRfl
namespace Go.Proofs.Ytcbheefmggajcaa
/- THE CELL 'sum', in the pinned program and in every row, IS THE sha256 OF THE DUMP (.gsa) THAT YtcbheefmggajcaaProg.lean LOADS. Nothing in Lean hashes anything: it is a label: what it is worth is what the hold of that sum in a sandbox is worth. -/
noncomputable def Try.pinned : Pinned := { name := "ytcbheefmggajcaa", sum := "68ed09b19f920a0e185e18172c0a30d539e6cdca0226fc56feed3401ced4f81f", checked := Try.checked }
namespace Rows
def none {H : Type} : Left H := { results := [], args := [] }

/-- 'wharflaw11.KindMatchesReference': WHATEVER THE INPUT: true; the input reads as it did. -/
def kindMatchesReferenceSpec : ChangeSpec := { name := "kindMatchesReference", fn := fun _ => fun
  | [d] => { results := [.lit (.bool true)], args := [d] }
  | _ => none }
def kindMatchesReferenceRow : OpenClaim := { program := "ytcbheefmggajcaa", sum := "68ed09b19f920a0e185e18172c0a30d539e6cdca0226fc56feed3401ced4f81f", func := "wharf/wharflaw11.KindMatchesReference", spec := "kindMatchesReference", unfollowed := true, recurses := true, apart := false }
def KindMatchesReferenceSaid : Prop := kindMatchesReferenceRow.holds Try.pinned (OpenSpec.ofChange kindMatchesReferenceSpec)

/-- ITS FALSE NEIGHBOUR: 'it returns false'. Refute it at one input. -/
def kindMatchesReferenceWrong : ChangeSpec := { name := "kindMatchesReference", fn := fun _ => fun
  | [d] => { results := [.lit (.bool false)], args := [d] }
  | _ => none }
def KindMatchesReferenceWrongFalsely : Prop := kindMatchesReferenceRow.holds Try.pinned (OpenSpec.ofChange kindMatchesReferenceWrong)

/-- 'wharflaw11.KindNames': WHATEVER THE INPUT: true; the input reads as it did. -/
def kindNamesSpec : ChangeSpec := { name := "kindNames", fn := fun _ => fun
  | [d] => { results := [.lit (.bool true)], args := [d] }
  | _ => none }
def kindNamesRow : OpenClaim := { program := "ytcbheefmggajcaa", sum := "68ed09b19f920a0e185e18172c0a30d539e6cdca0226fc56feed3401ced4f81f", func := "wharf/wharflaw11.KindNames", spec := "kindNames", unfollowed := true, recurses := true, apart := false }
def KindNamesSaid : Prop := kindNamesRow.holds Try.pinned (OpenSpec.ofChange kindNamesSpec)

/-- ITS FALSE NEIGHBOUR: 'it returns false'. Refute it at one input. -/
def kindNamesWrong : ChangeSpec := { name := "kindNames", fn := fun _ => fun
  | [d] => { results := [.lit (.bool false)], args := [d] }
  | _ => none }
def KindNamesWrongFalsely : Prop := kindNamesRow.holds Try.pinned (OpenSpec.ofChange kindNamesWrong)

/-- 'wharflaw11.KindTypes': WHATEVER THE INPUT: true; the input reads as it did. -/
def kindTypesSpec : ChangeSpec := { name := "kindTypes", fn := fun _ => fun
  | [d] => { results := [.lit (.bool true)], args := [d] }
  | _ => none }
def kindTypesRow : OpenClaim := { program := "ytcbheefmggajcaa", sum := "68ed09b19f920a0e185e18172c0a30d539e6cdca0226fc56feed3401ced4f81f", func := "wharf/wharflaw11.KindTypes", spec := "kindTypes", unfollowed := true, recurses := true, apart := false }
def KindTypesSaid : Prop := kindTypesRow.holds Try.pinned (OpenSpec.ofChange kindTypesSpec)

/-- ITS FALSE NEIGHBOUR: 'it returns false'. Refute it at one input. -/
def kindTypesWrong : ChangeSpec := { name := "kindTypes", fn := fun _ => fun
  | [d] => { results := [.lit (.bool false)], args := [d] }
  | _ => none }
def KindTypesWrongFalsely : Prop := kindTypesRow.holds Try.pinned (OpenSpec.ofChange kindTypesWrong)

/-- 'wharflaw11.KindFits': WHATEVER THE INPUT: true; the input reads as it did. -/
def kindFitsSpec : ChangeSpec := { name := "kindFits", fn := fun _ => fun
  | [d1, d2] => { results := [.lit (.bool true)], args := [d1, d2] }
  | _ => none }
def kindFitsRow : OpenClaim := { program := "ytcbheefmggajcaa", sum := "68ed09b19f920a0e185e18172c0a30d539e6cdca0226fc56feed3401ced4f81f", func := "wharf/wharflaw11.KindFits", spec := "kindFits", unfollowed := true, recurses := true, apart := false }
def KindFitsSaid : Prop := kindFitsRow.holds Try.pinned (OpenSpec.ofChange kindFitsSpec)

/-- ITS FALSE NEIGHBOUR: 'it returns false'. Refute it at one input. -/
def kindFitsWrong : ChangeSpec := { name := "kindFits", fn := fun _ => fun
  | [d1, d2] => { results := [.lit (.bool false)], args := [d1, d2] }
  | _ => none }
def KindFitsWrongFalsely : Prop := kindFitsRow.holds Try.pinned (OpenSpec.ofChange kindFitsWrong)

/-- 'wharflaw11.KindInside': WHATEVER THE INPUT: true; the input reads as it did. -/
def kindInsideSpec : ChangeSpec := { name := "kindInside", fn := fun _ => fun
  | [d] => { results := [.lit (.bool true)], args := [d] }
  | _ => none }
def kindInsideRow : OpenClaim := { program := "ytcbheefmggajcaa", sum := "68ed09b19f920a0e185e18172c0a30d539e6cdca0226fc56feed3401ced4f81f", func := "wharf/wharflaw11.KindInside", spec := "kindInside", unfollowed := true, recurses := true, apart := false }
def KindInsideSaid : Prop := kindInsideRow.holds Try.pinned (OpenSpec.ofChange kindInsideSpec)

/-- ITS FALSE NEIGHBOUR: 'it returns false'. Refute it at one input. -/
def kindInsideWrong : ChangeSpec := { name := "kindInside", fn := fun _ => fun
  | [d] => { results := [.lit (.bool false)], args := [d] }
  | _ => none }
def KindInsideWrongFalsely : Prop := kindInsideRow.holds Try.pinned (OpenSpec.ofChange kindInsideWrong)

/- THE SECOND FORM. 'bulk': how many values and letters a reading holds, each counted each time it is reached (what is shared counts as often as it is met; a slice's spare places count too). A statement '..UptoSaid' is the law's where the arguments, and the package variables that the reading takes, are together of bulk at most 1048576: NARROWER than '..Said'. Prove '..Said' where nothing that the law and all that it calls make is longer than what came in: it says more and counts as full. Else prove '..UptoSaid'. A law counts once. -/
mutual
def uptoBulk {H : Type} : DataW H → Nat
  | .lit (.string bytes) => bytes.length + 1
  | .lit _ => 1
  | .nil => 1
  | .ptr d => uptoBulk d + 1
  | .slice elems spare => uptoBulkAll elems + uptoBulkAll spare + 1
  | .agg parts => uptoBulkAll parts + 1
  | .iface _ d => uptoBulk d + 1
  | .map entries => uptoBulkEntries entries + 1
  | .held _ => 1
def uptoBulkAll {H : Type} : List (DataW H) → Nat
  | [] => 0
  | d :: r => uptoBulk d + uptoBulkAll r
def uptoBulkEntries {H : Type} : List (Lit × DataW H) → Nat
  | [] => 0
  | x :: r => uptoBulkEntry x + uptoBulkEntries r
def uptoBulkEntry {H : Type} : Lit × DataW H → Nat
  | (.string bytes, d) => bytes.length + uptoBulk d + 1
  | (_, d) => uptoBulk d + 1
 end
def uptoSmall : (H : Type) → List (DataW H) → Bool := fun _ ds => decide (uptoBulkAll ds ≤ 1048576)
def OpenSpec.upto (s : _root_.Go.ChangeSpec) : _root_.Go.OpenSpec := { _root_.Go.OpenSpec.ofChange s with cond := some uptoSmall }

/-- 'wharflaw11.KindMatchesReference', WHERE WHAT IT READS IS OF BULK AT MOST 1048576: true; the input reads as it did. -/
def kindMatchesReferenceUptoRow : OpenClaim := { program := "ytcbheefmggajcaa", sum := "68ed09b19f920a0e185e18172c0a30d539e6cdca0226fc56feed3401ced4f81f", func := "wharf/wharflaw11.KindMatchesReference", spec := "kindMatchesReference", unfollowed := true, recurses := true, apart := false, narrowed := true }
def KindMatchesReferenceUptoSaid : Prop := kindMatchesReferenceUptoRow.holds Try.pinned (OpenSpec.upto kindMatchesReferenceSpec)

/-- 'wharflaw11.KindNames', WHERE WHAT IT READS IS OF BULK AT MOST 1048576: true; the input reads as it did. -/
def kindNamesUptoRow : OpenClaim := { program := "ytcbheefmggajcaa", sum := "68ed09b19f920a0e185e18172c0a30d539e6cdca0226fc56feed3401ced4f81f", func := "wharf/wharflaw11.KindNames", spec := "kindNames", unfollowed := true, recurses := true, apart := false, narrowed := true }
def KindNamesUptoSaid : Prop := kindNamesUptoRow.holds Try.pinned (OpenSpec.upto kindNamesSpec)

/-- 'wharflaw11.KindTypes', WHERE WHAT IT READS IS OF BULK AT MOST 1048576: true; the input reads as it did. -/
def kindTypesUptoRow : OpenClaim := { program := "ytcbheefmggajcaa", sum := "68ed09b19f920a0e185e18172c0a30d539e6cdca0226fc56feed3401ced4f81f", func := "wharf/wharflaw11.KindTypes", spec := "kindTypes", unfollowed := true, recurses := true, apart := false, narrowed := true }
def KindTypesUptoSaid : Prop := kindTypesUptoRow.holds Try.pinned (OpenSpec.upto kindTypesSpec)

/-- 'wharflaw11.KindFits', WHERE WHAT IT READS IS OF BULK AT MOST 1048576: true; the input reads as it did. -/
def kindFitsUptoRow : OpenClaim := { program := "ytcbheefmggajcaa", sum := "68ed09b19f920a0e185e18172c0a30d539e6cdca0226fc56feed3401ced4f81f", func := "wharf/wharflaw11.KindFits", spec := "kindFits", unfollowed := true, recurses := true, apart := false, narrowed := true }
def KindFitsUptoSaid : Prop := kindFitsUptoRow.holds Try.pinned (OpenSpec.upto kindFitsSpec)

/-- 'wharflaw11.KindInside', WHERE WHAT IT READS IS OF BULK AT MOST 1048576: true; the input reads as it did. -/
def kindInsideUptoRow : OpenClaim := { program := "ytcbheefmggajcaa", sum := "68ed09b19f920a0e185e18172c0a30d539e6cdca0226fc56feed3401ced4f81f", func := "wharf/wharflaw11.KindInside", spec := "kindInside", unfollowed := true, recurses := true, apart := false, narrowed := true }
def KindInsideUptoSaid : Prop := kindInsideUptoRow.holds Try.pinned (OpenSpec.upto kindInsideSpec)

end Rows
end Go.Proofs.Ytcbheefmggajcaa
