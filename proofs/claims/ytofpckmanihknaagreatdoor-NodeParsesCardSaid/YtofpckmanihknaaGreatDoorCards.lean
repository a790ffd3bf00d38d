/-
  DERIVED. GIVEN WITH THE SEED: THE CARDS: each row of YtofpckmanihknaaGreatDoorRows.lean that lists a variable, with what it lists TIED to the program's text (the seventh form; the later family's looks); each row that meets fmt, with fmt's text TOLD by the authors' own Lean function (tested against real Go, not proved from fmt's source: count such statements apart). THE CARD IS WHAT COUNTS. Prove the row's statement (the work); the ties are given (YtofpckmanihknaaGreatDoorTie.lean); close each card by the builder's one call (the guide's Derived/Test/ToyasCard.lean, 'card_holds'). Laid BY PROGRAM, IN A SANDBOX (cutbox-door.mjs). By AI agents, Wed Nov 11 2026. No macro, syntax, notation, axiom, sorry.
-/
import Derived.Test.YtofpckmanihknaaGreatDoorRows
import GoSem.ClaimSeven
namespace Go.Proofs.YtofpckmanihknaaGreatDoor
namespace Rows

/-- THE TIED CARD OF 'wharflaw08.NodeMatchesReference'. -/
def nodeMatchesReferenceCard : Claim7 := { stood := { row := nodeMatchesReferenceRow, standIns := [], harness := (true, "e4491bb64d34a7c543f9a27bee05f0988fc7fc379085d2500bdb643d1b22e8bc"), looks := true }, kinds := [], alts := [], laidByText := true, laidKinds := [.handle], laidTests := true, laidLooks := .later }
def NodeMatchesReferenceCardSaid : Prop := Claim7.holds Tryz.pinned (.plain (OpenSpec.ofChange nodeMatchesReferenceSpec)) nodeMatchesReferenceCard

/-- THE TIED CARD OF 'wharflaw08.NodeParses'. -/
def nodeParsesCard : Claim7 := { stood := { row := nodeParsesRow, standIns := [], harness := (true, "e4491bb64d34a7c543f9a27bee05f0988fc7fc379085d2500bdb643d1b22e8bc"), looks := true }, kinds := [], alts := [], laidByText := true, laidKinds := [.handle], laidTests := true, laidLooks := .later }
def NodeParsesCardSaid : Prop := Claim7.holds Tryz.pinned (.plain (OpenSpec.ofChange nodeParsesSpec)) nodeParsesCard

/-- THE TIED CARD OF 'wharflaw08.NodeWalks'. -/
def nodeWalksCard : Claim7 := { stood := { row := nodeWalksRow, standIns := [], harness := (true, "e4491bb64d34a7c543f9a27bee05f0988fc7fc379085d2500bdb643d1b22e8bc"), looks := true }, kinds := [], alts := [], laidByText := true, laidKinds := [.handle], laidTests := true, laidLooks := .later }
def NodeWalksCardSaid : Prop := Claim7.holds Tryz.pinned (.plain (OpenSpec.ofChange nodeWalksSpec)) nodeWalksCard

/-- THE SECOND FORM's CARD OF 'wharflaw08.NodeMatchesReference'. -/
def nodeMatchesReferenceUptoCard : Claim7 := { stood := { row := nodeMatchesReferenceUptoRow, standIns := [], harness := (true, "e4491bb64d34a7c543f9a27bee05f0988fc7fc379085d2500bdb643d1b22e8bc"), looks := true }, kinds := [], alts := [], laidByText := true, laidKinds := [.handle], laidTests := true, laidLooks := .later }
def NodeMatchesReferenceUptoCardSaid : Prop := Claim7.holds Tryz.pinned (.plain (OpenSpec.upto nodeMatchesReferenceSpec)) nodeMatchesReferenceUptoCard

/-- THE SECOND FORM's CARD OF 'wharflaw08.NodeParses'. -/
def nodeParsesUptoCard : Claim7 := { stood := { row := nodeParsesUptoRow, standIns := [], harness := (true, "e4491bb64d34a7c543f9a27bee05f0988fc7fc379085d2500bdb643d1b22e8bc"), looks := true }, kinds := [], alts := [], laidByText := true, laidKinds := [.handle], laidTests := true, laidLooks := .later }
def NodeParsesUptoCardSaid : Prop := Claim7.holds Tryz.pinned (.plain (OpenSpec.upto nodeParsesSpec)) nodeParsesUptoCard

/-- THE SECOND FORM's CARD OF 'wharflaw08.NodeWalks'. -/
def nodeWalksUptoCard : Claim7 := { stood := { row := nodeWalksUptoRow, standIns := [], harness := (true, "e4491bb64d34a7c543f9a27bee05f0988fc7fc379085d2500bdb643d1b22e8bc"), looks := true }, kinds := [], alts := [], laidByText := true, laidKinds := [.handle], laidTests := true, laidLooks := .later }
def NodeWalksUptoCardSaid : Prop := Claim7.holds Tryz.pinned (.plain (OpenSpec.upto nodeWalksSpec)) nodeWalksUptoCard
end Rows
end Go.Proofs.YtofpckmanihknaaGreatDoor
