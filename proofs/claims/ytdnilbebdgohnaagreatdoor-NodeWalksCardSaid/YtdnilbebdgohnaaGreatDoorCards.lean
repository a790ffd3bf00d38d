/-
  DERIVED. GIVEN WITH THE SEED: THE CARDS: each row of YtdnilbebdgohnaaGreatDoorRows.lean that lists a variable, with what it lists TIED to the program's text (the seventh form; the later family's looks); each row that meets fmt, with fmt's text TOLD by the authors' own Lean function (tested against real Go, not proved from fmt's source: count such statements apart). THE CARD IS WHAT COUNTS. Prove the row's statement (the work); the ties are given (YtdnilbebdgohnaaGreatDoorTie.lean); close each card by the builder's one call (the guide's Derived/Test/ToyasCard.lean, 'card_holds'). Laid BY PROGRAM, IN A SANDBOX (cutbox-door.mjs). By AI agents, Wed Nov 11 2026. No macro, syntax, notation, axiom, sorry.
-/
import Derived.Test.YtdnilbebdgohnaaGreatDoorRows
import GoSem.ClaimSeven
namespace Go.Proofs.YtdnilbebdgohnaaGreatDoor
namespace Rows

/-- THE TIED CARD OF 'wharflaw08.NodeWalks'. -/
def nodeWalksCard : Claim7 := { stood := { row := nodeWalksRow, standIns := [], harness := (true, "fafcdc790b7674b7b6e571ee9d3c87e45ed2da03d2e6464020a9894653bd0d1e"), looks := true }, kinds := [], alts := [], laidByText := true, laidKinds := [.handle], laidTests := true, laidLooks := .later }
def NodeWalksCardSaid : Prop := Claim7.holds Tryz.pinned (.plain (OpenSpec.ofChange nodeWalksSpec)) nodeWalksCard

/-- THE SECOND FORM's CARD OF 'wharflaw08.NodeWalks'. -/
def nodeWalksUptoCard : Claim7 := { stood := { row := nodeWalksUptoRow, standIns := [], harness := (true, "fafcdc790b7674b7b6e571ee9d3c87e45ed2da03d2e6464020a9894653bd0d1e"), looks := true }, kinds := [], alts := [], laidByText := true, laidKinds := [.handle], laidTests := true, laidLooks := .later }
def NodeWalksUptoCardSaid : Prop := Claim7.holds Tryz.pinned (.plain (OpenSpec.upto nodeWalksSpec)) nodeWalksUptoCard
end Rows
end Go.Proofs.YtdnilbebdgohnaaGreatDoor
