/-
  DERIVED. GIVEN WITH THE SEED: THE CARDS: each row of YteelhmegmfefoaaDoorRows.lean that lists a variable, with what it lists TIED to the program's text (the seventh form; the later family's looks); each row that meets fmt, with fmt's text TOLD by the authors' own Lean function (tested against real Go, not proved from fmt's source: count such statements apart). THE CARD IS WHAT COUNTS. Prove the row's statement (the work); the ties are given (YteelhmegmfefoaaDoorTie.lean); close each card by the builder's one call (the guide's Derived/Test/ToyasCard.lean, 'card_holds'). Laid BY PROGRAM, IN A SANDBOX (cutbox-door.mjs). By AI agents, Wed Nov 11 2026. No macro, syntax, notation, axiom, sorry.
-/
import Derived.Test.YteelhmegmfefoaaDoorRows
import GoSem.ClaimSeven
namespace Go.Proofs.YteelhmegmfefoaaDoor
namespace Rows

/-- THE TIED CARD OF 'wharflaw08.NodeDepths'. -/
def nodeDepthsCard : Claim7 := { stood := { row := nodeDepthsRow, standIns := [], harness := (true, "084068b88ee097551f261202486eaaf0d836178dd7eb716a89a33f2c9d06693d"), looks := true }, kinds := [], alts := [], laidByText := true, laidKinds := [.handle], laidTests := true, laidLooks := .later }
def NodeDepthsCardSaid : Prop := Claim7.holds Tryd.pinned (.plain (OpenSpec.ofChange nodeDepthsSpec)) nodeDepthsCard

/-- THE TIED CARD OF 'wharflaw08.NodeLimits'. -/
def nodeLimitsCard : Claim7 := { stood := { row := nodeLimitsRow, standIns := [], harness := (true, "084068b88ee097551f261202486eaaf0d836178dd7eb716a89a33f2c9d06693d"), looks := true }, kinds := [], alts := [], laidByText := true, laidKinds := [.handle], laidTests := true, laidLooks := .later }
def NodeLimitsCardSaid : Prop := Claim7.holds Tryd.pinned (.plain (OpenSpec.ofChange nodeLimitsSpec)) nodeLimitsCard

/-- THE TIED CARD OF 'wharflaw08.NodeSame'. -/
def nodeSameCard : Claim7 := { stood := { row := nodeSameRow, standIns := [], harness := (true, "084068b88ee097551f261202486eaaf0d836178dd7eb716a89a33f2c9d06693d"), looks := true }, kinds := [], alts := [], laidByText := true, laidKinds := [.handle], laidTests := true, laidLooks := .later }
def NodeSameCardSaid : Prop := Claim7.holds Tryd.pinned (.plain (OpenSpec.ofChange nodeSameSpec)) nodeSameCard

/-- THE SECOND FORM's CARD OF 'wharflaw08.NodeDepths'. -/
def nodeDepthsUptoCard : Claim7 := { stood := { row := nodeDepthsUptoRow, standIns := [], harness := (true, "084068b88ee097551f261202486eaaf0d836178dd7eb716a89a33f2c9d06693d"), looks := true }, kinds := [], alts := [], laidByText := true, laidKinds := [.handle], laidTests := true, laidLooks := .later }
def NodeDepthsUptoCardSaid : Prop := Claim7.holds Tryd.pinned (.plain (OpenSpec.upto nodeDepthsSpec)) nodeDepthsUptoCard

/-- THE SECOND FORM's CARD OF 'wharflaw08.NodeLimits'. -/
def nodeLimitsUptoCard : Claim7 := { stood := { row := nodeLimitsUptoRow, standIns := [], harness := (true, "084068b88ee097551f261202486eaaf0d836178dd7eb716a89a33f2c9d06693d"), looks := true }, kinds := [], alts := [], laidByText := true, laidKinds := [.handle], laidTests := true, laidLooks := .later }
def NodeLimitsUptoCardSaid : Prop := Claim7.holds Tryd.pinned (.plain (OpenSpec.upto nodeLimitsSpec)) nodeLimitsUptoCard

/-- THE SECOND FORM's CARD OF 'wharflaw08.NodeSame'. -/
def nodeSameUptoCard : Claim7 := { stood := { row := nodeSameUptoRow, standIns := [], harness := (true, "084068b88ee097551f261202486eaaf0d836178dd7eb716a89a33f2c9d06693d"), looks := true }, kinds := [], alts := [], laidByText := true, laidKinds := [.handle], laidTests := true, laidLooks := .later }
def NodeSameUptoCardSaid : Prop := Claim7.holds Tryd.pinned (.plain (OpenSpec.upto nodeSameSpec)) nodeSameUptoCard
end Rows
end Go.Proofs.YteelhmegmfefoaaDoor
