/-
  DERIVED. GIVEN WITH THE SEED: THE CARDS: each row of YtofpckmanihknaaDoorRows.lean that lists a variable, with what it lists TIED to the program's text (the seventh form; the later family's looks); each row that meets fmt, with fmt's text TOLD by the authors' own Lean function (tested against real Go, not proved from fmt's source: count such statements apart). THE CARD IS WHAT COUNTS. Prove the row's statement (the work); the ties are given (YtofpckmanihknaaDoorTie.lean); close each card by the builder's one call (the guide's Derived/Test/ToyasCard.lean, 'card_holds'). Laid BY PROGRAM, IN A SANDBOX (cutbox-door.mjs). By AI agents, Wed Nov 11 2026. No macro, syntax, notation, axiom, sorry.
-/
import Derived.Test.YtofpckmanihknaaDoorRows
import GoSem.ClaimSeven
namespace Go.Proofs.YtofpckmanihknaaDoor
namespace Rows

/-- THE TIED CARD OF 'wharflaw08.NodeDepths'. -/
def nodeDepthsCard : Claim7 := { stood := { row := nodeDepthsRow, standIns := [], harness := (true, "57309050fd1f36896424be6a1ee8b4145cffc9ed130419934dfb546035a11604"), looks := true }, kinds := [], alts := [], laidByText := true, laidKinds := [.handle], laidTests := true, laidLooks := .later }
def NodeDepthsCardSaid : Prop := Claim7.holds Tryd.pinned (.plain (OpenSpec.ofChange nodeDepthsSpec)) nodeDepthsCard

/-- THE TIED CARD OF 'wharflaw08.NodeLimits'. -/
def nodeLimitsCard : Claim7 := { stood := { row := nodeLimitsRow, standIns := [], harness := (true, "57309050fd1f36896424be6a1ee8b4145cffc9ed130419934dfb546035a11604"), looks := true }, kinds := [], alts := [], laidByText := true, laidKinds := [.handle], laidTests := true, laidLooks := .later }
def NodeLimitsCardSaid : Prop := Claim7.holds Tryd.pinned (.plain (OpenSpec.ofChange nodeLimitsSpec)) nodeLimitsCard

/-- THE TIED CARD OF 'wharflaw08.NodeSame'. -/
def nodeSameCard : Claim7 := { stood := { row := nodeSameRow, standIns := [], harness := (true, "57309050fd1f36896424be6a1ee8b4145cffc9ed130419934dfb546035a11604"), looks := true }, kinds := [], alts := [], laidByText := true, laidKinds := [.handle], laidTests := true, laidLooks := .later }
def NodeSameCardSaid : Prop := Claim7.holds Tryd.pinned (.plain (OpenSpec.ofChange nodeSameSpec)) nodeSameCard

/-- THE TIED CARD OF 'wharflaw09.AddressParses'. -/
def addressParsesCard : Claim7 := { stood := { row := addressParsesRow, standIns := [], harness := (true, "57309050fd1f36896424be6a1ee8b4145cffc9ed130419934dfb546035a11604"), looks := true }, kinds := [], alts := [], laidByText := true, laidKinds := [.data, .data, .data, .data, .sentinel, .sentinel, .data, .pinned], laidTests := true, laidLooks := .later }
def AddressParsesCardSaid : Prop := Claim7.holds Tryd.pinned (.plain (OpenSpec.ofChange addressParsesSpec)) addressParsesCard

/-- THE TIED CARD OF 'wharflaw09.AddressHosts'. -/
def addressHostsCard : Claim7 := { stood := { row := addressHostsRow, standIns := [], harness := (true, "57309050fd1f36896424be6a1ee8b4145cffc9ed130419934dfb546035a11604"), looks := true }, kinds := [], alts := [], laidByText := true, laidKinds := [.data, .data, .data, .data, .sentinel, .sentinel, .data, .pinned], laidTests := true, laidLooks := .later }
def AddressHostsCardSaid : Prop := Claim7.holds Tryd.pinned (.plain (OpenSpec.ofChange addressHostsSpec)) addressHostsCard

/-- THE TIED CARD OF 'wharflaw09.AddressBytes'. -/
def addressBytesCard : Claim7 := { stood := { row := addressBytesRow, standIns := [], harness := (true, "57309050fd1f36896424be6a1ee8b4145cffc9ed130419934dfb546035a11604"), looks := true }, kinds := [], alts := [], laidByText := true, laidKinds := [.data, .data, .data, .data, .sentinel, .sentinel, .data, .pinned], laidTests := true, laidLooks := .later }
def AddressBytesCardSaid : Prop := Claim7.holds Tryd.pinned (.plain (OpenSpec.ofChange addressBytesSpec)) addressBytesCard

/-- THE SECOND FORM's CARD OF 'wharflaw08.NodeDepths'. -/
def nodeDepthsUptoCard : Claim7 := { stood := { row := nodeDepthsUptoRow, standIns := [], harness := (true, "57309050fd1f36896424be6a1ee8b4145cffc9ed130419934dfb546035a11604"), looks := true }, kinds := [], alts := [], laidByText := true, laidKinds := [.handle], laidTests := true, laidLooks := .later }
def NodeDepthsUptoCardSaid : Prop := Claim7.holds Tryd.pinned (.plain (OpenSpec.upto nodeDepthsSpec)) nodeDepthsUptoCard

/-- THE SECOND FORM's CARD OF 'wharflaw08.NodeLimits'. -/
def nodeLimitsUptoCard : Claim7 := { stood := { row := nodeLimitsUptoRow, standIns := [], harness := (true, "57309050fd1f36896424be6a1ee8b4145cffc9ed130419934dfb546035a11604"), looks := true }, kinds := [], alts := [], laidByText := true, laidKinds := [.handle], laidTests := true, laidLooks := .later }
def NodeLimitsUptoCardSaid : Prop := Claim7.holds Tryd.pinned (.plain (OpenSpec.upto nodeLimitsSpec)) nodeLimitsUptoCard

/-- THE SECOND FORM's CARD OF 'wharflaw08.NodeSame'. -/
def nodeSameUptoCard : Claim7 := { stood := { row := nodeSameUptoRow, standIns := [], harness := (true, "57309050fd1f36896424be6a1ee8b4145cffc9ed130419934dfb546035a11604"), looks := true }, kinds := [], alts := [], laidByText := true, laidKinds := [.handle], laidTests := true, laidLooks := .later }
def NodeSameUptoCardSaid : Prop := Claim7.holds Tryd.pinned (.plain (OpenSpec.upto nodeSameSpec)) nodeSameUptoCard

/-- THE SECOND FORM's CARD OF 'wharflaw09.AddressParses'. -/
def addressParsesUptoCard : Claim7 := { stood := { row := addressParsesUptoRow, standIns := [], harness := (true, "57309050fd1f36896424be6a1ee8b4145cffc9ed130419934dfb546035a11604"), looks := true }, kinds := [], alts := [], laidByText := true, laidKinds := [.data, .data, .data, .data, .sentinel, .sentinel, .data, .pinned], laidTests := true, laidLooks := .later }
def AddressParsesUptoCardSaid : Prop := Claim7.holds Tryd.pinned (.plain (OpenSpec.upto addressParsesSpec)) addressParsesUptoCard

/-- THE SECOND FORM's CARD OF 'wharflaw09.AddressHosts'. -/
def addressHostsUptoCard : Claim7 := { stood := { row := addressHostsUptoRow, standIns := [], harness := (true, "57309050fd1f36896424be6a1ee8b4145cffc9ed130419934dfb546035a11604"), looks := true }, kinds := [], alts := [], laidByText := true, laidKinds := [.data, .data, .data, .data, .sentinel, .sentinel, .data, .pinned], laidTests := true, laidLooks := .later }
def AddressHostsUptoCardSaid : Prop := Claim7.holds Tryd.pinned (.plain (OpenSpec.upto addressHostsSpec)) addressHostsUptoCard

/-- THE SECOND FORM's CARD OF 'wharflaw09.AddressBytes'. -/
def addressBytesUptoCard : Claim7 := { stood := { row := addressBytesUptoRow, standIns := [], harness := (true, "57309050fd1f36896424be6a1ee8b4145cffc9ed130419934dfb546035a11604"), looks := true }, kinds := [], alts := [], laidByText := true, laidKinds := [.data, .data, .data, .data, .sentinel, .sentinel, .data, .pinned], laidTests := true, laidLooks := .later }
def AddressBytesUptoCardSaid : Prop := Claim7.holds Tryd.pinned (.plain (OpenSpec.upto addressBytesSpec)) addressBytesUptoCard
end Rows
end Go.Proofs.YtofpckmanihknaaDoor
