/-
  DERIVED. GIVEN WITH THE SEED: THE CARDS: each row of YtemeeeiglifpaaaDoorRows.lean that lists a variable, with what it lists TIED to the program's text (the seventh form; the later family's looks); each row that meets fmt, with fmt's text TOLD by the authors' own Lean function (tested against real Go, not proved from fmt's source: count such statements apart). THE CARD IS WHAT COUNTS. Prove the row's statement (the work); the ties are given (YtemeeeiglifpaaaDoorTie.lean); close each card by the builder's one call (the guide's Derived/Test/ToyasCard.lean, 'card_holds'). Laid BY PROGRAM, IN A SANDBOX (cutbox-door.mjs). By AI agents, Wed Nov 11 2026. No macro, syntax, notation, axiom, sorry.
-/
import Derived.Test.YtemeeeiglifpaaaDoorRows
import GoSem.ClaimSeven
namespace Go.Proofs.YtemeeeiglifpaaaDoor
namespace Rows

/-- THE TIED CARD OF 'wharflaw09.AddressParses'. -/
def addressParsesCard : Claim7 := { stood := { row := addressParsesRow, standIns := [], harness := (true, "d2ddf82b71d0713620d6b2c56e34050306661307bc4319bc3c65ba2fac9d4134"), looks := true }, kinds := [], alts := [], laidByText := true, laidKinds := [.data, .data, .data, .data, .sentinel, .sentinel, .data, .pinned], laidTests := true, laidLooks := .later }
def AddressParsesCardSaid : Prop := Claim7.holds Tryd.pinned (.plain (OpenSpec.ofChange addressParsesSpec)) addressParsesCard

/-- THE TIED CARD OF 'wharflaw09.AddressHosts'. -/
def addressHostsCard : Claim7 := { stood := { row := addressHostsRow, standIns := [], harness := (true, "d2ddf82b71d0713620d6b2c56e34050306661307bc4319bc3c65ba2fac9d4134"), looks := true }, kinds := [], alts := [], laidByText := true, laidKinds := [.data, .data, .data, .data, .sentinel, .sentinel, .data, .pinned], laidTests := true, laidLooks := .later }
def AddressHostsCardSaid : Prop := Claim7.holds Tryd.pinned (.plain (OpenSpec.ofChange addressHostsSpec)) addressHostsCard

/-- THE TIED CARD OF 'wharflaw09.AddressBytes'. -/
def addressBytesCard : Claim7 := { stood := { row := addressBytesRow, standIns := [], harness := (true, "d2ddf82b71d0713620d6b2c56e34050306661307bc4319bc3c65ba2fac9d4134"), looks := true }, kinds := [], alts := [], laidByText := true, laidKinds := [.data, .data, .data, .data, .sentinel, .sentinel, .data, .pinned], laidTests := true, laidLooks := .later }
def AddressBytesCardSaid : Prop := Claim7.holds Tryd.pinned (.plain (OpenSpec.ofChange addressBytesSpec)) addressBytesCard

/-- THE SECOND FORM's CARD OF 'wharflaw09.AddressParses'. -/
def addressParsesUptoCard : Claim7 := { stood := { row := addressParsesUptoRow, standIns := [], harness := (true, "d2ddf82b71d0713620d6b2c56e34050306661307bc4319bc3c65ba2fac9d4134"), looks := true }, kinds := [], alts := [], laidByText := true, laidKinds := [.data, .data, .data, .data, .sentinel, .sentinel, .data, .pinned], laidTests := true, laidLooks := .later }
def AddressParsesUptoCardSaid : Prop := Claim7.holds Tryd.pinned (.plain (OpenSpec.upto addressParsesSpec)) addressParsesUptoCard

/-- THE SECOND FORM's CARD OF 'wharflaw09.AddressHosts'. -/
def addressHostsUptoCard : Claim7 := { stood := { row := addressHostsUptoRow, standIns := [], harness := (true, "d2ddf82b71d0713620d6b2c56e34050306661307bc4319bc3c65ba2fac9d4134"), looks := true }, kinds := [], alts := [], laidByText := true, laidKinds := [.data, .data, .data, .data, .sentinel, .sentinel, .data, .pinned], laidTests := true, laidLooks := .later }
def AddressHostsUptoCardSaid : Prop := Claim7.holds Tryd.pinned (.plain (OpenSpec.upto addressHostsSpec)) addressHostsUptoCard

/-- THE SECOND FORM's CARD OF 'wharflaw09.AddressBytes'. -/
def addressBytesUptoCard : Claim7 := { stood := { row := addressBytesUptoRow, standIns := [], harness := (true, "d2ddf82b71d0713620d6b2c56e34050306661307bc4319bc3c65ba2fac9d4134"), looks := true }, kinds := [], alts := [], laidByText := true, laidKinds := [.data, .data, .data, .data, .sentinel, .sentinel, .data, .pinned], laidTests := true, laidLooks := .later }
def AddressBytesUptoCardSaid : Prop := Claim7.holds Tryd.pinned (.plain (OpenSpec.upto addressBytesSpec)) addressBytesUptoCard
end Rows
end Go.Proofs.YtemeeeiglifpaaaDoor
