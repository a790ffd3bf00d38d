/-
  DERIVED. GIVEN WITH THE SEED: THE CARDS: each row of YtgjmgphmakiffaaGreatDoorRows.lean that lists a variable, with what it lists TIED to the program's text (the seventh form; the later family's looks); each row that meets fmt, with fmt's text TOLD by the authors' own Lean function (tested against real Go, not proved from fmt's source: count such statements apart). THE CARD IS WHAT COUNTS. Prove the row's statement (the work); the ties are given (YtgjmgphmakiffaaGreatDoorTie.lean); close each card by the builder's one call (the guide's Derived/Test/ToyasCard.lean, 'card_holds'). Laid BY PROGRAM, IN A SANDBOX (cutbox-door.mjs). By AI agents, Wed Nov 11 2026. No macro, syntax, notation, axiom, sorry.
-/
import Derived.Test.YtgjmgphmakiffaaGreatDoorRows
import GoSem.ClaimSeven
namespace Go.Proofs.YtgjmgphmakiffaaGreatDoor
namespace Rows

/-- THE TIED CARD OF 'wharflaw13.DataMatchesReference'. -/
def dataMatchesReferenceCard : Claim7 := { stood := { row := dataMatchesReferenceRow, standIns := [], harness := (true, "1d8d4ebe34385d79d0fec9376a2b7550b415024a61b44b0dd513dd2eb7a918fa"), looks := true }, kinds := [], alts := [], laidByText := true, laidKinds := [.handle], laidTests := true, laidLooks := .later }
def DataMatchesReferenceCardSaid : Prop := Claim7.holds Tryz.pinned (.plain (OpenSpec.ofChange dataMatchesReferenceSpec)) dataMatchesReferenceCard

/-- THE TIED CARD OF 'wharflaw13.DataChunks'. -/
def dataChunksCard : Claim7 := { stood := { row := dataChunksRow, standIns := [], harness := (true, "1d8d4ebe34385d79d0fec9376a2b7550b415024a61b44b0dd513dd2eb7a918fa"), looks := true }, kinds := [], alts := [], laidByText := true, laidKinds := [.handle], laidTests := true, laidLooks := .later }
def DataChunksCardSaid : Prop := Claim7.holds Tryz.pinned (.plain (OpenSpec.ofChange dataChunksSpec)) dataChunksCard

/-- THE TIED CARD OF 'wharflaw13.DataSplits'. -/
def dataSplitsCard : Claim7 := { stood := { row := dataSplitsRow, standIns := [], harness := (true, "1d8d4ebe34385d79d0fec9376a2b7550b415024a61b44b0dd513dd2eb7a918fa"), looks := true }, kinds := [], alts := [], laidByText := true, laidKinds := [.handle], laidTests := true, laidLooks := .later }
def DataSplitsCardSaid : Prop := Claim7.holds Tryz.pinned (.plain (OpenSpec.ofChange dataSplitsSpec)) dataSplitsCard

/-- THE TIED CARD OF 'wharflaw13.DataJoins'. -/
def dataJoinsCard : Claim7 := { stood := { row := dataJoinsRow, standIns := [], harness := (true, "1d8d4ebe34385d79d0fec9376a2b7550b415024a61b44b0dd513dd2eb7a918fa"), looks := true }, kinds := [], alts := [], laidByText := true, laidKinds := [.handle], laidTests := true, laidLooks := .later }
def DataJoinsCardSaid : Prop := Claim7.holds Tryz.pinned (.plain (OpenSpec.ofChange dataJoinsSpec)) dataJoinsCard

/-- THE TIED CARD OF 'wharflaw13.DataMost'. -/
def dataMostCard : Claim7 := { stood := { row := dataMostRow, standIns := [], harness := (true, "1d8d4ebe34385d79d0fec9376a2b7550b415024a61b44b0dd513dd2eb7a918fa"), looks := true }, kinds := [], alts := [], laidByText := true, laidKinds := [.handle], laidTests := true, laidLooks := .later }
def DataMostCardSaid : Prop := Claim7.holds Tryz.pinned (.plain (OpenSpec.ofChange dataMostSpec)) dataMostCard

/-- THE TIED CARD OF 'wharflaw14.SackMatchesReference'. -/
def sackMatchesReferenceCard : Claim7 := { stood := { row := sackMatchesReferenceRow, standIns := [], harness := (true, "1d8d4ebe34385d79d0fec9376a2b7550b415024a61b44b0dd513dd2eb7a918fa"), looks := true }, kinds := [], alts := [], laidByText := true, laidKinds := [.handle], laidTests := true, laidLooks := .later }
def SackMatchesReferenceCardSaid : Prop := Claim7.holds Tryz.pinned (.plain (OpenSpec.ofChange sackMatchesReferenceSpec)) sackMatchesReferenceCard

/-- THE TIED CARD OF 'wharflaw14.SackChunks'. -/
def sackChunksCard : Claim7 := { stood := { row := sackChunksRow, standIns := [], harness := (true, "1d8d4ebe34385d79d0fec9376a2b7550b415024a61b44b0dd513dd2eb7a918fa"), looks := true }, kinds := [], alts := [], laidByText := true, laidKinds := [.handle], laidTests := true, laidLooks := .later }
def SackChunksCardSaid : Prop := Claim7.holds Tryz.pinned (.plain (OpenSpec.ofChange sackChunksSpec)) sackChunksCard

/-- THE TIED CARD OF 'wharflaw14.SackCovers'. -/
def sackCoversCard : Claim7 := { stood := { row := sackCoversRow, standIns := [], harness := (true, "1d8d4ebe34385d79d0fec9376a2b7550b415024a61b44b0dd513dd2eb7a918fa"), looks := true }, kinds := [], alts := [], laidByText := true, laidKinds := [.handle], laidTests := true, laidLooks := .later }
def SackCoversCardSaid : Prop := Claim7.holds Tryz.pinned (.plain (OpenSpec.ofChange sackCoversSpec)) sackCoversCard

/-- THE TIED CARD OF 'wharflaw14.SackBuilds'. -/
def sackBuildsCard : Claim7 := { stood := { row := sackBuildsRow, standIns := [], harness := (true, "1d8d4ebe34385d79d0fec9376a2b7550b415024a61b44b0dd513dd2eb7a918fa"), looks := true }, kinds := [], alts := [], laidByText := true, laidKinds := [.handle], laidTests := true, laidLooks := .later }
def SackBuildsCardSaid : Prop := Claim7.holds Tryz.pinned (.plain (OpenSpec.ofChange sackBuildsSpec)) sackBuildsCard

/-- THE TIED CARD OF 'wharflaw14.SackTells'. -/
def sackTellsCard : Claim7 := { stood := { row := sackTellsRow, standIns := [], harness := (true, "1d8d4ebe34385d79d0fec9376a2b7550b415024a61b44b0dd513dd2eb7a918fa"), looks := true }, kinds := [], alts := [], laidByText := true, laidKinds := [.handle], laidTests := true, laidLooks := .later }
def SackTellsCardSaid : Prop := Claim7.holds Tryz.pinned (.plain (OpenSpec.ofChange sackTellsSpec)) sackTellsCard

/-- THE SECOND FORM's CARD OF 'wharflaw13.DataMatchesReference'. -/
def dataMatchesReferenceUptoCard : Claim7 := { stood := { row := dataMatchesReferenceUptoRow, standIns := [], harness := (true, "1d8d4ebe34385d79d0fec9376a2b7550b415024a61b44b0dd513dd2eb7a918fa"), looks := true }, kinds := [], alts := [], laidByText := true, laidKinds := [.handle], laidTests := true, laidLooks := .later }
def DataMatchesReferenceUptoCardSaid : Prop := Claim7.holds Tryz.pinned (.plain (OpenSpec.upto dataMatchesReferenceSpec)) dataMatchesReferenceUptoCard

/-- THE SECOND FORM's CARD OF 'wharflaw13.DataChunks'. -/
def dataChunksUptoCard : Claim7 := { stood := { row := dataChunksUptoRow, standIns := [], harness := (true, "1d8d4ebe34385d79d0fec9376a2b7550b415024a61b44b0dd513dd2eb7a918fa"), looks := true }, kinds := [], alts := [], laidByText := true, laidKinds := [.handle], laidTests := true, laidLooks := .later }
def DataChunksUptoCardSaid : Prop := Claim7.holds Tryz.pinned (.plain (OpenSpec.upto dataChunksSpec)) dataChunksUptoCard

/-- THE SECOND FORM's CARD OF 'wharflaw13.DataSplits'. -/
def dataSplitsUptoCard : Claim7 := { stood := { row := dataSplitsUptoRow, standIns := [], harness := (true, "1d8d4ebe34385d79d0fec9376a2b7550b415024a61b44b0dd513dd2eb7a918fa"), looks := true }, kinds := [], alts := [], laidByText := true, laidKinds := [.handle], laidTests := true, laidLooks := .later }
def DataSplitsUptoCardSaid : Prop := Claim7.holds Tryz.pinned (.plain (OpenSpec.upto dataSplitsSpec)) dataSplitsUptoCard

/-- THE SECOND FORM's CARD OF 'wharflaw13.DataJoins'. -/
def dataJoinsUptoCard : Claim7 := { stood := { row := dataJoinsUptoRow, standIns := [], harness := (true, "1d8d4ebe34385d79d0fec9376a2b7550b415024a61b44b0dd513dd2eb7a918fa"), looks := true }, kinds := [], alts := [], laidByText := true, laidKinds := [.handle], laidTests := true, laidLooks := .later }
def DataJoinsUptoCardSaid : Prop := Claim7.holds Tryz.pinned (.plain (OpenSpec.upto dataJoinsSpec)) dataJoinsUptoCard

/-- THE SECOND FORM's CARD OF 'wharflaw13.DataMost'. -/
def dataMostUptoCard : Claim7 := { stood := { row := dataMostUptoRow, standIns := [], harness := (true, "1d8d4ebe34385d79d0fec9376a2b7550b415024a61b44b0dd513dd2eb7a918fa"), looks := true }, kinds := [], alts := [], laidByText := true, laidKinds := [.handle], laidTests := true, laidLooks := .later }
def DataMostUptoCardSaid : Prop := Claim7.holds Tryz.pinned (.plain (OpenSpec.upto dataMostSpec)) dataMostUptoCard

/-- THE SECOND FORM's CARD OF 'wharflaw14.SackMatchesReference'. -/
def sackMatchesReferenceUptoCard : Claim7 := { stood := { row := sackMatchesReferenceUptoRow, standIns := [], harness := (true, "1d8d4ebe34385d79d0fec9376a2b7550b415024a61b44b0dd513dd2eb7a918fa"), looks := true }, kinds := [], alts := [], laidByText := true, laidKinds := [.handle], laidTests := true, laidLooks := .later }
def SackMatchesReferenceUptoCardSaid : Prop := Claim7.holds Tryz.pinned (.plain (OpenSpec.upto sackMatchesReferenceSpec)) sackMatchesReferenceUptoCard

/-- THE SECOND FORM's CARD OF 'wharflaw14.SackChunks'. -/
def sackChunksUptoCard : Claim7 := { stood := { row := sackChunksUptoRow, standIns := [], harness := (true, "1d8d4ebe34385d79d0fec9376a2b7550b415024a61b44b0dd513dd2eb7a918fa"), looks := true }, kinds := [], alts := [], laidByText := true, laidKinds := [.handle], laidTests := true, laidLooks := .later }
def SackChunksUptoCardSaid : Prop := Claim7.holds Tryz.pinned (.plain (OpenSpec.upto sackChunksSpec)) sackChunksUptoCard

/-- THE SECOND FORM's CARD OF 'wharflaw14.SackCovers'. -/
def sackCoversUptoCard : Claim7 := { stood := { row := sackCoversUptoRow, standIns := [], harness := (true, "1d8d4ebe34385d79d0fec9376a2b7550b415024a61b44b0dd513dd2eb7a918fa"), looks := true }, kinds := [], alts := [], laidByText := true, laidKinds := [.handle], laidTests := true, laidLooks := .later }
def SackCoversUptoCardSaid : Prop := Claim7.holds Tryz.pinned (.plain (OpenSpec.upto sackCoversSpec)) sackCoversUptoCard

/-- THE SECOND FORM's CARD OF 'wharflaw14.SackBuilds'. -/
def sackBuildsUptoCard : Claim7 := { stood := { row := sackBuildsUptoRow, standIns := [], harness := (true, "1d8d4ebe34385d79d0fec9376a2b7550b415024a61b44b0dd513dd2eb7a918fa"), looks := true }, kinds := [], alts := [], laidByText := true, laidKinds := [.handle], laidTests := true, laidLooks := .later }
def SackBuildsUptoCardSaid : Prop := Claim7.holds Tryz.pinned (.plain (OpenSpec.upto sackBuildsSpec)) sackBuildsUptoCard

/-- THE SECOND FORM's CARD OF 'wharflaw14.SackTells'. -/
def sackTellsUptoCard : Claim7 := { stood := { row := sackTellsUptoRow, standIns := [], harness := (true, "1d8d4ebe34385d79d0fec9376a2b7550b415024a61b44b0dd513dd2eb7a918fa"), looks := true }, kinds := [], alts := [], laidByText := true, laidKinds := [.handle], laidTests := true, laidLooks := .later }
def SackTellsUptoCardSaid : Prop := Claim7.holds Tryz.pinned (.plain (OpenSpec.upto sackTellsSpec)) sackTellsUptoCard
end Rows
end Go.Proofs.YtgjmgphmakiffaaGreatDoor
