/-
  DERIVED. GIVEN WITH THE SEED: THE CARDS: each row of YtdcppcoldaaldaaGreatDoorRows.lean that lists a variable, with what it lists TIED to the program's text (the seventh form; the later family's looks); each row that meets fmt, with fmt's text TOLD by the authors' own Lean function (tested against real Go, not proved from fmt's source: count such statements apart). THE CARD IS WHAT COUNTS. Prove the row's statement (the work); the ties are given (YtdcppcoldaaldaaGreatDoorTie.lean); close each card by the builder's one call (the guide's Derived/Test/ToyasCard.lean, 'card_holds'). Laid BY PROGRAM, IN A SANDBOX (cutbox-door.mjs). By AI agents, Wed Nov 11 2026. No macro, syntax, notation, axiom, sorry.
-/
import Derived.Test.YtdcppcoldaaldaaGreatDoorRows
import GoSem.ClaimSeven
namespace Go.Proofs.YtdcppcoldaaldaaGreatDoor
namespace Rows

/-- THE TIED CARD OF 'wharflaw13.DataMatchesReference'. -/
def dataMatchesReferenceCard : Claim7 := { stood := { row := dataMatchesReferenceRow, standIns := [], harness := (true, "72244c8c5e0489e91d0cab82108911205a954c8fb5dd71b4abe55c60ec1fe072"), looks := true }, kinds := [], alts := [], laidByText := true, laidKinds := [.handle], laidTests := true, laidLooks := .later }
def DataMatchesReferenceCardSaid : Prop := Claim7.holds Tryz.pinned (.plain (OpenSpec.ofChange dataMatchesReferenceSpec)) dataMatchesReferenceCard

/-- THE TIED CARD OF 'wharflaw13.DataJoins'. -/
def dataJoinsCard : Claim7 := { stood := { row := dataJoinsRow, standIns := [], harness := (true, "72244c8c5e0489e91d0cab82108911205a954c8fb5dd71b4abe55c60ec1fe072"), looks := true }, kinds := [], alts := [], laidByText := true, laidKinds := [.handle], laidTests := true, laidLooks := .later }
def DataJoinsCardSaid : Prop := Claim7.holds Tryz.pinned (.plain (OpenSpec.ofChange dataJoinsSpec)) dataJoinsCard

/-- THE TIED CARD OF 'wharflaw14.SackMatchesReference'. -/
def sackMatchesReferenceCard : Claim7 := { stood := { row := sackMatchesReferenceRow, standIns := [], harness := (true, "72244c8c5e0489e91d0cab82108911205a954c8fb5dd71b4abe55c60ec1fe072"), looks := true }, kinds := [], alts := [], laidByText := true, laidKinds := [.handle], laidTests := true, laidLooks := .later }
def SackMatchesReferenceCardSaid : Prop := Claim7.holds Tryz.pinned (.plain (OpenSpec.ofChange sackMatchesReferenceSpec)) sackMatchesReferenceCard

/-- THE TIED CARD OF 'wharflaw14.SackChunks'. -/
def sackChunksCard : Claim7 := { stood := { row := sackChunksRow, standIns := [], harness := (true, "72244c8c5e0489e91d0cab82108911205a954c8fb5dd71b4abe55c60ec1fe072"), looks := true }, kinds := [], alts := [], laidByText := true, laidKinds := [.handle], laidTests := true, laidLooks := .later }
def SackChunksCardSaid : Prop := Claim7.holds Tryz.pinned (.plain (OpenSpec.ofChange sackChunksSpec)) sackChunksCard

/-- THE TIED CARD OF 'wharflaw14.SackCovers'. -/
def sackCoversCard : Claim7 := { stood := { row := sackCoversRow, standIns := [], harness := (true, "72244c8c5e0489e91d0cab82108911205a954c8fb5dd71b4abe55c60ec1fe072"), looks := true }, kinds := [], alts := [], laidByText := true, laidKinds := [.handle], laidTests := true, laidLooks := .later }
def SackCoversCardSaid : Prop := Claim7.holds Tryz.pinned (.plain (OpenSpec.ofChange sackCoversSpec)) sackCoversCard

/-- THE TIED CARD OF 'wharflaw14.SackBuilds'. -/
def sackBuildsCard : Claim7 := { stood := { row := sackBuildsRow, standIns := [], harness := (true, "72244c8c5e0489e91d0cab82108911205a954c8fb5dd71b4abe55c60ec1fe072"), looks := true }, kinds := [], alts := [], laidByText := true, laidKinds := [.handle], laidTests := true, laidLooks := .later }
def SackBuildsCardSaid : Prop := Claim7.holds Tryz.pinned (.plain (OpenSpec.ofChange sackBuildsSpec)) sackBuildsCard

/-- THE TIED CARD OF 'wharflaw14.SackTells'. -/
def sackTellsCard : Claim7 := { stood := { row := sackTellsRow, standIns := [], harness := (true, "72244c8c5e0489e91d0cab82108911205a954c8fb5dd71b4abe55c60ec1fe072"), looks := true }, kinds := [], alts := [], laidByText := true, laidKinds := [.handle], laidTests := true, laidLooks := .later }
def SackTellsCardSaid : Prop := Claim7.holds Tryz.pinned (.plain (OpenSpec.ofChange sackTellsSpec)) sackTellsCard

/-- THE TIED CARD OF 'wharflaw15.InitialMatchesReference'. -/
def initialMatchesReferenceCard : Claim7 := { stood := { row := initialMatchesReferenceRow, standIns := [], harness := (true, "72244c8c5e0489e91d0cab82108911205a954c8fb5dd71b4abe55c60ec1fe072"), looks := true }, kinds := [], alts := [], laidByText := true, laidKinds := [.handle], laidTests := true, laidLooks := .later }
def InitialMatchesReferenceCardSaid : Prop := Claim7.holds Tryz.pinned (.plain (OpenSpec.ofChange initialMatchesReferenceSpec)) initialMatchesReferenceCard

/-- THE TIED CARD OF 'wharflaw15.InitialChunks'. -/
def initialChunksCard : Claim7 := { stood := { row := initialChunksRow, standIns := [], harness := (true, "72244c8c5e0489e91d0cab82108911205a954c8fb5dd71b4abe55c60ec1fe072"), looks := true }, kinds := [], alts := [], laidByText := true, laidKinds := [.handle], laidTests := true, laidLooks := .later }
def InitialChunksCardSaid : Prop := Claim7.holds Tryz.pinned (.plain (OpenSpec.ofChange initialChunksSpec)) initialChunksCard

/-- THE TIED CARD OF 'wharflaw15.InitialCookies'. -/
def initialCookiesCard : Claim7 := { stood := { row := initialCookiesRow, standIns := [], harness := (true, "72244c8c5e0489e91d0cab82108911205a954c8fb5dd71b4abe55c60ec1fe072"), looks := true }, kinds := [], alts := [], laidByText := true, laidKinds := [.handle], laidTests := true, laidLooks := .later }
def InitialCookiesCardSaid : Prop := Claim7.holds Tryz.pinned (.plain (OpenSpec.ofChange initialCookiesSpec)) initialCookiesCard

/-- THE TIED CARD OF 'wharflaw15.InitialParams'. -/
def initialParamsCard : Claim7 := { stood := { row := initialParamsRow, standIns := [], harness := (true, "72244c8c5e0489e91d0cab82108911205a954c8fb5dd71b4abe55c60ec1fe072"), looks := true }, kinds := [], alts := [], laidByText := true, laidKinds := [.handle], laidTests := true, laidLooks := .later }
def InitialParamsCardSaid : Prop := Claim7.holds Tryz.pinned (.plain (OpenSpec.ofChange initialParamsSpec)) initialParamsCard

/-- THE TIED CARD OF 'wharflaw15.InitialStreams'. -/
def initialStreamsCard : Claim7 := { stood := { row := initialStreamsRow, standIns := [], harness := (true, "72244c8c5e0489e91d0cab82108911205a954c8fb5dd71b4abe55c60ec1fe072"), looks := true }, kinds := [], alts := [], laidByText := true, laidKinds := [.handle], laidTests := true, laidLooks := .later }
def InitialStreamsCardSaid : Prop := Claim7.holds Tryz.pinned (.plain (OpenSpec.ofChange initialStreamsSpec)) initialStreamsCard

/-- THE SECOND FORM's CARD OF 'wharflaw13.DataMatchesReference'. -/
def dataMatchesReferenceUptoCard : Claim7 := { stood := { row := dataMatchesReferenceUptoRow, standIns := [], harness := (true, "72244c8c5e0489e91d0cab82108911205a954c8fb5dd71b4abe55c60ec1fe072"), looks := true }, kinds := [], alts := [], laidByText := true, laidKinds := [.handle], laidTests := true, laidLooks := .later }
def DataMatchesReferenceUptoCardSaid : Prop := Claim7.holds Tryz.pinned (.plain (OpenSpec.upto dataMatchesReferenceSpec)) dataMatchesReferenceUptoCard

/-- THE SECOND FORM's CARD OF 'wharflaw13.DataJoins'. -/
def dataJoinsUptoCard : Claim7 := { stood := { row := dataJoinsUptoRow, standIns := [], harness := (true, "72244c8c5e0489e91d0cab82108911205a954c8fb5dd71b4abe55c60ec1fe072"), looks := true }, kinds := [], alts := [], laidByText := true, laidKinds := [.handle], laidTests := true, laidLooks := .later }
def DataJoinsUptoCardSaid : Prop := Claim7.holds Tryz.pinned (.plain (OpenSpec.upto dataJoinsSpec)) dataJoinsUptoCard

/-- THE SECOND FORM's CARD OF 'wharflaw14.SackMatchesReference'. -/
def sackMatchesReferenceUptoCard : Claim7 := { stood := { row := sackMatchesReferenceUptoRow, standIns := [], harness := (true, "72244c8c5e0489e91d0cab82108911205a954c8fb5dd71b4abe55c60ec1fe072"), looks := true }, kinds := [], alts := [], laidByText := true, laidKinds := [.handle], laidTests := true, laidLooks := .later }
def SackMatchesReferenceUptoCardSaid : Prop := Claim7.holds Tryz.pinned (.plain (OpenSpec.upto sackMatchesReferenceSpec)) sackMatchesReferenceUptoCard

/-- THE SECOND FORM's CARD OF 'wharflaw14.SackChunks'. -/
def sackChunksUptoCard : Claim7 := { stood := { row := sackChunksUptoRow, standIns := [], harness := (true, "72244c8c5e0489e91d0cab82108911205a954c8fb5dd71b4abe55c60ec1fe072"), looks := true }, kinds := [], alts := [], laidByText := true, laidKinds := [.handle], laidTests := true, laidLooks := .later }
def SackChunksUptoCardSaid : Prop := Claim7.holds Tryz.pinned (.plain (OpenSpec.upto sackChunksSpec)) sackChunksUptoCard

/-- THE SECOND FORM's CARD OF 'wharflaw14.SackCovers'. -/
def sackCoversUptoCard : Claim7 := { stood := { row := sackCoversUptoRow, standIns := [], harness := (true, "72244c8c5e0489e91d0cab82108911205a954c8fb5dd71b4abe55c60ec1fe072"), looks := true }, kinds := [], alts := [], laidByText := true, laidKinds := [.handle], laidTests := true, laidLooks := .later }
def SackCoversUptoCardSaid : Prop := Claim7.holds Tryz.pinned (.plain (OpenSpec.upto sackCoversSpec)) sackCoversUptoCard

/-- THE SECOND FORM's CARD OF 'wharflaw14.SackBuilds'. -/
def sackBuildsUptoCard : Claim7 := { stood := { row := sackBuildsUptoRow, standIns := [], harness := (true, "72244c8c5e0489e91d0cab82108911205a954c8fb5dd71b4abe55c60ec1fe072"), looks := true }, kinds := [], alts := [], laidByText := true, laidKinds := [.handle], laidTests := true, laidLooks := .later }
def SackBuildsUptoCardSaid : Prop := Claim7.holds Tryz.pinned (.plain (OpenSpec.upto sackBuildsSpec)) sackBuildsUptoCard

/-- THE SECOND FORM's CARD OF 'wharflaw14.SackTells'. -/
def sackTellsUptoCard : Claim7 := { stood := { row := sackTellsUptoRow, standIns := [], harness := (true, "72244c8c5e0489e91d0cab82108911205a954c8fb5dd71b4abe55c60ec1fe072"), looks := true }, kinds := [], alts := [], laidByText := true, laidKinds := [.handle], laidTests := true, laidLooks := .later }
def SackTellsUptoCardSaid : Prop := Claim7.holds Tryz.pinned (.plain (OpenSpec.upto sackTellsSpec)) sackTellsUptoCard

/-- THE SECOND FORM's CARD OF 'wharflaw15.InitialMatchesReference'. -/
def initialMatchesReferenceUptoCard : Claim7 := { stood := { row := initialMatchesReferenceUptoRow, standIns := [], harness := (true, "72244c8c5e0489e91d0cab82108911205a954c8fb5dd71b4abe55c60ec1fe072"), looks := true }, kinds := [], alts := [], laidByText := true, laidKinds := [.handle], laidTests := true, laidLooks := .later }
def InitialMatchesReferenceUptoCardSaid : Prop := Claim7.holds Tryz.pinned (.plain (OpenSpec.upto initialMatchesReferenceSpec)) initialMatchesReferenceUptoCard

/-- THE SECOND FORM's CARD OF 'wharflaw15.InitialChunks'. -/
def initialChunksUptoCard : Claim7 := { stood := { row := initialChunksUptoRow, standIns := [], harness := (true, "72244c8c5e0489e91d0cab82108911205a954c8fb5dd71b4abe55c60ec1fe072"), looks := true }, kinds := [], alts := [], laidByText := true, laidKinds := [.handle], laidTests := true, laidLooks := .later }
def InitialChunksUptoCardSaid : Prop := Claim7.holds Tryz.pinned (.plain (OpenSpec.upto initialChunksSpec)) initialChunksUptoCard

/-- THE SECOND FORM's CARD OF 'wharflaw15.InitialCookies'. -/
def initialCookiesUptoCard : Claim7 := { stood := { row := initialCookiesUptoRow, standIns := [], harness := (true, "72244c8c5e0489e91d0cab82108911205a954c8fb5dd71b4abe55c60ec1fe072"), looks := true }, kinds := [], alts := [], laidByText := true, laidKinds := [.handle], laidTests := true, laidLooks := .later }
def InitialCookiesUptoCardSaid : Prop := Claim7.holds Tryz.pinned (.plain (OpenSpec.upto initialCookiesSpec)) initialCookiesUptoCard

/-- THE SECOND FORM's CARD OF 'wharflaw15.InitialParams'. -/
def initialParamsUptoCard : Claim7 := { stood := { row := initialParamsUptoRow, standIns := [], harness := (true, "72244c8c5e0489e91d0cab82108911205a954c8fb5dd71b4abe55c60ec1fe072"), looks := true }, kinds := [], alts := [], laidByText := true, laidKinds := [.handle], laidTests := true, laidLooks := .later }
def InitialParamsUptoCardSaid : Prop := Claim7.holds Tryz.pinned (.plain (OpenSpec.upto initialParamsSpec)) initialParamsUptoCard

/-- THE SECOND FORM's CARD OF 'wharflaw15.InitialStreams'. -/
def initialStreamsUptoCard : Claim7 := { stood := { row := initialStreamsUptoRow, standIns := [], harness := (true, "72244c8c5e0489e91d0cab82108911205a954c8fb5dd71b4abe55c60ec1fe072"), looks := true }, kinds := [], alts := [], laidByText := true, laidKinds := [.handle], laidTests := true, laidLooks := .later }
def InitialStreamsUptoCardSaid : Prop := Claim7.holds Tryz.pinned (.plain (OpenSpec.upto initialStreamsSpec)) initialStreamsUptoCard
end Rows
end Go.Proofs.YtdcppcoldaaldaaGreatDoor
