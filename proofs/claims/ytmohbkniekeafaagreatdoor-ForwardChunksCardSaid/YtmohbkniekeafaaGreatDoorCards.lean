/-
  DERIVED. GIVEN WITH THE SEED: THE CARDS: each row of YtmohbkniekeafaaGreatDoorRows.lean that lists a variable, with what it lists TIED to the program's text (the seventh form; the later family's looks); each row that meets fmt, with fmt's text TOLD by the authors' own Lean function (tested against real Go, not proved from fmt's source: count such statements apart). THE CARD IS WHAT COUNTS. Prove the row's statement (the work); the ties are given (YtmohbkniekeafaaGreatDoorTie.lean); close each card by the builder's one call (the guide's Derived/Test/ToyasCard.lean, 'card_holds'). Laid BY PROGRAM, IN A SANDBOX (cutbox-door.mjs). By AI agents, Wed Nov 11 2026. No macro, syntax, notation, axiom, sorry.
-/
import Derived.Test.YtmohbkniekeafaaGreatDoorRows
import GoSem.ClaimSeven
namespace Go.Proofs.YtmohbkniekeafaaGreatDoor
namespace Rows

/-- THE TIED CARD OF 'wharflaw14.SackBuilds'. -/
def sackBuildsCard : Claim7 := { stood := { row := sackBuildsRow, standIns := [], harness := (true, "27c0916cfaa2f5dd4087a1522c9c0023426bc5d71ce1e00d79e5329fe4325a0d"), looks := true }, kinds := [], alts := [], laidByText := true, laidKinds := [.handle], laidTests := true, laidLooks := .later }
def SackBuildsCardSaid : Prop := Claim7.holds Tryz.pinned (.plain (OpenSpec.ofChange sackBuildsSpec)) sackBuildsCard

/-- THE TIED CARD OF 'wharflaw14.SackTells'. -/
def sackTellsCard : Claim7 := { stood := { row := sackTellsRow, standIns := [], harness := (true, "27c0916cfaa2f5dd4087a1522c9c0023426bc5d71ce1e00d79e5329fe4325a0d"), looks := true }, kinds := [], alts := [], laidByText := true, laidKinds := [.handle], laidTests := true, laidLooks := .later }
def SackTellsCardSaid : Prop := Claim7.holds Tryz.pinned (.plain (OpenSpec.ofChange sackTellsSpec)) sackTellsCard

/-- THE TIED CARD OF 'wharflaw16.ForwardMatchesReference'. -/
def forwardMatchesReferenceCard : Claim7 := { stood := { row := forwardMatchesReferenceRow, standIns := [], harness := (true, "27c0916cfaa2f5dd4087a1522c9c0023426bc5d71ce1e00d79e5329fe4325a0d"), looks := true }, kinds := [], alts := [], laidByText := true, laidKinds := [.handle], laidTests := true, laidLooks := .later }
def ForwardMatchesReferenceCardSaid : Prop := Claim7.holds Tryz.pinned (.plain (OpenSpec.ofChange forwardMatchesReferenceSpec)) forwardMatchesReferenceCard

/-- THE TIED CARD OF 'wharflaw16.ForwardChunks'. -/
def forwardChunksCard : Claim7 := { stood := { row := forwardChunksRow, standIns := [], harness := (true, "27c0916cfaa2f5dd4087a1522c9c0023426bc5d71ce1e00d79e5329fe4325a0d"), looks := true }, kinds := [], alts := [], laidByText := true, laidKinds := [.handle], laidTests := true, laidLooks := .later }
def ForwardChunksCardSaid : Prop := Claim7.holds Tryz.pinned (.plain (OpenSpec.ofChange forwardChunksSpec)) forwardChunksCard

/-- THE TIED CARD OF 'wharflaw16.ForwardMerges'. -/
def forwardMergesCard : Claim7 := { stood := { row := forwardMergesRow, standIns := [], harness := (true, "27c0916cfaa2f5dd4087a1522c9c0023426bc5d71ce1e00d79e5329fe4325a0d"), looks := true }, kinds := [], alts := [], laidByText := true, laidKinds := [.handle], laidTests := true, laidLooks := .later }
def ForwardMergesCardSaid : Prop := Claim7.holds Tryz.pinned (.plain (OpenSpec.ofChange forwardMergesSpec)) forwardMergesCard

/-- THE TIED CARD OF 'wharflaw16.ForwardCompares'. -/
def forwardComparesCard : Claim7 := { stood := { row := forwardComparesRow, standIns := [], harness := (true, "27c0916cfaa2f5dd4087a1522c9c0023426bc5d71ce1e00d79e5329fe4325a0d"), looks := true }, kinds := [], alts := [], laidByText := true, laidKinds := [.handle], laidTests := true, laidLooks := .later }
def ForwardComparesCardSaid : Prop := Claim7.holds Tryz.pinned (.plain (OpenSpec.ofChange forwardComparesSpec)) forwardComparesCard

/-- THE TIED CARD OF 'wharflaw16.ForwardMost'. -/
def forwardMostCard : Claim7 := { stood := { row := forwardMostRow, standIns := [], harness := (true, "27c0916cfaa2f5dd4087a1522c9c0023426bc5d71ce1e00d79e5329fe4325a0d"), looks := true }, kinds := [], alts := [], laidByText := true, laidKinds := [.handle], laidTests := true, laidLooks := .later }
def ForwardMostCardSaid : Prop := Claim7.holds Tryz.pinned (.plain (OpenSpec.ofChange forwardMostSpec)) forwardMostCard

/-- THE TIED CARD OF 'wharflaw17.StreamMatchesReference'. -/
def streamMatchesReferenceCard : Claim7 := { stood := { row := streamMatchesReferenceRow, standIns := [], harness := (true, "27c0916cfaa2f5dd4087a1522c9c0023426bc5d71ce1e00d79e5329fe4325a0d"), looks := true }, kinds := [], alts := [], laidByText := true, laidKinds := [.handle], laidTests := true, laidLooks := .later }
def StreamMatchesReferenceCardSaid : Prop := Claim7.holds Tryz.pinned (.plain (OpenSpec.ofChange streamMatchesReferenceSpec)) streamMatchesReferenceCard

/-- THE TIED CARD OF 'wharflaw17.StreamReads'. -/
def streamReadsCard : Claim7 := { stood := { row := streamReadsRow, standIns := [], harness := (true, "27c0916cfaa2f5dd4087a1522c9c0023426bc5d71ce1e00d79e5329fe4325a0d"), looks := true }, kinds := [], alts := [], laidByText := true, laidKinds := [.handle], laidTests := true, laidLooks := .later }
def StreamReadsCardSaid : Prop := Claim7.holds Tryz.pinned (.plain (OpenSpec.ofChange streamReadsSpec)) streamReadsCard

/-- THE TIED CARD OF 'wharflaw17.StreamMakes'. -/
def streamMakesCard : Claim7 := { stood := { row := streamMakesRow, standIns := [], harness := (true, "27c0916cfaa2f5dd4087a1522c9c0023426bc5d71ce1e00d79e5329fe4325a0d"), looks := true }, kinds := [], alts := [], laidByText := true, laidKinds := [.handle], laidTests := true, laidLooks := .later }
def StreamMakesCardSaid : Prop := Claim7.holds Tryz.pinned (.plain (OpenSpec.ofChange streamMakesSpec)) streamMakesCard

/-- THE TIED CARD OF 'wharflaw17.StreamAnswers'. -/
def streamAnswersCard : Claim7 := { stood := { row := streamAnswersRow, standIns := [], harness := (true, "27c0916cfaa2f5dd4087a1522c9c0023426bc5d71ce1e00d79e5329fe4325a0d"), looks := true }, kinds := [], alts := [], laidByText := true, laidKinds := [.handle], laidTests := true, laidLooks := .later }
def StreamAnswersCardSaid : Prop := Claim7.holds Tryz.pinned (.plain (OpenSpec.ofChange streamAnswersSpec)) streamAnswersCard

/-- THE TIED CARD OF 'wharflaw17.StreamMore'. -/
def streamMoreCard : Claim7 := { stood := { row := streamMoreRow, standIns := [], harness := (true, "27c0916cfaa2f5dd4087a1522c9c0023426bc5d71ce1e00d79e5329fe4325a0d"), looks := true }, kinds := [], alts := [], laidByText := true, laidKinds := [.handle], laidTests := true, laidLooks := .later }
def StreamMoreCardSaid : Prop := Claim7.holds Tryz.pinned (.plain (OpenSpec.ofChange streamMoreSpec)) streamMoreCard

/-- THE SECOND FORM's CARD OF 'wharflaw14.SackBuilds'. -/
def sackBuildsUptoCard : Claim7 := { stood := { row := sackBuildsUptoRow, standIns := [], harness := (true, "27c0916cfaa2f5dd4087a1522c9c0023426bc5d71ce1e00d79e5329fe4325a0d"), looks := true }, kinds := [], alts := [], laidByText := true, laidKinds := [.handle], laidTests := true, laidLooks := .later }
def SackBuildsUptoCardSaid : Prop := Claim7.holds Tryz.pinned (.plain (OpenSpec.upto sackBuildsSpec)) sackBuildsUptoCard

/-- THE SECOND FORM's CARD OF 'wharflaw14.SackTells'. -/
def sackTellsUptoCard : Claim7 := { stood := { row := sackTellsUptoRow, standIns := [], harness := (true, "27c0916cfaa2f5dd4087a1522c9c0023426bc5d71ce1e00d79e5329fe4325a0d"), looks := true }, kinds := [], alts := [], laidByText := true, laidKinds := [.handle], laidTests := true, laidLooks := .later }
def SackTellsUptoCardSaid : Prop := Claim7.holds Tryz.pinned (.plain (OpenSpec.upto sackTellsSpec)) sackTellsUptoCard

/-- THE SECOND FORM's CARD OF 'wharflaw16.ForwardMatchesReference'. -/
def forwardMatchesReferenceUptoCard : Claim7 := { stood := { row := forwardMatchesReferenceUptoRow, standIns := [], harness := (true, "27c0916cfaa2f5dd4087a1522c9c0023426bc5d71ce1e00d79e5329fe4325a0d"), looks := true }, kinds := [], alts := [], laidByText := true, laidKinds := [.handle], laidTests := true, laidLooks := .later }
def ForwardMatchesReferenceUptoCardSaid : Prop := Claim7.holds Tryz.pinned (.plain (OpenSpec.upto forwardMatchesReferenceSpec)) forwardMatchesReferenceUptoCard

/-- THE SECOND FORM's CARD OF 'wharflaw16.ForwardChunks'. -/
def forwardChunksUptoCard : Claim7 := { stood := { row := forwardChunksUptoRow, standIns := [], harness := (true, "27c0916cfaa2f5dd4087a1522c9c0023426bc5d71ce1e00d79e5329fe4325a0d"), looks := true }, kinds := [], alts := [], laidByText := true, laidKinds := [.handle], laidTests := true, laidLooks := .later }
def ForwardChunksUptoCardSaid : Prop := Claim7.holds Tryz.pinned (.plain (OpenSpec.upto forwardChunksSpec)) forwardChunksUptoCard

/-- THE SECOND FORM's CARD OF 'wharflaw16.ForwardMerges'. -/
def forwardMergesUptoCard : Claim7 := { stood := { row := forwardMergesUptoRow, standIns := [], harness := (true, "27c0916cfaa2f5dd4087a1522c9c0023426bc5d71ce1e00d79e5329fe4325a0d"), looks := true }, kinds := [], alts := [], laidByText := true, laidKinds := [.handle], laidTests := true, laidLooks := .later }
def ForwardMergesUptoCardSaid : Prop := Claim7.holds Tryz.pinned (.plain (OpenSpec.upto forwardMergesSpec)) forwardMergesUptoCard

/-- THE SECOND FORM's CARD OF 'wharflaw16.ForwardCompares'. -/
def forwardComparesUptoCard : Claim7 := { stood := { row := forwardComparesUptoRow, standIns := [], harness := (true, "27c0916cfaa2f5dd4087a1522c9c0023426bc5d71ce1e00d79e5329fe4325a0d"), looks := true }, kinds := [], alts := [], laidByText := true, laidKinds := [.handle], laidTests := true, laidLooks := .later }
def ForwardComparesUptoCardSaid : Prop := Claim7.holds Tryz.pinned (.plain (OpenSpec.upto forwardComparesSpec)) forwardComparesUptoCard

/-- THE SECOND FORM's CARD OF 'wharflaw16.ForwardMost'. -/
def forwardMostUptoCard : Claim7 := { stood := { row := forwardMostUptoRow, standIns := [], harness := (true, "27c0916cfaa2f5dd4087a1522c9c0023426bc5d71ce1e00d79e5329fe4325a0d"), looks := true }, kinds := [], alts := [], laidByText := true, laidKinds := [.handle], laidTests := true, laidLooks := .later }
def ForwardMostUptoCardSaid : Prop := Claim7.holds Tryz.pinned (.plain (OpenSpec.upto forwardMostSpec)) forwardMostUptoCard

/-- THE SECOND FORM's CARD OF 'wharflaw17.StreamMatchesReference'. -/
def streamMatchesReferenceUptoCard : Claim7 := { stood := { row := streamMatchesReferenceUptoRow, standIns := [], harness := (true, "27c0916cfaa2f5dd4087a1522c9c0023426bc5d71ce1e00d79e5329fe4325a0d"), looks := true }, kinds := [], alts := [], laidByText := true, laidKinds := [.handle], laidTests := true, laidLooks := .later }
def StreamMatchesReferenceUptoCardSaid : Prop := Claim7.holds Tryz.pinned (.plain (OpenSpec.upto streamMatchesReferenceSpec)) streamMatchesReferenceUptoCard

/-- THE SECOND FORM's CARD OF 'wharflaw17.StreamReads'. -/
def streamReadsUptoCard : Claim7 := { stood := { row := streamReadsUptoRow, standIns := [], harness := (true, "27c0916cfaa2f5dd4087a1522c9c0023426bc5d71ce1e00d79e5329fe4325a0d"), looks := true }, kinds := [], alts := [], laidByText := true, laidKinds := [.handle], laidTests := true, laidLooks := .later }
def StreamReadsUptoCardSaid : Prop := Claim7.holds Tryz.pinned (.plain (OpenSpec.upto streamReadsSpec)) streamReadsUptoCard

/-- THE SECOND FORM's CARD OF 'wharflaw17.StreamMakes'. -/
def streamMakesUptoCard : Claim7 := { stood := { row := streamMakesUptoRow, standIns := [], harness := (true, "27c0916cfaa2f5dd4087a1522c9c0023426bc5d71ce1e00d79e5329fe4325a0d"), looks := true }, kinds := [], alts := [], laidByText := true, laidKinds := [.handle], laidTests := true, laidLooks := .later }
def StreamMakesUptoCardSaid : Prop := Claim7.holds Tryz.pinned (.plain (OpenSpec.upto streamMakesSpec)) streamMakesUptoCard

/-- THE SECOND FORM's CARD OF 'wharflaw17.StreamAnswers'. -/
def streamAnswersUptoCard : Claim7 := { stood := { row := streamAnswersUptoRow, standIns := [], harness := (true, "27c0916cfaa2f5dd4087a1522c9c0023426bc5d71ce1e00d79e5329fe4325a0d"), looks := true }, kinds := [], alts := [], laidByText := true, laidKinds := [.handle], laidTests := true, laidLooks := .later }
def StreamAnswersUptoCardSaid : Prop := Claim7.holds Tryz.pinned (.plain (OpenSpec.upto streamAnswersSpec)) streamAnswersUptoCard

/-- THE SECOND FORM's CARD OF 'wharflaw17.StreamMore'. -/
def streamMoreUptoCard : Claim7 := { stood := { row := streamMoreUptoRow, standIns := [], harness := (true, "27c0916cfaa2f5dd4087a1522c9c0023426bc5d71ce1e00d79e5329fe4325a0d"), looks := true }, kinds := [], alts := [], laidByText := true, laidKinds := [.handle], laidTests := true, laidLooks := .later }
def StreamMoreUptoCardSaid : Prop := Claim7.holds Tryz.pinned (.plain (OpenSpec.upto streamMoreSpec)) streamMoreUptoCard
end Rows
end Go.Proofs.YtmohbkniekeafaaGreatDoor
