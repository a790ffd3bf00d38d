/-
  DERIVED. GIVEN WITH THE SEED: THE CARDS: each row of YteknmgmdmjmnmaaGreatDoorRows.lean that lists a variable, with what it lists TIED to the program's text (the seventh form; the later family's looks); each row that meets fmt, with fmt's text TOLD by the authors' own Lean function (tested against real Go, not proved from fmt's source: count such statements apart). THE CARD IS WHAT COUNTS. Prove the row's statement (the work); the ties are given (YteknmgmdmjmnmaaGreatDoorTie.lean); close each card by the builder's one call (the guide's Derived/Test/ToyasCard.lean, 'card_holds'). Laid BY PROGRAM, IN A SANDBOX (cutbox-door.mjs). By AI agents, Wed Nov 11 2026. No macro, syntax, notation, axiom, sorry.
-/
import Derived.Test.YteknmgmdmjmnmaaGreatDoorRows
import GoSem.ClaimSeven
namespace Go.Proofs.YteknmgmdmjmnmaaGreatDoor
namespace Rows

/-- THE TIED CARD OF 'wharflaw14.SackBuilds'. -/
def sackBuildsCard : Claim7 := { stood := { row := sackBuildsRow, standIns := [], harness := (true, "b8f908f4754f7edfc5aa188d4b98bc80e6fb90ad68b13c8179278a4908b40e2e"), looks := true }, kinds := [], alts := [], laidByText := true, laidKinds := [.handle], laidTests := true, laidLooks := .later }
def SackBuildsCardSaid : Prop := Claim7.holds Tryz.pinned (.plain (OpenSpec.ofChange sackBuildsSpec)) sackBuildsCard

/-- THE TIED CARD OF 'wharflaw14.SackTells'. -/
def sackTellsCard : Claim7 := { stood := { row := sackTellsRow, standIns := [], harness := (true, "b8f908f4754f7edfc5aa188d4b98bc80e6fb90ad68b13c8179278a4908b40e2e"), looks := true }, kinds := [], alts := [], laidByText := true, laidKinds := [.handle], laidTests := true, laidLooks := .later }
def SackTellsCardSaid : Prop := Claim7.holds Tryz.pinned (.plain (OpenSpec.ofChange sackTellsSpec)) sackTellsCard

/-- THE TIED CARD OF 'wharflaw16.ForwardMerges'. -/
def forwardMergesCard : Claim7 := { stood := { row := forwardMergesRow, standIns := [], harness := (true, "b8f908f4754f7edfc5aa188d4b98bc80e6fb90ad68b13c8179278a4908b40e2e"), looks := true }, kinds := [], alts := [], laidByText := true, laidKinds := [.handle], laidTests := true, laidLooks := .later }
def ForwardMergesCardSaid : Prop := Claim7.holds Tryz.pinned (.plain (OpenSpec.ofChange forwardMergesSpec)) forwardMergesCard

/-- THE TIED CARD OF 'wharflaw18.AsconfMatchesReference'. -/
def asconfMatchesReferenceCard : Claim7 := { stood := { row := asconfMatchesReferenceRow, standIns := [], harness := (true, "b8f908f4754f7edfc5aa188d4b98bc80e6fb90ad68b13c8179278a4908b40e2e"), looks := true }, kinds := [], alts := [], laidByText := true, laidKinds := [.handle, .data], laidTests := true, laidLooks := .later }
def AsconfMatchesReferenceCardSaid : Prop := Claim7.holds Tryz.pinned (.plain (OpenSpec.ofChange asconfMatchesReferenceSpec)) asconfMatchesReferenceCard

/-- THE TIED CARD OF 'wharflaw18.AsconfReads'. -/
def asconfReadsCard : Claim7 := { stood := { row := asconfReadsRow, standIns := [], harness := (true, "b8f908f4754f7edfc5aa188d4b98bc80e6fb90ad68b13c8179278a4908b40e2e"), looks := true }, kinds := [], alts := [], laidByText := true, laidKinds := [.handle, .data], laidTests := true, laidLooks := .later }
def AsconfReadsCardSaid : Prop := Claim7.holds Tryz.pinned (.plain (OpenSpec.ofChange asconfReadsSpec)) asconfReadsCard

/-- THE TIED CARD OF 'wharflaw18.AsconfRequests'. -/
def asconfRequestsCard : Claim7 := { stood := { row := asconfRequestsRow, standIns := [], harness := (true, "b8f908f4754f7edfc5aa188d4b98bc80e6fb90ad68b13c8179278a4908b40e2e"), looks := true }, kinds := [], alts := [], laidByText := true, laidKinds := [.handle, .data], laidTests := true, laidLooks := .later }
def AsconfRequestsCardSaid : Prop := Claim7.holds Tryz.pinned (.plain (OpenSpec.ofChange asconfRequestsSpec)) asconfRequestsCard

/-- THE TIED CARD OF 'wharflaw18.AsconfAnswers'. -/
def asconfAnswersCard : Claim7 := { stood := { row := asconfAnswersRow, standIns := [], harness := (true, "b8f908f4754f7edfc5aa188d4b98bc80e6fb90ad68b13c8179278a4908b40e2e"), looks := true }, kinds := [], alts := [], laidByText := true, laidKinds := [.handle, .data], laidTests := true, laidLooks := .later }
def AsconfAnswersCardSaid : Prop := Claim7.holds Tryz.pinned (.plain (OpenSpec.ofChange asconfAnswersSpec)) asconfAnswersCard

/-- THE TIED CARD OF 'wharflaw18.AsconfResults'. -/
def asconfResultsCard : Claim7 := { stood := { row := asconfResultsRow, standIns := [], harness := (true, "b8f908f4754f7edfc5aa188d4b98bc80e6fb90ad68b13c8179278a4908b40e2e"), looks := true }, kinds := [], alts := [], laidByText := true, laidKinds := [.handle, .data], laidTests := true, laidLooks := .later }
def AsconfResultsCardSaid : Prop := Claim7.holds Tryz.pinned (.plain (OpenSpec.ofChange asconfResultsSpec)) asconfResultsCard

/-- THE SECOND FORM's CARD OF 'wharflaw14.SackBuilds'. -/
def sackBuildsUptoCard : Claim7 := { stood := { row := sackBuildsUptoRow, standIns := [], harness := (true, "b8f908f4754f7edfc5aa188d4b98bc80e6fb90ad68b13c8179278a4908b40e2e"), looks := true }, kinds := [], alts := [], laidByText := true, laidKinds := [.handle], laidTests := true, laidLooks := .later }
def SackBuildsUptoCardSaid : Prop := Claim7.holds Tryz.pinned (.plain (OpenSpec.upto sackBuildsSpec)) sackBuildsUptoCard

/-- THE SECOND FORM's CARD OF 'wharflaw14.SackTells'. -/
def sackTellsUptoCard : Claim7 := { stood := { row := sackTellsUptoRow, standIns := [], harness := (true, "b8f908f4754f7edfc5aa188d4b98bc80e6fb90ad68b13c8179278a4908b40e2e"), looks := true }, kinds := [], alts := [], laidByText := true, laidKinds := [.handle], laidTests := true, laidLooks := .later }
def SackTellsUptoCardSaid : Prop := Claim7.holds Tryz.pinned (.plain (OpenSpec.upto sackTellsSpec)) sackTellsUptoCard

/-- THE SECOND FORM's CARD OF 'wharflaw16.ForwardMerges'. -/
def forwardMergesUptoCard : Claim7 := { stood := { row := forwardMergesUptoRow, standIns := [], harness := (true, "b8f908f4754f7edfc5aa188d4b98bc80e6fb90ad68b13c8179278a4908b40e2e"), looks := true }, kinds := [], alts := [], laidByText := true, laidKinds := [.handle], laidTests := true, laidLooks := .later }
def ForwardMergesUptoCardSaid : Prop := Claim7.holds Tryz.pinned (.plain (OpenSpec.upto forwardMergesSpec)) forwardMergesUptoCard

/-- THE SECOND FORM's CARD OF 'wharflaw18.AsconfMatchesReference'. -/
def asconfMatchesReferenceUptoCard : Claim7 := { stood := { row := asconfMatchesReferenceUptoRow, standIns := [], harness := (true, "b8f908f4754f7edfc5aa188d4b98bc80e6fb90ad68b13c8179278a4908b40e2e"), looks := true }, kinds := [], alts := [], laidByText := true, laidKinds := [.handle, .data], laidTests := true, laidLooks := .later }
def AsconfMatchesReferenceUptoCardSaid : Prop := Claim7.holds Tryz.pinned (.plain (OpenSpec.upto asconfMatchesReferenceSpec)) asconfMatchesReferenceUptoCard

/-- THE SECOND FORM's CARD OF 'wharflaw18.AsconfReads'. -/
def asconfReadsUptoCard : Claim7 := { stood := { row := asconfReadsUptoRow, standIns := [], harness := (true, "b8f908f4754f7edfc5aa188d4b98bc80e6fb90ad68b13c8179278a4908b40e2e"), looks := true }, kinds := [], alts := [], laidByText := true, laidKinds := [.handle, .data], laidTests := true, laidLooks := .later }
def AsconfReadsUptoCardSaid : Prop := Claim7.holds Tryz.pinned (.plain (OpenSpec.upto asconfReadsSpec)) asconfReadsUptoCard

/-- THE SECOND FORM's CARD OF 'wharflaw18.AsconfRequests'. -/
def asconfRequestsUptoCard : Claim7 := { stood := { row := asconfRequestsUptoRow, standIns := [], harness := (true, "b8f908f4754f7edfc5aa188d4b98bc80e6fb90ad68b13c8179278a4908b40e2e"), looks := true }, kinds := [], alts := [], laidByText := true, laidKinds := [.handle, .data], laidTests := true, laidLooks := .later }
def AsconfRequestsUptoCardSaid : Prop := Claim7.holds Tryz.pinned (.plain (OpenSpec.upto asconfRequestsSpec)) asconfRequestsUptoCard

/-- THE SECOND FORM's CARD OF 'wharflaw18.AsconfAnswers'. -/
def asconfAnswersUptoCard : Claim7 := { stood := { row := asconfAnswersUptoRow, standIns := [], harness := (true, "b8f908f4754f7edfc5aa188d4b98bc80e6fb90ad68b13c8179278a4908b40e2e"), looks := true }, kinds := [], alts := [], laidByText := true, laidKinds := [.handle, .data], laidTests := true, laidLooks := .later }
def AsconfAnswersUptoCardSaid : Prop := Claim7.holds Tryz.pinned (.plain (OpenSpec.upto asconfAnswersSpec)) asconfAnswersUptoCard

/-- THE SECOND FORM's CARD OF 'wharflaw18.AsconfResults'. -/
def asconfResultsUptoCard : Claim7 := { stood := { row := asconfResultsUptoRow, standIns := [], harness := (true, "b8f908f4754f7edfc5aa188d4b98bc80e6fb90ad68b13c8179278a4908b40e2e"), looks := true }, kinds := [], alts := [], laidByText := true, laidKinds := [.handle, .data], laidTests := true, laidLooks := .later }
def AsconfResultsUptoCardSaid : Prop := Claim7.holds Tryz.pinned (.plain (OpenSpec.upto asconfResultsSpec)) asconfResultsUptoCard
end Rows
end Go.Proofs.YteknmgmdmjmnmaaGreatDoor
