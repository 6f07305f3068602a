/-
  DERIVED. GIVEN WITH THE SEED: THE CARDS: each row of YtciibcfmlhbnkaaGreatDoorRows.lean that lists a variable, with what it lists TIED to the program's text (the seventh form; the later family's looks); each row that meets fmt, with fmt's text TOLD by the authors' own Lean function (tested against real Go, not proved from fmt's source: count such statements apart). THE CARD IS WHAT COUNTS. Prove the row's statement (the work); the ties are given (YtciibcfmlhbnkaaGreatDoorTie.lean); close each card by the builder's one call (the guide's Derived/Test/ToyasCard.lean, 'card_holds'). Laid BY PROGRAM, IN A SANDBOX (cutbox-door.mjs). By AI agents, Wed Nov 11 2026. No macro, syntax, notation, axiom, sorry.
-/
import Derived.Test.YtciibcfmlhbnkaaGreatDoorRows
import GoSem.ClaimSeven
namespace Go.Proofs.YtciibcfmlhbnkaaGreatDoor
namespace Rows

/-- THE TIED CARD OF 'proctorlaw1.ValueExact'. -/
def valueExactCard : Claim7 := { stood := { row := valueExactRow, standIns := [], harness := (true, "82c33d33e354d70ce1e662fde025a9aa017742fc233053dbc0cecc59e4787826"), looks := false }, kinds := [], alts := [], laidByText := true, laidKinds := [.data, .data, .data], laidTests := true, laidLooks := .later }
def ValueExactCardSaid : Prop := Claim7.holds Tryz.pinned (.plain (OpenSpec.ofChange valueExactSpec)) valueExactCard

/-- THE TIED CARD OF 'proctorlaw1.ValueApplies'. -/
def valueAppliesCard : Claim7 := { stood := { row := valueAppliesRow, standIns := [], harness := (true, "82c33d33e354d70ce1e662fde025a9aa017742fc233053dbc0cecc59e4787826"), looks := false }, kinds := [], alts := [], laidByText := true, laidKinds := [.data, .data, .data], laidTests := true, laidLooks := .later }
def ValueAppliesCardSaid : Prop := Claim7.holds Tryz.pinned (.plain (OpenSpec.ofChange valueAppliesSpec)) valueAppliesCard

/-- THE TIED CARD OF 'proctorlaw1.ValueGathers'. -/
def valueGathersCard : Claim7 := { stood := { row := valueGathersRow, standIns := [], harness := (true, "82c33d33e354d70ce1e662fde025a9aa017742fc233053dbc0cecc59e4787826"), looks := false }, kinds := [], alts := [], laidByText := true, laidKinds := [.data, .data, .data], laidTests := true, laidLooks := .later }
def ValueGathersCardSaid : Prop := Claim7.holds Tryz.pinned (.plain (OpenSpec.ofChange valueGathersSpec)) valueGathersCard

/-- THE TIED CARD OF 'proctorlaw1.ValueCodes'. -/
def valueCodesCard : Claim7 := { stood := { row := valueCodesRow, standIns := [], harness := (true, "82c33d33e354d70ce1e662fde025a9aa017742fc233053dbc0cecc59e4787826"), looks := false }, kinds := [], alts := [], laidByText := true, laidKinds := [.data, .data, .data], laidTests := true, laidLooks := .later }
def ValueCodesCardSaid : Prop := Claim7.holds Tryz.pinned (.plain (OpenSpec.ofChange valueCodesSpec)) valueCodesCard

/-- THE TIED CARD OF 'proctorlaw1.ValueNumbers'. -/
def valueNumbersCard : Claim7 := { stood := { row := valueNumbersRow, standIns := [], harness := (true, "82c33d33e354d70ce1e662fde025a9aa017742fc233053dbc0cecc59e4787826"), looks := false }, kinds := [], alts := [], laidByText := true, laidKinds := [.data, .data, .data], laidTests := true, laidLooks := .later }
def ValueNumbersCardSaid : Prop := Claim7.holds Tryz.pinned (.plain (OpenSpec.ofChange valueNumbersSpec)) valueNumbersCard

/-- THE SECOND FORM's CARD OF 'proctorlaw1.ValueExact'. -/
def valueExactUptoCard : Claim7 := { stood := { row := valueExactUptoRow, standIns := [], harness := (true, "82c33d33e354d70ce1e662fde025a9aa017742fc233053dbc0cecc59e4787826"), looks := false }, kinds := [], alts := [], laidByText := true, laidKinds := [.data, .data, .data], laidTests := true, laidLooks := .later }
def ValueExactUptoCardSaid : Prop := Claim7.holds Tryz.pinned (.plain (OpenSpec.upto valueExactSpec)) valueExactUptoCard

/-- THE SECOND FORM's CARD OF 'proctorlaw1.ValueApplies'. -/
def valueAppliesUptoCard : Claim7 := { stood := { row := valueAppliesUptoRow, standIns := [], harness := (true, "82c33d33e354d70ce1e662fde025a9aa017742fc233053dbc0cecc59e4787826"), looks := false }, kinds := [], alts := [], laidByText := true, laidKinds := [.data, .data, .data], laidTests := true, laidLooks := .later }
def ValueAppliesUptoCardSaid : Prop := Claim7.holds Tryz.pinned (.plain (OpenSpec.upto valueAppliesSpec)) valueAppliesUptoCard

/-- THE SECOND FORM's CARD OF 'proctorlaw1.ValueGathers'. -/
def valueGathersUptoCard : Claim7 := { stood := { row := valueGathersUptoRow, standIns := [], harness := (true, "82c33d33e354d70ce1e662fde025a9aa017742fc233053dbc0cecc59e4787826"), looks := false }, kinds := [], alts := [], laidByText := true, laidKinds := [.data, .data, .data], laidTests := true, laidLooks := .later }
def ValueGathersUptoCardSaid : Prop := Claim7.holds Tryz.pinned (.plain (OpenSpec.upto valueGathersSpec)) valueGathersUptoCard

/-- THE SECOND FORM's CARD OF 'proctorlaw1.ValueCodes'. -/
def valueCodesUptoCard : Claim7 := { stood := { row := valueCodesUptoRow, standIns := [], harness := (true, "82c33d33e354d70ce1e662fde025a9aa017742fc233053dbc0cecc59e4787826"), looks := false }, kinds := [], alts := [], laidByText := true, laidKinds := [.data, .data, .data], laidTests := true, laidLooks := .later }
def ValueCodesUptoCardSaid : Prop := Claim7.holds Tryz.pinned (.plain (OpenSpec.upto valueCodesSpec)) valueCodesUptoCard

/-- THE SECOND FORM's CARD OF 'proctorlaw1.ValueNumbers'. -/
def valueNumbersUptoCard : Claim7 := { stood := { row := valueNumbersUptoRow, standIns := [], harness := (true, "82c33d33e354d70ce1e662fde025a9aa017742fc233053dbc0cecc59e4787826"), looks := false }, kinds := [], alts := [], laidByText := true, laidKinds := [.data, .data, .data], laidTests := true, laidLooks := .later }
def ValueNumbersUptoCardSaid : Prop := Claim7.holds Tryz.pinned (.plain (OpenSpec.upto valueNumbersSpec)) valueNumbersUptoCard
end Rows
end Go.Proofs.YtciibcfmlhbnkaaGreatDoor
