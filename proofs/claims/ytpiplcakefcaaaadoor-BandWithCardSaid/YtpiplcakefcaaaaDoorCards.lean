/-
  DERIVED. GIVEN WITH THE SEED: THE CARDS: each row of YtpiplcakefcaaaaDoorRows.lean that lists a variable, with what it lists TIED to the program's text (the seventh form; the later family's looks); each row that meets fmt, with fmt's text TOLD by the authors' own Lean function (tested against real Go, not proved from fmt's source: count such statements apart). THE CARD IS WHAT COUNTS. Prove the row's statement (the work); the ties are given (YtpiplcakefcaaaaDoorTie.lean); close each card by the builder's one call (the guide's Derived/Test/ToyasCard.lean, 'card_holds'). Laid BY PROGRAM, IN A SANDBOX (cutbox-door.mjs). By AI agents, Wed Nov 11 2026. No macro, syntax, notation, axiom, sorry.
-/
import Derived.Test.YtpiplcakefcaaaaDoorRows
import GoSem.ClaimSeven
namespace Go.Proofs.YtpiplcakefcaaaaDoor
namespace Rows

/-- THE TIED CARD OF 'thatchlaw16.BatchCodes'. -/
def batchCodesCard : Claim7 := { stood := { row := batchCodesRow, standIns := [], harness := (true, "4f7af2466b0ada18107f80ab99179863d571efbc1f09fff90c9ee5f1f2be9d6a"), looks := false }, kinds := [], alts := [], laidByText := true, laidKinds := [.data], laidTests := true, laidLooks := .later }
def BatchCodesCardSaid : Prop := Claim7.holds Tryd.pinned (.plain (OpenSpec.ofChange batchCodesSpec)) batchCodesCard

/-- THE TIED CARD OF 'thatchlaw16.BatchReads'. -/
def batchReadsCard : Claim7 := { stood := { row := batchReadsRow, standIns := [], harness := (true, "4f7af2466b0ada18107f80ab99179863d571efbc1f09fff90c9ee5f1f2be9d6a"), looks := false }, kinds := [], alts := [], laidByText := true, laidKinds := [.data], laidTests := true, laidLooks := .later }
def BatchReadsCardSaid : Prop := Claim7.holds Tryd.pinned (.plain (OpenSpec.ofChange batchReadsSpec)) batchReadsCard

/-- THE TIED CARD OF 'thatchlaw16.BatchMeans'. -/
def batchMeansCard : Claim7 := { stood := { row := batchMeansRow, standIns := [], harness := (true, "4f7af2466b0ada18107f80ab99179863d571efbc1f09fff90c9ee5f1f2be9d6a"), looks := false }, kinds := [], alts := [], laidByText := true, laidKinds := [.data], laidTests := true, laidLooks := .later }
def BatchMeansCardSaid : Prop := Claim7.holds Tryd.pinned (.plain (OpenSpec.ofChange batchMeansSpec)) batchMeansCard

/-- THE TIED CARD OF 'thatchlaw16.BatchHoles'. -/
def batchHolesCard : Claim7 := { stood := { row := batchHolesRow, standIns := [], harness := (true, "4f7af2466b0ada18107f80ab99179863d571efbc1f09fff90c9ee5f1f2be9d6a"), looks := false }, kinds := [], alts := [], laidByText := true, laidKinds := [.data], laidTests := true, laidLooks := .later }
def BatchHolesCardSaid : Prop := Claim7.holds Tryd.pinned (.plain (OpenSpec.ofChange batchHolesSpec)) batchHolesCard

/-- THE TIED CARD OF 'thatchlaw16.BatchSame'. -/
def batchSameCard : Claim7 := { stood := { row := batchSameRow, standIns := [], harness := (true, "4f7af2466b0ada18107f80ab99179863d571efbc1f09fff90c9ee5f1f2be9d6a"), looks := false }, kinds := [], alts := [], laidByText := true, laidKinds := [.data], laidTests := true, laidLooks := .later }
def BatchSameCardSaid : Prop := Claim7.holds Tryd.pinned (.plain (OpenSpec.ofChange batchSameSpec)) batchSameCard

/-- THE TIED CARD OF 'thatchlaw18.BandWith'. -/
def bandWithCard : Claim7 := { stood := { row := bandWithRow, standIns := [], harness := (true, "4f7af2466b0ada18107f80ab99179863d571efbc1f09fff90c9ee5f1f2be9d6a"), looks := false }, kinds := [], alts := [], laidByText := true, laidKinds := [.data], laidTests := true, laidLooks := .later }
def BandWithCardSaid : Prop := Claim7.holds Tryd.pinned (.plain (OpenSpec.ofChange bandWithSpec)) bandWithCard

/-- THE TIED CARD OF 'thatchlaw18.BandBlank'. -/
def bandBlankCard : Claim7 := { stood := { row := bandBlankRow, standIns := [], harness := (true, "4f7af2466b0ada18107f80ab99179863d571efbc1f09fff90c9ee5f1f2be9d6a"), looks := false }, kinds := [], alts := [], laidByText := true, laidKinds := [.data], laidTests := true, laidLooks := .later }
def BandBlankCardSaid : Prop := Claim7.holds Tryd.pinned (.plain (OpenSpec.ofChange bandBlankSpec)) bandBlankCard

/-- THE TIED CARD OF 'thatchlaw18.BandLast'. -/
def bandLastCard : Claim7 := { stood := { row := bandLastRow, standIns := [], harness := (true, "4f7af2466b0ada18107f80ab99179863d571efbc1f09fff90c9ee5f1f2be9d6a"), looks := false }, kinds := [], alts := [], laidByText := true, laidKinds := [.data], laidTests := true, laidLooks := .later }
def BandLastCardSaid : Prop := Claim7.holds Tryd.pinned (.plain (OpenSpec.ofChange bandLastSpec)) bandLastCard

/-- THE TIED CARD OF 'thatchlaw18.BandLabels'. -/
def bandLabelsCard : Claim7 := { stood := { row := bandLabelsRow, standIns := [], harness := (true, "4f7af2466b0ada18107f80ab99179863d571efbc1f09fff90c9ee5f1f2be9d6a"), looks := false }, kinds := [], alts := [], laidByText := true, laidKinds := [.data], laidTests := true, laidLooks := .later }
def BandLabelsCardSaid : Prop := Claim7.holds Tryd.pinned (.plain (OpenSpec.ofChange bandLabelsSpec)) bandLabelsCard

/-- THE TIED CARD OF 'thatchlaw18.BandReads'. -/
def bandReadsCard : Claim7 := { stood := { row := bandReadsRow, standIns := [], harness := (true, "4f7af2466b0ada18107f80ab99179863d571efbc1f09fff90c9ee5f1f2be9d6a"), looks := false }, kinds := [], alts := [], laidByText := true, laidKinds := [.data], laidTests := true, laidLooks := .later }
def BandReadsCardSaid : Prop := Claim7.holds Tryd.pinned (.plain (OpenSpec.ofChange bandReadsSpec)) bandReadsCard

/-- THE TIED CARD OF 'thatchlaw18.BandOf'. -/
def bandOfCard : Claim7 := { stood := { row := bandOfRow, standIns := [], harness := (true, "4f7af2466b0ada18107f80ab99179863d571efbc1f09fff90c9ee5f1f2be9d6a"), looks := false }, kinds := [], alts := [], laidByText := true, laidKinds := [.data], laidTests := true, laidLooks := .later }
def BandOfCardSaid : Prop := Claim7.holds Tryd.pinned (.plain (OpenSpec.ofChange bandOfSpec)) bandOfCard

/-- THE SECOND FORM's CARD OF 'thatchlaw16.BatchCodes'. -/
def batchCodesUptoCard : Claim7 := { stood := { row := batchCodesUptoRow, standIns := [], harness := (true, "4f7af2466b0ada18107f80ab99179863d571efbc1f09fff90c9ee5f1f2be9d6a"), looks := false }, kinds := [], alts := [], laidByText := true, laidKinds := [.data], laidTests := true, laidLooks := .later }
def BatchCodesUptoCardSaid : Prop := Claim7.holds Tryd.pinned (.plain (OpenSpec.upto batchCodesSpec)) batchCodesUptoCard

/-- THE SECOND FORM's CARD OF 'thatchlaw16.BatchReads'. -/
def batchReadsUptoCard : Claim7 := { stood := { row := batchReadsUptoRow, standIns := [], harness := (true, "4f7af2466b0ada18107f80ab99179863d571efbc1f09fff90c9ee5f1f2be9d6a"), looks := false }, kinds := [], alts := [], laidByText := true, laidKinds := [.data], laidTests := true, laidLooks := .later }
def BatchReadsUptoCardSaid : Prop := Claim7.holds Tryd.pinned (.plain (OpenSpec.upto batchReadsSpec)) batchReadsUptoCard

/-- THE SECOND FORM's CARD OF 'thatchlaw16.BatchMeans'. -/
def batchMeansUptoCard : Claim7 := { stood := { row := batchMeansUptoRow, standIns := [], harness := (true, "4f7af2466b0ada18107f80ab99179863d571efbc1f09fff90c9ee5f1f2be9d6a"), looks := false }, kinds := [], alts := [], laidByText := true, laidKinds := [.data], laidTests := true, laidLooks := .later }
def BatchMeansUptoCardSaid : Prop := Claim7.holds Tryd.pinned (.plain (OpenSpec.upto batchMeansSpec)) batchMeansUptoCard

/-- THE SECOND FORM's CARD OF 'thatchlaw16.BatchHoles'. -/
def batchHolesUptoCard : Claim7 := { stood := { row := batchHolesUptoRow, standIns := [], harness := (true, "4f7af2466b0ada18107f80ab99179863d571efbc1f09fff90c9ee5f1f2be9d6a"), looks := false }, kinds := [], alts := [], laidByText := true, laidKinds := [.data], laidTests := true, laidLooks := .later }
def BatchHolesUptoCardSaid : Prop := Claim7.holds Tryd.pinned (.plain (OpenSpec.upto batchHolesSpec)) batchHolesUptoCard

/-- THE SECOND FORM's CARD OF 'thatchlaw16.BatchSame'. -/
def batchSameUptoCard : Claim7 := { stood := { row := batchSameUptoRow, standIns := [], harness := (true, "4f7af2466b0ada18107f80ab99179863d571efbc1f09fff90c9ee5f1f2be9d6a"), looks := false }, kinds := [], alts := [], laidByText := true, laidKinds := [.data], laidTests := true, laidLooks := .later }
def BatchSameUptoCardSaid : Prop := Claim7.holds Tryd.pinned (.plain (OpenSpec.upto batchSameSpec)) batchSameUptoCard

/-- THE SECOND FORM's CARD OF 'thatchlaw18.BandWith'. -/
def bandWithUptoCard : Claim7 := { stood := { row := bandWithUptoRow, standIns := [], harness := (true, "4f7af2466b0ada18107f80ab99179863d571efbc1f09fff90c9ee5f1f2be9d6a"), looks := false }, kinds := [], alts := [], laidByText := true, laidKinds := [.data], laidTests := true, laidLooks := .later }
def BandWithUptoCardSaid : Prop := Claim7.holds Tryd.pinned (.plain (OpenSpec.upto bandWithSpec)) bandWithUptoCard

/-- THE SECOND FORM's CARD OF 'thatchlaw18.BandBlank'. -/
def bandBlankUptoCard : Claim7 := { stood := { row := bandBlankUptoRow, standIns := [], harness := (true, "4f7af2466b0ada18107f80ab99179863d571efbc1f09fff90c9ee5f1f2be9d6a"), looks := false }, kinds := [], alts := [], laidByText := true, laidKinds := [.data], laidTests := true, laidLooks := .later }
def BandBlankUptoCardSaid : Prop := Claim7.holds Tryd.pinned (.plain (OpenSpec.upto bandBlankSpec)) bandBlankUptoCard

/-- THE SECOND FORM's CARD OF 'thatchlaw18.BandLast'. -/
def bandLastUptoCard : Claim7 := { stood := { row := bandLastUptoRow, standIns := [], harness := (true, "4f7af2466b0ada18107f80ab99179863d571efbc1f09fff90c9ee5f1f2be9d6a"), looks := false }, kinds := [], alts := [], laidByText := true, laidKinds := [.data], laidTests := true, laidLooks := .later }
def BandLastUptoCardSaid : Prop := Claim7.holds Tryd.pinned (.plain (OpenSpec.upto bandLastSpec)) bandLastUptoCard

/-- THE SECOND FORM's CARD OF 'thatchlaw18.BandLabels'. -/
def bandLabelsUptoCard : Claim7 := { stood := { row := bandLabelsUptoRow, standIns := [], harness := (true, "4f7af2466b0ada18107f80ab99179863d571efbc1f09fff90c9ee5f1f2be9d6a"), looks := false }, kinds := [], alts := [], laidByText := true, laidKinds := [.data], laidTests := true, laidLooks := .later }
def BandLabelsUptoCardSaid : Prop := Claim7.holds Tryd.pinned (.plain (OpenSpec.upto bandLabelsSpec)) bandLabelsUptoCard

/-- THE SECOND FORM's CARD OF 'thatchlaw18.BandReads'. -/
def bandReadsUptoCard : Claim7 := { stood := { row := bandReadsUptoRow, standIns := [], harness := (true, "4f7af2466b0ada18107f80ab99179863d571efbc1f09fff90c9ee5f1f2be9d6a"), looks := false }, kinds := [], alts := [], laidByText := true, laidKinds := [.data], laidTests := true, laidLooks := .later }
def BandReadsUptoCardSaid : Prop := Claim7.holds Tryd.pinned (.plain (OpenSpec.upto bandReadsSpec)) bandReadsUptoCard

/-- THE SECOND FORM's CARD OF 'thatchlaw18.BandOf'. -/
def bandOfUptoCard : Claim7 := { stood := { row := bandOfUptoRow, standIns := [], harness := (true, "4f7af2466b0ada18107f80ab99179863d571efbc1f09fff90c9ee5f1f2be9d6a"), looks := false }, kinds := [], alts := [], laidByText := true, laidKinds := [.data], laidTests := true, laidLooks := .later }
def BandOfUptoCardSaid : Prop := Claim7.holds Tryd.pinned (.plain (OpenSpec.upto bandOfSpec)) bandOfUptoCard
end Rows
end Go.Proofs.YtpiplcakefcaaaaDoor
