/-
  DERIVED. GIVEN WITH THE SEED: THE CARDS: each row of YthhhmhgmmbfjhaaDoorRows.lean that lists a variable, with what it lists TIED to the program's text (the seventh form; the later family's looks); each row that meets fmt, with fmt's text TOLD by the authors' own Lean function (tested against real Go, not proved from fmt's source: count such statements apart). THE CARD IS WHAT COUNTS. Prove the row's statement (the work); the ties are given (YthhhmhgmmbfjhaaDoorTie.lean); close each card by the builder's one call (the guide's Derived/Test/ToyasCard.lean, 'card_holds'). Laid BY PROGRAM, IN A SANDBOX (cutbox-door.mjs). By AI agents, Wed Nov 11 2026. No macro, syntax, notation, axiom, sorry.
-/
import Derived.Test.YthhhmhgmmbfjhaaDoorRows
import GoSem.ClaimSeven
namespace Go.Proofs.YthhhmhgmmbfjhaaDoor
namespace Rows

/-- THE TIED CARD OF 'thatchlaw08.SuperCodes'. -/
def superCodesCard : Claim7 := { stood := { row := superCodesRow, standIns := [], harness := (true, "9e1900a6cbc25f9e082795bfdcf5d3bf5721e257d1771a9aff7ee18ecf590742"), looks := false }, kinds := [], alts := [], laidByText := true, laidKinds := [.data], laidTests := true, laidLooks := .later }
def SuperCodesCardSaid : Prop := Claim7.holds Tryd.pinned (.plain (OpenSpec.ofChange superCodesSpec)) superCodesCard

/-- THE TIED CARD OF 'thatchlaw08.SuperReads'. -/
def superReadsCard : Claim7 := { stood := { row := superReadsRow, standIns := [], harness := (true, "9e1900a6cbc25f9e082795bfdcf5d3bf5721e257d1771a9aff7ee18ecf590742"), looks := false }, kinds := [], alts := [], laidByText := true, laidKinds := [.data], laidTests := true, laidLooks := .later }
def SuperReadsCardSaid : Prop := Claim7.holds Tryd.pinned (.plain (OpenSpec.ofChange superReadsSpec)) superReadsCard

/-- THE TIED CARD OF 'thatchlaw08.SuperPicks'. -/
def superPicksCard : Claim7 := { stood := { row := superPicksRow, standIns := [], harness := (true, "9e1900a6cbc25f9e082795bfdcf5d3bf5721e257d1771a9aff7ee18ecf590742"), looks := false }, kinds := [], alts := [], laidByText := true, laidKinds := [.data], laidTests := true, laidLooks := .later }
def SuperPicksCardSaid : Prop := Claim7.holds Tryd.pinned (.plain (OpenSpec.ofChange superPicksSpec)) superPicksCard

/-- THE TIED CARD OF 'thatchlaw08.SuperNexts'. -/
def superNextsCard : Claim7 := { stood := { row := superNextsRow, standIns := [], harness := (true, "9e1900a6cbc25f9e082795bfdcf5d3bf5721e257d1771a9aff7ee18ecf590742"), looks := false }, kinds := [], alts := [], laidByText := true, laidKinds := [.data], laidTests := true, laidLooks := .later }
def SuperNextsCardSaid : Prop := Claim7.holds Tryd.pinned (.plain (OpenSpec.ofChange superNextsSpec)) superNextsCard

/-- THE TIED CARD OF 'thatchlaw08.SuperStays'. -/
def superStaysCard : Claim7 := { stood := { row := superStaysRow, standIns := [], harness := (true, "9e1900a6cbc25f9e082795bfdcf5d3bf5721e257d1771a9aff7ee18ecf590742"), looks := false }, kinds := [], alts := [], laidByText := true, laidKinds := [.data], laidTests := true, laidLooks := .later }
def SuperStaysCardSaid : Prop := Claim7.holds Tryd.pinned (.plain (OpenSpec.ofChange superStaysSpec)) superStaysCard

/-- THE TIED CARD OF 'thatchlaw11.PageCodes'. -/
def pageCodesCard : Claim7 := { stood := { row := pageCodesRow, standIns := [], harness := (true, "9e1900a6cbc25f9e082795bfdcf5d3bf5721e257d1771a9aff7ee18ecf590742"), looks := false }, kinds := [], alts := [], laidByText := true, laidKinds := [.data], laidTests := true, laidLooks := .later }
def PageCodesCardSaid : Prop := Claim7.holds Tryd.pinned (.plain (OpenSpec.ofChange pageCodesSpec)) pageCodesCard

/-- THE TIED CARD OF 'thatchlaw11.PageReads'. -/
def pageReadsCard : Claim7 := { stood := { row := pageReadsRow, standIns := [], harness := (true, "9e1900a6cbc25f9e082795bfdcf5d3bf5721e257d1771a9aff7ee18ecf590742"), looks := false }, kinds := [], alts := [], laidByText := true, laidKinds := [.data], laidTests := true, laidLooks := .later }
def PageReadsCardSaid : Prop := Claim7.holds Tryd.pinned (.plain (OpenSpec.ofChange pageReadsSpec)) pageReadsCard

/-- THE TIED CARD OF 'thatchlaw11.PageExtents'. -/
def pageExtentsCard : Claim7 := { stood := { row := pageExtentsRow, standIns := [], harness := (true, "9e1900a6cbc25f9e082795bfdcf5d3bf5721e257d1771a9aff7ee18ecf590742"), looks := false }, kinds := [], alts := [], laidByText := true, laidKinds := [.data], laidTests := true, laidLooks := .later }
def PageExtentsCardSaid : Prop := Claim7.holds Tryd.pinned (.plain (OpenSpec.ofChange pageExtentsSpec)) pageExtentsCard

/-- THE TIED CARD OF 'thatchlaw11.PageEmpty'. -/
def pageEmptyCard : Claim7 := { stood := { row := pageEmptyRow, standIns := [], harness := (true, "9e1900a6cbc25f9e082795bfdcf5d3bf5721e257d1771a9aff7ee18ecf590742"), looks := false }, kinds := [], alts := [], laidByText := true, laidKinds := [.data], laidTests := true, laidLooks := .later }
def PageEmptyCardSaid : Prop := Claim7.holds Tryd.pinned (.plain (OpenSpec.ofChange pageEmptySpec)) pageEmptyCard

/-- THE TIED CARD OF 'thatchlaw11.PageSame'. -/
def pageSameCard : Claim7 := { stood := { row := pageSameRow, standIns := [], harness := (true, "9e1900a6cbc25f9e082795bfdcf5d3bf5721e257d1771a9aff7ee18ecf590742"), looks := false }, kinds := [], alts := [], laidByText := true, laidKinds := [.data], laidTests := true, laidLooks := .later }
def PageSameCardSaid : Prop := Claim7.holds Tryd.pinned (.plain (OpenSpec.ofChange pageSameSpec)) pageSameCard

/-- THE TIED CARD OF 'thatchlaw11.PageTurns'. -/
def pageTurnsCard : Claim7 := { stood := { row := pageTurnsRow, standIns := [], harness := (true, "9e1900a6cbc25f9e082795bfdcf5d3bf5721e257d1771a9aff7ee18ecf590742"), looks := false }, kinds := [], alts := [], laidByText := true, laidKinds := [.data], laidTests := true, laidLooks := .later }
def PageTurnsCardSaid : Prop := Claim7.holds Tryd.pinned (.plain (OpenSpec.ofChange pageTurnsSpec)) pageTurnsCard

/-- THE SECOND FORM's CARD OF 'thatchlaw08.SuperCodes'. -/
def superCodesUptoCard : Claim7 := { stood := { row := superCodesUptoRow, standIns := [], harness := (true, "9e1900a6cbc25f9e082795bfdcf5d3bf5721e257d1771a9aff7ee18ecf590742"), looks := false }, kinds := [], alts := [], laidByText := true, laidKinds := [.data], laidTests := true, laidLooks := .later }
def SuperCodesUptoCardSaid : Prop := Claim7.holds Tryd.pinned (.plain (OpenSpec.upto superCodesSpec)) superCodesUptoCard

/-- THE SECOND FORM's CARD OF 'thatchlaw08.SuperReads'. -/
def superReadsUptoCard : Claim7 := { stood := { row := superReadsUptoRow, standIns := [], harness := (true, "9e1900a6cbc25f9e082795bfdcf5d3bf5721e257d1771a9aff7ee18ecf590742"), looks := false }, kinds := [], alts := [], laidByText := true, laidKinds := [.data], laidTests := true, laidLooks := .later }
def SuperReadsUptoCardSaid : Prop := Claim7.holds Tryd.pinned (.plain (OpenSpec.upto superReadsSpec)) superReadsUptoCard

/-- THE SECOND FORM's CARD OF 'thatchlaw08.SuperPicks'. -/
def superPicksUptoCard : Claim7 := { stood := { row := superPicksUptoRow, standIns := [], harness := (true, "9e1900a6cbc25f9e082795bfdcf5d3bf5721e257d1771a9aff7ee18ecf590742"), looks := false }, kinds := [], alts := [], laidByText := true, laidKinds := [.data], laidTests := true, laidLooks := .later }
def SuperPicksUptoCardSaid : Prop := Claim7.holds Tryd.pinned (.plain (OpenSpec.upto superPicksSpec)) superPicksUptoCard

/-- THE SECOND FORM's CARD OF 'thatchlaw08.SuperNexts'. -/
def superNextsUptoCard : Claim7 := { stood := { row := superNextsUptoRow, standIns := [], harness := (true, "9e1900a6cbc25f9e082795bfdcf5d3bf5721e257d1771a9aff7ee18ecf590742"), looks := false }, kinds := [], alts := [], laidByText := true, laidKinds := [.data], laidTests := true, laidLooks := .later }
def SuperNextsUptoCardSaid : Prop := Claim7.holds Tryd.pinned (.plain (OpenSpec.upto superNextsSpec)) superNextsUptoCard

/-- THE SECOND FORM's CARD OF 'thatchlaw08.SuperStays'. -/
def superStaysUptoCard : Claim7 := { stood := { row := superStaysUptoRow, standIns := [], harness := (true, "9e1900a6cbc25f9e082795bfdcf5d3bf5721e257d1771a9aff7ee18ecf590742"), looks := false }, kinds := [], alts := [], laidByText := true, laidKinds := [.data], laidTests := true, laidLooks := .later }
def SuperStaysUptoCardSaid : Prop := Claim7.holds Tryd.pinned (.plain (OpenSpec.upto superStaysSpec)) superStaysUptoCard

/-- THE SECOND FORM's CARD OF 'thatchlaw11.PageCodes'. -/
def pageCodesUptoCard : Claim7 := { stood := { row := pageCodesUptoRow, standIns := [], harness := (true, "9e1900a6cbc25f9e082795bfdcf5d3bf5721e257d1771a9aff7ee18ecf590742"), looks := false }, kinds := [], alts := [], laidByText := true, laidKinds := [.data], laidTests := true, laidLooks := .later }
def PageCodesUptoCardSaid : Prop := Claim7.holds Tryd.pinned (.plain (OpenSpec.upto pageCodesSpec)) pageCodesUptoCard

/-- THE SECOND FORM's CARD OF 'thatchlaw11.PageReads'. -/
def pageReadsUptoCard : Claim7 := { stood := { row := pageReadsUptoRow, standIns := [], harness := (true, "9e1900a6cbc25f9e082795bfdcf5d3bf5721e257d1771a9aff7ee18ecf590742"), looks := false }, kinds := [], alts := [], laidByText := true, laidKinds := [.data], laidTests := true, laidLooks := .later }
def PageReadsUptoCardSaid : Prop := Claim7.holds Tryd.pinned (.plain (OpenSpec.upto pageReadsSpec)) pageReadsUptoCard

/-- THE SECOND FORM's CARD OF 'thatchlaw11.PageExtents'. -/
def pageExtentsUptoCard : Claim7 := { stood := { row := pageExtentsUptoRow, standIns := [], harness := (true, "9e1900a6cbc25f9e082795bfdcf5d3bf5721e257d1771a9aff7ee18ecf590742"), looks := false }, kinds := [], alts := [], laidByText := true, laidKinds := [.data], laidTests := true, laidLooks := .later }
def PageExtentsUptoCardSaid : Prop := Claim7.holds Tryd.pinned (.plain (OpenSpec.upto pageExtentsSpec)) pageExtentsUptoCard

/-- THE SECOND FORM's CARD OF 'thatchlaw11.PageEmpty'. -/
def pageEmptyUptoCard : Claim7 := { stood := { row := pageEmptyUptoRow, standIns := [], harness := (true, "9e1900a6cbc25f9e082795bfdcf5d3bf5721e257d1771a9aff7ee18ecf590742"), looks := false }, kinds := [], alts := [], laidByText := true, laidKinds := [.data], laidTests := true, laidLooks := .later }
def PageEmptyUptoCardSaid : Prop := Claim7.holds Tryd.pinned (.plain (OpenSpec.upto pageEmptySpec)) pageEmptyUptoCard

/-- THE SECOND FORM's CARD OF 'thatchlaw11.PageSame'. -/
def pageSameUptoCard : Claim7 := { stood := { row := pageSameUptoRow, standIns := [], harness := (true, "9e1900a6cbc25f9e082795bfdcf5d3bf5721e257d1771a9aff7ee18ecf590742"), looks := false }, kinds := [], alts := [], laidByText := true, laidKinds := [.data], laidTests := true, laidLooks := .later }
def PageSameUptoCardSaid : Prop := Claim7.holds Tryd.pinned (.plain (OpenSpec.upto pageSameSpec)) pageSameUptoCard

/-- THE SECOND FORM's CARD OF 'thatchlaw11.PageTurns'. -/
def pageTurnsUptoCard : Claim7 := { stood := { row := pageTurnsUptoRow, standIns := [], harness := (true, "9e1900a6cbc25f9e082795bfdcf5d3bf5721e257d1771a9aff7ee18ecf590742"), looks := false }, kinds := [], alts := [], laidByText := true, laidKinds := [.data], laidTests := true, laidLooks := .later }
def PageTurnsUptoCardSaid : Prop := Claim7.holds Tryd.pinned (.plain (OpenSpec.upto pageTurnsSpec)) pageTurnsUptoCard
end Rows
end Go.Proofs.YthhhmhgmmbfjhaaDoor
