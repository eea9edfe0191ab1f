/-
  DERIVED. GIVEN WITH THE SEED: THE CARDS: each row of YtcocebfipkbkiaaDoorRows.lean that lists a variable, with what it lists TIED to the program's text (the seventh form; the later family's looks); each row that meets fmt, with fmt's text TOLD by the authors' own Lean function (tested against real Go, not proved from fmt's source: count such statements apart). THE CARD IS WHAT COUNTS. Prove the row's statement (the work); the ties are given (YtcocebfipkbkiaaDoorTie.lean); close each card by the builder's one call (the guide's Derived/Test/ToyasCard.lean, 'card_holds'). Laid BY PROGRAM, IN A SANDBOX (cutbox-door.mjs). By AI agents, Wed Nov 11 2026. No macro, syntax, notation, axiom, sorry.
-/
import Derived.Test.YtcocebfipkbkiaaDoorRows
import GoSem.ClaimSeven
namespace Go.Proofs.YtcocebfipkbkiaaDoor
namespace Rows

/-- THE TIED CARD OF 'thatchlaw16.BatchCodes'. -/
def batchCodesCard : Claim7 := { stood := { row := batchCodesRow, standIns := [], harness := (true, "d15b5e8be33327e362a31ae2dd3e75bde07ce5ff3ca74b7df0594c6e9a575d7c"), looks := false }, kinds := [], alts := [], laidByText := true, laidKinds := [.data], laidTests := true, laidLooks := .later }
def BatchCodesCardSaid : Prop := Claim7.holds Tryd.pinned (.plain (OpenSpec.ofChange batchCodesSpec)) batchCodesCard

/-- THE TIED CARD OF 'thatchlaw16.BatchReads'. -/
def batchReadsCard : Claim7 := { stood := { row := batchReadsRow, standIns := [], harness := (true, "d15b5e8be33327e362a31ae2dd3e75bde07ce5ff3ca74b7df0594c6e9a575d7c"), looks := false }, kinds := [], alts := [], laidByText := true, laidKinds := [.data], laidTests := true, laidLooks := .later }
def BatchReadsCardSaid : Prop := Claim7.holds Tryd.pinned (.plain (OpenSpec.ofChange batchReadsSpec)) batchReadsCard

/-- THE TIED CARD OF 'thatchlaw16.BatchMeans'. -/
def batchMeansCard : Claim7 := { stood := { row := batchMeansRow, standIns := [], harness := (true, "d15b5e8be33327e362a31ae2dd3e75bde07ce5ff3ca74b7df0594c6e9a575d7c"), looks := false }, kinds := [], alts := [], laidByText := true, laidKinds := [.data], laidTests := true, laidLooks := .later }
def BatchMeansCardSaid : Prop := Claim7.holds Tryd.pinned (.plain (OpenSpec.ofChange batchMeansSpec)) batchMeansCard

/-- THE TIED CARD OF 'thatchlaw16.BatchHoles'. -/
def batchHolesCard : Claim7 := { stood := { row := batchHolesRow, standIns := [], harness := (true, "d15b5e8be33327e362a31ae2dd3e75bde07ce5ff3ca74b7df0594c6e9a575d7c"), looks := false }, kinds := [], alts := [], laidByText := true, laidKinds := [.data], laidTests := true, laidLooks := .later }
def BatchHolesCardSaid : Prop := Claim7.holds Tryd.pinned (.plain (OpenSpec.ofChange batchHolesSpec)) batchHolesCard

/-- THE TIED CARD OF 'thatchlaw16.BatchSame'. -/
def batchSameCard : Claim7 := { stood := { row := batchSameRow, standIns := [], harness := (true, "d15b5e8be33327e362a31ae2dd3e75bde07ce5ff3ca74b7df0594c6e9a575d7c"), looks := false }, kinds := [], alts := [], laidByText := true, laidKinds := [.data], laidTests := true, laidLooks := .later }
def BatchSameCardSaid : Prop := Claim7.holds Tryd.pinned (.plain (OpenSpec.ofChange batchSameSpec)) batchSameCard

/-- THE SECOND FORM's CARD OF 'thatchlaw16.BatchCodes'. -/
def batchCodesUptoCard : Claim7 := { stood := { row := batchCodesUptoRow, standIns := [], harness := (true, "d15b5e8be33327e362a31ae2dd3e75bde07ce5ff3ca74b7df0594c6e9a575d7c"), looks := false }, kinds := [], alts := [], laidByText := true, laidKinds := [.data], laidTests := true, laidLooks := .later }
def BatchCodesUptoCardSaid : Prop := Claim7.holds Tryd.pinned (.plain (OpenSpec.upto batchCodesSpec)) batchCodesUptoCard

/-- THE SECOND FORM's CARD OF 'thatchlaw16.BatchReads'. -/
def batchReadsUptoCard : Claim7 := { stood := { row := batchReadsUptoRow, standIns := [], harness := (true, "d15b5e8be33327e362a31ae2dd3e75bde07ce5ff3ca74b7df0594c6e9a575d7c"), looks := false }, kinds := [], alts := [], laidByText := true, laidKinds := [.data], laidTests := true, laidLooks := .later }
def BatchReadsUptoCardSaid : Prop := Claim7.holds Tryd.pinned (.plain (OpenSpec.upto batchReadsSpec)) batchReadsUptoCard

/-- THE SECOND FORM's CARD OF 'thatchlaw16.BatchMeans'. -/
def batchMeansUptoCard : Claim7 := { stood := { row := batchMeansUptoRow, standIns := [], harness := (true, "d15b5e8be33327e362a31ae2dd3e75bde07ce5ff3ca74b7df0594c6e9a575d7c"), looks := false }, kinds := [], alts := [], laidByText := true, laidKinds := [.data], laidTests := true, laidLooks := .later }
def BatchMeansUptoCardSaid : Prop := Claim7.holds Tryd.pinned (.plain (OpenSpec.upto batchMeansSpec)) batchMeansUptoCard

/-- THE SECOND FORM's CARD OF 'thatchlaw16.BatchHoles'. -/
def batchHolesUptoCard : Claim7 := { stood := { row := batchHolesUptoRow, standIns := [], harness := (true, "d15b5e8be33327e362a31ae2dd3e75bde07ce5ff3ca74b7df0594c6e9a575d7c"), looks := false }, kinds := [], alts := [], laidByText := true, laidKinds := [.data], laidTests := true, laidLooks := .later }
def BatchHolesUptoCardSaid : Prop := Claim7.holds Tryd.pinned (.plain (OpenSpec.upto batchHolesSpec)) batchHolesUptoCard

/-- THE SECOND FORM's CARD OF 'thatchlaw16.BatchSame'. -/
def batchSameUptoCard : Claim7 := { stood := { row := batchSameUptoRow, standIns := [], harness := (true, "d15b5e8be33327e362a31ae2dd3e75bde07ce5ff3ca74b7df0594c6e9a575d7c"), looks := false }, kinds := [], alts := [], laidByText := true, laidKinds := [.data], laidTests := true, laidLooks := .later }
def BatchSameUptoCardSaid : Prop := Claim7.holds Tryd.pinned (.plain (OpenSpec.upto batchSameSpec)) batchSameUptoCard
end Rows
end Go.Proofs.YtcocebfipkbkiaaDoor
