/-
  DERIVED. GIVEN WITH THE SEED: THE CARDS: each row of YtllolilpchmkiaaDoorRows.lean that lists a variable, with what it lists TIED to the program's text (the seventh form; the later family's looks); each row that meets fmt, with fmt's text TOLD by the authors' own Lean function (tested against real Go, not proved from fmt's source: count such statements apart). THE CARD IS WHAT COUNTS. Prove the row's statement (the work); the ties are given (YtllolilpchmkiaaDoorTie.lean); close each card by the builder's one call (the guide's Derived/Test/ToyasCard.lean, 'card_holds'). Laid BY PROGRAM, IN A SANDBOX (cutbox-door.mjs). By AI agents, Wed Nov 11 2026. No macro, syntax, notation, axiom, sorry.
-/
import Derived.Test.YtllolilpchmkiaaDoorRows
import GoSem.ClaimSeven
namespace Go.Proofs.YtllolilpchmkiaaDoor
namespace Rows

/-- THE TIED CARD OF 'thatchlaw16.BatchCodes'. -/
def batchCodesCard : Claim7 := { stood := { row := batchCodesRow, standIns := [], harness := (true, "f23cdcd69f4b5aeca6ea851f6b19689aa1a8eb8c15dedd35d62a85ae0b0d813f"), looks := false }, kinds := [], alts := [], laidByText := true, laidKinds := [.data], laidTests := true, laidLooks := .later }
def BatchCodesCardSaid : Prop := Claim7.holds Tryd.pinned (.plain (OpenSpec.ofChange batchCodesSpec)) batchCodesCard

/-- THE TIED CARD OF 'thatchlaw16.BatchReads'. -/
def batchReadsCard : Claim7 := { stood := { row := batchReadsRow, standIns := [], harness := (true, "f23cdcd69f4b5aeca6ea851f6b19689aa1a8eb8c15dedd35d62a85ae0b0d813f"), looks := false }, kinds := [], alts := [], laidByText := true, laidKinds := [.data], laidTests := true, laidLooks := .later }
def BatchReadsCardSaid : Prop := Claim7.holds Tryd.pinned (.plain (OpenSpec.ofChange batchReadsSpec)) batchReadsCard

/-- THE TIED CARD OF 'thatchlaw16.BatchHoles'. -/
def batchHolesCard : Claim7 := { stood := { row := batchHolesRow, standIns := [], harness := (true, "f23cdcd69f4b5aeca6ea851f6b19689aa1a8eb8c15dedd35d62a85ae0b0d813f"), looks := false }, kinds := [], alts := [], laidByText := true, laidKinds := [.data], laidTests := true, laidLooks := .later }
def BatchHolesCardSaid : Prop := Claim7.holds Tryd.pinned (.plain (OpenSpec.ofChange batchHolesSpec)) batchHolesCard

/-- THE SECOND FORM's CARD OF 'thatchlaw16.BatchCodes'. -/
def batchCodesUptoCard : Claim7 := { stood := { row := batchCodesUptoRow, standIns := [], harness := (true, "f23cdcd69f4b5aeca6ea851f6b19689aa1a8eb8c15dedd35d62a85ae0b0d813f"), looks := false }, kinds := [], alts := [], laidByText := true, laidKinds := [.data], laidTests := true, laidLooks := .later }
def BatchCodesUptoCardSaid : Prop := Claim7.holds Tryd.pinned (.plain (OpenSpec.upto batchCodesSpec)) batchCodesUptoCard

/-- THE SECOND FORM's CARD OF 'thatchlaw16.BatchReads'. -/
def batchReadsUptoCard : Claim7 := { stood := { row := batchReadsUptoRow, standIns := [], harness := (true, "f23cdcd69f4b5aeca6ea851f6b19689aa1a8eb8c15dedd35d62a85ae0b0d813f"), looks := false }, kinds := [], alts := [], laidByText := true, laidKinds := [.data], laidTests := true, laidLooks := .later }
def BatchReadsUptoCardSaid : Prop := Claim7.holds Tryd.pinned (.plain (OpenSpec.upto batchReadsSpec)) batchReadsUptoCard

/-- THE SECOND FORM's CARD OF 'thatchlaw16.BatchHoles'. -/
def batchHolesUptoCard : Claim7 := { stood := { row := batchHolesUptoRow, standIns := [], harness := (true, "f23cdcd69f4b5aeca6ea851f6b19689aa1a8eb8c15dedd35d62a85ae0b0d813f"), looks := false }, kinds := [], alts := [], laidByText := true, laidKinds := [.data], laidTests := true, laidLooks := .later }
def BatchHolesUptoCardSaid : Prop := Claim7.holds Tryd.pinned (.plain (OpenSpec.upto batchHolesSpec)) batchHolesUptoCard
end Rows
end Go.Proofs.YtllolilpchmkiaaDoor
