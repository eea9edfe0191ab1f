/-
  DERIVED. GIVEN WITH THE SEED: THE CARDS: each row of YtkkbgbpmpcoffaaDoorRows.lean that lists a variable, with what it lists TIED to the program's text (the seventh form; the later family's looks); each row that meets fmt, with fmt's text TOLD by the authors' own Lean function (tested against real Go, not proved from fmt's source: count such statements apart). THE CARD IS WHAT COUNTS. Prove the row's statement (the work); the ties are given (YtkkbgbpmpcoffaaDoorTie.lean); close each card by the builder's one call (the guide's Derived/Test/ToyasCard.lean, 'card_holds'). Laid BY PROGRAM, IN A SANDBOX (cutbox-door.mjs). By AI agents, Wed Nov 11 2026. No macro, syntax, notation, axiom, sorry.
-/
import Derived.Test.YtkkbgbpmpcoffaaDoorRows
import GoSem.ClaimSeven
namespace Go.Proofs.YtkkbgbpmpcoffaaDoor
namespace Rows

/-- THE TIED CARD OF 'thatchlaw16.BatchCodes'. -/
def batchCodesCard : Claim7 := { stood := { row := batchCodesRow, standIns := [], harness := (true, "153d5947c441dc34c0b9da1987ed63d299faa355f972e551d461511cece82c6d"), looks := false }, kinds := [], alts := [], laidByText := true, laidKinds := [.data], laidTests := true, laidLooks := .later }
def BatchCodesCardSaid : Prop := Claim7.holds Tryd.pinned (.plain (OpenSpec.ofChange batchCodesSpec)) batchCodesCard

/-- THE SECOND FORM's CARD OF 'thatchlaw16.BatchCodes'. -/
def batchCodesUptoCard : Claim7 := { stood := { row := batchCodesUptoRow, standIns := [], harness := (true, "153d5947c441dc34c0b9da1987ed63d299faa355f972e551d461511cece82c6d"), looks := false }, kinds := [], alts := [], laidByText := true, laidKinds := [.data], laidTests := true, laidLooks := .later }
def BatchCodesUptoCardSaid : Prop := Claim7.holds Tryd.pinned (.plain (OpenSpec.upto batchCodesSpec)) batchCodesUptoCard
end Rows
end Go.Proofs.YtkkbgbpmpcoffaaDoor
