/-
  DERIVED. GIVEN WITH THE SEED: THE CARDS: each row of YtdepkpdolkipcaaDoorRows.lean that lists a variable, with what it lists TIED to the program's text (the seventh form; the later family's looks); each row that meets fmt, with fmt's text TOLD by the authors' own Lean function (tested against real Go, not proved from fmt's source: count such statements apart). THE CARD IS WHAT COUNTS. Prove the row's statement (the work); the ties are given (YtdepkpdolkipcaaDoorTie.lean); close each card by the builder's one call (the guide's Derived/Test/ToyasCard.lean, 'card_holds'). Laid BY PROGRAM, IN A SANDBOX (cutbox-door.mjs). By AI agents, Wed Nov 11 2026. No macro, syntax, notation, axiom, sorry.
-/
import Derived.Test.YtdepkpdolkipcaaDoorRows
import GoSem.ClaimSeven
namespace Go.Proofs.YtdepkpdolkipcaaDoor
namespace Rows

/-- THE TIED CARD OF 'thatchlaw08.SuperCodes'. -/
def superCodesCard : Claim7 := { stood := { row := superCodesRow, standIns := [], harness := (true, "075403a9dc6f39aaa1fcf693ab96360f2f2195b5ed67f13818b107d52d09579f"), looks := false }, kinds := [], alts := [], laidByText := true, laidKinds := [.data], laidTests := true, laidLooks := .later }
def SuperCodesCardSaid : Prop := Claim7.holds Tryd.pinned (.plain (OpenSpec.ofChange superCodesSpec)) superCodesCard

/-- THE TIED CARD OF 'thatchlaw08.SuperReads'. -/
def superReadsCard : Claim7 := { stood := { row := superReadsRow, standIns := [], harness := (true, "075403a9dc6f39aaa1fcf693ab96360f2f2195b5ed67f13818b107d52d09579f"), looks := false }, kinds := [], alts := [], laidByText := true, laidKinds := [.data], laidTests := true, laidLooks := .later }
def SuperReadsCardSaid : Prop := Claim7.holds Tryd.pinned (.plain (OpenSpec.ofChange superReadsSpec)) superReadsCard

/-- THE TIED CARD OF 'thatchlaw08.SuperPicks'. -/
def superPicksCard : Claim7 := { stood := { row := superPicksRow, standIns := [], harness := (true, "075403a9dc6f39aaa1fcf693ab96360f2f2195b5ed67f13818b107d52d09579f"), looks := false }, kinds := [], alts := [], laidByText := true, laidKinds := [.data], laidTests := true, laidLooks := .later }
def SuperPicksCardSaid : Prop := Claim7.holds Tryd.pinned (.plain (OpenSpec.ofChange superPicksSpec)) superPicksCard

/-- THE TIED CARD OF 'thatchlaw08.SuperNexts'. -/
def superNextsCard : Claim7 := { stood := { row := superNextsRow, standIns := [], harness := (true, "075403a9dc6f39aaa1fcf693ab96360f2f2195b5ed67f13818b107d52d09579f"), looks := false }, kinds := [], alts := [], laidByText := true, laidKinds := [.data], laidTests := true, laidLooks := .later }
def SuperNextsCardSaid : Prop := Claim7.holds Tryd.pinned (.plain (OpenSpec.ofChange superNextsSpec)) superNextsCard

/-- THE TIED CARD OF 'thatchlaw08.SuperStays'. -/
def superStaysCard : Claim7 := { stood := { row := superStaysRow, standIns := [], harness := (true, "075403a9dc6f39aaa1fcf693ab96360f2f2195b5ed67f13818b107d52d09579f"), looks := false }, kinds := [], alts := [], laidByText := true, laidKinds := [.data], laidTests := true, laidLooks := .later }
def SuperStaysCardSaid : Prop := Claim7.holds Tryd.pinned (.plain (OpenSpec.ofChange superStaysSpec)) superStaysCard

/-- THE TIED CARD OF 'thatchlaw09.RecordCodes'. -/
def recordCodesCard : Claim7 := { stood := { row := recordCodesRow, standIns := [], harness := (true, "075403a9dc6f39aaa1fcf693ab96360f2f2195b5ed67f13818b107d52d09579f"), looks := false }, kinds := [], alts := [], laidByText := true, laidKinds := [.data], laidTests := true, laidLooks := .later }
def RecordCodesCardSaid : Prop := Claim7.holds Tryd.pinned (.plain (OpenSpec.ofChange recordCodesSpec)) recordCodesCard

/-- THE TIED CARD OF 'thatchlaw09.RecordReads'. -/
def recordReadsCard : Claim7 := { stood := { row := recordReadsRow, standIns := [], harness := (true, "075403a9dc6f39aaa1fcf693ab96360f2f2195b5ed67f13818b107d52d09579f"), looks := false }, kinds := [], alts := [], laidByText := true, laidKinds := [.data], laidTests := true, laidLooks := .later }
def RecordReadsCardSaid : Prop := Claim7.holds Tryd.pinned (.plain (OpenSpec.ofChange recordReadsSpec)) recordReadsCard

/-- THE TIED CARD OF 'thatchlaw09.RecordDeltas'. -/
def recordDeltasCard : Claim7 := { stood := { row := recordDeltasRow, standIns := [], harness := (true, "075403a9dc6f39aaa1fcf693ab96360f2f2195b5ed67f13818b107d52d09579f"), looks := false }, kinds := [], alts := [], laidByText := true, laidKinds := [.data], laidTests := true, laidLooks := .later }
def RecordDeltasCardSaid : Prop := Claim7.holds Tryd.pinned (.plain (OpenSpec.ofChange recordDeltasSpec)) recordDeltasCard

/-- THE TIED CARD OF 'thatchlaw09.RecordGroups'. -/
def recordGroupsCard : Claim7 := { stood := { row := recordGroupsRow, standIns := [], harness := (true, "075403a9dc6f39aaa1fcf693ab96360f2f2195b5ed67f13818b107d52d09579f"), looks := false }, kinds := [], alts := [], laidByText := true, laidKinds := [.data], laidTests := true, laidLooks := .later }
def RecordGroupsCardSaid : Prop := Claim7.holds Tryd.pinned (.plain (OpenSpec.ofChange recordGroupsSpec)) recordGroupsCard

/-- THE TIED CARD OF 'thatchlaw09.RecordNeeds'. -/
def recordNeedsCard : Claim7 := { stood := { row := recordNeedsRow, standIns := [], harness := (true, "075403a9dc6f39aaa1fcf693ab96360f2f2195b5ed67f13818b107d52d09579f"), looks := false }, kinds := [], alts := [], laidByText := true, laidKinds := [.data], laidTests := true, laidLooks := .later }
def RecordNeedsCardSaid : Prop := Claim7.holds Tryd.pinned (.plain (OpenSpec.ofChange recordNeedsSpec)) recordNeedsCard

/-- THE SECOND FORM's CARD OF 'thatchlaw08.SuperCodes'. -/
def superCodesUptoCard : Claim7 := { stood := { row := superCodesUptoRow, standIns := [], harness := (true, "075403a9dc6f39aaa1fcf693ab96360f2f2195b5ed67f13818b107d52d09579f"), looks := false }, kinds := [], alts := [], laidByText := true, laidKinds := [.data], laidTests := true, laidLooks := .later }
def SuperCodesUptoCardSaid : Prop := Claim7.holds Tryd.pinned (.plain (OpenSpec.upto superCodesSpec)) superCodesUptoCard

/-- THE SECOND FORM's CARD OF 'thatchlaw08.SuperReads'. -/
def superReadsUptoCard : Claim7 := { stood := { row := superReadsUptoRow, standIns := [], harness := (true, "075403a9dc6f39aaa1fcf693ab96360f2f2195b5ed67f13818b107d52d09579f"), looks := false }, kinds := [], alts := [], laidByText := true, laidKinds := [.data], laidTests := true, laidLooks := .later }
def SuperReadsUptoCardSaid : Prop := Claim7.holds Tryd.pinned (.plain (OpenSpec.upto superReadsSpec)) superReadsUptoCard

/-- THE SECOND FORM's CARD OF 'thatchlaw08.SuperPicks'. -/
def superPicksUptoCard : Claim7 := { stood := { row := superPicksUptoRow, standIns := [], harness := (true, "075403a9dc6f39aaa1fcf693ab96360f2f2195b5ed67f13818b107d52d09579f"), looks := false }, kinds := [], alts := [], laidByText := true, laidKinds := [.data], laidTests := true, laidLooks := .later }
def SuperPicksUptoCardSaid : Prop := Claim7.holds Tryd.pinned (.plain (OpenSpec.upto superPicksSpec)) superPicksUptoCard

/-- THE SECOND FORM's CARD OF 'thatchlaw08.SuperNexts'. -/
def superNextsUptoCard : Claim7 := { stood := { row := superNextsUptoRow, standIns := [], harness := (true, "075403a9dc6f39aaa1fcf693ab96360f2f2195b5ed67f13818b107d52d09579f"), looks := false }, kinds := [], alts := [], laidByText := true, laidKinds := [.data], laidTests := true, laidLooks := .later }
def SuperNextsUptoCardSaid : Prop := Claim7.holds Tryd.pinned (.plain (OpenSpec.upto superNextsSpec)) superNextsUptoCard

/-- THE SECOND FORM's CARD OF 'thatchlaw08.SuperStays'. -/
def superStaysUptoCard : Claim7 := { stood := { row := superStaysUptoRow, standIns := [], harness := (true, "075403a9dc6f39aaa1fcf693ab96360f2f2195b5ed67f13818b107d52d09579f"), looks := false }, kinds := [], alts := [], laidByText := true, laidKinds := [.data], laidTests := true, laidLooks := .later }
def SuperStaysUptoCardSaid : Prop := Claim7.holds Tryd.pinned (.plain (OpenSpec.upto superStaysSpec)) superStaysUptoCard

/-- THE SECOND FORM's CARD OF 'thatchlaw09.RecordCodes'. -/
def recordCodesUptoCard : Claim7 := { stood := { row := recordCodesUptoRow, standIns := [], harness := (true, "075403a9dc6f39aaa1fcf693ab96360f2f2195b5ed67f13818b107d52d09579f"), looks := false }, kinds := [], alts := [], laidByText := true, laidKinds := [.data], laidTests := true, laidLooks := .later }
def RecordCodesUptoCardSaid : Prop := Claim7.holds Tryd.pinned (.plain (OpenSpec.upto recordCodesSpec)) recordCodesUptoCard

/-- THE SECOND FORM's CARD OF 'thatchlaw09.RecordReads'. -/
def recordReadsUptoCard : Claim7 := { stood := { row := recordReadsUptoRow, standIns := [], harness := (true, "075403a9dc6f39aaa1fcf693ab96360f2f2195b5ed67f13818b107d52d09579f"), looks := false }, kinds := [], alts := [], laidByText := true, laidKinds := [.data], laidTests := true, laidLooks := .later }
def RecordReadsUptoCardSaid : Prop := Claim7.holds Tryd.pinned (.plain (OpenSpec.upto recordReadsSpec)) recordReadsUptoCard

/-- THE SECOND FORM's CARD OF 'thatchlaw09.RecordDeltas'. -/
def recordDeltasUptoCard : Claim7 := { stood := { row := recordDeltasUptoRow, standIns := [], harness := (true, "075403a9dc6f39aaa1fcf693ab96360f2f2195b5ed67f13818b107d52d09579f"), looks := false }, kinds := [], alts := [], laidByText := true, laidKinds := [.data], laidTests := true, laidLooks := .later }
def RecordDeltasUptoCardSaid : Prop := Claim7.holds Tryd.pinned (.plain (OpenSpec.upto recordDeltasSpec)) recordDeltasUptoCard

/-- THE SECOND FORM's CARD OF 'thatchlaw09.RecordGroups'. -/
def recordGroupsUptoCard : Claim7 := { stood := { row := recordGroupsUptoRow, standIns := [], harness := (true, "075403a9dc6f39aaa1fcf693ab96360f2f2195b5ed67f13818b107d52d09579f"), looks := false }, kinds := [], alts := [], laidByText := true, laidKinds := [.data], laidTests := true, laidLooks := .later }
def RecordGroupsUptoCardSaid : Prop := Claim7.holds Tryd.pinned (.plain (OpenSpec.upto recordGroupsSpec)) recordGroupsUptoCard

/-- THE SECOND FORM's CARD OF 'thatchlaw09.RecordNeeds'. -/
def recordNeedsUptoCard : Claim7 := { stood := { row := recordNeedsUptoRow, standIns := [], harness := (true, "075403a9dc6f39aaa1fcf693ab96360f2f2195b5ed67f13818b107d52d09579f"), looks := false }, kinds := [], alts := [], laidByText := true, laidKinds := [.data], laidTests := true, laidLooks := .later }
def RecordNeedsUptoCardSaid : Prop := Claim7.holds Tryd.pinned (.plain (OpenSpec.upto recordNeedsSpec)) recordNeedsUptoCard
end Rows
end Go.Proofs.YtdepkpdolkipcaaDoor
