/-
  NARROWER THAN 'FOR EVERY INPUT', by the rows' own cells (each row's printed sentence says how): SuperCodes: laid · SuperReads: laid · SuperPicks: laid · SuperNexts: laid · SuperStays: laid · PageCodes: laid · PageReads: laid · PageExtents: laid · PageEmpty: laid · PageSame: laid · PageTurns: laid.
  DERIVED. THE GIVEN ROWS OF THIS SEAT. 11 by the template 'for every input the law returns true; each argument reads behind the call as it read before'; 0 by the template 'total and deterministic' (their statements: YthhhmhgmmbfjhaaDoorTotals.lean).
  GIVEN WITH THE SEED: the statements are not yours to turn. If you find one false, say at which input.
  Laid BY PROGRAM, IN A SANDBOX (cutbox-rows.mjs): the forced cells as the released guide's own fill.sh prints them over the translation b04f0b2ef64f6878… (all of the seat's roots in one cut). By AI agents, Wed Nov 11 2026. No macro, syntax, notation, axiom, sorry.
-/
import Derived.Test.YthhhmhgmmbfjhaaDoorChecked
import GoSem.Claim
import GoSem.ClaimJoined
import GoSem.ClaimMapViews
import Derived.JoinedTies
import Derived.KernelRfl
namespace Go.Proofs.YthhhmhgmmbfjhaaDoor
/- THE CELL 'sum', in the pinned program and in every row, IS THE sha256 OF THE DUMP (.gsa) THAT YthhhmhgmmbfjhaaDoorProg.lean LOADS. Nothing in Lean hashes anything: it is a label: what it is worth is what the hold of that sum in a sandbox is worth. -/
noncomputable def Tryd.pinned : Pinned := { name := "ythhhmhgmmbfjhaadoor", sum := "b04f0b2ef64f68785847c20c93d1570a42b371c2c080231d6dbed3c2f16d1fc6", checked := Tryd.checked }
namespace Rows
def none {H : Type} : Left H := { results := [], args := [] }

/- WHAT THE LISTED PACKAGE-LEVEL VARIABLES READ AS WHEN THE CALL BEGINS. Each datum BY PROGRAM (the guide's laid-datum.mjs) off the statement by which the dump's own 'gosem.cut.vars' lays the variable. In a bare row this is a premise. The card (YthhhmhgmmbfjhaaDoorCards.lean) ties it to the program's text. -/
def laid_thatch_crc_nibbles {H : Type} : DataW H := .agg [.lit (.int .u32 0), .lit (.int .u32 274646895), .lit (.int .u32 549293790), .lit (.int .u32 820201905), .lit (.int .u32 1098587580), .lit (.int .u32 1361435347), .lit (.int .u32 1640403810), .lit (.int .u32 1905808397), .lit (.int .u32 2197175160), .lit (.int .u32 2460548119), .lit (.int .u32 2722870694), .lit (.int .u32 2987750089), .lit (.int .u32 3280807620), .lit (.int .u32 3553878443), .lit (.int .u32 3811616794), .lit (.int .u32 4084100981)]

/-- 'thatchlaw08.SuperCodes': WHATEVER THE INPUT: true; the input reads as it did. -/
def superCodesSpec : ChangeSpec := { name := "superCodes", fn := fun _ => fun
  | [d] => { results := [.lit (.bool true)], args := [d] }
  | _ => none }
def superCodesRow : OpenClaim := { program := "ythhhmhgmmbfjhaadoor", sum := "b04f0b2ef64f68785847c20c93d1570a42b371c2c080231d6dbed3c2f16d1fc6", func := "thatch/thatchlaw08.SuperCodes", spec := "superCodes", unfollowed := true, recurses := true, named := ["thatch/crc.nibbles"], apart := false, laid := [("thatch/crc.nibbles", laid_thatch_crc_nibbles)] }
def SuperCodesSaid : Prop := superCodesRow.holds Tryd.pinned (OpenSpec.ofChange superCodesSpec)

/-- ITS FALSE NEIGHBOUR: 'it returns false'. Refute it at one input. -/
def superCodesWrong : ChangeSpec := { name := "superCodes", fn := fun _ => fun
  | [d] => { results := [.lit (.bool false)], args := [d] }
  | _ => none }
def SuperCodesWrongFalsely : Prop := superCodesRow.holds Tryd.pinned (OpenSpec.ofChange superCodesWrong)

/-- 'thatchlaw08.SuperReads': WHATEVER THE INPUT: true; the input reads as it did. -/
def superReadsSpec : ChangeSpec := { name := "superReads", fn := fun _ => fun
  | [d] => { results := [.lit (.bool true)], args := [d] }
  | _ => none }
def superReadsRow : OpenClaim := { program := "ythhhmhgmmbfjhaadoor", sum := "b04f0b2ef64f68785847c20c93d1570a42b371c2c080231d6dbed3c2f16d1fc6", func := "thatch/thatchlaw08.SuperReads", spec := "superReads", unfollowed := true, recurses := true, named := ["thatch/crc.nibbles"], apart := false, laid := [("thatch/crc.nibbles", laid_thatch_crc_nibbles)] }
def SuperReadsSaid : Prop := superReadsRow.holds Tryd.pinned (OpenSpec.ofChange superReadsSpec)

/-- ITS FALSE NEIGHBOUR: 'it returns false'. Refute it at one input. -/
def superReadsWrong : ChangeSpec := { name := "superReads", fn := fun _ => fun
  | [d] => { results := [.lit (.bool false)], args := [d] }
  | _ => none }
def SuperReadsWrongFalsely : Prop := superReadsRow.holds Tryd.pinned (OpenSpec.ofChange superReadsWrong)

/-- 'thatchlaw08.SuperPicks': WHATEVER THE INPUT: true; the input reads as it did. -/
def superPicksSpec : ChangeSpec := { name := "superPicks", fn := fun _ => fun
  | [d1, d2] => { results := [.lit (.bool true)], args := [d1, d2] }
  | _ => none }
def superPicksRow : OpenClaim := { program := "ythhhmhgmmbfjhaadoor", sum := "b04f0b2ef64f68785847c20c93d1570a42b371c2c080231d6dbed3c2f16d1fc6", func := "thatch/thatchlaw08.SuperPicks", spec := "superPicks", unfollowed := true, recurses := true, named := ["thatch/crc.nibbles"], apart := false, laid := [("thatch/crc.nibbles", laid_thatch_crc_nibbles)] }
def SuperPicksSaid : Prop := superPicksRow.holds Tryd.pinned (OpenSpec.ofChange superPicksSpec)

/-- ITS FALSE NEIGHBOUR: 'it returns false'. Refute it at one input. -/
def superPicksWrong : ChangeSpec := { name := "superPicks", fn := fun _ => fun
  | [d1, d2] => { results := [.lit (.bool false)], args := [d1, d2] }
  | _ => none }
def SuperPicksWrongFalsely : Prop := superPicksRow.holds Tryd.pinned (OpenSpec.ofChange superPicksWrong)

/-- 'thatchlaw08.SuperNexts': WHATEVER THE INPUT: true; the input reads as it did. -/
def superNextsSpec : ChangeSpec := { name := "superNexts", fn := fun _ => fun
  | [d1, d2, d3, d4, d5] => { results := [.lit (.bool true)], args := [d1, d2, d3, d4, d5] }
  | _ => none }
def superNextsRow : OpenClaim := { program := "ythhhmhgmmbfjhaadoor", sum := "b04f0b2ef64f68785847c20c93d1570a42b371c2c080231d6dbed3c2f16d1fc6", func := "thatch/thatchlaw08.SuperNexts", spec := "superNexts", unfollowed := true, recurses := true, named := ["thatch/crc.nibbles"], apart := false, laid := [("thatch/crc.nibbles", laid_thatch_crc_nibbles)] }
def SuperNextsSaid : Prop := superNextsRow.holds Tryd.pinned (OpenSpec.ofChange superNextsSpec)

/-- ITS FALSE NEIGHBOUR: 'it returns false'. Refute it at one input. -/
def superNextsWrong : ChangeSpec := { name := "superNexts", fn := fun _ => fun
  | [d1, d2, d3, d4, d5] => { results := [.lit (.bool false)], args := [d1, d2, d3, d4, d5] }
  | _ => none }
def SuperNextsWrongFalsely : Prop := superNextsRow.holds Tryd.pinned (OpenSpec.ofChange superNextsWrong)

/-- 'thatchlaw08.SuperStays': WHATEVER THE INPUT: true; the input reads as it did. -/
def superStaysSpec : ChangeSpec := { name := "superStays", fn := fun _ => fun
  | [d1, d2] => { results := [.lit (.bool true)], args := [d1, d2] }
  | _ => none }
def superStaysRow : OpenClaim := { program := "ythhhmhgmmbfjhaadoor", sum := "b04f0b2ef64f68785847c20c93d1570a42b371c2c080231d6dbed3c2f16d1fc6", func := "thatch/thatchlaw08.SuperStays", spec := "superStays", unfollowed := true, recurses := true, named := ["thatch/crc.nibbles"], apart := false, laid := [("thatch/crc.nibbles", laid_thatch_crc_nibbles)] }
def SuperStaysSaid : Prop := superStaysRow.holds Tryd.pinned (OpenSpec.ofChange superStaysSpec)

/-- ITS FALSE NEIGHBOUR: 'it returns false'. Refute it at one input. -/
def superStaysWrong : ChangeSpec := { name := "superStays", fn := fun _ => fun
  | [d1, d2] => { results := [.lit (.bool false)], args := [d1, d2] }
  | _ => none }
def SuperStaysWrongFalsely : Prop := superStaysRow.holds Tryd.pinned (OpenSpec.ofChange superStaysWrong)

/-- 'thatchlaw11.PageCodes': WHATEVER THE INPUT: true; the input reads as it did. -/
def pageCodesSpec : ChangeSpec := { name := "pageCodes", fn := fun _ => fun
  | [d1, d2, d3, d4] => { results := [.lit (.bool true)], args := [d1, d2, d3, d4] }
  | _ => none }
def pageCodesRow : OpenClaim := { program := "ythhhmhgmmbfjhaadoor", sum := "b04f0b2ef64f68785847c20c93d1570a42b371c2c080231d6dbed3c2f16d1fc6", func := "thatch/thatchlaw11.PageCodes", spec := "pageCodes", unfollowed := true, recurses := true, named := ["thatch/crc.nibbles"], apart := false, laid := [("thatch/crc.nibbles", laid_thatch_crc_nibbles)] }
def PageCodesSaid : Prop := pageCodesRow.holds Tryd.pinned (OpenSpec.ofChange pageCodesSpec)

/-- ITS FALSE NEIGHBOUR: 'it returns false'. Refute it at one input. -/
def pageCodesWrong : ChangeSpec := { name := "pageCodes", fn := fun _ => fun
  | [d1, d2, d3, d4] => { results := [.lit (.bool false)], args := [d1, d2, d3, d4] }
  | _ => none }
def PageCodesWrongFalsely : Prop := pageCodesRow.holds Tryd.pinned (OpenSpec.ofChange pageCodesWrong)

/-- 'thatchlaw11.PageReads': WHATEVER THE INPUT: true; the input reads as it did. -/
def pageReadsSpec : ChangeSpec := { name := "pageReads", fn := fun _ => fun
  | [d1, d2, d3] => { results := [.lit (.bool true)], args := [d1, d2, d3] }
  | _ => none }
def pageReadsRow : OpenClaim := { program := "ythhhmhgmmbfjhaadoor", sum := "b04f0b2ef64f68785847c20c93d1570a42b371c2c080231d6dbed3c2f16d1fc6", func := "thatch/thatchlaw11.PageReads", spec := "pageReads", unfollowed := true, recurses := true, named := ["thatch/crc.nibbles"], apart := false, laid := [("thatch/crc.nibbles", laid_thatch_crc_nibbles)] }
def PageReadsSaid : Prop := pageReadsRow.holds Tryd.pinned (OpenSpec.ofChange pageReadsSpec)

/-- ITS FALSE NEIGHBOUR: 'it returns false'. Refute it at one input. -/
def pageReadsWrong : ChangeSpec := { name := "pageReads", fn := fun _ => fun
  | [d1, d2, d3] => { results := [.lit (.bool false)], args := [d1, d2, d3] }
  | _ => none }
def PageReadsWrongFalsely : Prop := pageReadsRow.holds Tryd.pinned (OpenSpec.ofChange pageReadsWrong)

/-- 'thatchlaw11.PageExtents': WHATEVER THE INPUT: true; the input reads as it did. -/
def pageExtentsSpec : ChangeSpec := { name := "pageExtents", fn := fun _ => fun
  | [d1, d2, d3] => { results := [.lit (.bool true)], args := [d1, d2, d3] }
  | _ => none }
def pageExtentsRow : OpenClaim := { program := "ythhhmhgmmbfjhaadoor", sum := "b04f0b2ef64f68785847c20c93d1570a42b371c2c080231d6dbed3c2f16d1fc6", func := "thatch/thatchlaw11.PageExtents", spec := "pageExtents", unfollowed := true, recurses := true, named := ["thatch/crc.nibbles"], apart := false, laid := [("thatch/crc.nibbles", laid_thatch_crc_nibbles)] }
def PageExtentsSaid : Prop := pageExtentsRow.holds Tryd.pinned (OpenSpec.ofChange pageExtentsSpec)

/-- ITS FALSE NEIGHBOUR: 'it returns false'. Refute it at one input. -/
def pageExtentsWrong : ChangeSpec := { name := "pageExtents", fn := fun _ => fun
  | [d1, d2, d3] => { results := [.lit (.bool false)], args := [d1, d2, d3] }
  | _ => none }
def PageExtentsWrongFalsely : Prop := pageExtentsRow.holds Tryd.pinned (OpenSpec.ofChange pageExtentsWrong)

/-- 'thatchlaw11.PageEmpty': WHATEVER THE INPUT: true; the input reads as it did. -/
def pageEmptySpec : ChangeSpec := { name := "pageEmpty", fn := fun _ => fun
  | [d] => { results := [.lit (.bool true)], args := [d] }
  | _ => none }
def pageEmptyRow : OpenClaim := { program := "ythhhmhgmmbfjhaadoor", sum := "b04f0b2ef64f68785847c20c93d1570a42b371c2c080231d6dbed3c2f16d1fc6", func := "thatch/thatchlaw11.PageEmpty", spec := "pageEmpty", unfollowed := true, recurses := true, named := ["thatch/crc.nibbles"], apart := false, laid := [("thatch/crc.nibbles", laid_thatch_crc_nibbles)] }
def PageEmptySaid : Prop := pageEmptyRow.holds Tryd.pinned (OpenSpec.ofChange pageEmptySpec)

/-- ITS FALSE NEIGHBOUR: 'it returns false'. Refute it at one input. -/
def pageEmptyWrong : ChangeSpec := { name := "pageEmpty", fn := fun _ => fun
  | [d] => { results := [.lit (.bool false)], args := [d] }
  | _ => none }
def PageEmptyWrongFalsely : Prop := pageEmptyRow.holds Tryd.pinned (OpenSpec.ofChange pageEmptyWrong)

/-- 'thatchlaw11.PageSame': WHATEVER THE INPUT: true; the input reads as it did. -/
def pageSameSpec : ChangeSpec := { name := "pageSame", fn := fun _ => fun
  | [d1, d2, d3] => { results := [.lit (.bool true)], args := [d1, d2, d3] }
  | _ => none }
def pageSameRow : OpenClaim := { program := "ythhhmhgmmbfjhaadoor", sum := "b04f0b2ef64f68785847c20c93d1570a42b371c2c080231d6dbed3c2f16d1fc6", func := "thatch/thatchlaw11.PageSame", spec := "pageSame", unfollowed := true, recurses := true, named := ["thatch/crc.nibbles"], apart := false, laid := [("thatch/crc.nibbles", laid_thatch_crc_nibbles)] }
def PageSameSaid : Prop := pageSameRow.holds Tryd.pinned (OpenSpec.ofChange pageSameSpec)

/-- ITS FALSE NEIGHBOUR: 'it returns false'. Refute it at one input. -/
def pageSameWrong : ChangeSpec := { name := "pageSame", fn := fun _ => fun
  | [d1, d2, d3] => { results := [.lit (.bool false)], args := [d1, d2, d3] }
  | _ => none }
def PageSameWrongFalsely : Prop := pageSameRow.holds Tryd.pinned (OpenSpec.ofChange pageSameWrong)

/-- 'thatchlaw11.PageTurns': WHATEVER THE INPUT: true; the input reads as it did. -/
def pageTurnsSpec : ChangeSpec := { name := "pageTurns", fn := fun _ => fun
  | [d1, d2, d3] => { results := [.lit (.bool true)], args := [d1, d2, d3] }
  | _ => none }
def pageTurnsRow : OpenClaim := { program := "ythhhmhgmmbfjhaadoor", sum := "b04f0b2ef64f68785847c20c93d1570a42b371c2c080231d6dbed3c2f16d1fc6", func := "thatch/thatchlaw11.PageTurns", spec := "pageTurns", unfollowed := true, recurses := true, named := ["thatch/crc.nibbles"], apart := false, laid := [("thatch/crc.nibbles", laid_thatch_crc_nibbles)] }
def PageTurnsSaid : Prop := pageTurnsRow.holds Tryd.pinned (OpenSpec.ofChange pageTurnsSpec)

/-- ITS FALSE NEIGHBOUR: 'it returns false'. Refute it at one input. -/
def pageTurnsWrong : ChangeSpec := { name := "pageTurns", fn := fun _ => fun
  | [d1, d2, d3] => { results := [.lit (.bool false)], args := [d1, d2, d3] }
  | _ => none }
def PageTurnsWrongFalsely : Prop := pageTurnsRow.holds Tryd.pinned (OpenSpec.ofChange pageTurnsWrong)

/- THE SECOND FORM. 'bulk': how many values and letters a reading holds, each counted each time it is reached (what is shared counts as often as it is met; a slice's spare places count too). A statement '..UptoSaid' is the law's where the arguments, and the package variables that the reading takes, are together of bulk at most 1048576: NARROWER than '..Said'. Prove '..Said' where nothing that the law and all that it calls make is longer than what came in: it says more and counts as full. Else prove '..UptoSaid'. A law counts once. -/
mutual
def uptoBulk {H : Type} : DataW H → Nat
  | .lit (.string bytes) => bytes.length + 1
  | .lit _ => 1
  | .nil => 1
  | .ptr d => uptoBulk d + 1
  | .slice elems spare => uptoBulkAll elems + uptoBulkAll spare + 1
  | .agg parts => uptoBulkAll parts + 1
  | .iface _ d => uptoBulk d + 1
  | .map entries => uptoBulkEntries entries + 1
  | .held _ => 1
def uptoBulkAll {H : Type} : List (DataW H) → Nat
  | [] => 0
  | d :: r => uptoBulk d + uptoBulkAll r
def uptoBulkEntries {H : Type} : List (Lit × DataW H) → Nat
  | [] => 0
  | x :: r => uptoBulkEntry x + uptoBulkEntries r
def uptoBulkEntry {H : Type} : Lit × DataW H → Nat
  | (.string bytes, d) => bytes.length + uptoBulk d + 1
  | (_, d) => uptoBulk d + 1
 end
def uptoSmall : (H : Type) → List (DataW H) → Bool := fun _ ds => decide (uptoBulkAll ds ≤ 1048576)
def OpenSpec.upto (s : _root_.Go.ChangeSpec) : _root_.Go.OpenSpec := { _root_.Go.OpenSpec.ofChange s with cond := some uptoSmall }

/-- 'thatchlaw08.SuperCodes', WHERE WHAT IT READS IS OF BULK AT MOST 1048576: true; the input reads as it did. -/
def superCodesUptoRow : OpenClaim := { program := "ythhhmhgmmbfjhaadoor", sum := "b04f0b2ef64f68785847c20c93d1570a42b371c2c080231d6dbed3c2f16d1fc6", func := "thatch/thatchlaw08.SuperCodes", spec := "superCodes", unfollowed := true, recurses := true, named := ["thatch/crc.nibbles"], apart := false, laid := [("thatch/crc.nibbles", laid_thatch_crc_nibbles)], narrowed := true }
def SuperCodesUptoSaid : Prop := superCodesUptoRow.holds Tryd.pinned (OpenSpec.upto superCodesSpec)

/-- 'thatchlaw08.SuperReads', WHERE WHAT IT READS IS OF BULK AT MOST 1048576: true; the input reads as it did. -/
def superReadsUptoRow : OpenClaim := { program := "ythhhmhgmmbfjhaadoor", sum := "b04f0b2ef64f68785847c20c93d1570a42b371c2c080231d6dbed3c2f16d1fc6", func := "thatch/thatchlaw08.SuperReads", spec := "superReads", unfollowed := true, recurses := true, named := ["thatch/crc.nibbles"], apart := false, laid := [("thatch/crc.nibbles", laid_thatch_crc_nibbles)], narrowed := true }
def SuperReadsUptoSaid : Prop := superReadsUptoRow.holds Tryd.pinned (OpenSpec.upto superReadsSpec)

/-- 'thatchlaw08.SuperPicks', WHERE WHAT IT READS IS OF BULK AT MOST 1048576: true; the input reads as it did. -/
def superPicksUptoRow : OpenClaim := { program := "ythhhmhgmmbfjhaadoor", sum := "b04f0b2ef64f68785847c20c93d1570a42b371c2c080231d6dbed3c2f16d1fc6", func := "thatch/thatchlaw08.SuperPicks", spec := "superPicks", unfollowed := true, recurses := true, named := ["thatch/crc.nibbles"], apart := false, laid := [("thatch/crc.nibbles", laid_thatch_crc_nibbles)], narrowed := true }
def SuperPicksUptoSaid : Prop := superPicksUptoRow.holds Tryd.pinned (OpenSpec.upto superPicksSpec)

/-- 'thatchlaw08.SuperNexts', WHERE WHAT IT READS IS OF BULK AT MOST 1048576: true; the input reads as it did. -/
def superNextsUptoRow : OpenClaim := { program := "ythhhmhgmmbfjhaadoor", sum := "b04f0b2ef64f68785847c20c93d1570a42b371c2c080231d6dbed3c2f16d1fc6", func := "thatch/thatchlaw08.SuperNexts", spec := "superNexts", unfollowed := true, recurses := true, named := ["thatch/crc.nibbles"], apart := false, laid := [("thatch/crc.nibbles", laid_thatch_crc_nibbles)], narrowed := true }
def SuperNextsUptoSaid : Prop := superNextsUptoRow.holds Tryd.pinned (OpenSpec.upto superNextsSpec)

/-- 'thatchlaw08.SuperStays', WHERE WHAT IT READS IS OF BULK AT MOST 1048576: true; the input reads as it did. -/
def superStaysUptoRow : OpenClaim := { program := "ythhhmhgmmbfjhaadoor", sum := "b04f0b2ef64f68785847c20c93d1570a42b371c2c080231d6dbed3c2f16d1fc6", func := "thatch/thatchlaw08.SuperStays", spec := "superStays", unfollowed := true, recurses := true, named := ["thatch/crc.nibbles"], apart := false, laid := [("thatch/crc.nibbles", laid_thatch_crc_nibbles)], narrowed := true }
def SuperStaysUptoSaid : Prop := superStaysUptoRow.holds Tryd.pinned (OpenSpec.upto superStaysSpec)

/-- 'thatchlaw11.PageCodes', WHERE WHAT IT READS IS OF BULK AT MOST 1048576: true; the input reads as it did. -/
def pageCodesUptoRow : OpenClaim := { program := "ythhhmhgmmbfjhaadoor", sum := "b04f0b2ef64f68785847c20c93d1570a42b371c2c080231d6dbed3c2f16d1fc6", func := "thatch/thatchlaw11.PageCodes", spec := "pageCodes", unfollowed := true, recurses := true, named := ["thatch/crc.nibbles"], apart := false, laid := [("thatch/crc.nibbles", laid_thatch_crc_nibbles)], narrowed := true }
def PageCodesUptoSaid : Prop := pageCodesUptoRow.holds Tryd.pinned (OpenSpec.upto pageCodesSpec)

/-- 'thatchlaw11.PageReads', WHERE WHAT IT READS IS OF BULK AT MOST 1048576: true; the input reads as it did. -/
def pageReadsUptoRow : OpenClaim := { program := "ythhhmhgmmbfjhaadoor", sum := "b04f0b2ef64f68785847c20c93d1570a42b371c2c080231d6dbed3c2f16d1fc6", func := "thatch/thatchlaw11.PageReads", spec := "pageReads", unfollowed := true, recurses := true, named := ["thatch/crc.nibbles"], apart := false, laid := [("thatch/crc.nibbles", laid_thatch_crc_nibbles)], narrowed := true }
def PageReadsUptoSaid : Prop := pageReadsUptoRow.holds Tryd.pinned (OpenSpec.upto pageReadsSpec)

/-- 'thatchlaw11.PageExtents', WHERE WHAT IT READS IS OF BULK AT MOST 1048576: true; the input reads as it did. -/
def pageExtentsUptoRow : OpenClaim := { program := "ythhhmhgmmbfjhaadoor", sum := "b04f0b2ef64f68785847c20c93d1570a42b371c2c080231d6dbed3c2f16d1fc6", func := "thatch/thatchlaw11.PageExtents", spec := "pageExtents", unfollowed := true, recurses := true, named := ["thatch/crc.nibbles"], apart := false, laid := [("thatch/crc.nibbles", laid_thatch_crc_nibbles)], narrowed := true }
def PageExtentsUptoSaid : Prop := pageExtentsUptoRow.holds Tryd.pinned (OpenSpec.upto pageExtentsSpec)

/-- 'thatchlaw11.PageEmpty', WHERE WHAT IT READS IS OF BULK AT MOST 1048576: true; the input reads as it did. -/
def pageEmptyUptoRow : OpenClaim := { program := "ythhhmhgmmbfjhaadoor", sum := "b04f0b2ef64f68785847c20c93d1570a42b371c2c080231d6dbed3c2f16d1fc6", func := "thatch/thatchlaw11.PageEmpty", spec := "pageEmpty", unfollowed := true, recurses := true, named := ["thatch/crc.nibbles"], apart := false, laid := [("thatch/crc.nibbles", laid_thatch_crc_nibbles)], narrowed := true }
def PageEmptyUptoSaid : Prop := pageEmptyUptoRow.holds Tryd.pinned (OpenSpec.upto pageEmptySpec)

/-- 'thatchlaw11.PageSame', WHERE WHAT IT READS IS OF BULK AT MOST 1048576: true; the input reads as it did. -/
def pageSameUptoRow : OpenClaim := { program := "ythhhmhgmmbfjhaadoor", sum := "b04f0b2ef64f68785847c20c93d1570a42b371c2c080231d6dbed3c2f16d1fc6", func := "thatch/thatchlaw11.PageSame", spec := "pageSame", unfollowed := true, recurses := true, named := ["thatch/crc.nibbles"], apart := false, laid := [("thatch/crc.nibbles", laid_thatch_crc_nibbles)], narrowed := true }
def PageSameUptoSaid : Prop := pageSameUptoRow.holds Tryd.pinned (OpenSpec.upto pageSameSpec)

/-- 'thatchlaw11.PageTurns', WHERE WHAT IT READS IS OF BULK AT MOST 1048576: true; the input reads as it did. -/
def pageTurnsUptoRow : OpenClaim := { program := "ythhhmhgmmbfjhaadoor", sum := "b04f0b2ef64f68785847c20c93d1570a42b371c2c080231d6dbed3c2f16d1fc6", func := "thatch/thatchlaw11.PageTurns", spec := "pageTurns", unfollowed := true, recurses := true, named := ["thatch/crc.nibbles"], apart := false, laid := [("thatch/crc.nibbles", laid_thatch_crc_nibbles)], narrowed := true }
def PageTurnsUptoSaid : Prop := pageTurnsUptoRow.holds Tryd.pinned (OpenSpec.upto pageTurnsSpec)

end Rows
end Go.Proofs.YthhhmhgmmbfjhaaDoor
