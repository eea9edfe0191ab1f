/-
  NARROWER THAN 'FOR EVERY INPUT', by the rows' own cells (each row's printed sentence says how): SuperCodes: laid · SuperReads: laid · SuperPicks: laid · SuperNexts: laid · SuperStays: laid · RecordCodes: laid · RecordReads: laid · RecordDeltas: laid · RecordGroups: laid · RecordNeeds: laid.
  DERIVED. THE GIVEN ROWS OF THIS SEAT. 10 by the template 'for every input the law returns true; each argument reads behind the call as it read before'; 0 by the template 'total and deterministic' (their statements: YtdepkpdolkipcaaDoorTotals.lean).
  GIVEN WITH THE SEED: the statements are not yours to turn. If you find one false, say at which input.
  Laid BY PROGRAM, IN A SANDBOX (cutbox-rows.mjs): the forced cells as the released guide's own fill.sh prints them over the translation 83297ec840aedfbe… (all of the seat's roots in one cut). By AI agents, Wed Nov 11 2026. No macro, syntax, notation, axiom, sorry.
-/
import Derived.Test.YtdepkpdolkipcaaDoorChecked
import GoSem.Claim
import GoSem.ClaimJoined
import GoSem.ClaimMapViews
import Derived.JoinedTies
import Derived.KernelRfl
namespace Go.Proofs.YtdepkpdolkipcaaDoor
/- THE CELL 'sum', in the pinned program and in every row, IS THE sha256 OF THE DUMP (.gsa) THAT YtdepkpdolkipcaaDoorProg.lean LOADS. Nothing in Lean hashes anything: it is a label: what it is worth is what the hold of that sum in a sandbox is worth. -/
noncomputable def Tryd.pinned : Pinned := { name := "ytdepkpdolkipcaadoor", sum := "83297ec840aedfbe2e6c71cafad7380f37b07b7be85fb394b4108fd8152448dc", checked := Tryd.checked }
namespace Rows
def none {H : Type} : Left H := { results := [], args := [] }

/- WHAT THE LISTED PACKAGE-LEVEL VARIABLES READ AS WHEN THE CALL BEGINS. Each datum BY PROGRAM (the guide's laid-datum.mjs) off the statement by which the dump's own 'gosem.cut.vars' lays the variable. In a bare row this is a premise. The card (YtdepkpdolkipcaaDoorCards.lean) ties it to the program's text. -/
def laid_thatch_crc_nibbles {H : Type} : DataW H := .agg [.lit (.int .u32 0), .lit (.int .u32 274646895), .lit (.int .u32 549293790), .lit (.int .u32 820201905), .lit (.int .u32 1098587580), .lit (.int .u32 1361435347), .lit (.int .u32 1640403810), .lit (.int .u32 1905808397), .lit (.int .u32 2197175160), .lit (.int .u32 2460548119), .lit (.int .u32 2722870694), .lit (.int .u32 2987750089), .lit (.int .u32 3280807620), .lit (.int .u32 3553878443), .lit (.int .u32 3811616794), .lit (.int .u32 4084100981)]

/-- 'thatchlaw08.SuperCodes': WHATEVER THE INPUT: true; the input reads as it did. -/
def superCodesSpec : ChangeSpec := { name := "superCodes", fn := fun _ => fun
  | [d] => { results := [.lit (.bool true)], args := [d] }
  | _ => none }
def superCodesRow : OpenClaim := { program := "ytdepkpdolkipcaadoor", sum := "83297ec840aedfbe2e6c71cafad7380f37b07b7be85fb394b4108fd8152448dc", func := "thatch/thatchlaw08.SuperCodes", spec := "superCodes", unfollowed := true, recurses := true, named := ["thatch/crc.nibbles"], apart := false, laid := [("thatch/crc.nibbles", laid_thatch_crc_nibbles)] }
def SuperCodesSaid : Prop := superCodesRow.holds Tryd.pinned (OpenSpec.ofChange superCodesSpec)

/-- ITS FALSE NEIGHBOUR: 'it returns false'. Refute it at one input. -/
def superCodesWrong : ChangeSpec := { name := "superCodes", fn := fun _ => fun
  | [d] => { results := [.lit (.bool false)], args := [d] }
  | _ => none }
def SuperCodesWrongFalsely : Prop := superCodesRow.holds Tryd.pinned (OpenSpec.ofChange superCodesWrong)

/-- 'thatchlaw08.SuperReads': WHATEVER THE INPUT: true; the input reads as it did. -/
def superReadsSpec : ChangeSpec := { name := "superReads", fn := fun _ => fun
  | [d] => { results := [.lit (.bool true)], args := [d] }
  | _ => none }
def superReadsRow : OpenClaim := { program := "ytdepkpdolkipcaadoor", sum := "83297ec840aedfbe2e6c71cafad7380f37b07b7be85fb394b4108fd8152448dc", func := "thatch/thatchlaw08.SuperReads", spec := "superReads", unfollowed := true, recurses := true, named := ["thatch/crc.nibbles"], apart := false, laid := [("thatch/crc.nibbles", laid_thatch_crc_nibbles)] }
def SuperReadsSaid : Prop := superReadsRow.holds Tryd.pinned (OpenSpec.ofChange superReadsSpec)

/-- ITS FALSE NEIGHBOUR: 'it returns false'. Refute it at one input. -/
def superReadsWrong : ChangeSpec := { name := "superReads", fn := fun _ => fun
  | [d] => { results := [.lit (.bool false)], args := [d] }
  | _ => none }
def SuperReadsWrongFalsely : Prop := superReadsRow.holds Tryd.pinned (OpenSpec.ofChange superReadsWrong)

/-- 'thatchlaw08.SuperPicks': WHATEVER THE INPUT: true; the input reads as it did. -/
def superPicksSpec : ChangeSpec := { name := "superPicks", fn := fun _ => fun
  | [d1, d2] => { results := [.lit (.bool true)], args := [d1, d2] }
  | _ => none }
def superPicksRow : OpenClaim := { program := "ytdepkpdolkipcaadoor", sum := "83297ec840aedfbe2e6c71cafad7380f37b07b7be85fb394b4108fd8152448dc", func := "thatch/thatchlaw08.SuperPicks", spec := "superPicks", unfollowed := true, recurses := true, named := ["thatch/crc.nibbles"], apart := false, laid := [("thatch/crc.nibbles", laid_thatch_crc_nibbles)] }
def SuperPicksSaid : Prop := superPicksRow.holds Tryd.pinned (OpenSpec.ofChange superPicksSpec)

/-- ITS FALSE NEIGHBOUR: 'it returns false'. Refute it at one input. -/
def superPicksWrong : ChangeSpec := { name := "superPicks", fn := fun _ => fun
  | [d1, d2] => { results := [.lit (.bool false)], args := [d1, d2] }
  | _ => none }
def SuperPicksWrongFalsely : Prop := superPicksRow.holds Tryd.pinned (OpenSpec.ofChange superPicksWrong)

/-- 'thatchlaw08.SuperNexts': WHATEVER THE INPUT: true; the input reads as it did. -/
def superNextsSpec : ChangeSpec := { name := "superNexts", fn := fun _ => fun
  | [d1, d2, d3, d4, d5] => { results := [.lit (.bool true)], args := [d1, d2, d3, d4, d5] }
  | _ => none }
def superNextsRow : OpenClaim := { program := "ytdepkpdolkipcaadoor", sum := "83297ec840aedfbe2e6c71cafad7380f37b07b7be85fb394b4108fd8152448dc", func := "thatch/thatchlaw08.SuperNexts", spec := "superNexts", unfollowed := true, recurses := true, named := ["thatch/crc.nibbles"], apart := false, laid := [("thatch/crc.nibbles", laid_thatch_crc_nibbles)] }
def SuperNextsSaid : Prop := superNextsRow.holds Tryd.pinned (OpenSpec.ofChange superNextsSpec)

/-- ITS FALSE NEIGHBOUR: 'it returns false'. Refute it at one input. -/
def superNextsWrong : ChangeSpec := { name := "superNexts", fn := fun _ => fun
  | [d1, d2, d3, d4, d5] => { results := [.lit (.bool false)], args := [d1, d2, d3, d4, d5] }
  | _ => none }
def SuperNextsWrongFalsely : Prop := superNextsRow.holds Tryd.pinned (OpenSpec.ofChange superNextsWrong)

/-- 'thatchlaw08.SuperStays': WHATEVER THE INPUT: true; the input reads as it did. -/
def superStaysSpec : ChangeSpec := { name := "superStays", fn := fun _ => fun
  | [d1, d2] => { results := [.lit (.bool true)], args := [d1, d2] }
  | _ => none }
def superStaysRow : OpenClaim := { program := "ytdepkpdolkipcaadoor", sum := "83297ec840aedfbe2e6c71cafad7380f37b07b7be85fb394b4108fd8152448dc", func := "thatch/thatchlaw08.SuperStays", spec := "superStays", unfollowed := true, recurses := true, named := ["thatch/crc.nibbles"], apart := false, laid := [("thatch/crc.nibbles", laid_thatch_crc_nibbles)] }
def SuperStaysSaid : Prop := superStaysRow.holds Tryd.pinned (OpenSpec.ofChange superStaysSpec)

/-- ITS FALSE NEIGHBOUR: 'it returns false'. Refute it at one input. -/
def superStaysWrong : ChangeSpec := { name := "superStays", fn := fun _ => fun
  | [d1, d2] => { results := [.lit (.bool false)], args := [d1, d2] }
  | _ => none }
def SuperStaysWrongFalsely : Prop := superStaysRow.holds Tryd.pinned (OpenSpec.ofChange superStaysWrong)

/-- 'thatchlaw09.RecordCodes': WHATEVER THE INPUT: true; the input reads as it did. -/
def recordCodesSpec : ChangeSpec := { name := "recordCodes", fn := fun _ => fun
  | [d] => { results := [.lit (.bool true)], args := [d] }
  | _ => none }
def recordCodesRow : OpenClaim := { program := "ytdepkpdolkipcaadoor", sum := "83297ec840aedfbe2e6c71cafad7380f37b07b7be85fb394b4108fd8152448dc", func := "thatch/thatchlaw09.RecordCodes", spec := "recordCodes", unfollowed := true, recurses := true, named := ["thatch/crc.nibbles"], apart := false, laid := [("thatch/crc.nibbles", laid_thatch_crc_nibbles)] }
def RecordCodesSaid : Prop := recordCodesRow.holds Tryd.pinned (OpenSpec.ofChange recordCodesSpec)

/-- ITS FALSE NEIGHBOUR: 'it returns false'. Refute it at one input. -/
def recordCodesWrong : ChangeSpec := { name := "recordCodes", fn := fun _ => fun
  | [d] => { results := [.lit (.bool false)], args := [d] }
  | _ => none }
def RecordCodesWrongFalsely : Prop := recordCodesRow.holds Tryd.pinned (OpenSpec.ofChange recordCodesWrong)

/-- 'thatchlaw09.RecordReads': WHATEVER THE INPUT: true; the input reads as it did. -/
def recordReadsSpec : ChangeSpec := { name := "recordReads", fn := fun _ => fun
  | [d] => { results := [.lit (.bool true)], args := [d] }
  | _ => none }
def recordReadsRow : OpenClaim := { program := "ytdepkpdolkipcaadoor", sum := "83297ec840aedfbe2e6c71cafad7380f37b07b7be85fb394b4108fd8152448dc", func := "thatch/thatchlaw09.RecordReads", spec := "recordReads", unfollowed := true, recurses := true, named := ["thatch/crc.nibbles"], apart := false, laid := [("thatch/crc.nibbles", laid_thatch_crc_nibbles)] }
def RecordReadsSaid : Prop := recordReadsRow.holds Tryd.pinned (OpenSpec.ofChange recordReadsSpec)

/-- ITS FALSE NEIGHBOUR: 'it returns false'. Refute it at one input. -/
def recordReadsWrong : ChangeSpec := { name := "recordReads", fn := fun _ => fun
  | [d] => { results := [.lit (.bool false)], args := [d] }
  | _ => none }
def RecordReadsWrongFalsely : Prop := recordReadsRow.holds Tryd.pinned (OpenSpec.ofChange recordReadsWrong)

/-- 'thatchlaw09.RecordDeltas': WHATEVER THE INPUT: true; the input reads as it did. -/
def recordDeltasSpec : ChangeSpec := { name := "recordDeltas", fn := fun _ => fun
  | [d1, d2, d3] => { results := [.lit (.bool true)], args := [d1, d2, d3] }
  | _ => none }
def recordDeltasRow : OpenClaim := { program := "ytdepkpdolkipcaadoor", sum := "83297ec840aedfbe2e6c71cafad7380f37b07b7be85fb394b4108fd8152448dc", func := "thatch/thatchlaw09.RecordDeltas", spec := "recordDeltas", unfollowed := true, recurses := true, named := ["thatch/crc.nibbles"], apart := false, laid := [("thatch/crc.nibbles", laid_thatch_crc_nibbles)] }
def RecordDeltasSaid : Prop := recordDeltasRow.holds Tryd.pinned (OpenSpec.ofChange recordDeltasSpec)

/-- ITS FALSE NEIGHBOUR: 'it returns false'. Refute it at one input. -/
def recordDeltasWrong : ChangeSpec := { name := "recordDeltas", fn := fun _ => fun
  | [d1, d2, d3] => { results := [.lit (.bool false)], args := [d1, d2, d3] }
  | _ => none }
def RecordDeltasWrongFalsely : Prop := recordDeltasRow.holds Tryd.pinned (OpenSpec.ofChange recordDeltasWrong)

/-- 'thatchlaw09.RecordGroups': WHATEVER THE INPUT: true; the input reads as it did. -/
def recordGroupsSpec : ChangeSpec := { name := "recordGroups", fn := fun _ => fun
  | [d1, d2, d3, d4] => { results := [.lit (.bool true)], args := [d1, d2, d3, d4] }
  | _ => none }
def recordGroupsRow : OpenClaim := { program := "ytdepkpdolkipcaadoor", sum := "83297ec840aedfbe2e6c71cafad7380f37b07b7be85fb394b4108fd8152448dc", func := "thatch/thatchlaw09.RecordGroups", spec := "recordGroups", unfollowed := true, recurses := true, named := ["thatch/crc.nibbles"], apart := false, laid := [("thatch/crc.nibbles", laid_thatch_crc_nibbles)] }
def RecordGroupsSaid : Prop := recordGroupsRow.holds Tryd.pinned (OpenSpec.ofChange recordGroupsSpec)

/-- ITS FALSE NEIGHBOUR: 'it returns false'. Refute it at one input. -/
def recordGroupsWrong : ChangeSpec := { name := "recordGroups", fn := fun _ => fun
  | [d1, d2, d3, d4] => { results := [.lit (.bool false)], args := [d1, d2, d3, d4] }
  | _ => none }
def RecordGroupsWrongFalsely : Prop := recordGroupsRow.holds Tryd.pinned (OpenSpec.ofChange recordGroupsWrong)

/-- 'thatchlaw09.RecordNeeds': WHATEVER THE INPUT: true; the input reads as it did. -/
def recordNeedsSpec : ChangeSpec := { name := "recordNeeds", fn := fun _ => fun
  | [d] => { results := [.lit (.bool true)], args := [d] }
  | _ => none }
def recordNeedsRow : OpenClaim := { program := "ytdepkpdolkipcaadoor", sum := "83297ec840aedfbe2e6c71cafad7380f37b07b7be85fb394b4108fd8152448dc", func := "thatch/thatchlaw09.RecordNeeds", spec := "recordNeeds", unfollowed := true, recurses := true, named := ["thatch/crc.nibbles"], apart := false, laid := [("thatch/crc.nibbles", laid_thatch_crc_nibbles)] }
def RecordNeedsSaid : Prop := recordNeedsRow.holds Tryd.pinned (OpenSpec.ofChange recordNeedsSpec)

/-- ITS FALSE NEIGHBOUR: 'it returns false'. Refute it at one input. -/
def recordNeedsWrong : ChangeSpec := { name := "recordNeeds", fn := fun _ => fun
  | [d] => { results := [.lit (.bool false)], args := [d] }
  | _ => none }
def RecordNeedsWrongFalsely : Prop := recordNeedsRow.holds Tryd.pinned (OpenSpec.ofChange recordNeedsWrong)

/- THE SECOND FORM. 'bulk': how many values and letters a reading holds, each counted each time it is reached (what is shared counts as often as it is met; a slice's spare places count too). A statement '..UptoSaid' is the law's where the arguments, and the package variables that the reading takes, are together of bulk at most 1048576: NARROWER than '..Said'. Prove '..Said' where nothing that the law and all that it calls make is longer than what came in: it says more and counts as full. Else prove '..UptoSaid'. A law counts once. -/
mutual
def uptoBulk {H : Type} : DataW H → Nat
  | .lit (.string bytes) => bytes.length + 1
  | .lit _ => 1
  | .nil => 1
  | .ptr d => uptoBulk d + 1
  | .slice elems spare => uptoBulkAll elems + uptoBulkAll spare + 1
  | .agg parts => uptoBulkAll parts + 1
  | .iface _ d => uptoBulk d + 1
  | .map entries => uptoBulkEntries entries + 1
  | .held _ => 1
def uptoBulkAll {H : Type} : List (DataW H) → Nat
  | [] => 0
  | d :: r => uptoBulk d + uptoBulkAll r
def uptoBulkEntries {H : Type} : List (Lit × DataW H) → Nat
  | [] => 0
  | x :: r => uptoBulkEntry x + uptoBulkEntries r
def uptoBulkEntry {H : Type} : Lit × DataW H → Nat
  | (.string bytes, d) => bytes.length + uptoBulk d + 1
  | (_, d) => uptoBulk d + 1
 end
def uptoSmall : (H : Type) → List (DataW H) → Bool := fun _ ds => decide (uptoBulkAll ds ≤ 1048576)
def OpenSpec.upto (s : _root_.Go.ChangeSpec) : _root_.Go.OpenSpec := { _root_.Go.OpenSpec.ofChange s with cond := some uptoSmall }

/-- 'thatchlaw08.SuperCodes', WHERE WHAT IT READS IS OF BULK AT MOST 1048576: true; the input reads as it did. -/
def superCodesUptoRow : OpenClaim := { program := "ytdepkpdolkipcaadoor", sum := "83297ec840aedfbe2e6c71cafad7380f37b07b7be85fb394b4108fd8152448dc", func := "thatch/thatchlaw08.SuperCodes", spec := "superCodes", unfollowed := true, recurses := true, named := ["thatch/crc.nibbles"], apart := false, laid := [("thatch/crc.nibbles", laid_thatch_crc_nibbles)], narrowed := true }
def SuperCodesUptoSaid : Prop := superCodesUptoRow.holds Tryd.pinned (OpenSpec.upto superCodesSpec)

/-- 'thatchlaw08.SuperReads', WHERE WHAT IT READS IS OF BULK AT MOST 1048576: true; the input reads as it did. -/
def superReadsUptoRow : OpenClaim := { program := "ytdepkpdolkipcaadoor", sum := "83297ec840aedfbe2e6c71cafad7380f37b07b7be85fb394b4108fd8152448dc", func := "thatch/thatchlaw08.SuperReads", spec := "superReads", unfollowed := true, recurses := true, named := ["thatch/crc.nibbles"], apart := false, laid := [("thatch/crc.nibbles", laid_thatch_crc_nibbles)], narrowed := true }
def SuperReadsUptoSaid : Prop := superReadsUptoRow.holds Tryd.pinned (OpenSpec.upto superReadsSpec)

/-- 'thatchlaw08.SuperPicks', WHERE WHAT IT READS IS OF BULK AT MOST 1048576: true; the input reads as it did. -/
def superPicksUptoRow : OpenClaim := { program := "ytdepkpdolkipcaadoor", sum := "83297ec840aedfbe2e6c71cafad7380f37b07b7be85fb394b4108fd8152448dc", func := "thatch/thatchlaw08.SuperPicks", spec := "superPicks", unfollowed := true, recurses := true, named := ["thatch/crc.nibbles"], apart := false, laid := [("thatch/crc.nibbles", laid_thatch_crc_nibbles)], narrowed := true }
def SuperPicksUptoSaid : Prop := superPicksUptoRow.holds Tryd.pinned (OpenSpec.upto superPicksSpec)

/-- 'thatchlaw08.SuperNexts', WHERE WHAT IT READS IS OF BULK AT MOST 1048576: true; the input reads as it did. -/
def superNextsUptoRow : OpenClaim := { program := "ytdepkpdolkipcaadoor", sum := "83297ec840aedfbe2e6c71cafad7380f37b07b7be85fb394b4108fd8152448dc", func := "thatch/thatchlaw08.SuperNexts", spec := "superNexts", unfollowed := true, recurses := true, named := ["thatch/crc.nibbles"], apart := false, laid := [("thatch/crc.nibbles", laid_thatch_crc_nibbles)], narrowed := true }
def SuperNextsUptoSaid : Prop := superNextsUptoRow.holds Tryd.pinned (OpenSpec.upto superNextsSpec)

/-- 'thatchlaw08.SuperStays', WHERE WHAT IT READS IS OF BULK AT MOST 1048576: true; the input reads as it did. -/
def superStaysUptoRow : OpenClaim := { program := "ytdepkpdolkipcaadoor", sum := "83297ec840aedfbe2e6c71cafad7380f37b07b7be85fb394b4108fd8152448dc", func := "thatch/thatchlaw08.SuperStays", spec := "superStays", unfollowed := true, recurses := true, named := ["thatch/crc.nibbles"], apart := false, laid := [("thatch/crc.nibbles", laid_thatch_crc_nibbles)], narrowed := true }
def SuperStaysUptoSaid : Prop := superStaysUptoRow.holds Tryd.pinned (OpenSpec.upto superStaysSpec)

/-- 'thatchlaw09.RecordCodes', WHERE WHAT IT READS IS OF BULK AT MOST 1048576: true; the input reads as it did. -/
def recordCodesUptoRow : OpenClaim := { program := "ytdepkpdolkipcaadoor", sum := "83297ec840aedfbe2e6c71cafad7380f37b07b7be85fb394b4108fd8152448dc", func := "thatch/thatchlaw09.RecordCodes", spec := "recordCodes", unfollowed := true, recurses := true, named := ["thatch/crc.nibbles"], apart := false, laid := [("thatch/crc.nibbles", laid_thatch_crc_nibbles)], narrowed := true }
def RecordCodesUptoSaid : Prop := recordCodesUptoRow.holds Tryd.pinned (OpenSpec.upto recordCodesSpec)

/-- 'thatchlaw09.RecordReads', WHERE WHAT IT READS IS OF BULK AT MOST 1048576: true; the input reads as it did. -/
def recordReadsUptoRow : OpenClaim := { program := "ytdepkpdolkipcaadoor", sum := "83297ec840aedfbe2e6c71cafad7380f37b07b7be85fb394b4108fd8152448dc", func := "thatch/thatchlaw09.RecordReads", spec := "recordReads", unfollowed := true, recurses := true, named := ["thatch/crc.nibbles"], apart := false, laid := [("thatch/crc.nibbles", laid_thatch_crc_nibbles)], narrowed := true }
def RecordReadsUptoSaid : Prop := recordReadsUptoRow.holds Tryd.pinned (OpenSpec.upto recordReadsSpec)

/-- 'thatchlaw09.RecordDeltas', WHERE WHAT IT READS IS OF BULK AT MOST 1048576: true; the input reads as it did. -/
def recordDeltasUptoRow : OpenClaim := { program := "ytdepkpdolkipcaadoor", sum := "83297ec840aedfbe2e6c71cafad7380f37b07b7be85fb394b4108fd8152448dc", func := "thatch/thatchlaw09.RecordDeltas", spec := "recordDeltas", unfollowed := true, recurses := true, named := ["thatch/crc.nibbles"], apart := false, laid := [("thatch/crc.nibbles", laid_thatch_crc_nibbles)], narrowed := true }
def RecordDeltasUptoSaid : Prop := recordDeltasUptoRow.holds Tryd.pinned (OpenSpec.upto recordDeltasSpec)

/-- 'thatchlaw09.RecordGroups', WHERE WHAT IT READS IS OF BULK AT MOST 1048576: true; the input reads as it did. -/
def recordGroupsUptoRow : OpenClaim := { program := "ytdepkpdolkipcaadoor", sum := "83297ec840aedfbe2e6c71cafad7380f37b07b7be85fb394b4108fd8152448dc", func := "thatch/thatchlaw09.RecordGroups", spec := "recordGroups", unfollowed := true, recurses := true, named := ["thatch/crc.nibbles"], apart := false, laid := [("thatch/crc.nibbles", laid_thatch_crc_nibbles)], narrowed := true }
def RecordGroupsUptoSaid : Prop := recordGroupsUptoRow.holds Tryd.pinned (OpenSpec.upto recordGroupsSpec)

/-- 'thatchlaw09.RecordNeeds', WHERE WHAT IT READS IS OF BULK AT MOST 1048576: true; the input reads as it did. -/
def recordNeedsUptoRow : OpenClaim := { program := "ytdepkpdolkipcaadoor", sum := "83297ec840aedfbe2e6c71cafad7380f37b07b7be85fb394b4108fd8152448dc", func := "thatch/thatchlaw09.RecordNeeds", spec := "recordNeeds", unfollowed := true, recurses := true, named := ["thatch/crc.nibbles"], apart := false, laid := [("thatch/crc.nibbles", laid_thatch_crc_nibbles)], narrowed := true }
def RecordNeedsUptoSaid : Prop := recordNeedsUptoRow.holds Tryd.pinned (OpenSpec.upto recordNeedsSpec)

end Rows
end Go.Proofs.YtdepkpdolkipcaaDoor
