/-
  No cell of these rows narrows 'for every input' (looked for: loops, veiled, ifaces, maps, wideKeys, modest, calm, conditions, laid).
  DERIVED. THE GIVEN ROWS OF THIS SEAT. 7 by the template 'for every input the law returns true; each argument reads behind the call as it read before'; 0 by the template 'total and deterministic' (their statements: YtecngikdfplibaaTotals.lean).
  GIVEN WITH THE SEED: the statements are not yours to turn. If you find one false, say at which input.
  Laid BY PROGRAM, IN A SANDBOX (cutbox-rows.mjs): the forced cells as the released guide's own fill.sh prints them over the translation ada4266a1aac3587… (all of the seat's roots in one cut). By AI agents, Wed Nov 11 2026. No macro, syntax, notation, axiom, sorry.
-/
import Derived.Test.YtecngikdfplibaaChecked
import GoSem.Claim
import GoSem.ClaimJoined
import GoSem.ClaimMapViews
import Derived.JoinedTies
import Derived.KernelRfl
namespace Go.Proofs.Ytecngikdfplibaa
/- THE CELL 'sum', in the pinned program and in every row, IS THE sha256 OF THE DUMP (.gsa) THAT YtecngikdfplibaaProg.lean LOADS. Nothing in Lean hashes anything: it is a label: what it is worth is what the hold of that sum in a sandbox is worth. -/
noncomputable def Try.pinned : Pinned := { name := "ytecngikdfplibaa", sum := "ada4266a1aac35879c5ac7eab77cd544f7dbb8412d183e91be267cf72d08a522", checked := Try.checked }
namespace Rows
def none {H : Type} : Left H := { results := [], args := [] }

/-- 'thatchlaw13.ValidCounts': WHATEVER THE INPUT: true; the input reads as it did. -/
def validCountsSpec : ChangeSpec := { name := "validCounts", fn := fun _ => fun
  | [d1, d2] => { results := [.lit (.bool true)], args := [d1, d2] }
  | _ => none }
def validCountsRow : OpenClaim := { program := "ytecngikdfplibaa", sum := "ada4266a1aac35879c5ac7eab77cd544f7dbb8412d183e91be267cf72d08a522", func := "thatch/thatchlaw13.ValidCounts", spec := "validCounts", unfollowed := true, recurses := true, apart := false }
def ValidCountsSaid : Prop := validCountsRow.holds Try.pinned (OpenSpec.ofChange validCountsSpec)

/-- ITS FALSE NEIGHBOUR: 'it returns false'. Refute it at one input. -/
def validCountsWrong : ChangeSpec := { name := "validCounts", fn := fun _ => fun
  | [d1, d2] => { results := [.lit (.bool false)], args := [d1, d2] }
  | _ => none }
def ValidCountsWrongFalsely : Prop := validCountsRow.holds Try.pinned (OpenSpec.ofChange validCountsWrong)

/-- 'thatchlaw13.ValidLive': WHATEVER THE INPUT: true; the input reads as it did. -/
def validLiveSpec : ChangeSpec := { name := "validLive", fn := fun _ => fun
  | [d1, d2, d3] => { results := [.lit (.bool true)], args := [d1, d2, d3] }
  | _ => none }
def validLiveRow : OpenClaim := { program := "ytecngikdfplibaa", sum := "ada4266a1aac35879c5ac7eab77cd544f7dbb8412d183e91be267cf72d08a522", func := "thatch/thatchlaw13.ValidLive", spec := "validLive", unfollowed := true, recurses := true, apart := false }
def ValidLiveSaid : Prop := validLiveRow.holds Try.pinned (OpenSpec.ofChange validLiveSpec)

/-- ITS FALSE NEIGHBOUR: 'it returns false'. Refute it at one input. -/
def validLiveWrong : ChangeSpec := { name := "validLive", fn := fun _ => fun
  | [d1, d2, d3] => { results := [.lit (.bool false)], args := [d1, d2, d3] }
  | _ => none }
def ValidLiveWrongFalsely : Prop := validLiveRow.holds Try.pinned (OpenSpec.ofChange validLiveWrong)

/-- 'thatchlaw13.ValidApart': WHATEVER THE INPUT: true; the input reads as it did. -/
def validApartSpec : ChangeSpec := { name := "validApart", fn := fun _ => fun
  | [d1, d2] => { results := [.lit (.bool true)], args := [d1, d2] }
  | _ => none }
def validApartRow : OpenClaim := { program := "ytecngikdfplibaa", sum := "ada4266a1aac35879c5ac7eab77cd544f7dbb8412d183e91be267cf72d08a522", func := "thatch/thatchlaw13.ValidApart", spec := "validApart", unfollowed := true, recurses := true, apart := false }
def ValidApartSaid : Prop := validApartRow.holds Try.pinned (OpenSpec.ofChange validApartSpec)

/-- ITS FALSE NEIGHBOUR: 'it returns false'. Refute it at one input. -/
def validApartWrong : ChangeSpec := { name := "validApart", fn := fun _ => fun
  | [d1, d2] => { results := [.lit (.bool false)], args := [d1, d2] }
  | _ => none }
def ValidApartWrongFalsely : Prop := validApartRow.holds Try.pinned (OpenSpec.ofChange validApartWrong)

/-- 'thatchlaw13.ValidZones': WHATEVER THE INPUT: true; the input reads as it did. -/
def validZonesSpec : ChangeSpec := { name := "validZones", fn := fun _ => fun
  | [d1, d2, d3] => { results := [.lit (.bool true)], args := [d1, d2, d3] }
  | _ => none }
def validZonesRow : OpenClaim := { program := "ytecngikdfplibaa", sum := "ada4266a1aac35879c5ac7eab77cd544f7dbb8412d183e91be267cf72d08a522", func := "thatch/thatchlaw13.ValidZones", spec := "validZones", unfollowed := true, recurses := true, apart := false }
def ValidZonesSaid : Prop := validZonesRow.holds Try.pinned (OpenSpec.ofChange validZonesSpec)

/-- ITS FALSE NEIGHBOUR: 'it returns false'. Refute it at one input. -/
def validZonesWrong : ChangeSpec := { name := "validZones", fn := fun _ => fun
  | [d1, d2, d3] => { results := [.lit (.bool false)], args := [d1, d2, d3] }
  | _ => none }
def ValidZonesWrongFalsely : Prop := validZonesRow.holds Try.pinned (OpenSpec.ofChange validZonesWrong)

/-- 'thatchlaw14.PoolDoes': WHATEVER THE INPUT: true; the input reads as it did. -/
def poolDoesSpec : ChangeSpec := { name := "poolDoes", fn := fun _ => fun
  | [d1, d2, d3] => { results := [.lit (.bool true)], args := [d1, d2, d3] }
  | _ => none }
def poolDoesRow : OpenClaim := { program := "ytecngikdfplibaa", sum := "ada4266a1aac35879c5ac7eab77cd544f7dbb8412d183e91be267cf72d08a522", func := "thatch/thatchlaw14.PoolDoes", spec := "poolDoes", unfollowed := true, recurses := true, apart := false }
def PoolDoesSaid : Prop := poolDoesRow.holds Try.pinned (OpenSpec.ofChange poolDoesSpec)

/-- ITS FALSE NEIGHBOUR: 'it returns false'. Refute it at one input. -/
def poolDoesWrong : ChangeSpec := { name := "poolDoes", fn := fun _ => fun
  | [d1, d2, d3] => { results := [.lit (.bool false)], args := [d1, d2, d3] }
  | _ => none }
def PoolDoesWrongFalsely : Prop := poolDoesRow.holds Try.pinned (OpenSpec.ofChange poolDoesWrong)

/-- 'thatchlaw14.PoolSpares': WHATEVER THE INPUT: true; the input reads as it did. -/
def poolSparesSpec : ChangeSpec := { name := "poolSpares", fn := fun _ => fun
  | [d1, d2] => { results := [.lit (.bool true)], args := [d1, d2] }
  | _ => none }
def poolSparesRow : OpenClaim := { program := "ytecngikdfplibaa", sum := "ada4266a1aac35879c5ac7eab77cd544f7dbb8412d183e91be267cf72d08a522", func := "thatch/thatchlaw14.PoolSpares", spec := "poolSpares", unfollowed := true, recurses := true, apart := false }
def PoolSparesSaid : Prop := poolSparesRow.holds Try.pinned (OpenSpec.ofChange poolSparesSpec)

/-- ITS FALSE NEIGHBOUR: 'it returns false'. Refute it at one input. -/
def poolSparesWrong : ChangeSpec := { name := "poolSpares", fn := fun _ => fun
  | [d1, d2] => { results := [.lit (.bool false)], args := [d1, d2] }
  | _ => none }
def PoolSparesWrongFalsely : Prop := poolSparesRow.holds Try.pinned (OpenSpec.ofChange poolSparesWrong)

/-- 'thatchlaw14.PoolNobody': WHATEVER THE INPUT: true; the input reads as it did. -/
def poolNobodySpec : ChangeSpec := { name := "poolNobody", fn := fun _ => fun
  | [d] => { results := [.lit (.bool true)], args := [d] }
  | _ => none }
def poolNobodyRow : OpenClaim := { program := "ytecngikdfplibaa", sum := "ada4266a1aac35879c5ac7eab77cd544f7dbb8412d183e91be267cf72d08a522", func := "thatch/thatchlaw14.PoolNobody", spec := "poolNobody", unfollowed := true, recurses := true, apart := false }
def PoolNobodySaid : Prop := poolNobodyRow.holds Try.pinned (OpenSpec.ofChange poolNobodySpec)

/-- ITS FALSE NEIGHBOUR: 'it returns false'. Refute it at one input. -/
def poolNobodyWrong : ChangeSpec := { name := "poolNobody", fn := fun _ => fun
  | [d] => { results := [.lit (.bool false)], args := [d] }
  | _ => none }
def PoolNobodyWrongFalsely : Prop := poolNobodyRow.holds Try.pinned (OpenSpec.ofChange poolNobodyWrong)

/- THE SECOND FORM. 'bulk': how many values and letters a reading holds, each counted each time it is reached (what is shared counts as often as it is met; a slice's spare places count too). A statement '..UptoSaid' is the law's where the arguments, and the package variables that the reading takes, are together of bulk at most 1048576: NARROWER than '..Said'. Prove '..Said' where nothing that the law and all that it calls make is longer than what came in: it says more and counts as full. Else prove '..UptoSaid'. A law counts once. -/
mutual
def uptoBulk {H : Type} : DataW H → Nat
  | .lit (.string bytes) => bytes.length + 1
  | .lit _ => 1
  | .nil => 1
  | .ptr d => uptoBulk d + 1
  | .slice elems spare => uptoBulkAll elems + uptoBulkAll spare + 1
  | .agg parts => uptoBulkAll parts + 1
  | .iface _ d => uptoBulk d + 1
  | .map entries => uptoBulkEntries entries + 1
  | .held _ => 1
def uptoBulkAll {H : Type} : List (DataW H) → Nat
  | [] => 0
  | d :: r => uptoBulk d + uptoBulkAll r
def uptoBulkEntries {H : Type} : List (Lit × DataW H) → Nat
  | [] => 0
  | x :: r => uptoBulkEntry x + uptoBulkEntries r
def uptoBulkEntry {H : Type} : Lit × DataW H → Nat
  | (.string bytes, d) => bytes.length + uptoBulk d + 1
  | (_, d) => uptoBulk d + 1
 end
def uptoSmall : (H : Type) → List (DataW H) → Bool := fun _ ds => decide (uptoBulkAll ds ≤ 1048576)
def OpenSpec.upto (s : _root_.Go.ChangeSpec) : _root_.Go.OpenSpec := { _root_.Go.OpenSpec.ofChange s with cond := some uptoSmall }

/-- 'thatchlaw13.ValidCounts', WHERE WHAT IT READS IS OF BULK AT MOST 1048576: true; the input reads as it did. -/
def validCountsUptoRow : OpenClaim := { program := "ytecngikdfplibaa", sum := "ada4266a1aac35879c5ac7eab77cd544f7dbb8412d183e91be267cf72d08a522", func := "thatch/thatchlaw13.ValidCounts", spec := "validCounts", unfollowed := true, recurses := true, apart := false, narrowed := true }
def ValidCountsUptoSaid : Prop := validCountsUptoRow.holds Try.pinned (OpenSpec.upto validCountsSpec)

/-- 'thatchlaw13.ValidLive', WHERE WHAT IT READS IS OF BULK AT MOST 1048576: true; the input reads as it did. -/
def validLiveUptoRow : OpenClaim := { program := "ytecngikdfplibaa", sum := "ada4266a1aac35879c5ac7eab77cd544f7dbb8412d183e91be267cf72d08a522", func := "thatch/thatchlaw13.ValidLive", spec := "validLive", unfollowed := true, recurses := true, apart := false, narrowed := true }
def ValidLiveUptoSaid : Prop := validLiveUptoRow.holds Try.pinned (OpenSpec.upto validLiveSpec)

/-- 'thatchlaw13.ValidApart', WHERE WHAT IT READS IS OF BULK AT MOST 1048576: true; the input reads as it did. -/
def validApartUptoRow : OpenClaim := { program := "ytecngikdfplibaa", sum := "ada4266a1aac35879c5ac7eab77cd544f7dbb8412d183e91be267cf72d08a522", func := "thatch/thatchlaw13.ValidApart", spec := "validApart", unfollowed := true, recurses := true, apart := false, narrowed := true }
def ValidApartUptoSaid : Prop := validApartUptoRow.holds Try.pinned (OpenSpec.upto validApartSpec)

/-- 'thatchlaw13.ValidZones', WHERE WHAT IT READS IS OF BULK AT MOST 1048576: true; the input reads as it did. -/
def validZonesUptoRow : OpenClaim := { program := "ytecngikdfplibaa", sum := "ada4266a1aac35879c5ac7eab77cd544f7dbb8412d183e91be267cf72d08a522", func := "thatch/thatchlaw13.ValidZones", spec := "validZones", unfollowed := true, recurses := true, apart := false, narrowed := true }
def ValidZonesUptoSaid : Prop := validZonesUptoRow.holds Try.pinned (OpenSpec.upto validZonesSpec)

/-- 'thatchlaw14.PoolDoes', WHERE WHAT IT READS IS OF BULK AT MOST 1048576: true; the input reads as it did. -/
def poolDoesUptoRow : OpenClaim := { program := "ytecngikdfplibaa", sum := "ada4266a1aac35879c5ac7eab77cd544f7dbb8412d183e91be267cf72d08a522", func := "thatch/thatchlaw14.PoolDoes", spec := "poolDoes", unfollowed := true, recurses := true, apart := false, narrowed := true }
def PoolDoesUptoSaid : Prop := poolDoesUptoRow.holds Try.pinned (OpenSpec.upto poolDoesSpec)

/-- 'thatchlaw14.PoolSpares', WHERE WHAT IT READS IS OF BULK AT MOST 1048576: true; the input reads as it did. -/
def poolSparesUptoRow : OpenClaim := { program := "ytecngikdfplibaa", sum := "ada4266a1aac35879c5ac7eab77cd544f7dbb8412d183e91be267cf72d08a522", func := "thatch/thatchlaw14.PoolSpares", spec := "poolSpares", unfollowed := true, recurses := true, apart := false, narrowed := true }
def PoolSparesUptoSaid : Prop := poolSparesUptoRow.holds Try.pinned (OpenSpec.upto poolSparesSpec)

/-- 'thatchlaw14.PoolNobody', WHERE WHAT IT READS IS OF BULK AT MOST 1048576: true; the input reads as it did. -/
def poolNobodyUptoRow : OpenClaim := { program := "ytecngikdfplibaa", sum := "ada4266a1aac35879c5ac7eab77cd544f7dbb8412d183e91be267cf72d08a522", func := "thatch/thatchlaw14.PoolNobody", spec := "poolNobody", unfollowed := true, recurses := true, apart := false, narrowed := true }
def PoolNobodyUptoSaid : Prop := poolNobodyUptoRow.holds Try.pinned (OpenSpec.upto poolNobodySpec)

end Rows
end Go.Proofs.Ytecngikdfplibaa
