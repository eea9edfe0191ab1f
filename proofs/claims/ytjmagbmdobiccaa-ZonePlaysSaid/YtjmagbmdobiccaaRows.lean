/-
  No cell of these rows narrows 'for every input' (looked for: loops, veiled, ifaces, maps, wideKeys, modest, calm, conditions, laid).
  DERIVED. THE GIVEN ROWS OF THIS SEAT. 12 by the template 'for every input the law returns true; each argument reads behind the call as it read before'; 0 by the template 'total and deterministic' (their statements: YtjmagbmdobiccaaTotals.lean).
  GIVEN WITH THE SEED: the statements are not yours to turn. If you find one false, say at which input.
  Laid BY PROGRAM, IN A SANDBOX (cutbox-rows.mjs): the forced cells as the released guide's own fill.sh prints them over the translation c86721d016af0f38… (all of the seat's roots in one cut). By AI agents, Wed Nov 11 2026. No macro, syntax, notation, axiom, sorry.
-/
import Derived.Test.YtjmagbmdobiccaaChecked
import GoSem.Claim
import GoSem.ClaimJoined
import GoSem.ClaimMapViews
import Derived.JoinedTies
import Derived.KernelRfl
namespace Go.Proofs.Ytjmagbmdobiccaa
/- THE CELL 'sum', in the pinned program and in every row, IS THE sha256 OF THE DUMP (.gsa) THAT YtjmagbmdobiccaaProg.lean LOADS. Nothing in Lean hashes anything: it is a label: what it is worth is what the hold of that sum in a sandbox is worth. -/
noncomputable def Try.pinned : Pinned := { name := "ytjmagbmdobiccaa", sum := "c86721d016af0f38007fd15a7bf4ee2c731b5163204263d188d69cad83dea5df", checked := Try.checked }
namespace Rows
def none {H : Type} : Left H := { results := [], args := [] }

/-- 'thatchlaw05.ZoneCalls': WHATEVER THE INPUT: true; the input reads as it did. -/
def zoneCallsSpec : ChangeSpec := { name := "zoneCalls", fn := fun _ => fun
  | [d1, d2] => { results := [.lit (.bool true)], args := [d1, d2] }
  | _ => none }
def zoneCallsRow : OpenClaim := { program := "ytjmagbmdobiccaa", sum := "c86721d016af0f38007fd15a7bf4ee2c731b5163204263d188d69cad83dea5df", func := "thatch/thatchlaw05.ZoneCalls", spec := "zoneCalls", apart := false }
def ZoneCallsSaid : Prop := zoneCallsRow.holds Try.pinned (OpenSpec.ofChange zoneCallsSpec)

/-- ITS FALSE NEIGHBOUR: 'it returns false'. Refute it at one input. -/
def zoneCallsWrong : ChangeSpec := { name := "zoneCalls", fn := fun _ => fun
  | [d1, d2] => { results := [.lit (.bool false)], args := [d1, d2] }
  | _ => none }
def ZoneCallsWrongFalsely : Prop := zoneCallsRow.holds Try.pinned (OpenSpec.ofChange zoneCallsWrong)

/-- 'thatchlaw05.ZoneReads': WHATEVER THE INPUT: true; the input reads as it did. -/
def zoneReadsSpec : ChangeSpec := { name := "zoneReads", fn := fun _ => fun
  | [d1, d2, d3] => { results := [.lit (.bool true)], args := [d1, d2, d3] }
  | _ => none }
def zoneReadsRow : OpenClaim := { program := "ytjmagbmdobiccaa", sum := "c86721d016af0f38007fd15a7bf4ee2c731b5163204263d188d69cad83dea5df", func := "thatch/thatchlaw05.ZoneReads", spec := "zoneReads", apart := false }
def ZoneReadsSaid : Prop := zoneReadsRow.holds Try.pinned (OpenSpec.ofChange zoneReadsSpec)

/-- ITS FALSE NEIGHBOUR: 'it returns false'. Refute it at one input. -/
def zoneReadsWrong : ChangeSpec := { name := "zoneReads", fn := fun _ => fun
  | [d1, d2, d3] => { results := [.lit (.bool false)], args := [d1, d2, d3] }
  | _ => none }
def ZoneReadsWrongFalsely : Prop := zoneReadsRow.holds Try.pinned (OpenSpec.ofChange zoneReadsWrong)

/-- 'thatchlaw05.ZoneNews': WHATEVER THE INPUT: true; the input reads as it did. -/
def zoneNewsSpec : ChangeSpec := { name := "zoneNews", fn := fun _ => fun
  | [d1, d2, d3, d4] => { results := [.lit (.bool true)], args := [d1, d2, d3, d4] }
  | _ => none }
def zoneNewsRow : OpenClaim := { program := "ytjmagbmdobiccaa", sum := "c86721d016af0f38007fd15a7bf4ee2c731b5163204263d188d69cad83dea5df", func := "thatch/thatchlaw05.ZoneNews", spec := "zoneNews", apart := false }
def ZoneNewsSaid : Prop := zoneNewsRow.holds Try.pinned (OpenSpec.ofChange zoneNewsSpec)

/-- ITS FALSE NEIGHBOUR: 'it returns false'. Refute it at one input. -/
def zoneNewsWrong : ChangeSpec := { name := "zoneNews", fn := fun _ => fun
  | [d1, d2, d3, d4] => { results := [.lit (.bool false)], args := [d1, d2, d3, d4] }
  | _ => none }
def ZoneNewsWrongFalsely : Prop := zoneNewsRow.holds Try.pinned (OpenSpec.ofChange zoneNewsWrong)

/-- 'thatchlaw05.ZonePlays': WHATEVER THE INPUT: true; the input reads as it did. -/
def zonePlaysSpec : ChangeSpec := { name := "zonePlays", fn := fun _ => fun
  | [d1, d2, d3] => { results := [.lit (.bool true)], args := [d1, d2, d3] }
  | _ => none }
def zonePlaysRow : OpenClaim := { program := "ytjmagbmdobiccaa", sum := "c86721d016af0f38007fd15a7bf4ee2c731b5163204263d188d69cad83dea5df", func := "thatch/thatchlaw05.ZonePlays", spec := "zonePlays", apart := false }
def ZonePlaysSaid : Prop := zonePlaysRow.holds Try.pinned (OpenSpec.ofChange zonePlaysSpec)

/-- ITS FALSE NEIGHBOUR: 'it returns false'. Refute it at one input. -/
def zonePlaysWrong : ChangeSpec := { name := "zonePlays", fn := fun _ => fun
  | [d1, d2, d3] => { results := [.lit (.bool false)], args := [d1, d2, d3] }
  | _ => none }
def ZonePlaysWrongFalsely : Prop := zonePlaysRow.holds Try.pinned (OpenSpec.ofChange zonePlaysWrong)

/-- 'thatchlaw05.ZoneFills': WHATEVER THE INPUT: true; the input reads as it did. -/
def zoneFillsSpec : ChangeSpec := { name := "zoneFills", fn := fun _ => fun
  | [d1, d2] => { results := [.lit (.bool true)], args := [d1, d2] }
  | _ => none }
def zoneFillsRow : OpenClaim := { program := "ytjmagbmdobiccaa", sum := "c86721d016af0f38007fd15a7bf4ee2c731b5163204263d188d69cad83dea5df", func := "thatch/thatchlaw05.ZoneFills", spec := "zoneFills", apart := false }
def ZoneFillsSaid : Prop := zoneFillsRow.holds Try.pinned (OpenSpec.ofChange zoneFillsSpec)

/-- ITS FALSE NEIGHBOUR: 'it returns false'. Refute it at one input. -/
def zoneFillsWrong : ChangeSpec := { name := "zoneFills", fn := fun _ => fun
  | [d1, d2] => { results := [.lit (.bool false)], args := [d1, d2] }
  | _ => none }
def ZoneFillsWrongFalsely : Prop := zoneFillsRow.holds Try.pinned (OpenSpec.ofChange zoneFillsWrong)

/-- 'thatchlaw06.DiskDoes': WHATEVER THE INPUT: true; the input reads as it did. -/
def diskDoesSpec : ChangeSpec := { name := "diskDoes", fn := fun _ => fun
  | [d1, d2] => { results := [.lit (.bool true)], args := [d1, d2] }
  | _ => none }
def diskDoesRow : OpenClaim := { program := "ytjmagbmdobiccaa", sum := "c86721d016af0f38007fd15a7bf4ee2c731b5163204263d188d69cad83dea5df", func := "thatch/thatchlaw06.DiskDoes", spec := "diskDoes", unfollowed := true, recurses := true, apart := false }
def DiskDoesSaid : Prop := diskDoesRow.holds Try.pinned (OpenSpec.ofChange diskDoesSpec)

/-- ITS FALSE NEIGHBOUR: 'it returns false'. Refute it at one input. -/
def diskDoesWrong : ChangeSpec := { name := "diskDoes", fn := fun _ => fun
  | [d1, d2] => { results := [.lit (.bool false)], args := [d1, d2] }
  | _ => none }
def DiskDoesWrongFalsely : Prop := diskDoesRow.holds Try.pinned (OpenSpec.ofChange diskDoesWrong)

/-- 'thatchlaw06.DiskKeeps': WHATEVER THE INPUT: true; the input reads as it did. -/
def diskKeepsSpec : ChangeSpec := { name := "diskKeeps", fn := fun _ => fun
  | [d1, d2, d3] => { results := [.lit (.bool true)], args := [d1, d2, d3] }
  | _ => none }
def diskKeepsRow : OpenClaim := { program := "ytjmagbmdobiccaa", sum := "c86721d016af0f38007fd15a7bf4ee2c731b5163204263d188d69cad83dea5df", func := "thatch/thatchlaw06.DiskKeeps", spec := "diskKeeps", unfollowed := true, recurses := true, apart := false }
def DiskKeepsSaid : Prop := diskKeepsRow.holds Try.pinned (OpenSpec.ofChange diskKeepsSpec)

/-- ITS FALSE NEIGHBOUR: 'it returns false'. Refute it at one input. -/
def diskKeepsWrong : ChangeSpec := { name := "diskKeeps", fn := fun _ => fun
  | [d1, d2, d3] => { results := [.lit (.bool false)], args := [d1, d2, d3] }
  | _ => none }
def DiskKeepsWrongFalsely : Prop := diskKeepsRow.holds Try.pinned (OpenSpec.ofChange diskKeepsWrong)

/-- 'thatchlaw06.DiskPrefix': WHATEVER THE INPUT: true; the input reads as it did. -/
def diskPrefixSpec : ChangeSpec := { name := "diskPrefix", fn := fun _ => fun
  | [d1, d2, d3, d4] => { results := [.lit (.bool true)], args := [d1, d2, d3, d4] }
  | _ => none }
def diskPrefixRow : OpenClaim := { program := "ytjmagbmdobiccaa", sum := "c86721d016af0f38007fd15a7bf4ee2c731b5163204263d188d69cad83dea5df", func := "thatch/thatchlaw06.DiskPrefix", spec := "diskPrefix", unfollowed := true, recurses := true, apart := false }
def DiskPrefixSaid : Prop := diskPrefixRow.holds Try.pinned (OpenSpec.ofChange diskPrefixSpec)

/-- ITS FALSE NEIGHBOUR: 'it returns false'. Refute it at one input. -/
def diskPrefixWrong : ChangeSpec := { name := "diskPrefix", fn := fun _ => fun
  | [d1, d2, d3, d4] => { results := [.lit (.bool false)], args := [d1, d2, d3, d4] }
  | _ => none }
def DiskPrefixWrongFalsely : Prop := diskPrefixRow.holds Try.pinned (OpenSpec.ofChange diskPrefixWrong)

/-- 'thatchlaw06.DiskVersions': WHATEVER THE INPUT: true; the input reads as it did. -/
def diskVersionsSpec : ChangeSpec := { name := "diskVersions", fn := fun _ => fun
  | [d1, d2, d3] => { results := [.lit (.bool true)], args := [d1, d2, d3] }
  | _ => none }
def diskVersionsRow : OpenClaim := { program := "ytjmagbmdobiccaa", sum := "c86721d016af0f38007fd15a7bf4ee2c731b5163204263d188d69cad83dea5df", func := "thatch/thatchlaw06.DiskVersions", spec := "diskVersions", unfollowed := true, recurses := true, apart := false }
def DiskVersionsSaid : Prop := diskVersionsRow.holds Try.pinned (OpenSpec.ofChange diskVersionsSpec)

/-- ITS FALSE NEIGHBOUR: 'it returns false'. Refute it at one input. -/
def diskVersionsWrong : ChangeSpec := { name := "diskVersions", fn := fun _ => fun
  | [d1, d2, d3] => { results := [.lit (.bool false)], args := [d1, d2, d3] }
  | _ => none }
def DiskVersionsWrongFalsely : Prop := diskVersionsRow.holds Try.pinned (OpenSpec.ofChange diskVersionsWrong)

/-- 'thatchlaw06.DiskLimits': WHATEVER THE INPUT: true; the input reads as it did. -/
def diskLimitsSpec : ChangeSpec := { name := "diskLimits", fn := fun _ => fun
  | [d1, d2] => { results := [.lit (.bool true)], args := [d1, d2] }
  | _ => none }
def diskLimitsRow : OpenClaim := { program := "ytjmagbmdobiccaa", sum := "c86721d016af0f38007fd15a7bf4ee2c731b5163204263d188d69cad83dea5df", func := "thatch/thatchlaw06.DiskLimits", spec := "diskLimits", unfollowed := true, recurses := true, apart := false }
def DiskLimitsSaid : Prop := diskLimitsRow.holds Try.pinned (OpenSpec.ofChange diskLimitsSpec)

/-- ITS FALSE NEIGHBOUR: 'it returns false'. Refute it at one input. -/
def diskLimitsWrong : ChangeSpec := { name := "diskLimits", fn := fun _ => fun
  | [d1, d2] => { results := [.lit (.bool false)], args := [d1, d2] }
  | _ => none }
def DiskLimitsWrongFalsely : Prop := diskLimitsRow.holds Try.pinned (OpenSpec.ofChange diskLimitsWrong)

/-- 'thatchlaw06.DiskNobody': WHATEVER THE INPUT: true; the input reads as it did. -/
def diskNobodySpec : ChangeSpec := { name := "diskNobody", fn := fun _ => fun
  | [d] => { results := [.lit (.bool true)], args := [d] }
  | _ => none }
def diskNobodyRow : OpenClaim := { program := "ytjmagbmdobiccaa", sum := "c86721d016af0f38007fd15a7bf4ee2c731b5163204263d188d69cad83dea5df", func := "thatch/thatchlaw06.DiskNobody", spec := "diskNobody", inPlace := ["maps.clone"], unfollowed := true, recurses := true, apart := false }
def DiskNobodySaid : Prop := diskNobodyRow.holds Try.pinned (OpenSpec.ofChange diskNobodySpec)

/-- ITS FALSE NEIGHBOUR: 'it returns false'. Refute it at one input. -/
def diskNobodyWrong : ChangeSpec := { name := "diskNobody", fn := fun _ => fun
  | [d] => { results := [.lit (.bool false)], args := [d] }
  | _ => none }
def DiskNobodyWrongFalsely : Prop := diskNobodyRow.holds Try.pinned (OpenSpec.ofChange diskNobodyWrong)

/-- 'thatchlaw06.DiskForks': WHATEVER THE INPUT: true; the input reads as it did. -/
def diskForksSpec : ChangeSpec := { name := "diskForks", fn := fun _ => fun
  | [d1, d2, d3] => { results := [.lit (.bool true)], args := [d1, d2, d3] }
  | _ => none }
def diskForksRow : OpenClaim := { program := "ytjmagbmdobiccaa", sum := "c86721d016af0f38007fd15a7bf4ee2c731b5163204263d188d69cad83dea5df", func := "thatch/thatchlaw06.DiskForks", spec := "diskForks", inPlace := ["maps.clone"], unfollowed := true, recurses := true, apart := false }
def DiskForksSaid : Prop := diskForksRow.holds Try.pinned (OpenSpec.ofChange diskForksSpec)

/-- ITS FALSE NEIGHBOUR: 'it returns false'. Refute it at one input. -/
def diskForksWrong : ChangeSpec := { name := "diskForks", fn := fun _ => fun
  | [d1, d2, d3] => { results := [.lit (.bool false)], args := [d1, d2, d3] }
  | _ => none }
def DiskForksWrongFalsely : Prop := diskForksRow.holds Try.pinned (OpenSpec.ofChange diskForksWrong)

/- THE SECOND FORM. 'bulk': how many values and letters a reading holds, each counted each time it is reached (what is shared counts as often as it is met; a slice's spare places count too). A statement '..UptoSaid' is the law's where the arguments, and the package variables that the reading takes, are together of bulk at most 1048576: NARROWER than '..Said'. Prove '..Said' where nothing that the law and all that it calls make is longer than what came in: it says more and counts as full. Else prove '..UptoSaid'. A law counts once. -/
mutual
def uptoBulk {H : Type} : DataW H → Nat
  | .lit (.string bytes) => bytes.length + 1
  | .lit _ => 1
  | .nil => 1
  | .ptr d => uptoBulk d + 1
  | .slice elems spare => uptoBulkAll elems + uptoBulkAll spare + 1
  | .agg parts => uptoBulkAll parts + 1
  | .iface _ d => uptoBulk d + 1
  | .map entries => uptoBulkEntries entries + 1
  | .held _ => 1
def uptoBulkAll {H : Type} : List (DataW H) → Nat
  | [] => 0
  | d :: r => uptoBulk d + uptoBulkAll r
def uptoBulkEntries {H : Type} : List (Lit × DataW H) → Nat
  | [] => 0
  | x :: r => uptoBulkEntry x + uptoBulkEntries r
def uptoBulkEntry {H : Type} : Lit × DataW H → Nat
  | (.string bytes, d) => bytes.length + uptoBulk d + 1
  | (_, d) => uptoBulk d + 1
 end
def uptoSmall : (H : Type) → List (DataW H) → Bool := fun _ ds => decide (uptoBulkAll ds ≤ 1048576)
def OpenSpec.upto (s : _root_.Go.ChangeSpec) : _root_.Go.OpenSpec := { _root_.Go.OpenSpec.ofChange s with cond := some uptoSmall }

/-- 'thatchlaw05.ZoneCalls', WHERE WHAT IT READS IS OF BULK AT MOST 1048576: true; the input reads as it did. -/
def zoneCallsUptoRow : OpenClaim := { program := "ytjmagbmdobiccaa", sum := "c86721d016af0f38007fd15a7bf4ee2c731b5163204263d188d69cad83dea5df", func := "thatch/thatchlaw05.ZoneCalls", spec := "zoneCalls", apart := false, narrowed := true }
def ZoneCallsUptoSaid : Prop := zoneCallsUptoRow.holds Try.pinned (OpenSpec.upto zoneCallsSpec)

/-- 'thatchlaw05.ZoneReads', WHERE WHAT IT READS IS OF BULK AT MOST 1048576: true; the input reads as it did. -/
def zoneReadsUptoRow : OpenClaim := { program := "ytjmagbmdobiccaa", sum := "c86721d016af0f38007fd15a7bf4ee2c731b5163204263d188d69cad83dea5df", func := "thatch/thatchlaw05.ZoneReads", spec := "zoneReads", apart := false, narrowed := true }
def ZoneReadsUptoSaid : Prop := zoneReadsUptoRow.holds Try.pinned (OpenSpec.upto zoneReadsSpec)

/-- 'thatchlaw05.ZoneNews', WHERE WHAT IT READS IS OF BULK AT MOST 1048576: true; the input reads as it did. -/
def zoneNewsUptoRow : OpenClaim := { program := "ytjmagbmdobiccaa", sum := "c86721d016af0f38007fd15a7bf4ee2c731b5163204263d188d69cad83dea5df", func := "thatch/thatchlaw05.ZoneNews", spec := "zoneNews", apart := false, narrowed := true }
def ZoneNewsUptoSaid : Prop := zoneNewsUptoRow.holds Try.pinned (OpenSpec.upto zoneNewsSpec)

/-- 'thatchlaw05.ZonePlays', WHERE WHAT IT READS IS OF BULK AT MOST 1048576: true; the input reads as it did. -/
def zonePlaysUptoRow : OpenClaim := { program := "ytjmagbmdobiccaa", sum := "c86721d016af0f38007fd15a7bf4ee2c731b5163204263d188d69cad83dea5df", func := "thatch/thatchlaw05.ZonePlays", spec := "zonePlays", apart := false, narrowed := true }
def ZonePlaysUptoSaid : Prop := zonePlaysUptoRow.holds Try.pinned (OpenSpec.upto zonePlaysSpec)

/-- 'thatchlaw05.ZoneFills', WHERE WHAT IT READS IS OF BULK AT MOST 1048576: true; the input reads as it did. -/
def zoneFillsUptoRow : OpenClaim := { program := "ytjmagbmdobiccaa", sum := "c86721d016af0f38007fd15a7bf4ee2c731b5163204263d188d69cad83dea5df", func := "thatch/thatchlaw05.ZoneFills", spec := "zoneFills", apart := false, narrowed := true }
def ZoneFillsUptoSaid : Prop := zoneFillsUptoRow.holds Try.pinned (OpenSpec.upto zoneFillsSpec)

/-- 'thatchlaw06.DiskDoes', WHERE WHAT IT READS IS OF BULK AT MOST 1048576: true; the input reads as it did. -/
def diskDoesUptoRow : OpenClaim := { program := "ytjmagbmdobiccaa", sum := "c86721d016af0f38007fd15a7bf4ee2c731b5163204263d188d69cad83dea5df", func := "thatch/thatchlaw06.DiskDoes", spec := "diskDoes", unfollowed := true, recurses := true, apart := false, narrowed := true }
def DiskDoesUptoSaid : Prop := diskDoesUptoRow.holds Try.pinned (OpenSpec.upto diskDoesSpec)

/-- 'thatchlaw06.DiskKeeps', WHERE WHAT IT READS IS OF BULK AT MOST 1048576: true; the input reads as it did. -/
def diskKeepsUptoRow : OpenClaim := { program := "ytjmagbmdobiccaa", sum := "c86721d016af0f38007fd15a7bf4ee2c731b5163204263d188d69cad83dea5df", func := "thatch/thatchlaw06.DiskKeeps", spec := "diskKeeps", unfollowed := true, recurses := true, apart := false, narrowed := true }
def DiskKeepsUptoSaid : Prop := diskKeepsUptoRow.holds Try.pinned (OpenSpec.upto diskKeepsSpec)

/-- 'thatchlaw06.DiskPrefix', WHERE WHAT IT READS IS OF BULK AT MOST 1048576: true; the input reads as it did. -/
def diskPrefixUptoRow : OpenClaim := { program := "ytjmagbmdobiccaa", sum := "c86721d016af0f38007fd15a7bf4ee2c731b5163204263d188d69cad83dea5df", func := "thatch/thatchlaw06.DiskPrefix", spec := "diskPrefix", unfollowed := true, recurses := true, apart := false, narrowed := true }
def DiskPrefixUptoSaid : Prop := diskPrefixUptoRow.holds Try.pinned (OpenSpec.upto diskPrefixSpec)

/-- 'thatchlaw06.DiskVersions', WHERE WHAT IT READS IS OF BULK AT MOST 1048576: true; the input reads as it did. -/
def diskVersionsUptoRow : OpenClaim := { program := "ytjmagbmdobiccaa", sum := "c86721d016af0f38007fd15a7bf4ee2c731b5163204263d188d69cad83dea5df", func := "thatch/thatchlaw06.DiskVersions", spec := "diskVersions", unfollowed := true, recurses := true, apart := false, narrowed := true }
def DiskVersionsUptoSaid : Prop := diskVersionsUptoRow.holds Try.pinned (OpenSpec.upto diskVersionsSpec)

/-- 'thatchlaw06.DiskLimits', WHERE WHAT IT READS IS OF BULK AT MOST 1048576: true; the input reads as it did. -/
def diskLimitsUptoRow : OpenClaim := { program := "ytjmagbmdobiccaa", sum := "c86721d016af0f38007fd15a7bf4ee2c731b5163204263d188d69cad83dea5df", func := "thatch/thatchlaw06.DiskLimits", spec := "diskLimits", unfollowed := true, recurses := true, apart := false, narrowed := true }
def DiskLimitsUptoSaid : Prop := diskLimitsUptoRow.holds Try.pinned (OpenSpec.upto diskLimitsSpec)

/-- 'thatchlaw06.DiskNobody', WHERE WHAT IT READS IS OF BULK AT MOST 1048576: true; the input reads as it did. -/
def diskNobodyUptoRow : OpenClaim := { program := "ytjmagbmdobiccaa", sum := "c86721d016af0f38007fd15a7bf4ee2c731b5163204263d188d69cad83dea5df", func := "thatch/thatchlaw06.DiskNobody", spec := "diskNobody", inPlace := ["maps.clone"], unfollowed := true, recurses := true, apart := false, narrowed := true }
def DiskNobodyUptoSaid : Prop := diskNobodyUptoRow.holds Try.pinned (OpenSpec.upto diskNobodySpec)

/-- 'thatchlaw06.DiskForks', WHERE WHAT IT READS IS OF BULK AT MOST 1048576: true; the input reads as it did. -/
def diskForksUptoRow : OpenClaim := { program := "ytjmagbmdobiccaa", sum := "c86721d016af0f38007fd15a7bf4ee2c731b5163204263d188d69cad83dea5df", func := "thatch/thatchlaw06.DiskForks", spec := "diskForks", inPlace := ["maps.clone"], unfollowed := true, recurses := true, apart := false, narrowed := true }
def DiskForksUptoSaid : Prop := diskForksUptoRow.holds Try.pinned (OpenSpec.upto diskForksSpec)

end Rows
end Go.Proofs.Ytjmagbmdobiccaa
