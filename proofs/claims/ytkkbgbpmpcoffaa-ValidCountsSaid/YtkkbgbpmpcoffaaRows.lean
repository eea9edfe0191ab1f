/-
  No cell of these rows narrows 'for every input' (looked for: loops, veiled, ifaces, maps, wideKeys, modest, calm, conditions, laid).
  DERIVED. THE GIVEN ROWS OF THIS SEAT. 12 by the template 'for every input the law returns true; each argument reads behind the call as it read before'; 0 by the template 'total and deterministic' (their statements: YtkkbgbpmpcoffaaTotals.lean).
  GIVEN WITH THE SEED: the statements are not yours to turn. If you find one false, say at which input.
  Laid BY PROGRAM, IN A SANDBOX (cutbox-rows.mjs): the forced cells as the released guide's own fill.sh prints them over the translation 022325d8b63783e1… (all of the seat's roots in one cut). By AI agents, Wed Nov 11 2026. No macro, syntax, notation, axiom, sorry.
-/
import Derived.Test.YtkkbgbpmpcoffaaChecked
import GoSem.Claim
import GoSem.ClaimJoined
import GoSem.ClaimMapViews
import Derived.JoinedTies
import Derived.KernelRfl
namespace Go.Proofs.Ytkkbgbpmpcoffaa
/- THE CELL 'sum', in the pinned program and in every row, IS THE sha256 OF THE DUMP (.gsa) THAT YtkkbgbpmpcoffaaProg.lean LOADS. Nothing in Lean hashes anything: it is a label: what it is worth is what the hold of that sum in a sandbox is worth. -/
noncomputable def Try.pinned : Pinned := { name := "ytkkbgbpmpcoffaa", sum := "022325d8b63783e13ca801776553285c62e55c4cdcb4dde01cc9185a42c8216e", checked := Try.checked }
namespace Rows
def none {H : Type} : Left H := { results := [], args := [] }

/-- 'thatchlaw13.ValidCounts': WHATEVER THE INPUT: true; the input reads as it did. -/
def validCountsSpec : ChangeSpec := { name := "validCounts", fn := fun _ => fun
  | [d1, d2] => { results := [.lit (.bool true)], args := [d1, d2] }
  | _ => none }
def validCountsRow : OpenClaim := { program := "ytkkbgbpmpcoffaa", sum := "022325d8b63783e13ca801776553285c62e55c4cdcb4dde01cc9185a42c8216e", func := "thatch/thatchlaw13.ValidCounts", spec := "validCounts", unfollowed := true, recurses := true, apart := false }
def ValidCountsSaid : Prop := validCountsRow.holds Try.pinned (OpenSpec.ofChange validCountsSpec)

/-- ITS FALSE NEIGHBOUR: 'it returns false'. Refute it at one input. -/
def validCountsWrong : ChangeSpec := { name := "validCounts", fn := fun _ => fun
  | [d1, d2] => { results := [.lit (.bool false)], args := [d1, d2] }
  | _ => none }
def ValidCountsWrongFalsely : Prop := validCountsRow.holds Try.pinned (OpenSpec.ofChange validCountsWrong)

/-- 'thatchlaw13.ValidLive': WHATEVER THE INPUT: true; the input reads as it did. -/
def validLiveSpec : ChangeSpec := { name := "validLive", fn := fun _ => fun
  | [d1, d2, d3] => { results := [.lit (.bool true)], args := [d1, d2, d3] }
  | _ => none }
def validLiveRow : OpenClaim := { program := "ytkkbgbpmpcoffaa", sum := "022325d8b63783e13ca801776553285c62e55c4cdcb4dde01cc9185a42c8216e", func := "thatch/thatchlaw13.ValidLive", spec := "validLive", unfollowed := true, recurses := true, apart := false }
def ValidLiveSaid : Prop := validLiveRow.holds Try.pinned (OpenSpec.ofChange validLiveSpec)

/-- ITS FALSE NEIGHBOUR: 'it returns false'. Refute it at one input. -/
def validLiveWrong : ChangeSpec := { name := "validLive", fn := fun _ => fun
  | [d1, d2, d3] => { results := [.lit (.bool false)], args := [d1, d2, d3] }
  | _ => none }
def ValidLiveWrongFalsely : Prop := validLiveRow.holds Try.pinned (OpenSpec.ofChange validLiveWrong)

/-- 'thatchlaw13.ValidApart': WHATEVER THE INPUT: true; the input reads as it did. -/
def validApartSpec : ChangeSpec := { name := "validApart", fn := fun _ => fun
  | [d1, d2] => { results := [.lit (.bool true)], args := [d1, d2] }
  | _ => none }
def validApartRow : OpenClaim := { program := "ytkkbgbpmpcoffaa", sum := "022325d8b63783e13ca801776553285c62e55c4cdcb4dde01cc9185a42c8216e", func := "thatch/thatchlaw13.ValidApart", spec := "validApart", unfollowed := true, recurses := true, apart := false }
def ValidApartSaid : Prop := validApartRow.holds Try.pinned (OpenSpec.ofChange validApartSpec)

/-- ITS FALSE NEIGHBOUR: 'it returns false'. Refute it at one input. -/
def validApartWrong : ChangeSpec := { name := "validApart", fn := fun _ => fun
  | [d1, d2] => { results := [.lit (.bool false)], args := [d1, d2] }
  | _ => none }
def ValidApartWrongFalsely : Prop := validApartRow.holds Try.pinned (OpenSpec.ofChange validApartWrong)

/-- 'thatchlaw13.ValidZones': WHATEVER THE INPUT: true; the input reads as it did. -/
def validZonesSpec : ChangeSpec := { name := "validZones", fn := fun _ => fun
  | [d1, d2, d3] => { results := [.lit (.bool true)], args := [d1, d2, d3] }
  | _ => none }
def validZonesRow : OpenClaim := { program := "ytkkbgbpmpcoffaa", sum := "022325d8b63783e13ca801776553285c62e55c4cdcb4dde01cc9185a42c8216e", func := "thatch/thatchlaw13.ValidZones", spec := "validZones", unfollowed := true, recurses := true, apart := false }
def ValidZonesSaid : Prop := validZonesRow.holds Try.pinned (OpenSpec.ofChange validZonesSpec)

/-- ITS FALSE NEIGHBOUR: 'it returns false'. Refute it at one input. -/
def validZonesWrong : ChangeSpec := { name := "validZones", fn := fun _ => fun
  | [d1, d2, d3] => { results := [.lit (.bool false)], args := [d1, d2, d3] }
  | _ => none }
def ValidZonesWrongFalsely : Prop := validZonesRow.holds Try.pinned (OpenSpec.ofChange validZonesWrong)

/-- 'thatchlaw19.VictimOrders': WHATEVER THE INPUT: true; the input reads as it did. -/
def victimOrdersSpec : ChangeSpec := { name := "victimOrders", fn := fun _ => fun
  | [d1, d2] => { results := [.lit (.bool true)], args := [d1, d2] }
  | _ => none }
def victimOrdersRow : OpenClaim := { program := "ytkkbgbpmpcoffaa", sum := "022325d8b63783e13ca801776553285c62e55c4cdcb4dde01cc9185a42c8216e", func := "thatch/thatchlaw19.VictimOrders", spec := "victimOrders", unfollowed := true, recurses := true, apart := false }
def VictimOrdersSaid : Prop := victimOrdersRow.holds Try.pinned (OpenSpec.ofChange victimOrdersSpec)

/-- ITS FALSE NEIGHBOUR: 'it returns false'. Refute it at one input. -/
def victimOrdersWrong : ChangeSpec := { name := "victimOrders", fn := fun _ => fun
  | [d1, d2] => { results := [.lit (.bool false)], args := [d1, d2] }
  | _ => none }
def VictimOrdersWrongFalsely : Prop := victimOrdersRow.holds Try.pinned (OpenSpec.ofChange victimOrdersWrong)

/-- 'thatchlaw19.VictimAhead': WHATEVER THE INPUT: true; the input reads as it did. -/
def victimAheadSpec : ChangeSpec := { name := "victimAhead", fn := fun _ => fun
  | [d1, d2, d3, d4] => { results := [.lit (.bool true)], args := [d1, d2, d3, d4] }
  | _ => none }
def victimAheadRow : OpenClaim := { program := "ytkkbgbpmpcoffaa", sum := "022325d8b63783e13ca801776553285c62e55c4cdcb4dde01cc9185a42c8216e", func := "thatch/thatchlaw19.VictimAhead", spec := "victimAhead", unfollowed := true, recurses := true, apart := false }
def VictimAheadSaid : Prop := victimAheadRow.holds Try.pinned (OpenSpec.ofChange victimAheadSpec)

/-- ITS FALSE NEIGHBOUR: 'it returns false'. Refute it at one input. -/
def victimAheadWrong : ChangeSpec := { name := "victimAhead", fn := fun _ => fun
  | [d1, d2, d3, d4] => { results := [.lit (.bool false)], args := [d1, d2, d3, d4] }
  | _ => none }
def VictimAheadWrongFalsely : Prop := victimAheadRow.holds Try.pinned (OpenSpec.ofChange victimAheadWrong)

/-- 'thatchlaw19.VictimChoices': WHATEVER THE INPUT: true; the input reads as it did. -/
def victimChoicesSpec : ChangeSpec := { name := "victimChoices", fn := fun _ => fun
  | [d1, d2, d3] => { results := [.lit (.bool true)], args := [d1, d2, d3] }
  | _ => none }
def victimChoicesRow : OpenClaim := { program := "ytkkbgbpmpcoffaa", sum := "022325d8b63783e13ca801776553285c62e55c4cdcb4dde01cc9185a42c8216e", func := "thatch/thatchlaw19.VictimChoices", spec := "victimChoices", unfollowed := true, recurses := true, apart := false }
def VictimChoicesSaid : Prop := victimChoicesRow.holds Try.pinned (OpenSpec.ofChange victimChoicesSpec)

/-- ITS FALSE NEIGHBOUR: 'it returns false'. Refute it at one input. -/
def victimChoicesWrong : ChangeSpec := { name := "victimChoices", fn := fun _ => fun
  | [d1, d2, d3] => { results := [.lit (.bool false)], args := [d1, d2, d3] }
  | _ => none }
def VictimChoicesWrongFalsely : Prop := victimChoicesRow.holds Try.pinned (OpenSpec.ofChange victimChoicesWrong)

/-- 'thatchlaw19.VictimCrowds': WHATEVER THE INPUT: true; the input reads as it did. -/
def victimCrowdsSpec : ChangeSpec := { name := "victimCrowds", fn := fun _ => fun
  | [d1, d2, d3] => { results := [.lit (.bool true)], args := [d1, d2, d3] }
  | _ => none }
def victimCrowdsRow : OpenClaim := { program := "ytkkbgbpmpcoffaa", sum := "022325d8b63783e13ca801776553285c62e55c4cdcb4dde01cc9185a42c8216e", func := "thatch/thatchlaw19.VictimCrowds", spec := "victimCrowds", unfollowed := true, recurses := true, apart := false }
def VictimCrowdsSaid : Prop := victimCrowdsRow.holds Try.pinned (OpenSpec.ofChange victimCrowdsSpec)

/-- ITS FALSE NEIGHBOUR: 'it returns false'. Refute it at one input. -/
def victimCrowdsWrong : ChangeSpec := { name := "victimCrowds", fn := fun _ => fun
  | [d1, d2, d3] => { results := [.lit (.bool false)], args := [d1, d2, d3] }
  | _ => none }
def VictimCrowdsWrongFalsely : Prop := victimCrowdsRow.holds Try.pinned (OpenSpec.ofChange victimCrowdsWrong)

/-- 'thatchlaw19.VictimSteps': WHATEVER THE INPUT: true; the input reads as it did. -/
def victimStepsSpec : ChangeSpec := { name := "victimSteps", fn := fun _ => fun
  | [d1, d2, d3] => { results := [.lit (.bool true)], args := [d1, d2, d3] }
  | _ => none }
def victimStepsRow : OpenClaim := { program := "ytkkbgbpmpcoffaa", sum := "022325d8b63783e13ca801776553285c62e55c4cdcb4dde01cc9185a42c8216e", func := "thatch/thatchlaw19.VictimSteps", spec := "victimSteps", unfollowed := true, recurses := true, apart := false }
def VictimStepsSaid : Prop := victimStepsRow.holds Try.pinned (OpenSpec.ofChange victimStepsSpec)

/-- ITS FALSE NEIGHBOUR: 'it returns false'. Refute it at one input. -/
def victimStepsWrong : ChangeSpec := { name := "victimSteps", fn := fun _ => fun
  | [d1, d2, d3] => { results := [.lit (.bool false)], args := [d1, d2, d3] }
  | _ => none }
def VictimStepsWrongFalsely : Prop := victimStepsRow.holds Try.pinned (OpenSpec.ofChange victimStepsWrong)

/-- 'thatchlaw24.ModelPlain': WHATEVER THE INPUT: true; the input reads as it did. -/
def modelPlainSpec : ChangeSpec := { name := "modelPlain", fn := fun _ => fun
  | [d] => { results := [.lit (.bool true)], args := [d] }
  | _ => none }
def modelPlainRow : OpenClaim := { program := "ytkkbgbpmpcoffaa", sum := "022325d8b63783e13ca801776553285c62e55c4cdcb4dde01cc9185a42c8216e", func := "thatch/thatchlaw24.ModelPlain", spec := "modelPlain", unfollowed := true, recurses := true, apart := false }
def ModelPlainSaid : Prop := modelPlainRow.holds Try.pinned (OpenSpec.ofChange modelPlainSpec)

/-- ITS FALSE NEIGHBOUR: 'it returns false'. Refute it at one input. -/
def modelPlainWrong : ChangeSpec := { name := "modelPlain", fn := fun _ => fun
  | [d] => { results := [.lit (.bool false)], args := [d] }
  | _ => none }
def ModelPlainWrongFalsely : Prop := modelPlainRow.holds Try.pinned (OpenSpec.ofChange modelPlainWrong)

/-- 'thatchlaw24.ModelWithin': WHATEVER THE INPUT: true; the input reads as it did. -/
def modelWithinSpec : ChangeSpec := { name := "modelWithin", fn := fun _ => fun
  | [d] => { results := [.lit (.bool true)], args := [d] }
  | _ => none }
def modelWithinRow : OpenClaim := { program := "ytkkbgbpmpcoffaa", sum := "022325d8b63783e13ca801776553285c62e55c4cdcb4dde01cc9185a42c8216e", func := "thatch/thatchlaw24.ModelWithin", spec := "modelWithin", unfollowed := true, recurses := true, apart := false }
def ModelWithinSaid : Prop := modelWithinRow.holds Try.pinned (OpenSpec.ofChange modelWithinSpec)

/-- ITS FALSE NEIGHBOUR: 'it returns false'. Refute it at one input. -/
def modelWithinWrong : ChangeSpec := { name := "modelWithin", fn := fun _ => fun
  | [d] => { results := [.lit (.bool false)], args := [d] }
  | _ => none }
def ModelWithinWrongFalsely : Prop := modelWithinRow.holds Try.pinned (OpenSpec.ofChange modelWithinWrong)

/-- 'thatchlaw24.ModelNobody': WHATEVER THE INPUT: true; the input reads as it did. -/
def modelNobodySpec : ChangeSpec := { name := "modelNobody", fn := fun _ => fun
  | [d] => { results := [.lit (.bool true)], args := [d] }
  | _ => none }
def modelNobodyRow : OpenClaim := { program := "ytkkbgbpmpcoffaa", sum := "022325d8b63783e13ca801776553285c62e55c4cdcb4dde01cc9185a42c8216e", func := "thatch/thatchlaw24.ModelNobody", spec := "modelNobody", inPlace := ["maps.clone"], unfollowed := true, recurses := true, apart := false }
def ModelNobodySaid : Prop := modelNobodyRow.holds Try.pinned (OpenSpec.ofChange modelNobodySpec)

/-- ITS FALSE NEIGHBOUR: 'it returns false'. Refute it at one input. -/
def modelNobodyWrong : ChangeSpec := { name := "modelNobody", fn := fun _ => fun
  | [d] => { results := [.lit (.bool false)], args := [d] }
  | _ => none }
def ModelNobodyWrongFalsely : Prop := modelNobodyRow.holds Try.pinned (OpenSpec.ofChange modelNobodyWrong)

/- THE SECOND FORM. 'bulk': how many values and letters a reading holds, each counted each time it is reached (what is shared counts as often as it is met; a slice's spare places count too). A statement '..UptoSaid' is the law's where the arguments, and the package variables that the reading takes, are together of bulk at most 1048576: NARROWER than '..Said'. Prove '..Said' where nothing that the law and all that it calls make is longer than what came in: it says more and counts as full. Else prove '..UptoSaid'. A law counts once. -/
mutual
def uptoBulk {H : Type} : DataW H → Nat
  | .lit (.string bytes) => bytes.length + 1
  | .lit _ => 1
  | .nil => 1
  | .ptr d => uptoBulk d + 1
  | .slice elems spare => uptoBulkAll elems + uptoBulkAll spare + 1
  | .agg parts => uptoBulkAll parts + 1
  | .iface _ d => uptoBulk d + 1
  | .map entries => uptoBulkEntries entries + 1
  | .held _ => 1
def uptoBulkAll {H : Type} : List (DataW H) → Nat
  | [] => 0
  | d :: r => uptoBulk d + uptoBulkAll r
def uptoBulkEntries {H : Type} : List (Lit × DataW H) → Nat
  | [] => 0
  | x :: r => uptoBulkEntry x + uptoBulkEntries r
def uptoBulkEntry {H : Type} : Lit × DataW H → Nat
  | (.string bytes, d) => bytes.length + uptoBulk d + 1
  | (_, d) => uptoBulk d + 1
 end
def uptoSmall : (H : Type) → List (DataW H) → Bool := fun _ ds => decide (uptoBulkAll ds ≤ 1048576)
def OpenSpec.upto (s : _root_.Go.ChangeSpec) : _root_.Go.OpenSpec := { _root_.Go.OpenSpec.ofChange s with cond := some uptoSmall }

/-- 'thatchlaw13.ValidCounts', WHERE WHAT IT READS IS OF BULK AT MOST 1048576: true; the input reads as it did. -/
def validCountsUptoRow : OpenClaim := { program := "ytkkbgbpmpcoffaa", sum := "022325d8b63783e13ca801776553285c62e55c4cdcb4dde01cc9185a42c8216e", func := "thatch/thatchlaw13.ValidCounts", spec := "validCounts", unfollowed := true, recurses := true, apart := false, narrowed := true }
def ValidCountsUptoSaid : Prop := validCountsUptoRow.holds Try.pinned (OpenSpec.upto validCountsSpec)

/-- 'thatchlaw13.ValidLive', WHERE WHAT IT READS IS OF BULK AT MOST 1048576: true; the input reads as it did. -/
def validLiveUptoRow : OpenClaim := { program := "ytkkbgbpmpcoffaa", sum := "022325d8b63783e13ca801776553285c62e55c4cdcb4dde01cc9185a42c8216e", func := "thatch/thatchlaw13.ValidLive", spec := "validLive", unfollowed := true, recurses := true, apart := false, narrowed := true }
def ValidLiveUptoSaid : Prop := validLiveUptoRow.holds Try.pinned (OpenSpec.upto validLiveSpec)

/-- 'thatchlaw13.ValidApart', WHERE WHAT IT READS IS OF BULK AT MOST 1048576: true; the input reads as it did. -/
def validApartUptoRow : OpenClaim := { program := "ytkkbgbpmpcoffaa", sum := "022325d8b63783e13ca801776553285c62e55c4cdcb4dde01cc9185a42c8216e", func := "thatch/thatchlaw13.ValidApart", spec := "validApart", unfollowed := true, recurses := true, apart := false, narrowed := true }
def ValidApartUptoSaid : Prop := validApartUptoRow.holds Try.pinned (OpenSpec.upto validApartSpec)

/-- 'thatchlaw13.ValidZones', WHERE WHAT IT READS IS OF BULK AT MOST 1048576: true; the input reads as it did. -/
def validZonesUptoRow : OpenClaim := { program := "ytkkbgbpmpcoffaa", sum := "022325d8b63783e13ca801776553285c62e55c4cdcb4dde01cc9185a42c8216e", func := "thatch/thatchlaw13.ValidZones", spec := "validZones", unfollowed := true, recurses := true, apart := false, narrowed := true }
def ValidZonesUptoSaid : Prop := validZonesUptoRow.holds Try.pinned (OpenSpec.upto validZonesSpec)

/-- 'thatchlaw19.VictimOrders', WHERE WHAT IT READS IS OF BULK AT MOST 1048576: true; the input reads as it did. -/
def victimOrdersUptoRow : OpenClaim := { program := "ytkkbgbpmpcoffaa", sum := "022325d8b63783e13ca801776553285c62e55c4cdcb4dde01cc9185a42c8216e", func := "thatch/thatchlaw19.VictimOrders", spec := "victimOrders", unfollowed := true, recurses := true, apart := false, narrowed := true }
def VictimOrdersUptoSaid : Prop := victimOrdersUptoRow.holds Try.pinned (OpenSpec.upto victimOrdersSpec)

/-- 'thatchlaw19.VictimAhead', WHERE WHAT IT READS IS OF BULK AT MOST 1048576: true; the input reads as it did. -/
def victimAheadUptoRow : OpenClaim := { program := "ytkkbgbpmpcoffaa", sum := "022325d8b63783e13ca801776553285c62e55c4cdcb4dde01cc9185a42c8216e", func := "thatch/thatchlaw19.VictimAhead", spec := "victimAhead", unfollowed := true, recurses := true, apart := false, narrowed := true }
def VictimAheadUptoSaid : Prop := victimAheadUptoRow.holds Try.pinned (OpenSpec.upto victimAheadSpec)

/-- 'thatchlaw19.VictimChoices', WHERE WHAT IT READS IS OF BULK AT MOST 1048576: true; the input reads as it did. -/
def victimChoicesUptoRow : OpenClaim := { program := "ytkkbgbpmpcoffaa", sum := "022325d8b63783e13ca801776553285c62e55c4cdcb4dde01cc9185a42c8216e", func := "thatch/thatchlaw19.VictimChoices", spec := "victimChoices", unfollowed := true, recurses := true, apart := false, narrowed := true }
def VictimChoicesUptoSaid : Prop := victimChoicesUptoRow.holds Try.pinned (OpenSpec.upto victimChoicesSpec)

/-- 'thatchlaw19.VictimCrowds', WHERE WHAT IT READS IS OF BULK AT MOST 1048576: true; the input reads as it did. -/
def victimCrowdsUptoRow : OpenClaim := { program := "ytkkbgbpmpcoffaa", sum := "022325d8b63783e13ca801776553285c62e55c4cdcb4dde01cc9185a42c8216e", func := "thatch/thatchlaw19.VictimCrowds", spec := "victimCrowds", unfollowed := true, recurses := true, apart := false, narrowed := true }
def VictimCrowdsUptoSaid : Prop := victimCrowdsUptoRow.holds Try.pinned (OpenSpec.upto victimCrowdsSpec)

/-- 'thatchlaw19.VictimSteps', WHERE WHAT IT READS IS OF BULK AT MOST 1048576: true; the input reads as it did. -/
def victimStepsUptoRow : OpenClaim := { program := "ytkkbgbpmpcoffaa", sum := "022325d8b63783e13ca801776553285c62e55c4cdcb4dde01cc9185a42c8216e", func := "thatch/thatchlaw19.VictimSteps", spec := "victimSteps", unfollowed := true, recurses := true, apart := false, narrowed := true }
def VictimStepsUptoSaid : Prop := victimStepsUptoRow.holds Try.pinned (OpenSpec.upto victimStepsSpec)

/-- 'thatchlaw24.ModelPlain', WHERE WHAT IT READS IS OF BULK AT MOST 1048576: true; the input reads as it did. -/
def modelPlainUptoRow : OpenClaim := { program := "ytkkbgbpmpcoffaa", sum := "022325d8b63783e13ca801776553285c62e55c4cdcb4dde01cc9185a42c8216e", func := "thatch/thatchlaw24.ModelPlain", spec := "modelPlain", unfollowed := true, recurses := true, apart := false, narrowed := true }
def ModelPlainUptoSaid : Prop := modelPlainUptoRow.holds Try.pinned (OpenSpec.upto modelPlainSpec)

/-- 'thatchlaw24.ModelWithin', WHERE WHAT IT READS IS OF BULK AT MOST 1048576: true; the input reads as it did. -/
def modelWithinUptoRow : OpenClaim := { program := "ytkkbgbpmpcoffaa", sum := "022325d8b63783e13ca801776553285c62e55c4cdcb4dde01cc9185a42c8216e", func := "thatch/thatchlaw24.ModelWithin", spec := "modelWithin", unfollowed := true, recurses := true, apart := false, narrowed := true }
def ModelWithinUptoSaid : Prop := modelWithinUptoRow.holds Try.pinned (OpenSpec.upto modelWithinSpec)

/-- 'thatchlaw24.ModelNobody', WHERE WHAT IT READS IS OF BULK AT MOST 1048576: true; the input reads as it did. -/
def modelNobodyUptoRow : OpenClaim := { program := "ytkkbgbpmpcoffaa", sum := "022325d8b63783e13ca801776553285c62e55c4cdcb4dde01cc9185a42c8216e", func := "thatch/thatchlaw24.ModelNobody", spec := "modelNobody", inPlace := ["maps.clone"], unfollowed := true, recurses := true, apart := false, narrowed := true }
def ModelNobodyUptoSaid : Prop := modelNobodyUptoRow.holds Try.pinned (OpenSpec.upto modelNobodySpec)

end Rows
end Go.Proofs.Ytkkbgbpmpcoffaa
