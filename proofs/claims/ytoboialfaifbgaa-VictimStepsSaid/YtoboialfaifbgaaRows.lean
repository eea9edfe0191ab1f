/-
  No cell of these rows narrows 'for every input' (looked for: loops, veiled, ifaces, maps, wideKeys, modest, calm, conditions, laid).
  DERIVED. THE GIVEN ROWS OF THIS SEAT. 6 by the template 'for every input the law returns true; each argument reads behind the call as it read before'; 0 by the template 'total and deterministic' (their statements: YtoboialfaifbgaaTotals.lean).
  GIVEN WITH THE SEED: the statements are not yours to turn. If you find one false, say at which input.
  Laid BY PROGRAM, IN A SANDBOX (cutbox-rows.mjs): the forced cells as the released guide's own fill.sh prints them over the translation d6e8243781086b2f… (all of the seat's roots in one cut). By AI agents, Wed Nov 11 2026. No macro, syntax, notation, axiom, sorry.
-/
import Derived.Test.YtoboialfaifbgaaChecked
import GoSem.Claim
import GoSem.ClaimJoined
import GoSem.ClaimMapViews
import Derived.JoinedTies
import Derived.KernelRfl
namespace Go.Proofs.Ytoboialfaifbgaa
/- THE CELL 'sum', in the pinned program and in every row, IS THE sha256 OF THE DUMP (.gsa) THAT YtoboialfaifbgaaProg.lean LOADS. Nothing in Lean hashes anything: it is a label: what it is worth is what the hold of that sum in a sandbox is worth. -/
noncomputable def Try.pinned : Pinned := { name := "ytoboialfaifbgaa", sum := "d6e8243781086b2f6a459431a8d4c8d6c2ad2c834b7d4b3dae2107e345595696", checked := Try.checked }
namespace Rows
def none {H : Type} : Left H := { results := [], args := [] }

/-- 'thatchlaw13.ValidZones': WHATEVER THE INPUT: true; the input reads as it did. -/
def validZonesSpec : ChangeSpec := { name := "validZones", fn := fun _ => fun
  | [d1, d2, d3] => { results := [.lit (.bool true)], args := [d1, d2, d3] }
  | _ => none }
def validZonesRow : OpenClaim := { program := "ytoboialfaifbgaa", sum := "d6e8243781086b2f6a459431a8d4c8d6c2ad2c834b7d4b3dae2107e345595696", func := "thatch/thatchlaw13.ValidZones", spec := "validZones", unfollowed := true, recurses := true, apart := false }
def ValidZonesSaid : Prop := validZonesRow.holds Try.pinned (OpenSpec.ofChange validZonesSpec)

/-- ITS FALSE NEIGHBOUR: 'it returns false'. Refute it at one input. -/
def validZonesWrong : ChangeSpec := { name := "validZones", fn := fun _ => fun
  | [d1, d2, d3] => { results := [.lit (.bool false)], args := [d1, d2, d3] }
  | _ => none }
def ValidZonesWrongFalsely : Prop := validZonesRow.holds Try.pinned (OpenSpec.ofChange validZonesWrong)

/-- 'thatchlaw19.VictimOrders': WHATEVER THE INPUT: true; the input reads as it did. -/
def victimOrdersSpec : ChangeSpec := { name := "victimOrders", fn := fun _ => fun
  | [d1, d2] => { results := [.lit (.bool true)], args := [d1, d2] }
  | _ => none }
def victimOrdersRow : OpenClaim := { program := "ytoboialfaifbgaa", sum := "d6e8243781086b2f6a459431a8d4c8d6c2ad2c834b7d4b3dae2107e345595696", func := "thatch/thatchlaw19.VictimOrders", spec := "victimOrders", unfollowed := true, recurses := true, apart := false }
def VictimOrdersSaid : Prop := victimOrdersRow.holds Try.pinned (OpenSpec.ofChange victimOrdersSpec)

/-- ITS FALSE NEIGHBOUR: 'it returns false'. Refute it at one input. -/
def victimOrdersWrong : ChangeSpec := { name := "victimOrders", fn := fun _ => fun
  | [d1, d2] => { results := [.lit (.bool false)], args := [d1, d2] }
  | _ => none }
def VictimOrdersWrongFalsely : Prop := victimOrdersRow.holds Try.pinned (OpenSpec.ofChange victimOrdersWrong)

/-- 'thatchlaw19.VictimAhead': WHATEVER THE INPUT: true; the input reads as it did. -/
def victimAheadSpec : ChangeSpec := { name := "victimAhead", fn := fun _ => fun
  | [d1, d2, d3, d4] => { results := [.lit (.bool true)], args := [d1, d2, d3, d4] }
  | _ => none }
def victimAheadRow : OpenClaim := { program := "ytoboialfaifbgaa", sum := "d6e8243781086b2f6a459431a8d4c8d6c2ad2c834b7d4b3dae2107e345595696", func := "thatch/thatchlaw19.VictimAhead", spec := "victimAhead", unfollowed := true, recurses := true, apart := false }
def VictimAheadSaid : Prop := victimAheadRow.holds Try.pinned (OpenSpec.ofChange victimAheadSpec)

/-- ITS FALSE NEIGHBOUR: 'it returns false'. Refute it at one input. -/
def victimAheadWrong : ChangeSpec := { name := "victimAhead", fn := fun _ => fun
  | [d1, d2, d3, d4] => { results := [.lit (.bool false)], args := [d1, d2, d3, d4] }
  | _ => none }
def VictimAheadWrongFalsely : Prop := victimAheadRow.holds Try.pinned (OpenSpec.ofChange victimAheadWrong)

/-- 'thatchlaw19.VictimChoices': WHATEVER THE INPUT: true; the input reads as it did. -/
def victimChoicesSpec : ChangeSpec := { name := "victimChoices", fn := fun _ => fun
  | [d1, d2, d3] => { results := [.lit (.bool true)], args := [d1, d2, d3] }
  | _ => none }
def victimChoicesRow : OpenClaim := { program := "ytoboialfaifbgaa", sum := "d6e8243781086b2f6a459431a8d4c8d6c2ad2c834b7d4b3dae2107e345595696", func := "thatch/thatchlaw19.VictimChoices", spec := "victimChoices", unfollowed := true, recurses := true, apart := false }
def VictimChoicesSaid : Prop := victimChoicesRow.holds Try.pinned (OpenSpec.ofChange victimChoicesSpec)

/-- ITS FALSE NEIGHBOUR: 'it returns false'. Refute it at one input. -/
def victimChoicesWrong : ChangeSpec := { name := "victimChoices", fn := fun _ => fun
  | [d1, d2, d3] => { results := [.lit (.bool false)], args := [d1, d2, d3] }
  | _ => none }
def VictimChoicesWrongFalsely : Prop := victimChoicesRow.holds Try.pinned (OpenSpec.ofChange victimChoicesWrong)

/-- 'thatchlaw19.VictimCrowds': WHATEVER THE INPUT: true; the input reads as it did. -/
def victimCrowdsSpec : ChangeSpec := { name := "victimCrowds", fn := fun _ => fun
  | [d1, d2, d3] => { results := [.lit (.bool true)], args := [d1, d2, d3] }
  | _ => none }
def victimCrowdsRow : OpenClaim := { program := "ytoboialfaifbgaa", sum := "d6e8243781086b2f6a459431a8d4c8d6c2ad2c834b7d4b3dae2107e345595696", func := "thatch/thatchlaw19.VictimCrowds", spec := "victimCrowds", unfollowed := true, recurses := true, apart := false }
def VictimCrowdsSaid : Prop := victimCrowdsRow.holds Try.pinned (OpenSpec.ofChange victimCrowdsSpec)

/-- ITS FALSE NEIGHBOUR: 'it returns false'. Refute it at one input. -/
def victimCrowdsWrong : ChangeSpec := { name := "victimCrowds", fn := fun _ => fun
  | [d1, d2, d3] => { results := [.lit (.bool false)], args := [d1, d2, d3] }
  | _ => none }
def VictimCrowdsWrongFalsely : Prop := victimCrowdsRow.holds Try.pinned (OpenSpec.ofChange victimCrowdsWrong)

/-- 'thatchlaw19.VictimSteps': WHATEVER THE INPUT: true; the input reads as it did. -/
def victimStepsSpec : ChangeSpec := { name := "victimSteps", fn := fun _ => fun
  | [d1, d2, d3] => { results := [.lit (.bool true)], args := [d1, d2, d3] }
  | _ => none }
def victimStepsRow : OpenClaim := { program := "ytoboialfaifbgaa", sum := "d6e8243781086b2f6a459431a8d4c8d6c2ad2c834b7d4b3dae2107e345595696", func := "thatch/thatchlaw19.VictimSteps", spec := "victimSteps", unfollowed := true, recurses := true, apart := false }
def VictimStepsSaid : Prop := victimStepsRow.holds Try.pinned (OpenSpec.ofChange victimStepsSpec)

/-- ITS FALSE NEIGHBOUR: 'it returns false'. Refute it at one input. -/
def victimStepsWrong : ChangeSpec := { name := "victimSteps", fn := fun _ => fun
  | [d1, d2, d3] => { results := [.lit (.bool false)], args := [d1, d2, d3] }
  | _ => none }
def VictimStepsWrongFalsely : Prop := victimStepsRow.holds Try.pinned (OpenSpec.ofChange victimStepsWrong)

/- THE SECOND FORM. 'bulk': how many values and letters a reading holds, each counted each time it is reached (what is shared counts as often as it is met; a slice's spare places count too). A statement '..UptoSaid' is the law's where the arguments, and the package variables that the reading takes, are together of bulk at most 1048576: NARROWER than '..Said'. Prove '..Said' where nothing that the law and all that it calls make is longer than what came in: it says more and counts as full. Else prove '..UptoSaid'. A law counts once. -/
mutual
def uptoBulk {H : Type} : DataW H → Nat
  | .lit (.string bytes) => bytes.length + 1
  | .lit _ => 1
  | .nil => 1
  | .ptr d => uptoBulk d + 1
  | .slice elems spare => uptoBulkAll elems + uptoBulkAll spare + 1
  | .agg parts => uptoBulkAll parts + 1
  | .iface _ d => uptoBulk d + 1
  | .map entries => uptoBulkEntries entries + 1
  | .held _ => 1
def uptoBulkAll {H : Type} : List (DataW H) → Nat
  | [] => 0
  | d :: r => uptoBulk d + uptoBulkAll r
def uptoBulkEntries {H : Type} : List (Lit × DataW H) → Nat
  | [] => 0
  | x :: r => uptoBulkEntry x + uptoBulkEntries r
def uptoBulkEntry {H : Type} : Lit × DataW H → Nat
  | (.string bytes, d) => bytes.length + uptoBulk d + 1
  | (_, d) => uptoBulk d + 1
 end
def uptoSmall : (H : Type) → List (DataW H) → Bool := fun _ ds => decide (uptoBulkAll ds ≤ 1048576)
def OpenSpec.upto (s : _root_.Go.ChangeSpec) : _root_.Go.OpenSpec := { _root_.Go.OpenSpec.ofChange s with cond := some uptoSmall }

/-- 'thatchlaw13.ValidZones', WHERE WHAT IT READS IS OF BULK AT MOST 1048576: true; the input reads as it did. -/
def validZonesUptoRow : OpenClaim := { program := "ytoboialfaifbgaa", sum := "d6e8243781086b2f6a459431a8d4c8d6c2ad2c834b7d4b3dae2107e345595696", func := "thatch/thatchlaw13.ValidZones", spec := "validZones", unfollowed := true, recurses := true, apart := false, narrowed := true }
def ValidZonesUptoSaid : Prop := validZonesUptoRow.holds Try.pinned (OpenSpec.upto validZonesSpec)

/-- 'thatchlaw19.VictimOrders', WHERE WHAT IT READS IS OF BULK AT MOST 1048576: true; the input reads as it did. -/
def victimOrdersUptoRow : OpenClaim := { program := "ytoboialfaifbgaa", sum := "d6e8243781086b2f6a459431a8d4c8d6c2ad2c834b7d4b3dae2107e345595696", func := "thatch/thatchlaw19.VictimOrders", spec := "victimOrders", unfollowed := true, recurses := true, apart := false, narrowed := true }
def VictimOrdersUptoSaid : Prop := victimOrdersUptoRow.holds Try.pinned (OpenSpec.upto victimOrdersSpec)

/-- 'thatchlaw19.VictimAhead', WHERE WHAT IT READS IS OF BULK AT MOST 1048576: true; the input reads as it did. -/
def victimAheadUptoRow : OpenClaim := { program := "ytoboialfaifbgaa", sum := "d6e8243781086b2f6a459431a8d4c8d6c2ad2c834b7d4b3dae2107e345595696", func := "thatch/thatchlaw19.VictimAhead", spec := "victimAhead", unfollowed := true, recurses := true, apart := false, narrowed := true }
def VictimAheadUptoSaid : Prop := victimAheadUptoRow.holds Try.pinned (OpenSpec.upto victimAheadSpec)

/-- 'thatchlaw19.VictimChoices', WHERE WHAT IT READS IS OF BULK AT MOST 1048576: true; the input reads as it did. -/
def victimChoicesUptoRow : OpenClaim := { program := "ytoboialfaifbgaa", sum := "d6e8243781086b2f6a459431a8d4c8d6c2ad2c834b7d4b3dae2107e345595696", func := "thatch/thatchlaw19.VictimChoices", spec := "victimChoices", unfollowed := true, recurses := true, apart := false, narrowed := true }
def VictimChoicesUptoSaid : Prop := victimChoicesUptoRow.holds Try.pinned (OpenSpec.upto victimChoicesSpec)

/-- 'thatchlaw19.VictimCrowds', WHERE WHAT IT READS IS OF BULK AT MOST 1048576: true; the input reads as it did. -/
def victimCrowdsUptoRow : OpenClaim := { program := "ytoboialfaifbgaa", sum := "d6e8243781086b2f6a459431a8d4c8d6c2ad2c834b7d4b3dae2107e345595696", func := "thatch/thatchlaw19.VictimCrowds", spec := "victimCrowds", unfollowed := true, recurses := true, apart := false, narrowed := true }
def VictimCrowdsUptoSaid : Prop := victimCrowdsUptoRow.holds Try.pinned (OpenSpec.upto victimCrowdsSpec)

/-- 'thatchlaw19.VictimSteps', WHERE WHAT IT READS IS OF BULK AT MOST 1048576: true; the input reads as it did. -/
def victimStepsUptoRow : OpenClaim := { program := "ytoboialfaifbgaa", sum := "d6e8243781086b2f6a459431a8d4c8d6c2ad2c834b7d4b3dae2107e345595696", func := "thatch/thatchlaw19.VictimSteps", spec := "victimSteps", unfollowed := true, recurses := true, apart := false, narrowed := true }
def VictimStepsUptoSaid : Prop := victimStepsUptoRow.holds Try.pinned (OpenSpec.upto victimStepsSpec)

end Rows
end Go.Proofs.Ytoboialfaifbgaa
