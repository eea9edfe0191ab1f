/-
  No cell of these rows narrows 'for every input' (looked for: loops, veiled, ifaces, maps, wideKeys, modest, calm, conditions, laid).
  DERIVED. THE GIVEN ROWS OF THIS SEAT. 6 by the template 'for every input the law returns true; each argument reads behind the call as it read before'; 0 by the template 'total and deterministic' (their statements: YtmjdnficmiglaaaTotals.lean).
  GIVEN WITH THE SEED: the statements are not yours to turn. If you find one false, say at which input.
  Laid BY PROGRAM, IN A SANDBOX (cutbox-rows.mjs): the forced cells as the released guide's own fill.sh prints them over the translation deba77b136b9ca31… (all of the seat's roots in one cut). By AI agents, Wed Nov 11 2026. No macro, syntax, notation, axiom, sorry.
-/
import Derived.Test.YtmjdnficmiglaaaChecked
import GoSem.Claim
import GoSem.ClaimJoined
import GoSem.ClaimMapViews
import Derived.JoinedTies
import Derived.KernelRfl
namespace Go.Proofs.Ytmjdnficmiglaaa
/- THE CELL 'sum', in the pinned program and in every row, IS THE sha256 OF THE DUMP (.gsa) THAT YtmjdnficmiglaaaProg.lean LOADS. Nothing in Lean hashes anything: it is a label: what it is worth is what the hold of that sum in a sandbox is worth. -/
noncomputable def Try.pinned : Pinned := { name := "ytmjdnficmiglaaa", sum := "deba77b136b9ca3172d0ea1c770826e7aa4ea4330f174207374ca89ef7913085", checked := Try.checked }
namespace Rows
def none {H : Type} : Left H := { results := [], args := [] }

/-- 'thatchlaw07.GeomLayouts': WHATEVER THE INPUT: true; the input reads as it did. -/
def geomLayoutsSpec : ChangeSpec := { name := "geomLayouts", fn := fun _ => fun
  | [d1, d2] => { results := [.lit (.bool true)], args := [d1, d2] }
  | _ => none }
def geomLayoutsRow : OpenClaim := { program := "ytmjdnficmiglaaa", sum := "deba77b136b9ca3172d0ea1c770826e7aa4ea4330f174207374ca89ef7913085", func := "thatch/thatchlaw07.GeomLayouts", spec := "geomLayouts", apart := false }
def GeomLayoutsSaid : Prop := geomLayoutsRow.holds Try.pinned (OpenSpec.ofChange geomLayoutsSpec)

/-- ITS FALSE NEIGHBOUR: 'it returns false'. Refute it at one input. -/
def geomLayoutsWrong : ChangeSpec := { name := "geomLayouts", fn := fun _ => fun
  | [d1, d2] => { results := [.lit (.bool false)], args := [d1, d2] }
  | _ => none }
def GeomLayoutsWrongFalsely : Prop := geomLayoutsRow.holds Try.pinned (OpenSpec.ofChange geomLayoutsWrong)

/-- 'thatchlaw07.GeomPlaces': WHATEVER THE INPUT: true; the input reads as it did. -/
def geomPlacesSpec : ChangeSpec := { name := "geomPlaces", fn := fun _ => fun
  | [d1, d2] => { results := [.lit (.bool true)], args := [d1, d2] }
  | _ => none }
def geomPlacesRow : OpenClaim := { program := "ytmjdnficmiglaaa", sum := "deba77b136b9ca3172d0ea1c770826e7aa4ea4330f174207374ca89ef7913085", func := "thatch/thatchlaw07.GeomPlaces", spec := "geomPlaces", apart := false }
def GeomPlacesSaid : Prop := geomPlacesRow.holds Try.pinned (OpenSpec.ofChange geomPlacesSpec)

/-- ITS FALSE NEIGHBOUR: 'it returns false'. Refute it at one input. -/
def geomPlacesWrong : ChangeSpec := { name := "geomPlaces", fn := fun _ => fun
  | [d1, d2] => { results := [.lit (.bool false)], args := [d1, d2] }
  | _ => none }
def GeomPlacesWrongFalsely : Prop := geomPlacesRow.holds Try.pinned (OpenSpec.ofChange geomPlacesWrong)

/-- 'thatchlaw07.GeomBands': WHATEVER THE INPUT: true; the input reads as it did. -/
def geomBandsSpec : ChangeSpec := { name := "geomBands", fn := fun _ => fun
  | [d1, d2, d3] => { results := [.lit (.bool true)], args := [d1, d2, d3] }
  | _ => none }
def geomBandsRow : OpenClaim := { program := "ytmjdnficmiglaaa", sum := "deba77b136b9ca3172d0ea1c770826e7aa4ea4330f174207374ca89ef7913085", func := "thatch/thatchlaw07.GeomBands", spec := "geomBands", apart := false }
def GeomBandsSaid : Prop := geomBandsRow.holds Try.pinned (OpenSpec.ofChange geomBandsSpec)

/-- ITS FALSE NEIGHBOUR: 'it returns false'. Refute it at one input. -/
def geomBandsWrong : ChangeSpec := { name := "geomBands", fn := fun _ => fun
  | [d1, d2, d3] => { results := [.lit (.bool false)], args := [d1, d2, d3] }
  | _ => none }
def GeomBandsWrongFalsely : Prop := geomBandsRow.holds Try.pinned (OpenSpec.ofChange geomBandsWrong)

/-- 'thatchlaw07.GeomRuns': WHATEVER THE INPUT: true; the input reads as it did. -/
def geomRunsSpec : ChangeSpec := { name := "geomRuns", fn := fun _ => fun
  | [d1, d2] => { results := [.lit (.bool true)], args := [d1, d2] }
  | _ => none }
def geomRunsRow : OpenClaim := { program := "ytmjdnficmiglaaa", sum := "deba77b136b9ca3172d0ea1c770826e7aa4ea4330f174207374ca89ef7913085", func := "thatch/thatchlaw07.GeomRuns", spec := "geomRuns", apart := false }
def GeomRunsSaid : Prop := geomRunsRow.holds Try.pinned (OpenSpec.ofChange geomRunsSpec)

/-- ITS FALSE NEIGHBOUR: 'it returns false'. Refute it at one input. -/
def geomRunsWrong : ChangeSpec := { name := "geomRuns", fn := fun _ => fun
  | [d1, d2] => { results := [.lit (.bool false)], args := [d1, d2] }
  | _ => none }
def GeomRunsWrongFalsely : Prop := geomRunsRow.holds Try.pinned (OpenSpec.ofChange geomRunsWrong)

/-- 'thatchlaw07.GeomParts': WHATEVER THE INPUT: true; the input reads as it did. -/
def geomPartsSpec : ChangeSpec := { name := "geomParts", fn := fun _ => fun
  | [d] => { results := [.lit (.bool true)], args := [d] }
  | _ => none }
def geomPartsRow : OpenClaim := { program := "ytmjdnficmiglaaa", sum := "deba77b136b9ca3172d0ea1c770826e7aa4ea4330f174207374ca89ef7913085", func := "thatch/thatchlaw07.GeomParts", spec := "geomParts", apart := false }
def GeomPartsSaid : Prop := geomPartsRow.holds Try.pinned (OpenSpec.ofChange geomPartsSpec)

/-- ITS FALSE NEIGHBOUR: 'it returns false'. Refute it at one input. -/
def geomPartsWrong : ChangeSpec := { name := "geomParts", fn := fun _ => fun
  | [d] => { results := [.lit (.bool false)], args := [d] }
  | _ => none }
def GeomPartsWrongFalsely : Prop := geomPartsRow.holds Try.pinned (OpenSpec.ofChange geomPartsWrong)

/-- 'thatchlaw07.GeomRoom': WHATEVER THE INPUT: true; the input reads as it did. -/
def geomRoomSpec : ChangeSpec := { name := "geomRoom", fn := fun _ => fun
  | [d] => { results := [.lit (.bool true)], args := [d] }
  | _ => none }
def geomRoomRow : OpenClaim := { program := "ytmjdnficmiglaaa", sum := "deba77b136b9ca3172d0ea1c770826e7aa4ea4330f174207374ca89ef7913085", func := "thatch/thatchlaw07.GeomRoom", spec := "geomRoom", apart := false }
def GeomRoomSaid : Prop := geomRoomRow.holds Try.pinned (OpenSpec.ofChange geomRoomSpec)

/-- ITS FALSE NEIGHBOUR: 'it returns false'. Refute it at one input. -/
def geomRoomWrong : ChangeSpec := { name := "geomRoom", fn := fun _ => fun
  | [d] => { results := [.lit (.bool false)], args := [d] }
  | _ => none }
def GeomRoomWrongFalsely : Prop := geomRoomRow.holds Try.pinned (OpenSpec.ofChange geomRoomWrong)

/- THE SECOND FORM. 'bulk': how many values and letters a reading holds, each counted each time it is reached (what is shared counts as often as it is met; a slice's spare places count too). A statement '..UptoSaid' is the law's where the arguments, and the package variables that the reading takes, are together of bulk at most 1048576: NARROWER than '..Said'. Prove '..Said' where nothing that the law and all that it calls make is longer than what came in: it says more and counts as full. Else prove '..UptoSaid'. A law counts once. -/
mutual
def uptoBulk {H : Type} : DataW H → Nat
  | .lit (.string bytes) => bytes.length + 1
  | .lit _ => 1
  | .nil => 1
  | .ptr d => uptoBulk d + 1
  | .slice elems spare => uptoBulkAll elems + uptoBulkAll spare + 1
  | .agg parts => uptoBulkAll parts + 1
  | .iface _ d => uptoBulk d + 1
  | .map entries => uptoBulkEntries entries + 1
  | .held _ => 1
def uptoBulkAll {H : Type} : List (DataW H) → Nat
  | [] => 0
  | d :: r => uptoBulk d + uptoBulkAll r
def uptoBulkEntries {H : Type} : List (Lit × DataW H) → Nat
  | [] => 0
  | x :: r => uptoBulkEntry x + uptoBulkEntries r
def uptoBulkEntry {H : Type} : Lit × DataW H → Nat
  | (.string bytes, d) => bytes.length + uptoBulk d + 1
  | (_, d) => uptoBulk d + 1
 end
def uptoSmall : (H : Type) → List (DataW H) → Bool := fun _ ds => decide (uptoBulkAll ds ≤ 1048576)
def OpenSpec.upto (s : _root_.Go.ChangeSpec) : _root_.Go.OpenSpec := { _root_.Go.OpenSpec.ofChange s with cond := some uptoSmall }

/-- 'thatchlaw07.GeomLayouts', WHERE WHAT IT READS IS OF BULK AT MOST 1048576: true; the input reads as it did. -/
def geomLayoutsUptoRow : OpenClaim := { program := "ytmjdnficmiglaaa", sum := "deba77b136b9ca3172d0ea1c770826e7aa4ea4330f174207374ca89ef7913085", func := "thatch/thatchlaw07.GeomLayouts", spec := "geomLayouts", apart := false, narrowed := true }
def GeomLayoutsUptoSaid : Prop := geomLayoutsUptoRow.holds Try.pinned (OpenSpec.upto geomLayoutsSpec)

/-- 'thatchlaw07.GeomPlaces', WHERE WHAT IT READS IS OF BULK AT MOST 1048576: true; the input reads as it did. -/
def geomPlacesUptoRow : OpenClaim := { program := "ytmjdnficmiglaaa", sum := "deba77b136b9ca3172d0ea1c770826e7aa4ea4330f174207374ca89ef7913085", func := "thatch/thatchlaw07.GeomPlaces", spec := "geomPlaces", apart := false, narrowed := true }
def GeomPlacesUptoSaid : Prop := geomPlacesUptoRow.holds Try.pinned (OpenSpec.upto geomPlacesSpec)

/-- 'thatchlaw07.GeomBands', WHERE WHAT IT READS IS OF BULK AT MOST 1048576: true; the input reads as it did. -/
def geomBandsUptoRow : OpenClaim := { program := "ytmjdnficmiglaaa", sum := "deba77b136b9ca3172d0ea1c770826e7aa4ea4330f174207374ca89ef7913085", func := "thatch/thatchlaw07.GeomBands", spec := "geomBands", apart := false, narrowed := true }
def GeomBandsUptoSaid : Prop := geomBandsUptoRow.holds Try.pinned (OpenSpec.upto geomBandsSpec)

/-- 'thatchlaw07.GeomRuns', WHERE WHAT IT READS IS OF BULK AT MOST 1048576: true; the input reads as it did. -/
def geomRunsUptoRow : OpenClaim := { program := "ytmjdnficmiglaaa", sum := "deba77b136b9ca3172d0ea1c770826e7aa4ea4330f174207374ca89ef7913085", func := "thatch/thatchlaw07.GeomRuns", spec := "geomRuns", apart := false, narrowed := true }
def GeomRunsUptoSaid : Prop := geomRunsUptoRow.holds Try.pinned (OpenSpec.upto geomRunsSpec)

/-- 'thatchlaw07.GeomParts', WHERE WHAT IT READS IS OF BULK AT MOST 1048576: true; the input reads as it did. -/
def geomPartsUptoRow : OpenClaim := { program := "ytmjdnficmiglaaa", sum := "deba77b136b9ca3172d0ea1c770826e7aa4ea4330f174207374ca89ef7913085", func := "thatch/thatchlaw07.GeomParts", spec := "geomParts", apart := false, narrowed := true }
def GeomPartsUptoSaid : Prop := geomPartsUptoRow.holds Try.pinned (OpenSpec.upto geomPartsSpec)

/-- 'thatchlaw07.GeomRoom', WHERE WHAT IT READS IS OF BULK AT MOST 1048576: true; the input reads as it did. -/
def geomRoomUptoRow : OpenClaim := { program := "ytmjdnficmiglaaa", sum := "deba77b136b9ca3172d0ea1c770826e7aa4ea4330f174207374ca89ef7913085", func := "thatch/thatchlaw07.GeomRoom", spec := "geomRoom", apart := false, narrowed := true }
def GeomRoomUptoSaid : Prop := geomRoomUptoRow.holds Try.pinned (OpenSpec.upto geomRoomSpec)

end Rows
end Go.Proofs.Ytmjdnficmiglaaa
