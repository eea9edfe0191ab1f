/- The frame of the rows of package crc's laws: what the listed table gives. -/
import Derived.Test.YtpiplcakefcaaaaDoorCrcA
import Derived.Test.YtpiplcakefcaaaaDoorTie
import Derived.Test.YtpiplcakefcaaaaDoorCards
import Derived.LaidMore
import Derived.SevenTiedAt
import Derived.Stop.Joined
import Derived.MakeChecks
namespace Go.Proofs.YtpiplcakefcaaaaDoor.CrcK
open Go.Joins Go.ChangeShapes Go.WideShapes Go.ChangeAt Go.RowKit Go.Deep MSep MFrame CrcM CrcA

def LD : List (String × DataW Unit) := [("thatch/crc.nibbles", Rows.laid_thatch_crc_nibbles)]
theorem gNib : Tryd.prog.globalNamed "thatch/crc.nibbles" = some 0 := by kernel_rfl
theorem tNib : (Tryd.prog.globals[0]?).map (·.type) = some 156 := by kernel_rfl

theorem door_met (os : Os) (args : Array Value) : laidMetH Tryd.prog LD ((World.doorLaid Tryd.prog 400 os).forCall (fun _ _ => 0) ⟨#[], args, []⟩).memory := by
  rw [MakeChecks.laidMetH_plain _ _ _ (by kernel_rfl)]
  exact laidMet_of_run' 8 (by kernel_rfl) (by kernel_rfl)

theorem tab_of_laid {W : World} (h : laidMetH Tryd.prog LD W) : TabAt W := by
  rw [MakeChecks.laidMetH_plain _ _ _ (by kernel_rfl)] at h
  obtain ⟨ps, ⟨g0, t0, cs0, f0, p0, q0, hg0, ht0, hv0, hd0, _⟩, _⟩ := h
  obtain rfl := Option.some.inj (gNib.symm.trans hg0)
  obtain rfl := Option.some.inj (tNib.symm.trans ht0)
  obtain ⟨xs, m1, rfl, hx1, hlen, hn3, hel⟩ := DataW.trod_array Tryd.underlying156 hd0
  have c1 : Tryd.prog.cellsOf 42 = 1 := by kernel_rfl
  intro i x hi
  have hi16 : i < 16 := by
    have := (List.getElem?_eq_some_iff.1 hi).1
    exact this
  have h0 := hel i hi16
  have hxi : xs[i]? = some (xs[i]'(by omega)) := List.getElem?_eq_getElem (by omega)
  rw [hxi] at h0
  obtain ⟨k, e1, e2, _⟩ := DataW.trod_int Tryd.underlying42 h0
  rw [c1, Nat.mul_one] at e1
  have hk : (xs.map (·.1))[i]? = some (.lit (.int .u32 k)) := by rw [List.getElem?_map, hxi, e2]; rfl
  simp only [Prod.mk.injEq] at hx1
  have hl : (.agg (xs.map (·.1)) : DataW _) = Rows.laid_thatch_crc_nibbles := hx1.1.symm
  rw [show Rows.laid_thatch_crc_nibbles = (.agg (tab.map fun (x : Nat) => DataW.lit (.int .u32 x)) : DataW _) from rfl, DataW.agg.injEq] at hl
  rw [hl, List.getElem?_map, hi] at hk
  have hkx : (x : Int) = k := by simpa using hk
  have hc : cs0.toList[i]? = some (.int .u32 x) := by
    have := congrArg (fun l => l[0]?) e1
    rw [hkx]
    simpa using this
  have := World.var?_cell hg0 hv0 i
  rw [this]
  simpa using hc
end Go.Proofs.YtpiplcakefcaaaaDoor.CrcK
