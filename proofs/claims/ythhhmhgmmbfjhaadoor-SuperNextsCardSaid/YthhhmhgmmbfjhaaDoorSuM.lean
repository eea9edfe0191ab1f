/- Contracts: whether a superblock may be, and what any bytes are as a superblock, by the document. Conditions: the geometry's Seq is a whole number of 64 bits; what comes in reads as bytes. -/
import Derived.Test.YthhhmhgmmbfjhaaDoorSuK
import Derived.Test.YthhhmhgmmbfjhaaDoorGeEk
namespace Go.Proofs.YthhhmhgmmbfjhaaDoor.SuM
open Go.RowKit MSep MFrame MGeM GeA GeE LeW LeR LeY RdA SuA SuB SuD SuJ SuK CrcA CrcM CrcE

theorem retb {b R : Bool} (h : b = R) : Ending.returned (.bool b) = Ending.returned (.bool R) := by rw [h]
theorem rlay_yes (c s n l k : Int) (w : World) (hs : -9223372036854775808 ≤ s ∧ s ≤ 9223372036854775807) (h : mayG ⟨c, s, n, l, k⟩) : Calls Tryd.prog 28 #[.agg #[.int .i64 c, .int .i64 s, .int .i64 n, .int .i64 l, .int .i64 k]] w fun e w' => (∃ y1 y2 y3 y4 y5 y6 y7 y8 : Int, e = .returned (.tuple #[.agg #[.int .i64 y1, .int .i64 y2, .int .i64 y3, .int .i64 y4, .int .i64 y5, .int .i64 y6, .int .i64 y7, .int .i64 y8], .bool true])) ∧ Fr No w w' := by
  refine (GeEk.rlayout_ok c s n l k w hs).mono ?_
  rintro e w' ⟨rfl, f⟩
  rw [rlo, if_pos h]
  exact ⟨⟨_, _, _, _, _, _, _, _, rfl⟩, f⟩
theorem rlay_no (c s n l k : Int) (w : World) (hs : -9223372036854775808 ≤ s ∧ s ≤ 9223372036854775807) (h : ¬ mayG ⟨c, s, n, l, k⟩) : Calls Tryd.prog 28 #[.agg #[.int .i64 c, .int .i64 s, .int .i64 n, .int .i64 l, .int .i64 k]] w fun e w' => e = .returned (.tuple #[.agg #[.int .i64 0, .int .i64 0, .int .i64 0, .int .i64 0, .int .i64 0, .int .i64 0, .int .i64 0, .int .i64 0], .bool false]) ∧ Fr No w w' := by
  refine (GeEk.rlayout_ok c s n l k w hs).mono ?_
  rintro e w' ⟨rfl, f⟩
  rw [rlo, if_neg h]
  exact ⟨rfl, f⟩
theorem mayS_of {g c s n l k t e f : Int} (hm : mayG ⟨c, s, n, l, k⟩) : mayS g c s n l k t e f ↔ (1 ≤ g ∧ g ≤ 1099511627776) ∧ (t = 0 ∨ t = 1) ∧ (1 ≤ e ∧ e ≤ 2147483648) ∧ (0 ≤ f ∧ f ≤ 1099511627776) := by
  have h := hm.1
  unfold inB at h
  simp only [] at h
  unfold mayS
  constructor
  · rintro ⟨_, h1, _, h3, h4, h5⟩
    exact ⟨h1, by omega, h4, h5⟩
  · rintro ⟨h1, h3, h4, h5⟩
    exact ⟨hm, h1, by omega, by omega, h4, h5⟩
set_option maxRecDepth 100000 in
set_option maxHeartbeats 4000000 in
theorem rmayS_ok (g c s n l k t e f : Int) (b : Bool) (w : World) (hs : -9223372036854775808 ≤ s ∧ s ≤ 9223372036854775807) : Calls Tryd.prog 17 #[sv g c s n l k t e f b] w fun E w' => E = .returned (.bool (decide (mayS g c s n l k t e f))) ∧ Fr No w w' := by
  obtain ⟨W, hW⟩ : ∃ W, w.alloc (sbx g c s n l k t e f b) = W := ⟨_, rfl⟩
  obtain ⟨X, hX⟩ : ∃ X, w.heap.size = X := ⟨_, rfl⟩
  have FW := hid (show Fr No w W by rw [← hW]; exact (Fr.refl No w).alloc _)
  have HB := hid (show Blk W X 25 #[.int .i64 g, .int .i64 c, .int .i64 s, .int .i64 n, .int .i64 l, .int .i64 k, .int .i64 t, .int .i64 e, .int .i64 f, .bool b] by
    rw [← hW, ← hX]
    exact Blk.new w _ _)
  have HS := hid hs
  have x1 : W.cell? ⟨X, 1, none⟩ = some (.int .i64 c) := HB.out.cell 1
  have x2 : W.cell? ⟨X, 2, none⟩ = some (.int .i64 s) := HB.out.cell 2
  have x3 : W.cell? ⟨X, 3, none⟩ = some (.int .i64 n) := HB.out.cell 3
  have x4 : W.cell? ⟨X, 4, none⟩ = some (.int .i64 l) := HB.out.cell 4
  have x5 : W.cell? ⟨X, 5, none⟩ = some (.int .i64 k) := HB.out.cell 5
  clear hs
  by_cases hm : mayG ⟨c, s, n, l, k⟩
  · have HM := hid (show ∀ g t e f, mayS g c s n l k t e f ↔ _ from fun g t e f => mayS_of (g := g) (t := t) (e := e) (f := f) hm)
    have HMG := hid hm
    clear hm
    go_enter Tryd.func17, Tryd.ntmps17
    go_upto_region 2 with (go_at_call 28; go_loud (refine (rlay_yes c s n l k _ HS.out HMG.out).mono ?_; rintro e' w1 ⟨⟨y1, y2, y3, y4, y5, y6, y7, y8, rfl⟩, f1⟩; replace FW := hid (FW.out.trans f1); replace HB := hid (Blk.fr HB.out f1 (fun h => h)); have q0 : ∀ o, (w1.alloc o).cell? ⟨X, 0, none⟩ = some (.int .i64 g) := fun o => Blk.cell (Blk.alloc HB.out o) 0; have q6 : ∀ o, (w1.alloc o).cell? ⟨X, 6, none⟩ = some (.int .i64 t) := fun o => Blk.cell (Blk.alloc HB.out o) 6; have q7 : ∀ o, (w1.alloc o).cell? ⟨X, 7, none⟩ = some (.int .i64 e) := fun o => Blk.cell (Blk.alloc HB.out o) 7; have q8 : ∀ o, (w1.alloc o).cell? ⟨X, 8, none⟩ = some (.int .i64 f) := fun o => Blk.cell (Blk.alloc HB.out o) 8; clear f1 x1 x2 x3 x4 x5))
    have HF := hid (FW.out.alloc (.cells #[.int .i64 y1, .int .i64 y2, .int .i64 y3, .int .i64 y4, .int .i64 y5, .int .i64 y6, .int .i64 y7, .int .i64 y8] 55))
    go_wp2
    all_goals
      go_ret
      refine ⟨retb ?_, HF.out⟩
      first
        | (rw [eq_comm, decide_eq_true_iff, HM.out]; omega)
        | (rw [eq_comm, decide_eq_false_iff_not, HM.out]; omega)
        | (rw [Bool.eq_iff_iff]; simp only [decide_eq_true_iff]; rw [HM.out]; omega)
        | (rw [Bool.eq_iff_iff, decide_eq_true_iff, HM.out]; simp; omega)
  · have HM := hid hm
    clear hm
    have HN := hid (show decide (mayS g c s n l k t e f) = false from decide_eq_false fun h => HM.out h.1)
    go_enter Tryd.func17, Tryd.ntmps17
    go_upto_region 2 with (go_at_call 28; go_loud (refine (rlay_no c s n l k _ HS.out HM.out).mono ?_; rintro e' w1 ⟨rfl, f1⟩; replace FW := hid (FW.out.trans f1); clear f1 x1 x2 x3 x4 x5))
    have HF := hid (FW.out.alloc (.cells #[.int .i64 0, .int .i64 0, .int .i64 0, .int .i64 0, .int .i64 0, .int .i64 0, .int .i64 0, .int .i64 0] 55))
    go_wp2
    go_ret
    exact ⟨retb HN.out.symm, HF.out⟩
end Go.Proofs.YthhhmhgmmbfjhaaDoor.SuM
