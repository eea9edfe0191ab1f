/- What must come of every program of package geom. No condition. -/
import Derived.Test.YtkjebdojcnpjlaaGeH
namespace Go.Proofs.Ytkjebdojcnpjlaa.GeL
open Go.RowKit MSep MSepC MGeM GeA GeB GeC GeD GeE GeEk GeF MGeG SqU GeH

theorem m1 : mayG ⟨2, 8, 16, 3, 2⟩ := by decide
theorem m0 : ¬ mayG ⟨0, 0, 0, 0, 0⟩ := by decide
theorem l1 : lay ⟨2, 8, 16, 3, 2⟩ = ⟨7, 16, 16, 5, 15, 75, 38, 8⟩ := rfl
theorem e1 : lyo ⟨2, 8, 16, 3, 2⟩ = (⟨7, 16, 16, 5, 15, 75, 38, 8⟩, 0) := by unfold lyo; rw [if_pos m1, l1]
theorem e2 : lyo ⟨0, 0, 0, 0, 0⟩ = (z8, 70) := by unfold lyo; rw [if_neg m0]
theorem e3 : bno ⟨2, 8, 16, 3, 2⟩ 17 = (1, 2) := by unfold bno; rw [l1, if_pos ⟨m1, by decide, by decide⟩]; rfl
theorem e5 : rio ⟨2, 8, 16, 3, 2⟩ 17 = 17 := by unfold rio; rw [l1, if_pos ⟨m1, by decide⟩]; rfl
theorem e6 : cko ⟨2, 8, 16, 3, 2⟩ 75 1 = 71 := cko_bad m1 (fun h => absurd h.2.2 (by decide))
theorem e7 : cko ⟨2, 8, 16, 3, 2⟩ 14 10 = 0 := cko_ok m1 ⟨by unfold MSpM.may; decide, by decide, by decide⟩
theorem ok3 : Ok 14 24 15 8 3 := by
  intro j hj
  match j, hj with
  | 0, _ => decide
  | 1, _ => decide
  | 2, _ => decide
theorem runs3 {L : List MSpM.Sp} (h : RunsOf ⟨2, 8, 16, 3, 2⟩ 14 10 L) : L.length = 3 := by
  have h3 : RunsOf ⟨2, 8, 16, 3, 2⟩ 14 10 (rns 14 24 15 8 3) := .inr ⟨e7, 3, by rw [l1]; exact ok3, by rw [l1]; decide, by rw [l1]; rfl, by decide⟩
  rw [RunsOf.one h h3, rns_len]
set_option maxRecDepth 100000 in
set_option maxHeartbeats 4000000 in
theorem lives_ok (w : World) : Calls Try.prog 5 #[] w fun e w' => e = .returned (.bool true) ∧ Fr No w w' := by
  have H1 := hid (fun W => layout_ok 2 8 16 3 2 W (by decide))
  rw [e1] at H1
  have H2 := hid (fun W => layout_ok 0 0 0 0 0 W (by decide))
  rw [e2] at H2
  unfold z8 at H2
  have H3 := hid (fun W => band_ok 2 8 16 3 2 17 W (by decide) (by decide))
  rw [e3] at H3
  have H4 := hid (fun W => runs_ok 2 8 16 3 2 14 10 W (by decide) (by unfold SpA.wf; decide))
  have H5 := hid (fun W => ring_ok 2 8 16 3 2 17 W (by decide) (by decide))
  rw [e5] at H5
  have H6 := hid (fun W => check_ok 2 8 16 3 2 75 1 W (by decide) (by unfold SpA.wf; decide))
  rw [e6] at H6
  have H7 := hid (fun W => may_ok 2 8 16 3 2 W (by decide))
  rw [decide_eq_true m1] at H7
  dsimp only at H1 H2 H3
  have HF := hid (fr1 w (bg 2 8 16 3 2))
  have P0 := hid (BG.new w 2 8 16 3 2)
  go_enter Try.func5, Try.ntmps5
  go_wp2_with fail
  refine (H1.out _).mono ?_
  rintro e w1 ⟨rfl, f1⟩
  have HF := hid ((HF.out.trans f1).alloc (by_ 7 16 16 5 15 75 38 8))
  have P0 := hid (show BG (w1.alloc (by_ 7 16 16 5 15 75 38 8)) w.heap.size 2 8 16 3 2 from (P0.out.fr f1 : Blk _ _ _ _).alloc _)
  have P1 := hid (BL.new w1 7 16 16 5 15 75 38 8)
  clear f1
  go_wp2_with fail
  refine (H2.out _).mono ?_
  rintro e w2 ⟨rfl, f2⟩
  have HF := hid ((HF.out.trans f2).alloc zy)
  have P0 := hid (show BG (w2.alloc zy) w.heap.size 2 8 16 3 2 from (P0.out.fr f2 : Blk _ _ _ _).alloc _)
  have P1 := hid (show BL (w2.alloc zy) w1.heap.size 7 16 16 5 15 75 38 8 from (P1.out.fr f2 : Blk _ _ _ _).alloc _)
  clear f2
  go_wp2_with ((with_reducible refine ld_geom rfl (.tmp 1) rfl w.heap.size ?_ P0.out ?_); · rfl)
  refine (H3.out _).mono ?_
  rintro e w3 ⟨rfl, f3⟩
  have HF := kf f3 HF
  have P0 := hid (P0.out.fr f3)
  have P1 := hid (P1.out.fr f3)
  clear f3
  go_wp2_with ((with_reducible refine ld_geom rfl (.tmp 1) rfl w.heap.size ?_ P0.out ?_); · rfl)
  refine (H4.out _).mono ?_
  rintro e w4 ⟨L, hL, A4, k4, c4, rfl, r4, f4⟩
  obtain rfl : k4 = 3 := by rw [← r4.1, runs3 hL]
  have HF := kf f4 HF
  have P0 := hid (P0.out.fr f4)
  have P1 := hid (P1.out.fr f4)
  clear f4 r4 hL
  obtain ⟨a0, a1, a2, a3, a4⟩ := P0.out.cells
  obtain ⟨b0, b1, b2, b3, b4, b5, b6, b7⟩ := P1.out.cells
  go_wp2_with fail
  refine (H5.out _).mono ?_
  rintro e w5 ⟨rfl, f5⟩
  have HF := kf f5 HF
  have P0 := hid (P0.out.fr f5)
  clear f5 a0 a1 a2 a3 a4 b0 b1 b2 b3 b4 b5 b6 b7
  obtain ⟨a0, a1, a2, a3, a4⟩ := P0.out.cells
  go_wp2_with fail
  refine (H6.out _).mono ?_
  rintro e w6 ⟨rfl, f6⟩
  have HF := kf f6 HF
  have P0 := hid (P0.out.fr f6)
  clear f6 a0 a1 a2 a3 a4
  obtain ⟨a0, a1, a2, a3, a4⟩ := P0.out.cells
  go_wp2_with fail
  refine (H7.out _).mono ?_
  rintro e w7 ⟨rfl, f7⟩
  have HF := kf f7 HF
  clear f7
  go_wp2
  go_ret
  exact ⟨rfl, HF.out⟩
end Go.Proofs.Ytkjebdojcnpjlaa.GeL
