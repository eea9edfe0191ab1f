/- Contract: how many steps a zone takes, by the document. Condition: numbers of 64 bits. -/
import Derived.Test.YtgjcpepfggkieaaClA
import Derived.Test.YtgjcpepfggkieaaGeEk
import Derived.Test.YtgjcpepfggkieaaClF
namespace Go.Proofs.Ytgjcpepfggkieaa.ClR
open Go.RowKit MSep MGeM GeA GeC GeD GeE GeEk PlA PlB ClM ClA ClF

set_option maxRecDepth 100000 in
set_option maxHeartbeats 2000000 in
theorem steps_ok (gc gs gn gl gk : Int) (n ch : Int) (w : World) (hs : -9223372036854775808 ≤ gs ∧ gs ≤ 9223372036854775807) (hm : mayG ⟨gc, gs, gn, gl, gk⟩) (hn : 0 ≤ n ∧ n ≤ (lay ⟨gc, gs, gn, gl, gk⟩).b) (hc : 1 ≤ ch ∧ ch ≤ 1000000) :
    Calls Try.prog 28 #[.agg #[.int .i64 gc, .int .i64 gs, .int .i64 gn, .int .i64 gl, .int .i64 gk], .int .i64 n, .int .i64 ch] w fun r w' => r = .returned (.int .i64 (2 + n * (3 + cks ch (lay ⟨gc, gs, gn, gl, gk⟩).d))) ∧ Fr No w w' := by
  have HL := hid (fun W => rlayout_ok gc gs gn gl gk W hs)
  rw [rlo_yes hm] at HL
  have hb2 := (good hm.1).b2
  have hd1 := (good hm.1).d1
  have hd2 := (good hm.1).d2
  have P0 := hid (BG.new w gc gs gn gl gk)
  have HF := hid (fr1 w (bg gc gs gn gl gk))
  obtain ⟨y, hy0⟩ : ∃ y, lay ⟨gc, gs, gn, gl, gk⟩ = y := ⟨_, rfl⟩
  rw [hy0] at HL hn hb2 hd1 hd2
  rw [hy0]
  obtain ⟨ya, yr, yq, yb, yd, yt, yx, yu⟩ := y
  dsimp only at HL hn hb2 hd1 hd2 ⊢
  obtain ⟨hn1, hn2⟩ := hn
  obtain ⟨hc1, hc2⟩ := hc
  obtain ⟨K, hK⟩ : ∃ K, cks ch yd = K := ⟨_, rfl⟩
  have HK := hid hK
  have hK0 : 0 ≤ K := by rw [← hK]; exact cks_nonneg hc1 (by omega)
  have hK1 : K ≤ yd := by rw [← hK]; exact cks_le hc1 (by omega)
  rw [hK]
  have hp0 : 0 ≤ n * (3 + K) := Int.mul_nonneg hn1 (by omega)
  have hp1 : n * (3 + K) ≤ 126 * 1026 := Int.mul_le_mul (by omega) (by omega) (by omega) (by omega)
  obtain ⟨p, hp⟩ : ∃ p, n * (3 + K) = p := ⟨_, rfl⟩
  have HP := hid hp
  rw [hp] at hp0 hp1
  rw [hp]
  clear hm hy0 hK hp
  go_enter Try.func28, Try.ntmps28
  go_wp2_with (first | ((with_reducible refine ld_geom rfl (.tmp 3) rfl (w.heap.size) ?_ P0.out ?_); · rfl))
  refine (HL.out _).mono ?_
  rintro r v1 ⟨rfl, f1⟩
  have HF := hid ((HF.out.trans f1).alloc (by_ ya yr yq yb yd yt yx yu))
  have P0 := hid (show BG (v1.alloc (by_ ya yr yq yb yd yt yx yu)) (w.heap.size) gc gs gn gl gk from (Blk.fr P0.out f1 (fun h => h)).alloc _)
  have P7 := hid (BL.new v1 ya yr yq yb yd yt yx yu)
  obtain ⟨b7, hb⟩ : ∃ x, v1.heap.size = x := ⟨_, rfl⟩
  rw [hb] at P7
  clear f1
  obtain ⟨p7_0, p7_1, p7_2, p7_3, p7_4, p7_5, p7_6, p7_7⟩ := P7.out.cells
  go_wp2_with fail
  try rw [hb]
  clear hb
  go_loop [9, 10] (fun v u => ∃ i a : Int, v = .int .i64 i ∧ u = .int .i64 a ∧ 0 ≤ i ∧ i ≤ 2000 ∧ 0 ≤ a ∧ a < yd ∧ Hid (i + cks ch (yd - a) = K)) (fun _ u => (yd - intOf u).toNat)
  case atStart => exact ⟨0, 0, rfl, rfl, by omega, by omega, by omega, by omega, hid (by rw [Int.sub_zero, HK.out]; simp)⟩
  case round =>
    obtain ⟨i, a, rfl, rfl, hi0, hi1, ha0, ha1, HI⟩ := hrel
    have hst := cks_step (ch := ch) (x := yd - a) hc1 (by omega)
    have hnn := cks_nonneg (ch := ch) (x := yd - a - min ch (yd - a)) hc1 (by omega)
    have hik : i + 1 ≤ K := by have := HI.out; omega
    by_cases hcd : yd - a ≤ ch
    · have HE := hid (show i + 1 = K by
        have h := HI.out
        rw [Int.min_eq_right hcd, Int.sub_self, cks_zero hc1] at hst
        omega)
      have m1 : wrap64 (n * (3 + (i + 1))) = p := by rw [HE.out, HP.out]; exact w64 _ (by omega)
      clear hst hnn
      go_wp2_with fail
      go_ret
      exact ⟨rfl, HF.out⟩
    · have HN := hid (show (i + 1) + cks ch (yd - (a + ch)) = K by
        have h := HI.out
        rw [Int.min_eq_left (by omega)] at hst
        rw [show yd - (a + ch) = yd - a - ch by omega]
        omega)
      clear hst hnn
      go_wp2_with fail
      go_round
      case rel => exact ⟨i + 1, a + ch, rfl, rfl, by omega, by omega, by omega, by omega, HN⟩
      case measure => simp [intOf]; omega
end Go.Proofs.Ytgjcpepfggkieaa.ClR
