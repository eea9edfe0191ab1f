/- Contracts: what follows from a geometry within its bounds, by the document: where a slot has too little room; the whole. Condition: all numbers are 64 bits. -/
import Derived.Test.YtoboialfaifbgaaGeE
namespace Go.Proofs.Ytoboialfaifbgaa.GeEj
open Go.RowKit MSep MGeM GeA GeB GeC GeD GeE

set_option maxRecDepth 100000 in
set_option maxHeartbeats 2000000 in
theorem rlayout_c (c s n l k : Int) (w : World) (hs : -9223372036854775808 ≤ s ∧ s ≤ 9223372036854775807) (hB : inB ⟨c, s, n, l, k⟩) (hQ : 0 < ((lay ⟨c, s, n, l, k⟩).a * 96 - 40 - 2 * (s - k - 1) - (s + 7) / 8) ∧ ((lay ⟨c, s, n, l, k⟩).a * 96 - 40 - 2 * (s - k - 1) - (s + 7) / 8) / 16 < 8) : Calls Try.prog 22 #[.agg #[.int .i64 c, .int .i64 s, .int .i64 n, .int .i64 l, .int .i64 k]] w fun e w' => e = .returned (.tuple #[yv (rlo ⟨c, s, n, l, k⟩).1, .bool (rlo ⟨c, s, n, l, k⟩).2]) ∧ Fr No w w' := by
  have HF := hid ((fr1 w (bg c s n l k)).alloc zy)
  have P0 := hid (BG2 w c s n l k zy)
  have P1 := hid (BL.new2 w (bg c s n l k) 0 0 0 0 0 0 0 0)
  have HS := hid (fun W => rshape_ok c s n l W)
  have hg := good hB
  have hX : (lay ⟨c, s, n, l, k⟩).x = min (max ((lay ⟨c, s, n, l, k⟩).a * 96 - 40 - (lay ⟨c, s, n, l, k⟩).b * 2 - (s + 7) / 8) 0 / 16) 2048 := rfl
  have hA : (lay ⟨c, s, n, l, k⟩).a = (c * n - 2) / 4 := rfl
  have hr : rlo ⟨c, s, n, l, k⟩ = if 8 ≤ (lay ⟨c, s, n, l, k⟩).x then (lay ⟨c, s, n, l, k⟩, true) else (z8, false) := by
    unfold rlo
    have : 8 ≤ (lay ⟨c, s, n, l, k⟩).q := by have := hg.q0; have := hg.r0; have := hg.a2; have := hg.a3; have := hg.C0; omega
    by_cases h8 : 8 ≤ (lay ⟨c, s, n, l, k⟩).x
    · rw [if_pos (show mayG _ from ⟨hB, this, h8⟩), if_pos h8]
    · rw [if_neg (fun h : mayG _ => h8 h.2.2), if_neg h8]
  rw [hr]
  obtain ⟨y, hy⟩ : ∃ y, lay ⟨c, s, n, l, k⟩ = y := ⟨_, rfl⟩
  rw [hy] at hg hX hA hQ ⊢
  rw [decide_eq_true (show shpB c s n l by unfold inB at hB; unfold shpB; dsimp only at hB; omega)] at HS
  obtain ⟨a, r, q, b, d, t, x, u⟩ := y
  obtain ⟨hC, C0, C1, a0, a1, a2, a3, r0, q0, b0, b1, b2, d0, d1, d2, t0, t1, t2, x0, x1, u0, u1, u2, u3⟩ := hg
  dsimp only at C0 C1 a0 a1 a2 a3 r0 q0 b0 b1 b2 d0 d1 d2 t0 t1 t2 x0 x1 u0 u1 u2 u3 hX hA ⊢
  clear hC hr hy
  obtain ⟨C, hC'⟩ : ∃ C, c * n = C := ⟨_, rfl⟩
  rw [hC'] at C0 C1 a2 a3 q0 hA
  obtain ⟨⟨B1, B2⟩, ⟨B3, B4⟩, ⟨B5, B6⟩, ⟨B7, B8⟩, B9, B10⟩ := hB
  dsimp only at B1 B2 B3 B4 B5 B6 B7 B8 B9 B10
  obtain ⟨E, hE⟩ : ∃ E, (s + 7) / 8 = E := ⟨_, rfl⟩
  have hE0 : 1 ≤ E ∧ E ≤ 16 := by omega
  rw [hE] at hX
  have m0 : wrap64 (c * n) = C := by rw [hC']; exact w64 _ (by omega)
  have m1 : wrap64 (C - 2) = C - 2 := w64 _ (by omega)
  have m2 : wrap64 ((C - 2).tdiv 4) = a := by rw [Int.tdiv_eq_ediv_of_nonneg (by omega), ← hA]; exact w64 _ (by omega)
  have m3 : wrap64 (2 * a) = 2 * a := w64 _ (by omega)
  have m4 : wrap64 (2 + 2 * a) = r := by rw [r0]; exact w64 _ (by omega)
  have m5 : wrap64 (C - r) = q := by rw [q0]; exact w64 _ (by omega)
  have m9 : wrap64 ((s - k - 1) * (n - 1)) = t := by rw [← b0, ← d0, ← t0]; exact w64 _ (by omega)
  have m10 : wrap64 ((s + 7).tdiv 8) = E := by rw [Int.tdiv_eq_ediv_of_nonneg (by omega), hE]; exact w64 _ (by omega)
  obtain ⟨R, hR⟩ : ∃ R, a * 96 - 40 - 2 * (s - k - 1) - E = R := ⟨_, rfl⟩
  have hRb : -1000000 ≤ R ∧ R ≤ 1000000 := by omega
  have hX2 : x = min (max R 0 / 16) 2048 := by rw [hX, b0]; congr 3; omega
  have e1 : (C - 2) / 4 = a := hA.symm
  have e2 : 2 + 2 * a = r := r0.symm
  have e3 : C - r = q := q0.symm
  have q8 : 8 ≤ q := by omega
  have m11 : wrap64 (a * 96 - 40 - 2 * (s - k - 1) - E) = R := by rw [hR]; exact w64 _ (by omega)
  subst b0 d0
  clear hX hC' hA a2 a3 r0 q0 b1 b2 d1 d2 t0 t1 t2 x0 x1 u1 u2 u3
  dsimp only at hQ
  rw [hE, hR] at hQ
  obtain ⟨h1, hQ2⟩ := hQ
  have hx : R / 16 = x := by omega
  have m12 : wrap64 (R.tdiv 16) = x := by rw [Int.tdiv_eq_ediv_of_nonneg (by omega), hx]; exact w64 _ (by omega)
  have h2 : ¬ 2048 < x := by omega
  have h3 : ¬ 8 ≤ x := by omega
  rw [if_neg (by omega)]
  clear hX2
  by_cases hu : 8 < n - 2
  · have hu' : u = 8 := by omega
    subst hu'
    clear u0
    have g0 : ¬ c < 2 := by omega
    have g1 : ¬ s < 4 := by omega
    have g2 : ¬ n < 8 := by omega
    have g3 : ¬ l < 2 := by omega
    have g4 : ¬ k < 1 := by omega
    have g5 : ¬ s - 2 < k := by omega
    go_enter Try.func22, Try.ntmps22
    go_wp2_with fail
    refine (HS.out _).mono ?_
    rintro e w1 ⟨rfl, f1⟩
    have S1 : w.heap.size + 2 ≤ w1.heap.size := by have := f1.size; simp at this; omega
    have HF := kf f1 HF
    have P0 := hid (P0.out.fr f1)
    have P1 := hid (P1.out.fr f1)
    clear f1 HS
    obtain ⟨c0, c1, c2, c3, c4⟩ := P0.out.cells
    have q1 : ∀ o, (w1.alloc o).cell? ⟨w.heap.size, 1, none⟩ = some (.int .i64 s) := fun o => kc (fr1 w1 o) c1
    have HF := hid (HF.out.alloc (by_ a r q (s - k - 1) (n - 1) t x 8))
    have P1 := hid (show BL (w1.alloc (by_ a r q (s - k - 1) (n - 1) t x 8)) (w.heap.size + 1) 0 0 0 0 0 0 0 0 from (P1.out : Blk _ _ _ _).alloc _)
    go_wp2_with ((with_reducible refine st_lay rfl (.tmp 2) (.tmp 123) rfl (w.heap.size + 1) ?_ (a' := 0) (r' := 0) (q' := 0) (b' := 0) (d' := 0) (t' := 0) (x' := 0) (u' := 0) ?_ P1.out ?_); (· rfl); (· rfl); intro W' hb hf; have HB := hid hb; have HF := kfg (by omega) HF hf; clear hb hf)
    exact bodyPost_ret (v := .tuple #[yv z8, .bool false]) (resLb rfl _ _ (w.heap.size + 1) 0 0 0 0 0 0 0 0 false rfl rfl HB.out) rfl ⟨rfl, HF.out⟩
  · have hu' : u = (n - 2) := by omega
    subst hu'
    clear u0
    have g0 : ¬ c < 2 := by omega
    have g1 : ¬ s < 4 := by omega
    have g2 : ¬ n < 8 := by omega
    have g3 : ¬ l < 2 := by omega
    have g4 : ¬ k < 1 := by omega
    have g5 : ¬ s - 2 < k := by omega
    go_enter Try.func22, Try.ntmps22
    go_wp2_with fail
    refine (HS.out _).mono ?_
    rintro e w1 ⟨rfl, f1⟩
    have S1 : w.heap.size + 2 ≤ w1.heap.size := by have := f1.size; simp at this; omega
    have HF := kf f1 HF
    have P0 := hid (P0.out.fr f1)
    have P1 := hid (P1.out.fr f1)
    clear f1 HS
    obtain ⟨c0, c1, c2, c3, c4⟩ := P0.out.cells
    have q1 : ∀ o, (w1.alloc o).cell? ⟨w.heap.size, 1, none⟩ = some (.int .i64 s) := fun o => kc (fr1 w1 o) c1
    have HF := hid (HF.out.alloc (by_ a r q (s - k - 1) (n - 1) t x (n - 2)))
    have P1 := hid (show BL (w1.alloc (by_ a r q (s - k - 1) (n - 1) t x (n - 2))) (w.heap.size + 1) 0 0 0 0 0 0 0 0 from (P1.out : Blk _ _ _ _).alloc _)
    go_wp2_with ((with_reducible refine st_lay rfl (.tmp 2) (.tmp 123) rfl (w.heap.size + 1) ?_ (a' := 0) (r' := 0) (q' := 0) (b' := 0) (d' := 0) (t' := 0) (x' := 0) (u' := 0) ?_ P1.out ?_); (· rfl); (· rfl); intro W' hb hf; have HB := hid hb; have HF := kfg (by omega) HF hf; clear hb hf)
    exact bodyPost_ret (v := .tuple #[yv z8, .bool false]) (resLb rfl _ _ (w.heap.size + 1) 0 0 0 0 0 0 0 0 false rfl rfl HB.out) rfl ⟨rfl, HF.out⟩
set_option maxRecDepth 100000 in
set_option maxHeartbeats 2000000 in
theorem rlayout_d (c s n l k : Int) (w : World) (hs : -9223372036854775808 ≤ s ∧ s ≤ 9223372036854775807) (hB : inB ⟨c, s, n, l, k⟩) (hQ : ¬ 0 < ((lay ⟨c, s, n, l, k⟩).a * 96 - 40 - 2 * (s - k - 1) - (s + 7) / 8)) : Calls Try.prog 22 #[.agg #[.int .i64 c, .int .i64 s, .int .i64 n, .int .i64 l, .int .i64 k]] w fun e w' => e = .returned (.tuple #[yv (rlo ⟨c, s, n, l, k⟩).1, .bool (rlo ⟨c, s, n, l, k⟩).2]) ∧ Fr No w w' := by
  have HF := hid ((fr1 w (bg c s n l k)).alloc zy)
  have P0 := hid (BG2 w c s n l k zy)
  have P1 := hid (BL.new2 w (bg c s n l k) 0 0 0 0 0 0 0 0)
  have HS := hid (fun W => rshape_ok c s n l W)
  have hg := good hB
  have hX : (lay ⟨c, s, n, l, k⟩).x = min (max ((lay ⟨c, s, n, l, k⟩).a * 96 - 40 - (lay ⟨c, s, n, l, k⟩).b * 2 - (s + 7) / 8) 0 / 16) 2048 := rfl
  have hA : (lay ⟨c, s, n, l, k⟩).a = (c * n - 2) / 4 := rfl
  have hr : rlo ⟨c, s, n, l, k⟩ = if 8 ≤ (lay ⟨c, s, n, l, k⟩).x then (lay ⟨c, s, n, l, k⟩, true) else (z8, false) := by
    unfold rlo
    have : 8 ≤ (lay ⟨c, s, n, l, k⟩).q := by have := hg.q0; have := hg.r0; have := hg.a2; have := hg.a3; have := hg.C0; omega
    by_cases h8 : 8 ≤ (lay ⟨c, s, n, l, k⟩).x
    · rw [if_pos (show mayG _ from ⟨hB, this, h8⟩), if_pos h8]
    · rw [if_neg (fun h : mayG _ => h8 h.2.2), if_neg h8]
  rw [hr]
  obtain ⟨y, hy⟩ : ∃ y, lay ⟨c, s, n, l, k⟩ = y := ⟨_, rfl⟩
  rw [hy] at hg hX hA hQ ⊢
  rw [decide_eq_true (show shpB c s n l by unfold inB at hB; unfold shpB; dsimp only at hB; omega)] at HS
  obtain ⟨a, r, q, b, d, t, x, u⟩ := y
  obtain ⟨hC, C0, C1, a0, a1, a2, a3, r0, q0, b0, b1, b2, d0, d1, d2, t0, t1, t2, x0, x1, u0, u1, u2, u3⟩ := hg
  dsimp only at C0 C1 a0 a1 a2 a3 r0 q0 b0 b1 b2 d0 d1 d2 t0 t1 t2 x0 x1 u0 u1 u2 u3 hX hA ⊢
  clear hC hr hy
  obtain ⟨C, hC'⟩ : ∃ C, c * n = C := ⟨_, rfl⟩
  rw [hC'] at C0 C1 a2 a3 q0 hA
  obtain ⟨⟨B1, B2⟩, ⟨B3, B4⟩, ⟨B5, B6⟩, ⟨B7, B8⟩, B9, B10⟩ := hB
  dsimp only at B1 B2 B3 B4 B5 B6 B7 B8 B9 B10
  obtain ⟨E, hE⟩ : ∃ E, (s + 7) / 8 = E := ⟨_, rfl⟩
  have hE0 : 1 ≤ E ∧ E ≤ 16 := by omega
  rw [hE] at hX
  have m0 : wrap64 (c * n) = C := by rw [hC']; exact w64 _ (by omega)
  have m1 : wrap64 (C - 2) = C - 2 := w64 _ (by omega)
  have m2 : wrap64 ((C - 2).tdiv 4) = a := by rw [Int.tdiv_eq_ediv_of_nonneg (by omega), ← hA]; exact w64 _ (by omega)
  have m3 : wrap64 (2 * a) = 2 * a := w64 _ (by omega)
  have m4 : wrap64 (2 + 2 * a) = r := by rw [r0]; exact w64 _ (by omega)
  have m5 : wrap64 (C - r) = q := by rw [q0]; exact w64 _ (by omega)
  have m9 : wrap64 ((s - k - 1) * (n - 1)) = t := by rw [← b0, ← d0, ← t0]; exact w64 _ (by omega)
  have m10 : wrap64 ((s + 7).tdiv 8) = E := by rw [Int.tdiv_eq_ediv_of_nonneg (by omega), hE]; exact w64 _ (by omega)
  obtain ⟨R, hR⟩ : ∃ R, a * 96 - 40 - 2 * (s - k - 1) - E = R := ⟨_, rfl⟩
  have hRb : -1000000 ≤ R ∧ R ≤ 1000000 := by omega
  have hX2 : x = min (max R 0 / 16) 2048 := by rw [hX, b0]; congr 3; omega
  have e1 : (C - 2) / 4 = a := hA.symm
  have e2 : 2 + 2 * a = r := r0.symm
  have e3 : C - r = q := q0.symm
  have q8 : 8 ≤ q := by omega
  have m11 : wrap64 (a * 96 - 40 - 2 * (s - k - 1) - E) = R := by rw [hR]; exact w64 _ (by omega)
  subst b0 d0
  clear hX hC' hA a2 a3 r0 q0 b1 b2 d1 d2 t0 t1 t2 x0 x1 u1 u2 u3
  dsimp only at hQ
  rw [hE, hR] at hQ
  have h1 : ¬ 0 < R := hQ
  have hx : x = 0 := by omega
  subst hx
  rw [if_neg (by omega)]
  clear hX2
  by_cases hu : 8 < n - 2
  · have hu' : u = 8 := by omega
    subst hu'
    clear u0
    have g0 : ¬ c < 2 := by omega
    have g1 : ¬ s < 4 := by omega
    have g2 : ¬ n < 8 := by omega
    have g3 : ¬ l < 2 := by omega
    have g4 : ¬ k < 1 := by omega
    have g5 : ¬ s - 2 < k := by omega
    go_enter Try.func22, Try.ntmps22
    go_wp2_with fail
    refine (HS.out _).mono ?_
    rintro e w1 ⟨rfl, f1⟩
    have S1 : w.heap.size + 2 ≤ w1.heap.size := by have := f1.size; simp at this; omega
    have HF := kf f1 HF
    have P0 := hid (P0.out.fr f1)
    have P1 := hid (P1.out.fr f1)
    clear f1 HS
    obtain ⟨c0, c1, c2, c3, c4⟩ := P0.out.cells
    have q1 : ∀ o, (w1.alloc o).cell? ⟨w.heap.size, 1, none⟩ = some (.int .i64 s) := fun o => kc (fr1 w1 o) c1
    have HF := hid (HF.out.alloc (by_ a r q (s - k - 1) (n - 1) t 0 8))
    have P1 := hid (show BL (w1.alloc (by_ a r q (s - k - 1) (n - 1) t 0 8)) (w.heap.size + 1) 0 0 0 0 0 0 0 0 from (P1.out : Blk _ _ _ _).alloc _)
    go_wp2_with ((with_reducible refine st_lay rfl (.tmp 2) (.tmp 123) rfl (w.heap.size + 1) ?_ (a' := 0) (r' := 0) (q' := 0) (b' := 0) (d' := 0) (t' := 0) (x' := 0) (u' := 0) ?_ P1.out ?_); (· rfl); (· rfl); intro W' hb hf; have HB := hid hb; have HF := kfg (by omega) HF hf; clear hb hf)
    exact bodyPost_ret (v := .tuple #[yv z8, .bool false]) (resLb rfl _ _ (w.heap.size + 1) 0 0 0 0 0 0 0 0 false rfl rfl HB.out) rfl ⟨rfl, HF.out⟩
  · have hu' : u = (n - 2) := by omega
    subst hu'
    clear u0
    have g0 : ¬ c < 2 := by omega
    have g1 : ¬ s < 4 := by omega
    have g2 : ¬ n < 8 := by omega
    have g3 : ¬ l < 2 := by omega
    have g4 : ¬ k < 1 := by omega
    have g5 : ¬ s - 2 < k := by omega
    go_enter Try.func22, Try.ntmps22
    go_wp2_with fail
    refine (HS.out _).mono ?_
    rintro e w1 ⟨rfl, f1⟩
    have S1 : w.heap.size + 2 ≤ w1.heap.size := by have := f1.size; simp at this; omega
    have HF := kf f1 HF
    have P0 := hid (P0.out.fr f1)
    have P1 := hid (P1.out.fr f1)
    clear f1 HS
    obtain ⟨c0, c1, c2, c3, c4⟩ := P0.out.cells
    have q1 : ∀ o, (w1.alloc o).cell? ⟨w.heap.size, 1, none⟩ = some (.int .i64 s) := fun o => kc (fr1 w1 o) c1
    have HF := hid (HF.out.alloc (by_ a r q (s - k - 1) (n - 1) t 0 (n - 2)))
    have P1 := hid (show BL (w1.alloc (by_ a r q (s - k - 1) (n - 1) t 0 (n - 2))) (w.heap.size + 1) 0 0 0 0 0 0 0 0 from (P1.out : Blk _ _ _ _).alloc _)
    go_wp2_with ((with_reducible refine st_lay rfl (.tmp 2) (.tmp 123) rfl (w.heap.size + 1) ?_ (a' := 0) (r' := 0) (q' := 0) (b' := 0) (d' := 0) (t' := 0) (x' := 0) (u' := 0) ?_ P1.out ?_); (· rfl); (· rfl); intro W' hb hf; have HB := hid hb; have HF := kfg (by omega) HF hf; clear hb hf)
    exact bodyPost_ret (v := .tuple #[yv z8, .bool false]) (resLb rfl _ _ (w.heap.size + 1) 0 0 0 0 0 0 0 0 false rfl rfl HB.out) rfl ⟨rfl, HF.out⟩
end Go.Proofs.Ytoboialfaifbgaa.GeEj
