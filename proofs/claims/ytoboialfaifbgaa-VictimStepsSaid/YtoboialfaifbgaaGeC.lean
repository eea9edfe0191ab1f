/- Contracts: what follows from a geometry, by the program: follows, May, Layout. Condition: all numbers are 64 bits. -/
import Derived.Test.YtoboialfaifbgaaGeB
namespace Go.Proofs.Ytoboialfaifbgaa.GeC
open Go.RowKit MSep MGeM GeA GeB

theorem resL1 {fn : Func} {p : Tmp} (h : fn.results = #[.cell p 50]) (tmps : Array Value) (w : World) (g : Nat) (a r q b d t x u : Int) (hp : tmps.getD p undef = .pointer (some ⟨g, 0, none⟩)) (hg : BL w g a r q b d t x u) :
    (results fn tmps).run Try.prog w = .ok (.agg #[.int .i64 a, .int .i64 r, .int .i64 q, .int .i64 b, .int .i64 d, .int .i64 t, .int .i64 x, .int .i64 u]) w :=
  results_cell_row h tmps w g 50 _ (0, 0) _ hp hg Try.underlying50 rfl (by kernel_rfl)
theorem resL2 {fn : Func} {p q' : Tmp} (h : fn.results = #[.cell p 50, .tmp q']) (tmps : Array Value) (w : World) (g : Nat) (a r q b d t x u e : Int) (hp : tmps.getD p undef = .pointer (some ⟨g, 0, none⟩)) (hq : tmps.getD q' undef = .int .i64 e) (hg : BL w g a r q b d t x u) :
    (results fn tmps).run Try.prog w = .ok (.tuple #[.agg #[.int .i64 a, .int .i64 r, .int .i64 q, .int .i64 b, .int .i64 d, .int .i64 t, .int .i64 x, .int .i64 u], .int .i64 e]) w := by
  have hp' : tmps[p]?.getD undef = .pointer (some ⟨g, 0, none⟩) := by simpa using hp
  have hq' : tmps[q']?.getD undef = .int .i64 e := by simpa using hq
  have hl := run_loadVar_row (P := Try.prog) w g 50 50 _ (0, 0) _ hg Try.underlying50 rfl (by kernel_rfl)
  simp [results, h, hp', hq', asAddr, hl]
/-- A layout as a value. -/
abbrev yv (y : Ly) : Value := .agg #[.int .i64 y.a, .int .i64 y.r, .int .i64 y.q, .int .i64 y.b, .int .i64 y.d, .int .i64 y.t, .int .i64 y.x, .int .i64 y.u]
abbrev zy : Obj := by_ 0 0 0 0 0 0 0 0
theorem BG3 (w : World) (c s n l k : Int) (o o' : Obj) : BG (((w.alloc (bg c s n l k)).alloc o).alloc o') w.heap.size c s n l k := ((BG.new w c s n l k : Blk _ _ _ _).alloc o).alloc o'
theorem BG2 (w : World) (c s n l k : Int) (o : Obj) : BG ((w.alloc (bg c s n l k)).alloc o) w.heap.size c s n l k := (BG.new w c s n l k : Blk _ _ _ _).alloc o

set_option maxRecDepth 100000 in
set_option maxHeartbeats 1000000 in
theorem follows_ok (c s n l k : Int) (y : Ly) (w : World) (hB : inB ⟨c, s, n, l, k⟩) (hy : lay ⟨c, s, n, l, k⟩ = y) : Calls Try.prog 77 #[.agg #[.int .i64 c, .int .i64 s, .int .i64 n, .int .i64 l, .int .i64 k]] w fun e w' => e = .returned (yv y) ∧ Fr No w w' := by
  have hg := good hB
  have hX : (lay ⟨c, s, n, l, k⟩).x = min (max ((lay ⟨c, s, n, l, k⟩).a * 96 - 40 - (lay ⟨c, s, n, l, k⟩).b * 2 - (s + 7) / 8) 0 / 16) 2048 := rfl
  have hA : (lay ⟨c, s, n, l, k⟩).a = (c * n - 2) / 4 := rfl
  rw [hy] at hg hX hA
  obtain ⟨a, r, q, b, d, t, x, u⟩ := y
  obtain ⟨hC, C0, C1, a0, a1, a2, a3, r0, q0, b0, b1, b2, d0, d1, d2, t0, t1, t2, x0, x1, u0, u1, u2, u3⟩ := hg
  have hC := hid hC
  dsimp only at C0 C1 a0 a1 a2 a3 r0 q0 b0 b1 b2 d0 d1 d2 t0 t1 t2 x0 x1 u0 u1 u2 u3 hX hA
  obtain ⟨C, hC'⟩ : ∃ C, c * n = C := ⟨_, rfl⟩
  rw [hC'] at C0 C1 a2 a3 q0 hA
  obtain ⟨⟨B1, B2⟩, ⟨B3, B4⟩, ⟨B5, B6⟩, ⟨B7, B8⟩, B9, B10⟩ := hB
  dsimp only at B1 B2 B3 B4 B5 B6 B7 B8 B9 B10
  have m0 : wrap64 (c * n) = C := by rw [hC']; exact w64 _ (by omega)
  have m1 : wrap64 (C - 2) = C - 2 := w64 _ (by omega)
  have m2 : wrap64 ((C - 2).tdiv 4) = a := by rw [Int.tdiv_eq_ediv_of_nonneg (by omega), ← hA]; exact w64 _ (by omega)
  have m3 : wrap64 (2 * a) = 2 * a := w64 _ (by omega)
  have m4 : wrap64 (2 + 2 * a) = r := by rw [r0]; exact w64 _ (by omega)
  have m5 : wrap64 (C - r) = q := by rw [q0]; exact w64 _ (by omega)
  have m9 : wrap64 ((s - k - 1) * (n - 1)) = t := by rw [← b0, ← d0, ← t0]; exact w64 _ (by omega)
  subst b0 d0
  have HE := hid (fun W => (extents_ok a r q (s - k - 1) (n - 1) t 0 0 s W (by omega) (by omega) (by omega)))
  rw [← hX] at HE
  have HU := hid u0
  have HF := hid (((fr1 w (bg c s n l k)).alloc zy).alloc (by_ a r q (s - k - 1) (n - 1) t 0 0))
  have P1 := hid (show BL (((w.alloc (bg c s n l k)).alloc zy).alloc (by_ a r q (s - k - 1) (n - 1) t 0 0)) (w.heap.size + 1) 0 0 0 0 0 0 0 0 from (BL.new2 w (bg c s n l k) 0 0 0 0 0 0 0 0 : Blk _ _ _ _).alloc _)
  have P2 := hid (show BL _ (w.heap.size + 1 + 1) _ _ _ _ _ _ _ _ from BL.new3 w (bg c s n l k) zy a r q (s - k - 1) (n - 1) t 0 0)
  have P0 := hid (BG3 w c s n l k zy (by_ a r q (s - k - 1) (n - 1) t 0 0))
  have e1 : (C - 2) / 4 = a := hA.symm
  have e2 : 2 + 2 * a = r := r0.symm
  have e3 : C - r = q := q0.symm
  clear hC hC' hX hA a2 a3 r0 q0 b1 b2 d1 d2 t0 t1 t2 x0 x1 u0 u1 u2 u3
  go_enter Try.func77, Try.ntmps77
  go_wp2_with fail
  refine (HE.out _).mono ?_
  rintro e w1 ⟨rfl, g1⟩
  have HF := kf g1 HF
  have P2 := hid (P2.out.fr g1)
  have P1 := hid (P1.out.fr g1)
  have P0 := hid (P0.out.fr g1)
  clear g1 HE
  obtain ⟨c0, c1, c2, c3, c4⟩ := P0.out.cells
  obtain ⟨_, _, _, _, _, _, f6, f7⟩ := P2.out.frozens
  obtain ⟨_, _, _, _, _, _, d6, d7⟩ := P2.out.cells
  by_cases hu : 8 ≤ n - 2
  · have hu' : u = 8 := by have := HU.out; omega
    subst hu'
    have Q2 := hid (show BL _ (w.heap.size + 1 + 1) a r q (s - k - 1) (n - 1) t x 8 from (P2.out.set6 x).set7 8)
    have Q1 := hid (show BL _ (w.heap.size + 1) 0 0 0 0 0 0 0 0 from ((P1.out).far (p := ⟨w.heap.size + 1 + 1, 6, none⟩) (show w.heap.size + 1 ≠ w.heap.size + 1 + 1 by omega) (.int .i64 x)).far (p := ⟨w.heap.size + 1 + 1, 7, none⟩) (show w.heap.size + 1 ≠ w.heap.size + 1 + 1 by omega) (.int .i64 8))
    have HG := kf1 (p := ⟨w.heap.size + 1 + 1, 7, none⟩) (a := .int .i64 8) (show _ ≤ w.heap.size + 1 + 1 by omega) (kf1 (p := ⟨w.heap.size + 1 + 1, 6, none⟩) (a := .int .i64 x) (show _ ≤ w.heap.size + 1 + 1 by omega) HF)
    go_wp2_with (first | ((with_reducible refine ld_lay rfl (.tmp 4) rfl (w.heap.size + 1 + 1) ?_ Q2.out ?_); · rfl) | ((with_reducible refine st_lay rfl (.tmp 2) (.tmp 51) rfl (w.heap.size + 1) ?_ (a' := a) (r' := r) (q' := q) (b' := s - k - 1) (d' := n - 1) (t' := t) (x' := x) (u' := 8) ?_ Q1.out ?_); (· rfl); (· rfl); intro W' hb hf; have HB := hid hb; have HG := kfg (by omega) HG hf; clear hb hf))
    exact bodyPost_ret (v := yv ⟨a, r, q, s - k - 1, n - 1, t, x, 8⟩) (resL1 rfl _ _ (w.heap.size + 1) a r q (s - k - 1) (n - 1) t x 8 rfl HB.out) rfl ⟨rfl, HG.out⟩
  · have hu' : u = (n - 2) := by have := HU.out; omega
    subst hu'
    have Q2 := hid (show BL _ (w.heap.size + 1 + 1) a r q (s - k - 1) (n - 1) t x (n - 2) from (P2.out.set6 x).set7 (n - 2))
    have Q1 := hid (show BL _ (w.heap.size + 1) 0 0 0 0 0 0 0 0 from ((P1.out).far (p := ⟨w.heap.size + 1 + 1, 6, none⟩) (show w.heap.size + 1 ≠ w.heap.size + 1 + 1 by omega) (.int .i64 x)).far (p := ⟨w.heap.size + 1 + 1, 7, none⟩) (show w.heap.size + 1 ≠ w.heap.size + 1 + 1 by omega) (.int .i64 (n - 2)))
    have HG := kf1 (p := ⟨w.heap.size + 1 + 1, 7, none⟩) (a := .int .i64 (n - 2)) (show _ ≤ w.heap.size + 1 + 1 by omega) (kf1 (p := ⟨w.heap.size + 1 + 1, 6, none⟩) (a := .int .i64 x) (show _ ≤ w.heap.size + 1 + 1 by omega) HF)
    go_wp2_with (first | ((with_reducible refine ld_lay rfl (.tmp 4) rfl (w.heap.size + 1 + 1) ?_ Q2.out ?_); · rfl) | ((with_reducible refine st_lay rfl (.tmp 2) (.tmp 51) rfl (w.heap.size + 1) ?_ (a' := a) (r' := r) (q' := q) (b' := s - k - 1) (d' := n - 1) (t' := t) (x' := x) (u' := (n - 2)) ?_ Q1.out ?_); (· rfl); (· rfl); intro W' hb hf; have HB := hid hb; have HG := kfg (by omega) HG hf; clear hb hf))
    exact bodyPost_ret (v := yv ⟨a, r, q, s - k - 1, n - 1, t, x, (n - 2)⟩) (resL1 rfl _ _ (w.heap.size + 1) a r q (s - k - 1) (n - 1) t x (n - 2) rfl HB.out) rfl ⟨rfl, HG.out⟩
theorem all3_in (c s n l k : Int) (hs : -9223372036854775808 ≤ s ∧ s ≤ 9223372036854775807) : all3 [(c, 2, 16), (s, 4, 128), (n, 8, 1024), (l, 2, s), (k, 1, wrap64 (s - 2))] = decide (inB ⟨c, s, n, l, k⟩) := by
  unfold all3 inB
  simp only [List.all_cons, List.all_nil, ok3, Bool.and_true, ← Bool.decide_and]
  refine decide_eq_decide.2 ?_
  unfold wrap64
  omega
theorem at3 (w : World) (c s n l k : Int) (x : Int) (o : Obj) : At3 ((w.alloc o).alloc (.cells #[.int .i64 c, .int .i64 2, .int .i64 16, .int .i64 s, .int .i64 4, .int .i64 128, .int .i64 n, .int .i64 8, .int .i64 1024, .int .i64 l, .int .i64 2, .int .i64 s, .int .i64 k, .int .i64 1, .int .i64 x] 3)) (w.heap.size + 1) [(c, 2, 16), (s, 4, 128), (n, 8, 1024), (l, 2, s), (k, 1, x)] := by
  have hb := Blk.new (w.alloc o) 3 #[.int .i64 c, .int .i64 2, .int .i64 16, .int .i64 s, .int .i64 4, .int .i64 128, .int .i64 n, .int .i64 8, .int .i64 1024, .int .i64 l, .int .i64 2, .int .i64 s, .int .i64 k, .int .i64 1, .int .i64 x]
  rw [show (w.alloc o).heap.size = w.heap.size + 1 by simp] at hb
  intro j x lo hi h
  match j, h with
  | 0, h => simp at h; obtain ⟨rfl, rfl, rfl⟩ := h; exact ⟨hb.cell 0, hb.cell 1, hb.cell 2⟩
  | 1, h => simp at h; obtain ⟨rfl, rfl, rfl⟩ := h; exact ⟨hb.cell 3, hb.cell 4, hb.cell 5⟩
  | 2, h => simp at h; obtain ⟨rfl, rfl, rfl⟩ := h; exact ⟨hb.cell 6, hb.cell 7, hb.cell 8⟩
  | 3, h => simp at h; obtain ⟨rfl, rfl, rfl⟩ := h; exact ⟨hb.cell 9, hb.cell 10, hb.cell 11⟩
  | 4, h => simp at h; obtain ⟨rfl, rfl, rfl⟩ := h; exact ⟨hb.cell 12, hb.cell 13, hb.cell 14⟩
  | j + 5, h => simp at h

set_option maxRecDepth 100000 in
set_option maxHeartbeats 1000000 in
theorem may_ok (c s n l k : Int) (w : World) (hs : -9223372036854775808 ≤ s ∧ s ≤ 9223372036854775807) : Calls Try.prog 62 #[.agg #[.int .i64 c, .int .i64 s, .int .i64 n, .int .i64 l, .int .i64 k]] w fun e w' => e = .returned (.bool (decide (mayG ⟨c, s, n, l, k⟩))) ∧ Fr No w w' := by
  have HW := hid (within_ok (w.heap.size + 1) 15 15 _ _ rfl (by simp) (at3 w c s n l k (wrap64 (s - 2)) (bg c s n l k)))
  rw [all3_in c s n l k hs] at HW
  have HF := hid ((fr1 w (bg c s n l k)).alloc (.cells #[.int .i64 c, .int .i64 2, .int .i64 16, .int .i64 s, .int .i64 4, .int .i64 128, .int .i64 n, .int .i64 8, .int .i64 1024, .int .i64 l, .int .i64 2, .int .i64 s, .int .i64 k, .int .i64 1, .int .i64 (wrap64 (s - 2))] 3))
  obtain ⟨c0, c1, c2, c3, c4⟩ := (BG.new w c s n l k).cells
  have P0 := hid (BG2 w c s n l k (.cells #[.int .i64 c, .int .i64 2, .int .i64 16, .int .i64 s, .int .i64 4, .int .i64 128, .int .i64 n, .int .i64 8, .int .i64 1024, .int .i64 l, .int .i64 2, .int .i64 s, .int .i64 k, .int .i64 1, .int .i64 (wrap64 (s - 2))] 3))
  by_cases hB : inB ⟨c, s, n, l, k⟩
  · rw [decide_eq_true hB] at HW
    have hm : decide (mayG ⟨c, s, n, l, k⟩) = (decide (8 ≤ (lay ⟨c, s, n, l, k⟩).q) && decide (8 ≤ (lay ⟨c, s, n, l, k⟩).x)) := by
      rw [← Bool.decide_and]
      exact decide_eq_decide.2 ⟨fun h => h.2, fun h => ⟨hB, h⟩⟩
    rw [hm]
    obtain ⟨y, hy⟩ : ∃ y, lay ⟨c, s, n, l, k⟩ = y := ⟨_, rfl⟩
    have HL := hid (fun W => follows_ok c s n l k y W hB hy)
    rw [hy]
    obtain ⟨a, r, q, b, d, t, x, u⟩ := y
    dsimp only
    clear hm hy hB
    go_enter Try.func62, Try.ntmps62
    go_wp2_with fail
    refine HW.out.mono ?_
    rintro e w1 ⟨rfl, f1⟩
    have HF := kf f1 HF
    have P0 := hid (P0.out.fr f1)
    clear f1 c0 c1 c2 c3 c4 HW
    go_wp2_with ((with_reducible refine ld_geom rfl (.tmp 1) rfl w.heap.size ?_ P0.out ?_); · rfl)
    refine (HL.out _).mono ?_
    rintro e w2 ⟨rfl, f2⟩
    have HF := hid ((HF.out.trans f2).alloc (by_ a r q b d t x u))
    clear f2 HL P0
    by_cases h1 : 8 ≤ q
    · by_cases h2 : 8 ≤ x
      · go_wp2_with fail
        go_ret
        exact ⟨retb (by first | rfl | (simp [h1, h2]; done) | (simp [h1]; done) | (simp; omega)), HF.out⟩
      · go_wp2_with fail
        go_ret
        exact ⟨retb (by first | rfl | (simp [h1]; done) | (simp [h1]; done) | (simp; omega)), HF.out⟩
    · go_wp2_with fail
      go_ret
      exact ⟨retb (by first | rfl | (simp [h1, h2]; done) | (simp []; done) | (simp; omega)), HF.out⟩
  · rw [decide_eq_false hB] at HW
    rw [decide_eq_false (show ¬ mayG ⟨c, s, n, l, k⟩ from fun h => hB h.1)]
    clear hB
    go_enter Try.func62, Try.ntmps62
    go_wp2_with fail
    refine HW.out.mono ?_
    rintro e w1 ⟨rfl, f1⟩
    have HF := kf f1 HF
    clear f1 c0 c1 c2 c3 c4 HW P0
    go_wp2
    go_ret
    exact ⟨rfl, HF.out⟩
set_option maxRecDepth 100000 in
set_option maxHeartbeats 1000000 in
theorem layout_ok (c s n l k : Int) (w : World) (hs : -9223372036854775808 ≤ s ∧ s ≤ 9223372036854775807) : Calls Try.prog 54 #[.agg #[.int .i64 c, .int .i64 s, .int .i64 n, .int .i64 l, .int .i64 k]] w fun e w' => e = .returned (.tuple #[yv (lyo ⟨c, s, n, l, k⟩).1, .int .i64 (lyo ⟨c, s, n, l, k⟩).2]) ∧ Fr No w w' := by
  have HM := hid (fun W => may_ok c s n l k W hs)
  have HF := hid ((fr1 w (bg c s n l k)).alloc zy)
  have P0 := hid (BG2 w c s n l k zy)
  have P1 := hid (BL.new2 w (bg c s n l k) 0 0 0 0 0 0 0 0)
  by_cases hm : mayG ⟨c, s, n, l, k⟩
  · obtain ⟨y, hy⟩ : ∃ y, lay ⟨c, s, n, l, k⟩ = y := ⟨_, rfl⟩
    have HL := hid (fun W => follows_ok c s n l k y W hm.1 hy)
    rw [show lyo ⟨c, s, n, l, k⟩ = (y, 0) by unfold lyo; rw [if_pos hm, hy]]
    rw [decide_eq_true hm] at HM
    obtain ⟨a, r, q, b, d, t, x, u⟩ := y
    dsimp only
    clear hm hy
    go_enter Try.func54, Try.ntmps54
    go_wp2_with ((with_reducible refine ld_geom rfl (.tmp 1) rfl w.heap.size ?_ P0.out ?_); · rfl)
    refine (HM.out _).mono ?_
    rintro e w1 ⟨rfl, f1⟩
    have HF := kf f1 HF
    have P0 := hid (P0.out.fr f1)
    have P1 := hid (P1.out.fr f1)
    clear f1 HM
    go_wp2_with ((with_reducible refine ld_geom rfl (.tmp 1) rfl w.heap.size ?_ P0.out ?_); · rfl)
    refine (HL.out _).mono ?_
    rintro e w2 ⟨rfl, f2⟩
    have HF := kf f2 HF
    have P1 := hid (P1.out.fr f2)
    clear f2 HL P0
    go_wp2_with ((with_reducible refine st_lay rfl (.tmp 2) (.tmp 9) rfl (w.heap.size + 1) ?_ (a' := a) (r' := r) (q' := q) (b' := b) (d' := d) (t' := t) (x' := x) (u' := u) ?_ P1.out ?_); (· rfl); (· rfl); intro W' hb hf; have HB := hid hb; have HF := kfg (by omega) HF hf; clear hb hf)
    exact bodyPost_ret (v := .tuple #[yv ⟨a, r, q, b, d, t, x, u⟩, .int .i64 0]) (resL2 rfl _ _ (w.heap.size + 1) a r q b d t x u 0 rfl rfl HB.out) rfl ⟨rfl, HF.out⟩
  · rw [show lyo ⟨c, s, n, l, k⟩ = (z8, 70) by unfold lyo; rw [if_neg hm]]
    rw [decide_eq_false hm] at HM
    unfold z8
    dsimp only
    clear hm
    go_enter Try.func54, Try.ntmps54
    go_wp2_with ((with_reducible refine ld_geom rfl (.tmp 1) rfl w.heap.size ?_ P0.out ?_); · rfl)
    refine (HM.out _).mono ?_
    rintro e w1 ⟨rfl, f1⟩
    have HF := kf f1 HF
    have P1 := hid (P1.out.fr f1)
    clear f1 HM
    go_wp2_with ((with_reducible refine st_lay rfl (.tmp 2) (.tmp 7) rfl (w.heap.size + 1) ?_ (a' := 0) (r' := 0) (q' := 0) (b' := 0) (d' := 0) (t' := 0) (x' := 0) (u' := 0) ?_ P1.out ?_); (· rfl); (· rfl); intro W' hb hf; have HB := hid hb; have HF := kfg (by omega) HF hf; clear hb hf)
    exact bodyPost_ret (v := .tuple #[yv ⟨0, 0, 0, 0, 0, 0, 0, 0⟩, .int .i64 70]) (resL2 rfl _ _ (w.heap.size + 1) 0 0 0 0 0 0 0 0 70 rfl rfl HB.out) rfl ⟨rfl, HF.out⟩
end Go.Proofs.Ytoboialfaifbgaa.GeC
