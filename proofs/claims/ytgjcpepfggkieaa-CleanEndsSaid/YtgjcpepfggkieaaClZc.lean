/- CleanEnds' walk. Conditions: numbers of 64 bits; a list that reads as a list. -/
import Derived.Test.YtgjcpepfggkieaaClZb
import Derived.Test.YtgjcpepfggkieaaClR
namespace Go.Proofs.Ytgjcpepfggkieaa.ClZc
open Go.RowKit MSep MGeM GeA GeC GeD GeE GeEk PlA PlB ClM ClA ClE ClB ClC ClD ClF ClG ClH ClI ClJ ClK ClL ClN ClO ClP ClQ ClT ClU ClV ClR ClZm ClZa ClZb

theorem ldJ_step {ops : Array Oper} {o : Oper} {ac : Act} {w : World} {K : Act → World → Prop} {Q : Exit → Act → World → Prop} {E : Prop} (hgd : o.guard = none) (x : Operand) (ho : o.op = .load 58 x) (g : Nat) (hx : ac.eval x = .pointer (some ⟨g, 0, none⟩)) {st z : Int} {A : Option Addr} {l c : Nat} {sp nx : Int} (hg : BJ w g st z A l c sp nx)
    (h : K (ac.put o.dst (.agg #[.int .i64 st, .int .i64 z, .slice A l c, .int .i64 sp, .int .i64 nx])) w) :
    if Region.wanted o (yielded ops ac.tmps) = true then Oper.wp Try.prog o ac w K Q else E :=
  step_wanted hgd (wp_load_row 58 x ho g hx 58 _ (0, 0) _ hg Try.underlying58 rfl infoJ h)
theorem wr64 (x y : Int) (h : wrap64 x = y) : IntKind.wrap .i64 x = y := by rw [IntKind.wrap_i64]; rw [← h]; unfold wrap64; rfl
theorem same_idle (A : Option Addr) (l c : Nat) (w : World) (hi : InI w A l c []) :
    Calls Try.prog 44 #[.agg #[.int .i64 0, .int .i64 255, .slice A l c, .int .i64 255, .int .i64 0], .agg #[.int .i64 0, .int .i64 255, .slice none 0 0, .int .i64 255, .int .i64 0]] w fun e w' => e = .returned (.bool true) ∧ Fr No w w' := by
  have h := same_ok 0 255 A l c 255 0 [] 0 255 none 0 0 255 0 [] w hi (InI.nil w)
  rw [decide_eq_true (rfl : (⟨0, 255, [], 255, 0⟩ : Jb) = ⟨0, 255, [], 255, 0⟩)] at h
  exact h
set_option maxRecDepth 100000 in
set_option maxHeartbeats 2000000 in
theorem ends_yes (gc gs gn gl gk : Int) (ch zone : Int) (A : Option Addr) (l c : Nat) (spare : Int) (bs : List Int) (w : World) (hs : -9223372036854775808 ≤ gs ∧ gs ≤ 9223372036854775807) (hi : InI w A l c bs) (hm : mayG ⟨gc, gs, gn, gl, gk⟩) (hc : chB ch = true) (hl : l ≤ 100) (hb : (lay ⟨gc, gs, gn, gl, gk⟩).b * (lay ⟨gc, gs, gn, gl, gk⟩).d ≤ 5000) (hz : spare ≠ zone) (hq : gc ≤ spare) (hq2 : spare < gc + gs) (hzi : inI zone) :
    Calls Try.prog 10 #[.agg #[.int .i64 gc, .int .i64 gs, .int .i64 gn, .int .i64 gl, .int .i64 gk], .int .i64 ch, .int .i64 zone, .slice A l c, .int .i64 spare] w fun r w' => r = .returned (.bool true) ∧ Fr No w w' := by
  have P0 := hid (BG.new w gc gs gn gl gk)
  have HF := hid (fr1 w (bg gc gs gn gl gk))
  have HL := hid (fun W => rlayout_ok gc gs gn gl gk W hs)
  have HCH := hid (fun W => chunk_ok ch W)
  have hlm : l ≤ maxLen := Nat.le_trans hi.lc hi.cm
  have hb1 := (good hm.1).b1
  have hb2 := (good hm.1).b2
  have hd1 := (good hm.1).d1
  have hd2 := (good hm.1).d2
  have hpp := sect_in hb1 hb2 hd1 hd2
  have hgg := geo_in hm
  have hg128 : gs ≤ 128 := by have h := hm.1; unfold inB at h; exact h.2.1.2
  have hlen := hi.len
  have i255 : inI 255 := by unfold inI; decide
  have HSQ := hid (show sqB ⟨gc, gs, gn, gl, gk⟩ spare = true by unfold sqB sqo; exact decide_eq_true ⟨hm, hq, hq2⟩)
  have HPI := hid (show inI spare by unfold inI; dsimp only at hgg; omega)
  have HNZ := hid hz
  have hzb : (spare == zone) = false := by simpa using hz
  have HN5 := hid (show spare ≠ 255 by dsimp only at hgg; omega)
  have HZI := hid hzi
  have HI := hid (hi.fr (fr1 w (bg gc gs gn gl gk)))
  obtain ⟨tq, htq⟩ : ∃ q, aftA ⟨gc, gs, gn, gl, gk⟩ ch ⟨0, 255, [], 255, 0⟩ ⟨1, zone, 0, bs⟩ = q := ⟨_, rfl⟩
  have HCS := hid (show (tq = (nextJ zone bs, 0) ∧ mayB ⟨gc, gs, gn, gl, gk⟩ (nextJ zone bs) = true) ∨ tq = (zero, 1) by
    have h : aftA ⟨gc, gs, gn, gl, gk⟩ ch ⟨0, 255, [], 255, 0⟩ ⟨1, zone, 0, bs⟩ = _ := aft_pick hc hm
    rw [htq] at h
    by_cases hj : mayB ⟨gc, gs, gn, gl, gk⟩ (nextJ zone bs) = true
    · rw [if_pos hj] at h; exact .inl ⟨h, hj⟩
    · rw [if_neg hj] at h; exact .inr h)
  obtain ⟨⟨qs, qz, qb, qp, qn⟩, qe⟩ := tq
  have HQ := hid htq
  have HAP := hid (fun W (h : InI W A l c bs) => pAfter_fresh gc gs gn gl gk ch 0 255 none 0 0 255 0 [] 1 zone 0 A l c bs qs qz qb qp qn qe W hs i255 i255 hzi htq (InI.nil W) h (by omega) (by omega))
  have HRL := hid (fun h : rises (lay ⟨gc, gs, gn, gl, gk⟩).b 0 bs = true => rises_len h)
  have HJ0 := hid (fun h => JobOk.first (ch := ch) (g := ⟨gc, gs, gn, gl, gk⟩) (bs := bs) hzi h)
  have HST0 := hid (fun (h : (l : Int) ≤ (lay ⟨gc, gs, gn, gl, gk⟩).b) W => steps_ok gc gs gn gl gk (l : Int) ch W hs hm ⟨by omega, h⟩ (ch_of hc))
  have HMG := hid hm
  have HCB := hid hc
  have HLEN := hid hlen
  rw [rlo_yes hm] at HL
  rw [hc] at HCH
  obtain ⟨y, hy0⟩ : ∃ y, lay ⟨gc, gs, gn, gl, gk⟩ = y := ⟨_, rfl⟩
  have HY0 := hid hy0
  rw [hy0] at HL hb1 hb2 hd1 hd2 hpp hb HRL HST0 HJ0
  obtain ⟨ya, yr, yq, yb, yd, yt, yx, yu⟩ := y
  dsimp only at HL hb1 hb2 hd1 hd2 hpp hgg hb HRL HST0 HJ0
  obtain ⟨p, hp0⟩ : ∃ p, yb * yd = p := ⟨_, rfl⟩
  rw [hp0] at hpp hb
  have m1 : wrap64 (yb * yd) = p := by rw [hp0]; exact w64 _ (by omega)
  have m2 : wrap64 (gc + gs) = gc + gs := w64 _ (by omega)
  clear hi hm hc hzi htq hlen hy0 hp0 i255
  go_enter Try.func10, Try.ntmps10
  go_wp2_with (first | ((with_reducible refine ld_geom rfl (.tmp 5) rfl (w.heap.size) ?_ P0.out ?_); · rfl))
  refine (HL.out _).mono ?_
  rintro r v1 ⟨rfl, f1⟩
  have HF := hid ((HF.out.trans f1).alloc (by_ ya yr yq yb yd yt yx yu))
  have P0 := hid (show BG (v1.alloc (by_ ya yr yq yb yd yt yx yu)) (w.heap.size) gc gs gn gl gk from (Blk.fr P0.out f1 (fun h => h)).alloc _)
  have HI := hid (HI.out.fr (f1.alloc (by_ ya yr yq yb yd yt yx yu)))
  have P11 := hid (BL.new v1 ya yr yq yb yd yt yx yu)
  obtain ⟨b11, hb⟩ : ∃ x, v1.heap.size = x := ⟨_, rfl⟩
  rw [hb] at P11
  clear f1
  go_wp2_with fail
  try rw [hb]
  clear hb
  refine (lives_ok _).mono ?_
  rintro r v2 ⟨rfl, f2⟩
  have HF := hid (HF.out.trans f2)
  have P0 := hid (show BG (v2) (w.heap.size) gc gs gn gl gk from Blk.fr P0.out f2 (fun h => h))
  have P11 := hid (show BL (v2) (b11) ya yr yq yb yd yt yx yu from Blk.fr P11.out f2 (fun h => h))
  have HI := hid (HI.out.fr f2)
  clear f2
  go_wp2_with fail
  refine (HCH.out _).mono ?_
  rintro r w9 ⟨rfl, rfl⟩
  obtain ⟨p11_0, p11_1, p11_2, p11_3, p11_4, p11_5, p11_6, p11_7⟩ := P11.out.cells
  obtain ⟨p0_0, p0_1, p0_2, p0_3, p0_4⟩ := P0.out.cells
  go_upto_region 4 with fail
  have hlt0 : w.heap.size < v2.heap.size := (P0.out : Blk _ _ _ _).lt
  go_cut [13, 14] (PickR v2 qs qz qp qn qe qb)
  case first =>
    have FW := hid (Fr.refl No v2)
    have FW := kd FW
    refine wp_region_noPanic ?_
    refine wp_region_held_drew (S := (fun W' => W'.cell? ⟨w.heap.size, 0, none⟩ = some (.int .i64 gc) ∧ W'.cell? ⟨w.heap.size, 1, none⟩ = some (.int .i64 gs) ∧ W'.cell? ⟨w.heap.size, 2, none⟩ = some (.int .i64 gn) ∧ W'.cell? ⟨w.heap.size, 3, none⟩ = some (.int .i64 gl) ∧ W'.cell? ⟨w.heap.size, 4, none⟩ = some (.int .i64 gk) ∧ Hid (Fr No v2 W'))) (by kernel_rfl) ?_ (fun hHeld => ?_)
    · (try dsimp only); (first | (go_split_ands; exact ⟨kc f (by assumption), kc f (by assumption), kc f (by assumption), kc f (by assumption), kc f (by assumption), by assumption⟩) | (go_split_ands; exact ⟨(by assumption), (by assumption), (by assumption), (by assumption), (by assumption), by assumption⟩) | (go_split_ands; exact ⟨kc (fr1 _ _) (by assumption), kc (fr1 _ _) (by assumption), kc (fr1 _ _) (by assumption), kc (fr1 _ _) (by assumption), kc (fr1 _ _) (by assumption), kfa (by assumption)⟩) | (go_split_ands; exact ⟨kc (fr1d _ _) (by assumption), kc (fr1d _ _) (by assumption), kc (fr1d _ _) (by assumption), kc (fr1d _ _) (by assumption), kc (fr1d _ _) (by assumption), kfae (by assumption)⟩) | (exact ⟨kcs hf2 (by simp only []; omega) hHeld.1, kcs hf2 (by simp only []; omega) hHeld.2.1, kcs hf2 (by simp only []; omega) hHeld.2.2.1, kcs hf2 (by simp only []; omega) hHeld.2.2.2.1, kcs hf2 (by simp only []; omega) hHeld.2.2.2.2.1, kfg (by omega) FW hf2⟩) | (exact ⟨kcs hf2 (by simp only []; omega) hHeld.1, kcs hf2 (by simp only []; omega) hHeld.2.1, kcs hf2 (by simp only []; omega) hHeld.2.2.1, kcs hf2 (by simp only []; omega) hHeld.2.2.2.1, kcs hf2 (by simp only []; omega) hHeld.2.2.2.2.1, kfg (by omega) hHeld.2.2.2.2.2 hf2⟩) | (exact ⟨kc (fr1 _ _) hHeld.1, kc (fr1 _ _) hHeld.2.1, kc (fr1 _ _) hHeld.2.2.1, kc (fr1 _ _) hHeld.2.2.2.1, kc (fr1 _ _) hHeld.2.2.2.2.1, kfa (hHeld.2.2.2.2.2)⟩) | (exact hHeld))
    refine wpAnyH_take (i := 0) (v := ?v1) rfl (by kernel_rfl) (by kernel_rfl) (by kernel_rfl) (fun _ _ _ h => h) (Or.inl ⟨by kernel_rfl, ?y1⟩) (by assumption) ?_
    case y1 => (intro w hSw; (try dsimp only at hSw); go_simp; all_goals with_reducible rfl)
    try simp only [Act.put, List.getElem_toArray, List.getElem_cons_zero, List.setIfInBounds_toArray, List.set_cons_zero, List.set_cons_succ]
    refine wpAnyH_take (i := 1) (v := ?v2) rfl (by kernel_rfl) (by kernel_rfl) (by kernel_rfl) (fun _ _ _ h => h) (Or.inl ⟨by kernel_rfl, ?y2⟩) (by assumption) ?_
    case y2 => (intro w hSw; (try dsimp only at hSw); go_simp; all_goals with_reducible rfl)
    try simp only [Act.put, List.getElem_toArray, List.getElem_cons_succ, List.getElem_cons_zero, List.setIfInBounds_toArray, List.set_cons_zero, List.set_cons_succ]
    refine wpAnyH_take (i := 3) (v := ?v3) rfl (by kernel_rfl) (by kernel_rfl) (by kernel_rfl) (fun _ _ _ h => h) (Or.inl ⟨by kernel_rfl, ?y3⟩) (by assumption) ?_
    case y3 => (intro w hSw; (try dsimp only at hSw); go_simp; all_goals with_reducible rfl)
    try simp only [Act.put, List.getElem_toArray, List.getElem_cons_succ, List.getElem_cons_zero, List.setIfInBounds_toArray, List.set_cons_zero, List.set_cons_succ]
    refine wpAnyH_take (i := 4) (v := ?v4) rfl (by kernel_rfl) (by kernel_rfl) (by kernel_rfl) (fun _ _ _ h => h) (Or.inl ⟨by kernel_rfl, ?y4⟩) (by assumption) ?_
    case y4 => (intro w hSw; (try dsimp only at hSw); go_simp; all_goals with_reducible rfl)
    try simp only [Act.put, List.getElem_toArray, List.getElem_cons_succ, List.getElem_cons_zero, List.setIfInBounds_toArray, List.set_cons_zero, List.set_cons_succ]
    refine wpAnyH_take (i := 5) (v := ?v5) rfl (by kernel_rfl) (by kernel_rfl) (by kernel_rfl) (fun _ _ _ h => h) (Or.inl ⟨by kernel_rfl, ?y5⟩) (by assumption) ?_
    case y5 => (intro w hSw; (try dsimp only at hSw); go_simp; all_goals with_reducible rfl)
    try simp only [Act.put, List.getElem_toArray, List.getElem_cons_succ, List.getElem_cons_zero, List.setIfInBounds_toArray, List.set_cons_zero, List.set_cons_succ]
    refine wpAnyH_ready (rs := [2, 10]) (by kernel_rfl) (by simp) (AllReadyH.cons rfl (fun K hK => ?_) (AllReadyH.cons rfl (fun K hK => ?_) AllReadyH.nil))
    · go_simp
      go_at_call 41
      refine (idle_ok _).mono ?_
      rintro e W1 ⟨rfl, f⟩
      have FW := kf f hHeld.2.2.2.2.2
      (try have MX := hid (MX.out.fr f))
      (try have HLT := hid ((MX.out : Blk _ _ _ _).lt))
      dsimp only
      refine hK.out _ _ ?_ (fun hHeld => ?_)
      · (try dsimp only); (first | (go_split_ands; exact ⟨kc f (by assumption), kc f (by assumption), kc f (by assumption), kc f (by assumption), kc f (by assumption), by assumption⟩) | (go_split_ands; exact ⟨(by assumption), (by assumption), (by assumption), (by assumption), (by assumption), by assumption⟩) | (go_split_ands; exact ⟨kc (fr1 _ _) (by assumption), kc (fr1 _ _) (by assumption), kc (fr1 _ _) (by assumption), kc (fr1 _ _) (by assumption), kc (fr1 _ _) (by assumption), kfa (by assumption)⟩) | (go_split_ands; exact ⟨kc (fr1d _ _) (by assumption), kc (fr1d _ _) (by assumption), kc (fr1d _ _) (by assumption), kc (fr1d _ _) (by assumption), kc (fr1d _ _) (by assumption), kfae (by assumption)⟩) | (exact ⟨kcs hf2 (by simp only []; omega) hHeld.1, kcs hf2 (by simp only []; omega) hHeld.2.1, kcs hf2 (by simp only []; omega) hHeld.2.2.1, kcs hf2 (by simp only []; omega) hHeld.2.2.2.1, kcs hf2 (by simp only []; omega) hHeld.2.2.2.2.1, kfg (by omega) FW hf2⟩) | (exact ⟨kcs hf2 (by simp only []; omega) hHeld.1, kcs hf2 (by simp only []; omega) hHeld.2.1, kcs hf2 (by simp only []; omega) hHeld.2.2.1, kcs hf2 (by simp only []; omega) hHeld.2.2.2.1, kcs hf2 (by simp only []; omega) hHeld.2.2.2.2.1, kfg (by omega) hHeld.2.2.2.2.2 hf2⟩) | (exact ⟨kc (fr1 _ _) hHeld.1, kc (fr1 _ _) hHeld.2.1, kc (fr1 _ _) hHeld.2.2.1, kc (fr1 _ _) hHeld.2.2.2.1, kc (fr1 _ _) hHeld.2.2.2.2.1, kfa (hHeld.2.2.2.2.2)⟩) | (exact hHeld))
      clear hK K
      try simp only [Act.put, List.getElem_toArray, List.getElem_cons_succ, List.getElem_cons_zero, List.setIfInBounds_toArray, List.set_cons_zero, List.set_cons_succ]
      refine wpAnyH_ready (rs := [6, 10]) (by kernel_rfl) (by simp) (AllReadyH.cons rfl (fun K hK => ?_) (AllReadyH.cons rfl (fun K hK => ?_) AllReadyH.nil))
      · go_simp
        go_at_call 38
        refine (HAP.out _ (HI.out.fr hHeld.2.2.2.2.2.out)).mono ?_
        rintro e W1 ⟨B', m', d', rfl, hin, hnew, f⟩
        have FW := kf f hHeld.2.2.2.2.2
        (try have MX := hid (MX.out.fr f))
        have HIN := hid hin
        have HNW := hid hnew
        clear hin hnew
        dsimp only
        refine hK.out _ _ ?_ (fun hHeld => ?_)
        · (try dsimp only); (first | (go_split_ands; exact ⟨kc f (by assumption), kc f (by assumption), kc f (by assumption), kc f (by assumption), kc f (by assumption), by assumption⟩) | (go_split_ands; exact ⟨(by assumption), (by assumption), (by assumption), (by assumption), (by assumption), by assumption⟩) | (go_split_ands; exact ⟨kc (fr1 _ _) (by assumption), kc (fr1 _ _) (by assumption), kc (fr1 _ _) (by assumption), kc (fr1 _ _) (by assumption), kc (fr1 _ _) (by assumption), kfa (by assumption)⟩) | (go_split_ands; exact ⟨kc (fr1d _ _) (by assumption), kc (fr1d _ _) (by assumption), kc (fr1d _ _) (by assumption), kc (fr1d _ _) (by assumption), kc (fr1d _ _) (by assumption), kfae (by assumption)⟩) | (exact ⟨kcs hf2 (by simp only []; omega) hHeld.1, kcs hf2 (by simp only []; omega) hHeld.2.1, kcs hf2 (by simp only []; omega) hHeld.2.2.1, kcs hf2 (by simp only []; omega) hHeld.2.2.2.1, kcs hf2 (by simp only []; omega) hHeld.2.2.2.2.1, kfg (by omega) FW hf2⟩) | (exact ⟨kcs hf2 (by simp only []; omega) hHeld.1, kcs hf2 (by simp only []; omega) hHeld.2.1, kcs hf2 (by simp only []; omega) hHeld.2.2.1, kcs hf2 (by simp only []; omega) hHeld.2.2.2.1, kcs hf2 (by simp only []; omega) hHeld.2.2.2.2.1, kfg (by omega) hHeld.2.2.2.2.2 hf2⟩) | (exact ⟨kc (fr1 _ _) hHeld.1, kc (fr1 _ _) hHeld.2.1, kc (fr1 _ _) hHeld.2.2.1, kc (fr1 _ _) hHeld.2.2.2.1, kc (fr1 _ _) hHeld.2.2.2.2.1, kfa (hHeld.2.2.2.2.2)⟩) | (exact hHeld))
        clear hK K
        try simp only [Act.put, List.getElem_toArray, List.getElem_cons_succ, List.getElem_cons_zero, List.setIfInBounds_toArray, List.set_cons_zero, List.set_cons_succ]
        refine wpAnyH_take (i := 7) (v := ?v6) rfl (by kernel_rfl) (by kernel_rfl) (by kernel_rfl) (fun _ _ _ h => h) (Or.inl ⟨by kernel_rfl, ?y6⟩) (by assumption) ?_
        case y6 => (intro w hSw; (try dsimp only at hSw); go_simp; all_goals with_reducible rfl)
        try simp only [Act.put, List.getElem_toArray, List.getElem_cons_succ, List.getElem_cons_zero, List.setIfInBounds_toArray, List.set_cons_zero, List.set_cons_succ]
        refine wpAnyH_take (i := 8) (v := ?v7) rfl (by kernel_rfl) (by kernel_rfl) (by kernel_rfl) (fun _ _ _ h => h) (Or.inl ⟨by kernel_rfl, ?y7⟩) (by assumption) ?_
        case y7 => (intro w hSw; (try dsimp only at hSw); go_simp; all_goals with_reducible rfl)
        try simp only [Act.put, List.getElem_toArray, List.getElem_cons_succ, List.getElem_cons_zero, List.setIfInBounds_toArray, List.set_cons_zero, List.set_cons_succ]
        refine wpAnyH_take (i := 9) (v := ?v8) rfl (by kernel_rfl) (by kernel_rfl) (by kernel_rfl) (fun _ _ _ h => h) (Or.inl ⟨by kernel_rfl, ?y8⟩) (by assumption) ?_
        case y8 => (intro w hSw; (try dsimp only at hSw); go_simp; all_goals with_reducible rfl)
        try simp only [Act.put, List.getElem_toArray, List.getElem_cons_succ, List.getElem_cons_zero, List.setIfInBounds_toArray, List.set_cons_zero, List.set_cons_succ]
        refine wpAnyH_ready (rs := [10]) (by kernel_rfl) (by simp) (AllReadyH.cons rfl (fun K hK => ?_) AllReadyH.nil)
        go_simp
        refine hK.out _ _ ?_ (fun hHeld => ?_)
        · (try dsimp only); (first | (go_split_ands; exact ⟨kc f (by assumption), kc f (by assumption), kc f (by assumption), kc f (by assumption), kc f (by assumption), by assumption⟩) | (go_split_ands; exact ⟨(by assumption), (by assumption), (by assumption), (by assumption), (by assumption), by assumption⟩) | (go_split_ands; exact ⟨kc (fr1 _ _) (by assumption), kc (fr1 _ _) (by assumption), kc (fr1 _ _) (by assumption), kc (fr1 _ _) (by assumption), kc (fr1 _ _) (by assumption), kfa (by assumption)⟩) | (go_split_ands; exact ⟨kc (fr1d _ _) (by assumption), kc (fr1d _ _) (by assumption), kc (fr1d _ _) (by assumption), kc (fr1d _ _) (by assumption), kc (fr1d _ _) (by assumption), kfae (by assumption)⟩) | (exact ⟨kcs hf2 (by simp only []; omega) hHeld.1, kcs hf2 (by simp only []; omega) hHeld.2.1, kcs hf2 (by simp only []; omega) hHeld.2.2.1, kcs hf2 (by simp only []; omega) hHeld.2.2.2.1, kcs hf2 (by simp only []; omega) hHeld.2.2.2.2.1, kfg (by omega) FW hf2⟩) | (exact ⟨kcs hf2 (by simp only []; omega) hHeld.1, kcs hf2 (by simp only []; omega) hHeld.2.1, kcs hf2 (by simp only []; omega) hHeld.2.2.1, kcs hf2 (by simp only []; omega) hHeld.2.2.2.1, kcs hf2 (by simp only []; omega) hHeld.2.2.2.2.1, kfg (by omega) hHeld.2.2.2.2.2 hf2⟩) | (exact ⟨kc (fr1 _ _) hHeld.1, kc (fr1 _ _) hHeld.2.1, kc (fr1 _ _) hHeld.2.2.1, kc (fr1 _ _) hHeld.2.2.2.1, kc (fr1 _ _) hHeld.2.2.2.2.1, kfa (hHeld.2.2.2.2.2)⟩) | (exact hHeld))
        clear hK K
        try simp only [Act.put, List.getElem_toArray, List.getElem_cons_succ, List.getElem_cons_zero, List.setIfInBounds_toArray, List.set_cons_zero, List.set_cons_succ]
        have hsz9 : v2.heap.size ≤ W1.heap.size := FW.out.size; have MX := hid (BJ.at_ (w := W1) 0 0 none 0 0 0 0 rfl); have HLT := hid ((MX.out : Blk _ _ _ _).lt); have FST := hid (fr1 W1 (oJ 0 0 none 0 0 0 0))
        refine wpAnyH_ready (rs := [11]) (by kernel_rfl) (by simp) (AllReadyH.cons rfl (fun K hK => ?_) AllReadyH.nil)
        refine stJ_step rfl (.tmp 13) (.tmp 77) rfl _ rfl (st' := qs) (z' := qz) (A' := B') (l' := m') (c' := d') (sp' := qp) (nx' := qn) rfl MX.out ?_
        intro W2 hb2 hf2
        refine hK.out _ _ ?_ (fun hHeld => ?_)
        · (try dsimp only); (first | (go_split_ands; exact ⟨kc f (by assumption), kc f (by assumption), kc f (by assumption), kc f (by assumption), kc f (by assumption), by assumption⟩) | (go_split_ands; exact ⟨(by assumption), (by assumption), (by assumption), (by assumption), (by assumption), by assumption⟩) | (go_split_ands; exact ⟨kc (fr1 _ _) (by assumption), kc (fr1 _ _) (by assumption), kc (fr1 _ _) (by assumption), kc (fr1 _ _) (by assumption), kc (fr1 _ _) (by assumption), kfa (by assumption)⟩) | (go_split_ands; exact ⟨kc (fr1d _ _) (by assumption), kc (fr1d _ _) (by assumption), kc (fr1d _ _) (by assumption), kc (fr1d _ _) (by assumption), kc (fr1d _ _) (by assumption), kfae (by assumption)⟩) | (exact ⟨kcs hf2 (by simp only []; omega) hHeld.1, kcs hf2 (by simp only []; omega) hHeld.2.1, kcs hf2 (by simp only []; omega) hHeld.2.2.1, kcs hf2 (by simp only []; omega) hHeld.2.2.2.1, kcs hf2 (by simp only []; omega) hHeld.2.2.2.2.1, kfg (by omega) FW hf2⟩) | (exact ⟨kcs hf2 (by simp only []; omega) hHeld.1, kcs hf2 (by simp only []; omega) hHeld.2.1, kcs hf2 (by simp only []; omega) hHeld.2.2.1, kcs hf2 (by simp only []; omega) hHeld.2.2.2.1, kcs hf2 (by simp only []; omega) hHeld.2.2.2.2.1, kfg (by omega) hHeld.2.2.2.2.2 hf2⟩) | (exact ⟨kc (fr1 _ _) hHeld.1, kc (fr1 _ _) hHeld.2.1, kc (fr1 _ _) hHeld.2.2.1, kc (fr1 _ _) hHeld.2.2.2.1, kc (fr1 _ _) hHeld.2.2.2.2.1, kfa (hHeld.2.2.2.2.2)⟩) | (exact hHeld))
        clear hK K
        try simp only [Act.put, List.getElem_toArray, List.getElem_cons_succ, List.getElem_cons_zero]
        have FW := hid (show Fr No v2 W2 from (hHeld.2.2.2.2.2).out); have HIN := hid (HIN.out.fr (kfg (Nat.le_refl _) FST hf2).out); have MX := hid hb2; clear hf2 hb2
        refine wpAnyH_take (i := 12) (v := ?v9) rfl (by kernel_rfl) (by kernel_rfl) (by kernel_rfl) (fun _ _ _ h => h) (Or.inl ⟨by kernel_rfl, ?y9⟩) (by assumption) ?_
        case y9 => (intro w hSw; (try dsimp only at hSw); go_simp; all_goals with_reducible rfl)
        try simp only [Act.put, List.getElem_toArray, List.getElem_cons_succ, List.getElem_cons_zero, List.setIfInBounds_toArray, List.set_cons_zero, List.set_cons_succ]
        refine wpAnyH_done (by kernel_rfl) ?_ _
        refine NoPanic.normal ?_
        go_wp2_with fail
        go_meet
        case rel => exact ⟨_, B', m', d', rfl, rfl, MX.out, HIN.out, hsz9, FW.out⟩
      · go_simp
        refine hK.out _ _ ?_ (fun hHeld => ?_)
        · (try dsimp only); (first | (go_split_ands; exact ⟨kc f (by assumption), kc f (by assumption), kc f (by assumption), kc f (by assumption), kc f (by assumption), by assumption⟩) | (go_split_ands; exact ⟨(by assumption), (by assumption), (by assumption), (by assumption), (by assumption), by assumption⟩) | (go_split_ands; exact ⟨kc (fr1 _ _) (by assumption), kc (fr1 _ _) (by assumption), kc (fr1 _ _) (by assumption), kc (fr1 _ _) (by assumption), kc (fr1 _ _) (by assumption), kfa (by assumption)⟩) | (go_split_ands; exact ⟨kc (fr1d _ _) (by assumption), kc (fr1d _ _) (by assumption), kc (fr1d _ _) (by assumption), kc (fr1d _ _) (by assumption), kc (fr1d _ _) (by assumption), kfae (by assumption)⟩) | (exact ⟨kcs hf2 (by simp only []; omega) hHeld.1, kcs hf2 (by simp only []; omega) hHeld.2.1, kcs hf2 (by simp only []; omega) hHeld.2.2.1, kcs hf2 (by simp only []; omega) hHeld.2.2.2.1, kcs hf2 (by simp only []; omega) hHeld.2.2.2.2.1, kfg (by omega) FW hf2⟩) | (exact ⟨kcs hf2 (by simp only []; omega) hHeld.1, kcs hf2 (by simp only []; omega) hHeld.2.1, kcs hf2 (by simp only []; omega) hHeld.2.2.1, kcs hf2 (by simp only []; omega) hHeld.2.2.2.1, kcs hf2 (by simp only []; omega) hHeld.2.2.2.2.1, kfg (by omega) hHeld.2.2.2.2.2 hf2⟩) | (exact ⟨kc (fr1 _ _) hHeld.1, kc (fr1 _ _) hHeld.2.1, kc (fr1 _ _) hHeld.2.2.1, kc (fr1 _ _) hHeld.2.2.2.1, kc (fr1 _ _) hHeld.2.2.2.2.1, kfa (hHeld.2.2.2.2.2)⟩) | (exact hHeld))
        clear hK K
        try simp only [Act.put, List.getElem_toArray, List.getElem_cons_succ, List.getElem_cons_zero, List.setIfInBounds_toArray, List.set_cons_zero, List.set_cons_succ]
        have hsz9 : v2.heap.size ≤ W1.heap.size := FW.out.size; have MX := hid (BJ.at_ (w := W1) 0 0 none 0 0 0 0 rfl); have HLT := hid ((MX.out : Blk _ _ _ _).lt)
        refine wpAnyH_ready (rs := [6]) (by kernel_rfl) (by simp) (AllReadyH.cons rfl (fun K hK => ?_) AllReadyH.nil)
        go_simp
        go_at_call 38
        refine (HAP.out _ (HI.out.fr hHeld.2.2.2.2.2.out)).mono ?_
        rintro e W1 ⟨B', m', d', rfl, hin, hnew, f⟩
        have FW := kf f hHeld.2.2.2.2.2
        (try have MX := hid (MX.out.fr f))
        have HIN := hid hin
        have HNW := hid hnew
        clear hin hnew
        dsimp only
        refine hK.out _ _ ?_ (fun hHeld => ?_)
        · (try dsimp only); (first | (go_split_ands; exact ⟨kc f (by assumption), kc f (by assumption), kc f (by assumption), kc f (by assumption), kc f (by assumption), by assumption⟩) | (go_split_ands; exact ⟨(by assumption), (by assumption), (by assumption), (by assumption), (by assumption), by assumption⟩) | (go_split_ands; exact ⟨kc (fr1 _ _) (by assumption), kc (fr1 _ _) (by assumption), kc (fr1 _ _) (by assumption), kc (fr1 _ _) (by assumption), kc (fr1 _ _) (by assumption), kfa (by assumption)⟩) | (go_split_ands; exact ⟨kc (fr1d _ _) (by assumption), kc (fr1d _ _) (by assumption), kc (fr1d _ _) (by assumption), kc (fr1d _ _) (by assumption), kc (fr1d _ _) (by assumption), kfae (by assumption)⟩) | (exact ⟨kcs hf2 (by simp only []; omega) hHeld.1, kcs hf2 (by simp only []; omega) hHeld.2.1, kcs hf2 (by simp only []; omega) hHeld.2.2.1, kcs hf2 (by simp only []; omega) hHeld.2.2.2.1, kcs hf2 (by simp only []; omega) hHeld.2.2.2.2.1, kfg (by omega) FW hf2⟩) | (exact ⟨kcs hf2 (by simp only []; omega) hHeld.1, kcs hf2 (by simp only []; omega) hHeld.2.1, kcs hf2 (by simp only []; omega) hHeld.2.2.1, kcs hf2 (by simp only []; omega) hHeld.2.2.2.1, kcs hf2 (by simp only []; omega) hHeld.2.2.2.2.1, kfg (by omega) hHeld.2.2.2.2.2 hf2⟩) | (exact ⟨kc (fr1 _ _) hHeld.1, kc (fr1 _ _) hHeld.2.1, kc (fr1 _ _) hHeld.2.2.1, kc (fr1 _ _) hHeld.2.2.2.1, kc (fr1 _ _) hHeld.2.2.2.2.1, kfa (hHeld.2.2.2.2.2)⟩) | (exact hHeld))
        clear hK K
        try simp only [Act.put, List.getElem_toArray, List.getElem_cons_succ, List.getElem_cons_zero, List.setIfInBounds_toArray, List.set_cons_zero, List.set_cons_succ]
        refine wpAnyH_take (i := 7) (v := ?v10) rfl (by kernel_rfl) (by kernel_rfl) (by kernel_rfl) (fun _ _ _ h => h) (Or.inl ⟨by kernel_rfl, ?y10⟩) (by assumption) ?_
        case y10 => (intro w hSw; (try dsimp only at hSw); go_simp; all_goals with_reducible rfl)
        try simp only [Act.put, List.getElem_toArray, List.getElem_cons_succ, List.getElem_cons_zero, List.setIfInBounds_toArray, List.set_cons_zero, List.set_cons_succ]
        refine wpAnyH_take (i := 8) (v := ?v11) rfl (by kernel_rfl) (by kernel_rfl) (by kernel_rfl) (fun _ _ _ h => h) (Or.inl ⟨by kernel_rfl, ?y11⟩) (by assumption) ?_
        case y11 => (intro w hSw; (try dsimp only at hSw); go_simp; all_goals with_reducible rfl)
        try simp only [Act.put, List.getElem_toArray, List.getElem_cons_succ, List.getElem_cons_zero, List.setIfInBounds_toArray, List.set_cons_zero, List.set_cons_succ]
        refine wpAnyH_take (i := 9) (v := ?v12) rfl (by kernel_rfl) (by kernel_rfl) (by kernel_rfl) (fun _ _ _ h => h) (Or.inl ⟨by kernel_rfl, ?y12⟩) (by assumption) ?_
        case y12 => (intro w hSw; (try dsimp only at hSw); go_simp; all_goals with_reducible rfl)
        try simp only [Act.put, List.getElem_toArray, List.getElem_cons_succ, List.getElem_cons_zero, List.setIfInBounds_toArray, List.set_cons_zero, List.set_cons_succ]
        refine wpAnyH_ready (rs := [11]) (by kernel_rfl) (by simp) (AllReadyH.cons rfl (fun K hK => ?_) AllReadyH.nil)
        refine stJ_step rfl (.tmp 13) (.tmp 77) rfl _ rfl (st' := qs) (z' := qz) (A' := B') (l' := m') (c' := d') (sp' := qp) (nx' := qn) rfl MX.out ?_
        intro W2 hb2 hf2
        refine hK.out _ _ ?_ (fun hHeld => ?_)
        · (try dsimp only); (first | (go_split_ands; exact ⟨kc f (by assumption), kc f (by assumption), kc f (by assumption), kc f (by assumption), kc f (by assumption), by assumption⟩) | (go_split_ands; exact ⟨(by assumption), (by assumption), (by assumption), (by assumption), (by assumption), by assumption⟩) | (go_split_ands; exact ⟨kc (fr1 _ _) (by assumption), kc (fr1 _ _) (by assumption), kc (fr1 _ _) (by assumption), kc (fr1 _ _) (by assumption), kc (fr1 _ _) (by assumption), kfa (by assumption)⟩) | (go_split_ands; exact ⟨kc (fr1d _ _) (by assumption), kc (fr1d _ _) (by assumption), kc (fr1d _ _) (by assumption), kc (fr1d _ _) (by assumption), kc (fr1d _ _) (by assumption), kfae (by assumption)⟩) | (exact ⟨kcs hf2 (by simp only []; omega) hHeld.1, kcs hf2 (by simp only []; omega) hHeld.2.1, kcs hf2 (by simp only []; omega) hHeld.2.2.1, kcs hf2 (by simp only []; omega) hHeld.2.2.2.1, kcs hf2 (by simp only []; omega) hHeld.2.2.2.2.1, kfg (by omega) FW hf2⟩) | (exact ⟨kcs hf2 (by simp only []; omega) hHeld.1, kcs hf2 (by simp only []; omega) hHeld.2.1, kcs hf2 (by simp only []; omega) hHeld.2.2.1, kcs hf2 (by simp only []; omega) hHeld.2.2.2.1, kcs hf2 (by simp only []; omega) hHeld.2.2.2.2.1, kfg (by omega) hHeld.2.2.2.2.2 hf2⟩) | (exact ⟨kc (fr1 _ _) hHeld.1, kc (fr1 _ _) hHeld.2.1, kc (fr1 _ _) hHeld.2.2.1, kc (fr1 _ _) hHeld.2.2.2.1, kc (fr1 _ _) hHeld.2.2.2.2.1, kfa (hHeld.2.2.2.2.2)⟩) | (exact hHeld))
        clear hK K
        try simp only [Act.put, List.getElem_toArray, List.getElem_cons_succ, List.getElem_cons_zero]
        have FW := hid (show Fr No v2 W2 from (hHeld.2.2.2.2.2).out); have HIN := hid (InI.far HIN.out hf2 (fun g o h => Nat.ne_of_gt (Nat.lt_of_lt_of_le HLT.out (HNW.out g o h)))); have MX := hid hb2; clear hf2 hb2
        refine wpAnyH_take (i := 12) (v := ?v13) rfl (by kernel_rfl) (by kernel_rfl) (by kernel_rfl) (fun _ _ _ h => h) (Or.inl ⟨by kernel_rfl, ?y13⟩) (by assumption) ?_
        case y13 => (intro w hSw; (try dsimp only at hSw); go_simp; all_goals with_reducible rfl)
        try simp only [Act.put, List.getElem_toArray, List.getElem_cons_succ, List.getElem_cons_zero, List.setIfInBounds_toArray, List.set_cons_zero, List.set_cons_succ]
        refine wpAnyH_done (by kernel_rfl) ?_ _
        refine NoPanic.normal ?_
        go_wp2_with fail
        go_meet
        case rel => exact ⟨_, B', m', d', rfl, rfl, MX.out, HIN.out, hsz9, FW.out⟩
    · go_simp
      refine hK.out _ _ ?_ (fun hHeld => ?_)
      · (try dsimp only); (first | (go_split_ands; exact ⟨kc f (by assumption), kc f (by assumption), kc f (by assumption), kc f (by assumption), kc f (by assumption), by assumption⟩) | (go_split_ands; exact ⟨(by assumption), (by assumption), (by assumption), (by assumption), (by assumption), by assumption⟩) | (go_split_ands; exact ⟨kc (fr1 _ _) (by assumption), kc (fr1 _ _) (by assumption), kc (fr1 _ _) (by assumption), kc (fr1 _ _) (by assumption), kc (fr1 _ _) (by assumption), kfa (by assumption)⟩) | (go_split_ands; exact ⟨kc (fr1d _ _) (by assumption), kc (fr1d _ _) (by assumption), kc (fr1d _ _) (by assumption), kc (fr1d _ _) (by assumption), kc (fr1d _ _) (by assumption), kfae (by assumption)⟩) | (exact ⟨kcs hf2 (by simp only []; omega) hHeld.1, kcs hf2 (by simp only []; omega) hHeld.2.1, kcs hf2 (by simp only []; omega) hHeld.2.2.1, kcs hf2 (by simp only []; omega) hHeld.2.2.2.1, kcs hf2 (by simp only []; omega) hHeld.2.2.2.2.1, kfg (by omega) FW hf2⟩) | (exact ⟨kcs hf2 (by simp only []; omega) hHeld.1, kcs hf2 (by simp only []; omega) hHeld.2.1, kcs hf2 (by simp only []; omega) hHeld.2.2.1, kcs hf2 (by simp only []; omega) hHeld.2.2.2.1, kcs hf2 (by simp only []; omega) hHeld.2.2.2.2.1, kfg (by omega) hHeld.2.2.2.2.2 hf2⟩) | (exact ⟨kc (fr1 _ _) hHeld.1, kc (fr1 _ _) hHeld.2.1, kc (fr1 _ _) hHeld.2.2.1, kc (fr1 _ _) hHeld.2.2.2.1, kc (fr1 _ _) hHeld.2.2.2.2.1, kfa (hHeld.2.2.2.2.2)⟩) | (exact hHeld))
      clear hK K
      try simp only [Act.put, List.getElem_toArray, List.getElem_cons_succ, List.getElem_cons_zero, List.setIfInBounds_toArray, List.set_cons_zero, List.set_cons_succ]
      have hsz9 : v2.heap.size ≤ v2.heap.size := Nat.le_refl _; have MX := hid (show BJ (World.drew (v2.alloc (oJ 0 0 none 0 0 0 0))) v2.heap.size 0 0 none 0 0 0 0 from (BJ.at_ (w := v2) 0 0 none 0 0 0 0 rfl)); have HLT := hid ((MX.out : Blk _ _ _ _).lt)
      refine wpAnyH_ready (rs := [2]) (by kernel_rfl) (by simp) (AllReadyH.cons rfl (fun K hK => ?_) AllReadyH.nil)
      go_simp
      go_at_call 41
      refine (idle_ok _).mono ?_
      rintro e W1 ⟨rfl, f⟩
      have FW := kf f hHeld.2.2.2.2.2
      (try have MX := hid (MX.out.fr f))
      (try have HLT := hid ((MX.out : Blk _ _ _ _).lt))
      dsimp only
      refine hK.out _ _ ?_ (fun hHeld => ?_)
      · (try dsimp only); (first | (go_split_ands; exact ⟨kc f (by assumption), kc f (by assumption), kc f (by assumption), kc f (by assumption), kc f (by assumption), by assumption⟩) | (go_split_ands; exact ⟨(by assumption), (by assumption), (by assumption), (by assumption), (by assumption), by assumption⟩) | (go_split_ands; exact ⟨kc (fr1 _ _) (by assumption), kc (fr1 _ _) (by assumption), kc (fr1 _ _) (by assumption), kc (fr1 _ _) (by assumption), kc (fr1 _ _) (by assumption), kfa (by assumption)⟩) | (go_split_ands; exact ⟨kc (fr1d _ _) (by assumption), kc (fr1d _ _) (by assumption), kc (fr1d _ _) (by assumption), kc (fr1d _ _) (by assumption), kc (fr1d _ _) (by assumption), kfae (by assumption)⟩) | (exact ⟨kcs hf2 (by simp only []; omega) hHeld.1, kcs hf2 (by simp only []; omega) hHeld.2.1, kcs hf2 (by simp only []; omega) hHeld.2.2.1, kcs hf2 (by simp only []; omega) hHeld.2.2.2.1, kcs hf2 (by simp only []; omega) hHeld.2.2.2.2.1, kfg (by omega) FW hf2⟩) | (exact ⟨kcs hf2 (by simp only []; omega) hHeld.1, kcs hf2 (by simp only []; omega) hHeld.2.1, kcs hf2 (by simp only []; omega) hHeld.2.2.1, kcs hf2 (by simp only []; omega) hHeld.2.2.2.1, kcs hf2 (by simp only []; omega) hHeld.2.2.2.2.1, kfg (by omega) hHeld.2.2.2.2.2 hf2⟩) | (exact ⟨kc (fr1 _ _) hHeld.1, kc (fr1 _ _) hHeld.2.1, kc (fr1 _ _) hHeld.2.2.1, kc (fr1 _ _) hHeld.2.2.2.1, kc (fr1 _ _) hHeld.2.2.2.2.1, kfa (hHeld.2.2.2.2.2)⟩) | (exact hHeld))
      clear hK K
      try simp only [Act.put, List.getElem_toArray, List.getElem_cons_succ, List.getElem_cons_zero, List.setIfInBounds_toArray, List.set_cons_zero, List.set_cons_succ]
      refine wpAnyH_ready (rs := [6]) (by kernel_rfl) (by simp) (AllReadyH.cons rfl (fun K hK => ?_) AllReadyH.nil)
      go_simp
      go_at_call 38
      refine (HAP.out _ (HI.out.fr hHeld.2.2.2.2.2.out)).mono ?_
      rintro e W1 ⟨B', m', d', rfl, hin, hnew, f⟩
      have FW := kf f hHeld.2.2.2.2.2
      (try have MX := hid (MX.out.fr f))
      have HIN := hid hin
      have HNW := hid hnew
      clear hin hnew
      dsimp only
      refine hK.out _ _ ?_ (fun hHeld => ?_)
      · (try dsimp only); (first | (go_split_ands; exact ⟨kc f (by assumption), kc f (by assumption), kc f (by assumption), kc f (by assumption), kc f (by assumption), by assumption⟩) | (go_split_ands; exact ⟨(by assumption), (by assumption), (by assumption), (by assumption), (by assumption), by assumption⟩) | (go_split_ands; exact ⟨kc (fr1 _ _) (by assumption), kc (fr1 _ _) (by assumption), kc (fr1 _ _) (by assumption), kc (fr1 _ _) (by assumption), kc (fr1 _ _) (by assumption), kfa (by assumption)⟩) | (go_split_ands; exact ⟨kc (fr1d _ _) (by assumption), kc (fr1d _ _) (by assumption), kc (fr1d _ _) (by assumption), kc (fr1d _ _) (by assumption), kc (fr1d _ _) (by assumption), kfae (by assumption)⟩) | (exact ⟨kcs hf2 (by simp only []; omega) hHeld.1, kcs hf2 (by simp only []; omega) hHeld.2.1, kcs hf2 (by simp only []; omega) hHeld.2.2.1, kcs hf2 (by simp only []; omega) hHeld.2.2.2.1, kcs hf2 (by simp only []; omega) hHeld.2.2.2.2.1, kfg (by omega) FW hf2⟩) | (exact ⟨kcs hf2 (by simp only []; omega) hHeld.1, kcs hf2 (by simp only []; omega) hHeld.2.1, kcs hf2 (by simp only []; omega) hHeld.2.2.1, kcs hf2 (by simp only []; omega) hHeld.2.2.2.1, kcs hf2 (by simp only []; omega) hHeld.2.2.2.2.1, kfg (by omega) hHeld.2.2.2.2.2 hf2⟩) | (exact ⟨kc (fr1 _ _) hHeld.1, kc (fr1 _ _) hHeld.2.1, kc (fr1 _ _) hHeld.2.2.1, kc (fr1 _ _) hHeld.2.2.2.1, kc (fr1 _ _) hHeld.2.2.2.2.1, kfa (hHeld.2.2.2.2.2)⟩) | (exact hHeld))
      clear hK K
      try simp only [Act.put, List.getElem_toArray, List.getElem_cons_succ, List.getElem_cons_zero, List.setIfInBounds_toArray, List.set_cons_zero, List.set_cons_succ]
      refine wpAnyH_take (i := 7) (v := ?v14) rfl (by kernel_rfl) (by kernel_rfl) (by kernel_rfl) (fun _ _ _ h => h) (Or.inl ⟨by kernel_rfl, ?y14⟩) (by assumption) ?_
      case y14 => (intro w hSw; (try dsimp only at hSw); go_simp; all_goals with_reducible rfl)
      try simp only [Act.put, List.getElem_toArray, List.getElem_cons_succ, List.getElem_cons_zero, List.setIfInBounds_toArray, List.set_cons_zero, List.set_cons_succ]
      refine wpAnyH_take (i := 8) (v := ?v15) rfl (by kernel_rfl) (by kernel_rfl) (by kernel_rfl) (fun _ _ _ h => h) (Or.inl ⟨by kernel_rfl, ?y15⟩) (by assumption) ?_
      case y15 => (intro w hSw; (try dsimp only at hSw); go_simp; all_goals with_reducible rfl)
      try simp only [Act.put, List.getElem_toArray, List.getElem_cons_succ, List.getElem_cons_zero, List.setIfInBounds_toArray, List.set_cons_zero, List.set_cons_succ]
      refine wpAnyH_take (i := 9) (v := ?v16) rfl (by kernel_rfl) (by kernel_rfl) (by kernel_rfl) (fun _ _ _ h => h) (Or.inl ⟨by kernel_rfl, ?y16⟩) (by assumption) ?_
      case y16 => (intro w hSw; (try dsimp only at hSw); go_simp; all_goals with_reducible rfl)
      try simp only [Act.put, List.getElem_toArray, List.getElem_cons_succ, List.getElem_cons_zero, List.setIfInBounds_toArray, List.set_cons_zero, List.set_cons_succ]
      refine wpAnyH_ready (rs := [11]) (by kernel_rfl) (by simp) (AllReadyH.cons rfl (fun K hK => ?_) AllReadyH.nil)
      refine stJ_step rfl (.tmp 13) (.tmp 77) rfl _ rfl (st' := qs) (z' := qz) (A' := B') (l' := m') (c' := d') (sp' := qp) (nx' := qn) rfl MX.out ?_
      intro W2 hb2 hf2
      refine hK.out _ _ ?_ (fun hHeld => ?_)
      · (try dsimp only); (first | (go_split_ands; exact ⟨kc f (by assumption), kc f (by assumption), kc f (by assumption), kc f (by assumption), kc f (by assumption), by assumption⟩) | (go_split_ands; exact ⟨(by assumption), (by assumption), (by assumption), (by assumption), (by assumption), by assumption⟩) | (go_split_ands; exact ⟨kc (fr1 _ _) (by assumption), kc (fr1 _ _) (by assumption), kc (fr1 _ _) (by assumption), kc (fr1 _ _) (by assumption), kc (fr1 _ _) (by assumption), kfa (by assumption)⟩) | (go_split_ands; exact ⟨kc (fr1d _ _) (by assumption), kc (fr1d _ _) (by assumption), kc (fr1d _ _) (by assumption), kc (fr1d _ _) (by assumption), kc (fr1d _ _) (by assumption), kfae (by assumption)⟩) | (exact ⟨kcs hf2 (by simp only []; omega) hHeld.1, kcs hf2 (by simp only []; omega) hHeld.2.1, kcs hf2 (by simp only []; omega) hHeld.2.2.1, kcs hf2 (by simp only []; omega) hHeld.2.2.2.1, kcs hf2 (by simp only []; omega) hHeld.2.2.2.2.1, kfg (by omega) FW hf2⟩) | (exact ⟨kcs hf2 (by simp only []; omega) hHeld.1, kcs hf2 (by simp only []; omega) hHeld.2.1, kcs hf2 (by simp only []; omega) hHeld.2.2.1, kcs hf2 (by simp only []; omega) hHeld.2.2.2.1, kcs hf2 (by simp only []; omega) hHeld.2.2.2.2.1, kfg (by omega) hHeld.2.2.2.2.2 hf2⟩) | (exact ⟨kc (fr1 _ _) hHeld.1, kc (fr1 _ _) hHeld.2.1, kc (fr1 _ _) hHeld.2.2.1, kc (fr1 _ _) hHeld.2.2.2.1, kc (fr1 _ _) hHeld.2.2.2.2.1, kfa (hHeld.2.2.2.2.2)⟩) | (exact hHeld))
      clear hK K
      try simp only [Act.put, List.getElem_toArray, List.getElem_cons_succ, List.getElem_cons_zero]
      have FW := hid (show Fr No v2 W2 from (hHeld.2.2.2.2.2).out); have HIN := hid (InI.far HIN.out hf2 (fun g o h => Nat.ne_of_gt (Nat.lt_of_lt_of_le HLT.out (HNW.out g o h)))); have MX := hid hb2; clear hf2 hb2
      refine wpAnyH_take (i := 12) (v := ?v17) rfl (by kernel_rfl) (by kernel_rfl) (by kernel_rfl) (fun _ _ _ h => h) (Or.inl ⟨by kernel_rfl, ?y17⟩) (by assumption) ?_
      case y17 => (intro w hSw; (try dsimp only at hSw); go_simp; all_goals with_reducible rfl)
      try simp only [Act.put, List.getElem_toArray, List.getElem_cons_succ, List.getElem_cons_zero, List.setIfInBounds_toArray, List.set_cons_zero, List.set_cons_succ]
      refine wpAnyH_done (by kernel_rfl) ?_ _
      refine NoPanic.normal ?_
      go_wp2_with fail
      go_meet
      case rel => exact ⟨_, B', m', d', rfl, rfl, MX.out, HIN.out, hsz9, FW.out⟩
  case rest =>
  clear p11_0 p11_1 p11_2 p11_3 p11_4 p11_5 p11_6 p11_7 p0_0 p0_1 p0_2 p0_3 p0_4
  have P11L := P11
  obtain ⟨M, A2, l2, c2, rfl, rfl, hbj, hij, hMM, f3⟩ := hcut
  have HF := hid (HF.out.trans f3)
  have P0 := hid (show BG wc (w.heap.size) gc gs gn gl gk from Blk.fr P0.out f3 (fun h => h))
  have P11 := hid (show BL wc b11 ya yr yq yb yd yt yx yu from Blk.fr P11.out f3 (fun h => h))
  have P13 := hid hbj
  have HI := hid hij
  have HSM := hid (show w.heap.size < M ∧ b11 < M from ⟨by omega, by have := (P11L.out : Blk _ _ _ _).lt; omega⟩)
  clear f3 hbj hij hMM
  rcases HCS.out with ⟨hqq, hjm⟩ | hqq
  rotate_left
  · have hqe : qe = 1 := congrArg Prod.snd hqq
    subst hqe
    clear hqq
    go_wp2_with fail
    go_ret
    exact ⟨rfl, HF.out⟩
  have hqe : qe = 0 := congrArg Prod.snd hqq
  have hqj : (⟨qs, qz, qb, qp, qn⟩ : Jb) = nextJ zone bs := congrArg Prod.fst hqq
  subst hqe
  have HQJ := hid hqj
  have hrr := nextJ_no hjm
  have hlb : (l : Int) ≤ yb := by have h := HRL.out (by have h2 := hrr.2.1; rw [HY0.out] at h2; exact h2); rw [HLEN.out] at h; omega
  have HJO := hid (HJ0.out hjm)
  rw [← HQJ.out, HLEN.out] at HJO
  have hjm2 : mayB ⟨gc, gs, gn, gl, gk⟩ ⟨qs, qz, qb, qp, qn⟩ = true := by rw [hqj]; exact hjm
  obtain ⟨K, hK⟩ : ∃ K, cks ch yd = K := ⟨_, rfl⟩
  have hcc := ch_of HCB.out
  have hK0 : 0 ≤ K := by rw [← hK]; exact cks_nonneg hcc.1 (by omega)
  have hK1 : K ≤ yd := by rw [← hK]; exact cks_le hcc.1 (by omega)
  rw [hK] at HJO HST0
  have hn00 : 0 ≤ (l : Int) * (3 + K) := Int.mul_nonneg (by omega) (by omega)
  have hn01 : (l : Int) * (3 + K) ≤ 100 * 1026 := Int.mul_le_mul (by omega) (by omega) (by omega) (by omega)
  have hl00 : 0 ≤ (l : Int) * yd := Int.mul_nonneg (by omega) (by omega)
  have hl01 : (l : Int) * yd ≤ 100 * 1023 := Int.mul_le_mul (by omega) (by omega) (by omega) (by omega)
  obtain ⟨n0, hn0⟩ : ∃ n0, (l : Int) * (3 + K) = n0 := ⟨_, rfl⟩
  obtain ⟨lp, hlp⟩ : ∃ lp, (l : Int) * yd = lp := ⟨_, rfl⟩
  have m3 : wrap64 ((l : Int) * yd) = lp := by rw [hlp]; exact w64 _ (by omega)
  rw [hn0] at hn00 hn01 HJO
  rw [hlp] at hl00 hl01 HJO
  have HST := hid (HST0.out hlb)
  rw [hn0] at HST
  have hfz : fz zone = if zone = 255 then 0 else 1 := rfl
  obtain ⟨n, hn⟩ : ∃ n, n0 + fz zone = n := ⟨_, rfl⟩
  rw [hn] at HJO
  have hzq : inI qz := by rcases HJO.out.z with e | e <;> (dsimp only at e; rw [e]) ; exact HZI.out; unfold inI; decide
  have HLE := hid (fun W (h : InI W A2 l2 c2 qb) => pLeft_lit gc gs gn gl gk ch qs qz A2 l2 c2 qp qn qb W hs HMG.out hjm2 HCB.out hzq HJO.out.sp n HJO.out.n0.symm h)
  obtain ⟨S, hS⟩ : ∃ S, 2 + n0 = S := ⟨_, rfl⟩
  rw [hS] at HST
  clear hqq hqj hrr hjm hjm2 HRL HJ0 HST0 hlb hn0 hlp hzq hK hK0 hK1
  go_wp2_with (first | ((with_reducible refine ld_geom rfl (.tmp 5) rfl (w.heap.size) ?_ P0.out ?_); · rfl) | ((with_reducible refine ldJ rfl (.tmp 13) rfl (M) ?_ P13.out ?_); · rfl))
  refine (HLE.out _ HI.out).mono ?_
  rintro r v3 ⟨rfl, f3⟩
  have HF := hid (HF.out.trans f3)
  have P0 := hid (show BG (v3) (w.heap.size) gc gs gn gl gk from Blk.fr P0.out f3 (fun h => h))
  have P11 := hid (show BL (v3) (b11) ya yr yq yb yd yt yx yu from Blk.fr P11.out f3 (fun h => h))
  have P13 := hid (P13.out.fr f3)
  have HI := hid (HI.out.fr f3)
  clear f3
  go_upto_region 8 with fail
  obtain ⟨p0_0, p0_1, p0_2, p0_3, p0_4⟩ := P0.out.cells
  go_cut [117] (fun v wx => v = .bool false ∧ Fr No v3 wx)
  case first =>
    by_cases h255 : zone = 255
    · rw [if_pos h255] at hfz
      have m4 : wrap64 (S - 2) = n := by rw [w64 _ (by omega)]; omega
      have hz1 : (zone != 255) = false := by simp [h255]
      have hz2 : (zone == 255) = true := by simp [h255]
      clear hfz hn hS h255
      by_cases hl0 : l = 0
      · have hl1 : ¬ 0 < (l : Int) := by omega
        clear hl0
        go_wp2_with fail
        go_meet
        case rel => exact ⟨rfl, Fr.refl No _⟩
      · have hl1 : 0 < (l : Int) := by omega
        clear hl0
        go_wp2_with fail
        refine (HST.out _).mono ?_
        rintro r v4 ⟨rfl, f4⟩
        clear p0_0 p0_1 p0_2 p0_3 p0_4
        have HF := hid (HF.out.trans f4)
        have P0 := hid (show BG (v4) (w.heap.size) gc gs gn gl gk from Blk.fr P0.out f4 (fun h => h))
        have P11 := hid (show BL (v4) (b11) ya yr yq yb yd yt yx yu from Blk.fr P11.out f4 (fun h => h))
        have P13 := hid (P13.out.fr f4)
        have HI := hid (HI.out.fr f4)
        have FZ := f4
        clear f4
        go_wp2_with fail
        go_meet
        case rel => exact ⟨rfl, FZ⟩
    · rw [if_neg h255] at hfz
      have m4 : wrap64 (S - 1) = n := by rw [w64 _ (by omega)]; omega
      have hz1 : (zone != 255) = true := by simpa using h255
      have hz2 : (zone == 255) = false := by simpa using h255
      clear hfz hn hS h255
      go_wp2_with fail
      refine (HST.out _).mono ?_
      rintro r v4 ⟨rfl, f4⟩
      clear p0_0 p0_1 p0_2 p0_3 p0_4
      have HF := hid (HF.out.trans f4)
      have P0 := hid (show BG (v4) (w.heap.size) gc gs gn gl gk from Blk.fr P0.out f4 (fun h => h))
      have P11 := hid (show BL (v4) (b11) ya yr yq yb yd yt yx yu from Blk.fr P11.out f4 (fun h => h))
      have P13 := hid (P13.out.fr f4)
      have HI := hid (HI.out.fr f4)
      have FZ := f4
      clear f4
      go_wp2_with fail
      go_meet
      case rel => exact ⟨rfl, FZ⟩
  case rest =>
  obtain ⟨rfl, f4⟩ := hcut
  clear p0_0 p0_1 p0_2 p0_3 p0_4
  have HF := hid (HF.out.trans f4)
  have P0 := hid (show BG (wc) (w.heap.size) gc gs gn gl gk from Blk.fr P0.out f4 (fun h => h))
  have P11 := hid (show BL (wc) (b11) ya yr yq yb yd yt yx yu from Blk.fr P11.out f4 (fun h => h))
  have P13 := hid (P13.out.fr f4)
  have HI := hid (HI.out.fr f4)
  clear f4 hfz hn hS HST HLE
  go_wp2_with fail
  go_loopw [15, 16] (fun v u wr => EndR w M b11 gc gs gn gl gk ya yr yq yb yd yt yx yu ch zone lp v u wr) (fun v _ _ => (intOf v).toNat)
  case atStart => exact ⟨n, 0, qs, qz, A2, l2, c2, qp, qn, qb, rfl, rfl, P13.out, HI.out, HJO.out, P11.out, P0.out, HF.out⟩
  case round =>
    clear P0 P11 P13 HI HF HJO HQJ HCS HQ HAP HL HCH
    obtain ⟨n', cp, st, z, A3, l3, c3, sp, nx, js, rfl, rfl, hbj, hi3, hjo, hbl, hbg, hf⟩ := hrel
    have P13 := hid hbj
    have HI := hid hi3
    have HJO := hid hjo
    have P11 := hid hbl
    have P0 := hid hbg
    have HF := hid hf
    obtain ⟨hbd1, hbd2, hbd3⟩ := hjo.le HCB.out
    have hc00 := hjo.c0
    have hjl := hi3.len
    have hl3 : l3 ≤ 1000000 := by dsimp only at hbd3; omega
    clear hbj hi3 hjo hbl hbg hf hjl hbd3
    by_cases hpos : 0 < n'
    · obtain ⟨hs0, hk1, hwa, tj, haf, hjn⟩ := HJO.out.turn HCB.out HSQ.out HNZ.out HN5.out HZI.out HPI.out hpos
      obtain ⟨tw, htw⟩ : ∃ t, wantJ (lay ⟨gc, gs, gn, gl, gk⟩).d ch ⟨st, z, js, sp, nx⟩ = t := ⟨_, rfl⟩
      rw [htw] at hk1 hwa haf hjn
      obtain ⟨k1, q2, q3, q4, q5⟩ := tw
      obtain ⟨us, uz, ub, up, un⟩ := tj
      dsimp only at hk1 hwa haf hs0
      have hzz : inI z := by rcases HJO.out.z with e | e <;> (dsimp only at e; rw [e]) ; exact HZI.out; unfold inI; decide
      have hdz : inI (spz k1 spare) := by unfold spz; split; exact HPI.out; unfold inI; decide
      have huz : inI uz := by rcases hjn.z with e | e <;> (dsimp only at e; rw [e]) ; exact HZI.out; unfold inI; decide
      have HW := hid (fun W (h : InI W A3 l3 c3 js) => pWants_lit gc gs gn gl gk ch st z A3 l3 c3 sp nx js k1 q2 q3 q4 q5 0 W hs hzz HJO.out.sp hwa h)
      have HAF := hid (fun W (h : InI W A3 l3 c3 js) => pAfter_fresh gc gs gn gl gk ch st z A3 l3 c3 sp nx js k1 (spz k1 spare) 0 none 0 0 [] us uz ub up un 0 W hs hzz HJO.out.sp hdz haf h (InI.nil W) hl3 (by omega))
      have HLE := hid (fun A' (l' c' : Nat) W (h : InI W A' l' c' ub) => pLeft_lit gc gs gn gl gk ch us uz A' l' c' up un ub W hs HMG.out hjn.may HCB.out huz hjn.sp (n' - 1) hjn.n0.symm h)
      obtain ⟨hbe1, hbe2, hbe3⟩ := hjn.le HCB.out
      have hce1 := hjn.c0
      have hkb : (k1 == 1) = false := by simpa using hk1
      have HJN := hid hjn
      have HM0 := hid ((P13.out : Blk _ _ _ _).lt)
      have m8 : wrap64 (n' - 1) = n' - 1 := w64 _ (by omega)
      clear hk1 hwa haf hjn htw hzz hdz huz hs0 hbe3
      go_wp2_with (first | ((with_reducible refine ld_geom rfl (.tmp 5) rfl (w.heap.size) ?_ P0.out ?_); · rfl) | ((with_reducible refine ldJ rfl (.tmp 13) rfl (M) ?_ P13.out ?_); · rfl))
      refine (HW.out _ HI.out).mono ?_
      rintro r u1 ⟨rfl, f1⟩
      have HF := hid ((HF.out.trans f1).alloc (oT k1 q2 q3 q4 q5))
      have P0 := hid (show BG (u1.alloc (oT k1 q2 q3 q4 q5)) (w.heap.size) gc gs gn gl gk from (Blk.fr P0.out f1 (fun h => h)).alloc _)
      have P11 := hid (show BL (u1.alloc (oT k1 q2 q3 q4 q5)) (b11) ya yr yq yb yd yt yx yu from (Blk.fr P11.out f1 (fun h => h)).alloc _)
      have P13 := hid ((P13.out.fr f1).up (oT k1 q2 q3 q4 q5))
      have HI := hid (HI.out.fr (f1.alloc (oT k1 q2 q3 q4 q5)))
      have P17 := hid (BT.at_ (w := u1) k1 q2 q3 q4 q5 rfl)
      obtain ⟨b17, hb⟩ : ∃ x, u1.heap.size = x := ⟨_, rfl⟩
      rw [hb] at P17
      have hM17 : M < b17 := by have h1 := HM0.out; have h2 := f1.size; omega
      clear f1
      by_cases hk3 : k1 = 3
      · have hkc : (k1 == 3) = true := by simp [hk3]
        have hce : cop (k1, q2, q3, q4, q5) = q5 := if_pos hk3
        rw [hce] at HJN hbe2 hce1
        have m7 : wrap64 (cp + q5) = cp + q5 := w64 _ (by omega)
        clear hce hk3
        go_upto_region 17 with fail
        try rw [hb]
        clear hb
        obtain ⟨wy, hwy⟩ : ∃ x, World.alloc u1 (oT k1 q2 q3 q4 q5) = x := ⟨_, rfl⟩
        rw [hwy] at HF P0 P11 P13 P17 HI
        try rw [hwy]
        clear hwy
        have hsm := HSM.out
        obtain ⟨hsm1, hsm2⟩ := hsm
        have hng : w.heap.size ≠ M := by omega
        have hnb : b11 ≠ M := by omega
        have hsz : w.heap.size ≤ M := by omega
        have HML := hid ((P13.out : Blk _ _ _ _).lt)
        obtain ⟨g0, g1, g2, g3, g4⟩ := P0.out.cells
        obtain ⟨t0, t1, t2, t3, t4⟩ := P17.out.cells
        have FD := hid (show Fr No wy (World.drew wy) from Fr.drew (Fr.refl No wy))
        have HID := hid (HI.out.fr FD.out)
        have PM := hid (P13.out.fr FD.out)
        have FW := hid (Fr.refl (fun q => q = M) wy)
        have FW := kdS FW
        refine wp_region_noPanic ?_
        refine wp_region_held_drew (S := (fun W' => W'.cell? ⟨w.heap.size, 0, none⟩ = some (.int .i64 gc) ∧ W'.cell? ⟨w.heap.size, 1, none⟩ = some (.int .i64 gs) ∧ W'.cell? ⟨w.heap.size, 2, none⟩ = some (.int .i64 gn) ∧ W'.cell? ⟨w.heap.size, 3, none⟩ = some (.int .i64 gl) ∧ W'.cell? ⟨w.heap.size, 4, none⟩ = some (.int .i64 gk) ∧ W'.cell? ⟨b17, 0, none⟩ = some (.int .i64 k1) ∧ W'.cell? ⟨b17, 1, none⟩ = some (.int .i64 q2) ∧ W'.cell? ⟨b17, 2, none⟩ = some (.int .i64 q3) ∧ W'.cell? ⟨b17, 3, none⟩ = some (.int .i64 q4) ∧ W'.cell? ⟨b17, 4, none⟩ = some (.int .i64 q5) ∧ Hid (Fr (fun q => q = M) wy W'))) (by kernel_rfl) ?_ (fun hHeld => ?_)
        · (try dsimp only); (first | (go_split_ands; exact ⟨kc f (by assumption), kc f (by assumption), kc f (by assumption), kc f (by assumption), kc f (by assumption), kc f (by assumption), kc f (by assumption), kc f (by assumption), kc f (by assumption), kc f (by assumption), by assumption⟩) | (go_split_ands; exact ⟨(by assumption), (by assumption), (by assumption), (by assumption), (by assumption), (by assumption), (by assumption), (by assumption), (by assumption), (by assumption), by assumption⟩) | (go_split_ands; exact ⟨kc (fr1 _ _) (by assumption), kc (fr1 _ _) (by assumption), kc (fr1 _ _) (by assumption), kc (fr1 _ _) (by assumption), kc (fr1 _ _) (by assumption), kc (fr1 _ _) (by assumption), kc (fr1 _ _) (by assumption), kc (fr1 _ _) (by assumption), kc (fr1 _ _) (by assumption), kc (fr1 _ _) (by assumption), kfa (by assumption)⟩) | (exact ⟨kcs hf2 (by simp only []; omega) hHeld.1, kcs hf2 (by simp only []; omega) hHeld.2.1, kcs hf2 (by simp only []; omega) hHeld.2.2.1, kcs hf2 (by simp only []; omega) hHeld.2.2.2.1, kcs hf2 (by simp only []; omega) hHeld.2.2.2.2.1, kcs hf2 (by simp only []; omega) hHeld.2.2.2.2.2.1, kcs hf2 (by simp only []; omega) hHeld.2.2.2.2.2.2.1, kcs hf2 (by simp only []; omega) hHeld.2.2.2.2.2.2.2.1, kcs hf2 (by simp only []; omega) hHeld.2.2.2.2.2.2.2.2.1, kcs hf2 (by simp only []; omega) hHeld.2.2.2.2.2.2.2.2.2.1, kst hf2 hHeld.2.2.2.2.2.2.2.2.2.2⟩) | (exact hHeld))
        refine wpAnyH_take (i := 0) (v := ?v18) rfl (by kernel_rfl) (by kernel_rfl) (by kernel_rfl) (fun _ _ _ h => h) (Or.inl ⟨by kernel_rfl, ?y18⟩) (by assumption) ?_
        case y18 => (intro w hSw; (try dsimp only at hSw); go_simp; all_goals with_reducible rfl)
        try simp only [Act.put, List.getElem_toArray, List.getElem_cons_zero, List.setIfInBounds_toArray, List.set_cons_zero, List.set_cons_succ]
        refine wpAnyH_take (i := 1) (v := ?v19) rfl (by kernel_rfl) (by kernel_rfl) (by kernel_rfl) (fun _ _ _ h => h) (Or.inl ⟨by kernel_rfl, ?y19⟩) (by assumption) ?_
        case y19 => (intro w hSw; (try dsimp only at hSw); go_simp; all_goals with_reducible rfl)
        try simp only [Act.put, List.getElem_toArray, List.getElem_cons_succ, List.getElem_cons_zero, List.setIfInBounds_toArray, List.set_cons_zero, List.set_cons_succ]
        refine wpAnyH_take (i := 3) (v := ?v20) rfl (by kernel_rfl) (by kernel_rfl) (by kernel_rfl) (fun _ _ _ h => h) (Or.inl ⟨by kernel_rfl, ?y20⟩) (by assumption) ?_
        case y20 => (intro w hSw; (try dsimp only at hSw); go_simp; all_goals with_reducible rfl)
        try simp only [Act.put, List.getElem_toArray, List.getElem_cons_succ, List.getElem_cons_zero, List.setIfInBounds_toArray, List.set_cons_zero, List.set_cons_succ]
        refine wpAnyH_take (i := 4) (v := ?v21) rfl (by kernel_rfl) (by kernel_rfl) (by kernel_rfl) (fun _ _ _ h => h) (Or.inl ⟨by kernel_rfl, ?y21⟩) (by assumption) ?_
        case y21 => (intro w hSw; (try dsimp only at hSw); go_simp; all_goals with_reducible rfl)
        try simp only [Act.put, List.getElem_toArray, List.getElem_cons_succ, List.getElem_cons_zero, List.setIfInBounds_toArray, List.set_cons_zero, List.set_cons_succ]
        refine wpAnyH_ready (rs := [2, 5]) (by kernel_rfl) (by simp) (AllReadyH.cons rfl (fun K hK => ?_) (AllReadyH.cons rfl (fun K hK => ?_) AllReadyH.nil))
        · refine ldJ_step rfl (.tmp 13) rfl M rfl PM.out ?_
          refine hK.out _ _ ?_ (fun hHeld => ?_)
          · (try dsimp only); (first | (go_split_ands; exact ⟨kc f (by assumption), kc f (by assumption), kc f (by assumption), kc f (by assumption), kc f (by assumption), kc f (by assumption), kc f (by assumption), kc f (by assumption), kc f (by assumption), kc f (by assumption), by assumption⟩) | (go_split_ands; exact ⟨(by assumption), (by assumption), (by assumption), (by assumption), (by assumption), (by assumption), (by assumption), (by assumption), (by assumption), (by assumption), by assumption⟩) | (go_split_ands; exact ⟨kc (fr1 _ _) (by assumption), kc (fr1 _ _) (by assumption), kc (fr1 _ _) (by assumption), kc (fr1 _ _) (by assumption), kc (fr1 _ _) (by assumption), kc (fr1 _ _) (by assumption), kc (fr1 _ _) (by assumption), kc (fr1 _ _) (by assumption), kc (fr1 _ _) (by assumption), kc (fr1 _ _) (by assumption), kfa (by assumption)⟩) | (exact ⟨kcs hf2 (by simp only []; omega) hHeld.1, kcs hf2 (by simp only []; omega) hHeld.2.1, kcs hf2 (by simp only []; omega) hHeld.2.2.1, kcs hf2 (by simp only []; omega) hHeld.2.2.2.1, kcs hf2 (by simp only []; omega) hHeld.2.2.2.2.1, kcs hf2 (by simp only []; omega) hHeld.2.2.2.2.2.1, kcs hf2 (by simp only []; omega) hHeld.2.2.2.2.2.2.1, kcs hf2 (by simp only []; omega) hHeld.2.2.2.2.2.2.2.1, kcs hf2 (by simp only []; omega) hHeld.2.2.2.2.2.2.2.2.1, kcs hf2 (by simp only []; omega) hHeld.2.2.2.2.2.2.2.2.2.1, kst hf2 hHeld.2.2.2.2.2.2.2.2.2.2⟩) | (exact hHeld))
          clear hK K
          try simp only [Act.put, List.getElem_toArray, List.getElem_cons_succ, List.getElem_cons_zero, List.setIfInBounds_toArray, List.set_cons_zero, List.set_cons_succ]
          refine wpAnyH_ready (rs := [5]) (by kernel_rfl) (by simp) (AllReadyH.cons rfl (fun K hK => ?_) AllReadyH.nil)
          go_simp
          go_at_call 43
          refine (done_ok k1 q2 q3 q4 q5 spare _).mono ?_
          rintro e W1 ⟨rfl, f⟩
          have FW := kfS f hHeld.2.2.2.2.2.2.2.2.2.2
          have HID := hid (HID.out.fr f)
          have FD := hid (FD.out.trans f)
          have PM := hid (PM.out.fr f)
          dsimp only
          refine hK.out _ _ ?_ (fun hHeld => ?_)
          · (try dsimp only); (first | (go_split_ands; exact ⟨kc f (by assumption), kc f (by assumption), kc f (by assumption), kc f (by assumption), kc f (by assumption), kc f (by assumption), kc f (by assumption), kc f (by assumption), kc f (by assumption), kc f (by assumption), by assumption⟩) | (go_split_ands; exact ⟨(by assumption), (by assumption), (by assumption), (by assumption), (by assumption), (by assumption), (by assumption), (by assumption), (by assumption), (by assumption), by assumption⟩) | (go_split_ands; exact ⟨kc (fr1 _ _) (by assumption), kc (fr1 _ _) (by assumption), kc (fr1 _ _) (by assumption), kc (fr1 _ _) (by assumption), kc (fr1 _ _) (by assumption), kc (fr1 _ _) (by assumption), kc (fr1 _ _) (by assumption), kc (fr1 _ _) (by assumption), kc (fr1 _ _) (by assumption), kc (fr1 _ _) (by assumption), kfa (by assumption)⟩) | (exact ⟨kcs hf2 (by simp only []; omega) hHeld.1, kcs hf2 (by simp only []; omega) hHeld.2.1, kcs hf2 (by simp only []; omega) hHeld.2.2.1, kcs hf2 (by simp only []; omega) hHeld.2.2.2.1, kcs hf2 (by simp only []; omega) hHeld.2.2.2.2.1, kcs hf2 (by simp only []; omega) hHeld.2.2.2.2.2.1, kcs hf2 (by simp only []; omega) hHeld.2.2.2.2.2.2.1, kcs hf2 (by simp only []; omega) hHeld.2.2.2.2.2.2.2.1, kcs hf2 (by simp only []; omega) hHeld.2.2.2.2.2.2.2.2.1, kcs hf2 (by simp only []; omega) hHeld.2.2.2.2.2.2.2.2.2.1, kst hf2 hHeld.2.2.2.2.2.2.2.2.2.2⟩) | (exact hHeld))
          clear hK K
          try simp only [Act.put, List.getElem_toArray, List.getElem_cons_succ, List.getElem_cons_zero, List.setIfInBounds_toArray, List.set_cons_zero, List.set_cons_succ]
          refine wpAnyH_ready (rs := [6]) (by kernel_rfl) (by simp) (AllReadyH.cons rfl (fun K hK => ?_) AllReadyH.nil)
          go_simp
          go_at_call 38
          refine (HAF.out _ HID.out).mono ?_
          rintro e W1 ⟨A5, l5, c5, rfl, hin, hnew, f⟩
          have FW := kfS f hHeld.2.2.2.2.2.2.2.2.2.2
          have HNE := hid (show ∀ g o, A5 = some ⟨g, o, none⟩ → g ≠ M from fun g o h => Nat.ne_of_gt (Nat.lt_of_lt_of_le HML.out (Nat.le_trans FD.out.size (hnew g o h))))
          have HIN := hid hin
          have FA := hid (FD.out.trans f)
          have PM := hid (PM.out.fr f)
          clear hin hnew
          dsimp only
          refine hK.out _ _ ?_ (fun hHeld => ?_)
          · (try dsimp only); (first | (go_split_ands; exact ⟨kc f (by assumption), kc f (by assumption), kc f (by assumption), kc f (by assumption), kc f (by assumption), kc f (by assumption), kc f (by assumption), kc f (by assumption), kc f (by assumption), kc f (by assumption), by assumption⟩) | (go_split_ands; exact ⟨(by assumption), (by assumption), (by assumption), (by assumption), (by assumption), (by assumption), (by assumption), (by assumption), (by assumption), (by assumption), by assumption⟩) | (go_split_ands; exact ⟨kc (fr1 _ _) (by assumption), kc (fr1 _ _) (by assumption), kc (fr1 _ _) (by assumption), kc (fr1 _ _) (by assumption), kc (fr1 _ _) (by assumption), kc (fr1 _ _) (by assumption), kc (fr1 _ _) (by assumption), kc (fr1 _ _) (by assumption), kc (fr1 _ _) (by assumption), kc (fr1 _ _) (by assumption), kfa (by assumption)⟩) | (exact ⟨kcs hf2 (by simp only []; omega) hHeld.1, kcs hf2 (by simp only []; omega) hHeld.2.1, kcs hf2 (by simp only []; omega) hHeld.2.2.1, kcs hf2 (by simp only []; omega) hHeld.2.2.2.1, kcs hf2 (by simp only []; omega) hHeld.2.2.2.2.1, kcs hf2 (by simp only []; omega) hHeld.2.2.2.2.2.1, kcs hf2 (by simp only []; omega) hHeld.2.2.2.2.2.2.1, kcs hf2 (by simp only []; omega) hHeld.2.2.2.2.2.2.2.1, kcs hf2 (by simp only []; omega) hHeld.2.2.2.2.2.2.2.2.1, kcs hf2 (by simp only []; omega) hHeld.2.2.2.2.2.2.2.2.2.1, kst hf2 hHeld.2.2.2.2.2.2.2.2.2.2⟩) | (exact hHeld))
          clear hK K
          try simp only [Act.put, List.getElem_toArray, List.getElem_cons_succ, List.getElem_cons_zero, List.setIfInBounds_toArray, List.set_cons_zero, List.set_cons_succ]
          refine wpAnyH_take (i := 7) (v := ?v22) rfl (by kernel_rfl) (by kernel_rfl) (by kernel_rfl) (fun _ _ _ h => h) (Or.inl ⟨by kernel_rfl, ?y22⟩) (by assumption) ?_
          case y22 => (intro w hSw; (try dsimp only at hSw); go_simp; all_goals with_reducible rfl)
          try simp only [Act.put, List.getElem_toArray, List.getElem_cons_succ, List.getElem_cons_zero, List.setIfInBounds_toArray, List.set_cons_zero, List.set_cons_succ]
          refine wpAnyH_take (i := 8) (v := ?v23) rfl (by kernel_rfl) (by kernel_rfl) (by kernel_rfl) (fun _ _ _ h => h) (Or.inl ⟨by kernel_rfl, ?y23⟩) (by assumption) ?_
          case y23 => (intro w hSw; (try dsimp only at hSw); go_simp; all_goals with_reducible rfl)
          try simp only [Act.put, List.getElem_toArray, List.getElem_cons_succ, List.getElem_cons_zero, List.setIfInBounds_toArray, List.set_cons_zero, List.set_cons_succ]
          refine wpAnyH_take (i := 9) (v := ?v24) rfl (by kernel_rfl) (by kernel_rfl) (by kernel_rfl) (fun _ _ _ h => h) (Or.inl ⟨by kernel_rfl, ?y24⟩) (by assumption) ?_
          case y24 => (intro w hSw; (try dsimp only at hSw); go_simp; all_goals with_reducible rfl)
          try simp only [Act.put, List.getElem_toArray, List.getElem_cons_succ, List.getElem_cons_zero, List.setIfInBounds_toArray, List.set_cons_zero, List.set_cons_succ]
          refine wpAnyH_ready (rs := [10]) (by kernel_rfl) (by simp) (AllReadyH.cons rfl (fun K hK => ?_) AllReadyH.nil)
          refine stJ_step rfl (.tmp 13) (.tmp 149) rfl _ rfl (st' := us) (z' := uz) (A' := A5) (l' := l5) (c' := c5) (sp' := up) (nx' := un) rfl PM.out ?_
          intro W2 hb2 hf2
          refine hK.out _ _ ?_ (fun hHeld => ?_)
          · (try dsimp only); (first | (go_split_ands; exact ⟨kc f (by assumption), kc f (by assumption), kc f (by assumption), kc f (by assumption), kc f (by assumption), kc f (by assumption), kc f (by assumption), kc f (by assumption), kc f (by assumption), kc f (by assumption), by assumption⟩) | (go_split_ands; exact ⟨(by assumption), (by assumption), (by assumption), (by assumption), (by assumption), (by assumption), (by assumption), (by assumption), (by assumption), (by assumption), by assumption⟩) | (go_split_ands; exact ⟨kc (fr1 _ _) (by assumption), kc (fr1 _ _) (by assumption), kc (fr1 _ _) (by assumption), kc (fr1 _ _) (by assumption), kc (fr1 _ _) (by assumption), kc (fr1 _ _) (by assumption), kc (fr1 _ _) (by assumption), kc (fr1 _ _) (by assumption), kc (fr1 _ _) (by assumption), kc (fr1 _ _) (by assumption), kfa (by assumption)⟩) | (exact ⟨kcs hf2 (by simp only []; omega) hHeld.1, kcs hf2 (by simp only []; omega) hHeld.2.1, kcs hf2 (by simp only []; omega) hHeld.2.2.1, kcs hf2 (by simp only []; omega) hHeld.2.2.2.1, kcs hf2 (by simp only []; omega) hHeld.2.2.2.2.1, kcs hf2 (by simp only []; omega) hHeld.2.2.2.2.2.1, kcs hf2 (by simp only []; omega) hHeld.2.2.2.2.2.2.1, kcs hf2 (by simp only []; omega) hHeld.2.2.2.2.2.2.2.1, kcs hf2 (by simp only []; omega) hHeld.2.2.2.2.2.2.2.2.1, kcs hf2 (by simp only []; omega) hHeld.2.2.2.2.2.2.2.2.2.1, kst hf2 hHeld.2.2.2.2.2.2.2.2.2.2⟩) | (exact hHeld))
          clear hK K
          try simp only [Act.put, List.getElem_toArray, List.getElem_cons_succ, List.getElem_cons_zero]
          have P11 := hid (show BL W2 b11 ya yr yq yb yd yt yx yu from Blk.fr (Blk.fr P11.out FA.out (fun h => h)) hf2 hnb); have P0 := hid (show BG W2 w.heap.size gc gs gn gl gk from Blk.fr (Blk.fr P0.out FA.out (fun h => h)) hf2 hng); have HF := kfg hsz (hid (HF.out.trans FA.out)) hf2; have HIN := hid (InI.far HIN.out hf2 HNE.out); have PN := hid hb2; clear hf2 hb2
          refine wpAnyH_take (i := 11) (v := ?v25) rfl (by kernel_rfl) (by kernel_rfl) (by kernel_rfl) (fun _ _ _ h => h) (Or.inl ⟨by kernel_rfl, ?y25⟩) (by assumption) ?_
          case y25 => (intro w hSw; (try dsimp only at hSw); go_simp; all_goals with_reducible rfl)
          try simp only [Act.put, List.getElem_toArray, List.getElem_cons_succ, List.getElem_cons_zero, List.setIfInBounds_toArray, List.set_cons_zero, List.set_cons_succ]
          refine wpAnyH_done (by kernel_rfl) ?_ _
          refine NoPanic.normal ?_
          clear g0 g1 g2 g3 g4 t0 t1 t2 t3 t4
          obtain ⟨g0, g1, g2, g3, g4⟩ := P0.out.cells
          obtain ⟨c0, c1, c2, c3, c4⟩ := PN.out.cells
          go_wp2_with fail
          refine (HLE.out _ _ _ _ HIN.out).mono ?_
          rintro r W3 ⟨rfl, f3⟩
          have PN := hid (PN.out.fr f3)
          have HIN := hid (HIN.out.fr f3)
          have P11 := hid (show BL W3 b11 ya yr yq yb yd yt yx yu from Blk.fr P11.out f3 (fun h => h))
          have P0 := hid (show BG W3 w.heap.size gc gs gn gl gk from Blk.fr P0.out f3 (fun h => h))
          have HF := hid (HF.out.trans f3)
          clear f3 g0 g1 g2 g3 g4 c0 c1 c2 c3 c4
          go_wp2_with fail
          go_roundw
          case rel => exact ⟨n' - 1, cp + q5, us, uz, A5, l5, c5, up, un, ub, rfl, rfl, PN.out, HIN.out, HJN.out, P11.out, P0.out, HF.out⟩
          case measure => simp [intOf]; omega
        · go_simp
          go_at_call 43
          refine (done_ok k1 q2 q3 q4 q5 spare _).mono ?_
          rintro e W1 ⟨rfl, f⟩
          have FW := kfS f hHeld.2.2.2.2.2.2.2.2.2.2
          have HID := hid (HID.out.fr f)
          have FD := hid (FD.out.trans f)
          have PM := hid (PM.out.fr f)
          dsimp only
          refine hK.out _ _ ?_ (fun hHeld => ?_)
          · (try dsimp only); (first | (go_split_ands; exact ⟨kc f (by assumption), kc f (by assumption), kc f (by assumption), kc f (by assumption), kc f (by assumption), kc f (by assumption), kc f (by assumption), kc f (by assumption), kc f (by assumption), kc f (by assumption), by assumption⟩) | (go_split_ands; exact ⟨(by assumption), (by assumption), (by assumption), (by assumption), (by assumption), (by assumption), (by assumption), (by assumption), (by assumption), (by assumption), by assumption⟩) | (go_split_ands; exact ⟨kc (fr1 _ _) (by assumption), kc (fr1 _ _) (by assumption), kc (fr1 _ _) (by assumption), kc (fr1 _ _) (by assumption), kc (fr1 _ _) (by assumption), kc (fr1 _ _) (by assumption), kc (fr1 _ _) (by assumption), kc (fr1 _ _) (by assumption), kc (fr1 _ _) (by assumption), kc (fr1 _ _) (by assumption), kfa (by assumption)⟩) | (exact ⟨kcs hf2 (by simp only []; omega) hHeld.1, kcs hf2 (by simp only []; omega) hHeld.2.1, kcs hf2 (by simp only []; omega) hHeld.2.2.1, kcs hf2 (by simp only []; omega) hHeld.2.2.2.1, kcs hf2 (by simp only []; omega) hHeld.2.2.2.2.1, kcs hf2 (by simp only []; omega) hHeld.2.2.2.2.2.1, kcs hf2 (by simp only []; omega) hHeld.2.2.2.2.2.2.1, kcs hf2 (by simp only []; omega) hHeld.2.2.2.2.2.2.2.1, kcs hf2 (by simp only []; omega) hHeld.2.2.2.2.2.2.2.2.1, kcs hf2 (by simp only []; omega) hHeld.2.2.2.2.2.2.2.2.2.1, kst hf2 hHeld.2.2.2.2.2.2.2.2.2.2⟩) | (exact hHeld))
          clear hK K
          try simp only [Act.put, List.getElem_toArray, List.getElem_cons_succ, List.getElem_cons_zero, List.setIfInBounds_toArray, List.set_cons_zero, List.set_cons_succ]
          refine wpAnyH_ready (rs := [2]) (by kernel_rfl) (by simp) (AllReadyH.cons rfl (fun K hK => ?_) AllReadyH.nil)
          refine ldJ_step rfl (.tmp 13) rfl M rfl PM.out ?_
          refine hK.out _ _ ?_ (fun hHeld => ?_)
          · (try dsimp only); (first | (go_split_ands; exact ⟨kc f (by assumption), kc f (by assumption), kc f (by assumption), kc f (by assumption), kc f (by assumption), kc f (by assumption), kc f (by assumption), kc f (by assumption), kc f (by assumption), kc f (by assumption), by assumption⟩) | (go_split_ands; exact ⟨(by assumption), (by assumption), (by assumption), (by assumption), (by assumption), (by assumption), (by assumption), (by assumption), (by assumption), (by assumption), by assumption⟩) | (go_split_ands; exact ⟨kc (fr1 _ _) (by assumption), kc (fr1 _ _) (by assumption), kc (fr1 _ _) (by assumption), kc (fr1 _ _) (by assumption), kc (fr1 _ _) (by assumption), kc (fr1 _ _) (by assumption), kc (fr1 _ _) (by assumption), kc (fr1 _ _) (by assumption), kc (fr1 _ _) (by assumption), kc (fr1 _ _) (by assumption), kfa (by assumption)⟩) | (exact ⟨kcs hf2 (by simp only []; omega) hHeld.1, kcs hf2 (by simp only []; omega) hHeld.2.1, kcs hf2 (by simp only []; omega) hHeld.2.2.1, kcs hf2 (by simp only []; omega) hHeld.2.2.2.1, kcs hf2 (by simp only []; omega) hHeld.2.2.2.2.1, kcs hf2 (by simp only []; omega) hHeld.2.2.2.2.2.1, kcs hf2 (by simp only []; omega) hHeld.2.2.2.2.2.2.1, kcs hf2 (by simp only []; omega) hHeld.2.2.2.2.2.2.2.1, kcs hf2 (by simp only []; omega) hHeld.2.2.2.2.2.2.2.2.1, kcs hf2 (by simp only []; omega) hHeld.2.2.2.2.2.2.2.2.2.1, kst hf2 hHeld.2.2.2.2.2.2.2.2.2.2⟩) | (exact hHeld))
          clear hK K
          try simp only [Act.put, List.getElem_toArray, List.getElem_cons_succ, List.getElem_cons_zero, List.setIfInBounds_toArray, List.set_cons_zero, List.set_cons_succ]
          refine wpAnyH_ready (rs := [6]) (by kernel_rfl) (by simp) (AllReadyH.cons rfl (fun K hK => ?_) AllReadyH.nil)
          go_simp
          go_at_call 38
          refine (HAF.out _ HID.out).mono ?_
          rintro e W1 ⟨A5, l5, c5, rfl, hin, hnew, f⟩
          have FW := kfS f hHeld.2.2.2.2.2.2.2.2.2.2
          have HNE := hid (show ∀ g o, A5 = some ⟨g, o, none⟩ → g ≠ M from fun g o h => Nat.ne_of_gt (Nat.lt_of_lt_of_le HML.out (Nat.le_trans FD.out.size (hnew g o h))))
          have HIN := hid hin
          have FA := hid (FD.out.trans f)
          have PM := hid (PM.out.fr f)
          clear hin hnew
          dsimp only
          refine hK.out _ _ ?_ (fun hHeld => ?_)
          · (try dsimp only); (first | (go_split_ands; exact ⟨kc f (by assumption), kc f (by assumption), kc f (by assumption), kc f (by assumption), kc f (by assumption), kc f (by assumption), kc f (by assumption), kc f (by assumption), kc f (by assumption), kc f (by assumption), by assumption⟩) | (go_split_ands; exact ⟨(by assumption), (by assumption), (by assumption), (by assumption), (by assumption), (by assumption), (by assumption), (by assumption), (by assumption), (by assumption), by assumption⟩) | (go_split_ands; exact ⟨kc (fr1 _ _) (by assumption), kc (fr1 _ _) (by assumption), kc (fr1 _ _) (by assumption), kc (fr1 _ _) (by assumption), kc (fr1 _ _) (by assumption), kc (fr1 _ _) (by assumption), kc (fr1 _ _) (by assumption), kc (fr1 _ _) (by assumption), kc (fr1 _ _) (by assumption), kc (fr1 _ _) (by assumption), kfa (by assumption)⟩) | (exact ⟨kcs hf2 (by simp only []; omega) hHeld.1, kcs hf2 (by simp only []; omega) hHeld.2.1, kcs hf2 (by simp only []; omega) hHeld.2.2.1, kcs hf2 (by simp only []; omega) hHeld.2.2.2.1, kcs hf2 (by simp only []; omega) hHeld.2.2.2.2.1, kcs hf2 (by simp only []; omega) hHeld.2.2.2.2.2.1, kcs hf2 (by simp only []; omega) hHeld.2.2.2.2.2.2.1, kcs hf2 (by simp only []; omega) hHeld.2.2.2.2.2.2.2.1, kcs hf2 (by simp only []; omega) hHeld.2.2.2.2.2.2.2.2.1, kcs hf2 (by simp only []; omega) hHeld.2.2.2.2.2.2.2.2.2.1, kst hf2 hHeld.2.2.2.2.2.2.2.2.2.2⟩) | (exact hHeld))
          clear hK K
          try simp only [Act.put, List.getElem_toArray, List.getElem_cons_succ, List.getElem_cons_zero, List.setIfInBounds_toArray, List.set_cons_zero, List.set_cons_succ]
          refine wpAnyH_take (i := 7) (v := ?v26) rfl (by kernel_rfl) (by kernel_rfl) (by kernel_rfl) (fun _ _ _ h => h) (Or.inl ⟨by kernel_rfl, ?y26⟩) (by assumption) ?_
          case y26 => (intro w hSw; (try dsimp only at hSw); go_simp; all_goals with_reducible rfl)
          try simp only [Act.put, List.getElem_toArray, List.getElem_cons_succ, List.getElem_cons_zero, List.setIfInBounds_toArray, List.set_cons_zero, List.set_cons_succ]
          refine wpAnyH_take (i := 8) (v := ?v27) rfl (by kernel_rfl) (by kernel_rfl) (by kernel_rfl) (fun _ _ _ h => h) (Or.inl ⟨by kernel_rfl, ?y27⟩) (by assumption) ?_
          case y27 => (intro w hSw; (try dsimp only at hSw); go_simp; all_goals with_reducible rfl)
          try simp only [Act.put, List.getElem_toArray, List.getElem_cons_succ, List.getElem_cons_zero, List.setIfInBounds_toArray, List.set_cons_zero, List.set_cons_succ]
          refine wpAnyH_take (i := 9) (v := ?v28) rfl (by kernel_rfl) (by kernel_rfl) (by kernel_rfl) (fun _ _ _ h => h) (Or.inl ⟨by kernel_rfl, ?y28⟩) (by assumption) ?_
          case y28 => (intro w hSw; (try dsimp only at hSw); go_simp; all_goals with_reducible rfl)
          try simp only [Act.put, List.getElem_toArray, List.getElem_cons_succ, List.getElem_cons_zero, List.setIfInBounds_toArray, List.set_cons_zero, List.set_cons_succ]
          refine wpAnyH_ready (rs := [10]) (by kernel_rfl) (by simp) (AllReadyH.cons rfl (fun K hK => ?_) AllReadyH.nil)
          refine stJ_step rfl (.tmp 13) (.tmp 149) rfl _ rfl (st' := us) (z' := uz) (A' := A5) (l' := l5) (c' := c5) (sp' := up) (nx' := un) rfl PM.out ?_
          intro W2 hb2 hf2
          refine hK.out _ _ ?_ (fun hHeld => ?_)
          · (try dsimp only); (first | (go_split_ands; exact ⟨kc f (by assumption), kc f (by assumption), kc f (by assumption), kc f (by assumption), kc f (by assumption), kc f (by assumption), kc f (by assumption), kc f (by assumption), kc f (by assumption), kc f (by assumption), by assumption⟩) | (go_split_ands; exact ⟨(by assumption), (by assumption), (by assumption), (by assumption), (by assumption), (by assumption), (by assumption), (by assumption), (by assumption), (by assumption), by assumption⟩) | (go_split_ands; exact ⟨kc (fr1 _ _) (by assumption), kc (fr1 _ _) (by assumption), kc (fr1 _ _) (by assumption), kc (fr1 _ _) (by assumption), kc (fr1 _ _) (by assumption), kc (fr1 _ _) (by assumption), kc (fr1 _ _) (by assumption), kc (fr1 _ _) (by assumption), kc (fr1 _ _) (by assumption), kc (fr1 _ _) (by assumption), kfa (by assumption)⟩) | (exact ⟨kcs hf2 (by simp only []; omega) hHeld.1, kcs hf2 (by simp only []; omega) hHeld.2.1, kcs hf2 (by simp only []; omega) hHeld.2.2.1, kcs hf2 (by simp only []; omega) hHeld.2.2.2.1, kcs hf2 (by simp only []; omega) hHeld.2.2.2.2.1, kcs hf2 (by simp only []; omega) hHeld.2.2.2.2.2.1, kcs hf2 (by simp only []; omega) hHeld.2.2.2.2.2.2.1, kcs hf2 (by simp only []; omega) hHeld.2.2.2.2.2.2.2.1, kcs hf2 (by simp only []; omega) hHeld.2.2.2.2.2.2.2.2.1, kcs hf2 (by simp only []; omega) hHeld.2.2.2.2.2.2.2.2.2.1, kst hf2 hHeld.2.2.2.2.2.2.2.2.2.2⟩) | (exact hHeld))
          clear hK K
          try simp only [Act.put, List.getElem_toArray, List.getElem_cons_succ, List.getElem_cons_zero]
          have P11 := hid (show BL W2 b11 ya yr yq yb yd yt yx yu from Blk.fr (Blk.fr P11.out FA.out (fun h => h)) hf2 hnb); have P0 := hid (show BG W2 w.heap.size gc gs gn gl gk from Blk.fr (Blk.fr P0.out FA.out (fun h => h)) hf2 hng); have HF := kfg hsz (hid (HF.out.trans FA.out)) hf2; have HIN := hid (InI.far HIN.out hf2 HNE.out); have PN := hid hb2; clear hf2 hb2
          refine wpAnyH_take (i := 11) (v := ?v29) rfl (by kernel_rfl) (by kernel_rfl) (by kernel_rfl) (fun _ _ _ h => h) (Or.inl ⟨by kernel_rfl, ?y29⟩) (by assumption) ?_
          case y29 => (intro w hSw; (try dsimp only at hSw); go_simp; all_goals with_reducible rfl)
          try simp only [Act.put, List.getElem_toArray, List.getElem_cons_succ, List.getElem_cons_zero, List.setIfInBounds_toArray, List.set_cons_zero, List.set_cons_succ]
          refine wpAnyH_done (by kernel_rfl) ?_ _
          refine NoPanic.normal ?_
          clear g0 g1 g2 g3 g4 t0 t1 t2 t3 t4
          obtain ⟨g0, g1, g2, g3, g4⟩ := P0.out.cells
          obtain ⟨c0, c1, c2, c3, c4⟩ := PN.out.cells
          go_wp2_with fail
          refine (HLE.out _ _ _ _ HIN.out).mono ?_
          rintro r W3 ⟨rfl, f3⟩
          have PN := hid (PN.out.fr f3)
          have HIN := hid (HIN.out.fr f3)
          have P11 := hid (show BL W3 b11 ya yr yq yb yd yt yx yu from Blk.fr P11.out f3 (fun h => h))
          have P0 := hid (show BG W3 w.heap.size gc gs gn gl gk from Blk.fr P0.out f3 (fun h => h))
          have HF := hid (HF.out.trans f3)
          clear f3 g0 g1 g2 g3 g4 c0 c1 c2 c3 c4
          go_wp2_with fail
          go_roundw
          case rel => exact ⟨n' - 1, cp + q5, us, uz, A5, l5, c5, up, un, ub, rfl, rfl, PN.out, HIN.out, HJN.out, P11.out, P0.out, HF.out⟩
          case measure => simp [intOf]; omega
      · have hkc : (k1 == 3) = false := by simp; exact hk3
        have hce : cop (k1, q2, q3, q4, q5) = 0 := if_neg hk3
        rw [hce, Int.add_zero] at HJN
        clear hce hk3
        go_upto_region 17 with fail
        try rw [hb]
        clear hb
        obtain ⟨wy, hwy⟩ : ∃ x, World.alloc u1 (oT k1 q2 q3 q4 q5) = x := ⟨_, rfl⟩
        rw [hwy] at HF P0 P11 P13 P17 HI
        try rw [hwy]
        clear hwy
        have hsm := HSM.out
        obtain ⟨hsm1, hsm2⟩ := hsm
        have hng : w.heap.size ≠ M := by omega
        have hnb : b11 ≠ M := by omega
        have hsz : w.heap.size ≤ M := by omega
        have HML := hid ((P13.out : Blk _ _ _ _).lt)
        obtain ⟨g0, g1, g2, g3, g4⟩ := P0.out.cells
        obtain ⟨t0, t1, t2, t3, t4⟩ := P17.out.cells
        have FD := hid (show Fr No wy (World.drew wy) from Fr.drew (Fr.refl No wy))
        have HID := hid (HI.out.fr FD.out)
        have PM := hid (P13.out.fr FD.out)
        have FW := hid (Fr.refl (fun q => q = M) wy)
        have FW := kdS FW
        refine wp_region_noPanic ?_
        refine wp_region_held_drew (S := (fun W' => W'.cell? ⟨w.heap.size, 0, none⟩ = some (.int .i64 gc) ∧ W'.cell? ⟨w.heap.size, 1, none⟩ = some (.int .i64 gs) ∧ W'.cell? ⟨w.heap.size, 2, none⟩ = some (.int .i64 gn) ∧ W'.cell? ⟨w.heap.size, 3, none⟩ = some (.int .i64 gl) ∧ W'.cell? ⟨w.heap.size, 4, none⟩ = some (.int .i64 gk) ∧ W'.cell? ⟨b17, 0, none⟩ = some (.int .i64 k1) ∧ W'.cell? ⟨b17, 1, none⟩ = some (.int .i64 q2) ∧ W'.cell? ⟨b17, 2, none⟩ = some (.int .i64 q3) ∧ W'.cell? ⟨b17, 3, none⟩ = some (.int .i64 q4) ∧ W'.cell? ⟨b17, 4, none⟩ = some (.int .i64 q5) ∧ Hid (Fr (fun q => q = M) wy W'))) (by kernel_rfl) ?_ (fun hHeld => ?_)
        · (try dsimp only); (first | (go_split_ands; exact ⟨kc f (by assumption), kc f (by assumption), kc f (by assumption), kc f (by assumption), kc f (by assumption), kc f (by assumption), kc f (by assumption), kc f (by assumption), kc f (by assumption), kc f (by assumption), by assumption⟩) | (go_split_ands; exact ⟨(by assumption), (by assumption), (by assumption), (by assumption), (by assumption), (by assumption), (by assumption), (by assumption), (by assumption), (by assumption), by assumption⟩) | (go_split_ands; exact ⟨kc (fr1 _ _) (by assumption), kc (fr1 _ _) (by assumption), kc (fr1 _ _) (by assumption), kc (fr1 _ _) (by assumption), kc (fr1 _ _) (by assumption), kc (fr1 _ _) (by assumption), kc (fr1 _ _) (by assumption), kc (fr1 _ _) (by assumption), kc (fr1 _ _) (by assumption), kc (fr1 _ _) (by assumption), kfa (by assumption)⟩) | (exact ⟨kcs hf2 (by simp only []; omega) hHeld.1, kcs hf2 (by simp only []; omega) hHeld.2.1, kcs hf2 (by simp only []; omega) hHeld.2.2.1, kcs hf2 (by simp only []; omega) hHeld.2.2.2.1, kcs hf2 (by simp only []; omega) hHeld.2.2.2.2.1, kcs hf2 (by simp only []; omega) hHeld.2.2.2.2.2.1, kcs hf2 (by simp only []; omega) hHeld.2.2.2.2.2.2.1, kcs hf2 (by simp only []; omega) hHeld.2.2.2.2.2.2.2.1, kcs hf2 (by simp only []; omega) hHeld.2.2.2.2.2.2.2.2.1, kcs hf2 (by simp only []; omega) hHeld.2.2.2.2.2.2.2.2.2.1, kst hf2 hHeld.2.2.2.2.2.2.2.2.2.2⟩) | (exact hHeld))
        refine wpAnyH_take (i := 0) (v := ?v30) rfl (by kernel_rfl) (by kernel_rfl) (by kernel_rfl) (fun _ _ _ h => h) (Or.inl ⟨by kernel_rfl, ?y30⟩) (by assumption) ?_
        case y30 => (intro w hSw; (try dsimp only at hSw); go_simp; all_goals with_reducible rfl)
        try simp only [Act.put, List.getElem_toArray, List.getElem_cons_zero, List.setIfInBounds_toArray, List.set_cons_zero, List.set_cons_succ]
        refine wpAnyH_take (i := 1) (v := ?v31) rfl (by kernel_rfl) (by kernel_rfl) (by kernel_rfl) (fun _ _ _ h => h) (Or.inl ⟨by kernel_rfl, ?y31⟩) (by assumption) ?_
        case y31 => (intro w hSw; (try dsimp only at hSw); go_simp; all_goals with_reducible rfl)
        try simp only [Act.put, List.getElem_toArray, List.getElem_cons_succ, List.getElem_cons_zero, List.setIfInBounds_toArray, List.set_cons_zero, List.set_cons_succ]
        refine wpAnyH_take (i := 3) (v := ?v32) rfl (by kernel_rfl) (by kernel_rfl) (by kernel_rfl) (fun _ _ _ h => h) (Or.inl ⟨by kernel_rfl, ?y32⟩) (by assumption) ?_
        case y32 => (intro w hSw; (try dsimp only at hSw); go_simp; all_goals with_reducible rfl)
        try simp only [Act.put, List.getElem_toArray, List.getElem_cons_succ, List.getElem_cons_zero, List.setIfInBounds_toArray, List.set_cons_zero, List.set_cons_succ]
        refine wpAnyH_take (i := 4) (v := ?v33) rfl (by kernel_rfl) (by kernel_rfl) (by kernel_rfl) (fun _ _ _ h => h) (Or.inl ⟨by kernel_rfl, ?y33⟩) (by assumption) ?_
        case y33 => (intro w hSw; (try dsimp only at hSw); go_simp; all_goals with_reducible rfl)
        try simp only [Act.put, List.getElem_toArray, List.getElem_cons_succ, List.getElem_cons_zero, List.setIfInBounds_toArray, List.set_cons_zero, List.set_cons_succ]
        refine wpAnyH_ready (rs := [2, 5]) (by kernel_rfl) (by simp) (AllReadyH.cons rfl (fun K hK => ?_) (AllReadyH.cons rfl (fun K hK => ?_) AllReadyH.nil))
        · refine ldJ_step rfl (.tmp 13) rfl M rfl PM.out ?_
          refine hK.out _ _ ?_ (fun hHeld => ?_)
          · (try dsimp only); (first | (go_split_ands; exact ⟨kc f (by assumption), kc f (by assumption), kc f (by assumption), kc f (by assumption), kc f (by assumption), kc f (by assumption), kc f (by assumption), kc f (by assumption), kc f (by assumption), kc f (by assumption), by assumption⟩) | (go_split_ands; exact ⟨(by assumption), (by assumption), (by assumption), (by assumption), (by assumption), (by assumption), (by assumption), (by assumption), (by assumption), (by assumption), by assumption⟩) | (go_split_ands; exact ⟨kc (fr1 _ _) (by assumption), kc (fr1 _ _) (by assumption), kc (fr1 _ _) (by assumption), kc (fr1 _ _) (by assumption), kc (fr1 _ _) (by assumption), kc (fr1 _ _) (by assumption), kc (fr1 _ _) (by assumption), kc (fr1 _ _) (by assumption), kc (fr1 _ _) (by assumption), kc (fr1 _ _) (by assumption), kfa (by assumption)⟩) | (exact ⟨kcs hf2 (by simp only []; omega) hHeld.1, kcs hf2 (by simp only []; omega) hHeld.2.1, kcs hf2 (by simp only []; omega) hHeld.2.2.1, kcs hf2 (by simp only []; omega) hHeld.2.2.2.1, kcs hf2 (by simp only []; omega) hHeld.2.2.2.2.1, kcs hf2 (by simp only []; omega) hHeld.2.2.2.2.2.1, kcs hf2 (by simp only []; omega) hHeld.2.2.2.2.2.2.1, kcs hf2 (by simp only []; omega) hHeld.2.2.2.2.2.2.2.1, kcs hf2 (by simp only []; omega) hHeld.2.2.2.2.2.2.2.2.1, kcs hf2 (by simp only []; omega) hHeld.2.2.2.2.2.2.2.2.2.1, kst hf2 hHeld.2.2.2.2.2.2.2.2.2.2⟩) | (exact hHeld))
          clear hK K
          try simp only [Act.put, List.getElem_toArray, List.getElem_cons_succ, List.getElem_cons_zero, List.setIfInBounds_toArray, List.set_cons_zero, List.set_cons_succ]
          refine wpAnyH_ready (rs := [5]) (by kernel_rfl) (by simp) (AllReadyH.cons rfl (fun K hK => ?_) AllReadyH.nil)
          go_simp
          go_at_call 43
          refine (done_ok k1 q2 q3 q4 q5 spare _).mono ?_
          rintro e W1 ⟨rfl, f⟩
          have FW := kfS f hHeld.2.2.2.2.2.2.2.2.2.2
          have HID := hid (HID.out.fr f)
          have FD := hid (FD.out.trans f)
          have PM := hid (PM.out.fr f)
          dsimp only
          refine hK.out _ _ ?_ (fun hHeld => ?_)
          · (try dsimp only); (first | (go_split_ands; exact ⟨kc f (by assumption), kc f (by assumption), kc f (by assumption), kc f (by assumption), kc f (by assumption), kc f (by assumption), kc f (by assumption), kc f (by assumption), kc f (by assumption), kc f (by assumption), by assumption⟩) | (go_split_ands; exact ⟨(by assumption), (by assumption), (by assumption), (by assumption), (by assumption), (by assumption), (by assumption), (by assumption), (by assumption), (by assumption), by assumption⟩) | (go_split_ands; exact ⟨kc (fr1 _ _) (by assumption), kc (fr1 _ _) (by assumption), kc (fr1 _ _) (by assumption), kc (fr1 _ _) (by assumption), kc (fr1 _ _) (by assumption), kc (fr1 _ _) (by assumption), kc (fr1 _ _) (by assumption), kc (fr1 _ _) (by assumption), kc (fr1 _ _) (by assumption), kc (fr1 _ _) (by assumption), kfa (by assumption)⟩) | (exact ⟨kcs hf2 (by simp only []; omega) hHeld.1, kcs hf2 (by simp only []; omega) hHeld.2.1, kcs hf2 (by simp only []; omega) hHeld.2.2.1, kcs hf2 (by simp only []; omega) hHeld.2.2.2.1, kcs hf2 (by simp only []; omega) hHeld.2.2.2.2.1, kcs hf2 (by simp only []; omega) hHeld.2.2.2.2.2.1, kcs hf2 (by simp only []; omega) hHeld.2.2.2.2.2.2.1, kcs hf2 (by simp only []; omega) hHeld.2.2.2.2.2.2.2.1, kcs hf2 (by simp only []; omega) hHeld.2.2.2.2.2.2.2.2.1, kcs hf2 (by simp only []; omega) hHeld.2.2.2.2.2.2.2.2.2.1, kst hf2 hHeld.2.2.2.2.2.2.2.2.2.2⟩) | (exact hHeld))
          clear hK K
          try simp only [Act.put, List.getElem_toArray, List.getElem_cons_succ, List.getElem_cons_zero, List.setIfInBounds_toArray, List.set_cons_zero, List.set_cons_succ]
          refine wpAnyH_ready (rs := [6]) (by kernel_rfl) (by simp) (AllReadyH.cons rfl (fun K hK => ?_) AllReadyH.nil)
          go_simp
          go_at_call 38
          refine (HAF.out _ HID.out).mono ?_
          rintro e W1 ⟨A5, l5, c5, rfl, hin, hnew, f⟩
          have FW := kfS f hHeld.2.2.2.2.2.2.2.2.2.2
          have HNE := hid (show ∀ g o, A5 = some ⟨g, o, none⟩ → g ≠ M from fun g o h => Nat.ne_of_gt (Nat.lt_of_lt_of_le HML.out (Nat.le_trans FD.out.size (hnew g o h))))
          have HIN := hid hin
          have FA := hid (FD.out.trans f)
          have PM := hid (PM.out.fr f)
          clear hin hnew
          dsimp only
          refine hK.out _ _ ?_ (fun hHeld => ?_)
          · (try dsimp only); (first | (go_split_ands; exact ⟨kc f (by assumption), kc f (by assumption), kc f (by assumption), kc f (by assumption), kc f (by assumption), kc f (by assumption), kc f (by assumption), kc f (by assumption), kc f (by assumption), kc f (by assumption), by assumption⟩) | (go_split_ands; exact ⟨(by assumption), (by assumption), (by assumption), (by assumption), (by assumption), (by assumption), (by assumption), (by assumption), (by assumption), (by assumption), by assumption⟩) | (go_split_ands; exact ⟨kc (fr1 _ _) (by assumption), kc (fr1 _ _) (by assumption), kc (fr1 _ _) (by assumption), kc (fr1 _ _) (by assumption), kc (fr1 _ _) (by assumption), kc (fr1 _ _) (by assumption), kc (fr1 _ _) (by assumption), kc (fr1 _ _) (by assumption), kc (fr1 _ _) (by assumption), kc (fr1 _ _) (by assumption), kfa (by assumption)⟩) | (exact ⟨kcs hf2 (by simp only []; omega) hHeld.1, kcs hf2 (by simp only []; omega) hHeld.2.1, kcs hf2 (by simp only []; omega) hHeld.2.2.1, kcs hf2 (by simp only []; omega) hHeld.2.2.2.1, kcs hf2 (by simp only []; omega) hHeld.2.2.2.2.1, kcs hf2 (by simp only []; omega) hHeld.2.2.2.2.2.1, kcs hf2 (by simp only []; omega) hHeld.2.2.2.2.2.2.1, kcs hf2 (by simp only []; omega) hHeld.2.2.2.2.2.2.2.1, kcs hf2 (by simp only []; omega) hHeld.2.2.2.2.2.2.2.2.1, kcs hf2 (by simp only []; omega) hHeld.2.2.2.2.2.2.2.2.2.1, kst hf2 hHeld.2.2.2.2.2.2.2.2.2.2⟩) | (exact hHeld))
          clear hK K
          try simp only [Act.put, List.getElem_toArray, List.getElem_cons_succ, List.getElem_cons_zero, List.setIfInBounds_toArray, List.set_cons_zero, List.set_cons_succ]
          refine wpAnyH_take (i := 7) (v := ?v34) rfl (by kernel_rfl) (by kernel_rfl) (by kernel_rfl) (fun _ _ _ h => h) (Or.inl ⟨by kernel_rfl, ?y34⟩) (by assumption) ?_
          case y34 => (intro w hSw; (try dsimp only at hSw); go_simp; all_goals with_reducible rfl)
          try simp only [Act.put, List.getElem_toArray, List.getElem_cons_succ, List.getElem_cons_zero, List.setIfInBounds_toArray, List.set_cons_zero, List.set_cons_succ]
          refine wpAnyH_take (i := 8) (v := ?v35) rfl (by kernel_rfl) (by kernel_rfl) (by kernel_rfl) (fun _ _ _ h => h) (Or.inl ⟨by kernel_rfl, ?y35⟩) (by assumption) ?_
          case y35 => (intro w hSw; (try dsimp only at hSw); go_simp; all_goals with_reducible rfl)
          try simp only [Act.put, List.getElem_toArray, List.getElem_cons_succ, List.getElem_cons_zero, List.setIfInBounds_toArray, List.set_cons_zero, List.set_cons_succ]
          refine wpAnyH_take (i := 9) (v := ?v36) rfl (by kernel_rfl) (by kernel_rfl) (by kernel_rfl) (fun _ _ _ h => h) (Or.inl ⟨by kernel_rfl, ?y36⟩) (by assumption) ?_
          case y36 => (intro w hSw; (try dsimp only at hSw); go_simp; all_goals with_reducible rfl)
          try simp only [Act.put, List.getElem_toArray, List.getElem_cons_succ, List.getElem_cons_zero, List.setIfInBounds_toArray, List.set_cons_zero, List.set_cons_succ]
          refine wpAnyH_ready (rs := [10]) (by kernel_rfl) (by simp) (AllReadyH.cons rfl (fun K hK => ?_) AllReadyH.nil)
          refine stJ_step rfl (.tmp 13) (.tmp 149) rfl _ rfl (st' := us) (z' := uz) (A' := A5) (l' := l5) (c' := c5) (sp' := up) (nx' := un) rfl PM.out ?_
          intro W2 hb2 hf2
          refine hK.out _ _ ?_ (fun hHeld => ?_)
          · (try dsimp only); (first | (go_split_ands; exact ⟨kc f (by assumption), kc f (by assumption), kc f (by assumption), kc f (by assumption), kc f (by assumption), kc f (by assumption), kc f (by assumption), kc f (by assumption), kc f (by assumption), kc f (by assumption), by assumption⟩) | (go_split_ands; exact ⟨(by assumption), (by assumption), (by assumption), (by assumption), (by assumption), (by assumption), (by assumption), (by assumption), (by assumption), (by assumption), by assumption⟩) | (go_split_ands; exact ⟨kc (fr1 _ _) (by assumption), kc (fr1 _ _) (by assumption), kc (fr1 _ _) (by assumption), kc (fr1 _ _) (by assumption), kc (fr1 _ _) (by assumption), kc (fr1 _ _) (by assumption), kc (fr1 _ _) (by assumption), kc (fr1 _ _) (by assumption), kc (fr1 _ _) (by assumption), kc (fr1 _ _) (by assumption), kfa (by assumption)⟩) | (exact ⟨kcs hf2 (by simp only []; omega) hHeld.1, kcs hf2 (by simp only []; omega) hHeld.2.1, kcs hf2 (by simp only []; omega) hHeld.2.2.1, kcs hf2 (by simp only []; omega) hHeld.2.2.2.1, kcs hf2 (by simp only []; omega) hHeld.2.2.2.2.1, kcs hf2 (by simp only []; omega) hHeld.2.2.2.2.2.1, kcs hf2 (by simp only []; omega) hHeld.2.2.2.2.2.2.1, kcs hf2 (by simp only []; omega) hHeld.2.2.2.2.2.2.2.1, kcs hf2 (by simp only []; omega) hHeld.2.2.2.2.2.2.2.2.1, kcs hf2 (by simp only []; omega) hHeld.2.2.2.2.2.2.2.2.2.1, kst hf2 hHeld.2.2.2.2.2.2.2.2.2.2⟩) | (exact hHeld))
          clear hK K
          try simp only [Act.put, List.getElem_toArray, List.getElem_cons_succ, List.getElem_cons_zero]
          have P11 := hid (show BL W2 b11 ya yr yq yb yd yt yx yu from Blk.fr (Blk.fr P11.out FA.out (fun h => h)) hf2 hnb); have P0 := hid (show BG W2 w.heap.size gc gs gn gl gk from Blk.fr (Blk.fr P0.out FA.out (fun h => h)) hf2 hng); have HF := kfg hsz (hid (HF.out.trans FA.out)) hf2; have HIN := hid (InI.far HIN.out hf2 HNE.out); have PN := hid hb2; clear hf2 hb2
          refine wpAnyH_take (i := 11) (v := ?v37) rfl (by kernel_rfl) (by kernel_rfl) (by kernel_rfl) (fun _ _ _ h => h) (Or.inl ⟨by kernel_rfl, ?y37⟩) (by assumption) ?_
          case y37 => (intro w hSw; (try dsimp only at hSw); go_simp; all_goals with_reducible rfl)
          try simp only [Act.put, List.getElem_toArray, List.getElem_cons_succ, List.getElem_cons_zero, List.setIfInBounds_toArray, List.set_cons_zero, List.set_cons_succ]
          refine wpAnyH_done (by kernel_rfl) ?_ _
          refine NoPanic.normal ?_
          clear g0 g1 g2 g3 g4 t0 t1 t2 t3 t4
          obtain ⟨g0, g1, g2, g3, g4⟩ := P0.out.cells
          obtain ⟨c0, c1, c2, c3, c4⟩ := PN.out.cells
          go_wp2_with fail
          refine (HLE.out _ _ _ _ HIN.out).mono ?_
          rintro r W3 ⟨rfl, f3⟩
          have PN := hid (PN.out.fr f3)
          have HIN := hid (HIN.out.fr f3)
          have P11 := hid (show BL W3 b11 ya yr yq yb yd yt yx yu from Blk.fr P11.out f3 (fun h => h))
          have P0 := hid (show BG W3 w.heap.size gc gs gn gl gk from Blk.fr P0.out f3 (fun h => h))
          have HF := hid (HF.out.trans f3)
          clear f3 g0 g1 g2 g3 g4 c0 c1 c2 c3 c4
          go_wp2_with fail
          go_roundw
          case rel => exact ⟨n' - 1, cp, us, uz, A5, l5, c5, up, un, ub, rfl, rfl, PN.out, HIN.out, HJN.out, P11.out, P0.out, HF.out⟩
          case measure => simp [intOf]; omega
        · go_simp
          go_at_call 43
          refine (done_ok k1 q2 q3 q4 q5 spare _).mono ?_
          rintro e W1 ⟨rfl, f⟩
          have FW := kfS f hHeld.2.2.2.2.2.2.2.2.2.2
          have HID := hid (HID.out.fr f)
          have FD := hid (FD.out.trans f)
          have PM := hid (PM.out.fr f)
          dsimp only
          refine hK.out _ _ ?_ (fun hHeld => ?_)
          · (try dsimp only); (first | (go_split_ands; exact ⟨kc f (by assumption), kc f (by assumption), kc f (by assumption), kc f (by assumption), kc f (by assumption), kc f (by assumption), kc f (by assumption), kc f (by assumption), kc f (by assumption), kc f (by assumption), by assumption⟩) | (go_split_ands; exact ⟨(by assumption), (by assumption), (by assumption), (by assumption), (by assumption), (by assumption), (by assumption), (by assumption), (by assumption), (by assumption), by assumption⟩) | (go_split_ands; exact ⟨kc (fr1 _ _) (by assumption), kc (fr1 _ _) (by assumption), kc (fr1 _ _) (by assumption), kc (fr1 _ _) (by assumption), kc (fr1 _ _) (by assumption), kc (fr1 _ _) (by assumption), kc (fr1 _ _) (by assumption), kc (fr1 _ _) (by assumption), kc (fr1 _ _) (by assumption), kc (fr1 _ _) (by assumption), kfa (by assumption)⟩) | (exact ⟨kcs hf2 (by simp only []; omega) hHeld.1, kcs hf2 (by simp only []; omega) hHeld.2.1, kcs hf2 (by simp only []; omega) hHeld.2.2.1, kcs hf2 (by simp only []; omega) hHeld.2.2.2.1, kcs hf2 (by simp only []; omega) hHeld.2.2.2.2.1, kcs hf2 (by simp only []; omega) hHeld.2.2.2.2.2.1, kcs hf2 (by simp only []; omega) hHeld.2.2.2.2.2.2.1, kcs hf2 (by simp only []; omega) hHeld.2.2.2.2.2.2.2.1, kcs hf2 (by simp only []; omega) hHeld.2.2.2.2.2.2.2.2.1, kcs hf2 (by simp only []; omega) hHeld.2.2.2.2.2.2.2.2.2.1, kst hf2 hHeld.2.2.2.2.2.2.2.2.2.2⟩) | (exact hHeld))
          clear hK K
          try simp only [Act.put, List.getElem_toArray, List.getElem_cons_succ, List.getElem_cons_zero, List.setIfInBounds_toArray, List.set_cons_zero, List.set_cons_succ]
          refine wpAnyH_ready (rs := [2]) (by kernel_rfl) (by simp) (AllReadyH.cons rfl (fun K hK => ?_) AllReadyH.nil)
          refine ldJ_step rfl (.tmp 13) rfl M rfl PM.out ?_
          refine hK.out _ _ ?_ (fun hHeld => ?_)
          · (try dsimp only); (first | (go_split_ands; exact ⟨kc f (by assumption), kc f (by assumption), kc f (by assumption), kc f (by assumption), kc f (by assumption), kc f (by assumption), kc f (by assumption), kc f (by assumption), kc f (by assumption), kc f (by assumption), by assumption⟩) | (go_split_ands; exact ⟨(by assumption), (by assumption), (by assumption), (by assumption), (by assumption), (by assumption), (by assumption), (by assumption), (by assumption), (by assumption), by assumption⟩) | (go_split_ands; exact ⟨kc (fr1 _ _) (by assumption), kc (fr1 _ _) (by assumption), kc (fr1 _ _) (by assumption), kc (fr1 _ _) (by assumption), kc (fr1 _ _) (by assumption), kc (fr1 _ _) (by assumption), kc (fr1 _ _) (by assumption), kc (fr1 _ _) (by assumption), kc (fr1 _ _) (by assumption), kc (fr1 _ _) (by assumption), kfa (by assumption)⟩) | (exact ⟨kcs hf2 (by simp only []; omega) hHeld.1, kcs hf2 (by simp only []; omega) hHeld.2.1, kcs hf2 (by simp only []; omega) hHeld.2.2.1, kcs hf2 (by simp only []; omega) hHeld.2.2.2.1, kcs hf2 (by simp only []; omega) hHeld.2.2.2.2.1, kcs hf2 (by simp only []; omega) hHeld.2.2.2.2.2.1, kcs hf2 (by simp only []; omega) hHeld.2.2.2.2.2.2.1, kcs hf2 (by simp only []; omega) hHeld.2.2.2.2.2.2.2.1, kcs hf2 (by simp only []; omega) hHeld.2.2.2.2.2.2.2.2.1, kcs hf2 (by simp only []; omega) hHeld.2.2.2.2.2.2.2.2.2.1, kst hf2 hHeld.2.2.2.2.2.2.2.2.2.2⟩) | (exact hHeld))
          clear hK K
          try simp only [Act.put, List.getElem_toArray, List.getElem_cons_succ, List.getElem_cons_zero, List.setIfInBounds_toArray, List.set_cons_zero, List.set_cons_succ]
          refine wpAnyH_ready (rs := [6]) (by kernel_rfl) (by simp) (AllReadyH.cons rfl (fun K hK => ?_) AllReadyH.nil)
          go_simp
          go_at_call 38
          refine (HAF.out _ HID.out).mono ?_
          rintro e W1 ⟨A5, l5, c5, rfl, hin, hnew, f⟩
          have FW := kfS f hHeld.2.2.2.2.2.2.2.2.2.2
          have HNE := hid (show ∀ g o, A5 = some ⟨g, o, none⟩ → g ≠ M from fun g o h => Nat.ne_of_gt (Nat.lt_of_lt_of_le HML.out (Nat.le_trans FD.out.size (hnew g o h))))
          have HIN := hid hin
          have FA := hid (FD.out.trans f)
          have PM := hid (PM.out.fr f)
          clear hin hnew
          dsimp only
          refine hK.out _ _ ?_ (fun hHeld => ?_)
          · (try dsimp only); (first | (go_split_ands; exact ⟨kc f (by assumption), kc f (by assumption), kc f (by assumption), kc f (by assumption), kc f (by assumption), kc f (by assumption), kc f (by assumption), kc f (by assumption), kc f (by assumption), kc f (by assumption), by assumption⟩) | (go_split_ands; exact ⟨(by assumption), (by assumption), (by assumption), (by assumption), (by assumption), (by assumption), (by assumption), (by assumption), (by assumption), (by assumption), by assumption⟩) | (go_split_ands; exact ⟨kc (fr1 _ _) (by assumption), kc (fr1 _ _) (by assumption), kc (fr1 _ _) (by assumption), kc (fr1 _ _) (by assumption), kc (fr1 _ _) (by assumption), kc (fr1 _ _) (by assumption), kc (fr1 _ _) (by assumption), kc (fr1 _ _) (by assumption), kc (fr1 _ _) (by assumption), kc (fr1 _ _) (by assumption), kfa (by assumption)⟩) | (exact ⟨kcs hf2 (by simp only []; omega) hHeld.1, kcs hf2 (by simp only []; omega) hHeld.2.1, kcs hf2 (by simp only []; omega) hHeld.2.2.1, kcs hf2 (by simp only []; omega) hHeld.2.2.2.1, kcs hf2 (by simp only []; omega) hHeld.2.2.2.2.1, kcs hf2 (by simp only []; omega) hHeld.2.2.2.2.2.1, kcs hf2 (by simp only []; omega) hHeld.2.2.2.2.2.2.1, kcs hf2 (by simp only []; omega) hHeld.2.2.2.2.2.2.2.1, kcs hf2 (by simp only []; omega) hHeld.2.2.2.2.2.2.2.2.1, kcs hf2 (by simp only []; omega) hHeld.2.2.2.2.2.2.2.2.2.1, kst hf2 hHeld.2.2.2.2.2.2.2.2.2.2⟩) | (exact hHeld))
          clear hK K
          try simp only [Act.put, List.getElem_toArray, List.getElem_cons_succ, List.getElem_cons_zero, List.setIfInBounds_toArray, List.set_cons_zero, List.set_cons_succ]
          refine wpAnyH_take (i := 7) (v := ?v38) rfl (by kernel_rfl) (by kernel_rfl) (by kernel_rfl) (fun _ _ _ h => h) (Or.inl ⟨by kernel_rfl, ?y38⟩) (by assumption) ?_
          case y38 => (intro w hSw; (try dsimp only at hSw); go_simp; all_goals with_reducible rfl)
          try simp only [Act.put, List.getElem_toArray, List.getElem_cons_succ, List.getElem_cons_zero, List.setIfInBounds_toArray, List.set_cons_zero, List.set_cons_succ]
          refine wpAnyH_take (i := 8) (v := ?v39) rfl (by kernel_rfl) (by kernel_rfl) (by kernel_rfl) (fun _ _ _ h => h) (Or.inl ⟨by kernel_rfl, ?y39⟩) (by assumption) ?_
          case y39 => (intro w hSw; (try dsimp only at hSw); go_simp; all_goals with_reducible rfl)
          try simp only [Act.put, List.getElem_toArray, List.getElem_cons_succ, List.getElem_cons_zero, List.setIfInBounds_toArray, List.set_cons_zero, List.set_cons_succ]
          refine wpAnyH_take (i := 9) (v := ?v40) rfl (by kernel_rfl) (by kernel_rfl) (by kernel_rfl) (fun _ _ _ h => h) (Or.inl ⟨by kernel_rfl, ?y40⟩) (by assumption) ?_
          case y40 => (intro w hSw; (try dsimp only at hSw); go_simp; all_goals with_reducible rfl)
          try simp only [Act.put, List.getElem_toArray, List.getElem_cons_succ, List.getElem_cons_zero, List.setIfInBounds_toArray, List.set_cons_zero, List.set_cons_succ]
          refine wpAnyH_ready (rs := [10]) (by kernel_rfl) (by simp) (AllReadyH.cons rfl (fun K hK => ?_) AllReadyH.nil)
          refine stJ_step rfl (.tmp 13) (.tmp 149) rfl _ rfl (st' := us) (z' := uz) (A' := A5) (l' := l5) (c' := c5) (sp' := up) (nx' := un) rfl PM.out ?_
          intro W2 hb2 hf2
          refine hK.out _ _ ?_ (fun hHeld => ?_)
          · (try dsimp only); (first | (go_split_ands; exact ⟨kc f (by assumption), kc f (by assumption), kc f (by assumption), kc f (by assumption), kc f (by assumption), kc f (by assumption), kc f (by assumption), kc f (by assumption), kc f (by assumption), kc f (by assumption), by assumption⟩) | (go_split_ands; exact ⟨(by assumption), (by assumption), (by assumption), (by assumption), (by assumption), (by assumption), (by assumption), (by assumption), (by assumption), (by assumption), by assumption⟩) | (go_split_ands; exact ⟨kc (fr1 _ _) (by assumption), kc (fr1 _ _) (by assumption), kc (fr1 _ _) (by assumption), kc (fr1 _ _) (by assumption), kc (fr1 _ _) (by assumption), kc (fr1 _ _) (by assumption), kc (fr1 _ _) (by assumption), kc (fr1 _ _) (by assumption), kc (fr1 _ _) (by assumption), kc (fr1 _ _) (by assumption), kfa (by assumption)⟩) | (exact ⟨kcs hf2 (by simp only []; omega) hHeld.1, kcs hf2 (by simp only []; omega) hHeld.2.1, kcs hf2 (by simp only []; omega) hHeld.2.2.1, kcs hf2 (by simp only []; omega) hHeld.2.2.2.1, kcs hf2 (by simp only []; omega) hHeld.2.2.2.2.1, kcs hf2 (by simp only []; omega) hHeld.2.2.2.2.2.1, kcs hf2 (by simp only []; omega) hHeld.2.2.2.2.2.2.1, kcs hf2 (by simp only []; omega) hHeld.2.2.2.2.2.2.2.1, kcs hf2 (by simp only []; omega) hHeld.2.2.2.2.2.2.2.2.1, kcs hf2 (by simp only []; omega) hHeld.2.2.2.2.2.2.2.2.2.1, kst hf2 hHeld.2.2.2.2.2.2.2.2.2.2⟩) | (exact hHeld))
          clear hK K
          try simp only [Act.put, List.getElem_toArray, List.getElem_cons_succ, List.getElem_cons_zero]
          have P11 := hid (show BL W2 b11 ya yr yq yb yd yt yx yu from Blk.fr (Blk.fr P11.out FA.out (fun h => h)) hf2 hnb); have P0 := hid (show BG W2 w.heap.size gc gs gn gl gk from Blk.fr (Blk.fr P0.out FA.out (fun h => h)) hf2 hng); have HF := kfg hsz (hid (HF.out.trans FA.out)) hf2; have HIN := hid (InI.far HIN.out hf2 HNE.out); have PN := hid hb2; clear hf2 hb2
          refine wpAnyH_take (i := 11) (v := ?v41) rfl (by kernel_rfl) (by kernel_rfl) (by kernel_rfl) (fun _ _ _ h => h) (Or.inl ⟨by kernel_rfl, ?y41⟩) (by assumption) ?_
          case y41 => (intro w hSw; (try dsimp only at hSw); go_simp; all_goals with_reducible rfl)
          try simp only [Act.put, List.getElem_toArray, List.getElem_cons_succ, List.getElem_cons_zero, List.setIfInBounds_toArray, List.set_cons_zero, List.set_cons_succ]
          refine wpAnyH_done (by kernel_rfl) ?_ _
          refine NoPanic.normal ?_
          clear g0 g1 g2 g3 g4 t0 t1 t2 t3 t4
          obtain ⟨g0, g1, g2, g3, g4⟩ := P0.out.cells
          obtain ⟨c0, c1, c2, c3, c4⟩ := PN.out.cells
          go_wp2_with fail
          refine (HLE.out _ _ _ _ HIN.out).mono ?_
          rintro r W3 ⟨rfl, f3⟩
          have PN := hid (PN.out.fr f3)
          have HIN := hid (HIN.out.fr f3)
          have P11 := hid (show BL W3 b11 ya yr yq yb yd yt yx yu from Blk.fr P11.out f3 (fun h => h))
          have P0 := hid (show BG W3 w.heap.size gc gs gn gl gk from Blk.fr P0.out f3 (fun h => h))
          have HF := hid (HF.out.trans f3)
          clear f3 g0 g1 g2 g3 g4 c0 c1 c2 c3 c4
          go_wp2_with fail
          go_roundw
          case rel => exact ⟨n' - 1, cp, us, uz, A5, l5, c5, up, un, ub, rfl, rfl, PN.out, HIN.out, HJN.out, P11.out, P0.out, HF.out⟩
          case measure => simp [intOf]; omega
    · obtain ⟨hje, hcp⟩ := HJO.out.end HCB.out hpos
      simp only [idle, Jb.mk.injEq] at hje
      obtain ⟨e1, e2, e3, e4, e5⟩ := hje
      have P13L := P13
      have HIL := HI
      have P11L := P11
      have HFL := HF
      subst e1 e2 e3 e4 e5
      have P13 := P13L
      have P11 := P11L
      have HF := HFL
      have HI := hid (HIL.out.fr (Fr.drew (Fr.refl No wr)))
      have hcb : (cp == lp) = true := by simpa using hcp
      have m9 : IntKind.wrap .i64 ((l : Int) * yd) = lp := wr64 _ _ m3
      have HSA := hid (fun W (h : InI W A3 l3 c3 []) => same_idle A3 l3 c3 W h)
      obtain ⟨c0, c1, c2, c3', c4⟩ := P13.out.cells
      obtain ⟨y0, y1, y2, y3, y4, y5, y6, y7⟩ := P11.out.cells
      clear hcp HJO
      go_upto_region 21 with fail
      have FW := hid (Fr.refl No wr)
      have FW := kd FW
      refine wp_region_noPanic ?_
      refine wp_region_held_drew (S := (fun W' => W'.cell? ⟨M, 0, none⟩ = some (.int .i64 0) ∧ W'.cell? ⟨M, 1, none⟩ = some (.int .i64 255) ∧ W'.cell? ⟨M, 2, none⟩ = some (.slice A3 l3 c3) ∧ W'.cell? ⟨M, 3, none⟩ = some (.int .i64 255) ∧ W'.cell? ⟨M, 4, none⟩ = some (.int .i64 0) ∧ W'.cell? ⟨b11, 4, none⟩ = some (.int .i64 yd) ∧ Hid (Fr No wr W'))) (by kernel_rfl) ?_ (fun hHeld => ?_)
      · (try dsimp only); (first | (go_split_ands; exact ⟨kc f (by assumption), kc f (by assumption), kc f (by assumption), kc f (by assumption), kc f (by assumption), kc f (by assumption), by assumption⟩) | (go_split_ands; exact ⟨(by assumption), (by assumption), (by assumption), (by assumption), (by assumption), (by assumption), by assumption⟩) | (go_split_ands; exact ⟨kc (fr1 _ _) (by assumption), kc (fr1 _ _) (by assumption), kc (fr1 _ _) (by assumption), kc (fr1 _ _) (by assumption), kc (fr1 _ _) (by assumption), kc (fr1 _ _) (by assumption), kfa (by assumption)⟩))
      refine wpAnyH_take (i := 0) (v := ?v42) rfl (by kernel_rfl) (by kernel_rfl) (by kernel_rfl) (fun _ _ _ h => h) (Or.inl ⟨by kernel_rfl, ?y42⟩) (by assumption) ?_
      case y42 => (intro w hSw; (try dsimp only at hSw); go_simp; all_goals with_reducible rfl)
      try simp only [Act.put, List.getElem_toArray, List.getElem_cons_zero, List.setIfInBounds_toArray, List.set_cons_zero, List.set_cons_succ]
      refine wpAnyH_take (i := 1) (v := ?v43) rfl (by kernel_rfl) (by kernel_rfl) (by kernel_rfl) (fun _ _ _ h => h) (Or.inl ⟨by kernel_rfl, ?y43⟩) (by assumption) ?_
      case y43 => (intro w hSw; (try dsimp only at hSw); go_simp; all_goals with_reducible rfl)
      try simp only [Act.put, List.getElem_toArray, List.getElem_cons_succ, List.getElem_cons_zero, List.setIfInBounds_toArray, List.set_cons_zero, List.set_cons_succ]
      refine wpAnyH_take (i := 2) (v := (.bool true)) rfl (by kernel_rfl) (by kernel_rfl) (by kernel_rfl) (fun _ _ _ h => h) (Or.inl ⟨by kernel_rfl, fun w hSw => by first | (go_simp; done) | (go_simp; with_reducible rfl) | (go_simp; omega)⟩) (by assumption) ?_
      try simp only [Act.put, List.getElem_toArray, List.getElem_cons_succ, List.getElem_cons_zero, List.setIfInBounds_toArray, List.set_cons_zero, List.set_cons_succ]
      refine wpAnyH_take (i := 3) (v := (.bool true)) rfl (by kernel_rfl) (by kernel_rfl) (by kernel_rfl) (fun _ _ _ h => h) (Or.inl ⟨by kernel_rfl, fun w hSw => by first | (go_simp; done) | (go_simp; with_reducible rfl) | (go_simp; omega)⟩) (by assumption) ?_
      try simp only [Act.put, List.getElem_toArray, List.getElem_cons_succ, List.getElem_cons_zero, List.setIfInBounds_toArray, List.set_cons_zero, List.set_cons_succ]
      refine wpAnyH_take (i := 4) (v := ?v44) rfl (by kernel_rfl) (by kernel_rfl) (by kernel_rfl) (fun _ _ _ h => h) (Or.inl ⟨by kernel_rfl, ?y44⟩) (by assumption) ?_
      case y44 => (intro w hSw; (try dsimp only at hSw); go_simp; all_goals with_reducible rfl)
      try simp only [Act.put, List.getElem_toArray, List.getElem_cons_succ, List.getElem_cons_zero, List.setIfInBounds_toArray, List.set_cons_zero, List.set_cons_succ]
      refine wpAnyH_ready (rs := [5]) (by kernel_rfl) (by simp) (AllReadyH.cons rfl (fun K hK => ?_) AllReadyH.nil)
      go_simp
      go_at_call 41
      refine (idle_ok _).mono ?_
      rintro e W1 ⟨rfl, f⟩
      have FW := kf f hHeld.2.2.2.2.2.2
      have HI := hid (HI.out.fr f)
      dsimp only
      refine hK.out _ _ ?_ (fun hHeld => ?_)
      · (try dsimp only); (first | (go_split_ands; exact ⟨kc f (by assumption), kc f (by assumption), kc f (by assumption), kc f (by assumption), kc f (by assumption), kc f (by assumption), by assumption⟩) | (go_split_ands; exact ⟨(by assumption), (by assumption), (by assumption), (by assumption), (by assumption), (by assumption), by assumption⟩) | (go_split_ands; exact ⟨kc (fr1 _ _) (by assumption), kc (fr1 _ _) (by assumption), kc (fr1 _ _) (by assumption), kc (fr1 _ _) (by assumption), kc (fr1 _ _) (by assumption), kc (fr1 _ _) (by assumption), kfa (by assumption)⟩))
      clear hK K
      try simp only [Act.put, List.getElem_toArray, List.getElem_cons_succ, List.getElem_cons_zero, List.setIfInBounds_toArray, List.set_cons_zero, List.set_cons_succ]
      refine wpAnyH_ready (rs := [6]) (by kernel_rfl) (by simp) (AllReadyH.cons rfl (fun K hK => ?_) AllReadyH.nil)
      go_simp
      go_at_call 44
      refine (HSA.out _ HI.out).mono ?_
      rintro e W1 ⟨rfl, f⟩
      have FW := kf f hHeld.2.2.2.2.2.2
      dsimp only
      refine hK.out _ _ ?_ (fun hHeld => ?_)
      · (try dsimp only); (first | (go_split_ands; exact ⟨kc f (by assumption), kc f (by assumption), kc f (by assumption), kc f (by assumption), kc f (by assumption), kc f (by assumption), by assumption⟩) | (go_split_ands; exact ⟨(by assumption), (by assumption), (by assumption), (by assumption), (by assumption), (by assumption), by assumption⟩) | (go_split_ands; exact ⟨kc (fr1 _ _) (by assumption), kc (fr1 _ _) (by assumption), kc (fr1 _ _) (by assumption), kc (fr1 _ _) (by assumption), kc (fr1 _ _) (by assumption), kc (fr1 _ _) (by assumption), kfa (by assumption)⟩))
      clear hK K
      try simp only [Act.put, List.getElem_toArray, List.getElem_cons_succ, List.getElem_cons_zero, List.setIfInBounds_toArray, List.set_cons_zero, List.set_cons_succ]
      refine wpAnyH_take (i := 7) (v := (.bool true)) rfl (by kernel_rfl) (by kernel_rfl) (by kernel_rfl) (fun _ _ _ h => h) (Or.inl ⟨by kernel_rfl, fun w hSw => by first | (go_simp; done) | (go_simp; with_reducible rfl) | (go_simp; omega)⟩) (by assumption) ?_
      try simp only [Act.put, List.getElem_toArray, List.getElem_cons_succ, List.getElem_cons_zero, List.setIfInBounds_toArray, List.set_cons_zero, List.set_cons_succ]
      refine wpAnyH_take (i := 8) (v := (.bool true)) rfl (by kernel_rfl) (by kernel_rfl) (by kernel_rfl) (fun _ _ _ h => h) (Or.inl ⟨by kernel_rfl, fun w hSw => by first | (go_simp; done) | (go_simp; with_reducible rfl) | (go_simp; omega)⟩) (by assumption) ?_
      try simp only [Act.put, List.getElem_toArray, List.getElem_cons_succ, List.getElem_cons_zero, List.setIfInBounds_toArray, List.set_cons_zero, List.set_cons_succ]
      refine wpAnyH_take (i := 9) (v := ?v45) rfl (by kernel_rfl) (by kernel_rfl) (by kernel_rfl) (fun _ _ _ h => h) (Or.inl ⟨by kernel_rfl, ?y45⟩) (by assumption) ?_
      case y45 => (intro w hSw; (try dsimp only at hSw); go_simp; all_goals with_reducible rfl)
      try simp only [Act.put, List.getElem_toArray, List.getElem_cons_succ, List.getElem_cons_zero, List.setIfInBounds_toArray, List.set_cons_zero, List.set_cons_succ]
      refine wpAnyH_take (i := 10) (v := ?v46) rfl (by kernel_rfl) (by kernel_rfl) (by kernel_rfl) (fun _ _ _ h => h) (Or.inl ⟨by kernel_rfl, ?y46⟩) (by assumption) ?_
      case y46 => (intro w hSw; (try dsimp only at hSw); go_simp; all_goals with_reducible rfl)
      try simp only [Act.put, List.getElem_toArray, List.getElem_cons_succ, List.getElem_cons_zero, List.setIfInBounds_toArray, List.set_cons_zero, List.set_cons_succ]
      refine wpAnyH_take (i := 11) (v := ?v47) rfl (by kernel_rfl) (by kernel_rfl) (by kernel_rfl) (fun _ _ _ h => h) (Or.inl ⟨by kernel_rfl, ?y47⟩) (by assumption) ?_
      case y47 => (intro w hSw; (try dsimp only at hSw); go_simp; all_goals with_reducible rfl)
      try simp only [Act.put, List.getElem_toArray, List.getElem_cons_succ, List.getElem_cons_zero, List.setIfInBounds_toArray, List.set_cons_zero, List.set_cons_succ]
      refine wpAnyH_take (i := 12) (v := ?v48) rfl (by kernel_rfl) (by kernel_rfl) (by kernel_rfl) (fun _ _ _ h => h) (Or.inl ⟨by kernel_rfl, ?y48⟩) (by assumption) ?_
      case y48 => (intro w hSw; (try dsimp only at hSw); go_simp; all_goals with_reducible rfl)
      try simp only [Act.put, List.getElem_toArray, List.getElem_cons_succ, List.getElem_cons_zero, List.setIfInBounds_toArray, List.set_cons_zero, List.set_cons_succ]
      refine wpAnyH_take (i := 13) (v := ?v49) rfl (by kernel_rfl) (by kernel_rfl) (by kernel_rfl) (fun _ _ _ h => h) (Or.inl ⟨by kernel_rfl, ?y49⟩) (by assumption) ?_
      case y49 => (intro w hSw; (try dsimp only at hSw); go_simp; all_goals with_reducible rfl)
      try simp only [Act.put, List.getElem_toArray, List.getElem_cons_succ, List.getElem_cons_zero, List.setIfInBounds_toArray, List.set_cons_zero, List.set_cons_succ]
      refine wpAnyH_take (i := 14) (v := (.int .i64 lp)) rfl (by kernel_rfl) (by kernel_rfl) (by kernel_rfl) (fun _ _ _ h => h) (Or.inl ⟨by kernel_rfl, fun w hSw => by first | (go_simp; done) | (go_simp; with_reducible rfl) | (go_simp; omega)⟩) (by assumption) ?_
      try simp only [Act.put, List.getElem_toArray, List.getElem_cons_succ, List.getElem_cons_zero, List.setIfInBounds_toArray, List.set_cons_zero, List.set_cons_succ]
      refine wpAnyH_take (i := 15) (v := (.bool true)) rfl (by kernel_rfl) (by kernel_rfl) (by kernel_rfl) (fun _ _ _ h => h) (Or.inl ⟨by kernel_rfl, fun w hSw => by first | (go_simp; done) | (go_simp; with_reducible rfl) | (go_simp; omega)⟩) (by assumption) ?_
      try simp only [Act.put, List.getElem_toArray, List.getElem_cons_succ, List.getElem_cons_zero, List.setIfInBounds_toArray, List.set_cons_zero, List.set_cons_succ]
      refine wpAnyH_take (i := 16) (v := (.bool true)) rfl (by kernel_rfl) (by kernel_rfl) (by kernel_rfl) (fun _ _ _ h => h) (Or.inl ⟨by kernel_rfl, fun w hSw => by first | (go_simp; done) | (go_simp; with_reducible rfl) | (go_simp; omega)⟩) (by assumption) ?_
      try simp only [Act.put, List.getElem_toArray, List.getElem_cons_succ, List.getElem_cons_zero, List.setIfInBounds_toArray, List.set_cons_zero, List.set_cons_succ]
      refine wpAnyH_take (i := 17) (v := ?v50) rfl (by kernel_rfl) (by kernel_rfl) (by kernel_rfl) (fun _ _ _ h => h) (Or.inl ⟨by kernel_rfl, ?y50⟩) (by assumption) ?_
      case y50 => (intro w hSw; (try dsimp only at hSw); go_simp; all_goals with_reducible rfl)
      try simp only [Act.put, List.getElem_toArray, List.getElem_cons_succ, List.getElem_cons_zero, List.setIfInBounds_toArray, List.set_cons_zero, List.set_cons_succ]
      refine wpAnyH_done (by kernel_rfl) ?_ _
      refine NoPanic.normal ?_
      go_wp2_with fail
      go_ret
      exact ⟨rfl, HF.out.trans FW.out⟩
end Go.Proofs.Ytgjcpepfggkieaa.ClZc
