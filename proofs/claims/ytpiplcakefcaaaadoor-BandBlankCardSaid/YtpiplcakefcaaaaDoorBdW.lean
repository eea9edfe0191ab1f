/- BandBlank, walked. Conditions: what comes in reads as bytes; the geometry's count of zones and the numbers are 64 bits; the table of sums is as its text lays it. -/
import Derived.Test.YtpiplcakefcaaaaDoorBdT
namespace Go.Proofs.YtpiplcakefcaaaaDoor.BdW
open Go.RowKit MSep MFrame Kit MGeM CrcA CrcM CrcE BdM BdA BdB BdC BdD BdE BdT
open GeA (bg BG BL ld_geom ld_lay by_)
open GeE (rlo)

theorem mk_rd {w : World} {B n : Nat} {A : Option Addr} {c : Nat} {L : List Int} (hl : List.replicate n (0 : Int) = L) (h : w.ownsRow B 5 1 (.slice A n c) n (List.replicate n (.int .u8 0))) : Rd w A n (L.map (Value.int .u8)) := by rw [← hl, List.map_replicate]; exact Rd.own h
set_option maxRecDepth 100000 in
set_option maxHeartbeats 8000000 in
theorem blank_w (gc gs gn gl gk : Int) (A : Option Addr) (l c : Nat) (zs : List Int) (a n : Int) (w : World) (hs : r64 gs) (hb : IsB w A l c zs) (hT : TabAt w) :
    Calls Tryd.prog 9 #[.agg #[.int .i64 gc, .int .i64 gs, .int .i64 gn, .int .i64 gl, .int .i64 gk], .slice A l c, .int .i64 a, .int .i64 n] w fun e w' => e = .returned (.bool true) ∧ Fr No w w' := by
  have hlen : zs.length = l := by simpa using hb.1.1
  have HL := hid hlen
  obtain ⟨G, hG⟩ : ∃ G, w.heap.size = G := ⟨_, rfl⟩
  obtain ⟨w1, hw1⟩ : ∃ w1, w.alloc (bg gc gs gn gl gk) = w1 := ⟨_, rfl⟩
  have FG := hid (show Fr No w w1 by rw [← hw1]; exact fr1 _ _)
  have P0 := hid (show BG w1 G gc gs gn gl gk by rw [← hw1, ← hG]; exact BG.new w gc gs gn gl gk)
  have HW1 := hid hw1
  have HB := hid hb
  have HT := hid hT
  have HLY := hid (fun W => GeEk.rlayout_ok gc gs gn gl gk W hs)
  have HBK := hid (fun W => blank_ok gc gs gn gl gk W hs)
  have HCH := hid (fun W (h1 : IsB W A l c zs) => chunk_ok gc gs gn gl gk A l c zs a n W hs h1)
  clear hs hb hT hw1 hlen
  by_cases h2 : 200 < gn
  · go_enter Tryd.func9, Tryd.ntmps9
    go_upto_region 1 with fail
    try rw [show w.alloc (Obj.cells #[.int .i64 gc, .int .i64 gs, .int .i64 gn, .int .i64 gl, .int .i64 gk] 23) = w1 from HW1.out]
    try rw [hG]
    clear hG
    obtain ⟨g0, g1, g2, g3, g4⟩ := P0.out.cells
    go_wp2_with (go_at_call 36; refine (lives_ok _ (HT.out.fr FG.out (fun h => h))).mono ?_; rintro e' wl ⟨rfl, f⟩; replace FG := hid (FG.out.trans f); clear f)
    go_ret
    exact ⟨rfl, FG.out⟩
  by_cases hm : mayG ⟨gc, gs, gn, gl, gk⟩
  case neg =>
    have HBV := hid (show blankF ⟨gc, gs, gn, gl, gk⟩ = [] from if_neg hm)
    have HCV := hid (show chunkF ⟨gc, gs, gn, gl, gk⟩ zs a n = ([], 70) from if_neg hm)
    obtain ⟨d, hd⟩ : ∃ d : Nat, d = 0 := ⟨_, rfl⟩
    rw [show rlo ⟨gc, gs, gn, gl, gk⟩ = (⟨0, 0, 0, 0, (d : Nat), 0, 0, 0⟩, false) by unfold rlo; rw [if_neg hm, hd]; rfl] at HLY
    dsimp only at HLY
    have HD := hid (show d ≤ 1023 by omega)
    have HBV := hid (show blankF ⟨gc, gs, gn, gl, gk⟩ = List.replicate (128 * d) 0 by rw [HBV.out, hd]; rfl)
    obtain ⟨ZB, hZB⟩ : ∃ q, List.replicate (128 * d) (0 : Int) = q := ⟨_, rfl⟩
    rw [hZB] at HBV
    have HBL := hid hZB
    clear hm hZB hd
    go_enter Tryd.func9, Tryd.ntmps9
    go_upto_region 1 with fail
    try rw [show w.alloc (Obj.cells #[.int .i64 gc, .int .i64 gs, .int .i64 gn, .int .i64 gl, .int .i64 gk] 23) = w1 from HW1.out]
    try rw [hG]
    clear hG
    obtain ⟨g0, g1, g2, g3, g4⟩ := P0.out.cells
    go_upto_region 3 with fail
    clear g0 g1 g2 g3 g4
    go_upto_region 4 with (first | ((with_reducible refine ld_geom rfl (.tmp 4) rfl G ?_ P0.out ?_); · rfl) | (go_at_call 18; refine (HLY.out _).mono ?_; rintro e' w2 ⟨rfl, f2⟩; replace FG := hid (FG.out.trans f2); replace P0 := hid (P0.out.fr f2); clear f2))
    obtain ⟨L, hL⟩ : ∃ q, w2.heap.size = q := ⟨_, rfl⟩
    obtain ⟨wL, hwL⟩ : ∃ q, w2.alloc (.cells #[.int .i64 0, .int .i64 0, .int .i64 0, .int .i64 0, .int .i64 (d : Nat), .int .i64 0, .int .i64 0, .int .i64 0] 34) = q := ⟨_, rfl⟩
    have fL : Fr No w2 wL := by rw [← hwL]; exact fr1 _ _
    replace FG := hid (FG.out.trans fL)
    have HLL := hid (show BL wL L 0 0 0 0 d 0 0 0 by rw [← hwL, ← hL]; exact BL.new _ _ _ _ _ _ _ _ _)
    replace P0 := hid (P0.out.fr fL)
    rw [show w2.alloc (.cells #[.int .i64 0, .int .i64 0, .int .i64 0, .int .i64 0, .int .i64 (d : Nat), .int .i64 0, .int .i64 0, .int .i64 0] 34) = wL from hwL]
    try rw [hL]
    clear hwL hL fL
    go_upto_region 5 with (first | ((with_reducible refine ld_geom rfl (.tmp 4) rfl G ?_ P0.out ?_); · rfl) | (go_at_call 39; refine (HBK.out _).mono ?_; rintro e' w5 ⟨Ab, cb, he, hi, f5⟩; rw [HBV.out] at he hi; subst he; replace FG := hid (FG.out.trans f5); replace P0 := hid (P0.out.fr f5); replace HLL := hid (HLL.out.fr f5); have HBB := hid hi; clear f5 hi))
    have HT2 := hid (HT.out.fr FG.out (fun h => h))
    have y4 := HLL.out.cells.2.2.2.2.1
    obtain ⟨i0, hi, hz0, hz1, hz2⟩ := info_parts u8_info
    have hmw : IntKind.i64.wrap (128 * (d : Int)) = 128 * d := IntWalk.i64_in _ (by have := HD.out; omega)
    have FGO := FG
    have FW : Hid (Fr No w5 w5) := hid (Fr.refl _ _)
    have FW := kd FW
    refine wp_region_noPanic ?_
    refine wp_region_held_drew (S := (fun W' => W'.cell? ⟨L, 4, none⟩ = some (.int .i64 (d : Nat)) ∧ Hid (Fr No w5 W'))) (by kernel_rfl) ?_ (fun hHeld => ?_)
    · (try dsimp only); (first | (go_split_ands; exact ⟨kc f (by assumption), by assumption⟩) | (go_split_ands; exact ⟨(by assumption), by assumption⟩) | (go_split_ands; exact ⟨kc (fr1 _ _) (by assumption), kfa (by assumption)⟩) | (exact hHeld))
    refine wpAnyH_ready (rs := [0]) (by kernel_rfl) (by simp) (AllReadyH.cons rfl (fun K hK => ?_) AllReadyH.nil)
    go_simp
    go_at_call 36
    refine (lives_ok _ (HT2.out.fr FW.out (fun h => h))).mono ?_
    rintro e W1 ⟨rfl, f⟩
    have FW := kf f hHeld.2
    dsimp only
    refine hK.out _ _ ?_ (fun hHeld => ?_)
    · (try dsimp only); (first | (go_split_ands; exact ⟨kc f (by assumption), by assumption⟩) | (go_split_ands; exact ⟨(by assumption), by assumption⟩) | (go_split_ands; exact ⟨kc (fr1 _ _) (by assumption), kfa (by assumption)⟩) | (exact hHeld))
    clear hK K
    try simp only [Act.put, List.getElem_toArray, List.getElem_cons_succ, List.getElem_cons_zero, List.setIfInBounds_toArray, List.set_cons_zero, List.set_cons_succ]
    refine wpAnyH_take (i := 1) (v := (.bool false)) rfl (by kernel_rfl) (by kernel_rfl) (by kernel_rfl) (fun _ _ _ h => h) (Or.inl ⟨by kernel_rfl, fun w hSw => by first | (go_simp; done) | (go_simp; with_reducible rfl) | (go_simp; omega)⟩) (by assumption) ?_
    try simp only [Act.put, List.getElem_toArray, List.getElem_cons_succ, List.getElem_cons_zero, List.setIfInBounds_toArray, List.set_cons_zero, List.set_cons_succ]
    refine wpAnyH_take (i := 2) (v := (.bool false)) rfl (by kernel_rfl) (by kernel_rfl) (by kernel_rfl) (fun _ _ _ h => h) (Or.inl ⟨by kernel_rfl, fun w hSw => by first | (go_simp; done) | (go_simp; with_reducible rfl) | (go_simp; omega)⟩) (by assumption) ?_
    try simp only [Act.put, List.getElem_toArray, List.getElem_cons_succ, List.getElem_cons_zero, List.setIfInBounds_toArray, List.set_cons_zero, List.set_cons_succ]
    refine wpAnyH_take (i := 3) (v := ?v1) rfl (by kernel_rfl) (by kernel_rfl) (by kernel_rfl) (fun _ _ _ h => h) (Or.inl ⟨by kernel_rfl, ?y1⟩) (by assumption) ?_
    case y1 => (intro w hSw; (try dsimp only at hSw); go_simp; all_goals with_reducible rfl)
    try simp only [Act.put, List.getElem_toArray, List.getElem_cons_succ, List.getElem_cons_zero, List.setIfInBounds_toArray, List.set_cons_zero, List.set_cons_succ]
    refine wpAnyH_take (i := 4) (v := (.string (strOfNums ZB))) rfl (by kernel_rfl) (by kernel_rfl) (by kernel_rfl) (fun _ _ _ h => h) (Or.inl ⟨by kernel_rfl, fun w hSw => by have s1 := run_str (P := Tryd.prog) w 27 9 5 Tryd.underlying27 Tryd.underlying5 Tryd.underlying9 (Ab) (ZB.length) (cb) (ZB) (HBB.out.1.fr hSw.2.out (fun _ _ _ h => h)); first | (go_simp; done) | (go_simp; with_reducible rfl) | (go_simp; omega)⟩) (by assumption) ?_
    try simp only [Act.put, List.getElem_toArray, List.getElem_cons_succ, List.getElem_cons_zero, List.setIfInBounds_toArray, List.set_cons_zero, List.set_cons_succ]
    refine wpAnyH_take (i := 5) (v := ?v2) rfl (by kernel_rfl) (by kernel_rfl) (by kernel_rfl) (fun _ _ _ h => h) (Or.inl ⟨by kernel_rfl, ?y2⟩) (by assumption) ?_
    case y2 => (intro w hSw; (try dsimp only at hSw); go_simp; all_goals with_reducible rfl)
    try simp only [Act.put, List.getElem_toArray, List.getElem_cons_succ, List.getElem_cons_zero, List.setIfInBounds_toArray, List.set_cons_zero, List.set_cons_succ]
    refine wpAnyH_take (i := 6) (v := ?v3) rfl (by kernel_rfl) (by kernel_rfl) (by kernel_rfl) (fun _ _ _ h => h) (Or.inl ⟨by kernel_rfl, ?y3⟩) (by assumption) ?_
    case y3 => (intro w hSw; (try dsimp only at hSw); go_simp; all_goals with_reducible rfl)
    try simp only [Act.put, List.getElem_toArray, List.getElem_cons_succ, List.getElem_cons_zero, List.setIfInBounds_toArray, List.set_cons_zero, List.set_cons_succ]
    refine wpAnyH_take (i := 7) (v := ?v4) rfl (by kernel_rfl) (by kernel_rfl) (by kernel_rfl) (fun _ _ _ h => h) (Or.inl ⟨by kernel_rfl, ?y4⟩) (by assumption) ?_
    case y4 => (intro w hSw; (try dsimp only at hSw); go_simp; all_goals with_reducible rfl)
    try simp only [Act.put, List.getElem_toArray, List.getElem_cons_succ, List.getElem_cons_zero, List.setIfInBounds_toArray, List.set_cons_zero, List.set_cons_succ]
    refine wpAnyH_ready (rs := [8]) (by kernel_rfl) (by simp) (AllReadyH.cons rfl (fun K hK => ?_) AllReadyH.nil)
    refine step_make (by kernel_rfl) (.tmp 32) (.tmp 32) 27 rfl 5 i0 (.int .u8 0) 1 Tryd.underlying27 hi hz0 hz1 hz2 rfl .i64 .i64 _ _ (128 * d) rfl rfl (by have := HD.out; omega) (by have := HD.out; omega) (by have := HD.out; omega) (by have := HD.out; simp only [maxLen]; omega) ?_
    intro WM own f
    have FW := kf f hHeld.2
    refine hK.out _ _ ?_ (fun hHeld => ?_)
    · (try dsimp only); (first | (go_split_ands; exact ⟨kc f (by assumption), by assumption⟩) | (go_split_ands; exact ⟨(by assumption), by assumption⟩) | (go_split_ands; exact ⟨kc (fr1 _ _) (by assumption), kfa (by assumption)⟩) | (exact hHeld))
    clear hK K
    try simp only [Act.put, List.getElem_toArray, List.getElem_cons_succ, List.getElem_cons_zero, List.setIfInBounds_toArray, List.set_cons_zero, List.set_cons_succ]
    have s3 := run_str (P := Tryd.prog) WM 27 9 5 Tryd.underlying27 Tryd.underlying5 Tryd.underlying9 (some ⟨W1.heap.size, 0, none⟩) (128 * d) (128 * d) (ZB) (mk_rd HBL.out own)
    refine wpAnyH_ready (rs := [9]) (by kernel_rfl) (by simp) (AllReadyH.cons rfl (fun K hK => ?_) AllReadyH.nil)
    go_simp
    refine hK.out _ _ ?_ (fun hHeld => ?_)
    · (try dsimp only); (first | (go_split_ands; exact ⟨kc f (by assumption), by assumption⟩) | (go_split_ands; exact ⟨(by assumption), by assumption⟩) | (go_split_ands; exact ⟨kc (fr1 _ _) (by assumption), kfa (by assumption)⟩) | (exact hHeld))
    clear hK K
    try simp only [Act.put, List.getElem_toArray, List.getElem_cons_succ, List.getElem_cons_zero, List.setIfInBounds_toArray, List.set_cons_zero, List.set_cons_succ]
    refine wpAnyH_take (i := 10) (v := ?v5) rfl (by kernel_rfl) (by kernel_rfl) (by kernel_rfl) (fun _ _ _ h => h) (Or.inl ⟨by kernel_rfl, ?y5⟩) (by assumption) ?_
    case y5 => (intro w hSw; (try dsimp only at hSw); go_simp; all_goals with_reducible rfl)
    try simp only [Act.put, List.getElem_toArray, List.getElem_cons_succ, List.getElem_cons_zero, List.setIfInBounds_toArray, List.set_cons_zero, List.set_cons_succ]
    refine wpAnyH_take (i := 11) (v := ?v6) rfl (by kernel_rfl) (by kernel_rfl) (by kernel_rfl) (fun _ _ _ h => h) (Or.inl ⟨by kernel_rfl, ?y6⟩) (by assumption) ?_
    case y6 => (intro w hSw; (try dsimp only at hSw); go_simp; all_goals with_reducible rfl)
    try simp only [Act.put, List.getElem_toArray, List.getElem_cons_succ, List.getElem_cons_zero, List.setIfInBounds_toArray, List.set_cons_zero, List.set_cons_succ]
    refine wpAnyH_done (by kernel_rfl) ?_ _
    refine NoPanic.normal ?_
    have FQ := hHeld.2
    clear hHeld
    replace FG := hid (FGO.out.trans FQ.out)
    replace P0 := hid (P0.out.fr FQ.out)
    replace HLL := hid (HLL.out.fr FQ.out)
    clear y4 FW FGO FQ HBB hmw
    go_upto_region 9 with (first | ((with_reducible refine ld_geom rfl (.tmp 4) rfl G ?_ P0.out ?_); · rfl) | (go_at_call 40; refine (HCH.out _ (HB.out.fr FG.out)).mono ?_; rintro e' w7 ⟨Ax, cx, he, hi, f7⟩; rw [HCV.out] at he hi; subst he; dsimp only [List.length_nil] at hi ⊢; replace FG := hid (FG.out.trans f7); replace HLL := hid (HLL.out.fr f7); have HXX := hid hi; clear f7 hi))
    go_wp2
    go_ret
    exact ⟨rfl, FG.out⟩
  rw [show rlo ⟨gc, gs, gn, gl, gk⟩ = (lay ⟨gc, gs, gn, gl, gk⟩, true) by unfold rlo; rw [if_pos hm]] at HLY
  have hg := good hm.1
  obtain ⟨y, hy⟩ : ∃ y, lay ⟨gc, gs, gn, gl, gk⟩ = y := ⟨_, rfl⟩
  rw [hy] at HLY hg
  have hd1 := hg.d1
  have hd2 := hg.d2
  have HBV := hid (show blankF ⟨gc, gs, gn, gl, gk⟩ = List.replicate (128 * y.d.toNat) 0 by rw [← hy]; exact if_pos hm)
  have HCV0 := hid (show chunkF ⟨gc, gs, gn, gl, gk⟩ zs a n = if (zs.length : Int) = 128 * y.d then (if wi y.d a n then ((zs.drop (128 * a.toNat)).take (128 * n.toNat), (0 : Int)) else ([], 71)) else ([], 1) by rw [← hy]; exact if_pos hm)
  clear hy hg hm
  obtain ⟨ya, yr, yq, yb, yd, yt, yx, yu⟩ := y
  dsimp only at HLY hd1 hd2 HBV HCV0
  obtain ⟨d, rfl⟩ : ∃ d : Nat, yd = d := ⟨yd.toNat, by omega⟩
  rw [Int.toNat_natCast] at HBV
  obtain ⟨ZB, hZB⟩ : ∃ q, List.replicate (128 * d) (0 : Int) = q := ⟨_, rfl⟩
  rw [hZB] at HBV
  have HBL := hid hZB
  clear hZB
  have HD := hid (show d ≤ 1023 by omega)
  have HD7 := hid (show 7 ≤ d by omega)
  clear hd1 hd2
  by_cases hl : (zs.length : Int) = 128 * d
  case neg =>
    have HCV := hid (show chunkF ⟨gc, gs, gn, gl, gk⟩ zs a n = ([], 1) by rw [HCV0.out, if_neg hl])
    have hll : ((l : Int) == 128 * (d : Int)) = false := by rw [← HL.out]; simpa using hl
    have hll2 : ((l : Int) != 128 * (d : Int)) = true := by rw [← HL.out]; simpa using hl
    have HN := hid (And.intro hll hll2)
    clear hl HCV0 hll hll2
    go_enter Tryd.func9, Tryd.ntmps9
    go_upto_region 1 with fail
    try rw [show w.alloc (Obj.cells #[.int .i64 gc, .int .i64 gs, .int .i64 gn, .int .i64 gl, .int .i64 gk] 23) = w1 from HW1.out]
    try rw [hG]
    clear hG
    obtain ⟨g0, g1, g2, g3, g4⟩ := P0.out.cells
    go_upto_region 3 with fail
    clear g0 g1 g2 g3 g4
    go_upto_region 4 with (first | ((with_reducible refine ld_geom rfl (.tmp 4) rfl G ?_ P0.out ?_); · rfl) | (go_at_call 18; refine (HLY.out _).mono ?_; rintro e' w2 ⟨rfl, f2⟩; replace FG := hid (FG.out.trans f2); replace P0 := hid (P0.out.fr f2); clear f2))
    obtain ⟨L, hL⟩ : ∃ q, w2.heap.size = q := ⟨_, rfl⟩
    obtain ⟨wL, hwL⟩ : ∃ q, w2.alloc (.cells #[.int .i64 ya, .int .i64 yr, .int .i64 yq, .int .i64 yb, .int .i64 (d : Nat), .int .i64 yt, .int .i64 yx, .int .i64 yu] 34) = q := ⟨_, rfl⟩
    have fL : Fr No w2 wL := by rw [← hwL]; exact fr1 _ _
    replace FG := hid (FG.out.trans fL)
    have HLL := hid (show BL wL L ya yr yq yb d yt yx yu by rw [← hwL, ← hL]; exact BL.new _ _ _ _ _ _ _ _ _)
    replace P0 := hid (P0.out.fr fL)
    rw [show w2.alloc (.cells #[.int .i64 ya, .int .i64 yr, .int .i64 yq, .int .i64 yb, .int .i64 (d : Nat), .int .i64 yt, .int .i64 yx, .int .i64 yu] 34) = wL from hwL]
    try rw [hL]
    clear hwL hL fL
    go_upto_region 5 with (first | ((with_reducible refine ld_geom rfl (.tmp 4) rfl G ?_ P0.out ?_); · rfl) | (go_at_call 39; refine (HBK.out _).mono ?_; rintro e' w5 ⟨Ab, cb, he, hi, f5⟩; rw [HBV.out] at he hi; subst he; replace FG := hid (FG.out.trans f5); replace P0 := hid (P0.out.fr f5); replace HLL := hid (HLL.out.fr f5); have HBB := hid hi; clear f5 hi))
    have HT2 := hid (HT.out.fr FG.out (fun h => h))
    have y4 := HLL.out.cells.2.2.2.2.1
    obtain ⟨i0, hi, hz0, hz1, hz2⟩ := info_parts u8_info
    have hmw : IntKind.i64.wrap (128 * (d : Int)) = 128 * d := IntWalk.i64_in _ (by have := HD.out; omega)
    have FGO := FG
    have FW : Hid (Fr No w5 w5) := hid (Fr.refl _ _)
    have FW := kd FW
    refine wp_region_noPanic ?_
    refine wp_region_held_drew (S := (fun W' => W'.cell? ⟨L, 4, none⟩ = some (.int .i64 (d : Nat)) ∧ Hid (Fr No w5 W'))) (by kernel_rfl) ?_ (fun hHeld => ?_)
    · (try dsimp only); (first | (go_split_ands; exact ⟨kc f (by assumption), by assumption⟩) | (go_split_ands; exact ⟨(by assumption), by assumption⟩) | (go_split_ands; exact ⟨kc (fr1 _ _) (by assumption), kfa (by assumption)⟩) | (exact hHeld))
    refine wpAnyH_ready (rs := [0]) (by kernel_rfl) (by simp) (AllReadyH.cons rfl (fun K hK => ?_) AllReadyH.nil)
    go_simp
    go_at_call 36
    refine (lives_ok _ (HT2.out.fr FW.out (fun h => h))).mono ?_
    rintro e W1 ⟨rfl, f⟩
    have FW := kf f hHeld.2
    dsimp only
    refine hK.out _ _ ?_ (fun hHeld => ?_)
    · (try dsimp only); (first | (go_split_ands; exact ⟨kc f (by assumption), by assumption⟩) | (go_split_ands; exact ⟨(by assumption), by assumption⟩) | (go_split_ands; exact ⟨kc (fr1 _ _) (by assumption), kfa (by assumption)⟩) | (exact hHeld))
    clear hK K
    try simp only [Act.put, List.getElem_toArray, List.getElem_cons_succ, List.getElem_cons_zero, List.setIfInBounds_toArray, List.set_cons_zero, List.set_cons_succ]
    refine wpAnyH_take (i := 1) (v := (.bool false)) rfl (by kernel_rfl) (by kernel_rfl) (by kernel_rfl) (fun _ _ _ h => h) (Or.inl ⟨by kernel_rfl, fun w hSw => by first | (go_simp; done) | (go_simp; with_reducible rfl) | (go_simp; omega)⟩) (by assumption) ?_
    try simp only [Act.put, List.getElem_toArray, List.getElem_cons_succ, List.getElem_cons_zero, List.setIfInBounds_toArray, List.set_cons_zero, List.set_cons_succ]
    refine wpAnyH_take (i := 2) (v := (.bool false)) rfl (by kernel_rfl) (by kernel_rfl) (by kernel_rfl) (fun _ _ _ h => h) (Or.inl ⟨by kernel_rfl, fun w hSw => by first | (go_simp; done) | (go_simp; with_reducible rfl) | (go_simp; omega)⟩) (by assumption) ?_
    try simp only [Act.put, List.getElem_toArray, List.getElem_cons_succ, List.getElem_cons_zero, List.setIfInBounds_toArray, List.set_cons_zero, List.set_cons_succ]
    refine wpAnyH_take (i := 3) (v := ?v7) rfl (by kernel_rfl) (by kernel_rfl) (by kernel_rfl) (fun _ _ _ h => h) (Or.inl ⟨by kernel_rfl, ?y7⟩) (by assumption) ?_
    case y7 => (intro w hSw; (try dsimp only at hSw); go_simp; all_goals with_reducible rfl)
    try simp only [Act.put, List.getElem_toArray, List.getElem_cons_succ, List.getElem_cons_zero, List.setIfInBounds_toArray, List.set_cons_zero, List.set_cons_succ]
    refine wpAnyH_take (i := 4) (v := (.string (strOfNums ZB))) rfl (by kernel_rfl) (by kernel_rfl) (by kernel_rfl) (fun _ _ _ h => h) (Or.inl ⟨by kernel_rfl, fun w hSw => by have s1 := run_str (P := Tryd.prog) w 27 9 5 Tryd.underlying27 Tryd.underlying5 Tryd.underlying9 (Ab) (ZB.length) (cb) (ZB) (HBB.out.1.fr hSw.2.out (fun _ _ _ h => h)); first | (go_simp; done) | (go_simp; with_reducible rfl) | (go_simp; omega)⟩) (by assumption) ?_
    try simp only [Act.put, List.getElem_toArray, List.getElem_cons_succ, List.getElem_cons_zero, List.setIfInBounds_toArray, List.set_cons_zero, List.set_cons_succ]
    refine wpAnyH_take (i := 5) (v := ?v8) rfl (by kernel_rfl) (by kernel_rfl) (by kernel_rfl) (fun _ _ _ h => h) (Or.inl ⟨by kernel_rfl, ?y8⟩) (by assumption) ?_
    case y8 => (intro w hSw; (try dsimp only at hSw); go_simp; all_goals with_reducible rfl)
    try simp only [Act.put, List.getElem_toArray, List.getElem_cons_succ, List.getElem_cons_zero, List.setIfInBounds_toArray, List.set_cons_zero, List.set_cons_succ]
    refine wpAnyH_take (i := 6) (v := ?v9) rfl (by kernel_rfl) (by kernel_rfl) (by kernel_rfl) (fun _ _ _ h => h) (Or.inl ⟨by kernel_rfl, ?y9⟩) (by assumption) ?_
    case y9 => (intro w hSw; (try dsimp only at hSw); go_simp; all_goals with_reducible rfl)
    try simp only [Act.put, List.getElem_toArray, List.getElem_cons_succ, List.getElem_cons_zero, List.setIfInBounds_toArray, List.set_cons_zero, List.set_cons_succ]
    refine wpAnyH_take (i := 7) (v := ?v10) rfl (by kernel_rfl) (by kernel_rfl) (by kernel_rfl) (fun _ _ _ h => h) (Or.inl ⟨by kernel_rfl, ?y10⟩) (by assumption) ?_
    case y10 => (intro w hSw; (try dsimp only at hSw); go_simp; all_goals with_reducible rfl)
    try simp only [Act.put, List.getElem_toArray, List.getElem_cons_succ, List.getElem_cons_zero, List.setIfInBounds_toArray, List.set_cons_zero, List.set_cons_succ]
    refine wpAnyH_ready (rs := [8]) (by kernel_rfl) (by simp) (AllReadyH.cons rfl (fun K hK => ?_) AllReadyH.nil)
    refine step_make (by kernel_rfl) (.tmp 32) (.tmp 32) 27 rfl 5 i0 (.int .u8 0) 1 Tryd.underlying27 hi hz0 hz1 hz2 rfl .i64 .i64 _ _ (128 * d) rfl rfl (by have := HD.out; omega) (by have := HD.out; omega) (by have := HD.out; omega) (by have := HD.out; simp only [maxLen]; omega) ?_
    intro WM own f
    have FW := kf f hHeld.2
    refine hK.out _ _ ?_ (fun hHeld => ?_)
    · (try dsimp only); (first | (go_split_ands; exact ⟨kc f (by assumption), by assumption⟩) | (go_split_ands; exact ⟨(by assumption), by assumption⟩) | (go_split_ands; exact ⟨kc (fr1 _ _) (by assumption), kfa (by assumption)⟩) | (exact hHeld))
    clear hK K
    try simp only [Act.put, List.getElem_toArray, List.getElem_cons_succ, List.getElem_cons_zero, List.setIfInBounds_toArray, List.set_cons_zero, List.set_cons_succ]
    have s3 := run_str (P := Tryd.prog) WM 27 9 5 Tryd.underlying27 Tryd.underlying5 Tryd.underlying9 (some ⟨W1.heap.size, 0, none⟩) (128 * d) (128 * d) (ZB) (mk_rd HBL.out own)
    refine wpAnyH_ready (rs := [9]) (by kernel_rfl) (by simp) (AllReadyH.cons rfl (fun K hK => ?_) AllReadyH.nil)
    go_simp
    refine hK.out _ _ ?_ (fun hHeld => ?_)
    · (try dsimp only); (first | (go_split_ands; exact ⟨kc f (by assumption), by assumption⟩) | (go_split_ands; exact ⟨(by assumption), by assumption⟩) | (go_split_ands; exact ⟨kc (fr1 _ _) (by assumption), kfa (by assumption)⟩) | (exact hHeld))
    clear hK K
    try simp only [Act.put, List.getElem_toArray, List.getElem_cons_succ, List.getElem_cons_zero, List.setIfInBounds_toArray, List.set_cons_zero, List.set_cons_succ]
    refine wpAnyH_take (i := 10) (v := ?v11) rfl (by kernel_rfl) (by kernel_rfl) (by kernel_rfl) (fun _ _ _ h => h) (Or.inl ⟨by kernel_rfl, ?y11⟩) (by assumption) ?_
    case y11 => (intro w hSw; (try dsimp only at hSw); go_simp; all_goals with_reducible rfl)
    try simp only [Act.put, List.getElem_toArray, List.getElem_cons_succ, List.getElem_cons_zero, List.setIfInBounds_toArray, List.set_cons_zero, List.set_cons_succ]
    refine wpAnyH_take (i := 11) (v := ?v12) rfl (by kernel_rfl) (by kernel_rfl) (by kernel_rfl) (fun _ _ _ h => h) (Or.inl ⟨by kernel_rfl, ?y12⟩) (by assumption) ?_
    case y12 => (intro w hSw; (try dsimp only at hSw); go_simp; all_goals with_reducible rfl)
    try simp only [Act.put, List.getElem_toArray, List.getElem_cons_succ, List.getElem_cons_zero, List.setIfInBounds_toArray, List.set_cons_zero, List.set_cons_succ]
    refine wpAnyH_done (by kernel_rfl) ?_ _
    refine NoPanic.normal ?_
    have FQ := hHeld.2
    clear hHeld
    replace FG := hid (FGO.out.trans FQ.out)
    replace P0 := hid (P0.out.fr FQ.out)
    replace HLL := hid (HLL.out.fr FQ.out)
    clear y4 FW FGO FQ HBB hmw
    go_upto_region 8 with (first | ((with_reducible refine ld_geom rfl (.tmp 4) rfl G ?_ P0.out ?_); · rfl) | (go_at_call 40; refine (HCH.out _ (HB.out.fr FG.out)).mono ?_; rintro e' w7 ⟨Ax, cx, he, hi, f7⟩; rw [HCV.out] at he hi; subst he; dsimp only [List.length_nil] at hi ⊢; replace FG := hid (FG.out.trans f7); replace HLL := hid (HLL.out.fr f7); have HXX := hid hi; clear f7 hi))
    have y4 := HLL.out.cells.2.2.2.2.1
    have hdd := HD.out
    obtain ⟨hll, hll2⟩ := HN.out
    go_wp2
    go_ret
    exact ⟨rfl, FG.out⟩
  have hll : (l : Int) = 128 * d := by rw [← HL.out]; exact hl
  by_cases hw : wi d a n
  case neg =>
    have HCV := hid (show chunkF ⟨gc, gs, gn, gl, gk⟩ zs a n = ([], 71) by rw [HCV0.out, if_pos hl, if_neg hw])
    have HN := hid (And.intro hll hw)
    clear hl HCV0 hll hw
    go_enter Tryd.func9, Tryd.ntmps9
    go_upto_region 1 with fail
    try rw [show w.alloc (Obj.cells #[.int .i64 gc, .int .i64 gs, .int .i64 gn, .int .i64 gl, .int .i64 gk] 23) = w1 from HW1.out]
    try rw [hG]
    clear hG
    obtain ⟨g0, g1, g2, g3, g4⟩ := P0.out.cells
    go_upto_region 3 with fail
    clear g0 g1 g2 g3 g4
    go_upto_region 4 with (first | ((with_reducible refine ld_geom rfl (.tmp 4) rfl G ?_ P0.out ?_); · rfl) | (go_at_call 18; refine (HLY.out _).mono ?_; rintro e' w2 ⟨rfl, f2⟩; replace FG := hid (FG.out.trans f2); replace P0 := hid (P0.out.fr f2); clear f2))
    obtain ⟨L, hL⟩ : ∃ q, w2.heap.size = q := ⟨_, rfl⟩
    obtain ⟨wL, hwL⟩ : ∃ q, w2.alloc (.cells #[.int .i64 ya, .int .i64 yr, .int .i64 yq, .int .i64 yb, .int .i64 (d : Nat), .int .i64 yt, .int .i64 yx, .int .i64 yu] 34) = q := ⟨_, rfl⟩
    have fL : Fr No w2 wL := by rw [← hwL]; exact fr1 _ _
    replace FG := hid (FG.out.trans fL)
    have HLL := hid (show BL wL L ya yr yq yb d yt yx yu by rw [← hwL, ← hL]; exact BL.new _ _ _ _ _ _ _ _ _)
    replace P0 := hid (P0.out.fr fL)
    rw [show w2.alloc (.cells #[.int .i64 ya, .int .i64 yr, .int .i64 yq, .int .i64 yb, .int .i64 (d : Nat), .int .i64 yt, .int .i64 yx, .int .i64 yu] 34) = wL from hwL]
    try rw [hL]
    clear hwL hL fL
    go_upto_region 5 with (first | ((with_reducible refine ld_geom rfl (.tmp 4) rfl G ?_ P0.out ?_); · rfl) | (go_at_call 39; refine (HBK.out _).mono ?_; rintro e' w5 ⟨Ab, cb, he, hi, f5⟩; rw [HBV.out] at he hi; subst he; replace FG := hid (FG.out.trans f5); replace P0 := hid (P0.out.fr f5); replace HLL := hid (HLL.out.fr f5); have HBB := hid hi; clear f5 hi))
    have HT2 := hid (HT.out.fr FG.out (fun h => h))
    have y4 := HLL.out.cells.2.2.2.2.1
    obtain ⟨i0, hi, hz0, hz1, hz2⟩ := info_parts u8_info
    have hmw : IntKind.i64.wrap (128 * (d : Int)) = 128 * d := IntWalk.i64_in _ (by have := HD.out; omega)
    have FGO := FG
    have FW : Hid (Fr No w5 w5) := hid (Fr.refl _ _)
    have FW := kd FW
    refine wp_region_noPanic ?_
    refine wp_region_held_drew (S := (fun W' => W'.cell? ⟨L, 4, none⟩ = some (.int .i64 (d : Nat)) ∧ Hid (Fr No w5 W'))) (by kernel_rfl) ?_ (fun hHeld => ?_)
    · (try dsimp only); (first | (go_split_ands; exact ⟨kc f (by assumption), by assumption⟩) | (go_split_ands; exact ⟨(by assumption), by assumption⟩) | (go_split_ands; exact ⟨kc (fr1 _ _) (by assumption), kfa (by assumption)⟩) | (exact hHeld))
    refine wpAnyH_ready (rs := [0]) (by kernel_rfl) (by simp) (AllReadyH.cons rfl (fun K hK => ?_) AllReadyH.nil)
    go_simp
    go_at_call 36
    refine (lives_ok _ (HT2.out.fr FW.out (fun h => h))).mono ?_
    rintro e W1 ⟨rfl, f⟩
    have FW := kf f hHeld.2
    dsimp only
    refine hK.out _ _ ?_ (fun hHeld => ?_)
    · (try dsimp only); (first | (go_split_ands; exact ⟨kc f (by assumption), by assumption⟩) | (go_split_ands; exact ⟨(by assumption), by assumption⟩) | (go_split_ands; exact ⟨kc (fr1 _ _) (by assumption), kfa (by assumption)⟩) | (exact hHeld))
    clear hK K
    try simp only [Act.put, List.getElem_toArray, List.getElem_cons_succ, List.getElem_cons_zero, List.setIfInBounds_toArray, List.set_cons_zero, List.set_cons_succ]
    refine wpAnyH_take (i := 1) (v := (.bool false)) rfl (by kernel_rfl) (by kernel_rfl) (by kernel_rfl) (fun _ _ _ h => h) (Or.inl ⟨by kernel_rfl, fun w hSw => by first | (go_simp; done) | (go_simp; with_reducible rfl) | (go_simp; omega)⟩) (by assumption) ?_
    try simp only [Act.put, List.getElem_toArray, List.getElem_cons_succ, List.getElem_cons_zero, List.setIfInBounds_toArray, List.set_cons_zero, List.set_cons_succ]
    refine wpAnyH_take (i := 2) (v := (.bool false)) rfl (by kernel_rfl) (by kernel_rfl) (by kernel_rfl) (fun _ _ _ h => h) (Or.inl ⟨by kernel_rfl, fun w hSw => by first | (go_simp; done) | (go_simp; with_reducible rfl) | (go_simp; omega)⟩) (by assumption) ?_
    try simp only [Act.put, List.getElem_toArray, List.getElem_cons_succ, List.getElem_cons_zero, List.setIfInBounds_toArray, List.set_cons_zero, List.set_cons_succ]
    refine wpAnyH_take (i := 3) (v := ?v13) rfl (by kernel_rfl) (by kernel_rfl) (by kernel_rfl) (fun _ _ _ h => h) (Or.inl ⟨by kernel_rfl, ?y13⟩) (by assumption) ?_
    case y13 => (intro w hSw; (try dsimp only at hSw); go_simp; all_goals with_reducible rfl)
    try simp only [Act.put, List.getElem_toArray, List.getElem_cons_succ, List.getElem_cons_zero, List.setIfInBounds_toArray, List.set_cons_zero, List.set_cons_succ]
    refine wpAnyH_take (i := 4) (v := (.string (strOfNums ZB))) rfl (by kernel_rfl) (by kernel_rfl) (by kernel_rfl) (fun _ _ _ h => h) (Or.inl ⟨by kernel_rfl, fun w hSw => by have s1 := run_str (P := Tryd.prog) w 27 9 5 Tryd.underlying27 Tryd.underlying5 Tryd.underlying9 (Ab) (ZB.length) (cb) (ZB) (HBB.out.1.fr hSw.2.out (fun _ _ _ h => h)); first | (go_simp; done) | (go_simp; with_reducible rfl) | (go_simp; omega)⟩) (by assumption) ?_
    try simp only [Act.put, List.getElem_toArray, List.getElem_cons_succ, List.getElem_cons_zero, List.setIfInBounds_toArray, List.set_cons_zero, List.set_cons_succ]
    refine wpAnyH_take (i := 5) (v := ?v14) rfl (by kernel_rfl) (by kernel_rfl) (by kernel_rfl) (fun _ _ _ h => h) (Or.inl ⟨by kernel_rfl, ?y14⟩) (by assumption) ?_
    case y14 => (intro w hSw; (try dsimp only at hSw); go_simp; all_goals with_reducible rfl)
    try simp only [Act.put, List.getElem_toArray, List.getElem_cons_succ, List.getElem_cons_zero, List.setIfInBounds_toArray, List.set_cons_zero, List.set_cons_succ]
    refine wpAnyH_take (i := 6) (v := ?v15) rfl (by kernel_rfl) (by kernel_rfl) (by kernel_rfl) (fun _ _ _ h => h) (Or.inl ⟨by kernel_rfl, ?y15⟩) (by assumption) ?_
    case y15 => (intro w hSw; (try dsimp only at hSw); go_simp; all_goals with_reducible rfl)
    try simp only [Act.put, List.getElem_toArray, List.getElem_cons_succ, List.getElem_cons_zero, List.setIfInBounds_toArray, List.set_cons_zero, List.set_cons_succ]
    refine wpAnyH_take (i := 7) (v := ?v16) rfl (by kernel_rfl) (by kernel_rfl) (by kernel_rfl) (fun _ _ _ h => h) (Or.inl ⟨by kernel_rfl, ?y16⟩) (by assumption) ?_
    case y16 => (intro w hSw; (try dsimp only at hSw); go_simp; all_goals with_reducible rfl)
    try simp only [Act.put, List.getElem_toArray, List.getElem_cons_succ, List.getElem_cons_zero, List.setIfInBounds_toArray, List.set_cons_zero, List.set_cons_succ]
    refine wpAnyH_ready (rs := [8]) (by kernel_rfl) (by simp) (AllReadyH.cons rfl (fun K hK => ?_) AllReadyH.nil)
    refine step_make (by kernel_rfl) (.tmp 32) (.tmp 32) 27 rfl 5 i0 (.int .u8 0) 1 Tryd.underlying27 hi hz0 hz1 hz2 rfl .i64 .i64 _ _ (128 * d) rfl rfl (by have := HD.out; omega) (by have := HD.out; omega) (by have := HD.out; omega) (by have := HD.out; simp only [maxLen]; omega) ?_
    intro WM own f
    have FW := kf f hHeld.2
    refine hK.out _ _ ?_ (fun hHeld => ?_)
    · (try dsimp only); (first | (go_split_ands; exact ⟨kc f (by assumption), by assumption⟩) | (go_split_ands; exact ⟨(by assumption), by assumption⟩) | (go_split_ands; exact ⟨kc (fr1 _ _) (by assumption), kfa (by assumption)⟩) | (exact hHeld))
    clear hK K
    try simp only [Act.put, List.getElem_toArray, List.getElem_cons_succ, List.getElem_cons_zero, List.setIfInBounds_toArray, List.set_cons_zero, List.set_cons_succ]
    have s3 := run_str (P := Tryd.prog) WM 27 9 5 Tryd.underlying27 Tryd.underlying5 Tryd.underlying9 (some ⟨W1.heap.size, 0, none⟩) (128 * d) (128 * d) (ZB) (mk_rd HBL.out own)
    refine wpAnyH_ready (rs := [9]) (by kernel_rfl) (by simp) (AllReadyH.cons rfl (fun K hK => ?_) AllReadyH.nil)
    go_simp
    refine hK.out _ _ ?_ (fun hHeld => ?_)
    · (try dsimp only); (first | (go_split_ands; exact ⟨kc f (by assumption), by assumption⟩) | (go_split_ands; exact ⟨(by assumption), by assumption⟩) | (go_split_ands; exact ⟨kc (fr1 _ _) (by assumption), kfa (by assumption)⟩) | (exact hHeld))
    clear hK K
    try simp only [Act.put, List.getElem_toArray, List.getElem_cons_succ, List.getElem_cons_zero, List.setIfInBounds_toArray, List.set_cons_zero, List.set_cons_succ]
    refine wpAnyH_take (i := 10) (v := ?v17) rfl (by kernel_rfl) (by kernel_rfl) (by kernel_rfl) (fun _ _ _ h => h) (Or.inl ⟨by kernel_rfl, ?y17⟩) (by assumption) ?_
    case y17 => (intro w hSw; (try dsimp only at hSw); go_simp; all_goals with_reducible rfl)
    try simp only [Act.put, List.getElem_toArray, List.getElem_cons_succ, List.getElem_cons_zero, List.setIfInBounds_toArray, List.set_cons_zero, List.set_cons_succ]
    refine wpAnyH_take (i := 11) (v := ?v18) rfl (by kernel_rfl) (by kernel_rfl) (by kernel_rfl) (fun _ _ _ h => h) (Or.inl ⟨by kernel_rfl, ?y18⟩) (by assumption) ?_
    case y18 => (intro w hSw; (try dsimp only at hSw); go_simp; all_goals with_reducible rfl)
    try simp only [Act.put, List.getElem_toArray, List.getElem_cons_succ, List.getElem_cons_zero, List.setIfInBounds_toArray, List.set_cons_zero, List.set_cons_succ]
    refine wpAnyH_done (by kernel_rfl) ?_ _
    refine NoPanic.normal ?_
    have FQ := hHeld.2
    clear hHeld
    replace FG := hid (FGO.out.trans FQ.out)
    replace P0 := hid (P0.out.fr FQ.out)
    replace HLL := hid (HLL.out.fr FQ.out)
    clear y4 FW FGO FQ HBB hmw
    go_upto_region 8 with (first | ((with_reducible refine ld_geom rfl (.tmp 4) rfl G ?_ P0.out ?_); · rfl) | (go_at_call 40; refine (HCH.out _ (HB.out.fr FG.out)).mono ?_; rintro e' w7 ⟨Ax, cx, he, hi, f7⟩; rw [HCV.out] at he hi; subst he; dsimp only [List.length_nil] at hi ⊢; replace FG := hid (FG.out.trans f7); replace HLL := hid (HLL.out.fr f7); have HXX := hid hi; clear f7 hi))
    have y4 := HLL.out.cells.2.2.2.2.1
    have hdd := HD.out
    obtain ⟨hll, hw⟩ := HN.out
    have hl1 : ((l : Int) == 128 * (d : Int)) = true := by simpa using hll
    have hl2 : ((l : Int) != 128 * (d : Int)) = false := by simpa using hll
    have HW := hid hw
    clear hll hw
    by_cases k1 : n < 1
    · go_wp2
      go_ret
      exact ⟨rfl, FG.out⟩
    by_cases k2 : a < 0
    · go_wp2
      go_ret
      exact ⟨rfl, FG.out⟩
    by_cases k3 : (d : Int) ≤ a
    · go_wp2
      go_ret
      exact ⟨rfl, FG.out⟩
    have k4 : (d : Int) - a < n := by have := HW.out; unfold wi at this; omega
    go_wp2
    go_ret
    exact ⟨rfl, FG.out⟩
  have HCV1 := hid (show chunkF ⟨gc, gs, gn, gl, gk⟩ zs a n = ((zs.drop (128 * a.toNat)).take (128 * n.toNat), 0) by rw [HCV0.out, if_pos hl, if_pos hw])
  obtain ⟨a0, n1, n2, a3⟩ := id hw
  obtain ⟨ka, rfl⟩ : ∃ q : Nat, a = q := ⟨a.toNat, by omega⟩
  obtain ⟨kn, rfl⟩ : ∃ q : Nat, n = q := ⟨n.toNat, by omega⟩
  rw [Int.toNat_natCast, Int.toNat_natCast] at HCV1
  have HN := hid (And.intro hll hw)
  have HK := hid (show 1 ≤ kn ∧ 128 * (ka + kn) ≤ l ∧ l ≤ 200000 by have := HD.out; omega)
  obtain ⟨g, o, rfl, hg0, _⟩ := HB.out.1.2 (by have := HK.out; omega)
  have HP := hid (part_b HB.out HK.out.2.1)
  have hX : ((zs.drop (128 * ka)).take (128 * kn)).length = 128 * kn := by rw [List.length_take, List.length_drop, HL.out]; have := HK.out; omega
  obtain ⟨X, hXX⟩ : ∃ X, (zs.drop (128 * ka)).take (128 * kn) = X := ⟨_, rfl⟩
  rw [hXX] at HP hX HCV1
  have HXL := hid hX
  have HCV := HCV1
  clear hXX hX hl HCV0 hll hw a0 n1 n2 a3 hg0 HCV1
  go_enter Tryd.func9, Tryd.ntmps9
  go_upto_region 1 with fail
  try rw [show w.alloc (Obj.cells #[.int .i64 gc, .int .i64 gs, .int .i64 gn, .int .i64 gl, .int .i64 gk] 23) = w1 from HW1.out]
  try rw [hG]
  clear hG
  obtain ⟨g0, g1, g2, g3, g4⟩ := P0.out.cells
  go_upto_region 3 with fail
  clear g0 g1 g2 g3 g4
  go_upto_region 4 with (first | ((with_reducible refine ld_geom rfl (.tmp 4) rfl G ?_ P0.out ?_); · rfl) | (go_at_call 18; refine (HLY.out _).mono ?_; rintro e' w2 ⟨rfl, f2⟩; replace FG := hid (FG.out.trans f2); replace P0 := hid (P0.out.fr f2); clear f2))
  obtain ⟨L, hL⟩ : ∃ q, w2.heap.size = q := ⟨_, rfl⟩
  obtain ⟨wL, hwL⟩ : ∃ q, w2.alloc (.cells #[.int .i64 ya, .int .i64 yr, .int .i64 yq, .int .i64 yb, .int .i64 (d : Nat), .int .i64 yt, .int .i64 yx, .int .i64 yu] 34) = q := ⟨_, rfl⟩
  have fL : Fr No w2 wL := by rw [← hwL]; exact fr1 _ _
  replace FG := hid (FG.out.trans fL)
  have HLL := hid (show BL wL L ya yr yq yb d yt yx yu by rw [← hwL, ← hL]; exact BL.new _ _ _ _ _ _ _ _ _)
  replace P0 := hid (P0.out.fr fL)
  rw [show w2.alloc (.cells #[.int .i64 ya, .int .i64 yr, .int .i64 yq, .int .i64 yb, .int .i64 (d : Nat), .int .i64 yt, .int .i64 yx, .int .i64 yu] 34) = wL from hwL]
  try rw [hL]
  clear hwL hL fL
  go_upto_region 5 with (first | ((with_reducible refine ld_geom rfl (.tmp 4) rfl G ?_ P0.out ?_); · rfl) | (go_at_call 39; refine (HBK.out _).mono ?_; rintro e' w5 ⟨Ab, cb, he, hi, f5⟩; rw [HBV.out] at he hi; subst he; replace FG := hid (FG.out.trans f5); replace P0 := hid (P0.out.fr f5); replace HLL := hid (HLL.out.fr f5); have HBB := hid hi; clear f5 hi))
  have HT2 := hid (HT.out.fr FG.out (fun h => h))
  have y4 := HLL.out.cells.2.2.2.2.1
  obtain ⟨i0, hi, hz0, hz1, hz2⟩ := info_parts u8_info
  have hmw : IntKind.i64.wrap (128 * (d : Int)) = 128 * d := IntWalk.i64_in _ (by have := HD.out; omega)
  have FGO := FG
  have FW : Hid (Fr No w5 w5) := hid (Fr.refl _ _)
  have FW := kd FW
  refine wp_region_noPanic ?_
  refine wp_region_held_drew (S := (fun W' => W'.cell? ⟨L, 4, none⟩ = some (.int .i64 (d : Nat)) ∧ Hid (Fr No w5 W'))) (by kernel_rfl) ?_ (fun hHeld => ?_)
  · (try dsimp only); (first | (go_split_ands; exact ⟨kc f (by assumption), by assumption⟩) | (go_split_ands; exact ⟨(by assumption), by assumption⟩) | (go_split_ands; exact ⟨kc (fr1 _ _) (by assumption), kfa (by assumption)⟩) | (exact hHeld))
  refine wpAnyH_ready (rs := [0]) (by kernel_rfl) (by simp) (AllReadyH.cons rfl (fun K hK => ?_) AllReadyH.nil)
  go_simp
  go_at_call 36
  refine (lives_ok _ (HT2.out.fr FW.out (fun h => h))).mono ?_
  rintro e W1 ⟨rfl, f⟩
  have FW := kf f hHeld.2
  dsimp only
  refine hK.out _ _ ?_ (fun hHeld => ?_)
  · (try dsimp only); (first | (go_split_ands; exact ⟨kc f (by assumption), by assumption⟩) | (go_split_ands; exact ⟨(by assumption), by assumption⟩) | (go_split_ands; exact ⟨kc (fr1 _ _) (by assumption), kfa (by assumption)⟩) | (exact hHeld))
  clear hK K
  try simp only [Act.put, List.getElem_toArray, List.getElem_cons_succ, List.getElem_cons_zero, List.setIfInBounds_toArray, List.set_cons_zero, List.set_cons_succ]
  refine wpAnyH_take (i := 1) (v := (.bool false)) rfl (by kernel_rfl) (by kernel_rfl) (by kernel_rfl) (fun _ _ _ h => h) (Or.inl ⟨by kernel_rfl, fun w hSw => by first | (go_simp; done) | (go_simp; with_reducible rfl) | (go_simp; omega)⟩) (by assumption) ?_
  try simp only [Act.put, List.getElem_toArray, List.getElem_cons_succ, List.getElem_cons_zero, List.setIfInBounds_toArray, List.set_cons_zero, List.set_cons_succ]
  refine wpAnyH_take (i := 2) (v := (.bool false)) rfl (by kernel_rfl) (by kernel_rfl) (by kernel_rfl) (fun _ _ _ h => h) (Or.inl ⟨by kernel_rfl, fun w hSw => by first | (go_simp; done) | (go_simp; with_reducible rfl) | (go_simp; omega)⟩) (by assumption) ?_
  try simp only [Act.put, List.getElem_toArray, List.getElem_cons_succ, List.getElem_cons_zero, List.setIfInBounds_toArray, List.set_cons_zero, List.set_cons_succ]
  refine wpAnyH_take (i := 3) (v := ?v19) rfl (by kernel_rfl) (by kernel_rfl) (by kernel_rfl) (fun _ _ _ h => h) (Or.inl ⟨by kernel_rfl, ?y19⟩) (by assumption) ?_
  case y19 => (intro w hSw; (try dsimp only at hSw); go_simp; all_goals with_reducible rfl)
  try simp only [Act.put, List.getElem_toArray, List.getElem_cons_succ, List.getElem_cons_zero, List.setIfInBounds_toArray, List.set_cons_zero, List.set_cons_succ]
  refine wpAnyH_take (i := 4) (v := (.string (strOfNums ZB))) rfl (by kernel_rfl) (by kernel_rfl) (by kernel_rfl) (fun _ _ _ h => h) (Or.inl ⟨by kernel_rfl, fun w hSw => by have s1 := run_str (P := Tryd.prog) w 27 9 5 Tryd.underlying27 Tryd.underlying5 Tryd.underlying9 (Ab) (ZB.length) (cb) (ZB) (HBB.out.1.fr hSw.2.out (fun _ _ _ h => h)); first | (go_simp; done) | (go_simp; with_reducible rfl) | (go_simp; omega)⟩) (by assumption) ?_
  try simp only [Act.put, List.getElem_toArray, List.getElem_cons_succ, List.getElem_cons_zero, List.setIfInBounds_toArray, List.set_cons_zero, List.set_cons_succ]
  refine wpAnyH_take (i := 5) (v := ?v20) rfl (by kernel_rfl) (by kernel_rfl) (by kernel_rfl) (fun _ _ _ h => h) (Or.inl ⟨by kernel_rfl, ?y20⟩) (by assumption) ?_
  case y20 => (intro w hSw; (try dsimp only at hSw); go_simp; all_goals with_reducible rfl)
  try simp only [Act.put, List.getElem_toArray, List.getElem_cons_succ, List.getElem_cons_zero, List.setIfInBounds_toArray, List.set_cons_zero, List.set_cons_succ]
  refine wpAnyH_take (i := 6) (v := ?v21) rfl (by kernel_rfl) (by kernel_rfl) (by kernel_rfl) (fun _ _ _ h => h) (Or.inl ⟨by kernel_rfl, ?y21⟩) (by assumption) ?_
  case y21 => (intro w hSw; (try dsimp only at hSw); go_simp; all_goals with_reducible rfl)
  try simp only [Act.put, List.getElem_toArray, List.getElem_cons_succ, List.getElem_cons_zero, List.setIfInBounds_toArray, List.set_cons_zero, List.set_cons_succ]
  refine wpAnyH_take (i := 7) (v := ?v22) rfl (by kernel_rfl) (by kernel_rfl) (by kernel_rfl) (fun _ _ _ h => h) (Or.inl ⟨by kernel_rfl, ?y22⟩) (by assumption) ?_
  case y22 => (intro w hSw; (try dsimp only at hSw); go_simp; all_goals with_reducible rfl)
  try simp only [Act.put, List.getElem_toArray, List.getElem_cons_succ, List.getElem_cons_zero, List.setIfInBounds_toArray, List.set_cons_zero, List.set_cons_succ]
  refine wpAnyH_ready (rs := [8]) (by kernel_rfl) (by simp) (AllReadyH.cons rfl (fun K hK => ?_) AllReadyH.nil)
  refine step_make (by kernel_rfl) (.tmp 32) (.tmp 32) 27 rfl 5 i0 (.int .u8 0) 1 Tryd.underlying27 hi hz0 hz1 hz2 rfl .i64 .i64 _ _ (128 * d) rfl rfl (by have := HD.out; omega) (by have := HD.out; omega) (by have := HD.out; omega) (by have := HD.out; simp only [maxLen]; omega) ?_
  intro WM own f
  have FW := kf f hHeld.2
  refine hK.out _ _ ?_ (fun hHeld => ?_)
  · (try dsimp only); (first | (go_split_ands; exact ⟨kc f (by assumption), by assumption⟩) | (go_split_ands; exact ⟨(by assumption), by assumption⟩) | (go_split_ands; exact ⟨kc (fr1 _ _) (by assumption), kfa (by assumption)⟩) | (exact hHeld))
  clear hK K
  try simp only [Act.put, List.getElem_toArray, List.getElem_cons_succ, List.getElem_cons_zero, List.setIfInBounds_toArray, List.set_cons_zero, List.set_cons_succ]
  have s3 := run_str (P := Tryd.prog) WM 27 9 5 Tryd.underlying27 Tryd.underlying5 Tryd.underlying9 (some ⟨W1.heap.size, 0, none⟩) (128 * d) (128 * d) (ZB) (mk_rd HBL.out own)
  refine wpAnyH_ready (rs := [9]) (by kernel_rfl) (by simp) (AllReadyH.cons rfl (fun K hK => ?_) AllReadyH.nil)
  go_simp
  refine hK.out _ _ ?_ (fun hHeld => ?_)
  · (try dsimp only); (first | (go_split_ands; exact ⟨kc f (by assumption), by assumption⟩) | (go_split_ands; exact ⟨(by assumption), by assumption⟩) | (go_split_ands; exact ⟨kc (fr1 _ _) (by assumption), kfa (by assumption)⟩) | (exact hHeld))
  clear hK K
  try simp only [Act.put, List.getElem_toArray, List.getElem_cons_succ, List.getElem_cons_zero, List.setIfInBounds_toArray, List.set_cons_zero, List.set_cons_succ]
  refine wpAnyH_take (i := 10) (v := ?v23) rfl (by kernel_rfl) (by kernel_rfl) (by kernel_rfl) (fun _ _ _ h => h) (Or.inl ⟨by kernel_rfl, ?y23⟩) (by assumption) ?_
  case y23 => (intro w hSw; (try dsimp only at hSw); go_simp; all_goals with_reducible rfl)
  try simp only [Act.put, List.getElem_toArray, List.getElem_cons_succ, List.getElem_cons_zero, List.setIfInBounds_toArray, List.set_cons_zero, List.set_cons_succ]
  refine wpAnyH_take (i := 11) (v := ?v24) rfl (by kernel_rfl) (by kernel_rfl) (by kernel_rfl) (fun _ _ _ h => h) (Or.inl ⟨by kernel_rfl, ?y24⟩) (by assumption) ?_
  case y24 => (intro w hSw; (try dsimp only at hSw); go_simp; all_goals with_reducible rfl)
  try simp only [Act.put, List.getElem_toArray, List.getElem_cons_succ, List.getElem_cons_zero, List.setIfInBounds_toArray, List.set_cons_zero, List.set_cons_succ]
  refine wpAnyH_done (by kernel_rfl) ?_ _
  refine NoPanic.normal ?_
  have FQ := hHeld.2
  clear hHeld
  replace FG := hid (FGO.out.trans FQ.out)
  replace P0 := hid (P0.out.fr FQ.out)
  replace HLL := hid (HLL.out.fr FQ.out)
  clear y4 FW FGO FQ HBB hmw
  go_upto_region 8 with (first | ((with_reducible refine ld_geom rfl (.tmp 4) rfl G ?_ P0.out ?_); · rfl) | (go_at_call 40; refine (HCH.out _ (HB.out.fr FG.out)).mono ?_; rintro e' w7 ⟨Ax, cx, he, hi, f7⟩; rw [HCV.out] at he hi; subst he; dsimp only [List.length_nil] at hi ⊢; replace FG := hid (FG.out.trans f7); replace HLL := hid (HLL.out.fr f7); have HXX := hid hi; clear f7 hi))
  have y4 := HLL.out.cells.2.2.2.2.1
  have hdd := HD.out
  obtain ⟨hll, hw⟩ := HN.out
  have hl1 : ((l : Int) == 128 * (d : Int)) = true := by simpa using hll
  have hl2 : ((l : Int) != 128 * (d : Int)) = false := by simpa using hll
  obtain ⟨a0, n1, n2, a3⟩ := hw
  have k1 : ¬ (kn : Int) < 1 := by omega
  have k3 : ¬ (d : Int) ≤ ka := by omega
  have k4 : ¬ (d : Int) - ka < kn := by omega
  have HLD := hid hll
  clear hll a0 n1 n2 a3
  go_upto_region 14 with fail
  clear y4 hl1 hl2 k1 k3 k4
  have HPP := hid (HP.out.fr FG.out (fun _ _ _ h => h))
  have FGO := FG
  have FW : Hid (Fr No w7 w7) := hid (Fr.refl _ _)
  obtain ⟨pa, hpa⟩ : ∃ q, 128 * ka = q := ⟨_, rfl⟩
  obtain ⟨pn, hpn⟩ : ∃ q, 128 * kn = q := ⟨_, rfl⟩
  obtain ⟨q, hq⟩ : ∃ q, pa + pn = q := ⟨_, rfl⟩
  have HPP := hid (show Rd w7 (some ⟨g, o + pa, none⟩) (q - pa) (X.map (Value.int .u8)) by rw [← hq, Nat.add_sub_cancel_left, ← hpa, ← hpn]; exact HPP.out)
  have e1 : IntKind.i64.wrap (128 * (ka : Int)) = (pa : Int) := by rw [IntWalk.i64_in _ (by have := HK.out; omega)]; omega
  have e2 : IntKind.i64.wrap (128 * (kn : Int)) = (pn : Int) := by rw [IntWalk.i64_in _ (by have := HK.out; omega)]; omega
  have e3 : IntKind.i64.wrap ((pa : Int) + (pn : Int)) = (q : Int) := by rw [IntWalk.i64_in _ (by have := HK.out; omega)]; omega
  have e4 : q ≤ c := by have := HK.out; have := HB.out.2.1; omega
  have e5 : (pa : Int) ≤ max (q : Int) 0 := by omega
  have e6 : ¬ c = pa := by have := HK.out; have := HB.out.2.1; omega
  clear hpa hpn hq
  have FW := kd FW
  refine wp_region_noPanic ?_
  refine wp_region_held_drew (S := (fun W' => Hid (Fr No w7 W'))) (by kernel_rfl) ?_ (fun hHeld => ?_)
  · (try dsimp only); (first | assumption | exact kfa (by assumption))
  refine wpAnyH_take (i := 0) (v := ?v25) rfl (by kernel_rfl) (by kernel_rfl) (by kernel_rfl) (fun _ _ _ h => h) (Or.inl ⟨by kernel_rfl, ?y25⟩) (by assumption) ?_
  case y25 => (intro w hSw; (try dsimp only at hSw); go_simp; all_goals with_reducible rfl)
  try simp only [Act.put, List.getElem_toArray, List.getElem_cons_zero, List.setIfInBounds_toArray, List.set_cons_zero, List.set_cons_succ]
  refine wpAnyH_take (i := 1) (v := (.bool true)) rfl (by kernel_rfl) (by kernel_rfl) (by kernel_rfl) (fun _ _ _ h => h) (Or.inl ⟨by kernel_rfl, fun w hSw => by first | (go_simp; done) | (go_simp; with_reducible rfl) | (go_simp; omega)⟩) (by assumption) ?_
  try simp only [Act.put, List.getElem_toArray, List.getElem_cons_succ, List.getElem_cons_zero, List.setIfInBounds_toArray, List.set_cons_zero, List.set_cons_succ]
  refine wpAnyH_take (i := 2) (v := (.bool true)) rfl (by kernel_rfl) (by kernel_rfl) (by kernel_rfl) (fun _ _ _ h => h) (Or.inl ⟨by kernel_rfl, fun w hSw => by first | (go_simp; done) | (go_simp; with_reducible rfl) | (go_simp; omega)⟩) (by assumption) ?_
  try simp only [Act.put, List.getElem_toArray, List.getElem_cons_succ, List.getElem_cons_zero, List.setIfInBounds_toArray, List.set_cons_zero, List.set_cons_succ]
  refine wpAnyH_take (i := 3) (v := ?v26) rfl (by kernel_rfl) (by kernel_rfl) (by kernel_rfl) (fun _ _ _ h => h) (Or.inl ⟨by kernel_rfl, ?y26⟩) (by assumption) ?_
  case y26 => (intro w hSw; (try dsimp only at hSw); go_simp; all_goals with_reducible rfl)
  try simp only [Act.put, List.getElem_toArray, List.getElem_cons_succ, List.getElem_cons_zero, List.setIfInBounds_toArray, List.set_cons_zero, List.set_cons_succ]
  refine wpAnyH_take (i := 4) (v := (.string (strOfNums X))) rfl (by kernel_rfl) (by kernel_rfl) (by kernel_rfl) (fun _ _ _ h => h) (Or.inl ⟨by kernel_rfl, fun w hSw => by have s1 := run_str (P := Tryd.prog) w 27 9 5 Tryd.underlying27 Tryd.underlying5 Tryd.underlying9 (Ax) (X.length) (cx) (X) (HXX.out.1.fr hSw.out (fun _ _ _ h => h)); first | (go_simp; done) | (go_simp; with_reducible rfl) | (go_simp; omega)⟩) (by assumption) ?_
  try simp only [Act.put, List.getElem_toArray, List.getElem_cons_succ, List.getElem_cons_zero, List.setIfInBounds_toArray, List.set_cons_zero, List.set_cons_succ]
  refine wpAnyH_take (i := 5) (v := ?v27) rfl (by kernel_rfl) (by kernel_rfl) (by kernel_rfl) (fun _ _ _ h => h) (Or.inl ⟨by kernel_rfl, ?y27⟩) (by assumption) ?_
  case y27 => (intro w hSw; (try dsimp only at hSw); go_simp; all_goals with_reducible rfl)
  try simp only [Act.put, List.getElem_toArray, List.getElem_cons_succ, List.getElem_cons_zero, List.setIfInBounds_toArray, List.set_cons_zero, List.set_cons_succ]
  refine wpAnyH_take (i := 6) (v := ?v28) rfl (by kernel_rfl) (by kernel_rfl) (by kernel_rfl) (fun _ _ _ h => h) (Or.inl ⟨by kernel_rfl, ?y28⟩) (by assumption) ?_
  case y28 => (intro w hSw; (try dsimp only at hSw); go_simp; all_goals with_reducible rfl)
  try simp only [Act.put, List.getElem_toArray, List.getElem_cons_succ, List.getElem_cons_zero, List.setIfInBounds_toArray, List.set_cons_zero, List.set_cons_succ]
  refine wpAnyH_take (i := 7) (v := ?v29) rfl (by kernel_rfl) (by kernel_rfl) (by kernel_rfl) (fun _ _ _ h => h) (Or.inl ⟨by kernel_rfl, ?y29⟩) (by assumption) ?_
  case y29 => (intro w hSw; (try dsimp only at hSw); go_simp; all_goals with_reducible rfl)
  try simp only [Act.put, List.getElem_toArray, List.getElem_cons_succ, List.getElem_cons_zero, List.setIfInBounds_toArray, List.set_cons_zero, List.set_cons_succ]
  refine wpAnyH_take (i := 8) (v := ?v30) rfl (by kernel_rfl) (by kernel_rfl) (by kernel_rfl) (fun _ _ _ h => h) (Or.inl ⟨by kernel_rfl, ?y30⟩) (by assumption) ?_
  case y30 => (intro w hSw; (try dsimp only at hSw); go_simp; all_goals with_reducible rfl)
  try simp only [Act.put, List.getElem_toArray, List.getElem_cons_succ, List.getElem_cons_zero, List.setIfInBounds_toArray, List.set_cons_zero, List.set_cons_succ]
  refine wpAnyH_take (i := 9) (v := ?v31) rfl (by kernel_rfl) (by kernel_rfl) (by kernel_rfl) (fun _ _ _ h => h) (Or.inl ⟨by kernel_rfl, ?y31⟩) (by assumption) ?_
  case y31 => (intro w hSw; (try dsimp only at hSw); go_simp; all_goals with_reducible rfl)
  try simp only [Act.put, List.getElem_toArray, List.getElem_cons_succ, List.getElem_cons_zero, List.setIfInBounds_toArray, List.set_cons_zero, List.set_cons_succ]
  refine wpAnyH_take (i := 10) (v := ?v32) rfl (by kernel_rfl) (by kernel_rfl) (by kernel_rfl) (fun _ _ _ h => h) (Or.inl ⟨by kernel_rfl, ?y32⟩) (by assumption) ?_
  case y32 => (intro w hSw; (try dsimp only at hSw); go_simp; all_goals with_reducible rfl)
  try simp only [Act.put, List.getElem_toArray, List.getElem_cons_succ, List.getElem_cons_zero, List.setIfInBounds_toArray, List.set_cons_zero, List.set_cons_succ]
  refine wpAnyH_take (i := 11) (v := ?v33) rfl (by kernel_rfl) (by kernel_rfl) (by kernel_rfl) (fun _ _ _ h => h) (Or.inl ⟨by kernel_rfl, ?y33⟩) (by assumption) ?_
  case y33 => (intro w hSw; (try dsimp only at hSw); go_simp; all_goals with_reducible rfl)
  try simp only [Act.put, List.getElem_toArray, List.getElem_cons_succ, List.getElem_cons_zero, List.setIfInBounds_toArray, List.set_cons_zero, List.set_cons_succ]
  refine wpAnyH_take (i := 12) (v := ?v34) rfl (by kernel_rfl) (by kernel_rfl) (by kernel_rfl) (fun _ _ _ h => h) (Or.inl ⟨by kernel_rfl, ?y34⟩) (by assumption) ?_
  case y34 => (intro w hSw; (try dsimp only at hSw); go_simp; all_goals with_reducible rfl)
  try simp only [Act.put, List.getElem_toArray, List.getElem_cons_succ, List.getElem_cons_zero, List.setIfInBounds_toArray, List.set_cons_zero, List.set_cons_succ]
  refine wpAnyH_take (i := 13) (v := (.slice (some ⟨g, o + pa, none⟩) (q - pa) (c - pa))) rfl (by kernel_rfl) (by kernel_rfl) (by kernel_rfl) (fun _ _ _ h => h) (Or.inl ⟨by kernel_rfl, fun w hSw => by first | (go_simp; done) | (go_simp; with_reducible rfl) | (go_simp; omega)⟩) (by assumption) ?_
  try simp only [Act.put, List.getElem_toArray, List.getElem_cons_succ, List.getElem_cons_zero, List.setIfInBounds_toArray, List.set_cons_zero, List.set_cons_succ]
  refine wpAnyH_take (i := 14) (v := (.string (strOfNums X))) rfl (by kernel_rfl) (by kernel_rfl) (by kernel_rfl) (fun _ _ _ h => h) (Or.inl ⟨by kernel_rfl, fun w hSw => by have s2 := run_str (P := Tryd.prog) w 27 9 5 Tryd.underlying27 Tryd.underlying5 Tryd.underlying9 (some ⟨g, o + pa, none⟩) (q - pa) (c - pa) (X) (HPP.out.fr hSw.out (fun _ _ _ h => h)); first | (go_simp; done) | (go_simp; with_reducible rfl) | (go_simp; omega)⟩) (by assumption) ?_
  try simp only [Act.put, List.getElem_toArray, List.getElem_cons_succ, List.getElem_cons_zero, List.setIfInBounds_toArray, List.set_cons_zero, List.set_cons_succ]
  refine wpAnyH_take (i := 15) (v := ?v35) rfl (by kernel_rfl) (by kernel_rfl) (by kernel_rfl) (fun _ _ _ h => h) (Or.inl ⟨by kernel_rfl, ?y35⟩) (by assumption) ?_
  case y35 => (intro w hSw; (try dsimp only at hSw); go_simp; all_goals with_reducible rfl)
  try simp only [Act.put, List.getElem_toArray, List.getElem_cons_succ, List.getElem_cons_zero, List.setIfInBounds_toArray, List.set_cons_zero, List.set_cons_succ]
  refine wpAnyH_take (i := 16) (v := ?v36) rfl (by kernel_rfl) (by kernel_rfl) (by kernel_rfl) (fun _ _ _ h => h) (Or.inl ⟨by kernel_rfl, ?y36⟩) (by assumption) ?_
  case y36 => (intro w hSw; (try dsimp only at hSw); go_simp; all_goals with_reducible rfl)
  try simp only [Act.put, List.getElem_toArray, List.getElem_cons_succ, List.getElem_cons_zero, List.setIfInBounds_toArray, List.set_cons_zero, List.set_cons_succ]
  refine wpAnyH_take (i := 17) (v := ?v37) rfl (by kernel_rfl) (by kernel_rfl) (by kernel_rfl) (fun _ _ _ h => h) (Or.inl ⟨by kernel_rfl, ?y37⟩) (by assumption) ?_
  case y37 => (intro w hSw; (try dsimp only at hSw); go_simp; all_goals with_reducible rfl)
  try simp only [Act.put, List.getElem_toArray, List.getElem_cons_succ, List.getElem_cons_zero, List.setIfInBounds_toArray, List.set_cons_zero, List.set_cons_succ]
  refine wpAnyH_done (by kernel_rfl) ?_ _
  refine NoPanic.normal ?_
  have FQ := hHeld
  go_wp2
  go_ret
  exact ⟨rfl, FGO.out.trans FQ.out⟩
end Go.Proofs.YtpiplcakefcaaaaDoor.BdW
