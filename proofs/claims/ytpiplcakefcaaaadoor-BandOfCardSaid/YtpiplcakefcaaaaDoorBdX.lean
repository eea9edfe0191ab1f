/- BandOf, walked. Conditions: what comes in reads as bytes; the geometry's count of zones and the numbers are 64 bits; the table of sums is as its text lays it. -/
import Derived.Test.YtpiplcakefcaaaaDoorBdT
namespace Go.Proofs.YtpiplcakefcaaaaDoor.BdX
open Go.RowKit MSep MFrame Kit MGeM CrcA CrcM CrcE BdM BdA BdB BdC BdD BdE BdR BdT
open GeA (bg BG BL ld_geom ld_lay by_)
open GeE (rlo)

theorem rsumF (A : Option Addr) (l c : Nat) (zs : List Int) (w : World) (hb : IsB w A l c zs) : Calls Tryd.prog 49 #[.slice A l c] w fun e w' => e = .returned (.int .u32 (onN 0 zs : Nat)) ∧ Fr No w w' :=
  (CrcD.refSum_any A l c zs w hb.1 hb.2.2.2 (by have := hb.2.1; have := hb.2.2.1; omega)).mono (by rintro e w' ⟨rfl, rfl⟩; exact ⟨rfl, Fr.refl _ _⟩)
set_option maxRecDepth 100000 in
set_option maxHeartbeats 8000000 in
theorem of_w (gc gs gn gl gk n u : Int) (A : Option Addr) (l c : Nat) (zs : List Int) (ob ou os : Int) (w : World) (hs : r64 gs) (hb : IsB w A l c zs) (hT : TabAt w) :
    Calls Tryd.prog 13 #[.agg #[.int .i64 gc, .int .i64 gs, .int .i64 gn, .int .i64 gl, .int .i64 gk], .int .i64 n, .int .i64 u, .slice A l c, lv ob ou os] w fun e w' => e = .returned (.bool true) ∧ Fr No w w' := by
  have hlen : zs.length = l := by simpa using hb.1.1
  have HL := hid hlen
  obtain ⟨G, hG⟩ : ∃ G, w.heap.size = G := ⟨_, rfl⟩
  obtain ⟨w1, hw1⟩ : ∃ w1, (w.alloc (bg gc gs gn gl gk)).alloc (.cells (lcs ob ou os) 76) = w1 := ⟨_, rfl⟩
  have FG := hid (show Fr No w w1 by rw [← hw1]; exact (fr1 _ _).alloc _)
  have P0 := hid (show BG w1 G gc gs gn gl gk by rw [← hw1, ← hG]; exact (BG.new w gc gs gn gl gk : Blk _ _ _ _).alloc _)
  have P1 := hid (show LB w1 (G + 1) ob ou os by
    rw [← hw1, ← hG]
    have := LB.new (w.alloc (bg gc gs gn gl gk)) ob ou os
    rwa [World.size_alloc] at this)
  have HW1 := hid hw1
  have HB := hid hb
  have HT := hid hT
  have HLY := hid (fun W => GeEk.rlayout_ok gc gs gn gl gk W hs)
  have HOF := hid (fun W (h1 : IsB W A l c zs) (h2 : TabAt W) => of_ok gc gs gn gl gk n u A l c zs W hs h1 h2)
  have HRI := hid (fun b u s v W (h1 : IsB W A l c zs) (h2 : TabAt W) hv => right_ok gc gs gn gl gk b u s A l c zs v W hs h1 h2 hv)
  have HMY := hid (fun (b u s : Int) v W hv => rmaylb_ok gc gs gn gl gk b u s v W hs hv)
  obtain ⟨sum, hsum⟩ : ∃ s : Int, ((onN 0 zs : Nat) : Int) = s := ⟨_, rfl⟩
  have hsi := onN_in 0 zs
  rw [hsum] at hsi
  have HSUM := hid hsum
  have hcv : ∀ w, (convert 42 3 (.int .u32 sum)).run Tryd.prog w = .ok (.int .i64 sum) w := fun w => by
    have e : IntKind.i64.wrap sum = sum := IntWalk.i64_in _ (by omega)
    have q : ∀ n w, (convert 42 3 (.int .u32 n)).run Tryd.prog w = .ok (.int .i64 (IntKind.i64.wrap n)) w := fun n w => by kernel_rfl
    rw [q, e]
  clear hs hb hT hw1 hlen hsum hsi
  by_cases h2 : 200 < gn
  · go_enter Tryd.func13, Tryd.ntmps13
    go_upto_region 1 with fail
    try rw [show (w.alloc (Obj.cells #[.int .i64 gc, .int .i64 gs, .int .i64 gn, .int .i64 gl, .int .i64 gk] 23)).alloc (Obj.cells #[.int .i64 ob, .int .i64 ou, .int .i64 os] 76) = w1 from HW1.out]
    try rw [hG]
    clear hG
    obtain ⟨g0, g1, g2, g3, g4⟩ := P0.out.cells
    go_wp2_with (go_at_call 36; refine (lives_ok _ (HT.out.fr FG.out (fun h => h))).mono ?_; rintro e' wl ⟨rfl, f⟩; replace FG := hid (FG.out.trans f); clear f)
    go_ret
    exact ⟨rfl, FG.out⟩
  by_cases hm : mayG ⟨gc, gs, gn, gl, gk⟩
  case neg =>
    have HOV := hid (show ofF ⟨gc, gs, gn, gl, gk⟩ n u zs = (⟨0, 0, 0⟩, 70) from if_neg hm)
    have HRN := hid (fun W h1 h2 => HRI.out ob ou os false W h1 h2 ⟨(fun h => by cases h), fun h => by have h3 := h.1; rw [ofF, if_neg hm] at h3; cases h3⟩)
    rw [show rlo ⟨gc, gs, gn, gl, gk⟩ = (z8, false) by unfold rlo; rw [if_neg hm]] at HLY
    unfold z8 at HLY
    dsimp only at HLY
    clear hm HRI HMY
    go_enter Tryd.func13, Tryd.ntmps13
    go_upto_region 1 with fail
    try rw [show (w.alloc (Obj.cells #[.int .i64 gc, .int .i64 gs, .int .i64 gn, .int .i64 gl, .int .i64 gk] 23)).alloc (Obj.cells #[.int .i64 ob, .int .i64 ou, .int .i64 os] 76) = w1 from HW1.out]
    try rw [hG]
    clear hG
    obtain ⟨g0, g1, g2, g3, g4⟩ := P0.out.cells
    go_upto_region 3 with fail
    clear g0 g1 g2 g3 g4
    go_upto_region 4 with (first | ((with_reducible refine ld_geom rfl (.tmp 5) rfl G ?_ P0.out ?_); · rfl) | (go_at_call 48; refine (HOF.out _ (HB.out.fr FG.out) (HT.out.fr FG.out (fun h => h))).mono ?_; rintro e' w2 ⟨he, f2⟩; rw [HOV.out] at he; subst he; dsimp only; replace FG := hid (FG.out.trans f2); replace P0 := hid (P0.out.fr f2); replace P1 := hid (P1.out.fr f2); clear f2))
    obtain ⟨X, hX⟩ : ∃ q, w2.heap.size = q := ⟨_, rfl⟩
    obtain ⟨wX, hwX⟩ : ∃ q, w2.alloc (.cells #[.int .i64 0, .int .i64 0, .int .i64 0] 76) = q := ⟨_, rfl⟩
    have fX : Fr No w2 wX := by rw [← hwX]; exact fr1 _ _
    replace FG := hid (FG.out.trans fX)
    have HX := hid (show LB wX X 0 0 0 by rw [← hwX, ← hX]; exact LB.new _ _ _ _)
    replace P0 := hid (P0.out.fr fX)
    replace P1 := hid (P1.out.fr fX)
    rw [show w2.alloc (.cells #[.int .i64 0, .int .i64 0, .int .i64 0] 76) = wX from hwX]
    try rw [hX]
    clear hwX hX fX
    go_upto_region 5 with (first | ((with_reducible refine ld_geom rfl (.tmp 5) rfl G ?_ P0.out ?_); · rfl) | (go_at_call 18; refine (HLY.out _).mono ?_; rintro e' w4 ⟨rfl, f4⟩; replace FG := hid (FG.out.trans f4); replace P0 := hid (P0.out.fr f4); replace P1 := hid (P1.out.fr f4); replace HX := hid (HX.out.fr f4); clear f4))
    obtain ⟨L, hL⟩ : ∃ q, w4.heap.size = q := ⟨_, rfl⟩
    obtain ⟨wL, hwL⟩ : ∃ q, w4.alloc (.cells #[.int .i64 0, .int .i64 0, .int .i64 0, .int .i64 0, .int .i64 0, .int .i64 0, .int .i64 0, .int .i64 0] 34) = q := ⟨_, rfl⟩
    have fL : Fr No w4 wL := by rw [← hwL]; exact fr1 _ _
    replace FG := hid (FG.out.trans fL)
    have HLL := hid (show BL wL L 0 0 0 0 0 0 0 0 by rw [← hwL, ← hL]; exact BL.new _ _ _ _ _ _ _ _ _)
    replace P0 := hid (P0.out.fr fL)
    replace P1 := hid (P1.out.fr fL)
    replace HX := hid (HX.out.fr fL)
    rw [show w4.alloc (.cells #[.int .i64 0, .int .i64 0, .int .i64 0, .int .i64 0, .int .i64 0, .int .i64 0, .int .i64 0, .int .i64 0] 34) = wL from hwL]
    try rw [hL]
    clear hwL hL fL
    go_upto_region 6 with (go_at_call 49; refine (rsumF A l c zs _ (HB.out.fr FG.out)).mono ?_; rintro e' w6 ⟨rfl, f6⟩; rw [HSUM.out]; replace FG := hid (FG.out.trans f6); replace P0 := hid (P0.out.fr f6); replace P1 := hid (P1.out.fr f6); replace HX := hid (HX.out.fr f6); replace HLL := hid (HLL.out.fr f6); clear f6)
    obtain ⟨Q, hQ⟩ : ∃ q, w6.heap.size = q := ⟨_, rfl⟩
    obtain ⟨wQ, hwQ⟩ : ∃ q, w6.alloc (.cells #[.int .i64 n, .int .i64 u, .int .i64 sum] 76) = q := ⟨_, rfl⟩
    have fQ : Fr No w6 wQ := by rw [← hwQ]; exact fr1 _ _
    replace FG := hid (FG.out.trans fQ)
    have HQ := hid (show LB wQ Q n u sum by rw [← hwQ, ← hQ]; exact LB.new _ _ _ _)
    replace P0 := hid (P0.out.fr fQ)
    replace P1 := hid (P1.out.fr fQ)
    replace HX := hid (HX.out.fr fQ)
    replace HLL := hid (HLL.out.fr fQ)
    rw [show w6.alloc (.cells #[.int .i64 n, .int .i64 u, .int .i64 sum] 76) = wQ from hwQ]
    try rw [hQ]
    clear hwQ hQ fQ
    go_upto_region 8 with (go_at_call 36; refine (lives_ok _ (HT.out.fr FG.out (fun h => h))).mono ?_; rintro e' wl ⟨rfl, f⟩; replace FG := hid (FG.out.trans f); replace P0 := hid (P0.out.fr f); replace P1 := hid (P1.out.fr f); replace HX := hid (HX.out.fr f); replace HLL := hid (HLL.out.fr f); replace HQ := hid (HQ.out.fr f); obtain ⟨g0, g1, g2, g3, g4⟩ := P0.out.cells; obtain ⟨o0, o1, o2⟩ := P1.out.cells; obtain ⟨x0, x1, x2⟩ := HX.out.cells; obtain ⟨q0, q1, q2⟩ := HQ.out.cells; have y4 := HLL.out.cells.2.2.2.2.1; clear f)
    go_wp2_with (first | (go_at_call 50; refine (HRN.out _ (HB.out.fr FG.out) (HT.out.fr FG.out (fun h => h))).mono ?_; rintro e' wr ⟨rfl, fwr⟩; clear g0 g1 g2 g3 g4 o0 o1 o2 x0 x1 x2 q0 q1 q2 y4; replace FG := hid (FG.out.trans fwr); replace P0 := hid (P0.out.fr fwr); replace P1 := hid (P1.out.fr fwr); replace HX := hid (HX.out.fr fwr); replace HLL := hid (HLL.out.fr fwr); replace HQ := hid (HQ.out.fr fwr); obtain ⟨g0, g1, g2, g3, g4⟩ := P0.out.cells; obtain ⟨o0, o1, o2⟩ := P1.out.cells; obtain ⟨x0, x1, x2⟩ := HX.out.cells; obtain ⟨q0, q1, q2⟩ := HQ.out.cells; have y4 := HLL.out.cells.2.2.2.2.1; clear fwr))
    go_ret
    exact ⟨rfl, FG.out⟩
  rw [show rlo ⟨gc, gs, gn, gl, gk⟩ = (lay ⟨gc, gs, gn, gl, gk⟩, true) by unfold rlo; rw [if_pos hm]] at HLY
  have hg := good hm.1
  obtain ⟨y, hy⟩ : ∃ y, lay ⟨gc, gs, gn, gl, gk⟩ = y := ⟨_, rfl⟩
  rw [hy] at HLY hg
  have hd1 := hg.d1
  have hd2 := hg.d2
  have HOE := hid (show ∀ b u, ofF ⟨gc, gs, gn, gl, gk⟩ b u zs = if (zs.length : Int) = 128 * y.d ∧ mayLb ⟨gc, gs, gn, gl, gk⟩ ⟨b, u, sum⟩ then (⟨b, u, sum⟩, 0) else (lz, 1) from fun b u => by unfold ofF; rw [if_pos hm, hy, HSUM.out])
  have HRP := hid (show ∀ b u s, rightP ⟨gc, gs, gn, gl, gk⟩ b u s zs ↔ ((zs.length : Int) = 128 * y.d ∧ mayLb ⟨gc, gs, gn, gl, gk⟩ ⟨b, u, sum⟩) ∧ s = sum from fun b u s => by
    unfold rightP
    rw [HOE.out, HSUM.out]
    by_cases hc : (zs.length : Int) = 128 * y.d ∧ mayLb ⟨gc, gs, gn, gl, gk⟩ ⟨b, u, sum⟩
    · rw [if_pos hc]; exact ⟨fun h => ⟨hc, h.2⟩, fun h => ⟨rfl, h.2⟩⟩
    · rw [if_neg hc]; exact ⟨(fun h => absurd h.1 (by decide)), fun h => absurd h.1 hc⟩)
  clear hy hg hm
  obtain ⟨ya, yr, yq, yb, yd, yt, yx, yu⟩ := y
  dsimp only at HLY hd1 hd2 HOE HRP
  obtain ⟨d, rfl⟩ : ∃ d : Nat, yd = d := ⟨yd.toNat, by omega⟩
  have HD := hid (show d ≤ 1023 by omega)
  clear hd1 hd2
  by_cases hl : (zs.length : Int) = 128 * d
  case neg =>
    have HOV := hid (show ofF ⟨gc, gs, gn, gl, gk⟩ n u zs = (⟨0, 0, 0⟩, 1) by rw [HOE.out, if_neg (fun h => hl h.1)]; rfl)
    have HRN := hid (fun W h1 h2 => HRI.out ob ou os false W h1 h2 ⟨(fun h => by cases h), fun h => absurd ((HRP.out _ _ _).1 h).1.1 hl⟩)
    have hll : ((l : Int) == 128 * (d : Int)) = false := by rw [← HL.out]; simpa using hl
    have hll2 : ((l : Int) != 128 * (d : Int)) = true := by rw [← HL.out]; simpa using hl
    have HN := hid (And.intro hll hll2)
    clear hl hll hll2 HRI HMY HOE HRP
    go_enter Tryd.func13, Tryd.ntmps13
    go_upto_region 1 with fail
    try rw [show (w.alloc (Obj.cells #[.int .i64 gc, .int .i64 gs, .int .i64 gn, .int .i64 gl, .int .i64 gk] 23)).alloc (Obj.cells #[.int .i64 ob, .int .i64 ou, .int .i64 os] 76) = w1 from HW1.out]
    try rw [hG]
    clear hG
    obtain ⟨g0, g1, g2, g3, g4⟩ := P0.out.cells
    go_upto_region 3 with fail
    clear g0 g1 g2 g3 g4
    go_upto_region 4 with (first | ((with_reducible refine ld_geom rfl (.tmp 5) rfl G ?_ P0.out ?_); · rfl) | (go_at_call 48; refine (HOF.out _ (HB.out.fr FG.out) (HT.out.fr FG.out (fun h => h))).mono ?_; rintro e' w2 ⟨he, f2⟩; rw [HOV.out] at he; subst he; dsimp only; replace FG := hid (FG.out.trans f2); replace P0 := hid (P0.out.fr f2); replace P1 := hid (P1.out.fr f2); clear f2))
    obtain ⟨X, hX⟩ : ∃ q, w2.heap.size = q := ⟨_, rfl⟩
    obtain ⟨wX, hwX⟩ : ∃ q, w2.alloc (.cells #[.int .i64 0, .int .i64 0, .int .i64 0] 76) = q := ⟨_, rfl⟩
    have fX : Fr No w2 wX := by rw [← hwX]; exact fr1 _ _
    replace FG := hid (FG.out.trans fX)
    have HX := hid (show LB wX X 0 0 0 by rw [← hwX, ← hX]; exact LB.new _ _ _ _)
    replace P0 := hid (P0.out.fr fX)
    replace P1 := hid (P1.out.fr fX)
    rw [show w2.alloc (.cells #[.int .i64 0, .int .i64 0, .int .i64 0] 76) = wX from hwX]
    try rw [hX]
    clear hwX hX fX
    go_upto_region 5 with (first | ((with_reducible refine ld_geom rfl (.tmp 5) rfl G ?_ P0.out ?_); · rfl) | (go_at_call 18; refine (HLY.out _).mono ?_; rintro e' w4 ⟨rfl, f4⟩; replace FG := hid (FG.out.trans f4); replace P0 := hid (P0.out.fr f4); replace P1 := hid (P1.out.fr f4); replace HX := hid (HX.out.fr f4); clear f4))
    obtain ⟨L, hL⟩ : ∃ q, w4.heap.size = q := ⟨_, rfl⟩
    obtain ⟨wL, hwL⟩ : ∃ q, w4.alloc (.cells #[.int .i64 ya, .int .i64 yr, .int .i64 yq, .int .i64 yb, .int .i64 (d : Nat), .int .i64 yt, .int .i64 yx, .int .i64 yu] 34) = q := ⟨_, rfl⟩
    have fL : Fr No w4 wL := by rw [← hwL]; exact fr1 _ _
    replace FG := hid (FG.out.trans fL)
    have HLL := hid (show BL wL L ya yr yq yb d yt yx yu by rw [← hwL, ← hL]; exact BL.new _ _ _ _ _ _ _ _ _)
    replace P0 := hid (P0.out.fr fL)
    replace P1 := hid (P1.out.fr fL)
    replace HX := hid (HX.out.fr fL)
    rw [show w4.alloc (.cells #[.int .i64 ya, .int .i64 yr, .int .i64 yq, .int .i64 yb, .int .i64 (d : Nat), .int .i64 yt, .int .i64 yx, .int .i64 yu] 34) = wL from hwL]
    try rw [hL]
    clear hwL hL fL
    go_upto_region 6 with (go_at_call 49; refine (rsumF A l c zs _ (HB.out.fr FG.out)).mono ?_; rintro e' w6 ⟨rfl, f6⟩; rw [HSUM.out]; replace FG := hid (FG.out.trans f6); replace P0 := hid (P0.out.fr f6); replace P1 := hid (P1.out.fr f6); replace HX := hid (HX.out.fr f6); replace HLL := hid (HLL.out.fr f6); clear f6)
    obtain ⟨Q, hQ⟩ : ∃ q, w6.heap.size = q := ⟨_, rfl⟩
    obtain ⟨wQ, hwQ⟩ : ∃ q, w6.alloc (.cells #[.int .i64 n, .int .i64 u, .int .i64 sum] 76) = q := ⟨_, rfl⟩
    have fQ : Fr No w6 wQ := by rw [← hwQ]; exact fr1 _ _
    replace FG := hid (FG.out.trans fQ)
    have HQ := hid (show LB wQ Q n u sum by rw [← hwQ, ← hQ]; exact LB.new _ _ _ _)
    replace P0 := hid (P0.out.fr fQ)
    replace P1 := hid (P1.out.fr fQ)
    replace HX := hid (HX.out.fr fQ)
    replace HLL := hid (HLL.out.fr fQ)
    rw [show w6.alloc (.cells #[.int .i64 n, .int .i64 u, .int .i64 sum] 76) = wQ from hwQ]
    try rw [hQ]
    clear hwQ hQ fQ
    go_upto_region 8 with (go_at_call 36; refine (lives_ok _ (HT.out.fr FG.out (fun h => h))).mono ?_; rintro e' wl ⟨rfl, f⟩; replace FG := hid (FG.out.trans f); replace P0 := hid (P0.out.fr f); replace P1 := hid (P1.out.fr f); replace HX := hid (HX.out.fr f); replace HLL := hid (HLL.out.fr f); replace HQ := hid (HQ.out.fr f); obtain ⟨g0, g1, g2, g3, g4⟩ := P0.out.cells; obtain ⟨o0, o1, o2⟩ := P1.out.cells; obtain ⟨x0, x1, x2⟩ := HX.out.cells; obtain ⟨q0, q1, q2⟩ := HQ.out.cells; have y4 := HLL.out.cells.2.2.2.2.1; clear f)
    have hdd := HD.out
    obtain ⟨hll, hll2⟩ := HN.out
    go_wp2_with (first | (go_at_call 50; refine (HRN.out _ (HB.out.fr FG.out) (HT.out.fr FG.out (fun h => h))).mono ?_; rintro e' wr ⟨rfl, fwr⟩; clear g0 g1 g2 g3 g4 o0 o1 o2 x0 x1 x2 q0 q1 q2 y4; replace FG := hid (FG.out.trans fwr); replace P0 := hid (P0.out.fr fwr); replace P1 := hid (P1.out.fr fwr); replace HX := hid (HX.out.fr fwr); replace HLL := hid (HLL.out.fr fwr); replace HQ := hid (HQ.out.fr fwr); obtain ⟨g0, g1, g2, g3, g4⟩ := P0.out.cells; obtain ⟨o0, o1, o2⟩ := P1.out.cells; obtain ⟨x0, x1, x2⟩ := HX.out.cells; obtain ⟨q0, q1, q2⟩ := HQ.out.cells; have y4 := HLL.out.cells.2.2.2.2.1; clear fwr))
    go_ret
    exact ⟨rfl, FG.out⟩
  have hll : (l : Int) = 128 * d := by rw [← HL.out]; exact hl
  have hl1 : ((l : Int) == 128 * (d : Int)) = true := by simpa using hll
  have hl2 : ((l : Int) != 128 * (d : Int)) = false := by simpa using hll
  have HN := hid (And.intro hl1 hl2)
  clear hl1 hl2 hll
  by_cases hq : mayLb ⟨gc, gs, gn, gl, gk⟩ ⟨n, u, sum⟩
  case neg =>
    have HOV := hid (show ofF ⟨gc, gs, gn, gl, gk⟩ n u zs = (⟨0, 0, 0⟩, 1) by rw [HOE.out, if_neg (fun h => hq h.2)]; rfl)
    have HMN := hid (fun W => HMY.out n u sum false W (by simpa using hq))
    clear hl hq HRI HMY HOE HRP
    go_enter Tryd.func13, Tryd.ntmps13
    go_upto_region 1 with fail
    try rw [show (w.alloc (Obj.cells #[.int .i64 gc, .int .i64 gs, .int .i64 gn, .int .i64 gl, .int .i64 gk] 23)).alloc (Obj.cells #[.int .i64 ob, .int .i64 ou, .int .i64 os] 76) = w1 from HW1.out]
    try rw [hG]
    clear hG
    obtain ⟨g0, g1, g2, g3, g4⟩ := P0.out.cells
    go_upto_region 3 with fail
    clear g0 g1 g2 g3 g4
    go_upto_region 4 with (first | ((with_reducible refine ld_geom rfl (.tmp 5) rfl G ?_ P0.out ?_); · rfl) | (go_at_call 48; refine (HOF.out _ (HB.out.fr FG.out) (HT.out.fr FG.out (fun h => h))).mono ?_; rintro e' w2 ⟨he, f2⟩; rw [HOV.out] at he; subst he; dsimp only; replace FG := hid (FG.out.trans f2); replace P0 := hid (P0.out.fr f2); replace P1 := hid (P1.out.fr f2); clear f2))
    obtain ⟨X, hX⟩ : ∃ q, w2.heap.size = q := ⟨_, rfl⟩
    obtain ⟨wX, hwX⟩ : ∃ q, w2.alloc (.cells #[.int .i64 0, .int .i64 0, .int .i64 0] 76) = q := ⟨_, rfl⟩
    have fX : Fr No w2 wX := by rw [← hwX]; exact fr1 _ _
    replace FG := hid (FG.out.trans fX)
    have HX := hid (show LB wX X 0 0 0 by rw [← hwX, ← hX]; exact LB.new _ _ _ _)
    replace P0 := hid (P0.out.fr fX)
    replace P1 := hid (P1.out.fr fX)
    rw [show w2.alloc (.cells #[.int .i64 0, .int .i64 0, .int .i64 0] 76) = wX from hwX]
    try rw [hX]
    clear hwX hX fX
    go_upto_region 5 with (first | ((with_reducible refine ld_geom rfl (.tmp 5) rfl G ?_ P0.out ?_); · rfl) | (go_at_call 18; refine (HLY.out _).mono ?_; rintro e' w4 ⟨rfl, f4⟩; replace FG := hid (FG.out.trans f4); replace P0 := hid (P0.out.fr f4); replace P1 := hid (P1.out.fr f4); replace HX := hid (HX.out.fr f4); clear f4))
    obtain ⟨L, hL⟩ : ∃ q, w4.heap.size = q := ⟨_, rfl⟩
    obtain ⟨wL, hwL⟩ : ∃ q, w4.alloc (.cells #[.int .i64 ya, .int .i64 yr, .int .i64 yq, .int .i64 yb, .int .i64 (d : Nat), .int .i64 yt, .int .i64 yx, .int .i64 yu] 34) = q := ⟨_, rfl⟩
    have fL : Fr No w4 wL := by rw [← hwL]; exact fr1 _ _
    replace FG := hid (FG.out.trans fL)
    have HLL := hid (show BL wL L ya yr yq yb d yt yx yu by rw [← hwL, ← hL]; exact BL.new _ _ _ _ _ _ _ _ _)
    replace P0 := hid (P0.out.fr fL)
    replace P1 := hid (P1.out.fr fL)
    replace HX := hid (HX.out.fr fL)
    rw [show w4.alloc (.cells #[.int .i64 ya, .int .i64 yr, .int .i64 yq, .int .i64 yb, .int .i64 (d : Nat), .int .i64 yt, .int .i64 yx, .int .i64 yu] 34) = wL from hwL]
    try rw [hL]
    clear hwL hL fL
    go_upto_region 6 with (go_at_call 49; refine (rsumF A l c zs _ (HB.out.fr FG.out)).mono ?_; rintro e' w6 ⟨rfl, f6⟩; rw [HSUM.out]; replace FG := hid (FG.out.trans f6); replace P0 := hid (P0.out.fr f6); replace P1 := hid (P1.out.fr f6); replace HX := hid (HX.out.fr f6); replace HLL := hid (HLL.out.fr f6); clear f6)
    obtain ⟨Q, hQ⟩ : ∃ q, w6.heap.size = q := ⟨_, rfl⟩
    obtain ⟨wQ, hwQ⟩ : ∃ q, w6.alloc (.cells #[.int .i64 n, .int .i64 u, .int .i64 sum] 76) = q := ⟨_, rfl⟩
    have fQ : Fr No w6 wQ := by rw [← hwQ]; exact fr1 _ _
    replace FG := hid (FG.out.trans fQ)
    have HQ := hid (show LB wQ Q n u sum by rw [← hwQ, ← hQ]; exact LB.new _ _ _ _)
    replace P0 := hid (P0.out.fr fQ)
    replace P1 := hid (P1.out.fr fQ)
    replace HX := hid (HX.out.fr fQ)
    replace HLL := hid (HLL.out.fr fQ)
    rw [show w6.alloc (.cells #[.int .i64 n, .int .i64 u, .int .i64 sum] 76) = wQ from hwQ]
    try rw [hQ]
    clear hwQ hQ fQ
    go_upto_region 8 with (go_at_call 36; refine (lives_ok _ (HT.out.fr FG.out (fun h => h))).mono ?_; rintro e' wl ⟨rfl, f⟩; replace FG := hid (FG.out.trans f); replace P0 := hid (P0.out.fr f); replace P1 := hid (P1.out.fr f); replace HX := hid (HX.out.fr f); replace HLL := hid (HLL.out.fr f); replace HQ := hid (HQ.out.fr f); obtain ⟨g0, g1, g2, g3, g4⟩ := P0.out.cells; obtain ⟨o0, o1, o2⟩ := P1.out.cells; obtain ⟨x0, x1, x2⟩ := HX.out.cells; obtain ⟨q0, q1, q2⟩ := HQ.out.cells; have y4 := HLL.out.cells.2.2.2.2.1; clear f)
    have hdd := HD.out
    obtain ⟨hll, hll2⟩ := HN.out
    go_wp2_with (first | (go_at_call 44; refine (HMN.out _).mono ?_; rintro e' wm ⟨rfl, fwm⟩; clear g0 g1 g2 g3 g4 o0 o1 o2 x0 x1 x2 q0 q1 q2 y4; replace FG := hid (FG.out.trans fwm); replace P0 := hid (P0.out.fr fwm); replace P1 := hid (P1.out.fr fwm); replace HX := hid (HX.out.fr fwm); replace HLL := hid (HLL.out.fr fwm); replace HQ := hid (HQ.out.fr fwm); obtain ⟨g0, g1, g2, g3, g4⟩ := P0.out.cells; obtain ⟨o0, o1, o2⟩ := P1.out.cells; obtain ⟨x0, x1, x2⟩ := HX.out.cells; obtain ⟨q0, q1, q2⟩ := HQ.out.cells; have y4 := HLL.out.cells.2.2.2.2.1; clear fwm))
    go_ret
    exact ⟨rfl, FG.out⟩
  have HOV := hid (show ofF ⟨gc, gs, gn, gl, gk⟩ n u zs = (⟨n, u, sum⟩, 0) by rw [HOE.out, if_pos ⟨hl, hq⟩])
  have HMN := hid (fun W => HMY.out n u sum true W (by simpa using hq))
  have HRT := hid (fun W h1 h2 => HRI.out n u sum true W h1 h2 ⟨(fun _ => (HRP.out _ _ _).2 ⟨⟨hl, hq⟩, rfl⟩), fun _ => rfl⟩)
  by_cases ho : mayLb ⟨gc, gs, gn, gl, gk⟩ ⟨ob, ou, os⟩
  case neg =>
    have HMO := hid (fun W => HMY.out ob ou os false W (by simpa using ho))
    have HRO := hid (fun W h1 h2 => HRI.out ob ou os false W h1 h2 ⟨(fun h => by cases h), fun h => by
      obtain ⟨⟨_, h4⟩, h5⟩ := (HRP.out _ _ _).1 h
      rw [← h5] at h4
      exact absurd h4 ho⟩)
    clear hl hq ho HRI HMY HOE HRP
    go_enter Tryd.func13, Tryd.ntmps13
    go_upto_region 1 with fail
    try rw [show (w.alloc (Obj.cells #[.int .i64 gc, .int .i64 gs, .int .i64 gn, .int .i64 gl, .int .i64 gk] 23)).alloc (Obj.cells #[.int .i64 ob, .int .i64 ou, .int .i64 os] 76) = w1 from HW1.out]
    try rw [hG]
    clear hG
    obtain ⟨g0, g1, g2, g3, g4⟩ := P0.out.cells
    go_upto_region 3 with fail
    clear g0 g1 g2 g3 g4
    go_upto_region 4 with (first | ((with_reducible refine ld_geom rfl (.tmp 5) rfl G ?_ P0.out ?_); · rfl) | (go_at_call 48; refine (HOF.out _ (HB.out.fr FG.out) (HT.out.fr FG.out (fun h => h))).mono ?_; rintro e' w2 ⟨he, f2⟩; rw [HOV.out] at he; subst he; dsimp only; replace FG := hid (FG.out.trans f2); replace P0 := hid (P0.out.fr f2); replace P1 := hid (P1.out.fr f2); clear f2))
    obtain ⟨X, hX⟩ : ∃ q, w2.heap.size = q := ⟨_, rfl⟩
    obtain ⟨wX, hwX⟩ : ∃ q, w2.alloc (.cells #[.int .i64 n, .int .i64 u, .int .i64 sum] 76) = q := ⟨_, rfl⟩
    have fX : Fr No w2 wX := by rw [← hwX]; exact fr1 _ _
    replace FG := hid (FG.out.trans fX)
    have HX := hid (show LB wX X n u sum by rw [← hwX, ← hX]; exact LB.new _ _ _ _)
    replace P0 := hid (P0.out.fr fX)
    replace P1 := hid (P1.out.fr fX)
    rw [show w2.alloc (.cells #[.int .i64 n, .int .i64 u, .int .i64 sum] 76) = wX from hwX]
    try rw [hX]
    clear hwX hX fX
    go_upto_region 5 with (first | ((with_reducible refine ld_geom rfl (.tmp 5) rfl G ?_ P0.out ?_); · rfl) | (go_at_call 18; refine (HLY.out _).mono ?_; rintro e' w4 ⟨rfl, f4⟩; replace FG := hid (FG.out.trans f4); replace P0 := hid (P0.out.fr f4); replace P1 := hid (P1.out.fr f4); replace HX := hid (HX.out.fr f4); clear f4))
    obtain ⟨L, hL⟩ : ∃ q, w4.heap.size = q := ⟨_, rfl⟩
    obtain ⟨wL, hwL⟩ : ∃ q, w4.alloc (.cells #[.int .i64 ya, .int .i64 yr, .int .i64 yq, .int .i64 yb, .int .i64 (d : Nat), .int .i64 yt, .int .i64 yx, .int .i64 yu] 34) = q := ⟨_, rfl⟩
    have fL : Fr No w4 wL := by rw [← hwL]; exact fr1 _ _
    replace FG := hid (FG.out.trans fL)
    have HLL := hid (show BL wL L ya yr yq yb d yt yx yu by rw [← hwL, ← hL]; exact BL.new _ _ _ _ _ _ _ _ _)
    replace P0 := hid (P0.out.fr fL)
    replace P1 := hid (P1.out.fr fL)
    replace HX := hid (HX.out.fr fL)
    rw [show w4.alloc (.cells #[.int .i64 ya, .int .i64 yr, .int .i64 yq, .int .i64 yb, .int .i64 (d : Nat), .int .i64 yt, .int .i64 yx, .int .i64 yu] 34) = wL from hwL]
    try rw [hL]
    clear hwL hL fL
    go_upto_region 6 with (go_at_call 49; refine (rsumF A l c zs _ (HB.out.fr FG.out)).mono ?_; rintro e' w6 ⟨rfl, f6⟩; rw [HSUM.out]; replace FG := hid (FG.out.trans f6); replace P0 := hid (P0.out.fr f6); replace P1 := hid (P1.out.fr f6); replace HX := hid (HX.out.fr f6); replace HLL := hid (HLL.out.fr f6); clear f6)
    obtain ⟨Q, hQ⟩ : ∃ q, w6.heap.size = q := ⟨_, rfl⟩
    obtain ⟨wQ, hwQ⟩ : ∃ q, w6.alloc (.cells #[.int .i64 n, .int .i64 u, .int .i64 sum] 76) = q := ⟨_, rfl⟩
    have fQ : Fr No w6 wQ := by rw [← hwQ]; exact fr1 _ _
    replace FG := hid (FG.out.trans fQ)
    have HQ := hid (show LB wQ Q n u sum by rw [← hwQ, ← hQ]; exact LB.new _ _ _ _)
    replace P0 := hid (P0.out.fr fQ)
    replace P1 := hid (P1.out.fr fQ)
    replace HX := hid (HX.out.fr fQ)
    replace HLL := hid (HLL.out.fr fQ)
    rw [show w6.alloc (.cells #[.int .i64 n, .int .i64 u, .int .i64 sum] 76) = wQ from hwQ]
    try rw [hQ]
    clear hwQ hQ fQ
    go_upto_region 8 with (go_at_call 36; refine (lives_ok _ (HT.out.fr FG.out (fun h => h))).mono ?_; rintro e' wl ⟨rfl, f⟩; replace FG := hid (FG.out.trans f); replace P0 := hid (P0.out.fr f); replace P1 := hid (P1.out.fr f); replace HX := hid (HX.out.fr f); replace HLL := hid (HLL.out.fr f); replace HQ := hid (HQ.out.fr f); obtain ⟨g0, g1, g2, g3, g4⟩ := P0.out.cells; obtain ⟨o0, o1, o2⟩ := P1.out.cells; obtain ⟨x0, x1, x2⟩ := HX.out.cells; obtain ⟨q0, q1, q2⟩ := HQ.out.cells; have y4 := HLL.out.cells.2.2.2.2.1; clear f)
    have hdd := HD.out
    obtain ⟨hll, hll2⟩ := HN.out
    go_upto_region 12 with (first | (go_at_call 44; refine (HMN.out _).mono ?_; rintro e' wm ⟨rfl, fwm⟩; clear g0 g1 g2 g3 g4 o0 o1 o2 x0 x1 x2 q0 q1 q2 y4; replace FG := hid (FG.out.trans fwm); replace P0 := hid (P0.out.fr fwm); replace P1 := hid (P1.out.fr fwm); replace HX := hid (HX.out.fr fwm); replace HLL := hid (HLL.out.fr fwm); replace HQ := hid (HQ.out.fr fwm); obtain ⟨g0, g1, g2, g3, g4⟩ := P0.out.cells; obtain ⟨o0, o1, o2⟩ := P1.out.cells; obtain ⟨x0, x1, x2⟩ := HX.out.cells; obtain ⟨q0, q1, q2⟩ := HQ.out.cells; have y4 := HLL.out.cells.2.2.2.2.1; clear fwm))
    go_upto_region 13 with (first | ((with_reducible refine ld_geom rfl (.tmp 5) rfl G ?_ P0.out ?_); · rfl) | ((with_reducible refine ld_lb rfl (.tmp 9) rfl (G + 1) ?_ P1.out ?_); · rfl) | (go_at_call 44; refine (HMO.out _).mono ?_; rintro e' wn ⟨rfl, fwn⟩; clear g0 g1 g2 g3 g4 o0 o1 o2 x0 x1 x2 q0 q1 q2 y4; replace FG := hid (FG.out.trans fwn); replace P0 := hid (P0.out.fr fwn); replace P1 := hid (P1.out.fr fwn); replace HX := hid (HX.out.fr fwn); replace HLL := hid (HLL.out.fr fwn); replace HQ := hid (HQ.out.fr fwn); obtain ⟨g0, g1, g2, g3, g4⟩ := P0.out.cells; obtain ⟨o0, o1, o2⟩ := P1.out.cells; obtain ⟨x0, x1, x2⟩ := HX.out.cells; obtain ⟨q0, q1, q2⟩ := HQ.out.cells; have y4 := HLL.out.cells.2.2.2.2.1; clear fwn))
    go_wp2_with fail
    refine (HRT.out _ (HB.out.fr FG.out) (HT.out.fr FG.out (fun h => h))).mono ?_
    rintro e' wr ⟨rfl, fwr⟩
    clear g0 g1 g2 g3 g4 o0 o1 o2 x0 x1 x2 q0 q1 q2 y4
    replace FG := hid (FG.out.trans fwr); replace P0 := hid (P0.out.fr fwr); replace P1 := hid (P1.out.fr fwr); replace HX := hid (HX.out.fr fwr); replace HLL := hid (HLL.out.fr fwr); replace HQ := hid (HQ.out.fr fwr)
    obtain ⟨g0, g1, g2, g3, g4⟩ := P0.out.cells; obtain ⟨o0, o1, o2⟩ := P1.out.cells; obtain ⟨x0, x1, x2⟩ := HX.out.cells; obtain ⟨q0, q1, q2⟩ := HQ.out.cells; have y4 := HLL.out.cells.2.2.2.2.1
    clear fwr
    go_wp2_with fail
    refine (HRO.out _ (HB.out.fr FG.out) (HT.out.fr FG.out (fun h => h))).mono ?_
    rintro e' wo ⟨rfl, fwo⟩
    clear g0 g1 g2 g3 g4 o0 o1 o2 x0 x1 x2 q0 q1 q2 y4
    replace FG := hid (FG.out.trans fwo); replace P0 := hid (P0.out.fr fwo); replace P1 := hid (P1.out.fr fwo); replace HX := hid (HX.out.fr fwo); replace HLL := hid (HLL.out.fr fwo); replace HQ := hid (HQ.out.fr fwo)
    obtain ⟨g0, g1, g2, g3, g4⟩ := P0.out.cells; obtain ⟨o0, o1, o2⟩ := P1.out.cells; obtain ⟨x0, x1, x2⟩ := HX.out.cells; obtain ⟨q0, q1, q2⟩ := HQ.out.cells; have y4 := HLL.out.cells.2.2.2.2.1
    clear fwo
    go_wp2
    go_ret
    exact ⟨rfl, FG.out⟩
  have HMO := hid (fun W => HMY.out ob ou os true W (by simpa using ho))
  by_cases hz : os = sum
  case neg =>
    have HRO := hid (fun W h1 h2 => HRI.out ob ou os false W h1 h2 ⟨(fun h => by cases h), fun h => absurd ((HRP.out _ _ _).1 h).2 hz⟩)
    have hz1 : (os == sum) = false := by simpa using hz
    clear hl hq ho hz HRI HMY HOE HRP
    go_enter Tryd.func13, Tryd.ntmps13
    go_upto_region 1 with fail
    try rw [show (w.alloc (Obj.cells #[.int .i64 gc, .int .i64 gs, .int .i64 gn, .int .i64 gl, .int .i64 gk] 23)).alloc (Obj.cells #[.int .i64 ob, .int .i64 ou, .int .i64 os] 76) = w1 from HW1.out]
    try rw [hG]
    clear hG
    obtain ⟨g0, g1, g2, g3, g4⟩ := P0.out.cells
    go_upto_region 3 with fail
    clear g0 g1 g2 g3 g4
    go_upto_region 4 with (first | ((with_reducible refine ld_geom rfl (.tmp 5) rfl G ?_ P0.out ?_); · rfl) | (go_at_call 48; refine (HOF.out _ (HB.out.fr FG.out) (HT.out.fr FG.out (fun h => h))).mono ?_; rintro e' w2 ⟨he, f2⟩; rw [HOV.out] at he; subst he; dsimp only; replace FG := hid (FG.out.trans f2); replace P0 := hid (P0.out.fr f2); replace P1 := hid (P1.out.fr f2); clear f2))
    obtain ⟨X, hX⟩ : ∃ q, w2.heap.size = q := ⟨_, rfl⟩
    obtain ⟨wX, hwX⟩ : ∃ q, w2.alloc (.cells #[.int .i64 n, .int .i64 u, .int .i64 sum] 76) = q := ⟨_, rfl⟩
    have fX : Fr No w2 wX := by rw [← hwX]; exact fr1 _ _
    replace FG := hid (FG.out.trans fX)
    have HX := hid (show LB wX X n u sum by rw [← hwX, ← hX]; exact LB.new _ _ _ _)
    replace P0 := hid (P0.out.fr fX)
    replace P1 := hid (P1.out.fr fX)
    rw [show w2.alloc (.cells #[.int .i64 n, .int .i64 u, .int .i64 sum] 76) = wX from hwX]
    try rw [hX]
    clear hwX hX fX
    go_upto_region 5 with (first | ((with_reducible refine ld_geom rfl (.tmp 5) rfl G ?_ P0.out ?_); · rfl) | (go_at_call 18; refine (HLY.out _).mono ?_; rintro e' w4 ⟨rfl, f4⟩; replace FG := hid (FG.out.trans f4); replace P0 := hid (P0.out.fr f4); replace P1 := hid (P1.out.fr f4); replace HX := hid (HX.out.fr f4); clear f4))
    obtain ⟨L, hL⟩ : ∃ q, w4.heap.size = q := ⟨_, rfl⟩
    obtain ⟨wL, hwL⟩ : ∃ q, w4.alloc (.cells #[.int .i64 ya, .int .i64 yr, .int .i64 yq, .int .i64 yb, .int .i64 (d : Nat), .int .i64 yt, .int .i64 yx, .int .i64 yu] 34) = q := ⟨_, rfl⟩
    have fL : Fr No w4 wL := by rw [← hwL]; exact fr1 _ _
    replace FG := hid (FG.out.trans fL)
    have HLL := hid (show BL wL L ya yr yq yb d yt yx yu by rw [← hwL, ← hL]; exact BL.new _ _ _ _ _ _ _ _ _)
    replace P0 := hid (P0.out.fr fL)
    replace P1 := hid (P1.out.fr fL)
    replace HX := hid (HX.out.fr fL)
    rw [show w4.alloc (.cells #[.int .i64 ya, .int .i64 yr, .int .i64 yq, .int .i64 yb, .int .i64 (d : Nat), .int .i64 yt, .int .i64 yx, .int .i64 yu] 34) = wL from hwL]
    try rw [hL]
    clear hwL hL fL
    go_upto_region 6 with (go_at_call 49; refine (rsumF A l c zs _ (HB.out.fr FG.out)).mono ?_; rintro e' w6 ⟨rfl, f6⟩; rw [HSUM.out]; replace FG := hid (FG.out.trans f6); replace P0 := hid (P0.out.fr f6); replace P1 := hid (P1.out.fr f6); replace HX := hid (HX.out.fr f6); replace HLL := hid (HLL.out.fr f6); clear f6)
    obtain ⟨Q, hQ⟩ : ∃ q, w6.heap.size = q := ⟨_, rfl⟩
    obtain ⟨wQ, hwQ⟩ : ∃ q, w6.alloc (.cells #[.int .i64 n, .int .i64 u, .int .i64 sum] 76) = q := ⟨_, rfl⟩
    have fQ : Fr No w6 wQ := by rw [← hwQ]; exact fr1 _ _
    replace FG := hid (FG.out.trans fQ)
    have HQ := hid (show LB wQ Q n u sum by rw [← hwQ, ← hQ]; exact LB.new _ _ _ _)
    replace P0 := hid (P0.out.fr fQ)
    replace P1 := hid (P1.out.fr fQ)
    replace HX := hid (HX.out.fr fQ)
    replace HLL := hid (HLL.out.fr fQ)
    rw [show w6.alloc (.cells #[.int .i64 n, .int .i64 u, .int .i64 sum] 76) = wQ from hwQ]
    try rw [hQ]
    clear hwQ hQ fQ
    go_upto_region 8 with (go_at_call 36; refine (lives_ok _ (HT.out.fr FG.out (fun h => h))).mono ?_; rintro e' wl ⟨rfl, f⟩; replace FG := hid (FG.out.trans f); replace P0 := hid (P0.out.fr f); replace P1 := hid (P1.out.fr f); replace HX := hid (HX.out.fr f); replace HLL := hid (HLL.out.fr f); replace HQ := hid (HQ.out.fr f); obtain ⟨g0, g1, g2, g3, g4⟩ := P0.out.cells; obtain ⟨o0, o1, o2⟩ := P1.out.cells; obtain ⟨x0, x1, x2⟩ := HX.out.cells; obtain ⟨q0, q1, q2⟩ := HQ.out.cells; have y4 := HLL.out.cells.2.2.2.2.1; clear f)
    have hdd := HD.out
    obtain ⟨hll, hll2⟩ := HN.out
    go_upto_region 12 with (first | (go_at_call 44; refine (HMN.out _).mono ?_; rintro e' wm ⟨rfl, fwm⟩; clear g0 g1 g2 g3 g4 o0 o1 o2 x0 x1 x2 q0 q1 q2 y4; replace FG := hid (FG.out.trans fwm); replace P0 := hid (P0.out.fr fwm); replace P1 := hid (P1.out.fr fwm); replace HX := hid (HX.out.fr fwm); replace HLL := hid (HLL.out.fr fwm); replace HQ := hid (HQ.out.fr fwm); obtain ⟨g0, g1, g2, g3, g4⟩ := P0.out.cells; obtain ⟨o0, o1, o2⟩ := P1.out.cells; obtain ⟨x0, x1, x2⟩ := HX.out.cells; obtain ⟨q0, q1, q2⟩ := HQ.out.cells; have y4 := HLL.out.cells.2.2.2.2.1; clear fwm))
    go_upto_region 13 with (first | ((with_reducible refine ld_geom rfl (.tmp 5) rfl G ?_ P0.out ?_); · rfl) | ((with_reducible refine ld_lb rfl (.tmp 9) rfl (G + 1) ?_ P1.out ?_); · rfl) | (go_at_call 44; refine (HMO.out _).mono ?_; rintro e' wn ⟨rfl, fwn⟩; clear g0 g1 g2 g3 g4 o0 o1 o2 x0 x1 x2 q0 q1 q2 y4; replace FG := hid (FG.out.trans fwn); replace P0 := hid (P0.out.fr fwn); replace P1 := hid (P1.out.fr fwn); replace HX := hid (HX.out.fr fwn); replace HLL := hid (HLL.out.fr fwn); replace HQ := hid (HQ.out.fr fwn); obtain ⟨g0, g1, g2, g3, g4⟩ := P0.out.cells; obtain ⟨o0, o1, o2⟩ := P1.out.cells; obtain ⟨x0, x1, x2⟩ := HX.out.cells; obtain ⟨q0, q1, q2⟩ := HQ.out.cells; have y4 := HLL.out.cells.2.2.2.2.1; clear fwn))
    go_wp2_with fail
    refine (HRT.out _ (HB.out.fr FG.out) (HT.out.fr FG.out (fun h => h))).mono ?_
    rintro e' wr ⟨rfl, fwr⟩
    clear g0 g1 g2 g3 g4 o0 o1 o2 x0 x1 x2 q0 q1 q2 y4
    replace FG := hid (FG.out.trans fwr); replace P0 := hid (P0.out.fr fwr); replace P1 := hid (P1.out.fr fwr); replace HX := hid (HX.out.fr fwr); replace HLL := hid (HLL.out.fr fwr); replace HQ := hid (HQ.out.fr fwr)
    obtain ⟨g0, g1, g2, g3, g4⟩ := P0.out.cells; obtain ⟨o0, o1, o2⟩ := P1.out.cells; obtain ⟨x0, x1, x2⟩ := HX.out.cells; obtain ⟨q0, q1, q2⟩ := HQ.out.cells; have y4 := HLL.out.cells.2.2.2.2.1
    clear fwr
    go_wp2_with fail
    refine (HRO.out _ (HB.out.fr FG.out) (HT.out.fr FG.out (fun h => h))).mono ?_
    rintro e' wo ⟨rfl, fwo⟩
    clear g0 g1 g2 g3 g4 o0 o1 o2 x0 x1 x2 q0 q1 q2 y4
    replace FG := hid (FG.out.trans fwo); replace P0 := hid (P0.out.fr fwo); replace P1 := hid (P1.out.fr fwo); replace HX := hid (HX.out.fr fwo); replace HLL := hid (HLL.out.fr fwo); replace HQ := hid (HQ.out.fr fwo)
    obtain ⟨g0, g1, g2, g3, g4⟩ := P0.out.cells; obtain ⟨o0, o1, o2⟩ := P1.out.cells; obtain ⟨x0, x1, x2⟩ := HX.out.cells; obtain ⟨q0, q1, q2⟩ := HQ.out.cells; have y4 := HLL.out.cells.2.2.2.2.1
    clear fwo
    go_wp2
    go_ret
    exact ⟨rfl, FG.out⟩
  have HRO := hid (fun W h1 h2 => HRI.out ob ou os true W h1 h2 ⟨(fun _ => (HRP.out _ _ _).2 ⟨⟨hl, by rw [← hz]; exact ho⟩, hz⟩), fun _ => rfl⟩)
  have hz1 : (os == sum) = true := by simpa using hz
  clear hl hq ho hz HRI HMY HOE HRP
  go_enter Tryd.func13, Tryd.ntmps13
  go_upto_region 1 with fail
  try rw [show (w.alloc (Obj.cells #[.int .i64 gc, .int .i64 gs, .int .i64 gn, .int .i64 gl, .int .i64 gk] 23)).alloc (Obj.cells #[.int .i64 ob, .int .i64 ou, .int .i64 os] 76) = w1 from HW1.out]
  try rw [hG]
  clear hG
  obtain ⟨g0, g1, g2, g3, g4⟩ := P0.out.cells
  go_upto_region 3 with fail
  clear g0 g1 g2 g3 g4
  go_upto_region 4 with (first | ((with_reducible refine ld_geom rfl (.tmp 5) rfl G ?_ P0.out ?_); · rfl) | (go_at_call 48; refine (HOF.out _ (HB.out.fr FG.out) (HT.out.fr FG.out (fun h => h))).mono ?_; rintro e' w2 ⟨he, f2⟩; rw [HOV.out] at he; subst he; dsimp only; replace FG := hid (FG.out.trans f2); replace P0 := hid (P0.out.fr f2); replace P1 := hid (P1.out.fr f2); clear f2))
  obtain ⟨X, hX⟩ : ∃ q, w2.heap.size = q := ⟨_, rfl⟩
  obtain ⟨wX, hwX⟩ : ∃ q, w2.alloc (.cells #[.int .i64 n, .int .i64 u, .int .i64 sum] 76) = q := ⟨_, rfl⟩
  have fX : Fr No w2 wX := by rw [← hwX]; exact fr1 _ _
  replace FG := hid (FG.out.trans fX)
  have HX := hid (show LB wX X n u sum by rw [← hwX, ← hX]; exact LB.new _ _ _ _)
  replace P0 := hid (P0.out.fr fX)
  replace P1 := hid (P1.out.fr fX)
  rw [show w2.alloc (.cells #[.int .i64 n, .int .i64 u, .int .i64 sum] 76) = wX from hwX]
  try rw [hX]
  clear hwX hX fX
  go_upto_region 5 with (first | ((with_reducible refine ld_geom rfl (.tmp 5) rfl G ?_ P0.out ?_); · rfl) | (go_at_call 18; refine (HLY.out _).mono ?_; rintro e' w4 ⟨rfl, f4⟩; replace FG := hid (FG.out.trans f4); replace P0 := hid (P0.out.fr f4); replace P1 := hid (P1.out.fr f4); replace HX := hid (HX.out.fr f4); clear f4))
  obtain ⟨L, hL⟩ : ∃ q, w4.heap.size = q := ⟨_, rfl⟩
  obtain ⟨wL, hwL⟩ : ∃ q, w4.alloc (.cells #[.int .i64 ya, .int .i64 yr, .int .i64 yq, .int .i64 yb, .int .i64 (d : Nat), .int .i64 yt, .int .i64 yx, .int .i64 yu] 34) = q := ⟨_, rfl⟩
  have fL : Fr No w4 wL := by rw [← hwL]; exact fr1 _ _
  replace FG := hid (FG.out.trans fL)
  have HLL := hid (show BL wL L ya yr yq yb d yt yx yu by rw [← hwL, ← hL]; exact BL.new _ _ _ _ _ _ _ _ _)
  replace P0 := hid (P0.out.fr fL)
  replace P1 := hid (P1.out.fr fL)
  replace HX := hid (HX.out.fr fL)
  rw [show w4.alloc (.cells #[.int .i64 ya, .int .i64 yr, .int .i64 yq, .int .i64 yb, .int .i64 (d : Nat), .int .i64 yt, .int .i64 yx, .int .i64 yu] 34) = wL from hwL]
  try rw [hL]
  clear hwL hL fL
  go_upto_region 6 with (go_at_call 49; refine (rsumF A l c zs _ (HB.out.fr FG.out)).mono ?_; rintro e' w6 ⟨rfl, f6⟩; rw [HSUM.out]; replace FG := hid (FG.out.trans f6); replace P0 := hid (P0.out.fr f6); replace P1 := hid (P1.out.fr f6); replace HX := hid (HX.out.fr f6); replace HLL := hid (HLL.out.fr f6); clear f6)
  obtain ⟨Q, hQ⟩ : ∃ q, w6.heap.size = q := ⟨_, rfl⟩
  obtain ⟨wQ, hwQ⟩ : ∃ q, w6.alloc (.cells #[.int .i64 n, .int .i64 u, .int .i64 sum] 76) = q := ⟨_, rfl⟩
  have fQ : Fr No w6 wQ := by rw [← hwQ]; exact fr1 _ _
  replace FG := hid (FG.out.trans fQ)
  have HQ := hid (show LB wQ Q n u sum by rw [← hwQ, ← hQ]; exact LB.new _ _ _ _)
  replace P0 := hid (P0.out.fr fQ)
  replace P1 := hid (P1.out.fr fQ)
  replace HX := hid (HX.out.fr fQ)
  replace HLL := hid (HLL.out.fr fQ)
  rw [show w6.alloc (.cells #[.int .i64 n, .int .i64 u, .int .i64 sum] 76) = wQ from hwQ]
  try rw [hQ]
  clear hwQ hQ fQ
  go_upto_region 8 with (go_at_call 36; refine (lives_ok _ (HT.out.fr FG.out (fun h => h))).mono ?_; rintro e' wl ⟨rfl, f⟩; replace FG := hid (FG.out.trans f); replace P0 := hid (P0.out.fr f); replace P1 := hid (P1.out.fr f); replace HX := hid (HX.out.fr f); replace HLL := hid (HLL.out.fr f); replace HQ := hid (HQ.out.fr f); obtain ⟨g0, g1, g2, g3, g4⟩ := P0.out.cells; obtain ⟨o0, o1, o2⟩ := P1.out.cells; obtain ⟨x0, x1, x2⟩ := HX.out.cells; obtain ⟨q0, q1, q2⟩ := HQ.out.cells; have y4 := HLL.out.cells.2.2.2.2.1; clear f)
  have hdd := HD.out
  obtain ⟨hll, hll2⟩ := HN.out
  go_upto_region 12 with (first | (go_at_call 44; refine (HMN.out _).mono ?_; rintro e' wm ⟨rfl, fwm⟩; clear g0 g1 g2 g3 g4 o0 o1 o2 x0 x1 x2 q0 q1 q2 y4; replace FG := hid (FG.out.trans fwm); replace P0 := hid (P0.out.fr fwm); replace P1 := hid (P1.out.fr fwm); replace HX := hid (HX.out.fr fwm); replace HLL := hid (HLL.out.fr fwm); replace HQ := hid (HQ.out.fr fwm); obtain ⟨g0, g1, g2, g3, g4⟩ := P0.out.cells; obtain ⟨o0, o1, o2⟩ := P1.out.cells; obtain ⟨x0, x1, x2⟩ := HX.out.cells; obtain ⟨q0, q1, q2⟩ := HQ.out.cells; have y4 := HLL.out.cells.2.2.2.2.1; clear fwm))
  go_upto_region 13 with (first | ((with_reducible refine ld_geom rfl (.tmp 5) rfl G ?_ P0.out ?_); · rfl) | ((with_reducible refine ld_lb rfl (.tmp 9) rfl (G + 1) ?_ P1.out ?_); · rfl) | (go_at_call 44; refine (HMO.out _).mono ?_; rintro e' wn ⟨rfl, fwn⟩; clear g0 g1 g2 g3 g4 o0 o1 o2 x0 x1 x2 q0 q1 q2 y4; replace FG := hid (FG.out.trans fwn); replace P0 := hid (P0.out.fr fwn); replace P1 := hid (P1.out.fr fwn); replace HX := hid (HX.out.fr fwn); replace HLL := hid (HLL.out.fr fwn); replace HQ := hid (HQ.out.fr fwn); obtain ⟨g0, g1, g2, g3, g4⟩ := P0.out.cells; obtain ⟨o0, o1, o2⟩ := P1.out.cells; obtain ⟨x0, x1, x2⟩ := HX.out.cells; obtain ⟨q0, q1, q2⟩ := HQ.out.cells; have y4 := HLL.out.cells.2.2.2.2.1; clear fwn))
  go_wp2_with fail
  refine (HRT.out _ (HB.out.fr FG.out) (HT.out.fr FG.out (fun h => h))).mono ?_
  rintro e' wr ⟨rfl, fwr⟩
  clear g0 g1 g2 g3 g4 o0 o1 o2 x0 x1 x2 q0 q1 q2 y4
  replace FG := hid (FG.out.trans fwr); replace P0 := hid (P0.out.fr fwr); replace P1 := hid (P1.out.fr fwr); replace HX := hid (HX.out.fr fwr); replace HLL := hid (HLL.out.fr fwr); replace HQ := hid (HQ.out.fr fwr)
  obtain ⟨g0, g1, g2, g3, g4⟩ := P0.out.cells; obtain ⟨o0, o1, o2⟩ := P1.out.cells; obtain ⟨x0, x1, x2⟩ := HX.out.cells; obtain ⟨q0, q1, q2⟩ := HQ.out.cells; have y4 := HLL.out.cells.2.2.2.2.1
  clear fwr
  go_wp2_with fail
  refine (HRO.out _ (HB.out.fr FG.out) (HT.out.fr FG.out (fun h => h))).mono ?_
  rintro e' wo ⟨rfl, fwo⟩
  clear g0 g1 g2 g3 g4 o0 o1 o2 x0 x1 x2 q0 q1 q2 y4
  replace FG := hid (FG.out.trans fwo); replace P0 := hid (P0.out.fr fwo); replace P1 := hid (P1.out.fr fwo); replace HX := hid (HX.out.fr fwo); replace HLL := hid (HLL.out.fr fwo); replace HQ := hid (HQ.out.fr fwo)
  obtain ⟨g0, g1, g2, g3, g4⟩ := P0.out.cells; obtain ⟨o0, o1, o2⟩ := P1.out.cells; obtain ⟨x0, x1, x2⟩ := HX.out.cells; obtain ⟨q0, q1, q2⟩ := HQ.out.cells; have y4 := HLL.out.cells.2.2.2.2.1
  clear fwo
  go_wp2
  go_ret
  exact ⟨rfl, FG.out⟩
end Go.Proofs.YtpiplcakefcaaaaDoor.BdX
