/- BandReads, walked. Conditions: what comes in reads as bytes; the geometry's count of zones is 64 bits; the table of sums is as its text lays it. -/
import Derived.Test.YtpiplcakefcaaaaDoorBdT
namespace Go.Proofs.YtpiplcakefcaaaaDoor.BdU
open Go.RowKit MSep MFrame Kit MGeM CrcA CrcM CrcE BdM BdA BdB BdC BdD BdE BdI BdJ BdT
open GeA (bg BG BL ld_geom ld_lay by_)
open GeE (rlo)

set_option maxRecDepth 100000 in
set_option maxHeartbeats 8000000 in
theorem reads_ok (gc gs gn gl gk : Int) (A : Option Addr) (l c : Nat) (zs : List Int) (w : World) (hs : r64 gs) (hb : IsB w A l c zs) (hT : TabAt w) :
    Calls Tryd.prog 12 #[.agg #[.int .i64 gc, .int .i64 gs, .int .i64 gn, .int .i64 gl, .int .i64 gk], .slice A l c] w fun e w' => e = .returned (.bool true) ∧ Fr No w w' := by
  obtain ⟨G, hG⟩ : ∃ G, w.heap.size = G := ⟨_, rfl⟩
  obtain ⟨w1, hw1⟩ : ∃ w1, w.alloc (bg gc gs gn gl gk) = w1 := ⟨_, rfl⟩
  have FG := hid (show Fr No w w1 by rw [← hw1]; exact fr1 _ _)
  have P0 := hid (show BG w1 G gc gs gn gl gk by rw [← hw1, ← hG]; exact BG.new w gc gs gn gl gk)
  have HW1 := hid hw1
  have HB := hid hb
  have HT := hid hT
  have HLY := hid (fun W => GeEk.rlayout_ok gc gs gn gl gk W hs)
  have HDC := hid (fun W (h1 : IsB W A l c zs) (h2 : TabAt W) => dec_ok gc gs gn gl gk A l c zs W hs h1 h2)
  have HRD := hid (fun W (h1 : IsB W A l c zs) => rdec_ok gc gs gn gl gk A l c zs W hs h1)
  clear hs hb hT hw1
  by_cases hm : mayG ⟨gc, gs, gn, gl, gk⟩
  case neg =>
    have HDE := hid (show decF ⟨gc, gs, gn, gl, gk⟩ zs = (⟨0, 0, 0⟩, 70) from if_neg hm)
    rw [show rlo ⟨gc, gs, gn, gl, gk⟩ = (z8, false) by unfold rlo; rw [if_neg hm]] at HLY
    unfold z8 at HLY
    dsimp only at HLY
    clear hm
    go_enter Tryd.func12, Tryd.ntmps12
    go_upto_region 1 with fail
    try rw [show w.alloc (Obj.cells #[.int .i64 gc, .int .i64 gs, .int .i64 gn, .int .i64 gl, .int .i64 gk] 23) = w1 from HW1.out]
    try rw [hG]
    clear hG
    go_upto_region 2 with (first | ((with_reducible refine ld_geom rfl (.tmp 2) rfl G ?_ P0.out ?_); · rfl) | (go_at_call 45; refine (HDC.out _ (HB.out.fr FG.out) (HT.out.fr FG.out (fun h => h))).mono ?_; rintro e' w2 ⟨he, f2⟩; rw [HDE.out] at he; subst he; dsimp only; replace FG := hid (FG.out.trans f2); replace P0 := hid (P0.out.fr f2); clear f2))
    obtain ⟨X, hX⟩ : ∃ q, w2.heap.size = q := ⟨_, rfl⟩
    obtain ⟨wX, hwX⟩ : ∃ q, w2.alloc (.cells #[.int .i64 0, .int .i64 0, .int .i64 0] 76) = q := ⟨_, rfl⟩
    have fX : Fr No w2 wX := by rw [← hwX]; exact fr1 _ _
    replace FG := hid (FG.out.trans fX)
    have HX := hid (show LB wX X 0 0 0 by rw [← hwX, ← hX]; exact LB.new _ _ _ _)
    replace P0 := hid (P0.out.fr fX)
    rw [show w2.alloc (.cells #[.int .i64 0, .int .i64 0, .int .i64 0] 76) = wX from hwX]
    try rw [hX]
    clear hwX hX fX
    go_upto_region 3 with (first | ((with_reducible refine ld_geom rfl (.tmp 2) rfl G ?_ P0.out ?_); · rfl) | (go_at_call 18; refine (HLY.out _).mono ?_; rintro e' w4 ⟨rfl, f4⟩; replace FG := hid (FG.out.trans f4); replace P0 := hid (P0.out.fr f4); replace HX := hid (HX.out.fr f4); clear f4))
    obtain ⟨L, hL⟩ : ∃ q, w4.heap.size = q := ⟨_, rfl⟩
    obtain ⟨wL, hwL⟩ : ∃ q, w4.alloc (.cells #[.int .i64 0, .int .i64 0, .int .i64 0, .int .i64 0, .int .i64 0, .int .i64 0, .int .i64 0, .int .i64 0] 34) = q := ⟨_, rfl⟩
    have fL : Fr No w4 wL := by rw [← hwL]; exact fr1 _ _
    replace FG := hid (FG.out.trans fL)
    replace P0 := hid (P0.out.fr fL)
    replace HX := hid (HX.out.fr fL)
    rw [show w4.alloc (.cells #[.int .i64 0, .int .i64 0, .int .i64 0, .int .i64 0, .int .i64 0, .int .i64 0, .int .i64 0, .int .i64 0] 34) = wL from hwL]
    try rw [hL]
    clear hwL hL fL
    go_wp2_with (go_at_call 36; refine (lives_ok _ (HT.out.fr FG.out (fun h => h))).mono ?_; rintro e' wl ⟨rfl, f⟩; replace FG := hid (FG.out.trans f); obtain ⟨x0, x1, x2⟩ := (HX.out.fr f).cells; clear f)
    go_ret
    exact ⟨rfl, FG.out⟩
  rw [show rlo ⟨gc, gs, gn, gl, gk⟩ = (lay ⟨gc, gs, gn, gl, gk⟩, true) by unfold rlo; rw [if_pos hm]] at HLY
  obtain ⟨y, hy⟩ : ∃ y, lay ⟨gc, gs, gn, gl, gk⟩ = y := ⟨_, rfl⟩
  rw [hy] at HLY
  clear hy
  obtain ⟨ya, yr, yq, yb, yd, yt, yx, yu⟩ := y
  dsimp only at HLY
  cases ho : lbP ⟨gc, gs, gn, gl, gk⟩ zs with
  | none =>
    have HDE := hid (show decF ⟨gc, gs, gn, gl, gk⟩ zs = (⟨0, 0, 0⟩, 10) by unfold decF; rw [if_pos hm, ho]; rfl)
    have HLB := hid (show lbD ⟨gc, gs, gn, gl, gk⟩ zs = none by rw [lbD_eq, ho])
    clear hm ho
    go_enter Tryd.func12, Tryd.ntmps12
    go_upto_region 1 with fail
    try rw [show w.alloc (Obj.cells #[.int .i64 gc, .int .i64 gs, .int .i64 gn, .int .i64 gl, .int .i64 gk] 23) = w1 from HW1.out]
    try rw [hG]
    clear hG
    go_upto_region 2 with (first | ((with_reducible refine ld_geom rfl (.tmp 2) rfl G ?_ P0.out ?_); · rfl) | (go_at_call 45; refine (HDC.out _ (HB.out.fr FG.out) (HT.out.fr FG.out (fun h => h))).mono ?_; rintro e' w2 ⟨he, f2⟩; rw [HDE.out] at he; subst he; dsimp only; replace FG := hid (FG.out.trans f2); replace P0 := hid (P0.out.fr f2); clear f2))
    obtain ⟨X, hX⟩ : ∃ q, w2.heap.size = q := ⟨_, rfl⟩
    obtain ⟨wX, hwX⟩ : ∃ q, w2.alloc (.cells #[.int .i64 0, .int .i64 0, .int .i64 0] 76) = q := ⟨_, rfl⟩
    have fX : Fr No w2 wX := by rw [← hwX]; exact fr1 _ _
    replace FG := hid (FG.out.trans fX)
    have HX := hid (show LB wX X 0 0 0 by rw [← hwX, ← hX]; exact LB.new _ _ _ _)
    replace P0 := hid (P0.out.fr fX)
    rw [show w2.alloc (.cells #[.int .i64 0, .int .i64 0, .int .i64 0] 76) = wX from hwX]
    try rw [hX]
    clear hwX hX fX
    go_upto_region 3 with (first | ((with_reducible refine ld_geom rfl (.tmp 2) rfl G ?_ P0.out ?_); · rfl) | (go_at_call 18; refine (HLY.out _).mono ?_; rintro e' w4 ⟨rfl, f4⟩; replace FG := hid (FG.out.trans f4); replace P0 := hid (P0.out.fr f4); replace HX := hid (HX.out.fr f4); clear f4))
    obtain ⟨L, hL⟩ : ∃ q, w4.heap.size = q := ⟨_, rfl⟩
    obtain ⟨wL, hwL⟩ : ∃ q, w4.alloc (.cells #[.int .i64 ya, .int .i64 yr, .int .i64 yq, .int .i64 yb, .int .i64 yd, .int .i64 yt, .int .i64 yx, .int .i64 yu] 34) = q := ⟨_, rfl⟩
    have fL : Fr No w4 wL := by rw [← hwL]; exact fr1 _ _
    replace FG := hid (FG.out.trans fL)
    replace P0 := hid (P0.out.fr fL)
    replace HX := hid (HX.out.fr fL)
    rw [show w4.alloc (.cells #[.int .i64 ya, .int .i64 yr, .int .i64 yq, .int .i64 yb, .int .i64 yd, .int .i64 yt, .int .i64 yx, .int .i64 yu] 34) = wL from hwL]
    try rw [hL]
    clear hwL hL fL
    go_upto_region 6 with (first | ((with_reducible refine ld_geom rfl (.tmp 2) rfl G ?_ P0.out ?_); · rfl) | (go_at_call 47; refine (HRD.out _ (HB.out.fr FG.out)).mono ?_; rintro e' w6 ⟨he, f4⟩; rw [HLB.out] at he; subst he; dsimp only [Option.getD, Option.isSome, lz]; replace FG := hid (FG.out.trans f4); replace HX := hid (HX.out.fr f4); clear f4))
    obtain ⟨Z, hZ⟩ : ∃ q, w6.heap.size = q := ⟨_, rfl⟩
    obtain ⟨wZ, hwZ⟩ : ∃ q, w6.alloc (.cells #[.int .i64 0, .int .i64 0, .int .i64 0] 76) = q := ⟨_, rfl⟩
    have fZ : Fr No w6 wZ := by rw [← hwZ]; exact fr1 _ _
    replace FG := hid (FG.out.trans fZ)
    have HZ := hid (show LB wZ Z 0 0 0 by rw [← hwZ, ← hZ]; exact LB.new _ _ _ _)
    replace HX := hid (HX.out.fr fZ)
    rw [show w6.alloc (.cells #[.int .i64 0, .int .i64 0, .int .i64 0] 76) = wZ from hwZ]
    try rw [hZ]
    clear hwZ hZ fZ
    go_wp2_with (go_at_call 36; refine (lives_ok _ (HT.out.fr FG.out (fun h => h))).mono ?_; rintro e' wl ⟨rfl, f⟩; replace FG := hid (FG.out.trans f); obtain ⟨x0, x1, x2⟩ := (HX.out.fr f).cells; obtain ⟨q0, q1, q2⟩ := (HZ.out.fr f).cells; clear f)
    go_ret
    exact ⟨rfl, FG.out⟩
  | some t =>
    obtain ⟨b, u, s⟩ := t
    have HDE := hid (show decF ⟨gc, gs, gn, gl, gk⟩ zs = (⟨b, u, s⟩, 0) by unfold decF; rw [if_pos hm, ho])
    have HLB := hid (show lbD ⟨gc, gs, gn, gl, gk⟩ zs = some ⟨b, u, s⟩ by rw [lbD_eq, ho])
    clear hm ho
    go_enter Tryd.func12, Tryd.ntmps12
    go_upto_region 1 with fail
    try rw [show w.alloc (Obj.cells #[.int .i64 gc, .int .i64 gs, .int .i64 gn, .int .i64 gl, .int .i64 gk] 23) = w1 from HW1.out]
    try rw [hG]
    clear hG
    go_upto_region 2 with (first | ((with_reducible refine ld_geom rfl (.tmp 2) rfl G ?_ P0.out ?_); · rfl) | (go_at_call 45; refine (HDC.out _ (HB.out.fr FG.out) (HT.out.fr FG.out (fun h => h))).mono ?_; rintro e' w2 ⟨he, f2⟩; rw [HDE.out] at he; subst he; dsimp only; replace FG := hid (FG.out.trans f2); replace P0 := hid (P0.out.fr f2); clear f2))
    obtain ⟨X, hX⟩ : ∃ q, w2.heap.size = q := ⟨_, rfl⟩
    obtain ⟨wX, hwX⟩ : ∃ q, w2.alloc (.cells #[.int .i64 b, .int .i64 u, .int .i64 s] 76) = q := ⟨_, rfl⟩
    have fX : Fr No w2 wX := by rw [← hwX]; exact fr1 _ _
    replace FG := hid (FG.out.trans fX)
    have HX := hid (show LB wX X b u s by rw [← hwX, ← hX]; exact LB.new _ _ _ _)
    replace P0 := hid (P0.out.fr fX)
    rw [show w2.alloc (.cells #[.int .i64 b, .int .i64 u, .int .i64 s] 76) = wX from hwX]
    try rw [hX]
    clear hwX hX fX
    go_upto_region 3 with (first | ((with_reducible refine ld_geom rfl (.tmp 2) rfl G ?_ P0.out ?_); · rfl) | (go_at_call 18; refine (HLY.out _).mono ?_; rintro e' w4 ⟨rfl, f4⟩; replace FG := hid (FG.out.trans f4); replace P0 := hid (P0.out.fr f4); replace HX := hid (HX.out.fr f4); clear f4))
    obtain ⟨L, hL⟩ : ∃ q, w4.heap.size = q := ⟨_, rfl⟩
    obtain ⟨wL, hwL⟩ : ∃ q, w4.alloc (.cells #[.int .i64 ya, .int .i64 yr, .int .i64 yq, .int .i64 yb, .int .i64 yd, .int .i64 yt, .int .i64 yx, .int .i64 yu] 34) = q := ⟨_, rfl⟩
    have fL : Fr No w4 wL := by rw [← hwL]; exact fr1 _ _
    replace FG := hid (FG.out.trans fL)
    replace P0 := hid (P0.out.fr fL)
    replace HX := hid (HX.out.fr fL)
    rw [show w4.alloc (.cells #[.int .i64 ya, .int .i64 yr, .int .i64 yq, .int .i64 yb, .int .i64 yd, .int .i64 yt, .int .i64 yx, .int .i64 yu] 34) = wL from hwL]
    try rw [hL]
    clear hwL hL fL
    go_upto_region 6 with (first | ((with_reducible refine ld_geom rfl (.tmp 2) rfl G ?_ P0.out ?_); · rfl) | (go_at_call 47; refine (HRD.out _ (HB.out.fr FG.out)).mono ?_; rintro e' w6 ⟨he, f4⟩; rw [HLB.out] at he; subst he; dsimp only [Option.getD, Option.isSome]; replace FG := hid (FG.out.trans f4); replace HX := hid (HX.out.fr f4); clear f4))
    obtain ⟨Z, hZ⟩ : ∃ q, w6.heap.size = q := ⟨_, rfl⟩
    obtain ⟨wZ, hwZ⟩ : ∃ q, w6.alloc (.cells #[.int .i64 b, .int .i64 u, .int .i64 s] 76) = q := ⟨_, rfl⟩
    have fZ : Fr No w6 wZ := by rw [← hwZ]; exact fr1 _ _
    replace FG := hid (FG.out.trans fZ)
    have HZ := hid (show LB wZ Z b u s by rw [← hwZ, ← hZ]; exact LB.new _ _ _ _)
    replace HX := hid (HX.out.fr fZ)
    rw [show w6.alloc (.cells #[.int .i64 b, .int .i64 u, .int .i64 s] 76) = wZ from hwZ]
    try rw [hZ]
    clear hwZ hZ fZ
    go_wp2_with (go_at_call 36; refine (lives_ok _ (HT.out.fr FG.out (fun h => h))).mono ?_; rintro e' wl ⟨rfl, f⟩; replace FG := hid (FG.out.trans f); obtain ⟨x0, x1, x2⟩ := (HX.out.fr f).cells; obtain ⟨q0, q1, q2⟩ := (HZ.out.fr f).cells; clear f)
    go_ret
    exact ⟨rfl, FG.out⟩
end Go.Proofs.YtpiplcakefcaaaaDoor.BdU
