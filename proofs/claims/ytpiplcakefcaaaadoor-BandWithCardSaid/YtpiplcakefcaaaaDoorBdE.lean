/- Contracts: the label of a content, and whether a label is that of a content, by the program. Conditions: the geometry's count of zones is 64 bits; the content reads as bytes; the table of sums is as its text lays it. -/
import Derived.Test.YtpiplcakefcaaaaDoorBdD
import Derived.Test.YtpiplcakefcaaaaDoorCrcG
namespace Go.Proofs.YtpiplcakefcaaaaDoor.BdE
open Go.RowKit MSep MFrame Kit MGeM CrcA CrcM CrcE BdM BdA BdB BdF BdC BdD
open GeA (bg BG BL ld_geom ld_lay by_)
open GeC (layout_ok)

theorem sumF (A : Option Addr) (l c : Nat) (zs : List Int) (w : World) (hb : IsB w A l c zs) (hT : TabAt w) : Calls Tryd.prog 56 #[.slice A l c] w fun e w' => e = .returned (.int .u32 (onN 0 zs : Nat)) ∧ Fr No w w' :=
  (sum_any A l c zs w hb.1 hb.2.2.2 (by have := hb.2.1; have := hb.2.2.1; omega) hT).mono (by rintro e w' ⟨rfl, rfl⟩; exact ⟨rfl, Fr.refl _ _⟩)
theorem onN_in (s : Nat) (zs : List Int) : 0 ≤ ((onN s zs : Nat) : Int) ∧ ((onN s zs : Nat) : Int) < 4294967296 := by
  have : onN s zs < 4294967296 := nt_lt _
  omega
def RetL (w w' : World) (e : Ending) (r : Lb × Int) : Prop := e = .returned (.tuple #[lv r.1.b r.1.u r.1.s, .int .i64 r.2]) ∧ Fr No w w'
def ofF (g : Ge) (n u : Int) (zs : List Int) : Lb × Int := if mayG g then (if (zs.length : Int) = 128 * (lay g).d ∧ mayLb g ⟨n, u, (onN 0 zs : Nat)⟩ then (⟨n, u, (onN 0 zs : Nat)⟩, 0) else (lz, 1)) else (lz, 70)
set_option maxRecDepth 100000 in
set_option maxHeartbeats 4000000 in
theorem of_ok (gc gs gn gl gk n u : Int) (A : Option Addr) (l c : Nat) (zs : List Int) (w : World) (hs : r64 gs) (hb : IsB w A l c zs) (hT : TabAt w) :
    Calls Tryd.prog 48 #[.agg #[.int .i64 gc, .int .i64 gs, .int .i64 gn, .int .i64 gl, .int .i64 gk], .int .i64 n, .int .i64 u, .slice A l c] w fun e w' => RetL w w' e (ofF ⟨gc, gs, gn, gl, gk⟩ n u zs) := by
  have hlen : zs.length = l := by simpa using hb.1.1
  have HL := hid hlen
  obtain ⟨G, hG⟩ : ∃ G, w.heap.size = G := ⟨_, rfl⟩
  obtain ⟨w1, hw1⟩ : ∃ w1, (w.alloc (bg gc gs gn gl gk)).alloc (.cells (lcs 0 0 0) 76) = w1 := ⟨_, rfl⟩
  have FG := hid (show Fr No w w1 by rw [← hw1]; exact (fr1 _ _).alloc _)
  have P0 := hid (show BG w1 G gc gs gn gl gk by rw [← hw1, ← hG]; exact (BG.new w gc gs gn gl gk : Blk _ _ _ _).alloc _)
  have HR := hid (show LB w1 (G + 1) 0 0 0 by
    rw [← hw1, ← hG]
    have := LB.new (w.alloc (bg gc gs gn gl gk)) 0 0 0
    rwa [World.size_alloc] at this)
  have HW1 := hid hw1
  have HG := hid hG
  have HLY := hid (fun W => layout_ok gc gs gn gl gk W hs)
  have HMY := hid (fun (b u s : Int) v W hv => maylb_ok gc gs gn gl gk b u s v W hs hv)
  have HB := hid hb
  have HT := hid hT
  obtain ⟨V, hV⟩ : ∃ V, ofF ⟨gc, gs, gn, gl, gk⟩ n u zs = V := ⟨_, rfl⟩
  rw [hV]
  have HVV := hid hV
  obtain ⟨sum, hsum⟩ : ∃ s : Int, ((onN 0 zs : Nat) : Int) = s := ⟨_, rfl⟩
  have hsi := onN_in 0 zs
  rw [hsum] at hsi
  have HSI := hid hsi
  have HSUM := hid hsum
  have hcv : ∀ w, (convert 42 3 (.int .u32 sum)).run Tryd.prog w = .ok (.int .i64 sum) w := fun w => by
    have e : IntKind.i64.wrap sum = sum := IntWalk.i64_in _ (by omega)
    have q : ∀ n w, (convert 42 3 (.int .u32 n)).run Tryd.prog w = .ok (.int .i64 (IntKind.i64.wrap n)) w := fun n w => by kernel_rfl
    rw [q, e]
  clear hs hb hlen hV hT hw1 hsum hsi
  go_enter Tryd.func48, Tryd.ntmps48
  go_upto_region 1 with fail
  try rw [show (w.alloc (Obj.cells #[.int .i64 gc, .int .i64 gs, .int .i64 gn, .int .i64 gl, .int .i64 gk] 23)).alloc (Obj.cells #[.int .i64 0, .int .i64 0, .int .i64 0] 76) = w1 from HW1.out]
  try rw [hG]
  clear hG
  by_cases hm : mayG ⟨gc, gs, gn, gl, gk⟩
  case neg =>
    obtain rfl : V = (lz, 70) := by rw [← HVV.out]; exact if_neg hm
    rw [show lyo ⟨gc, gs, gn, gl, gk⟩ = (z8, 70) by unfold lyo; rw [if_neg hm]] at HLY
    unfold z8 at HLY
    dsimp only at HLY
    go_wp2_with (first | ((with_reducible refine ld_geom rfl (.tmp 4) rfl G ?_ P0.out ?_); · rfl) | (go_at_call 58; refine (HLY.out _).mono ?_; rintro e w2 ⟨rfl, f2⟩; replace FG := hid ((FG.out.trans f2).alloc (by_ 0 0 0 0 0 0 0 0)); replace HR := hid (Blk.alloc (Blk.fr HR.out f2 (fun h => h)) (by_ 0 0 0 0 0 0 0 0)); clear f2) | (refine st_lb rfl (.tmp 8) (.tmp 20) rfl (G + 1) rfl rfl (by simp [Value.oneCell']) HR.out rfl ?_; intro w9 HQ9 f9; have HF9 := hid (FG.out.step f9 (fun i hi e => by have := HG.out; omega)); clear f9))
    exact bodyPost_ret (v := .tuple #[lv 0 0 0, .int .i64 70]) (resLb rfl _ _ (G + 1) 0 0 0 (.int .i64 70) rfl rfl HQ9) rfl ⟨rfl, HF9.out⟩
  rw [show lyo ⟨gc, gs, gn, gl, gk⟩ = (lay ⟨gc, gs, gn, gl, gk⟩, 0) by unfold lyo; rw [if_pos hm]] at HLY
  have hg := good hm.1
  obtain ⟨y, hy⟩ : ∃ y, lay ⟨gc, gs, gn, gl, gk⟩ = y := ⟨_, rfl⟩
  rw [hy] at HLY hg
  have hd1 := hg.d1
  have hd2 := hg.d2
  clear hg
  obtain ⟨ya, yr, yq, yb, yd, yt, yx, yu⟩ := y
  dsimp only at HLY hd1 hd2
  have HV1 := hid (show (if (zs.length : Int) = 128 * yd ∧ mayLb ⟨gc, gs, gn, gl, gk⟩ ⟨n, u, sum⟩ then ((⟨n, u, sum⟩ : Lb), (0 : Int)) else (lz, 1)) = V by rw [← HVV.out, ofF, if_pos hm, hy, HSUM.out])
  clear hy hm HVV
  go_upto_region 2 with (first | ((with_reducible refine ld_geom rfl (.tmp 4) rfl G ?_ P0.out ?_); · rfl) | (go_at_call 58; refine (HLY.out _).mono ?_; rintro e w2 ⟨rfl, f2⟩))
  obtain ⟨Y, hYY⟩ : ∃ Y, w2.heap.size = Y := ⟨_, rfl⟩
  obtain ⟨w3, hw3⟩ : ∃ w3, w2.alloc (by_ ya yr yq yb yd yt yx yu) = w3 := ⟨_, rfl⟩
  have HY := hid (show BL w3 Y ya yr yq yb yd yt yx yu by rw [← hw3, ← hYY]; exact BL.new _ _ _ _ _ _ _ _ _)
  have f3 : Fr No w1 w3 := by rw [← hw3]; exact f2.alloc _
  replace FG := hid (FG.out.trans f3)
  replace P0 := hid (P0.out.fr f3)
  replace HR := hid (Blk.fr HR.out f3 (fun h => h))
  rw [show w2.alloc (Obj.cells #[.int .i64 ya, .int .i64 yr, .int .i64 yq, .int .i64 yb, .int .i64 yd, .int .i64 yt, .int .i64 yx, .int .i64 yu] 34) = w3 from hw3]
  try rw [hYY]
  have HD := hid (And.intro hd1 hd2)
  have HML := hid (show (l : Int) ≤ 9223372036854775807 by have h1 := HB.out.2.1; have h2 := HB.out.2.2.1; unfold maxLen at h2; omega)
  clear hw3 hYY f2 f3 HLY hd1 hd2
  go_upto_region 5 with (go_at_call 56; refine (sumF A l c zs _ (HB.out.fr FG.out) (HT.out.fr FG.out (fun h => h))).mono ?_; rintro e w4 ⟨rfl, f4⟩; rw [HSUM.out]; replace FG := hid (FG.out.trans f4); replace HY := hid (HY.out.fr f4); replace P0 := hid (P0.out.fr f4); replace HR := hid (Blk.fr HR.out f4 (fun h => h)); clear f4)
  obtain ⟨X, hX⟩ : ∃ X, w4.heap.size = X := ⟨_, rfl⟩
  obtain ⟨w5, hw5⟩ : ∃ w5, w4.alloc (.cells (lcs n u sum) 76) = w5 := ⟨_, rfl⟩
  have HX := hid (show LB w5 X n u sum by rw [← hw5, ← hX]; exact LB.new _ _ _ _)
  have f5 : Fr No w4 w5 := by rw [← hw5]; exact fr1 _ _
  replace FG := hid (FG.out.trans f5)
  replace P0 := hid (P0.out.fr f5)
  replace HY := hid (HY.out.fr f5)
  replace HR := hid (Blk.fr HR.out f5 (fun h => h))
  rw [show w4.alloc (Obj.cells #[.int .i64 n, .int .i64 u, .int .i64 sum] 76) = w5 from hw5]
  try rw [hX]
  clear hw5 hX f5
  by_cases hl : (zs.length : Int) = 128 * yd
  case neg =>
    obtain rfl : V = (lz, 1) := by rw [← HV1.out, if_neg (fun h => hl h.1)]
    have HV := hid (show ¬ (l : Int) = 128 * yd by rw [← HL.out]; exact hl)
    clear hl HV1
    go_wp2_with (first | ((with_reducible refine ld_lay rfl (.tmp 10) rfl Y ?_ HY.out ?_); · rfl) | (go_at_call 80; refine (isc_no ya yr yq yb yd yt yx yu A l c _ (by have := HD.out; omega) HML.out HV.out).mono ?_; rintro e w6 ⟨rfl, f4⟩; replace FG := hid (FG.out.trans f4); replace HR := hid (Blk.fr HR.out f4 (fun h => h)); clear f4) | (refine st_lb rfl (.tmp 8) (.tmp 38) rfl (G + 1) rfl rfl (by simp [Value.oneCell']) HR.out rfl ?_; intro w9 HQ9 f9; have HF9 := hid (FG.out.step f9 (fun i hi e => by have := HG.out; omega)); clear f9))
    exact bodyPost_ret (v := .tuple #[lv 0 0 0, .int .i64 1]) (resLb rfl _ _ (G + 1) 0 0 0 (.int .i64 1) rfl rfl HQ9) rfl ⟨rfl, HF9.out⟩
  have HV := hid (show (l : Int) = 128 * yd by rw [← HL.out]; exact hl)
  by_cases hq : mayLb ⟨gc, gs, gn, gl, gk⟩ ⟨n, u, sum⟩
  case neg =>
    obtain rfl : V = (lz, 1) := by rw [← HV1.out, if_neg (fun h => hq h.2)]
    have HMQ := hid (fun W => HMY.out n u sum false W (by simpa using hq))
    clear hl HV1 hq
    go_wp2_with (first | ((with_reducible refine ld_lay rfl (.tmp 10) rfl Y ?_ HY.out ?_); · rfl) | ((with_reducible refine ld_geom rfl (.tmp 4) rfl G ?_ P0.out ?_); · rfl) | ((with_reducible refine ld_lb rfl (.tmp 12) rfl X ?_ HX.out ?_); · rfl) | (go_at_call 80; refine (isc_yes ya yr yq yb yd yt yx yu A l c _ (by have := HD.out; omega) HML.out HV.out).mono ?_; rintro e w6 ⟨rfl, f4⟩; replace FG := hid (FG.out.trans f4); replace P0 := hid (P0.out.fr f4); replace HX := hid (HX.out.fr f4); replace HR := hid (Blk.fr HR.out f4 (fun h => h)); obtain ⟨g0, g1, g2, g3, g4⟩ := P0.out.cells; obtain ⟨l0, l1, l2⟩ := HX.out.cells; clear f4) | (go_at_call 43; refine (HMQ.out _).mono ?_; rintro e w7 ⟨rfl, f4⟩; clear g0 g1 g2 g3 g4 l0 l1 l2; replace FG := hid (FG.out.trans f4); replace HR := hid (Blk.fr HR.out f4 (fun h => h)); clear f4) | (refine st_lb rfl (.tmp 8) (.tmp 38) rfl (G + 1) rfl rfl (by simp [Value.oneCell']) HR.out rfl ?_; intro w9 HQ9 f9; have HF9 := hid (FG.out.step f9 (fun i hi e => by have := HG.out; omega)); clear f9))
    exact bodyPost_ret (v := .tuple #[lv 0 0 0, .int .i64 1]) (resLb rfl _ _ (G + 1) 0 0 0 (.int .i64 1) rfl rfl HQ9) rfl ⟨rfl, HF9.out⟩
  obtain rfl : V = (⟨n, u, sum⟩, 0) := by rw [← HV1.out, if_pos ⟨hl, hq⟩]
  have HMQ := hid (fun W => HMY.out n u sum true W (by simpa using hq))
  clear hl HV1 hq
  go_wp2_with (first | ((with_reducible refine ld_lay rfl (.tmp 10) rfl Y ?_ HY.out ?_); · rfl) | ((with_reducible refine ld_geom rfl (.tmp 4) rfl G ?_ P0.out ?_); · rfl) | ((with_reducible refine ld_lb rfl (.tmp 12) rfl X ?_ HX.out ?_); · rfl) | (go_at_call 80; refine (isc_yes ya yr yq yb yd yt yx yu A l c _ (by have := HD.out; omega) HML.out HV.out).mono ?_; rintro e w6 ⟨rfl, f4⟩; replace FG := hid (FG.out.trans f4); replace P0 := hid (P0.out.fr f4); replace HX := hid (HX.out.fr f4); replace HR := hid (Blk.fr HR.out f4 (fun h => h)); obtain ⟨g0, g1, g2, g3, g4⟩ := P0.out.cells; obtain ⟨l0, l1, l2⟩ := HX.out.cells; clear f4) | (go_at_call 43; refine (HMQ.out _).mono ?_; rintro e w7 ⟨rfl, f4⟩; clear g0 g1 g2 g3 g4 l0 l1 l2; replace FG := hid (FG.out.trans f4); replace HX := hid (HX.out.fr f4); replace HR := hid (Blk.fr HR.out f4 (fun h => h)); clear f4) | (refine st_lb rfl (.tmp 8) (.tmp 39) rfl (G + 1) rfl rfl (by simp [Value.oneCell']) HR.out rfl ?_; intro w9 HQ9 f9; have HF9 := hid (FG.out.step f9 (fun i hi e => by have := HG.out; omega)); clear f9))
  exact bodyPost_ret (v := .tuple #[lv n u sum, .int .i64 0]) (resLb rfl _ _ (G + 1) n u sum (.int .i64 0) rfl rfl HQ9) rfl ⟨rfl, HF9.out⟩
end Go.Proofs.YtpiplcakefcaaaaDoor.BdE
