/- Contract: the label of a sector, by the program. Conditions: what comes in reads as bytes; the geometry's count of zones is 64 bits; the table of sums is as its text lays it. -/
import Derived.Test.YtpiplcakefcaaaaDoorBdH
namespace Go.Proofs.YtpiplcakefcaaaaDoor.BdI
open Go.RowKit MSep MFrame Kit MGeM CrcA CrcM CrcE BdM BdA BdB BdC BdD BdE BdG BdH
open GeA (bg BG BL ld_geom ld_lay by_)

def decF (g : Ge) (zs : List Int) : Lb × Int := if mayG g then (match lbP g zs with | none => (lz, 10) | some t => (t, 0)) else (lz, 70)
set_option maxRecDepth 100000 in
set_option maxHeartbeats 4000000 in
theorem dec_ok (gc gs gn gl gk : Int) (A : Option Addr) (l c : Nat) (zs : List Int) (w : World) (hs : r64 gs) (hb : IsB w A l c zs) (hT : TabAt w) :
    Calls Tryd.prog 45 #[.agg #[.int .i64 gc, .int .i64 gs, .int .i64 gn, .int .i64 gl, .int .i64 gk], .slice A l c] w fun e w' => RetL w w' e (decF ⟨gc, gs, gn, gl, gk⟩ zs) := by
  obtain ⟨G, hG⟩ : ∃ G, w.heap.size = G := ⟨_, rfl⟩
  obtain ⟨w1, hw1⟩ : ∃ w1, (w.alloc (bg gc gs gn gl gk)).alloc (.cells (lcs 0 0 0) 76) = w1 := ⟨_, rfl⟩
  have FG := hid (show Fr No w w1 by rw [← hw1]; exact (fr1 _ _).alloc _)
  have P0 := hid (show BG w1 G gc gs gn gl gk by rw [← hw1, ← hG]; exact (BG.new w gc gs gn gl gk : Blk _ _ _ _).alloc _)
  have HR := hid (show LB w1 (G + 1) 0 0 0 by
    rw [← hw1, ← hG]
    have := LB.new (w.alloc (bg gc gs gn gl gk)) 0 0 0
    rwa [World.size_alloc] at this)
  have HW1 := hid hw1
  have HGe := hid hG
  have HMG := hid (fun W => GeC.may_ok gc gs gn gl gk W hs)
  have HMY := hid (fun (b u s : Int) v W hv => maylb_ok gc gs gn gl gk b u s v W hs hv)
  have HB := hid hb
  have HT := hid hT
  obtain ⟨V, hV⟩ : ∃ V, decF ⟨gc, gs, gn, gl, gk⟩ zs = V := ⟨_, rfl⟩
  rw [hV]
  have HVV := hid hV
  clear hs hb hV hT hw1
  go_enter Tryd.func45, Tryd.ntmps45
  go_upto_region 1 with fail
  try rw [show (w.alloc (Obj.cells #[.int .i64 gc, .int .i64 gs, .int .i64 gn, .int .i64 gl, .int .i64 gk] 23)).alloc (Obj.cells #[.int .i64 0, .int .i64 0, .int .i64 0] 76) = w1 from HW1.out]
  try rw [hG]
  clear hG
  by_cases hm : mayG ⟨gc, gs, gn, gl, gk⟩
  case neg =>
    obtain rfl : V = (lz, 70) := by rw [← HVV.out]; exact if_neg hm
    rw [decide_eq_false hm] at HMG
    clear hm HVV
    go_wp2_with (first | ((with_reducible refine ld_geom rfl (.tmp 2) rfl G ?_ P0.out ?_); · rfl) | (go_at_call 53; refine (HMG.out _).mono ?_; rintro e w2 ⟨rfl, f2⟩; replace FG := hid (FG.out.trans f2); replace P0 := hid (P0.out.fr f2); replace HR := hid (Blk.fr HR.out f2 (fun h => h)); clear f2) | (refine st_lb rfl (.tmp 4) (.tmp 11) rfl (G + 1) rfl rfl (by simp [Value.oneCell']) HR.out rfl ?_; intro w9 HQ9 f9; have HF9 := hid (FG.out.step f9 (fun i hi e => by have := HGe.out; omega)); clear f9))
    exact bodyPost_ret (v := .tuple #[lv 0 0 0, .int .i64 70]) (resLb rfl _ _ (G + 1) 0 0 0 (.int .i64 70) rfl rfl HQ9) rfl ⟨rfl, HF9.out⟩
  rw [decide_eq_true hm] at HMG
  have HV1 := hid (show (match lbP ⟨gc, gs, gn, gl, gk⟩ zs with | none => (lz, (10 : Int)) | some t => (t, 0)) = V by rw [← HVV.out, decF, if_pos hm])
  clear HVV
  obtain ⟨o, ho⟩ : ∃ o, lP zs = o := ⟨_, rfl⟩
  have HO := hid ho
  cases o with
  | none =>
    obtain rfl : V = (lz, 10) := by rw [← HV1.out, lbP, ho]
    clear hm HV1 ho
    go_wp2_with (first | ((with_reducible refine ld_geom rfl (.tmp 2) rfl G ?_ P0.out ?_); · rfl) | (go_at_call 53; refine (HMG.out _).mono ?_; rintro e w2 ⟨rfl, f2⟩; replace FG := hid (FG.out.trans f2); replace P0 := hid (P0.out.fr f2); replace HR := hid (Blk.fr HR.out f2 (fun h => h)); clear f2) | (go_at_call 91; refine (labelOf_ok A l c zs _ (HB.out.fr FG.out) (HT.out.fr FG.out (fun h => h))).mono ?_; rintro e w3 ⟨⟨b', u', s', rfl, _⟩, f3⟩; rw [HO.out]; dsimp only [Option.isSome]; replace FG := hid ((FG.out.trans f3).alloc (.cells (lcs b' u' s') 76)); replace HR := hid (Blk.alloc (Blk.fr HR.out f3 (fun h => h)) (.cells (lcs b' u' s') 76)); clear f3) | (refine st_lb rfl (.tmp 4) (.tmp 25) rfl (G + 1) rfl rfl (by simp [Value.oneCell']) HR.out rfl ?_; intro w9 HQ9 f9; have HF9 := hid (FG.out.step f9 (fun i hi e => by have := HGe.out; omega)); clear f9))
    exact bodyPost_ret (v := .tuple #[lv 0 0 0, .int .i64 10]) (resLb rfl _ _ (G + 1) 0 0 0 (.int .i64 10) rfl rfl HQ9) rfl ⟨rfl, HF9.out⟩
  | some t =>
    obtain ⟨b, u, s⟩ := t
    go_upto_region 4 with (first | ((with_reducible refine ld_geom rfl (.tmp 2) rfl G ?_ P0.out ?_); · rfl) | (go_at_call 53; refine (HMG.out _).mono ?_; rintro e w2 ⟨rfl, f2⟩; replace FG := hid (FG.out.trans f2); replace P0 := hid (P0.out.fr f2); replace HR := hid (Blk.fr HR.out f2 (fun h => h)); clear f2) | (go_at_call 91; refine (labelOf_ok A l c zs _ (HB.out.fr FG.out) (HT.out.fr FG.out (fun h => h))).mono ?_; rintro e w3 ⟨⟨b', u', s', rfl, ht⟩, f3⟩; rw [HO.out] at ht ⊢; cases ht _ rfl; dsimp only [Option.isSome]))
    obtain ⟨X, hX⟩ : ∃ X, w3.heap.size = X := ⟨_, rfl⟩
    obtain ⟨w5, hw5⟩ : ∃ w5, w3.alloc (.cells (lcs b u s) 76) = w5 := ⟨_, rfl⟩
    have HX := hid (show LB w5 X b u s by rw [← hw5, ← hX]; exact LB.new _ _ _ _)
    have f5 : Fr No w2 w5 := by rw [← hw5]; exact f3.alloc _
    replace FG := hid (FG.out.trans f5)
    replace HR := hid (Blk.fr HR.out f5 (fun h => h))
    obtain ⟨g0, g1, g2, g3, g4⟩ := (P0.out.fr f5).cells
    obtain ⟨l0, l1, l2⟩ := HX.out.cells
    rw [show w3.alloc (Obj.cells #[.int .i64 b, .int .i64 u, .int .i64 s] 76) = w5 from hw5]
    try rw [hX]
    clear hw5 hX f5 f3 P0 ht
    by_cases hq : mayLb ⟨gc, gs, gn, gl, gk⟩ ⟨b, u, s⟩
    case neg =>
      obtain rfl : V = (lz, 10) := by rw [← HV1.out, lbP, ho]; dsimp only; rw [if_neg hq]
      have HMQ := hid (fun W => HMY.out b u s false W (by simpa using hq))
      clear hm HV1 hq ho HMY
      go_wp2_with (first | (go_at_call 43; refine (HMQ.out _).mono ?_; rintro e w7 ⟨rfl, f4⟩; clear g0 g1 g2 g3 g4 l0 l1 l2; replace FG := hid (FG.out.trans f4); replace HR := hid (Blk.fr HR.out f4 (fun h => h)); clear f4) | (refine st_lb rfl (.tmp 4) (.tmp 25) rfl (G + 1) rfl rfl (by simp [Value.oneCell']) HR.out rfl ?_; intro w9 HQ9 f9; have HF9 := hid (FG.out.step f9 (fun i hi e => by have := HGe.out; omega)); clear f9))
      exact bodyPost_ret (v := .tuple #[lv 0 0 0, .int .i64 10]) (resLb rfl _ _ (G + 1) 0 0 0 (.int .i64 10) rfl rfl HQ9) rfl ⟨rfl, HF9.out⟩
    obtain rfl : V = (⟨b, u, s⟩, 0) := by rw [← HV1.out, lbP, ho]; dsimp only; rw [if_pos hq]
    have HMQ := hid (fun W => HMY.out b u s true W (by simpa using hq))
    clear hm HV1 hq ho HMY
    go_wp2_with (first | ((with_reducible refine ld_lb rfl (.tmp 6) rfl X ?_ HX.out ?_); · rfl) | (go_at_call 43; refine (HMQ.out _).mono ?_; rintro e w7 ⟨rfl, f4⟩; clear g0 g1 g2 g3 g4 l0 l1 l2; replace FG := hid (FG.out.trans f4); replace HX := hid (HX.out.fr f4); replace HR := hid (Blk.fr HR.out f4 (fun h => h)); clear f4) | (refine st_lb rfl (.tmp 4) (.tmp 26) rfl (G + 1) rfl rfl (by simp [Value.oneCell']) HR.out rfl ?_; intro w9 HQ9 f9; have HF9 := hid (FG.out.step f9 (fun i hi e => by have := HGe.out; omega)); clear f9))
    exact bodyPost_ret (v := .tuple #[lv b u s, .int .i64 0]) (resLb rfl _ _ (G + 1) b u s (.int .i64 0) rfl rfl HQ9) rfl ⟨rfl, HF9.out⟩
end Go.Proofs.YtpiplcakefcaaaaDoor.BdI
