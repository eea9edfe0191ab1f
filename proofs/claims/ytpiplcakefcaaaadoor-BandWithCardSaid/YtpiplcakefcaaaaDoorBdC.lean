/- Contracts: a blank content, and sectors of a content, by the program. Conditions: the geometry's count of zones is 64 bits; the content reads as bytes. -/
import Derived.Test.YtpiplcakefcaaaaDoorBdF
namespace Go.Proofs.YtpiplcakefcaaaaDoor.BdC
open Go.RowKit MSep MFrame Kit MGeM CrcA CrcM CrcE BdM BdA BdB BdF
open GeA (bg BG BL ld_geom ld_lay by_)
open GeC (layout_ok)

def RetI (w w' : World) (e : Ending) (X : List Int) : Prop := ∃ A c, e = .returned (.slice A X.length c) ∧ IsB w' A X.length c X ∧ Fr No w w'
def RetT (w w' : World) (e : Ending) (r : List Int × Int) : Prop := ∃ A c, e = .returned (.tuple #[.slice A r.1.length c, .int .i64 r.2]) ∧ IsB w' A r.1.length c r.1 ∧ Fr No w w'
theorem isB_nil (w : World) : IsB w none 0 0 [] := ⟨Rd.nil w none, Nat.le_refl _, by simp [maxLen], fun x h => by cases h⟩
theorem RetT.no {w w' : World} (c : Int) (f : Fr No w w') : RetT w w' (.returned (.tuple #[.slice none 0 0, .int .i64 c])) ([], c) := ⟨none, 0, rfl, isB_nil w', f⟩
def blankF (g : Ge) : List Int := if mayG g then List.replicate (128 * (lay g).d.toNat) 0 else []
def chunkF (g : Ge) (zs : List Int) (a n : Int) : List Int × Int := if mayG g then (if (zs.length : Int) = 128 * (lay g).d then (if wi (lay g).d a n then ((zs.drop (128 * a.toNat)).take (128 * n.toNat), 0) else ([], 71)) else ([], 1)) else ([], 70)
set_option maxRecDepth 100000 in
set_option maxHeartbeats 4000000 in
theorem blank_ok (gc gs gn gl gk : Int) (w : World) (hs : r64 gs) :
    Calls Tryd.prog 39 #[.agg #[.int .i64 gc, .int .i64 gs, .int .i64 gn, .int .i64 gl, .int .i64 gk]] w fun e w' => RetI w w' e (blankF ⟨gc, gs, gn, gl, gk⟩) := by
  obtain ⟨i0, hi, hz0, hz1, hz2⟩ := info_parts u8_info
  have FG := hid (fr1 w (bg gc gs gn gl gk))
  have P0 := hid (BG.new w gc gs gn gl gk)
  have HLY := hid (fun W => layout_ok gc gs gn gl gk W hs)
  obtain ⟨V, hV⟩ : ∃ V, blankF ⟨gc, gs, gn, gl, gk⟩ = V := ⟨_, rfl⟩
  rw [hV]
  have HVV := hid hV
  clear hs hV
  go_enter Tryd.func39, Tryd.ntmps39
  by_cases hm : mayG ⟨gc, gs, gn, gl, gk⟩
  case neg =>
    obtain rfl : V = [] := by rw [← HVV.out]; exact if_neg hm
    rw [show lyo ⟨gc, gs, gn, gl, gk⟩ = (z8, 70) by unfold lyo; rw [if_neg hm]] at HLY
    unfold z8 at HLY
    dsimp only at HLY
    go_wp2_with (first | ((with_reducible refine ld_geom rfl (.tmp 1) rfl w.heap.size ?_ P0.out ?_); · rfl) | (go_at_call 58; refine (HLY.out _).mono ?_; rintro e w2 ⟨rfl, f2⟩; replace FG := hid (FG.out.trans f2); clear f2))
    go_ret
    exact ⟨none, 0, rfl, isB_nil _, FG.out.alloc _⟩
  rw [show lyo ⟨gc, gs, gn, gl, gk⟩ = (lay ⟨gc, gs, gn, gl, gk⟩, 0) by unfold lyo; rw [if_pos hm]] at HLY
  have hg := good hm.1
  obtain ⟨y, hy⟩ : ∃ y, lay ⟨gc, gs, gn, gl, gk⟩ = y := ⟨_, rfl⟩
  rw [hy] at HLY hg
  have hd1 := hg.d1
  have hd2 := hg.d2
  clear hg
  obtain ⟨ya, yr, yq, yb, yd, yt, yx, yu⟩ := y
  dsimp only at HLY hd1 hd2
  have HV1 := hid (show List.replicate (128 * yd.toNat) 0 = V by rw [← HVV.out, blankF, if_pos hm, hy])
  clear hy hm HVV
  obtain ⟨d, rfl⟩ : ∃ d : Nat, yd = d := ⟨yd.toNat, by omega⟩
  go_upto_region 2 with (first | ((with_reducible refine ld_geom rfl (.tmp 1) rfl w.heap.size ?_ P0.out ?_); · rfl) | (go_at_call 58; refine (HLY.out _).mono ?_; rintro e w2 ⟨rfl, f2⟩))
  obtain ⟨Y, hYY⟩ : ∃ Y, w2.heap.size = Y := ⟨_, rfl⟩
  obtain ⟨w3, hw3⟩ : ∃ w3, w2.alloc (by_ ya yr yq yb d yt yx yu) = w3 := ⟨_, rfl⟩
  have y4 : w3.cell? ⟨Y, 4, none⟩ = some (.int .i64 d) := (BL.cells (show BL w3 Y ya yr yq yb d yt yx yu by rw [← hw3, ← hYY]; exact BL.new _ _ _ _ _ _ _ _ _)).2.2.2.2.1
  replace FG := hid (FG.out.trans (show Fr No _ w3 by rw [← hw3]; exact f2.alloc _))
  rw [show w2.alloc (Obj.cells #[.int .i64 ya, .int .i64 yr, .int .i64 yq, .int .i64 yb, .int .i64 d, .int .i64 yt, .int .i64 yx, .int .i64 yu] 34) = w3 from hw3]
  try rw [hYY]
  have HD := hid (And.intro hd1 hd2)
  clear hw3 hYY f2 HLY P0
  go_wp2_with (at_make; go_must (refine wpList_make_full _ rfl _ _ 27 rfl w3.heap.size 5 i0 (.int .u8 0) 1 Tryd.underlying27 hi hz0 hz1 .i64 .i64 _ _ (d * 128) rfl rfl (by omega) (by omega) (by rw [hz2]; have := HD.out; omega) (by simp only [maxLen]; have := HD.out; omega) (Nat.le_refl _) ?_))
  intro w1 hown1 hg1
  have hF1 : Fr No w3 w1 := (Fr.refl _ _).grown hg1 (fun k hk => by cases hk)
  rw [toList_madeCells_one] at hown1
  have HO := hid (Rd.own hown1)
  have HF := hid (FG.out.trans hF1)
  clear hown1 hg1 hF1 hi hz0 hz1 hz2 y4
  go_wp2
  go_ret
  obtain rfl : V = List.replicate (d * 128) 0 := by rw [← HV1.out, Int.toNat_natCast, Nat.mul_comm]
  have e : (List.replicate (d * 128) (0 : Int)).length = d * 128 := List.length_replicate
  refine ⟨_, d * 128, by rw [e]; rfl, ?_, HF.out⟩
  rw [e]
  refine ⟨?_, Nat.le_refl _, by simp only [maxLen]; have := HD.out; omega, fun x hx => by rw [List.eq_of_mem_replicate hx]; decide⟩
  rw [List.map_replicate]
  exact HO.out
theorem chunkF_no {g : Ge} (h : ¬ mayG g) (zs : List Int) (a n : Int) : chunkF g zs a n = ([], 70) := if_neg h
theorem part_b {w : World} {g o l c a n : Nat} {zs : List Int} (h : IsB w (some ⟨g, o, none⟩) l c zs) (hl : 128 * (a + n) ≤ l) : Rd w (some ⟨g, o + 128 * a, none⟩) (128 * n) (((zs.drop (128 * a)).take (128 * n)).map (Value.int .u8)) := by
  have hlen : zs.length = l := by simpa using h.1.1
  refine ⟨by simp; omega, fun hn => ?_⟩
  obtain ⟨g', o', hA, hg, hc⟩ := h.1.2 (by omega)
  cases hA
  refine ⟨g, o + 128 * a, rfl, hg, fun j u hu => ?_⟩
  rw [Nat.add_assoc]
  refine hc _ u ?_
  rw [List.getElem?_map] at hu ⊢
  rw [List.getElem?_take] at hu
  split at hu
  · rw [List.getElem?_drop] at hu
    exact hu
  · cases hu
set_option maxRecDepth 100000 in
set_option maxHeartbeats 4000000 in
theorem chunk_ok (gc gs gn gl gk : Int) (A : Option Addr) (l c : Nat) (zs : List Int) (a n : Int) (w : World) (hs : r64 gs) (hb : IsB w A l c zs) :
    Calls Tryd.prog 40 #[.agg #[.int .i64 gc, .int .i64 gs, .int .i64 gn, .int .i64 gl, .int .i64 gk], .slice A l c, .int .i64 a, .int .i64 n] w fun e w' => RetT w w' e (chunkF ⟨gc, gs, gn, gl, gk⟩ zs a n) := by
  have hlen : zs.length = l := by simpa using hb.1.1
  have HL := hid hlen
  have FG := hid (fr1 w (bg gc gs gn gl gk))
  have P0 := hid (BG.new w gc gs gn gl gk)
  have HLY := hid (fun W => layout_ok gc gs gn gl gk W hs)
  have HB := hid hb
  obtain ⟨V, hV⟩ : ∃ V, chunkF ⟨gc, gs, gn, gl, gk⟩ zs a n = V := ⟨_, rfl⟩
  rw [hV]
  have HVV := hid hV
  clear hs hb hlen hV
  go_enter Tryd.func40, Tryd.ntmps40
  by_cases hm : mayG ⟨gc, gs, gn, gl, gk⟩
  case neg =>
    obtain rfl : V = ([], 70) := by rw [← HVV.out]; exact chunkF_no hm zs a n
    rw [show lyo ⟨gc, gs, gn, gl, gk⟩ = (z8, 70) by unfold lyo; rw [if_neg hm]] at HLY
    unfold z8 at HLY
    dsimp only at HLY
    go_wp2_with (first | ((with_reducible refine ld_geom rfl (.tmp 4) rfl w.heap.size ?_ P0.out ?_); · rfl) | (go_at_call 58; refine (HLY.out _).mono ?_; rintro e w2 ⟨rfl, f2⟩; replace FG := hid (FG.out.trans f2); clear f2))
    go_ret2
    exact RetT.no 70 (FG.out.alloc _)
  rw [show lyo ⟨gc, gs, gn, gl, gk⟩ = (lay ⟨gc, gs, gn, gl, gk⟩, 0) by unfold lyo; rw [if_pos hm]] at HLY
  have hg := good hm.1
  obtain ⟨y, hy⟩ : ∃ y, lay ⟨gc, gs, gn, gl, gk⟩ = y := ⟨_, rfl⟩
  rw [hy] at HLY hg
  have hd1 := hg.d1
  have hd2 := hg.d2
  clear hg
  obtain ⟨ya, yr, yq, yb, yd, yt, yx, yu⟩ := y
  dsimp only at HLY hd1 hd2
  have HV1 := hid (show (if (zs.length : Int) = 128 * yd then (if wi yd a n then ((zs.drop (128 * a.toNat)).take (128 * n.toNat), (0 : Int)) else ([], 71)) else ([], 1)) = V by rw [← HVV.out, chunkF, if_pos hm, hy])
  clear hy hm HVV
  go_upto_region 2 with (first | ((with_reducible refine ld_geom rfl (.tmp 4) rfl w.heap.size ?_ P0.out ?_); · rfl) | (go_at_call 58; refine (HLY.out _).mono ?_; rintro e w2 ⟨rfl, f2⟩))
  obtain ⟨Y, hYY⟩ : ∃ Y, w2.heap.size = Y := ⟨_, rfl⟩
  obtain ⟨w3, hw3⟩ : ∃ w3, w2.alloc (by_ ya yr yq yb yd yt yx yu) = w3 := ⟨_, rfl⟩
  have HY := hid (show BL w3 Y ya yr yq yb yd yt yx yu by rw [← hw3, ← hYY]; exact BL.new _ _ _ _ _ _ _ _ _)
  replace FG := hid (FG.out.trans (show Fr No _ w3 by rw [← hw3]; exact f2.alloc _))
  rw [show w2.alloc (Obj.cells #[.int .i64 ya, .int .i64 yr, .int .i64 yq, .int .i64 yb, .int .i64 yd, .int .i64 yt, .int .i64 yx, .int .i64 yu] 34) = w3 from hw3]
  try rw [hYY]
  have HD := hid (And.intro hd1 hd2)
  have HML := hid (show (l : Int) ≤ 9223372036854775807 by have h1 := HB.out.2.1; have h2 := HB.out.2.2.1; unfold maxLen at h2; omega)
  clear hw3 hYY f2 HLY P0 hd1 hd2
  by_cases hl : (zs.length : Int) = 128 * yd
  case neg =>
    obtain rfl : V = ([], 1) := by rw [← HV1.out, if_neg hl]
    clear HV1
    have HV := hid (show ¬ (l : Int) = 128 * yd by rw [← HL.out]; exact hl)
    clear hl
    go_wp2_with (first | ((with_reducible refine ld_lay rfl (.tmp 10) rfl Y ?_ HY.out ?_); · rfl) | (go_at_call 80; refine (isc_no ya yr yq yb yd yt yx yu A l c _ (by have := HD.out; omega) HML.out HV.out).mono ?_; rintro e w4 ⟨rfl, f4⟩; replace FG := hid (FG.out.trans f4); clear f4))
    go_ret2
    exact RetT.no 1 FG.out
  have HV2 := hid (show (if wi yd a n then ((zs.drop (128 * a.toNat)).take (128 * n.toNat), (0 : Int)) else ([], 71)) = V by rw [← HV1.out, if_pos hl])
  clear HV1
  have HV := hid (show (l : Int) = 128 * yd by rw [← HL.out]; exact hl)
  clear hl
  by_cases hw : wi yd a n
  case neg =>
    obtain rfl : V = ([], 71) := by rw [← HV2.out, if_neg hw]
    clear HV2
    have HW := hid hw
    clear hw
    go_wp2_with (first | ((with_reducible refine ld_lay rfl (.tmp 10) rfl Y ?_ HY.out ?_); · rfl) | (go_at_call 80; refine (isc_yes ya yr yq yb yd yt yx yu A l c _ (by have := HD.out; omega) HML.out HV.out).mono ?_; rintro e w4 ⟨rfl, f4⟩; replace FG := hid (FG.out.trans f4); replace HY := hid (HY.out.fr f4); clear f4) | (go_at_call 82; refine (isw_no ya yr yq yb yd yt yx yu a n _ (by have := HD.out; omega) HW.out).mono ?_; rintro e w4 ⟨rfl, f4⟩; replace FG := hid (FG.out.trans f4); clear f4))
    go_ret2
    exact RetT.no 71 FG.out
  have HV3 := hid (show ((zs.drop (128 * a.toNat)).take (128 * n.toNat), (0 : Int)) = V by rw [← HV2.out, if_pos hw])
  clear HV2
  have HW := hid hw
  obtain ⟨w1, w2', w3', w4'⟩ := hw
  obtain ⟨ka, rfl⟩ : ∃ k : Nat, a = k := ⟨a.toNat, by omega⟩
  obtain ⟨kn, rfl⟩ : ∃ k : Nat, n = k := ⟨n.toNat, by omega⟩
  have HK := hid (show 1 ≤ kn ∧ 128 * (ka + kn) ≤ l ∧ l ≤ 200000 by have := HV.out; have := HD.out; omega)
  clear w1 w2' w3' w4'
  obtain ⟨g, o, rfl, hg0, _⟩ := HB.out.1.2 (by have := HK.out; omega)
  clear hg0
  have HP := hid (part_b HB.out HK.out.2.1)
  have hX : ((zs.drop (128 * ka)).take (128 * kn)).length = 128 * kn := by rw [List.length_take, List.length_drop, HL.out]; have := HK.out; omega
  have hU : ∀ x ∈ (zs.drop (128 * ka)).take (128 * kn), 0 ≤ x ∧ x ≤ 255 := fun x hx => HB.out.2.2.2 x (List.mem_of_mem_drop (List.mem_of_mem_take hx))
  obtain ⟨X, hXX⟩ : ∃ X, (zs.drop (128 * ka)).take (128 * kn) = X := ⟨_, rfl⟩
  obtain rfl : V = (X, 0) := by rw [← HV3.out, Int.toNat_natCast, Int.toNat_natCast, hXX]
  clear HV3
  rw [hXX] at HP hX hU
  have HX := hid hX
  have HU := hid hU
  clear hXX hX hU
  go_wp2_with (first | ((with_reducible refine ld_lay rfl (.tmp 10) rfl Y ?_ HY.out ?_); · rfl) | (go_at_call 80; refine (isc_yes ya yr yq yb yd yt yx yu _ l c _ (by have := HD.out; omega) HML.out HV.out).mono ?_; rintro e w4 ⟨rfl, f4⟩; replace FG := hid (FG.out.trans f4); replace HY := hid (HY.out.fr f4); clear f4) | (go_at_call 82; refine (isw_yes ya yr yq yb yd yt yx yu ka kn _ (by have := HD.out; omega) HW.out).mono ?_; rintro e w4 ⟨rfl, f4⟩; replace FG := hid (FG.out.trans f4); clear f4) | (go_at_call 83; go_loud (refine (part_ok g o l c ka kn _ HK.out.1 HK.out.2.1 HB.out.2.1 HB.out.2.2.1).mono ?_; rintro e w5 ⟨rfl, rfl⟩)) | (go_at_call 66; go_loud (refine (cloneS_ok ⟨g, o + 128 * ka, none⟩ (128 * kn) (c - 128 * ka) X _ (by have := HK.out; omega) (by have := HK.out; omega) (HP.out.fr FG.out (fun _ _ _ h => h))).mono ?_; rintro e w6 ⟨g6, c6, rfl, _, hbk, f6⟩; have HBK := hid hbk; replace FG := hid (FG.out.trans f6); clear f6 hbk)))
  go_ret2
  refine ⟨some ⟨g6, 0, none⟩, c6, ?_, ?_, FG.out⟩
  · rw [HX.out]; rfl
  · rw [HX.out]; exact HBK.out.isB HU.out
end Go.Proofs.YtpiplcakefcaaaaDoor.BdC
