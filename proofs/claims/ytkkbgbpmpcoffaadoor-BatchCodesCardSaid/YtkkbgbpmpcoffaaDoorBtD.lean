/- Contract: whether a batch may be, by the program. Conditions: the slice reads as spans; all numbers are 64 bits. -/
import Derived.Test.YtkkbgbpmpcoffaaDoorBtB
namespace Go.Proofs.YtkkbgbpmpcoffaaDoor.BtD
open Go.RowKit MSep MSepC MSpM MGeM GeC Kit BtM BtA BtB
open SpA (wf w64)
open GeA (bg BG BL ld_geom by_)

set_option maxRecDepth 100000 in
set_option maxHeartbeats 4000000 in
theorem may_ok (gc gs gn gl gk q k : Int) (A : Option Addr) (l c : Nat) (xs : List Sp) (v : Bool) (w : World) (hs : r64 gs) (hl : l ≤ 140737488355328) (hlc : l ≤ c) (hx : RdS w A l xs) (hw : ∀ s ∈ xs, wf s) (hv : v = true ↔ mayB ⟨gc, gs, gn, gl, gk⟩ ⟨q, k, xs⟩) :
    Calls Tryd.prog 6 #[.agg #[.int .i64 gc, .int .i64 gs, .int .i64 gn, .int .i64 gl, .int .i64 gk], bv q k A l c] w fun e w' => e = .returned (.bool v) ∧ Fr No w w' := by
  obtain ⟨G, hG⟩ : ∃ G, w.heap.size = G := ⟨_, rfl⟩
  obtain ⟨w1, hw1⟩ : ∃ w1, (w.alloc (bg gc gs gn gl gk)).alloc (.cells (bcs q k A l c) 26) = w1 := ⟨_, rfl⟩
  have FG := hid (show Fr No w w1 by rw [← hw1]; exact (fr1 _ _).alloc _)
  have P0 := hid (show BG w1 G gc gs gn gl gk by rw [← hw1, ← hG]; exact (BG.new w gc gs gn gl gk : Blk _ _ _ _).alloc _)
  have P1 := hid (show BB w1 (G + 1) q k A l c by
    rw [← hw1, ← hG]
    have := BB.new (w.alloc (bg gc gs gn gl gk)) q k A l c
    rwa [World.size_alloc] at this)
  have HX := hid hx
  have HW := hid hw
  have HL := hid hl
  have HS := hid hs
  have HLC := hid hlc
  have HV := hid hv
  have HW1 := hid hw1
  have HLY := hid (fun W => layout_ok gc gs gn gl gk W hs)
  clear hx hw hl hs hlc hv hw1
  go_enter Tryd.func6, Tryd.ntmps6
  go_upto_region 1 with fail
  try rw [show (w.alloc (Obj.cells #[.int .i64 gc, .int .i64 gs, .int .i64 gn, .int .i64 gl, .int .i64 gk] 23)).alloc (Obj.cells #[.int .i64 q, .int .i64 k, .slice A l c] 26) = w1 from HW1.out]
  try rw [hG]
  by_cases hm : mayG ⟨gc, gs, gn, gl, gk⟩
  case neg =>
    have HVF := hid (show v = false by cases v with
      | false => rfl
      | true => exact absurd (HV.out.1 rfl).1 hm)
    rw [show lyo ⟨gc, gs, gn, gl, gk⟩ = (z8, 70) by unfold lyo; rw [if_neg hm]] at HLY
    unfold z8 at HLY
    dsimp only at HLY
    go_wp2_with (first | ((with_reducible refine ld_geom rfl (.tmp 2) rfl G ?_ P0.out ?_); · rfl) | (go_at_call 27; refine (HLY.out _).mono ?_; rintro e w2 ⟨rfl, f2⟩; replace FG := hid (FG.out.trans f2); clear f2))
    go_ret
    exact ⟨congrArg (fun b => Ending.returned (.bool b)) HVF.out.symm, FG.out.alloc _⟩
  rw [show lyo ⟨gc, gs, gn, gl, gk⟩ = (lay ⟨gc, gs, gn, gl, gk⟩, 0) by unfold lyo; rw [if_pos hm]] at HLY
  obtain ⟨y, hy⟩ : ∃ y, lay ⟨gc, gs, gn, gl, gk⟩ = y := ⟨_, rfl⟩
  rw [hy] at HLY
  have HY := hid hy
  have HM := hid hm
  clear hy hm
  obtain ⟨ya, yr, yq, yb, yd, yt, yx, yu⟩ := y
  dsimp only at HLY
  go_upto_region 2 with (first | ((with_reducible refine ld_geom rfl (.tmp 2) rfl G ?_ P0.out ?_); · rfl) | (go_at_call 27; refine (HLY.out _).mono ?_; rintro e w2 ⟨rfl, f2⟩))
  obtain ⟨Y, hYY⟩ : ∃ Y, w2.heap.size = Y := ⟨_, rfl⟩
  obtain ⟨w3, hw3⟩ : ∃ w3, w2.alloc (by_ ya yr yq yb yd yt yx yu) = w3 := ⟨_, rfl⟩
  have f3 : Fr No w1 w3 := by rw [← hw3]; exact f2.alloc _
  have HYB := hid (show BL w3 Y ya yr yq yb yd yt yx yu by rw [← hw3, ← hYY]; exact BL.new _ _ _ _ _ _ _ _ _)
  replace P0 := hid (P0.out.fr f3)
  replace P1 := hid (P1.out.fr f3)
  have HX1 := hid (HX.out.fr (FG.out.trans f3))
  replace FG := hid (FG.out.trans f3)
  obtain ⟨b0, b1, b2⟩ := P1.out.cells
  have HW3 := hid hw3
  clear f2 f3 hw3 HLY
  rw [show w2.alloc (Obj.cells #[.int .i64 ya, .int .i64 yr, .int .i64 yq, .int .i64 yb, .int .i64 yd, .int .i64 yt, .int .i64 yx, .int .i64 yu] 34) = w3 from HW3.out]
  try rw [hYY]
  clear HW3
  obtain ⟨g0, g1, g2, g3, g4⟩ := P0.out.cells
  by_cases h1 : q < 1
  · have h1b : decide (q < 1) = true := decide_eq_true h1
    have HVF := hid (show v = false by cases v with
      | false => rfl
      | true => have := (HV.out.1 rfl).2.1.1; dsimp only at this; omega)
    go_wp2
    go_ret
    exact ⟨congrArg (fun b => Ending.returned (.bool b)) HVF.out.symm, FG.out⟩
  have h1b : decide (q < 1) = false := decide_eq_false h1
  by_cases h2 : 1099511627776 < q
  · have h2b : decide (1099511627776 < q) = true := decide_eq_true h2
    have HVF := hid (show v = false by cases v with
      | false => rfl
      | true => have := (HV.out.1 rfl).2.1.2; dsimp only at this; omega)
    go_wp2
    go_ret
    exact ⟨congrArg (fun b => Ending.returned (.bool b)) HVF.out.symm, FG.out⟩
  have h2b : decide (1099511627776 < q) = false := decide_eq_false h2
  by_cases hsp : spsOk ⟨gc, gs, gn, gl, gk⟩ xs
  case neg =>
    have HVF := hid (show v = false by cases v with
      | false => rfl
      | true => exact absurd (HV.out.1 rfl).2.2.1 hsp)
    have HSP := hid hsp
    clear hsp
    go_wp2_with (first | (go_at_call 28; refine (maySpans_ok gc gs gn gl gk A l c xs false _ HS.out HL.out HLC.out HX1.out HW.out ⟨(fun h => Bool.noConfusion h), fun h => absurd h HSP.out⟩).mono ?_; rintro e w4 ⟨rfl, f4⟩; replace FG := hid (FG.out.trans f4); clear f4))
    go_ret
    exact ⟨congrArg (fun b => Ending.returned (.bool b)) HVF.out.symm, FG.out⟩
  have HSP := hid hsp
  have HDN := hid (spsOk_tn hsp).2.2
  clear hsp
  by_cases hk1 : k = 1
  · subst hk1
    have hkb : ((1 : Int) == 1) = true := rfl
    obtain ⟨Dn, hDn⟩ : ∃ Dn, dn xs = Dn := ⟨_, rfl⟩
    have HD := hid (show dsec 1 xs = Dn by rw [← hDn]; exact if_pos rfl)
    obtain ⟨vb, hvb⟩ : ∃ vb : Bool, decide (Dn ≤ yu) = vb := ⟨_, rfl⟩
    have HVX := hid (show v = vb by
      rw [← hvb]
      have hiff : v = true ↔ Dn ≤ yu := HV.out.trans ⟨fun h => by
        rcases h.2.2.2 with h | h
        · have := h.2; dsimp only at this; rw [HY.out] at this; rw [← hDn, HDN.out]; exact this
        · have := h; dsimp only at this; omega, fun h => ⟨HM.out, ⟨by dsimp only; omega, by dsimp only; omega⟩, HSP.out, Or.inl ⟨rfl, by dsimp only; rw [HY.out, ← HDN.out, hDn]; exact h⟩⟩⟩
      by_cases hh : Dn ≤ yu
      · rw [decide_eq_true hh]; exact hiff.2 hh
      · rw [decide_eq_false hh]
        cases v with
        | false => rfl
        | true => exact absurd (hiff.1 rfl) hh)
    clear hDn
    go_upto_region 6 with (first | (go_at_call 28; refine (maySpans_ok gc gs gn gl gk A l c xs true _ HS.out HL.out HLC.out HX1.out HW.out ⟨fun _ => HSP.out, fun _ => rfl⟩).mono ?_; rintro e w4 ⟨rfl, f4⟩; replace FG := hid (FG.out.trans f4); replace P1 := hid (P1.out.fr f4); have HYB4 := hid (HYB.out.fr f4); clear f4 b0 b1 b2 g0 g1 g2 g3 g4; obtain ⟨b0, b1, b2⟩ := P1.out.cells; have y7 := HYB4.out.cells.2.2.2.2.2.2.2))
    have FW : Hid (Fr No w4 w4) := hid (Fr.refl No _)
    have FW := kd FW
    refine wp_region_noPanic ?_
    refine wp_region_held_drew (S := (fun W' => W'.cell? ⟨G + 1, 0, none⟩ = some (.int .i64 q) ∧ W'.cell? ⟨G + 1, 1, none⟩ = some (.int .i64 1) ∧ W'.cell? ⟨G + 1, 2, none⟩ = some (.slice A l c) ∧ W'.cell? ⟨Y, 7, none⟩ = some (.int .i64 yu) ∧ Hid (Fr No w4 W'))) (by kernel_rfl) ?_ (fun hHeld => ?_)
    · (try dsimp only); (first | (go_split_ands; exact ⟨kc f (by assumption), kc f (by assumption), kc f (by assumption), kc f (by assumption), by assumption⟩) | (go_split_ands; exact ⟨(by assumption), (by assumption), (by assumption), (by assumption), by assumption⟩) | (go_split_ands; exact ⟨kc (fr1 _ _) (by assumption), kc (fr1 _ _) (by assumption), kc (fr1 _ _) (by assumption), kc (fr1 _ _) (by assumption), kfa (by assumption)⟩))
    refine wpAnyH_take (i := 0) (v := ?v1) rfl (by kernel_rfl) (by kernel_rfl) (by kernel_rfl) (fun _ _ _ h => h) (Or.inl ⟨by kernel_rfl, ?y1⟩) (by assumption) ?_
    case y1 => (intro w hSw; (try dsimp only at hSw); go_simp; all_goals with_reducible rfl)
    try simp only [Act.put, List.getElem_toArray, List.getElem_cons_zero, List.setIfInBounds_toArray, List.set_cons_zero, List.set_cons_succ]
    refine wpAnyH_take (i := 2) (v := ?v2) rfl (by kernel_rfl) (by kernel_rfl) (by kernel_rfl) (fun _ _ _ h => h) (Or.inl ⟨by kernel_rfl, ?y2⟩) (by assumption) ?_
    case y2 => (intro w hSw; (try dsimp only at hSw); go_simp; all_goals with_reducible rfl)
    try simp only [Act.put, List.getElem_toArray, List.getElem_cons_succ, List.getElem_cons_zero, List.setIfInBounds_toArray, List.set_cons_zero, List.set_cons_succ]
    refine wpAnyH_take (i := 3) (v := ?v3) rfl (by kernel_rfl) (by kernel_rfl) (by kernel_rfl) (fun _ _ _ h => h) (Or.inl ⟨by kernel_rfl, ?y3⟩) (by assumption) ?_
    case y3 => (intro w hSw; (try dsimp only at hSw); go_simp; all_goals with_reducible rfl)
    try simp only [Act.put, List.getElem_toArray, List.getElem_cons_succ, List.getElem_cons_zero, List.setIfInBounds_toArray, List.set_cons_zero, List.set_cons_succ]
    refine wpAnyH_ready (rs := [1]) (by kernel_rfl) (by simp) (AllReadyH.cons rfl (fun K hK => ?_) AllReadyH.nil)
    go_simp
    go_at_call 23
    refine (data_ok q 1 A l c xs _ HL.out (HX.out.fr (FG.out.trans FW.out)) HW.out).mono ?_
    rintro e W1 ⟨rfl, f⟩
    have FW := kf f hHeld.2.2.2.2
    rw [HD.out]
    dsimp only
    refine hK.out _ _ ?_ (fun hHeld => ?_)
    · (try dsimp only); (first | (go_split_ands; exact ⟨kc f (by assumption), kc f (by assumption), kc f (by assumption), kc f (by assumption), by assumption⟩) | (go_split_ands; exact ⟨(by assumption), (by assumption), (by assumption), (by assumption), by assumption⟩) | (go_split_ands; exact ⟨kc (fr1 _ _) (by assumption), kc (fr1 _ _) (by assumption), kc (fr1 _ _) (by assumption), kc (fr1 _ _) (by assumption), kfa (by assumption)⟩))
    clear hK K
    try simp only [Act.put, List.getElem_toArray, List.getElem_cons_succ, List.getElem_cons_zero, List.setIfInBounds_toArray, List.set_cons_zero, List.set_cons_succ]
    refine wpAnyH_take (i := 4) (v := (.bool vb)) rfl (by kernel_rfl) (by kernel_rfl) (by kernel_rfl) (fun _ _ _ h => h) (Or.inl ⟨by kernel_rfl, fun w hSw => by first | (go_simp; done) | (go_simp; with_reducible rfl) | (go_simp; omega)⟩) (by assumption) ?_
    try simp only [Act.put, List.getElem_toArray, List.getElem_cons_succ, List.getElem_cons_zero, List.setIfInBounds_toArray, List.set_cons_zero, List.set_cons_succ]
    refine wpAnyH_take (i := 5) (v := ?v4) rfl (by kernel_rfl) (by kernel_rfl) (by kernel_rfl) (fun _ _ _ h => h) (Or.inl ⟨by kernel_rfl, ?y4⟩) (by assumption) ?_
    case y4 => (intro w hSw; (try dsimp only at hSw); go_simp; all_goals with_reducible rfl)
    try simp only [Act.put, List.getElem_toArray, List.getElem_cons_succ, List.getElem_cons_zero, List.setIfInBounds_toArray, List.set_cons_zero, List.set_cons_succ]
    refine wpAnyH_done (by kernel_rfl) ?_ _
    refine NoPanic.normal ?_
    go_wp2
    go_ret
    exact ⟨congrArg (fun b => Ending.returned (.bool b)) HVX.out.symm, FG.out.trans hHeld.2.2.2.2.out⟩
  have hkb : (k == 1) = false := by simpa using hk1
  by_cases hk2 : k = 2
  · subst hk2
    have HVT := hid (show v = true from HV.out.2 ⟨HM.out, ⟨by dsimp only; omega, by dsimp only; omega⟩, HSP.out, Or.inr rfl⟩)
    go_wp2_with (first | (go_at_call 28; refine (maySpans_ok gc gs gn gl gk A l c xs true _ HS.out HL.out HLC.out HX1.out HW.out ⟨fun _ => HSP.out, fun _ => rfl⟩).mono ?_; rintro e w4 ⟨rfl, f4⟩; replace FG := hid (FG.out.trans f4); replace P1 := hid (P1.out.fr f4); clear f4 b0 b1 b2 g0 g1 g2 g3 g4; obtain ⟨b0, b1, b2⟩ := P1.out.cells))
    go_ret
    exact ⟨congrArg (fun b => Ending.returned (.bool b)) HVT.out.symm, FG.out⟩
  · have hkb2 : (k == 2) = false := by simpa using hk2
    have HVF := hid (show v = false by cases v with
      | false => rfl
      | true => rcases (HV.out.1 rfl).2.2.2 with h | h
                · exact absurd h.1 hk1
                · exact absurd h hk2)
    go_wp2_with (first | (go_at_call 28; refine (maySpans_ok gc gs gn gl gk A l c xs true _ HS.out HL.out HLC.out HX1.out HW.out ⟨fun _ => HSP.out, fun _ => rfl⟩).mono ?_; rintro e w4 ⟨rfl, f4⟩; replace FG := hid (FG.out.trans f4); replace P1 := hid (P1.out.fr f4); clear f4 b0 b1 b2 g0 g1 g2 g3 g4; obtain ⟨b0, b1, b2⟩ := P1.out.cells))
    go_ret
    exact ⟨congrArg (fun b => Ending.returned (.bool b)) HVF.out.symm, FG.out⟩
end Go.Proofs.YtkkbgbpmpcoffaaDoor.BtD
