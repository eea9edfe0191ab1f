/- Contracts: the label of any bytes, whatever label it is, by the program; the label of a sector. Conditions: they read as bytes; the geometry's count of zones is 64 bits; the table of sums is as its text lays it. -/
import Derived.Test.YtpiplcakefcaaaaDoorBdG
namespace Go.Proofs.YtpiplcakefcaaaaDoor.BdH
open Go.RowKit MSep MFrame Kit LeA LeW LeR LeX RdA MGeM CrcA CrcM CrcE CrcG BdM BdA BdB BdC BdD BdE BdG
open GeA (bg BG BL ld_geom ld_lay by_)

theorem get_rd (g n : Nat) (B : Nat) (U : Nat → Prop) (st : Option (List Int)) (w : World) (hs : n = 1 ∨ n = 2 ∨ n = 4 ∨ n = 8) (h : RdO w B U g st) :
    Calls Tryd.prog 103 #[.pointer (some ⟨g, 0, none⟩), .int .i64 n] w fun e w' => e = .returned (.int .u64 (gt n st).1) ∧ RdO w' B U g (gt n st).2 ∧ Fr (fun k => k = g) w w' := by
  have hu := h.own
  cases st with
  | none =>
    refine (get_bad g n B true none 0 [] w (.inr (by simp; omega)) h.1).mono ?_
    rintro e w' ⟨rfl, h1, h2⟩
    exact ⟨rfl, ⟨h1, hu⟩, h2⟩
  | some xs =>
    obtain ⟨A, c, h1, h2⟩ := h
    by_cases hl : xs.length < n
    · simp only [gt, if_pos hl]
      refine (get_bad g n B false A c xs w (.inr (by omega)) h1).mono ?_
      rintro e w' ⟨rfl, h3, h4⟩
      exact ⟨rfl, ⟨h3, hu⟩, h4⟩
    · simp only [gt, if_neg hl]
      refine (get_ok g n B false A c xs w hs (by omega) h1).mono ?_
      rintro e w' ⟨rfl, h3, h4⟩
      exact ⟨rfl, ⟨_, _, h3, fun k hk => h2 k (RF.cut hk)⟩, h4⟩
theorem done_np2 (g : Nat) (B : Nat) (U : Nat → Prop) (st : Option (List Int)) (w : World) (h : RdO w B U g st) :
    Calls Tryd.prog 105 #[.pointer (some ⟨g, 0, none⟩)] w fun e w' => e = .returned (.int .i64 (dn st)) ∧ Fr No w w' :=
  (done_rd g B U st w h).mono (by rintro e w' ⟨rfl, rfl⟩; exact ⟨rfl, Fr.refl _ _⟩)
theorem mark_eq {ys : List Int} (h : ∀ x ∈ ys, 0 ≤ x ∧ x ≤ 255) : ((strOfNums ys).toList == ([76, 66] : List UInt8)) = decide (ys = [76, 66]) := by
  rw [CrcF.str_list]
  by_cases e : ys = [76, 66]
  · subst e; rfl
  · rw [decide_eq_false e, beq_eq_false_iff_ne]
    intro h2
    exact e (CrcF.str_inj h (by decide) (h2.trans rfl))
theorem st_lb_step {ops : Array Oper} {o : Oper} {ac : Act} {w : World} {K : Act → World → Prop} {Q : Exit → Act → World → Prop} {E : Prop} (hgd : o.guard = none) (x y : Operand) (ho : o.op = .store 76 x y) (g : Nat) (hx : ac.eval x = .pointer (some ⟨g, 0, none⟩)) {a0 a1 a2 : Value}
    (hy : ac.eval y = .agg #[a0, a1, a2]) (h1 : (#[a0, a1, a2] : Array Value).all (·.oneCell') = true) {cs : Array Value} (hg : Blk w g 76 cs) (hsz : cs.size = 3)
    (h : ∀ W', Blk W' g 76 #[a0, a1, a2] → Fr (fun q => q = g) w W' → K (ac.put o.dst undef) W') :
    if Region.wanted o (yielded ops ac.tmps) = true then Oper.wp Tryd.prog o ac w K Q else E :=
  step_wanted hgd (wp_store_row 76 x y ho g _ hx hy 76 _ hg infoLb (hsz.trans rfl) h1 (h _ (Blk.setRow hg _) (Fr.setRow (S := fun q => q = g) (Fr.refl _ _) (fun _ => rfl) _)))
def RetO (w w' : World) (E : Ending) (o : Option Lb) : Prop := (∃ b u s, E = .returned (.tuple #[lv b u s, .bool o.isSome]) ∧ ∀ t, o = some t → t = ⟨b, u, s⟩) ∧ Fr No w w'
set_option maxRecDepth 100000 in
set_option maxHeartbeats 8000000 in
theorem labelOf_ok (A : Option Addr) (l c : Nat) (zs : List Int) (w : World) (hb : IsB w A l c zs) (hT : TabAt w) :
    Calls Tryd.prog 91 #[.slice A l c] w fun E w' => RetO w w' E (lP zs) := by
  have hlen : zs.length = l := by simpa using hb.1.1
  obtain ⟨R, hR⟩ : ∃ R, w.heap.size = R := ⟨_, rfl⟩
  obtain ⟨w1, hw1⟩ : ∃ w1, w.alloc (.cells (lcs 0 0 0) 76) = w1 := ⟨_, rfl⟩
  have FW := hid (show Fr No w w1 by rw [← hw1]; exact fr1 _ _)
  have HQ : Blk w1 R 76 (lcs 0 0 0) := by rw [← hw1, ← hR]; exact LB.new _ _ _ _
  have hs1 : w1.heap.size = R + 1 := by rw [← hw1, ← hR]; simp
  have HS1 := hid hs1
  have HW1 := hid hw1
  have HI := hid (hb.fr FW.out)
  have HT1 := hid (hT.fr FW.out (fun h => h))
  have HLEN := hid hlen
  have HR := hid hR
  clear hb hT hw1 hs1 hlen hR
  obtain ⟨V, hV⟩ : ∃ V, lP zs = V := ⟨_, rfl⟩
  rw [hV]
  go_enter Tryd.func91, Tryd.ntmps91
  go_upto_region 1 with fail
  try rw [show w.alloc (Obj.cells #[.int .i64 0, .int .i64 0, .int .i64 0] 76) = w1 from HW1.out]
  try rw [HR.out]
  by_cases hs : secOk zs = true
  case neg =>
    obtain rfl : V = none := by rw [← hV, lP, if_neg hs]
    have HC : Hid ((l == 128 && ld zs 4 == onN 0 (zs.drop 4)) = false) := hid (by rw [← HLEN.out]; simpa [secOk] using hs)
    clear hV hs
    go_wp2_with (first | (go_at_call 100; refine (check_any _ _ _ zs _ HI.out HT1.out).mono ?_; rintro e' w2 ⟨rfl, rfl⟩; rw [HC.out]) | (refine st_lb rfl (.tmp 2) (.tmp 9) rfl R rfl rfl (by simp [Value.oneCell']) HQ rfl ?_; intro w9 HQ9 f9; have HF9 := hid (FW.out.step f9 (fun i hi e => by have := HR.out; omega)); clear f9))
    exact bodyPost_ret (v := .tuple #[lv 0 0 0, .bool false]) (resLb rfl _ _ R 0 0 0 (.bool false) rfl rfl HQ9) rfl (show RetO w _ _ none from ⟨⟨0, 0, 0, rfl, fun t h => by cases h⟩, HF9.out⟩)
  have HC : Hid ((l == 128 && ld zs 4 == onN 0 (zs.drop 4)) = true) := hid (by rw [← HLEN.out]; exact hs)
  have hl : l = 128 := by have := HC.out; simp only [Bool.and_eq_true, beq_iff_eq] at this; exact this.1
  subst hl
  have hVd : lP2 (zs.drop 4) = V := by rw [← hV, lP, if_pos hs]
  have HVD := hid hVd
  clear hV hs hVd
  obtain ⟨ga, oa, rfl, hga, _⟩ := HI.out.1.2 (by omega)
  have hc4 : ¬ c = 4 := by have := HI.out.2.1; omega
  have HR4 : Hid (Rd w1 (some ⟨ga, oa + 4, none⟩) 124 ((zs.drop 4).map (Value.int .u8))) := hid (by
    have := HI.out.1.cut (k := 4) (c := c) (by omega) HI.out.2.1
    unfold cutA at this
    rw [if_neg hc4] at this
    simpa [add_off, List.map_drop] using this)
  have HU8 := hid (show ∀ x ∈ zs.drop 4, 0 ≤ x ∧ x ≤ 255 from fun x hx => HI.out.2.2.2 x (List.mem_of_mem_drop hx))
  have HCC := hid HI.out.2
  have HD4 := hid (show (zs.drop 4).length = 124 by rw [List.length_drop, HLEN.out])
  obtain ⟨X, hX⟩ : ∃ X, zs.drop 4 = X := ⟨_, rfl⟩
  rw [hX] at HR4 HU8 HVD HD4
  clear hX
  have hc4l : (4 : Int) ≤ (128 : Nat) := by decide
  go_upto_region 4 with (first | (go_at_call 100; refine (check_any _ _ _ zs _ HI.out HT1.out).mono ?_; rintro e' w2 ⟨rfl, rfl⟩; rw [HC.out]) | (go_at_call 101; refine (take_rd (some ⟨ga, oa + 4, none⟩) 124 (c - 4) X w1 HR4.out HU8.out (by decide)).mono ?_; rintro e' w3 ⟨g, rfl, HS, f3⟩; rw [HS1.out] at HS; replace FW := hid (FW.out.trans f3); replace HQ := Blk.fr HQ f3 (fun h => h); have HG := hid (HS.own); have HLT := hid (HS.lt); have HB3 := hid (show R + 1 ≤ w3.heap.size by have := f3.size; have := HS1.out; omega); clear f3))
  have hmk := mark_eq (ys := X.take 2) (fun x hx => HU8.out x (List.mem_of_mem_take hx))
  have hUg : ∀ k, R + 1 ≤ k ∧ k < w3.heap.size → R < k ∧ k < w3.heap.size := fun k h => ⟨by omega, h.2⟩
  have HUG := hid hUg
  clear hUg
  by_cases hm : X.take 2 = [76, 66]
  case neg =>
    rw [decide_eq_false hm] at hmk
    obtain rfl : V = none := by rw [← HVD.out, lP2, if_neg hm]
    clear hm
    go_wp2_with (first | (go_at_call 102; refine (bytes_rd g 2 (R + 1) _ X _ (by have := HD4.out; omega) HB3.out HS).mono ?_; rintro e' w4 ⟨A4, c4, rfl, hr4, HS, f4⟩; have hcv := run_str (P := Tryd.prog) w4 27 9 5 Tryd.underlying27 Tryd.underlying5 Tryd.underlying9 A4 2 c4 (X.take 2) (by simpa [List.map_take] using hr4); replace FW := hid (FW.out.step f4 (fun i hi h => by have := HUG.out g HG.out; have := HR.out; omega)); replace HQ := Blk.fr HQ f4 (fun h => by have := HUG.out g HG.out; omega); have hsz4 := hid f4.size; clear f4 hr4) | (refine st_lb rfl (.tmp 2) (.tmp 17) rfl R rfl rfl (by simp [Value.oneCell']) HQ rfl ?_; intro w9 HQ9 f9; have HF9 := hid (FW.out.step f9 (fun i hi e => by have := HR.out; omega)); clear f9))
    exact bodyPost_ret (v := .tuple #[lv 0 0 0, .bool false]) (resLb rfl _ _ R 0 0 0 (.bool false) rfl rfl HQ9) rfl (show RetO w _ _ none from ⟨⟨0, 0, 0, rfl, fun t h => by cases h⟩, HF9.out⟩)
  rw [decide_eq_true hm] at hmk
  have h8 : by8 (some (X.drop 2)) := fun ys hy x hx => by cases hy; exact HU8.out x (List.mem_of_mem_drop hx)
  have hVM : lP1 (some (X.drop 2)) = V := by rw [← HVD.out, lP2, if_pos hm]
  have b0 := gt_in (n := 4) h8
  have b2 := gt_in (n := 4) (gt_by8 (n := 8) (gt_by8 (n := 4) h8))
  unfold lP1 gP at hVM
  obtain ⟨⟨v0, s1⟩, hg0⟩ : ∃ q, gt 4 (some (X.drop 2)) = q := ⟨_, rfl⟩
  rw [hg0] at hVM b0 b2
  obtain ⟨⟨q1, s2⟩, hg1⟩ : ∃ q, gt 8 s1 = q := ⟨_, rfl⟩
  dsimp only at hVM b0 b2
  rw [hg1] at hVM b2
  obtain ⟨⟨v2, s3⟩, hg2⟩ : ∃ q, gt 4 s2 = q := ⟨_, rfl⟩
  dsimp only at hVM b2
  rw [hg2] at hVM b2
  dsimp only at hVM b2
  rw [q4] at b0 b2
  obtain ⟨v1, hwq⟩ : ∃ v1, wrap64 q1 = v1 := ⟨_, rfl⟩
  rw [hwq] at hVM
  obtain ⟨s, hs⟩ : ∃ s, dn s3 = s := ⟨_, rfl⟩
  rw [hs] at hVM
  have HD9 := hid hs
  have HE1 := hid hg0
  have HE2 := hid hg1
  have HE3 := hid hg2
  have HVS := hid (show V.isSome = (s == 0) by
    rw [← hVM]
    by_cases h0 : s = 0
    · rw [if_pos h0, h0]; rfl
    · rw [if_neg h0]; symm; simpa using h0)
  have HVT := hid (show ∀ t, V = some t → t = ⟨v0, v1, v2⟩ by
    intro t h
    rw [← hVM] at h
    split at h
    · cases h; rfl
    · cases h)
  have hw0 : wrap64 v0 = v0 := RcM.w64 _ (by omega)
  have hw2 : wrap64 v2 = v2 := RcM.w64 _ (by omega)
  clear hg0 hg1 hg2 hs hVM b0 b2 h8 hm HVD
  go_upto_region 7 with ((go_at_call 102; refine (bytes_rd g 2 (R + 1) _ X _ (by have := HD4.out; omega) HB3.out HS).mono ?_; rintro e' w4 ⟨A4, c4, rfl, hr4, HS, f4⟩; have hcv := run_str (P := Tryd.prog) w4 27 9 5 Tryd.underlying27 Tryd.underlying5 Tryd.underlying9 A4 2 c4 (X.take 2) (by simpa [List.map_take] using hr4); replace FW := hid (FW.out.step f4 (fun i hi h => by have := HUG.out g HG.out; have := HR.out; omega)); replace HQ := Blk.fr HQ f4 (fun h => by have := HUG.out g HG.out; omega); have hsz4 := hid f4.size; clear f4 hr4))
  obtain ⟨D, hD⟩ : ∃ D, w4.heap.size = D := ⟨_, rfl⟩
  obtain ⟨w5, hw5⟩ : ∃ w5, w4.alloc (.cells (lcs 0 0 0) 76) = w5 := ⟨_, rfl⟩
  have HD : Blk w5 D 76 #[.int .i64 0, .int .i64 0, .int .i64 0] := by rw [← hw5, ← hD]; exact LB.new _ _ _ _
  have f5 : Fr No w4 w5 := by rw [← hw5]; exact fr1 _ _
  have HSD := hid (show w3.heap.size ≤ D by rw [← hD]; exact hsz4.out)
  replace FW := hid (FW.out.trans f5)
  replace HQ := Blk.fr HQ f5 (fun h => h)
  replace HS := HS.fr f5 (fun _ _ h => h)
  try rw [show w4.alloc (Obj.cells #[.int .i64 0, .int .i64 0, .int .i64 0] 76) = w5 from hw5]
  try rw [hD]
  have HGN := hid (show g ≠ R ∧ g ≠ D ∧ g < D ∧ D ≠ R ∧ R < D by have := HUG.out g HG.out; have := HSD.out; omega)
  have HUD := hid (show ∀ k, (R + 1 ≤ k ∧ k < w3.heap.size) → k ≠ D ∧ k ≠ R from fun k h => by have := HSD.out; omega)
  clear hw5 hD f5 hmk
  have hgd : (fun k => k = g) D → False := fun h => HGN.out.2.1 h.symm
  have hgr : (fun k => k = g) R → False := fun h => HGN.out.1 h.symm
  go_upto_region 8 with (go_at_call 103; go_loud (refine (get_rd g 4 (R + 1) _ _ _ (by decide) HS).mono ?_; rintro e' wq ⟨rfl, hr6, f6⟩; rw [HE1.out] at hr6 ⊢; dsimp only at hr6 ⊢; have HDq := hid (Blk.fr HD f6 hgd); replace HQ := Blk.fr HQ f6 hgr; have HSq := hid hr6; replace FW := hid (FW.out.step f6 (fun i hi h => by have := HUG.out g HG.out; have := HR.out; omega)); have cj : wq.cell? ⟨D, 0, none⟩ = some (.int .i64 0) := Blk.cell HDq.out 0; have zj : wq.frozen? ⟨D, 0, none⟩ = false := Blk.frozen HDq.out 0; clear hr6 f6 HD HS))
  have HD : Blk (wq.setCell ⟨D, 0, none⟩ (.int .i64 v0)) D 76 #[.int .i64 v0, .int .i64 0, .int .i64 0] := Blk.set_ HDq.out 0 (.int .i64 v0)
  have HS := RdO.fr HSq.out (Fr.set1 wq D 0 (.int .i64 v0)) (fun k hk e => (HUD.out k hk).1 e)
  replace FW := hid (FW.out.setCell (p := ⟨D, 0, none⟩) (fun h => absurd h (by have := HUG.out g HG.out; have := HGN.out; have := HR.out; simp only []; omega)) (.int .i64 v0))
  replace HQ := Blk.far HQ (p := ⟨D, 0, none⟩) (fun h => by have := HGN.out; have := HUG.out g HG.out; simp only [] at h; omega) (.int .i64 v0)
  clear HDq HSq cj zj
  generalize World.setCell wq ⟨D, 0, none⟩ (.int .i64 v0) = wg0 at HD HS FW HQ ⊢
  go_upto_region 9 with (go_at_call 103; go_loud (refine (get_rd g 8 (R + 1) _ _ _ (by decide) HS).mono ?_; rintro e' wq ⟨rfl, hr6, f6⟩; rw [HE2.out] at hr6 ⊢; dsimp only at hr6 ⊢; have HDq := hid (Blk.fr HD f6 hgd); replace HQ := Blk.fr HQ f6 hgr; have HSq := hid hr6; replace FW := hid (FW.out.step f6 (fun i hi h => by have := HUG.out g HG.out; have := HR.out; omega)); have cj : wq.cell? ⟨D, 1, none⟩ = some (.int .i64 0) := Blk.cell HDq.out 1; have zj : wq.frozen? ⟨D, 1, none⟩ = false := Blk.frozen HDq.out 1; clear hr6 f6 HD HS))
  have HD : Blk (wq.setCell ⟨D, 1, none⟩ (.int .i64 v1)) D 76 #[.int .i64 v0, .int .i64 v1, .int .i64 0] := Blk.set_ HDq.out 1 (.int .i64 v1)
  have HS := RdO.fr HSq.out (Fr.set1 wq D 1 (.int .i64 v1)) (fun k hk e => (HUD.out k hk).1 e)
  replace FW := hid (FW.out.setCell (p := ⟨D, 1, none⟩) (fun h => absurd h (by have := HUG.out g HG.out; have := HGN.out; have := HR.out; simp only []; omega)) (.int .i64 v1))
  replace HQ := Blk.far HQ (p := ⟨D, 1, none⟩) (fun h => by have := HGN.out; have := HUG.out g HG.out; simp only [] at h; omega) (.int .i64 v1)
  clear HDq HSq cj zj
  generalize World.setCell wq ⟨D, 1, none⟩ (.int .i64 v1) = wg1 at HD HS FW HQ ⊢
  go_upto_region 10 with (go_at_call 103; go_loud (refine (get_rd g 4 (R + 1) _ _ _ (by decide) HS).mono ?_; rintro e' wq ⟨rfl, hr6, f6⟩; rw [HE3.out] at hr6 ⊢; dsimp only at hr6 ⊢; have HDq := hid (Blk.fr HD f6 hgd); replace HQ := Blk.fr HQ f6 hgr; have HSq := hid hr6; replace FW := hid (FW.out.step f6 (fun i hi h => by have := HUG.out g HG.out; have := HR.out; omega)); have cj : wq.cell? ⟨D, 2, none⟩ = some (.int .i64 0) := Blk.cell HDq.out 2; have zj : wq.frozen? ⟨D, 2, none⟩ = false := Blk.frozen HDq.out 2; clear hr6 f6 HD HS))
  have HD : Blk (wq.setCell ⟨D, 2, none⟩ (.int .i64 v2)) D 76 #[.int .i64 v0, .int .i64 v1, .int .i64 v2] := Blk.set_ HDq.out 2 (.int .i64 v2)
  have HS := RdO.fr HSq.out (Fr.set1 wq D 2 (.int .i64 v2)) (fun k hk e => (HUD.out k hk).1 e)
  replace FW := hid (FW.out.setCell (p := ⟨D, 2, none⟩) (fun h => absurd h (by have := HUG.out g HG.out; have := HGN.out; have := HR.out; simp only []; omega)) (.int .i64 v2))
  replace HQ := Blk.far HQ (p := ⟨D, 2, none⟩) (fun h => by have := HGN.out; have := HUG.out g HG.out; simp only [] at h; omega) (.int .i64 v2)
  clear HDq HSq cj zj
  generalize World.setCell wq ⟨D, 2, none⟩ (.int .i64 v2) = w9 at HD HS FW HQ ⊢
  obtain ⟨c0, c1, c2⟩ := (show LB w9 D v0 v1 v2 from HD).cells
  have FWO := FW
  have HRX := hid (show Blk w9.drew R 76 (lcs 0 0 0) from HQ)
  have HSX := hid HS
  have FW : Hid (Fr (fun q => q = R) w9 w9) := hid (Fr.refl _ _)
  clear HQ HS HD
  have FW := kdS FW
  refine wp_region_noPanic ?_
  refine wp_region_held_drew (S := (fun W' => W'.cell? ⟨D, 0, none⟩ = some (.int .i64 v0) ∧ W'.cell? ⟨D, 1, none⟩ = some (.int .i64 v1) ∧ W'.cell? ⟨D, 2, none⟩ = some (.int .i64 v2) ∧ Hid (Fr (fun q => q = R) w9 W'))) (by kernel_rfl) ?_ (fun hHeld => ?_)
  · (try dsimp only); (first | (go_split_ands; exact ⟨kc f (by assumption), kc f (by assumption), kc f (by assumption), by assumption⟩) | (go_split_ands; exact ⟨(by assumption), (by assumption), (by assumption), by assumption⟩) | (go_split_ands; exact ⟨kc (fr1 _ _) (by assumption), kc (fr1 _ _) (by assumption), kc (fr1 _ _) (by assumption), kfa (by assumption)⟩) | (exact ⟨kcs hf2 (by simp only []; have := HGN.out; omega) hHeld.1, kcs hf2 (by simp only []; have := HGN.out; omega) hHeld.2.1, kcs hf2 (by simp only []; have := HGN.out; omega) hHeld.2.2.1, kst hf2 hHeld.2.2.2⟩))
  refine wpAnyH_take (i := 0) (v := ?v1) rfl (by kernel_rfl) (by kernel_rfl) (by kernel_rfl) (fun _ _ _ h => h) (Or.inl ⟨by kernel_rfl, ?y1⟩) (by assumption) ?_
  case y1 => (intro w hSw; (try dsimp only at hSw); go_simp; all_goals with_reducible rfl)
  try simp only [Act.put, List.getElem_toArray, List.getElem_cons_zero, List.setIfInBounds_toArray, List.set_cons_zero, List.set_cons_succ]
  refine wpAnyH_take (i := 1) (v := ?v2) rfl (by kernel_rfl) (by kernel_rfl) (by kernel_rfl) (fun _ _ _ h => h) (Or.inl ⟨by kernel_rfl, ?y2⟩) (by assumption) ?_
  case y2 => (intro w hSw; (try dsimp only at hSw); go_simp; all_goals with_reducible rfl)
  try simp only [Act.put, List.getElem_toArray, List.getElem_cons_succ, List.getElem_cons_zero, List.setIfInBounds_toArray, List.set_cons_zero, List.set_cons_succ]
  refine wpAnyH_ready (rs := [2]) (by kernel_rfl) (by simp) (AllReadyH.cons rfl (fun K hK => ?_) AllReadyH.nil)
  go_simp
  go_at_call 105
  refine (done_np2 g (R + 1) _ s3 _ (HSX.out.fr hHeld.2.2.2.out (fun k hk e => (HUD.out k hk).2 e))).mono ?_
  rintro e W1 ⟨rfl, f⟩
  have FW := kfS f hHeld.2.2.2
  rw [HD9.out]
  dsimp only
  refine hK.out _ _ ?_ (fun hHeld => ?_)
  · (try dsimp only); (first | (go_split_ands; exact ⟨kc f (by assumption), kc f (by assumption), kc f (by assumption), by assumption⟩) | (go_split_ands; exact ⟨(by assumption), (by assumption), (by assumption), by assumption⟩) | (go_split_ands; exact ⟨kc (fr1 _ _) (by assumption), kc (fr1 _ _) (by assumption), kc (fr1 _ _) (by assumption), kfa (by assumption)⟩) | (exact ⟨kcs hf2 (by simp only []; have := HGN.out; omega) hHeld.1, kcs hf2 (by simp only []; have := HGN.out; omega) hHeld.2.1, kcs hf2 (by simp only []; have := HGN.out; omega) hHeld.2.2.1, kst hf2 hHeld.2.2.2⟩))
  clear hK K
  try simp only [Act.put, List.getElem_toArray, List.getElem_cons_succ, List.getElem_cons_zero, List.setIfInBounds_toArray, List.set_cons_zero, List.set_cons_succ]
  have HRX := hid (Blk.fr HRX.out f (fun h => h))
  refine wpAnyH_take (i := 3) (v := ?v3) rfl (by kernel_rfl) (by kernel_rfl) (by kernel_rfl) (fun _ _ _ h => h) (Or.inl ⟨by kernel_rfl, ?y3⟩) (by assumption) ?_
  case y3 => (intro w hSw; (try dsimp only at hSw); go_simp; all_goals with_reducible rfl)
  try simp only [Act.put, List.getElem_toArray, List.getElem_cons_succ, List.getElem_cons_zero, List.setIfInBounds_toArray, List.set_cons_zero, List.set_cons_succ]
  refine wpAnyH_ready (rs := [4]) (by kernel_rfl) (by simp) (AllReadyH.cons rfl (fun K hK => ?_) AllReadyH.nil)
  refine st_lb_step rfl (.tmp 2) (.tmp 30) rfl R rfl rfl (by simp [Value.oneCell']) HRX.out rfl ?_
  intro W2 hb2 hf2
  refine hK.out _ _ ?_ (fun hHeld => ?_)
  · (try dsimp only); (first | (go_split_ands; exact ⟨kc f (by assumption), kc f (by assumption), kc f (by assumption), by assumption⟩) | (go_split_ands; exact ⟨(by assumption), (by assumption), (by assumption), by assumption⟩) | (go_split_ands; exact ⟨kc (fr1 _ _) (by assumption), kc (fr1 _ _) (by assumption), kc (fr1 _ _) (by assumption), kfa (by assumption)⟩) | (exact ⟨kcs hf2 (by simp only []; have := HGN.out; omega) hHeld.1, kcs hf2 (by simp only []; have := HGN.out; omega) hHeld.2.1, kcs hf2 (by simp only []; have := HGN.out; omega) hHeld.2.2.1, kst hf2 hHeld.2.2.2⟩))
  clear hK K
  try simp only [Act.put, List.getElem_toArray, List.getElem_cons_succ, List.getElem_cons_zero]
  have HBX := hid hb2
  refine wpAnyH_take (i := 5) (v := ?v4) rfl (by kernel_rfl) (by kernel_rfl) (by kernel_rfl) (fun _ _ _ h => h) (Or.inl ⟨by kernel_rfl, ?y4⟩) (by assumption) ?_
  case y4 => (intro w hSw; (try dsimp only at hSw); go_simp; all_goals with_reducible rfl)
  try simp only [Act.put, List.getElem_toArray, List.getElem_cons_succ, List.getElem_cons_zero, List.setIfInBounds_toArray, List.set_cons_zero, List.set_cons_succ]
  refine wpAnyH_done (by kernel_rfl) ?_ _
  refine NoPanic.normal ?_
  go_wp2
  exact bodyPost_ret (v := .tuple #[lv v0 v1 v2, .bool (s == 0)]) (resLb rfl _ _ R v0 v1 v2 (.bool (s == 0)) rfl rfl HBX.out) rfl (show RetO w _ _ V from ⟨⟨v0, v1, v2, by rw [HVS.out], HVT.out⟩, FWO.out.step hHeld.2.2.2.out (fun i hi e => by have := HR.out; omega)⟩)
end Go.Proofs.YtpiplcakefcaaaaDoor.BdH
