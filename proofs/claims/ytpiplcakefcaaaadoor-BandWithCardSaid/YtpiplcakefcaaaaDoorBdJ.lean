/- Contracts: the sector of a label, and the label of a sector, by the document. Conditions: the label's numbers have room; what comes in reads as bytes; the geometry's count of zones is 64 bits. -/
import Derived.Test.YtpiplcakefcaaaaDoorBdI
namespace Go.Proofs.YtpiplcakefcaaaaDoor.BdJ
open Go.RowKit MSep MFrame Kit LeA LeW LeR LeX LeY RdA WrB MGeM CrcA CrcM CrcE CrcG BdM BdA BdB BdC BdD BdE BdF BdG BdH
open GeA (bg BG BL ld_geom ld_lay by_)

set_option maxRecDepth 100000 in
set_option maxHeartbeats 4000000 in
theorem renc_ok (b u s : Int) (w : World) (hb : 0 ≤ b ∧ b ≤ 4294967295) (hu : 0 ≤ u ∧ u ≤ 1099511627776) (hs : 0 ≤ s ∧ s ≤ 4294967295) :
    Calls Tryd.prog 46 #[lv b u s] w fun E w' => RetI w w' E (seal_ (eLb ⟨b, u, s⟩)) := by
  obtain ⟨b0, b1⟩ := hb
  obtain ⟨u0, u1⟩ := hu
  obtain ⟨s0, s1⟩ := hs
  have v1 : IntKind.u64.wrap b = b := u64w b (by omega)
  have v2 : IntKind.u64.wrap u = u := u64w u (by omega)
  have v3 : IntKind.u64.wrap s = s := u64w s (by omega)
  have kcv := fun w C n c => Lib.run_convert_bytes_const (P := Tryd.prog) w 27 5 C n c Tryd.underlying27 Tryd.underlying5
  obtain ⟨w2, hw2⟩ : ∃ w2, (w.alloc (.cells (lcs b u s) 76)).alloc (.cells #[.int .i64 124, .slice none 0 0, .bool false] 105) = w2 := ⟨_, rfl⟩
  obtain ⟨X, hX⟩ : ∃ X, w.heap.size = X := ⟨_, rfl⟩
  obtain ⟨B, hB⟩ : ∃ B, X + 1 = B := ⟨_, rfl⟩
  have HXB : X < B := by omega
  have HF2 := hid (show Fr No w w2 by rw [← hw2]; exact ((Fr.refl No w).alloc _).alloc _)
  have HR2 := hid (show LB w2 X b u s by rw [← hw2, ← hX]; exact Blk.alloc (LB.new w _ _ _) _)
  have HW : XrP w2 B X B [] := by
    have := new_xp w.heap.size (w.alloc (.cells (lcs b u s) 76)) (by simp)
    rw [hw2, World.size_alloc, hX, hB] at this
    exact this
  have HS2 := hid hw2
  have HXX := hid hX
  have HBB := hid hB
  clear hw2
  go_enter Tryd.func46, Tryd.ntmps46
  go_upto_region 2 with fail
  rw [show (w.alloc (Obj.cells #[.int .i64 b, .int .i64 u, .int .i64 s] 76)).alloc (Obj.cells #[Value.int IntKind.i64 124, Value.slice none 0 0, Value.bool false] 105) = w2 from HS2.out]
  try rw [hX]
  try rw [hB]
  clear hX hB
  go_upto_region 6 with (first | (go_at_call 62; go_loud (refine (bytes_xp B _ 2 2 [76, 66] B X [] _ (by decide) (CrcG.lit_rd w2 [76, 66] (2, 3)) (HW.fr ((Fr.refl No _).alloc _))).mono ?_; rintro e' w3 ⟨rfl, HW, f3⟩; have FW : Hid (Fr (NP B X) w w3) := hid (((HF2.out.alloc _).mono fun _ _ h => h.elim).trans f3); have HR := hid (show LB w3 X b u s from Blk.fr (Blk.alloc HR2.out (.cells #[.int .u8 76, .int .u8 66] 5 (2, 3))) f3 (by unfold NP; omega)); obtain ⟨r0, r1, r2⟩ := HR.out.cells; clear f3 HR)) | (go_at_call 63; refine (put_xp B _ _ B X _ _ (by decide) (by first | (simp [low_len]; done) | (simp [low_len]; omega) | omega) (by first | decide | omega) HW).mono ?_; rintro e' w3 ⟨rfl, HW, f⟩; replace r0 := kcN f r0; replace r1 := kcN f r1; replace r2 := kcN f r2; replace FW := kfN f FW; clear f))
  have HEL := hid (show (eLb ⟨b, u, s⟩).length ≤ 124 by rw [eLb_len]; omega)
  have HEU := hid (eLb_u8 ⟨b, u, s⟩)
  obtain ⟨E, hE⟩ : ∃ E, eLb ⟨b, u, s⟩ = E := ⟨_, rfl⟩
  have HWE : XrP w3 B X B E := by rw [← hE]; simpa [eLb, List.append_assoc] using HW
  rw [hE] at HEL HEU
  have HEE := hid hE
  obtain ⟨A4, c4, z1, HD4⟩ := HWE.rd
  have HD5 := hid HD4
  clear HW HWE HD4 hE v1 v2 v3 b0 b1 u0 u1 s0 s1 kcv r0 r1 r2
  go_wp2_with (go_at_call 64; go_loud (refine (CrcF.refSeal_ok _ _ _ E _ HEL.out HD5.out HEU.out).mono ?_; rintro e' w6 ⟨A6, c6, rfl, hb5, f5⟩; have HB5 := hid hb5; have HF5 := hid (FW.out.trans (f5.mono fun _ _ h => h.elim)); clear f5 hb5))
  go_ret
  have hsl := seal_len HEL.out
  have HFF := hid (HF5.out.mono (T := No) fun k hk h => by unfold NP at h; have := HXX.out; have := HBB.out; omega)
  refine ⟨A6, c6, ?_, ?_, HFF.out⟩
  · rw [HEE.out, hsl]; rfl
  · rw [HEE.out, hsl]
    have hob : OB w3.heap.size w6 (.slice A6 128 c6) (seal_ E) := by
      have := HB5.out
      unfold OB
      rw [hsl]
      exact this
    have hlim := OB.lim (n := 128) hob
    exact ⟨Rd.own HB5.out, by omega, hlim.2, seal_u8 HEU.out⟩
def RetD (w w' : World) (E : Ending) (o : Option Lb) : Prop := E = .returned (.tuple #[lv (o.getD lz).b (o.getD lz).u (o.getD lz).s, .bool o.isSome]) ∧ Fr No w w'
set_option maxRecDepth 100000 in
set_option maxHeartbeats 8000000 in
theorem rdec_ok (gc gs gn gl gk : Int) (A : Option Addr) (l c : Nat) (zs : List Int) (w : World) (hsg : r64 gs) (hb : IsB w A l c zs) :
    Calls Tryd.prog 47 #[.agg #[.int .i64 gc, .int .i64 gs, .int .i64 gn, .int .i64 gl, .int .i64 gk], .slice A l c] w fun E w' => RetD w w' E (lbD ⟨gc, gs, gn, gl, gk⟩ zs) := by
  have hlen : zs.length = l := by simpa using hb.1.1
  obtain ⟨G, hG⟩ : ∃ G, w.heap.size = G := ⟨_, rfl⟩
  obtain ⟨R, hR⟩ : ∃ R, G + 1 = R := ⟨_, rfl⟩
  obtain ⟨w1, hw1⟩ : ∃ w1, (w.alloc (bg gc gs gn gl gk)).alloc (.cells (lcs 0 0 0) 76) = w1 := ⟨_, rfl⟩
  have FW := hid (show Fr No w w1 by rw [← hw1]; exact (fr1 _ _).alloc _)
  have P0 := hid (show BG w1 G gc gs gn gl gk by rw [← hw1, ← hG]; exact (BG.new w gc gs gn gl gk : Blk _ _ _ _).alloc _)
  have HQ : LB w1 R 0 0 0 := by
    rw [← hw1, ← hR, ← hG]
    have := LB.new (w.alloc (bg gc gs gn gl gk)) 0 0 0
    rwa [World.size_alloc] at this
  have HS1 := hid (show w1.heap.size = R + 1 by rw [← hw1]; simp; omega)
  have HW1 := hid hw1
  have HI := hid (hb.fr FW.out)
  have HI0 := hid hb
  have HLEN := hid hlen
  have HMY := hid (fun (b u s : Int) v W hv => rmaylb_ok gc gs gn gl gk b u s v W hsg hv)
  have HGR0 := hid (And.intro hG hR)
  clear hb hw1 hlen hsg
  obtain ⟨V, hV⟩ : ∃ V, lbD ⟨gc, gs, gn, gl, gk⟩ zs = V := ⟨_, rfl⟩
  rw [hV]
  go_enter Tryd.func47, Tryd.ntmps47
  go_upto_region 1 with fail
  try rw [show (w.alloc (Obj.cells #[.int .i64 gc, .int .i64 gs, .int .i64 gn, .int .i64 gl, .int .i64 gk] 23)).alloc (Obj.cells #[.int .i64 0, .int .i64 0, .int .i64 0] 76) = w1 from HW1.out]
  try rw [hG]
  try rw [hR]
  clear hG hR
  by_cases hs : secOk zs = true
  case neg =>
    obtain rfl : V = none := by rw [← hV, lbD, if_neg hs]
    have HC : Hid ((l == 128 && ld zs 4 == onN 0 (zs.drop 4)) = false) := hid (by rw [← HLEN.out]; simpa [secOk] using hs)
    clear hV hs
    go_wp2_with (first | (go_at_call 68; refine (CrcF.refCheck_any _ _ _ zs _ HI.out).mono ?_; rintro e' w2 ⟨rfl, f2⟩; rw [HC.out]; replace FW := hid (FW.out.trans f2); replace HQ := Blk.fr HQ f2 (fun h => h); clear f2) | (refine st_lb rfl (.tmp 4) (.tmp 11) rfl R rfl rfl (by simp [Value.oneCell']) HQ rfl ?_; intro w9' HQ9 f9; have HF9 := hid (FW.out.step f9 (fun i hi e => by have := HGR0.out; omega)); clear f9))
    exact bodyPost_ret (v := .tuple #[lv 0 0 0, .bool false]) (resLb rfl _ _ R 0 0 0 (.bool false) rfl rfl HQ9) rfl ⟨rfl, HF9.out⟩
  have HC : Hid ((l == 128 && ld zs 4 == onN 0 (zs.drop 4)) = true) := hid (by rw [← HLEN.out]; exact hs)
  have hl : l = 128 := by have := HC.out; simp only [Bool.and_eq_true, beq_iff_eq] at this; exact this.1
  subst hl
  have HVD := hid (show lD2 ⟨gc, gs, gn, gl, gk⟩ (zs.drop 4) = V by rw [← hV, lbD, if_pos hs])
  clear hV hs
  obtain ⟨ga, oa, rfl, hga, _⟩ := HI0.out.1.2 (by omega)
  have hc4 : ¬ c = 4 := by have := HI.out.2.1; omega
  have HGA := hid (show ga < R by have := HGR0.out; omega)
  have HR4 : Hid (Rd w1 (some ⟨ga, oa + 4, none⟩) 124 ((zs.drop 4).map (Value.int .u8))) := hid (by
    have := HI.out.1.cut (k := 4) (c := c) (by omega) HI.out.2.1
    unfold cutA at this
    rw [if_neg hc4] at this
    simpa [add_off, List.map_drop] using this)
  have HU8 := hid (show ∀ x ∈ zs.drop 4, 0 ≤ x ∧ x ≤ 255 from fun x hx => HI.out.2.2.2 x (List.mem_of_mem_drop hx))
  have HCC := hid HI.out.2
  have HD4 := hid (show (zs.drop 4).length = 124 by rw [List.length_drop, HLEN.out])
  obtain ⟨X, hX⟩ : ∃ X, zs.drop 4 = X := ⟨_, rfl⟩
  rw [hX] at HR4 HU8 HVD HD4
  clear hX hga
  have hc4l : (4 : Int) ≤ (128 : Nat) := by decide
  go_upto_region 3 with (go_at_call 68; refine (CrcF.refCheck_any _ _ _ zs _ HI.out).mono ?_; rintro e' w2 ⟨rfl, f2⟩; rw [HC.out]; replace FW := hid (FW.out.trans f2); replace HQ := Blk.fr HQ f2 (fun h => h); replace HR4 := hid (HR4.out.fr f2 (fun _ _ _ h => h)); replace P0 := hid (P0.out.fr f2); clear f2)
  obtain ⟨g, hg⟩ : ∃ g, w2.heap.size = g := ⟨_, rfl⟩
  have HGR := hid (show R < g by have := Blk.lt HQ; omega)
  have HY := YdO.new (U := fun k => k = g ∨ k = ga) (g := g) (c := c - 4) (xs := X) (A := some ⟨ga, oa + 4, none⟩) (w := w2.alloc (.cells #[.slice (some ⟨ga, oa + 4, none⟩) 124 (c - 4), .bool false] 114)) (by rw [HD4.out, ← hg]; exact Blk.new w2 _ _) (by rw [HD4.out]; exact HR4.out.fr ((Fr.refl No w2).alloc _) (fun _ _ _ h => h)) (by have := HCC.out.1; have := HD4.out; omega) HU8.out (by have := HD4.out; omega) (fun a h => by cases h; exact ⟨by have := HGA.out; have := HGR.out; simp only []; omega, .inr rfl⟩) (.inl rfl)
  replace FW := hid (FW.out.alloc (.cells #[.slice (some ⟨ga, oa + 4, none⟩) 124 (c - 4), .bool false] 114))
  replace HQ := Blk.alloc HQ (.cells #[.slice (some ⟨ga, oa + 4, none⟩) 124 (c - 4), .bool false] 114)
  replace P0 := hid (show BG _ G gc gs gn gl gk from Blk.alloc P0.out (.cells #[.slice (some ⟨ga, oa + 4, none⟩) 124 (c - 4), .bool false] 114))
  have HSZ := hid (show g < (w2.alloc (.cells #[.slice (some ⟨ga, oa + 4, none⟩) 124 (c - 4), .bool false] 114)).heap.size by simp; omega)
  go_upto_region 4 with fail
  try rw [hg]
  generalize w2.alloc (Obj.cells #[Value.slice (some ⟨ga, oa + 4, none⟩) 124 (c - 4), Value.bool false] 114) = w3 at HY FW HQ P0 HSZ ⊢
  clear HR4 HI HI0 hg
  have hmk := mark_eq (ys := X.take 2) (fun x hx => HU8.out x (List.mem_of_mem_take hx))
  have hgR : ¬ (fun k => k = g) R := fun h => by have := HGR.out; omega
  have hgG : ¬ (fun k => k = g) G := fun h => by have := HGR.out; have := HGR0.out; omega
  have HGWn := hid (show w.heap.size = G ∧ G + 1 = R from HGR0.out)
  by_cases hm : X.take 2 = [76, 66]
  case neg =>
    rw [decide_eq_false hm] at hmk
    obtain rfl : V = none := by rw [← HVD.out, lD2, if_neg hm]
    clear hm
    go_wp2_with (first | (go_at_call 69; go_loud (refine (bytes_yd g 2 _ X _ (by have := HD4.out; omega) HY).mono ?_; rintro e' w4 ⟨A4, c4, rfl, hr4, HY, f4⟩; have hcv := run_str (P := Tryd.prog) w4 27 9 5 Tryd.underlying27 Tryd.underlying5 Tryd.underlying9 A4 2 c4 (X.take 2) (by simpa [List.map_take] using hr4); replace FW := hid (FW.out.step f4 (fun i hi h => by have := HGR.out; have := HGWn.out; omega)); replace HQ := Blk.fr HQ f4 hgR; replace P0 := hid (show BG w4 G gc gs gn gl gk from Blk.fr P0.out f4 hgG); replace HSZ := hid (Nat.lt_of_lt_of_le HSZ.out f4.size); clear f4 hr4)) | (refine st_lb rfl (.tmp 4) (.tmp 20) rfl R rfl rfl (by simp [Value.oneCell']) HQ rfl ?_; intro w9' HQ9 f9; have HF9 := hid (FW.out.step f9 (fun i hi e => by have := HGR0.out; omega)); clear f9))
    exact bodyPost_ret (v := .tuple #[lv 0 0 0, .bool false]) (resLb rfl _ _ R 0 0 0 (.bool false) rfl rfl HQ9) rfl ⟨rfl, HF9.out⟩
  rw [decide_eq_true hm] at hmk
  have h8 : by8 (some (X.drop 2)) := fun ys hy x hx => by cases hy; exact HU8.out x (List.mem_of_mem_drop hx)
  have hVM : lD1 ⟨gc, gs, gn, gl, gk⟩ (some (X.drop 2)) = V := by rw [← HVD.out, lD2, if_pos hm]
  have b0 := gt_in (n := 4) h8
  unfold lD1 gD at hVM
  obtain ⟨⟨v0, s1⟩, hg0⟩ : ∃ q, gt 4 (some (X.drop 2)) = q := ⟨_, rfl⟩
  have h81 := gt_by8 (n := 4) h8
  rw [hg0] at hVM b0 h81
  obtain ⟨⟨v1, s2⟩, hg1⟩ : ∃ q, gi 8 0 1099511627776 s1 = q := ⟨_, rfl⟩
  dsimp only at hVM b0 h81
  have h82 := gi_by8 (n := 8) (a := 0) (b := 1099511627776) h81
  rw [hg1] at hVM h82
  have b2 := gt_in (n := 4) h82
  obtain ⟨⟨v2, s3⟩, hg2⟩ : ∃ q, gt 4 s2 = q := ⟨_, rfl⟩
  dsimp only at hVM b2
  rw [hg2] at hVM b2
  dsimp only at hVM b2
  rw [q4] at b0 b2
  obtain ⟨dv, hdv⟩ : ∃ d, dy s3 = d := ⟨_, rfl⟩
  rw [hdv] at hVM
  have HD9 := hid hdv
  have HE1 := hid hg0
  have HE2 := hid hg1
  have HE3 := hid hg2
  have HVM := hid hVM
  have hw0 : wrap64 v0 = v0 := RcM.w64 _ (by omega)
  have hw2 : wrap64 v2 = v2 := RcM.w64 _ (by omega)
  clear hg0 hg1 hg2 hdv hVM b0 b2 h8 h81 h82 hm HVD
  go_upto_region 6 with (go_at_call 69; go_loud (refine (bytes_yd g 2 _ X _ (by have := HD4.out; omega) HY).mono ?_; rintro e' w4 ⟨A4, c4, rfl, hr4, HY, f4⟩; have hcv := run_str (P := Tryd.prog) w4 27 9 5 Tryd.underlying27 Tryd.underlying5 Tryd.underlying9 A4 2 c4 (X.take 2) (by simpa [List.map_take] using hr4); replace FW := hid (FW.out.step f4 (fun i hi h => by have := HGR.out; have := HGWn.out; omega)); replace HQ := Blk.fr HQ f4 hgR; replace P0 := hid (show BG w4 G gc gs gn gl gk from Blk.fr P0.out f4 hgG); replace HSZ := hid (Nat.lt_of_lt_of_le HSZ.out f4.size); clear f4 hr4))
  go_upto_region 7 with (go_at_call 70; go_loud (refine (get_yd g 4 _ _ _ (by decide) HY).mono ?_; rintro e' wq ⟨rfl, hr6, f6⟩; rw [HE1.out] at hr6 ⊢; dsimp only at hr6 ⊢; replace HQ := Blk.fr HQ f6 hgR; replace P0 := hid (show BG wq G gc gs gn gl gk from Blk.fr P0.out f6 hgG); have HYq := hid hr6; replace FW := hid (FW.out.step f6 (fun i hi h => by have := HGR.out; have := HGWn.out; omega)); replace HSZ := hid (Nat.lt_of_lt_of_le HSZ.out f6.size); clear hr6 f6 HY))
  obtain ⟨D, hD⟩ : ∃ D, wq.heap.size = D := ⟨_, rfl⟩
  obtain ⟨w5, hw5⟩ : ∃ w5, wq.alloc (.cells (lcs v0 0 0) 76) = w5 := ⟨_, rfl⟩
  have HD : Blk w5 D 76 #[.int .i64 v0, .int .i64 0, .int .i64 0] := by rw [← hw5, ← hD]; exact LB.new _ _ _ _
  have f5 : Fr No wq w5 := by rw [← hw5]; exact fr1 _ _
  have HDG := hid (show g < D by rw [← hD]; exact HSZ.out)
  replace FW := hid (FW.out.trans f5)
  replace HQ := Blk.fr HQ f5 (fun h => h)
  replace P0 := hid (P0.out.fr f5)
  have HY := HYq.out.fr f5 (fun _ _ h => h)
  try rw [show wq.alloc (Obj.cells #[.int .i64 v0, .int .i64 0, .int .i64 0] 76) = w5 from hw5]
  try rw [hD]
  clear hw5 hD f5 hmk HYq
  have hgD : ¬ (fun k => k = g) D := fun h => by have := HDG.out; omega
  have HUD := hid (show ∀ k, (k = g ∨ k = ga) → k ≠ D from fun k h => by have := HDG.out; have := HGA.out; have := HGR.out; omega)
  go_upto_region 8 with (go_at_call 71; go_loud (refine (int_yd g 8 0 1099511627776 _ _ _ (by decide) HY).mono ?_; rintro e' wr ⟨rfl, hr6, f6⟩; rw [HE2.out] at hr6 ⊢; dsimp only at hr6 ⊢; have HDq := hid (Blk.fr HD f6 hgD); replace HQ := Blk.fr HQ f6 hgR; replace P0 := hid (show BG wr G gc gs gn gl gk from Blk.fr P0.out f6 hgG); have HYq := hid hr6; replace FW := hid (FW.out.step f6 (fun i hi h => by have := HGR.out; have := HGWn.out; omega)); have cj : wr.cell? ⟨D, 1, none⟩ = some (.int .i64 0) := Blk.cell HDq.out 1; have zj : wr.frozen? ⟨D, 1, none⟩ = false := Blk.frozen HDq.out 1; clear hr6 f6 HD HY))
  have HD : Blk (wr.setCell ⟨D, 1, none⟩ (.int .i64 v1)) D 76 #[.int .i64 v0, .int .i64 v1, .int .i64 0] := Blk.set_ HDq.out 1 (.int .i64 v1)
  have HY := YdO.fr HYq.out (Fr.set1 wr D 1 (.int .i64 v1)) (fun k hk e => HUD.out k hk e)
  replace FW := hid (FW.out.setCell (p := ⟨D, 1, none⟩) (fun h => absurd h (by have := HDG.out; have := HGR.out; have := HGWn.out; simp only []; omega)) (.int .i64 v1))
  replace HQ := Blk.far HQ (p := ⟨D, 1, none⟩) (fun h => by have := HDG.out; have := HGR.out; simp only [] at h; omega) (.int .i64 v1)
  replace P0 := hid (show BG _ G gc gs gn gl gk from Blk.far P0.out (p := ⟨D, 1, none⟩) (fun h => by have := HDG.out; have := HGR.out; have := HGWn.out; simp only [] at h; omega) (.int .i64 v1))
  clear HDq HYq cj zj
  generalize World.setCell wr ⟨D, 1, none⟩ (.int .i64 v1) = w8 at HD HY FW HQ P0 ⊢
  go_upto_region 9 with (go_at_call 70; go_loud (refine (get_yd g 4 _ _ _ (by decide) HY).mono ?_; rintro e' wr ⟨rfl, hr6, f6⟩; rw [HE3.out] at hr6 ⊢; dsimp only at hr6 ⊢; have HDq := hid (Blk.fr HD f6 hgD); replace HQ := Blk.fr HQ f6 hgR; replace P0 := hid (show BG wr G gc gs gn gl gk from Blk.fr P0.out f6 hgG); have HYq := hid hr6; replace FW := hid (FW.out.step f6 (fun i hi h => by have := HGR.out; have := HGWn.out; omega)); have cj : wr.cell? ⟨D, 2, none⟩ = some (.int .i64 0) := Blk.cell HDq.out 2; have zj : wr.frozen? ⟨D, 2, none⟩ = false := Blk.frozen HDq.out 2; clear hr6 f6 HD HY))
  have HD : Blk (wr.setCell ⟨D, 2, none⟩ (.int .i64 v2)) D 76 #[.int .i64 v0, .int .i64 v1, .int .i64 v2] := Blk.set_ HDq.out 2 (.int .i64 v2)
  have HY := YdO.fr HYq.out (Fr.set1 wr D 2 (.int .i64 v2)) (fun k hk e => HUD.out k hk e)
  replace FW := hid (FW.out.setCell (p := ⟨D, 2, none⟩) (fun h => absurd h (by have := HDG.out; have := HGR.out; have := HGWn.out; simp only []; omega)) (.int .i64 v2))
  replace HQ := Blk.far HQ (p := ⟨D, 2, none⟩) (fun h => by have := HDG.out; have := HGR.out; simp only [] at h; omega) (.int .i64 v2)
  replace P0 := hid (show BG _ G gc gs gn gl gk from Blk.far P0.out (p := ⟨D, 2, none⟩) (fun h => by have := HDG.out; have := HGR.out; have := HGWn.out; simp only [] at h; omega) (.int .i64 v2))
  clear HDq HYq cj zj
  generalize World.setCell wr ⟨D, 2, none⟩ (.int .i64 v2) = w9 at HD HY FW HQ P0 ⊢
  obtain ⟨c0, c1, c2⟩ := (show LB w9 D v0 v1 v2 from HD).cells
  obtain ⟨g0, g1, g2, g3, g4⟩ := P0.out.cells
  have HX := hid (show LB w9 D v0 v1 v2 from HD)
  clear P0 HD
  cases dv with
  | false =>
    obtain rfl : V = none := by rw [← HVM.out, if_neg (fun h => by cases h.1)]
    clear HVM
    go_wp2_with (first | (go_at_call 72; refine (done_yd g _ s3 _ HY).mono ?_; rintro e' wd ⟨rfl, rfl⟩; rw [HD9.out]) | (refine st_lb rfl (.tmp 4) (.tmp 41) rfl R rfl rfl (by simp [Value.oneCell']) HQ rfl ?_; intro w9' HQ9 f9; have HF9 := hid (FW.out.step f9 (fun i hi e => by have := HGR0.out; omega)); clear f9))
    exact bodyPost_ret (v := .tuple #[lv 0 0 0, .bool false]) (resLb rfl _ _ R 0 0 0 (.bool false) rfl rfl HQ9) rfl ⟨rfl, HF9.out⟩
  | true =>
    by_cases hq : mayLb ⟨gc, gs, gn, gl, gk⟩ ⟨v0, v1, v2⟩
    case neg =>
      obtain rfl : V = none := by rw [← HVM.out, if_neg (fun h => hq h.2)]
      have HMQ := hid (fun W => HMY.out v0 v1 v2 false W (by simpa using hq))
      clear HVM hq HMY
      go_wp2_with (first | (go_at_call 72; refine (done_yd g _ s3 _ HY).mono ?_; rintro e' wd ⟨rfl, rfl⟩; rw [HD9.out]) | (go_at_call 44; refine (HMQ.out _).mono ?_; rintro e w10 ⟨rfl, f4⟩; clear g0 g1 g2 g3 g4 c0 c1 c2; replace FW := hid (FW.out.trans f4); replace HQ := Blk.fr HQ f4 (fun h => h); clear f4) | (refine st_lb rfl (.tmp 4) (.tmp 41) rfl R rfl rfl (by simp [Value.oneCell']) HQ rfl ?_; intro w9' HQ9 f9; have HF9 := hid (FW.out.step f9 (fun i hi e => by have := HGR0.out; omega)); clear f9))
      exact bodyPost_ret (v := .tuple #[lv 0 0 0, .bool false]) (resLb rfl _ _ R 0 0 0 (.bool false) rfl rfl HQ9) rfl ⟨rfl, HF9.out⟩
    obtain rfl : V = some ⟨v0, v1, v2⟩ := by rw [← HVM.out, if_pos ⟨rfl, hq⟩]
    have HMQ := hid (fun W => HMY.out v0 v1 v2 true W (by simpa using hq))
    clear HVM hq HMY
    go_wp2_with (first | (go_at_call 72; refine (done_yd g _ s3 _ HY).mono ?_; rintro e' wd ⟨rfl, rfl⟩; rw [HD9.out]) | ((with_reducible refine ld_lb rfl (.tmp 7) rfl D ?_ HX.out ?_); · rfl) | (go_at_call 44; refine (HMQ.out _).mono ?_; rintro e w10 ⟨rfl, f4⟩; clear g0 g1 g2 g3 g4 c0 c1 c2; replace FW := hid (FW.out.trans f4); replace HX := hid (HX.out.fr f4); replace HQ := Blk.fr HQ f4 (fun h => h); clear f4) | (refine st_lb rfl (.tmp 4) (.tmp 42) rfl R rfl rfl (by simp [Value.oneCell']) HQ rfl ?_; intro w9' HQ9 f9; have HF9 := hid (FW.out.step f9 (fun i hi e => by have := HGR0.out; omega)); clear f9))
    exact bodyPost_ret (v := .tuple #[lv v0 v1 v2, .bool true]) (resLb rfl _ _ R v0 v1 v2 (.bool true) rfl rfl HQ9) rfl ⟨rfl, HF9.out⟩
end Go.Proofs.YtpiplcakefcaaaaDoor.BdJ
