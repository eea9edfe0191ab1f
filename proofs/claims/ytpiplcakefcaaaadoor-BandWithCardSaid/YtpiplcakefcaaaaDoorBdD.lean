/- Contract: a content with pieces, by the program. Conditions: the geometry's count of zones is 64 bits; the content and the pieces read as such. -/
import Derived.Test.YtpiplcakefcaaaaDoorBdC
namespace Go.Proofs.YtpiplcakefcaaaaDoor.BdD
open Go.RowKit MSep MFrame Kit MGeM CrcA CrcM CrcE BdM BdA BdB BdF BdC
open GeA (bg BG BL ld_geom ld_lay by_)
open GeC (layout_ok)

theorem kfS {S : Nat → Prop} {a b c : World} (k : Fr No b c) (h : Hid (Fr S a b)) : Hid (Fr S a c) := hid (h.out.step k (fun _ _ h => h.elim))
theorem kdS {S : Nat → Prop} {a b : World} (h : Hid (Fr S a b)) : Hid (Fr S a b.drew) := hid h.out.drew
theorem kst {a b c : World} {g : Nat} (k : Fr (fun q => q = g) b c) (h : Hid (Fr (fun q => q = g) a b)) : Hid (Fr (fun q => q = g) a c) := hid (h.out.trans k)
theorem kcs {b c : World} {p : Addr} {v : Value} {g : Nat} (k : Fr (fun q => q = g) b c) (hn : p.block ≠ g) (h : b.cell? p = some v) : c.cell? p = some v := k.cell_some h hn
/-- Pieces in memory. -/
def RdP (w : World) (A : Option Addr) (n : Nat) (L : List Pc) : Prop := L.length = n ∧ (0 < n → ∃ g o, A = some ⟨g, o, none⟩ ∧ g < w.heap.size ∧ ∀ j p, L[j]? = some p → w.cell? ⟨g, o + j * 4, none⟩ = some (.int .i64 p.a) ∧ w.cell? ⟨g, o + j * 4 + 1, none⟩ = some (.int .i64 p.n) ∧ w.cell? ⟨g, o + j * 4 + 2, none⟩ = some (.bool p.h) ∧ w.cell? ⟨g, o + j * 4 + 3, none⟩ = some (.slice p.A p.l p.c)) ∧ ∀ p ∈ L, IsB w p.A p.l p.c p.z
theorem isB_lo {S : Nat → Prop} {w w' : World} {A : Option Addr} {l c : Nat} {zs : List Int} (h : IsB w A l c zs) (hf : Fr S w w') (hS : ∀ k, k < w.heap.size → ¬ S k) : IsB w' A l c zs := by
  refine ⟨⟨h.1.1, fun hn => ?_⟩, h.2⟩
  obtain ⟨g, o, rfl, hg, hc⟩ := h.1.2 hn
  exact ⟨g, o, rfl, Nat.lt_of_lt_of_le hg hf.size, fun j u hu => hf.cell_some (hc j u hu) (hS g hg)⟩
theorem RdP.lo {S : Nat → Prop} {w w' : World} {A : Option Addr} {n : Nat} {L : List Pc} (h : RdP w A n L) (hf : Fr S w w') (hS : ∀ k, k < w.heap.size → ¬ S k) : RdP w' A n L := by
  refine ⟨h.1, fun hn => ?_, fun p hp => isB_lo (h.2.2 p hp) hf hS⟩
  obtain ⟨g, o, rfl, hg, hc⟩ := h.2.1 hn
  exact ⟨g, o, rfl, Nat.lt_of_lt_of_le hg hf.size, fun j p hp => by
    obtain ⟨a, b, c, d⟩ := hc j p hp
    exact ⟨hf.cell_some a (hS g hg), hf.cell_some b (hS g hg), hf.cell_some c (hS g hg), hf.cell_some d (hS g hg)⟩⟩
theorem RdP.fr {w w' : World} {A : Option Addr} {n : Nat} {L : List Pc} (h : RdP w A n L) (hf : Fr No w w') : RdP w' A n L := h.lo hf (fun _ _ h => h)
def withF (g : Ge) (zs : List Int) (L : List Pc) : List Int × Int := if mayG g then (match wth (lay g).d zs L with | none => ([], 1) | some X => (X, 0)) else ([], 70)
theorem infoPc : (Tryd.prog.info? 73).map (·.size) = some 4 := by kernel_rfl
theorem u8_size : (Tryd.prog.info? 5).map (·.size) = some 1 := by kernel_rfl
theorem ld_pc {ops : Array Oper} {rest : List Oper} {o : Oper} {ac : Act} {w : World} {Q : Exit → Act → World → Prop} (hgd : o.guard = none) (p : Operand) (ho : o.op = .load 73 p) (g : Nat) (hx : ac.eval p = .pointer (some ⟨g, 0, none⟩)) {a n : Int} {h : Bool} {A : Option Addr} {l c : Nat} (hg : PB w g a n h A l c)
    (k : wpList Tryd.prog ops Q rest (ac.put o.dst (pv a n h A l c)) w) : wpList Tryd.prog ops Q (o :: rest) ac w :=
  wpList_load_row hgd 73 p ho g hx 73 _ (0, 0) _ hg Tryd.underlying73 rfl infoPc k
theorem part_f (g o l c a n : Nat) (w : World) (h1 : 1 ≤ n) (hl : 128 * (a + n) ≤ l) (hc : l ≤ c) (hm : c ≤ maxLen) :
    Calls Tryd.prog 83 #[.slice (some ⟨g, o, none⟩) l c, .int .i64 a, .int .i64 n] w fun e w' => e = .returned (.slice (some ⟨g, o + 128 * a, none⟩) (128 * n) (c - 128 * a)) ∧ Fr No w w' :=
  (part_ok g o l c a n w h1 hl hc hm).mono (by rintro e w' ⟨rfl, rfl⟩; exact ⟨rfl, Fr.refl _ _⟩)
/-- 'copy' into a part of a block that is known whole, as one step of a region that draws its order. -/
theorem step_cp {P : Program} {w : World} {ops : Array Oper} {o : Oper} {a : Act} {K : Act → World → Prop} {Q : Exit → Act → World → Prop} {E : Prop} (hgd : o.guard = none) (d s : Operand) (dT sT : TypeId)
    (ho : o.op = .call { callee := .builtin .copy, args := #[d, s], argTypes := #[dT, sT] }) (e : TypeId) (hu : P.underlying dT = some (.slice e)) (hsz : (P.info? e).map (·.size) = some 1)
    (g off : Nat) (dn dc : Nat) (sA : Option Addr) (sn sc : Nat) (xs ys : List Value)
    (hd : a.eval d = .slice (some ⟨g, off, none⟩) dn dc) (hs : a.eval s = .slice sA sn sc) (hb : Blk w g e ys.toArray) (hr : Rd w sA sn xs) (h1 : ∀ u ∈ xs, u.oneCell' = true) (hle : sn ≤ dn) (h0 : 0 < sn) (hfit : off + dn ≤ ys.length)
    (h : ∀ w', Blk w' g e (ys.take off ++ (xs ++ ys.drop (off + sn))).toArray → Fr (fun k => k = g) w w' → K (a.put o.dst (goInt sn)) w') :
    if Region.wanted o (yielded ops a.tmps) = true then Oper.wp P o a w K Q else E := by
  have hxl := hr.1
  have hmin : Nat.min sn dn = sn := Nat.min_eq_left hle
  obtain ⟨sg, so, rfl, _, hc⟩ := hr.2 h0
  refine step_wanted hgd ?_
  have hrun := run_copy_row (P := P) w dT sT o.type e g off dn dc ⟨sg, so, none⟩ sn sc ys.toArray e xs hu hsz hb (by rw [hmin]; exact hxl) (fun j v hj => by rw [add_off]; exact hc j v hj) (by simp; omega) h1
  unfold Oper.wp
  simp [execOp, ho, resolve, invoke, builtin, hd, hs, hrun, Result.andThen]
  rw [hxl]
  refine h _ ?_ (Fr.setRow (S := fun k => k = g) (Fr.refl _ w) (fun _ => rfl) _)
  have := hb.setRow (ys.toArray.toList.take off ++ (xs ++ ys.toArray.toList.drop (off + sn))).toArray
  simpa using this
theorem cells_rep (n : Nat) : CrcE.cells (List.replicate n 0) = List.replicate n (Value.int .u8 0) := by rw [CrcE.cells, List.map_replicate]
theorem bk_put {X P : List Int} {E : List Value} {a m : Nat} (hm : a + m ≤ X.length) : (CrcE.cells X ++ E).take a ++ (CrcE.cells P ++ (CrcE.cells X ++ E).drop (a + m)) = CrcE.cells (X.take a ++ P ++ X.drop (a + m)) ++ E := by
  rw [List.take_append_of_le_length (by rw [cells_len]; omega), List.drop_append_of_le_length (by rw [cells_len]; omega)]
  simp [CrcE.cells, List.append_assoc]
theorem next_m (n N : Nat) (h : n < N) (hw : wrap64 ((n : Int) + 1) = (n : Int) + 1) : N - (intOf (Value.int .i64 (wrap64 ((n : Int) + 1)))).toNat < N - (intOf (Value.int .i64 (n : Int))).toNat := by
  rw [hw]; show N - ((n : Int) + 1).toNat < N - (n : Int).toNat; omega
theorem w64 (n : Int) (h : -9223372036854775808 ≤ n ∧ n ≤ 9223372036854775807) : wrap64 n = n := by unfold wrap64; omega
/-- The block of a content behind a piece that is within. -/
theorem bk_piece {w : World} {g n c d : Nat} {X : List Int} {p : Pc} {E : List Value} (hx : X.length = n) (hn : n ≤ c) (hc : c ≤ maxLen) (hd : (n : Int) = 128 * d) (hi : inn d p) (hz : p.z.length = p.l)
    (h : Blk w g 5 ((CrcE.cells X ++ E).take (128 * p.a.toNat) ++ (CrcE.cells (pb p) ++ (CrcE.cells X ++ E).drop (128 * p.a.toNat + (pb p).length))).toArray) : BK w g n c (put X p) := by
  have h1 := pb_len hi hz
  obtain ⟨a0, _, _, a3⟩ := id hi
  rw [bk_put (by omega)] at h
  exact ⟨by rw [put_len (d := d) hi hz (by omega)]; exact hx, hn, hc, E, h⟩
set_option maxRecDepth 100000 in
set_option maxHeartbeats 8000000 in
theorem with_ok (gc gs gn gl gk : Int) (A : Option Addr) (l c : Nat) (zs : List Int) (PA : Option Addr) (pn pc : Nat) (L : List Pc) (w : World) (hs : r64 gs) (hb : IsB w A l c zs) (hp : RdP w PA pn L) (hpn : pn ≤ maxLen) :
    Calls Tryd.prog 37 #[.agg #[.int .i64 gc, .int .i64 gs, .int .i64 gn, .int .i64 gl, .int .i64 gk], .slice A l c, .slice PA pn pc] w fun e w' => RetT w w' e (withF ⟨gc, gs, gn, gl, gk⟩ zs L) := by
  have hlen : zs.length = l := by simpa using hb.1.1
  have HL := hid hlen
  have FG := hid (fr1 w (bg gc gs gn gl gk))
  have P0 := hid (BG.new w gc gs gn gl gk)
  have HLY := hid (fun W => layout_ok gc gs gn gl gk W hs)
  have HB := hid hb
  have HP := hid hp
  have HPN := hid (show (pn : Int) ≤ 9223372036854775807 by unfold maxLen at hpn; omega)
  obtain ⟨V, hV⟩ : ∃ V, withF ⟨gc, gs, gn, gl, gk⟩ zs L = V := ⟨_, rfl⟩
  rw [hV]
  have HVV := hid hV
  clear hs hb hlen hV hp hpn
  go_enter Tryd.func37, Tryd.ntmps37
  go_wp2_with fail
  refine wp_scope_on 0 rfl ?_
  by_cases hm : mayG ⟨gc, gs, gn, gl, gk⟩
  case neg =>
    obtain rfl : V = ([], 70) := by rw [← HVV.out]; exact if_neg hm
    rw [show lyo ⟨gc, gs, gn, gl, gk⟩ = (z8, 70) by unfold lyo; rw [if_neg hm]] at HLY
    unfold z8 at HLY
    dsimp only at HLY
    go_wp2_with (first | ((with_reducible refine ld_geom rfl (.tmp 3) rfl w.heap.size ?_ P0.out ?_); · rfl) | (go_at_call 58; refine (HLY.out _).mono ?_; rintro e w2 ⟨rfl, f2⟩; replace FG := hid (FG.out.trans f2); clear f2))
    rw [jump_ret]
    go_ret2
    exact RetT.no 70 (FG.out.alloc _)
  rw [show lyo ⟨gc, gs, gn, gl, gk⟩ = (lay ⟨gc, gs, gn, gl, gk⟩, 0) by unfold lyo; rw [if_pos hm]] at HLY
  have hg := good hm.1
  obtain ⟨y, hy⟩ : ∃ y, lay ⟨gc, gs, gn, gl, gk⟩ = y := ⟨_, rfl⟩
  rw [hy] at HLY hg
  have hd1 := hg.d1
  have hd2 := hg.d2
  clear hg
  obtain ⟨ya, yr, yq, yb, yd, yt, yx, yu⟩ := y
  dsimp only at HLY hd1 hd2
  have HV1 := hid (show (match wth yd zs L with | none => (([] : List Int), (1 : Int)) | some X => (X, 0)) = V by rw [← HVV.out, withF, if_pos hm, hy])
  clear hy hm HVV
  go_upto_region 3 with (first | ((with_reducible refine ld_geom rfl (.tmp 3) rfl w.heap.size ?_ P0.out ?_); · rfl) | (go_at_call 58; refine (HLY.out _).mono ?_; rintro e w2 ⟨rfl, f2⟩))
  obtain ⟨Y, hYY⟩ : ∃ Y, w2.heap.size = Y := ⟨_, rfl⟩
  obtain ⟨w3, hw3⟩ : ∃ w3, w2.alloc (by_ ya yr yq yb yd yt yx yu) = w3 := ⟨_, rfl⟩
  have HY := hid (show BL w3 Y ya yr yq yb yd yt yx yu by rw [← hw3, ← hYY]; exact BL.new _ _ _ _ _ _ _ _ _)
  replace FG := hid (FG.out.trans (show Fr No _ w3 by rw [← hw3]; exact f2.alloc _))
  rw [show w2.alloc (Obj.cells #[.int .i64 ya, .int .i64 yr, .int .i64 yq, .int .i64 yb, .int .i64 yd, .int .i64 yt, .int .i64 yx, .int .i64 yu] 34) = w3 from hw3]
  try rw [hYY]
  have HD := hid (And.intro hd1 hd2)
  have HML := hid (show (l : Int) ≤ 9223372036854775807 by have h1 := HB.out.2.1; have h2 := HB.out.2.2.1; unfold maxLen at h2; omega)
  clear hw3 hYY f2 HLY P0 hd1 hd2
  by_cases hl : (zs.length : Int) = 128 * yd
  case neg =>
    obtain rfl : V = ([], 1) := by rw [← HV1.out, wth, if_neg (fun h => hl h.1)]
    have HV := hid (show ¬ (l : Int) = 128 * yd by rw [← HL.out]; exact hl)
    clear hl HV1
    go_wp2_with (first | ((with_reducible refine ld_lay rfl (.tmp 9) rfl Y ?_ HY.out ?_); · rfl) | (go_at_call 80; refine (isc_no ya yr yq yb yd yt yx yu A l c _ (by have := HD.out; omega) HML.out HV.out).mono ?_; rintro e w4 ⟨rfl, f4⟩; replace FG := hid (FG.out.trans f4); clear f4))
    go_step3
    refine jump_on ?_
    go_wp2
    rw [Exit.noGoto_ret]
    go_ret2
    exact RetT.no 1 FG.out
  have HV := hid (show (l : Int) = 128 * yd by rw [← HL.out]; exact hl)
  have HV2 := hid (show (if okP yd L then (puts zs L, (0 : Int)) else ([], 1)) = V by
    rw [← HV1.out, wth]
    by_cases ho : okP yd L
    · rw [if_pos ho, if_pos ⟨hl, ho⟩]
    · rw [if_neg ho, if_neg (fun h => ho h.2)])
  clear HV1 hl
  obtain ⟨d, rfl⟩ : ∃ d : Nat, yd = d := ⟨yd.toNat, by have := HD.out; omega⟩
  have HLB := hid (show 128 ≤ l ∧ l ≤ 200000 by have := HV.out; have := HD.out; omega)
  obtain ⟨ad, rfl⟩ : ∃ ad, A = some ad := by
    obtain ⟨g, o, h, _⟩ := HB.out.1.2 (by have := HLB.out; omega)
    exact ⟨_, h⟩
  go_upto_region 7 with (first | ((with_reducible refine ld_lay rfl (.tmp 9) rfl Y ?_ HY.out ?_); · rfl) | (go_at_call 80; refine (isc_yes _ _ _ _ _ _ _ _ _ l c _ (by have := HD.out; omega) HML.out HV.out).mono ?_; rintro e w4 ⟨rfl, f4⟩; replace FG := hid (FG.out.trans f4); replace HY := hid (HY.out.fr f4); clear f4) | (go_at_call 66; go_loud (refine (cloneS_ok ad l c zs _ (by have := HLB.out; omega) (by have := HLB.out; omega) (HB.out.1.fr FG.out (fun _ _ _ h => h))).mono ?_; rintro e w6 ⟨GB, cB, rfl, hgb, hbk, f6⟩; have HGW := hid (Nat.le_trans FG.out.size hgb); replace FG := hid (FG.out.trans f6); have HYG := hid (show Y < GB from Nat.lt_of_lt_of_le (Blk.lt HY.out) hgb); replace HY := hid (HY.out.fr f6); have HBK0 := hid hbk; clear f6 hgb hbk)))
  have HG6 := hid (show GB < w6.heap.size from HBK0.out.lt)
  have HCB := hid (And.intro HBK0.out.2.1 HBK0.out.2.2.1)
  have HU := hid HB.out.2.2.2
  clear HB
  go_wp2_with fail
  go_loopw [30] (fun i wr => ∃ k : Nat, k ≤ pn ∧ i = .int .i64 k ∧ okP d (L.take k) ∧ BK wr GB l cB (puts zs (L.take k)) ∧ Fr (fun q => q = GB) w6 wr) (fun i _ => pn - (intOf i).toNat)
  case atStart => exact ⟨0, by omega, rfl, (fun p h => by cases h), HBK0.out, Fr.refl _ _⟩
  case round =>
    clear HBK0
    obtain ⟨k, hk, rfl, hok, hbk, hf⟩ := hrel
    have HF := hid hf
    have HOK := hid hok
    have HBK := hid hbk
    have HLN := hid HP.out.1
    have HFN := hid (show Fr No w wr from FG.out.step HF.out (fun i hi h => by have := HGW.out; omega))
    clear hf hok hbk
    by_cases hlt : k < pn
    case neg =>
      obtain rfl : k = pn := by omega
      have hltc : ¬ (k : Int) < k := by omega
      have e : L.take k = L := List.take_of_length_le (by rw [HLN.out]; exact Nat.le_refl _)
      obtain rfl : V = (puts zs L, 0) := by rw [← HV2.out, if_pos (by rw [← e]; exact HOK.out)]
      have HB2 := hid (show BK wr GB l cB (puts zs L) by have := HBK.out; rwa [e] at this)
      have HPU := hid (show ∀ x ∈ puts zs L, 0 ≤ x ∧ x ≤ 255 from u8_puts HU.out (fun p hp => (HP.out.2.2 p hp).2.2.2))
      clear e HV2 hk
      go_wp2
      go_ret2
      refine ⟨some ⟨GB, 0, none⟩, cB, ?_, ?_, HFN.out⟩
      · rw [show (puts zs L).length = l from HB2.out.1]; rfl
      · rw [show (puts zs L).length = l from HB2.out.1]; exact HB2.out.isB HPU.out
    obtain ⟨p, hpk⟩ : ∃ p, L[k]? = some p := ⟨_, List.getElem?_eq_getElem (by rw [HLN.out]; exact hlt)⟩
    have HPM := hid (List.mem_of_getElem? hpk)
    have HPk := hid hpk
    have HRP := hid (HP.out.fr HFN.out)
    obtain ⟨g, o, rfl, hg, hc⟩ := HRP.out.2.1 (by omega)
    obtain ⟨e0, e1, e2, e3⟩ := hc k p hpk
    have HZp := hid (HRP.out.2.2 p HPM.out)
    have HZl := hid (show p.z.length = p.l by have := HZp.out.1.1; simpa using this)
    have hlt3 : (k : Int) < pn := by omega
    have h0k : (0 : Int) ≤ k := by omega
    have hw1 : wrap64 ((k : Int) + 1) = (k : Int) + 1 := w64 _ (by have := HPN.out; omega)
    have HOK2 := hid (show inn d p → okP d (L.take (k + 1)) from fun h => okP_snoc HPk.out HOK.out h)
    have HPUT := hid (puts_snoc (c := zs) HPk.out)
    have HYr := hid (show BL wr Y ya yr yq yb d yt yx yu from Blk.fr HY.out HF.out (fun e => by have := HYG.out; omega))
    have HPV := hid (show ¬ inn d p → V = ([], 1) from fun h => by rw [← HV2.out, if_neg (fun ho => h (ho p HPM.out))])
    have HPBL := hid (show inn d p → (pb p).length = 128 * (sc p).toNat from fun h => (pb_len h HZl.out).2)
    have HBP := hid (fun (W : World) (X : List Int) (E : List Value) (hx : X.length = l) (hi : inn d p) => bk_piece (w := W) (g := GB) (c := cB) (E := E) hx HCB.out.1 HCB.out.2 HV.out hi HZl.out)
    obtain ⟨X, hX⟩ : ∃ X, puts zs (L.take k) = X := ⟨_, rfl⟩
    rw [hX] at HBK HPUT
    clear hc hg hpk hX
    obtain ⟨s, hs⟩ : ∃ s, sc p = s := ⟨_, rfl⟩
    rw [hs] at HPBL
    have HS := hid hs
    clear hs
    by_cases hi : inn d p
    case neg =>
      obtain rfl := HPV.out hi
      have HIN := hid (show ¬ wi d p.a s by have := hi; unfold inn at this; rwa [HS.out] at this)
      clear HPBL HBP HPV HOK2
      obtain ⟨pa, pnn, ph, pA, pl, pcc, pz⟩ := p
      dsimp only at e0 e1 e2 e3 HZl HZp HIN
      have HPC := hid (show pl ≤ maxLen from Nat.le_trans HZp.out.2.1 HZp.out.2.2.1)
      obtain ⟨T, hT⟩ : ∃ T, wr.heap.size = T := ⟨_, rfl⟩
      obtain ⟨w7, hw7⟩ : ∃ w7, wr.alloc (.cells (pcs pa pnn ph pA pl pcc) 73) = w7 := ⟨_, rfl⟩
      have f7 : Fr No wr w7 := by rw [← hw7]; exact fr1 _ _
      have HT7 := hid (show PB w7 T pa pnn ph pA pl pcc by rw [← hw7, ← hT]; exact Blk.new _ _ _)
      have HTG := hid (show GB ≠ T by have := HBK.out.lt; omega)
      replace HBK := hid (HBK.out.fr f7 (fun h => h))
      replace HYr := hid (HYr.out.fr f7)
      replace HF := hid (show Fr (fun q => q = GB) w6 w7 from HF.out.step f7 (fun _ _ h => h.elim))
      replace HFN := hid (HFN.out.trans f7)
      have HZ := hid (HZp.out.fr f7)
      have HW7 := hid hw7
      have HTT := hid hT
      clear f7 hw7 hT HZp HRP
      go_upto_region 10 with fail
      rw [show wr.alloc (Obj.cells #[.int .i64 pa, .int .i64 pnn, .bool ph, .slice pA pl pcc] 73) = w7 from HW7.out]
      try rw [HTT.out]
      clear e0 e1 e2 e3
      obtain ⟨c0, c1, c2, c3⟩ := HT7.out.cells
      have HPSEC := hid (fun W => psec_ok pa pnn ph pA pl pcc pz W HPC.out)
      rw [HS.out] at HPSEC
      go_wp2_with (first | ((with_reducible refine ld_pc rfl (.tmp 12) rfl T ?_ HT7.out ?_); · rfl) | ((with_reducible refine ld_lay rfl (.tmp 9) rfl Y ?_ HYr.out ?_); · rfl) | (go_at_call 81; refine (HPSEC.out _).mono ?_; rintro e w8 ⟨rfl, f8⟩; replace HFN := hid (HFN.out.trans f8); replace HYr := hid (HYr.out.fr f8); replace c0 := kc f8 c0; clear f8) | (go_at_call 82; refine (isw_no _ _ _ _ _ _ _ _ pa s _ (by have := HD.out; omega) HIN.out).mono ?_; rintro e w9 ⟨rfl, f9⟩; replace HFN := hid (HFN.out.trans f9); clear f9))
      go_step3
      refine jump_on ?_
      go_wp2
      rw [Exit.noGoto_ret]
      go_ret2
      exact RetT.no 1 HFN.out
    obtain ⟨i0, i1, i2, i3⟩ := id hi
    rw [HS.out] at i1 i2 i3
    have HIN := hid (show wi d p.a s by have := hi; unfold inn at this; rwa [HS.out] at this)
    have HLN2 := hid (HPBL.out hi)
    have HBP2 := hid (fun W X E hx => HBP.out W X E hx hi)
    have HOK3 := hid (HOK2.out hi)
    clear HPBL HBP HPV HOK2
    obtain ⟨pa, pnn, ph, pA, pl, pcc, pz⟩ := p
    dsimp only at e0 e1 e2 e3 HZl HZp HIN
    have HPC := hid (show pl ≤ maxLen from Nat.le_trans HZp.out.2.1 HZp.out.2.2.1)
    obtain ⟨T, hT⟩ : ∃ T, wr.heap.size = T := ⟨_, rfl⟩
    obtain ⟨w7, hw7⟩ : ∃ w7, wr.alloc (.cells (pcs pa pnn ph pA pl pcc) 73) = w7 := ⟨_, rfl⟩
    have f7 : Fr No wr w7 := by rw [← hw7]; exact fr1 _ _
    have HT7 := hid (show PB w7 T pa pnn ph pA pl pcc by rw [← hw7, ← hT]; exact Blk.new _ _ _)
    have HTG := hid (show GB ≠ T by have := HBK.out.lt; omega)
    replace HBK := hid (HBK.out.fr f7 (fun h => h))
    replace HYr := hid (HYr.out.fr f7)
    replace HF := hid (show Fr (fun q => q = GB) w6 w7 from HF.out.step f7 (fun _ _ h => h.elim))
    replace HFN := hid (HFN.out.trans f7)
    have HZ := hid (HZp.out.fr f7)
    have HW7 := hid hw7
    have HTT := hid hT
    clear f7 hw7 hT HZp HRP
    go_upto_region 10 with fail
    rw [show wr.alloc (Obj.cells #[.int .i64 pa, .int .i64 pnn, .bool ph, .slice pA pl pcc] 73) = w7 from HW7.out]
    try rw [HTT.out]
    clear e0 e1 e2 e3
    obtain ⟨c0, c1, c2, c3⟩ := HT7.out.cells
    have HPSEC := hid (fun W => psec_ok pa pnn ph pA pl pcc pz W HPC.out)
    rw [HS.out] at HPSEC
    dsimp only at i0 i3
    obtain ⟨ka, rfl⟩ : ∃ q : Nat, pa = q := ⟨pa.toNat, by omega⟩
    obtain ⟨kn, rfl⟩ : ∃ q : Nat, s = q := ⟨s.toNat, by omega⟩
    have HK := hid (show 1 ≤ kn ∧ 128 * (ka + kn) ≤ l ∧ l ≤ 200000 by have := HV.out; have := HLB.out; omega)
    clear i0 i1 i2 i3 hi
    rw [Int.toNat_natCast] at HLN2
    go_upto_region 12 with (first | ((with_reducible refine ld_pc rfl (.tmp 12) rfl T ?_ HT7.out ?_); · rfl) | ((with_reducible refine ld_lay rfl (.tmp 9) rfl Y ?_ HYr.out ?_); · rfl) | (go_at_call 81; refine (HPSEC.out _).mono ?_; rintro e w8 ⟨rfl, f8⟩; replace HF := hid (show Fr (fun q => q = GB) w6 w8 from HF.out.step f8 (fun _ _ h => h.elim)); replace HYr := hid (HYr.out.fr f8); replace HZ := hid (HZ.out.fr f8); replace HBK := hid (HBK.out.fr f8 (fun h => h)); replace c0 := kc f8 c0; replace c2 := kc f8 c2; replace c3 := kc f8 c3; clear f8) | (go_at_call 82; refine (isw_yes _ _ _ _ _ _ _ _ ka kn _ (by have := HD.out; omega) HIN.out).mono ?_; rintro e w9 ⟨rfl, f9⟩; replace HF := hid (show Fr (fun q => q = GB) w6 w9 from HF.out.step f9 (fun _ _ h => h.elim)); replace HZ := hid (HZ.out.fr f9); replace HBK := hid (HBK.out.fr f9 (fun h => h)); replace c0 := kc f9 c0; replace c2 := kc f9 c2; replace c3 := kc f9 c3; clear f9))
    clear HT7 HFN HYr HPSEC c1 HZl
    cases ph with
    | true =>
      have HPB := hid (show pb ⟨ka, pnn, true, pA, pl, pcc, pz⟩ = List.replicate (128 * kn) 0 by
        have h1 := HLN2.out
        unfold pb at h1 ⊢
        rw [if_pos rfl] at h1 ⊢
        rw [List.length_replicate] at h1
        rw [h1])
      obtain ⟨hxl, _, _, E, hblk⟩ := HBK.out
      have HXL := hid hxl
      have HBL := hid hblk
      clear hxl hblk
      go_wp2_with (first | (go_at_call 83; refine (part_f GB 0 l cB ka kn _ HK.out.1 HK.out.2.1 HCB.out.1 HCB.out.2).mono ?_; rintro e w8 ⟨rfl, f8⟩; rw [Nat.zero_add]; replace HF := hid (show Fr (fun q => q = GB) w6 w8 from HF.out.step f8 (fun _ _ h => h.elim)); replace HBL := hid (Blk.fr HBL.out f8 (fun h => h)); clear f8) | (refine clear_b rfl (.tmp 48) rfl GB (128 * ka) (128 * kn) (cB - 128 * ka) (CrcE.cells X ++ E) rfl (by have := HK.out; omega) HBL.out (by rw [List.length_append, cells_len, HXL.out]; have := HK.out; omega) ?_; intro w9 hb9 f9; have HB9 := hid hb9; replace HF := hid (HF.out.trans f9); clear hb9 f9))
      go_roundw
      case rel =>
        refine ⟨k + 1, by omega, by go_num, HOK3.out, ?_, HF.out⟩
        rw [HPUT.out]
        refine HBP2.out _ X E HXL.out ?_
        rw [HPB.out, List.length_replicate]
        have h9 := HB9.out
        rw [← cells_rep] at h9
        exact h9
      case measure => first | exact next_m _ _ hlt hw1 | (simp [intOf]; omega)
    | false =>
      have HPB := hid (show pb ⟨ka, pnn, false, pA, pl, pcc, pz⟩ = pz by unfold pb; exact if_neg (fun h => by cases h))
      have HPL := hid (show pl = 128 * kn by have h1 := HLN2.out; rw [HPB.out] at h1; have h2 := HZ.out.1.1; simp only [List.length_map] at h2; omega)
      go_upto_region 14 with fail
      have HBKd := hid (show BK w9.drew GB l cB X from HBK.out)
      have HZd := hid (show IsB w9.drew pA pl pcc pz from HZ.out)
      have HF0 := HF
      have FW := HF
      have FW := kdS FW
      refine wp_region_noPanic ?_
      refine wp_region_held_drew (S := (fun W' => W'.cell? ⟨T, 0, none⟩ = some (.int .i64 ka) ∧ W'.cell? ⟨T, 3, none⟩ = some (.slice pA pl pcc) ∧ Hid (Fr (fun q => q = GB) w6 W'))) (by kernel_rfl) ?_ (fun hHeld => ?_)
      · (try dsimp only); (first | (go_split_ands; exact ⟨kc f (by assumption), kc f (by assumption), by assumption⟩) | (go_split_ands; exact ⟨(by assumption), (by assumption), by assumption⟩) | (go_split_ands; exact ⟨kc (fr1 _ _) (by assumption), kc (fr1 _ _) (by assumption), kfa (by assumption)⟩) | (exact ⟨kcs hf2 (by simp only []; have := HTG.out; omega) hHeld.1, kcs hf2 (by simp only []; have := HTG.out; omega) hHeld.2.1, kst hf2 hHeld.2.2⟩))
      refine wpAnyH_take (i := 0) (v := ?v1) rfl (by kernel_rfl) (by kernel_rfl) (by kernel_rfl) (fun _ _ _ h => h) (Or.inl ⟨by kernel_rfl, ?y1⟩) (by assumption) ?_
      case y1 => (intro w hSw; (try dsimp only at hSw); go_simp; all_goals with_reducible rfl)
      try simp only [Act.put, List.getElem_toArray, List.getElem_cons_zero, List.setIfInBounds_toArray, List.set_cons_zero, List.set_cons_succ]
      refine wpAnyH_take (i := 1) (v := ?v2) rfl (by kernel_rfl) (by kernel_rfl) (by kernel_rfl) (fun _ _ _ h => h) (Or.inl ⟨by kernel_rfl, ?y2⟩) (by assumption) ?_
      case y2 => (intro w hSw; (try dsimp only at hSw); go_simp; all_goals with_reducible rfl)
      try simp only [Act.put, List.getElem_toArray, List.getElem_cons_succ, List.getElem_cons_zero, List.setIfInBounds_toArray, List.set_cons_zero, List.set_cons_succ]
      refine wpAnyH_take (i := 2) (v := ?v3) rfl (by kernel_rfl) (by kernel_rfl) (by kernel_rfl) (fun _ _ _ h => h) (Or.inl ⟨by kernel_rfl, ?y3⟩) (by assumption) ?_
      case y3 => (intro w hSw; (try dsimp only at hSw); go_simp; all_goals with_reducible rfl)
      try simp only [Act.put, List.getElem_toArray, List.getElem_cons_succ, List.getElem_cons_zero, List.setIfInBounds_toArray, List.set_cons_zero, List.set_cons_succ]
      refine wpAnyH_take (i := 3) (v := ?v4) rfl (by kernel_rfl) (by kernel_rfl) (by kernel_rfl) (fun _ _ _ h => h) (Or.inl ⟨by kernel_rfl, ?y4⟩) (by assumption) ?_
      case y4 => (intro w hSw; (try dsimp only at hSw); go_simp; all_goals with_reducible rfl)
      try simp only [Act.put, List.getElem_toArray, List.getElem_cons_succ, List.getElem_cons_zero, List.setIfInBounds_toArray, List.set_cons_zero, List.set_cons_succ]
      refine wpAnyH_take (i := 5) (v := ?v5) rfl (by kernel_rfl) (by kernel_rfl) (by kernel_rfl) (fun _ _ _ h => h) (Or.inl ⟨by kernel_rfl, ?y5⟩) (by assumption) ?_
      case y5 => (intro w hSw; (try dsimp only at hSw); go_simp; all_goals with_reducible rfl)
      try simp only [Act.put, List.getElem_toArray, List.getElem_cons_succ, List.getElem_cons_zero, List.setIfInBounds_toArray, List.set_cons_zero, List.set_cons_succ]
      refine wpAnyH_take (i := 6) (v := ?v6) rfl (by kernel_rfl) (by kernel_rfl) (by kernel_rfl) (fun _ _ _ h => h) (Or.inl ⟨by kernel_rfl, ?y6⟩) (by assumption) ?_
      case y6 => (intro w hSw; (try dsimp only at hSw); go_simp; all_goals with_reducible rfl)
      try simp only [Act.put, List.getElem_toArray, List.getElem_cons_succ, List.getElem_cons_zero, List.setIfInBounds_toArray, List.set_cons_zero, List.set_cons_succ]
      refine wpAnyH_ready (rs := [4]) (by kernel_rfl) (by simp) (AllReadyH.cons rfl (fun K hK => ?_) AllReadyH.nil)
      go_simp
      go_at_call 83
      refine (part_f GB 0 l cB ka kn _ HK.out.1 HK.out.2.1 HCB.out.1 HCB.out.2).mono ?_
      rintro e W1 ⟨rfl, f⟩
      have FW := kfS f hHeld.2.2
      have HBK1 := hid (HBKd.out.fr f (fun h => h))
      have HZ1 := hid (HZd.out.fr f)
      rw [Nat.zero_add]
      dsimp only
      refine hK.out _ _ ?_ (fun hHeld => ?_)
      · (try dsimp only); (first | (go_split_ands; exact ⟨kc f (by assumption), kc f (by assumption), by assumption⟩) | (go_split_ands; exact ⟨(by assumption), (by assumption), by assumption⟩) | (go_split_ands; exact ⟨kc (fr1 _ _) (by assumption), kc (fr1 _ _) (by assumption), kfa (by assumption)⟩) | (exact ⟨kcs hf2 (by simp only []; have := HTG.out; omega) hHeld.1, kcs hf2 (by simp only []; have := HTG.out; omega) hHeld.2.1, kst hf2 hHeld.2.2⟩))
      clear hK K
      try simp only [Act.put, List.getElem_toArray, List.getElem_cons_succ, List.getElem_cons_zero, List.setIfInBounds_toArray, List.set_cons_zero, List.set_cons_succ]
      refine wpAnyH_ready (rs := [7]) (by kernel_rfl) (by simp) (AllReadyH.cons rfl (fun K hK => ?_) AllReadyH.nil)
      obtain ⟨hxl, _, _, E, hblk⟩ := HBK1.out
      refine step_cp rfl (.tmp 53) (.tmp 55) 27 27 rfl 5 Tryd.underlying27 u8_size GB (128 * ka) (128 * kn) (cB - 128 * ka) pA pl pcc (CrcE.cells pz) (CrcE.cells X ++ E) rfl rfl hblk HZ1.out.1 one_u8s (by have := HPL.out; have := HK.out; omega) (by have := HPL.out; have := HK.out; omega) (by rw [List.length_append, cells_len]; have := HK.out; omega) ?_
      intro W2 hb2 hf2
      refine hK.out _ _ ?_ (fun hHeld => ?_)
      · (try dsimp only); (first | (go_split_ands; exact ⟨kc f (by assumption), kc f (by assumption), by assumption⟩) | (go_split_ands; exact ⟨(by assumption), (by assumption), by assumption⟩) | (go_split_ands; exact ⟨kc (fr1 _ _) (by assumption), kc (fr1 _ _) (by assumption), kfa (by assumption)⟩) | (exact ⟨kcs hf2 (by simp only []; have := HTG.out; omega) hHeld.1, kcs hf2 (by simp only []; have := HTG.out; omega) hHeld.2.1, kst hf2 hHeld.2.2⟩))
      clear hK K
      try simp only [Act.put, List.getElem_toArray, List.getElem_cons_succ, List.getElem_cons_zero, List.setIfInBounds_toArray, List.set_cons_zero, List.set_cons_succ]
      have HB2 := hid hb2
      refine wpAnyH_done (by kernel_rfl) ?_ _
      refine NoPanic.normal ?_
      have HFE := hid hHeld.2.2.out
      go_wp2
      go_roundw
      case rel =>
        refine ⟨k + 1, by omega, by go_num, HOK3.out, ?_, HFE.out⟩
        rw [HPUT.out]
        refine HBP2.out _ X E hxl ?_
        rw [HPB.out]
        have h9 := HB2.out
        have h8 : pz.length = pl := by have h2 := HZ.out.1.1; simpa using h2
        rw [h8]
        exact h9
      case measure => first | exact next_m _ _ hlt hw1 | (simp [intOf]; omega)
end Go.Proofs.YtpiplcakefcaaaaDoor.BdD
