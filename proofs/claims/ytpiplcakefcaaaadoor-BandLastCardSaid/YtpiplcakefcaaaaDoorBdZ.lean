/- BandLast, walked. Conditions: the pieces read as such; the table of sums is as its text lays it. -/
import Derived.Test.YtpiplcakefcaaaaDoorBdL
import Derived.Test.YtpiplcakefcaaaaDoorBdT
namespace Go.Proofs.YtpiplcakefcaaaaDoor.BdZ
open Go.RowKit MSep MFrame Kit MGeM CrcA CrcM CrcE BdM BdA BdB BdC BdD BdE BdN BdL BdT0 BdT
open GeA (bg BG ld_geom)

/-- Sector t of a content. -/
def sec (X : List Int) (t : Nat) : List Int := (X.drop (128 * t)).take 128
theorem sec_len {X : List Int} {t : Nat} (h : 128 * t + 128 ≤ X.length) : (sec X t).length = 128 := by
  unfold sec
  rw [List.length_take, List.length_drop]
  omega
theorem sec_get {X : List Int} {t j : Nat} (hj : j < 128) : (sec X t)[j]? = X[128 * t + j]? := by
  unfold sec
  rw [List.getElem?_take, if_pos hj, List.getElem?_drop]
theorem sec_ext {X Y : List Int} {t u : Nat} (h : ∀ j, j < 128 → X[128 * t + j]? = Y[128 * u + j]?) : sec X t = sec Y u := by
  apply List.ext_getElem?
  intro j
  by_cases hj : j < 128
  · rw [sec_get hj, sec_get hj, h j hj]
  · unfold sec
    rw [List.getElem?_take, List.getElem?_take, if_neg hj, if_neg hj]
/-- A content with a piece, cell by cell. -/
theorem put_get {d : Int} {p : Pc} {c : List Int} (h : inn d p) (hz : p.z.length = p.l) (hc : (c.length : Int) = 128 * d) (i : Nat) : (put c p)[i]? = if 128 * p.a.toNat ≤ i ∧ i < 128 * p.a.toNat + 128 * (sc p).toNat then (pb p)[i - 128 * p.a.toNat]? else c[i]? := by
  have h1 := pb_len h hz
  obtain ⟨a0, _, _, a3⟩ := h
  have ht : (c.take (128 * p.a.toNat)).length = 128 * p.a.toNat := by rw [List.length_take]; omega
  unfold put
  rw [List.append_assoc]
  by_cases h2 : i < 128 * p.a.toNat
  · rw [if_neg (by omega), List.getElem?_append_left (by omega), List.getElem?_take, if_pos h2]
  · rw [List.getElem?_append_right (by omega), ht]
    by_cases h3 : i < 128 * p.a.toNat + 128 * (sc p).toNat
    · rw [if_pos ⟨by omega, h3⟩, List.getElem?_append_left (by omega)]
    · rw [if_neg (by omega), List.getElem?_append_right (by omega), List.getElem?_drop]
      congr 1
      omega
theorem sec_out {d : Int} {p : Pc} {c : List Int} {t : Nat} (h : inn d p) (hz : p.z.length = p.l) (hc : (c.length : Int) = 128 * d) (ht : ¬ (p.a ≤ t ∧ (t : Int) - p.a < sc p)) : sec (put c p) t = sec c t := by
  have h0 := h.1
  have h1 := h.2.1
  refine sec_ext fun j hj => ?_
  rw [put_get h hz hc, if_neg (by omega)]
theorem sec_hole {d : Int} {p : Pc} {c : List Int} {t : Nat} (h : inn d p) (hz : p.z.length = p.l) (hc : (c.length : Int) = 128 * d) (hh : p.h = true) (hn : sc p = p.n) (ht : p.a ≤ t ∧ (t : Int) - p.a < p.n) : sec (put c p) t = z128 := by
  have h0 := h.1
  have h1 := h.2.1
  apply List.ext_getElem?
  intro j
  by_cases hj : j < 128
  · rw [sec_get hj, put_get h hz hc, if_pos (by omega)]
    unfold pb z128
    rw [if_pos hh, List.getElem?_replicate, List.getElem?_replicate, if_pos (by omega), if_pos hj]
  · unfold sec z128
    rw [List.getElem?_take, if_neg hj, List.getElem?_eq_none (by rw [List.length_replicate]; omega)]
theorem sec_in {d : Int} {p : Pc} {c : List Int} {t k : Nat} (h : inn d p) (hz : p.z.length = p.l) (hc : (c.length : Int) = 128 * d) (hh : p.h = false) (hk : (t : Int) - p.a = k) (ht : (k : Int) < sc p) : sec (put c p) t = sec p.z k := by
  have h0 := h.1
  have h1 := h.2.1
  refine sec_ext fun j hj => ?_
  rw [put_get h hz hc, if_pos (by omega)]
  unfold pb
  rw [if_neg (by rw [hh]; decide)]
  congr 1
  omega
/-- A piece of a band of d sectors that is within: what its parts are. -/
theorem inn_hole {d : Int} {p : Pc} (h : inn d p) (hh : p.h = true) : p.l = 0 ∧ sc p = p.n := by
  have h1 := h.2.1
  have e : p.l = 0 := by
    apply Classical.byContradiction
    intro h0
    unfold sc at h1
    rw [if_neg (fun q => h0 q.2), if_pos (Or.inl hh)] at h1
    omega
  exact ⟨e, by unfold sc; rw [if_pos ⟨hh, e⟩]⟩
theorem inn_data {d : Int} {p : Pc} (h : inn d p) (hh : p.h = false) : sc p = (p.l / 128 : Nat) ∧ p.l % 128 = 0 := by
  have h1 := h.2.1
  have e : ¬ (p.h = true ∨ p.n ≠ 0 ∨ p.l % 128 ≠ 0) := by
    intro q
    unfold sc at h1
    rw [if_neg (fun q => by rw [hh] at q; cases q.1), if_pos q] at h1
    omega
  refine ⟨by unfold sc; rw [if_neg (fun q => by rw [hh] at q; cases q.1), if_neg e], ?_⟩
  apply Classical.byContradiction
  intro h0
  exact e (Or.inr (Or.inr h0))
theorem sec_rd {w : World} {g o l c t : Nat} {zs : List Int} (h : IsB w (some ⟨g, o, none⟩) l c zs) (hl : 128 * t + 128 ≤ l) : Rd w (some ⟨g, o + 128 * t, none⟩) 128 ((sec zs t).map (Value.int .u8)) := by
  have := part_b (a := t) (n := 1) h (by omega)
  exact this
theorem wfill (w : World) : Calls Tryd.prog 23 #[.int .u8 77, .int .i64 15] w fun e w' => (∃ A c, e = .returned (.slice A 1920 c) ∧ IsB w' A 1920 c (fill 77 15)) ∧ Fr No w w' := by
  refine (fill_ok 77 15 w (by decide) (by decide)).mono ?_
  rintro e w' ⟨A, c, rfl, hb, f⟩
  rw [fill_len] at hb ⊢
  exact ⟨⟨A, c, rfl, hb⟩, f⟩
set_option maxRecDepth 100000 in
set_option maxHeartbeats 16000000 in
theorem last_w (PA : Option Addr) (pn pc : Nat) (L : List Pc) (t : Int) (w : World) (hp : RdP w PA pn L) (hpn : pn ≤ maxLen) (hT : TabAt w) :
    Calls Tryd.prog 10 #[.slice PA pn pc, .int .i64 t] w fun e w' => e = .returned (.bool true) ∧ Fr No w w' := by
  have HP := hid hp
  have HPN := hid hpn
  have HT := hid hT
  clear hp hpn hT
  go_enter Tryd.func10, Tryd.ntmps10
  go_upto_region 2 with (first | (go_at_call 41; refine (BdN.geometry_ok _).mono ?_; rintro e' w1 ⟨rfl, f⟩; have FW := hid f; clear f))
  obtain ⟨G, hG⟩ : ∃ G, w1.heap.size = G := ⟨_, rfl⟩
  obtain ⟨wa, hwa⟩ : ∃ wa, w1.alloc (bg 2 6 16 3 2) = wa := ⟨_, rfl⟩
  have HG := hid (show BG wa G 2 6 16 3 2 by rw [← hwa, ← hG]; exact Blk.new _ _ _)
  have FG := hid (show Fr No w wa by rw [← hwa]; exact FW.out.alloc _)
  rw [show w1.alloc (.cells #[.int .i64 2, .int .i64 6, .int .i64 16, .int .i64 3, .int .i64 2] 23) = wa from hwa]
  try rw [hG]
  clear hwa hG FW
  go_wp2_with ((with_reducible refine ld_geom rfl (.tmp 5) rfl G ?_ HG.out ?_); · rfl)
  refine (large_ok 2 6 16 3 2 PA pn pc L _ (HP.out.fr FG.out) HPN.out).mono ?_
  rintro e' w2 ⟨v, rfl, f⟩
  replace FG := hid (FG.out.trans f)
  replace HG := hid (HG.out.fr f)
  clear f
  by_cases hout : v = true ∨ t < 0 ∨ 14 < t
  · have hL : Hid (∀ W, Fr No w W → Calls Tryd.prog 36 #[] W fun e w' => e = .returned (.bool true) ∧ Fr No W w') := hid (fun W f => lives_ok W (HT.out.fr f (fun h => h)))
    rcases hout with h | h | h
    · subst h
      go_wp2_with (go_at_call 36; refine (hL.out _ FG.out).mono ?_; rintro e' w3 ⟨rfl, f⟩; replace FG := hid (FG.out.trans f); clear f)
      go_ret
      exact ⟨rfl, FG.out⟩
    · cases v <;>
      (go_wp2_with (go_at_call 36; refine (hL.out _ FG.out).mono ?_; rintro e' w3 ⟨rfl, f⟩; replace FG := hid (FG.out.trans f); clear f)
       go_ret
       exact ⟨rfl, FG.out⟩)
    · cases v <;>
      (go_wp2_with (go_at_call 36; refine (hL.out _ FG.out).mono ?_; rintro e' w3 ⟨rfl, f⟩; replace FG := hid (FG.out.trans f); clear f)
       go_ret
       exact ⟨rfl, FG.out⟩)
  obtain rfl : v = false := by cases v with | false => rfl | true => exact absurd (Or.inl rfl) hout
  obtain ⟨k0, rfl⟩ : ∃ k : Nat, t = k := ⟨t.toNat, by omega⟩
  have hk0 : k0 ≤ 14 := by omega
  have t1 : ¬ (k0 : Int) < 0 := by omega
  have t2 : ¬ 14 < (k0 : Int) := by omega
  have HK0 := hid hk0
  clear hout hk0
  go_upto_region 5 with (go_at_call 23; refine (wfill _).mono ?_; rintro e' w4 ⟨⟨Ab, cb, rfl, hb⟩, f⟩; replace FG := hid (FG.out.trans f); replace HG := hid (HG.out.fr f); have HB := hid hb; clear f hb)
  have HW := hid (fun W (h1 : IsB W Ab 1920 cb (fill 77 15)) (h2 : RdP W PA pn L) => with_ok 2 6 16 3 2 Ab 1920 cb (fill 77 15) PA pn pc L W r6 h1 h2 HPN.out)
  have HWF := hid (show withF ⟨2, 6, 16, 3, 2⟩ (fill 77 15) L = if okP 15 L then (puts (fill 77 15) L, 0) else ([], 1) by
    have e : withF g0 (fill 77 15) L = _ := if_pos may0
    refine e.trans ?_
    rw [d0]
    unfold wth
    by_cases ho : okP 15 L
    · rw [if_pos ho, if_pos ⟨by rw [fill_len]; decide, ho⟩]
    · rw [if_neg ho, if_neg (fun h => ho h.2)])
  by_cases ho : okP 15 L
  case neg =>
    have HV := hid (show withF ⟨2, 6, 16, 3, 2⟩ (fill 77 15) L = ([], 1) by rw [HWF.out, if_neg ho])
    clear ho HWF
    go_wp2_with (first | ((with_reducible refine ld_geom rfl (.tmp 5) rfl G ?_ HG.out ?_); · rfl) | (go_at_call 37; refine (HW.out _ HB.out (HP.out.fr FG.out)).mono ?_; rintro e' w5 ⟨Ax, cx, he, hi, f⟩; rw [HV.out] at he hi; subst he; dsimp only [List.length_nil] at hi ⊢; replace FG := hid (FG.out.trans f); clear f hi) | (go_at_call 36; refine (lives_ok _ (HT.out.fr FG.out (fun h => h))).mono ?_; rintro e' w6 ⟨rfl, f⟩; replace FG := hid (FG.out.trans f); clear f))
    go_ret
    exact ⟨rfl, FG.out⟩
  have HV := hid (show withF ⟨2, 6, 16, 3, 2⟩ (fill 77 15) L = (puts (fill 77 15) L, 0) by rw [HWF.out, if_pos ho])
  have HZL := hid (show ∀ p ∈ L, p.z.length = p.l from fun p hp => by have := (HP.out.2.2 p hp).1.1; simpa using this)
  have hFl : ((fill 77 15).length : Int) = 128 * 15 := by rw [fill_len]; decide
  have HXL := hid (show (puts (fill 77 15) L).length = 1920 by rw [puts_len hFl L ho HZL.out, fill_len])
  have HOK := hid ho
  have HFL := hid hFl
  obtain ⟨X, hX⟩ : ∃ X, puts (fill 77 15) L = X := ⟨_, rfl⟩
  rw [hX] at HV HXL
  have HX := hid hX
  clear ho HWF hFl hX
  go_upto_region 8 with (first | ((with_reducible refine ld_geom rfl (.tmp 5) rfl G ?_ HG.out ?_); · rfl) | (go_at_call 37; refine (HW.out _ HB.out (HP.out.fr FG.out)).mono ?_; rintro e' w5 ⟨Ax, cx, he, hi, f⟩; rw [HV.out] at he hi; subst he; dsimp only at hi ⊢; rw [HXL.out] at hi ⊢; replace FG := hid (FG.out.trans f); replace HB := hid (HB.out.fr f); have HI := hid hi; clear f hi) | (go_at_call 36; refine (lives_ok _ (HT.out.fr FG.out (fun h => h))).mono ?_; rintro e' w6 ⟨rfl, f⟩; replace FG := hid (FG.out.trans f); replace HB := hid (HB.out.fr f); replace HI := hid (HI.out.fr f); clear f))
  obtain ⟨gb, ob, rfl, _, _⟩ := HB.out.1.2 (by decide)
  obtain ⟨gx, ox, rfl, _, _⟩ := HI.out.1.2 (by decide)
  have sb := run_str (P := Tryd.prog) w6 27 9 5 Tryd.underlying27 Tryd.underlying5 Tryd.underlying9 (some ⟨gb, ob + 128 * k0, none⟩) (128) (cb - 128 * k0) (sec (fill 77 15) k0) (sec_rd HB.out (by have := HK0.out; omega))
  have hcb : 1920 ≤ cb := HB.out.2.1
  have hcx : 1920 ≤ cx := HI.out.2.1
  have hk0 := HK0.out
  have hPN : (pn : Int) ≤ 9223372036854775807 := by have := HPN.out; unfold maxLen at this; omega
  go_upto_region 9 with fail
  try simp only [Nat.add_sub_cancel_left]
  have FO := FG
  clear sb FG HW HG
  go_wp2
  go_loopw [9, 10] (fun s i wr => ∃ k : Nat, k ≤ pn ∧ i = .int .i64 k ∧ s = .string (strOfNums (sec (puts (fill 77 15) (L.take k)) k0)) ∧ Fr No w6 wr) (fun _ i _ => pn - (intOf i).toNat)
  case atStart => exact ⟨0, by omega, rfl, rfl, Fr.refl _ _⟩
  case round =>
    obtain ⟨k, hk, rfl, rfl, hf⟩ := hrel
    have HF := hid hf
    have HLN := hid HP.out.1
    clear hf
    by_cases hlt : k < pn
    case neg =>
      obtain rfl : k = pn := by omega
      have hltc : ¬ (k : Int) < k := by omega
      have e : L.take k = L := List.take_of_length_le (by rw [HLN.out]; exact Nat.le_refl _)
      rw [e, HX.out]
      have sx := run_str (P := Tryd.prog) wr 27 9 5 Tryd.underlying27 Tryd.underlying5 Tryd.underlying9 (some ⟨gx, ox + 128 * k0, none⟩) (128) (cx - 128 * k0) (sec X k0) (sec_rd (HI.out.fr HF.out) (by have := HK0.out; omega))
      clear e
      go_wp2
      go_ret
      exact ⟨rfl, FO.out.trans HF.out⟩
    obtain ⟨p, hpk⟩ : ∃ p, L[k]? = some p := ⟨_, List.getElem?_eq_getElem (by rw [HLN.out]; exact hlt)⟩
    have hpm := List.mem_of_getElem? hpk
    have HPk := hid hpk
    have HRP := hid (HP.out.fr (FO.out.trans HF.out))
    obtain ⟨g, o, rfl, hg, hc⟩ := HRP.out.2.1 (by omega)
    obtain ⟨e0, e1, e2, e3⟩ := hc k p hpk
    have HZp := hid (HRP.out.2.2 p hpm)
    have HZl := hid (HZL.out p hpm)
    have HIN := hid (HOK.out p hpm)
    have hlt3 : (k : Int) < pn := by omega
    have h0k : (0 : Int) ≤ k := by omega
    have hw1 : wrap64 ((k : Int) + 1) = (k : Int) + 1 := w64 _ (by omega)
    have HK := hid hlt
    have HPUT := hid (puts_snoc (c := fill 77 15) HPk.out)
    have HC0 := hid (show ((puts (fill 77 15) (L.take k)).length : Int) = 128 * 15 by
      rw [puts_len HFL.out _ (fun q hq => HOK.out q (List.mem_of_mem_take hq)) (fun q hq => HZL.out q (List.mem_of_mem_take hq)), fill_len]; decide)
    have hi0 := HIN.out.1
    have hi1 := HIN.out.2.1
    have hi2 := HIN.out.2.2.2
    obtain ⟨s, hs⟩ : ∃ s, sc p = s := ⟨_, rfl⟩
    rw [hs] at hi1 hi2
    have HS := hid hs
    have HHO := hid (fun h => inn_hole HIN.out h)
    have HDA := hid (fun h => inn_data HIN.out h)
    have HOUT := hid (show ¬ (p.a ≤ k0 ∧ (k0 : Int) - p.a < s) → sec (puts (fill 77 15) (L.take (k + 1))) k0 = sec (puts (fill 77 15) (L.take k)) k0 from fun h => by rw [HPUT.out]; exact sec_out HIN.out HZl.out HC0.out (by rw [HS.out]; exact h))
    have HHIN := hid (show p.h = true → (p.a ≤ k0 ∧ (k0 : Int) - p.a < p.n) → sec (puts (fill 77 15) (L.take (k + 1))) k0 = z128 from fun h1 h2 => by rw [HPUT.out]; exact sec_hole HIN.out HZl.out HC0.out h1 (HHO.out h1).2 h2)
    have HDIN := hid (show ∀ q : Nat, p.h = false → (k0 : Int) - p.a = q → (q : Int) < s → sec (puts (fill 77 15) (L.take (k + 1))) k0 = sec p.z q from fun q h1 h2 h3 => by rw [HPUT.out]; exact sec_in HIN.out HZl.out HC0.out h1 h2 (by rw [HS.out]; exact h3))
    rw [HS.out] at HHO HDA
    obtain ⟨XX, hXX⟩ : ∃ q, sec (puts (fill 77 15) (L.take (k + 1))) k0 = q := ⟨_, rfl⟩
    rw [hXX] at HOUT HHIN HDIN
    have HXX := hid hXX
    clear hc hg hpk hpm hs hXX
    obtain ⟨pa, pnn, ph, pA, pl, pcc, pz⟩ := p
    dsimp only at e0 e1 e2 e3 HZp HZl hi0 hi2 HHO HDA HOUT HHIN HDIN
    obtain ⟨T, hT⟩ : ∃ T, wr.heap.size = T := ⟨_, rfl⟩
    obtain ⟨w7, hw7⟩ : ∃ w7, wr.alloc (.cells (pcs pa pnn ph pA pl pcc) 73) = w7 := ⟨_, rfl⟩
    have f7 : Fr No wr w7 := by rw [← hw7]; exact fr1 _ _
    have HT7 := hid (show PB w7 T pa pnn ph pA pl pcc by rw [← hw7, ← hT]; exact Blk.new _ _ _)
    have HZ := hid (HZp.out.fr f7)
    replace HF := hid (HF.out.trans f7)
    have HW7 := hid hw7
    have HTT := hid hT
    clear f7 hw7 hT HZp HRP
    go_upto_region 13 with fail
    rw [show wr.alloc (Obj.cells #[.int .i64 pa, .int .i64 pnn, .bool ph, .slice pA pl pcc] 73) = w7 from HW7.out]
    try rw [HTT.out]
    clear e0 e1 e2 e3
    obtain ⟨c0, c1, c2, c3⟩ := HT7.out.cells
    have hkw : wrap64 ((k0 : Int) - pa) = (k0 : Int) - pa := w64 _ (by omega)
    have hlM : (pl : Int) ≤ 9223372036854775807 := by have h1 := HZ.out.2.1; have h2 := HZ.out.2.2.1; unfold maxLen at h2; omega
    cases ph with
    | true =>
      obtain ⟨l0, hs0⟩ := HHO.out rfl
      by_cases hin : pa ≤ k0 ∧ (k0 : Int) - pa < pnn
      · have HE := hid (HHIN.out rfl hin)
        obtain ⟨n1, n2⟩ := hin
        obtain ⟨i0, hi', hz0, hz1, hz2⟩ := info_parts u8_info
        clear HHO HDA HOUT HHIN HDIN l0 hs0 hi1 hi2
        go_upto_region 14 with fail
        go_upto_region 15 with (first | (at_make; go_must (refine wpList_make_full _ rfl _ _ 27 rfl w7.heap.size 5 i0 (.int .u8 0) 1 Tryd.underlying27 hi' hz0 hz1 .i64 .i64 _ _ 128 rfl rfl rfl rfl (by rw [hz2]; omega) (by simp only [maxLen]; omega) (Nat.le_refl _) ?_; intro wm own hg; have fm : Fr No w7 wm := (Fr.refl _ _).grown hg (fun k hk => by cases hk); (first | rw [toList_madeCells_one] at own | rw [show (Value.int .u8 0).cells = #[.int .u8 0] from rfl, toList_madeCells_one] at own); have s3 := run_str (P := Tryd.prog) wm 27 9 5 Tryd.underlying27 Tryd.underlying5 Tryd.underlying9 (some ⟨w7.heap.size, 0, none⟩) 128 128 z128 (z128_rd own); have HFm := hid (HF.out.trans fm); have c0m := fm.cell_some c0 (fun h => h); have c2m := fm.cell_some c2 (fun h => h); have c3m := fm.cell_some c3 (fun h => h); clear own hg fm)))
        go_wp2
        go_roundw
        case rel => exact ⟨k + 1, HK.out, by go_num, by rw [HXX.out, HE.out], HFm.out⟩
        case measure => first | exact next_m _ _ HK.out hw1 | (have := HK.out; simp [intOf]; omega)
      · have HE := hid (HOUT.out (by rw [hs0]; exact hin))
        have hin2 : (k0 : Int) < pa ∨ pnn ≤ (k0 : Int) - pa := by omega
        clear HHO HDA HOUT HHIN HDIN l0 hs0 hi1 hi2 hin
        rcases hin2 with h | h
        all_goals
          (try have h2 : ¬ pa ≤ (k0 : Int) := by omega)
          go_wp2
          all_goals
            go_roundw
            case rel => exact ⟨k + 1, HK.out, by go_num, by rw [HXX.out, HE.out], HF.out⟩
            case measure => first | exact next_m _ _ HK.out hw1 | (have := HK.out; simp [intOf]; omega)
    | false =>
      obtain ⟨hs0, hs1⟩ := HDA.out rfl
      by_cases hin : pa ≤ k0 ∧ (k0 : Int) - pa < s
      · obtain ⟨n1, n2⟩ := hin
        obtain ⟨q, hq⟩ : ∃ q : Nat, (k0 : Int) - pa = q := ⟨((k0 : Int) - pa).toNat, by omega⟩
        have HE := hid (HDIN.out q rfl hq (by omega))
        have n3 : (q : Int) < (pl : Int) / 128 := by omega
        have n4 : 128 * q + 128 ≤ pl := by omega
        obtain ⟨gz, oz, rfl, _, _⟩ := HZ.out.1.2 (by omega)
        have sz := run_str (P := Tryd.prog) w7 27 9 5 Tryd.underlying27 Tryd.underlying5 Tryd.underlying9 (some ⟨gz, oz + 128 * q, none⟩) (128) (pcc - 128 * q) (sec pz q) (sec_rd HZ.out n4)
        have hcz : pl ≤ pcc := HZ.out.2.1
        have hpc : pcc ≤ 9223372036854775807 := by have h2 := HZ.out.2.2.1; unfold maxLen at h2; omega
        have hq14 : q ≤ 14 := by omega
        rw [hq] at hkw
        have HQ := hid hq
        clear HHO HDA HOUT HHIN HDIN hs0 hs1 hi1 hi2 n1 n2 hi0 hq
        go_upto_region 15 with fail
        go_upto_region 16 with fail
        rw [show (k0 : Int) - pa = q from HQ.out]
        go_wp2
        go_roundw
        case rel => exact ⟨k + 1, HK.out, by go_num, by rw [HXX.out, HE.out], HF.out⟩
        case measure => first | exact next_m _ _ HK.out hw1 | (have := HK.out; simp [intOf]; omega)
      · have HE := hid (HOUT.out hin)
        have hin2 : (k0 : Int) < pa ∨ ¬ ((k0 : Int) - pa < (pl : Int) / 128) := by omega
        clear HHO HDA HOUT HHIN HDIN hs0 hs1 hi1 hi2 hin
        rcases hin2 with h | h
        all_goals
          go_wp2
          all_goals
            go_roundw
            case rel => exact ⟨k + 1, HK.out, by go_num, by rw [HXX.out, HE.out], HF.out⟩
            case measure => first | exact next_m _ _ HK.out hw1 | (have := HK.out; simp [intOf]; omega)
end Go.Proofs.YtpiplcakefcaaaaDoor.BdZ
