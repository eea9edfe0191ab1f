/- RecordGroups' walk. Condition: the table of sums is as its text lays it. -/
import Derived.Test.YtdepkpdolkipcaaDoorRcP
namespace Go.Proofs.YtdepkpdolkipcaaDoor.RcW
open Go.RowKit MSep MFrame MSepC RcM RcA RcB RcC DlO RcD RcE RcF Kit CrcA RcN RcO RcP

/-- What the law asks of the group's own numbers. -/
def rH (n : Int) (e s u : Int) : Prop := (0 ≤ s ∧ s ≤ 1099511627776 - n + 1) ∧ (1 ≤ e ∧ e ≤ 2147483648) ∧ (0 ≤ u ∧ u ≤ 1099511627776)
theorem gMay_iff (xs : List De) (e s u : Int) (hs : -9223372036854775808 ≤ s ∧ s ≤ 9223372036854775807) (hl : xs.length ≤ 300) : gMay xs e s u ↔ (rH (nd xs.length) e s u ∧ ∀ d ∈ xs, mayD d) := by
  have hp := nd_pos xs.length
  have hn : nd xs.length ≤ 51 := by unfold nd need; split <;> (try split) <;> omega
  constructor
  · intro h
    obtain ⟨a1, a2, a3⟩ := (h 0 hp).1
    obtain ⟨b1, b2, b3⟩ := (h (nd xs.length - 1) (by omega)).1
    simp only [rcI] at a1 a2 a3 b1 b2 b3
    refine ⟨⟨?_, a1, a3⟩, fun d hd => ?_⟩
    · unfold wrap64 at a2 b2
      omega
    · rw [← ds_gRs xs e s u] at hd
      obtain ⟨r, hr, hdr⟩ := List.mem_flatMap.1 hd
      obtain ⟨i, hi, rfl⟩ := List.mem_map.1 hr
      exact (h i (List.mem_range.1 hi)).2.2 d hdr
  · rintro ⟨⟨h1, h2, h3⟩, hd⟩ i hi
    refine ⟨⟨h2, ?_, h3⟩, ?_, fun d hdi => hd d (List.mem_of_mem_drop (List.mem_of_mem_take hdi))⟩
    · simp only [rcI]
      unfold wrap64
      omega
    · show (chunk xs i).length ≤ 6
      unfold chunk
      rw [List.length_take]
      omega
theorem all_k {xs : List De} {k : Nat} {d : De} {P : Prop} (h : xs[k]? = some d) (h1 : P ∧ ∀ x ∈ xs.take k, mayD x) (h2 : mayD d) : P ∧ ∀ x ∈ xs.take (k + 1), mayD x := ⟨h1.1, all_snoc h h1.2 h2⟩
theorem d_lit (w : World) : DOut w.heap.size (w.alloc (.cells #[] 58)) (.slice (some ⟨w.heap.size, 0, none⟩) 0 0) [] := World.ownsRow_lit (base := w.heap.size) (e := 58) (size := 5) w #[] 0 (Nat.le_refl _) (by simp [maxLen]) rfl
theorem RdG.at2 {w : World} {A : Option Addr} {n k : Nat} {rs : List Rc} {r : Rc} (h : RdG w A n rs) (hr : rs[k]? = some r) : ∃ g o A' n' c', A = some ⟨g, o, none⟩ ∧ (w.cell? ⟨g, o + k * 5, none⟩ = some (.int .i64 r.e) ∧ w.cell? ⟨g, o + k * 5 + 1, none⟩ = some (.int .i64 r.s) ∧ w.cell? ⟨g, o + k * 5 + 2, none⟩ = some (.bool r.c) ∧ w.cell? ⟨g, o + k * 5 + 3, none⟩ = some (.int .i64 r.u) ∧ w.cell? ⟨g, o + k * 5 + 4, none⟩ = some (.slice A' n' c')) ∧ n' ≤ maxLen ∧ RdD w A' n' r.l := by
  obtain ⟨vs, hv, hrl, hm⟩ := h
  have hk : k < n := by rw [← hrl]; exact (List.getElem?_eq_some_iff.1 hr).1
  obtain ⟨v, hv0⟩ : ∃ v, vs[k]? = some v := ⟨_, List.getElem?_eq_getElem (by rw [hv.1]; exact hk)⟩
  obtain ⟨g, o, rfl, _, hc⟩ := hv.at_ (by omega)
  have hc0 := hc k v hv0
  have hme := hm k v r hv0 hr
  exact ⟨g, o, v.A, v.n, v.c, rfl, by rw [← hme.e, ← hme.s, ← hme.b, ← hme.u]; exact hc0, hme.n, hme.rd⟩
set_option maxRecDepth 100000 in
set_option maxHeartbeats 8000000 in
theorem groups_walk (A : Option Addr) (l c : Nat) (xs : List De) (e s u : Int) (w : World) (hle : l ≤ c) (hcm : c ≤ maxLen) (hx : RdD w A l xs) (hs : -9223372036854775808 ≤ s ∧ s ≤ 9223372036854775807) (hT : TabAt w) :
    Calls Tryd.prog 11 #[.slice A l c, .int .i64 e, .int .i64 s, .int .i64 u] w fun e w' => e = .returned (.bool true) ∧ Fr No w w' := by
  have HX0 := hid hx
  have HT := hid hT
  have HLEN := hid hx.1
  have hl63 : l ≤ 2 ^ 63 - 1 := by unfold maxLen at hcm; omega
  clear hx hT hcm
  by_cases hbig : 300 < l
  · have hb1 : (300 : Int) < l := by omega
    clear hbig
    go_enter Tryd.func11, Tryd.ntmps11
    go_wp2_with (go_at_call 24; refine (lives_ok _ HT.out).mono ?_; rintro e' w6 ⟨rfl, f6⟩; have HF6 := hid f6; clear f6)
    go_ret
    exact ⟨rfl, HF6.out⟩
  have hb1 : (l : Int) ≤ 300 := by omega
  have hb2 : l ≤ 300 := by omega
  have HO := hid (d_lit w)
  have HX1 := hid (HX0.out.fr ((Fr.refl No w).alloc (.cells #[] 58)))
  have HGI := hid (gMay_iff xs e s u hs (by rw [HLEN.out]; exact hb2))
  obtain ⟨nn, hnn⟩ : ∃ nn, nd xs.length = nn := ⟨_, rfl⟩
  have hneed : need (l : Int) = (nn : Int) := by rw [← HLEN.out, ← hnn]; exact need_nd _
  have hn1 : 1 ≤ nn := by rw [← hnn]; exact nd_pos _
  have hn2 : nn ≤ 51 := by unfold need at hneed; split at hneed <;> (try split at hneed) <;> omega
  have hlm : l ≤ maxLen := by simp only [maxLen]; omega
  have HLM := hid hlm
  have HNE := hid hneed
  rw [hnn] at HGI
  have HNN := hid hnn
  have hbl : -9223372036854775808 ≤ (l : Int) ∧ (l : Int) ≤ 9223372036854775807 := by omega
  have HBL := hid hbl
  have HSB := hid hs
  clear hbig hnn hneed hlm hbl hs
  by_cases hg : gMay xs e s u
  · obtain ⟨hh, hall⟩ := HGI.out.1 hg
    obtain ⟨⟨hs1, hs2⟩, ⟨he1, he2⟩, hu1, hu2⟩ := hh
    have HG := hid hg
    have HALL := hid hall
    clear hg hall
    go_enter Tryd.func11, Tryd.ntmps11
    go_upto_region 4 with (at_builtin; go_loud (refine app_d rfl (.tmp 22) (.tmp 23) rfl w.heap.size (.slice (some ⟨w.heap.size, 0, none⟩) 0 0) [] rfl HO.out A l c xs rfl HX1.out (by simp; omega) (by simp) ?_; intro A1 c1 w1 own1 f1; have HF1 := hid (show Fr No w w1 from ((Fr.refl No w).alloc (.cells #[] 58)).step f1 (fun i hi h => by simp [Value.ownBlock] at h; omega)); rw [List.nil_append, show ([] : List De).length + l = l from Nat.zero_add l] at own1; (try rw [show ([] : List De).length + l = l from Nat.zero_add l]); have HD1 := hid (DOut.rd HLEN.out.symm own1); have HC1 := hid (show l ≤ c1 from (by have o2 := own1; unfold DOut at o2; rw [HLEN.out] at o2; exact (own_lim o2).1)); clear own1 f1))
    go_upto_region 5 with (go_at_call 35; go_loud (refine (group_yes A1 l c1 xs e s u _ (by omega) HC1.out HD1.out HG.out).mono ?_; rintro e' w2 ⟨A2, c2, rfl, hg2, f2⟩; rw [HNN.out] at hg2 ⊢; have HF2 := hid (HF1.out.trans f2); replace HD1 := hid (HD1.out.fr f2); have HG2 := hid hg2; clear f2 hg2))
    go_upto_region 7 with (first | (go_at_call 24; refine (lives_ok _ (HT.out.fr HF2.out (fun h => h))).mono ?_; rintro e' w3 ⟨rfl, f3⟩; have HF3 := hid (HF2.out.trans f3); replace HD1 := hid (HD1.out.fr f3); replace HG2 := hid (HG2.out.fr f3); clear f3) | (go_at_call 36; refine (needs_fr _ _ HBL.out).mono ?_; rintro e' w4 ⟨rfl, f4⟩; rw [HNE.out]; have HF4 := hid (HF3.out.trans f4); replace HD1 := hid (HD1.out.fr f4); replace HG2 := hid (HG2.out.fr f4); clear f4) | (go_at_call 37; refine (rneeds_fr _ _ HBL.out).mono ?_; rintro e' w5 ⟨rfl, f5⟩; rw [HNE.out]; have HF5 := hid (HF4.out.trans f5); replace HD1 := hid (HD1.out.fr f5); replace HG2 := hid (HG2.out.fr f5); clear f5) | (go_at_call 38; refine (sameD_ok A1 l c1 xs A l c xs _ HLM.out HLM.out HD1.out (HX0.out.fr HF5.out)).mono ?_; rintro e' w6 ⟨he, f6⟩; obtain rfl := he.trans (show _ = Ending.returned (.bool true) by simp); have HF6 := hid (HF5.out.trans f6); replace HG2 := hid (HG2.out.fr f6); clear f6 he))
    go_upto_region 8 with (go_at_call 37; refine (rneeds_fr _ _ HBL.out).mono ?_; rintro e' w7 ⟨rfl, f7⟩; rw [HNE.out]; have HF7 := hid (HF6.out.trans f7); replace HG2 := hid (HG2.out.fr f7); clear f7)
    go_upto_region 9 with fail
    go_loopw [12, 13] (fun rt i wr => rt = .bool true ∧ ∃ k : Nat, k ≤ l ∧ i = .int .i64 k ∧ Fr No w7 wr) (fun _ i _ => l - (intOf i).toNat)
    case atStart => exact ⟨rfl, 0, by omega, rfl, Fr.refl _ _⟩
    case round =>
      obtain ⟨rfl, k, hk, rfl, hf⟩ := hrel
      by_cases hlt : k < l
      · have hk1 : k < xs.length := by rw [HLEN.out]; exact hlt
        obtain ⟨x, hx⟩ : ∃ x, xs[k]? = some x := ⟨_, List.getElem?_eq_getElem hk1⟩
        obtain ⟨g, o, rfl, hg0, hc⟩ := (HX0.out.fr (HF7.out.trans hf)).at_ (by omega)
        obtain ⟨c0, c1', c2', c3, c4⟩ := hc k x hx
        have hlt3 : (k : Int) < l := by omega
        have h0 : (0 : Int) ≤ k := by omega
        have HXk := hid hx
        have HFr := hid hf
        clear hc hg0 hk1 hf hx
        obtain ⟨x0, x1, x2, x3, x4⟩ := x
        simp only [] at c0 c1' c2' c3 c4
        have hm := HALL.out _ (List.mem_of_getElem? HXk.out)
        go_wp2_with (go_at_call 33; refine (rmayDelta_ok _ _ _ _ _ _).mono ?_; rintro e' w' ⟨rfl, hq⟩; rw [decide_eq_true hm])
        go_roundw
        case rel => exact ⟨rfl, k + 1, by omega, by go_num, HFr.out.trans hq⟩
        case measure => simp [intOf]; omega
      · obtain rfl : k = l := by omega
        have HF8 := hid (HF7.out.trans hf)
        replace HG2 := hid (HG2.out.fr hf)
        clear hf hlt
        go_upto_region 15 with (go_at_call 39; go_loud (refine (rgroup_ok A _ c xs e s u _ (by omega) (HX0.out.fr HF8.out)).mono ?_; rintro e' w9 ⟨A9, c9, rfl, hg9, f9⟩; rw [HNN.out] at hg9 ⊢; have HF9 := hid (HF8.out.trans f9); have HG9 := hid hg9; replace HG2 := hid (HG2.out.fr f9); clear hg9 f9))
        go_upto_region 18 with fail
        go_loopw [15] (fun i wr => ∃ k2 : Nat, k2 ≤ nn ∧ i = .int .i64 k2 ∧ Fr No w9 wr) (fun i _ => nn - (intOf i).toNat)
        case atStart => exact ⟨0, by omega, rfl, Fr.refl _ _⟩
        case round =>
          obtain ⟨k2, hk2, rfl, hf⟩ := hrel
          by_cases hlt : k2 < nn
          · have hgl : k2 < (gRs xs e s u).length := by rw [gRs_len, HNN.out]; exact hlt
            obtain ⟨r, hr⟩ : ∃ r, (gRs xs e s u)[k2]? = some r := ⟨_, List.getElem?_eq_getElem hgl⟩
            obtain ⟨g, o, Aa, na, ca, rfl, ⟨c0, c1', c2', c3, c4⟩, hna, hra⟩ := RdG.at2 (HG2.out.fr hf) hr
            obtain ⟨g', o', Ab, nb, cb, rfl, ⟨d0, d1, d2, d3, d4⟩, hnb, hrb⟩ := RdG.at2 (HG9.out.fr hf) hr
            have hlt3 : (k2 : Int) < nn := by omega
            have h0 : (0 : Int) ≤ k2 := by omega
            have HFr := hid hf
            have HNA := hid hna
            have HNB := hid hnb
            have HRA := hid hra
            have HRB := hid hrb
            clear hf hna hnb hra hrb hr hgl
            obtain ⟨re, rs, rc, ru, rl⟩ := r
            simp only [] at c0 c1' c2' c3 c4 d0 d1 d2 d3 d4 HRA HRB
            go_upto_region 20 with fail
            have FW := hid (Fr.refl No wr)
            have FW := kd FW
            refine wp_region_noPanic ?_
            refine wp_region_held_drew (S := (fun W' => W'.cell? ⟨g, o + k2 * 5, none⟩ = some (.int .i64 re) ∧ W'.cell? ⟨g, o + k2 * 5 + 1, none⟩ = some (.int .i64 rs) ∧ W'.cell? ⟨g, o + k2 * 5 + 2, none⟩ = some (.bool rc) ∧ W'.cell? ⟨g, o + k2 * 5 + 3, none⟩ = some (.int .i64 ru) ∧ W'.cell? ⟨g, o + k2 * 5 + 4, none⟩ = some (.slice Aa na ca) ∧ W'.cell? ⟨g', o' + k2 * 5, none⟩ = some (.int .i64 re) ∧ W'.cell? ⟨g', o' + k2 * 5 + 1, none⟩ = some (.int .i64 rs) ∧ W'.cell? ⟨g', o' + k2 * 5 + 2, none⟩ = some (.bool rc) ∧ W'.cell? ⟨g', o' + k2 * 5 + 3, none⟩ = some (.int .i64 ru) ∧ W'.cell? ⟨g', o' + k2 * 5 + 4, none⟩ = some (.slice Ab nb cb) ∧ Hid (Fr No wr W'))) (by kernel_rfl) ?_ (fun hHeld => ?_)
            · (try dsimp only); (first | (go_split_ands; exact ⟨kc f (by assumption), kc f (by assumption), kc f (by assumption), kc f (by assumption), kc f (by assumption), kc f (by assumption), kc f (by assumption), kc f (by assumption), kc f (by assumption), kc f (by assumption), by assumption⟩) | (go_split_ands; exact ⟨(by assumption), (by assumption), (by assumption), (by assumption), (by assumption), (by assumption), (by assumption), (by assumption), (by assumption), (by assumption), by assumption⟩) | (go_split_ands; exact ⟨kc (fr1 _ _) (by assumption), kc (fr1 _ _) (by assumption), kc (fr1 _ _) (by assumption), kc (fr1 _ _) (by assumption), kc (fr1 _ _) (by assumption), kc (fr1 _ _) (by assumption), kc (fr1 _ _) (by assumption), kc (fr1 _ _) (by assumption), kc (fr1 _ _) (by assumption), kc (fr1 _ _) (by assumption), kfa (by assumption)⟩))
            refine wpAnyH_take (i := 0) (v := ?v1) rfl (by kernel_rfl) (by kernel_rfl) (by kernel_rfl) (fun _ _ _ h => h) (Or.inl ⟨by kernel_rfl, ?y1⟩) (by assumption) ?_
            case y1 => (intro w hSw; (try dsimp only at hSw); go_simp; all_goals with_reducible rfl)
            try simp only [Act.put, List.getElem_toArray, List.getElem_cons_zero, List.setIfInBounds_toArray, List.set_cons_zero, List.set_cons_succ]
            refine wpAnyH_take (i := 1) (v := ?v2) rfl (by kernel_rfl) (by kernel_rfl) (by kernel_rfl) (fun _ _ _ h => h) (Or.inl ⟨by kernel_rfl, ?y2⟩) (by assumption) ?_
            case y2 => (intro w hSw; (try dsimp only at hSw); go_simp; all_goals with_reducible rfl)
            try simp only [Act.put, List.getElem_toArray, List.getElem_cons_succ, List.getElem_cons_zero, List.setIfInBounds_toArray, List.set_cons_zero, List.set_cons_succ]
            refine wpAnyH_take (i := 2) (v := ?v3) rfl (by kernel_rfl) (by kernel_rfl) (by kernel_rfl) (fun _ _ _ h => h) (Or.inl ⟨by kernel_rfl, ?y3⟩) (by assumption) ?_
            case y3 => (intro w hSw; (try dsimp only at hSw); go_simp; all_goals with_reducible rfl)
            try simp only [Act.put, List.getElem_toArray, List.getElem_cons_succ, List.getElem_cons_zero, List.setIfInBounds_toArray, List.set_cons_zero, List.set_cons_succ]
            refine wpAnyH_take (i := 3) (v := ?v4) rfl (by kernel_rfl) (by kernel_rfl) (by kernel_rfl) (fun _ _ _ h => h) (Or.inl ⟨by kernel_rfl, ?y4⟩) (by assumption) ?_
            case y4 => (intro w hSw; (try dsimp only at hSw); go_simp; all_goals with_reducible rfl)
            try simp only [Act.put, List.getElem_toArray, List.getElem_cons_succ, List.getElem_cons_zero, List.setIfInBounds_toArray, List.set_cons_zero, List.set_cons_succ]
            refine wpAnyH_take (i := 4) (v := ?v5) rfl (by kernel_rfl) (by kernel_rfl) (by kernel_rfl) (fun _ _ _ h => h) (Or.inl ⟨by kernel_rfl, ?y5⟩) (by assumption) ?_
            case y5 => (intro w hSw; (try dsimp only at hSw); go_simp; all_goals with_reducible rfl)
            try simp only [Act.put, List.getElem_toArray, List.getElem_cons_succ, List.getElem_cons_zero, List.setIfInBounds_toArray, List.set_cons_zero, List.set_cons_succ]
            refine wpAnyH_take (i := 5) (v := ?v6) rfl (by kernel_rfl) (by kernel_rfl) (by kernel_rfl) (fun _ _ _ h => h) (Or.inl ⟨by kernel_rfl, ?y6⟩) (by assumption) ?_
            case y6 => (intro w hSw; (try dsimp only at hSw); go_simp; all_goals with_reducible rfl)
            try simp only [Act.put, List.getElem_toArray, List.getElem_cons_succ, List.getElem_cons_zero, List.setIfInBounds_toArray, List.set_cons_zero, List.set_cons_succ]
            refine wpAnyH_take (i := 6) (v := ?v7) rfl (by kernel_rfl) (by kernel_rfl) (by kernel_rfl) (fun _ _ _ h => h) (Or.inl ⟨by kernel_rfl, ?y7⟩) (by assumption) ?_
            case y7 => (intro w hSw; (try dsimp only at hSw); go_simp; all_goals with_reducible rfl)
            try simp only [Act.put, List.getElem_toArray, List.getElem_cons_succ, List.getElem_cons_zero, List.setIfInBounds_toArray, List.set_cons_zero, List.set_cons_succ]
            refine wpAnyH_take (i := 7) (v := ?v8) rfl (by kernel_rfl) (by kernel_rfl) (by kernel_rfl) (fun _ _ _ h => h) (Or.inl ⟨by kernel_rfl, ?y8⟩) (by assumption) ?_
            case y8 => (intro w hSw; (try dsimp only at hSw); go_simp; all_goals with_reducible rfl)
            try simp only [Act.put, List.getElem_toArray, List.getElem_cons_succ, List.getElem_cons_zero, List.setIfInBounds_toArray, List.set_cons_zero, List.set_cons_succ]
            refine wpAnyH_ready (rs := [8]) (by kernel_rfl) (by simp) (AllReadyH.cons rfl (fun K hK => ?_) AllReadyH.nil)
            go_simp
            go_at_call 30
            refine (rsame_ok re rs rc ru Aa na ca rl re rs rc ru Ab nb cb rl _ HNA.out HNB.out (HRA.out.fr hHeld.2.2.2.2.2.2.2.2.2.2.out) (HRB.out.fr hHeld.2.2.2.2.2.2.2.2.2.2.out)).mono ?_
            rintro E0 W1 ⟨he, f⟩
            have FW := kf f hHeld.2.2.2.2.2.2.2.2.2.2
            obtain rfl := he.trans (show _ = Ending.returned (.bool true) by simp)
            dsimp only
            refine hK.out _ _ ?_ (fun hHeld => ?_)
            · (try dsimp only); (first | (go_split_ands; exact ⟨kc f (by assumption), kc f (by assumption), kc f (by assumption), kc f (by assumption), kc f (by assumption), kc f (by assumption), kc f (by assumption), kc f (by assumption), kc f (by assumption), kc f (by assumption), by assumption⟩) | (go_split_ands; exact ⟨(by assumption), (by assumption), (by assumption), (by assumption), (by assumption), (by assumption), (by assumption), (by assumption), (by assumption), (by assumption), by assumption⟩) | (go_split_ands; exact ⟨kc (fr1 _ _) (by assumption), kc (fr1 _ _) (by assumption), kc (fr1 _ _) (by assumption), kc (fr1 _ _) (by assumption), kc (fr1 _ _) (by assumption), kc (fr1 _ _) (by assumption), kc (fr1 _ _) (by assumption), kc (fr1 _ _) (by assumption), kc (fr1 _ _) (by assumption), kc (fr1 _ _) (by assumption), kfa (by assumption)⟩))
            clear hK K
            try simp only [Act.put, List.getElem_toArray, List.getElem_cons_succ, List.getElem_cons_zero, List.setIfInBounds_toArray, List.set_cons_zero, List.set_cons_succ]
            refine wpAnyH_take (i := 9) (v := ?v9) rfl (by kernel_rfl) (by kernel_rfl) (by kernel_rfl) (fun _ _ _ h => h) (Or.inl ⟨by kernel_rfl, ?y9⟩) (by assumption) ?_
            case y9 => (intro w hSw; (try dsimp only at hSw); go_simp; all_goals with_reducible rfl)
            try simp only [Act.put, List.getElem_toArray, List.getElem_cons_succ, List.getElem_cons_zero, List.setIfInBounds_toArray, List.set_cons_zero, List.set_cons_succ]
            refine wpAnyH_done (by kernel_rfl) ?_ _
            refine NoPanic.normal ?_
            go_wp2
            go_roundw
            case rel => exact ⟨k2 + 1, by omega, by go_num, HFr.out.trans FW.out⟩
            case measure => simp [intOf]; omega
          · obtain rfl : k2 = nn := by omega
            have HF10 := hid (HF9.out.trans hf)
            replace HG2 := hid (HG2.out.fr hf)
            clear hf hlt
            go_wp2_with (first | (go_at_call 40; go_loud (refine (join_ok A2 _ c2 (gRs xs e s u) _ (by omega) (by omega) HG2.out (gRs_GJ HG.out)).mono ?_; rintro e' w11 ⟨A11, c11, rfl, hd11, f11⟩; rw [ds_gRs] at hd11 ⊢; rw [HLEN.out] at hd11 ⊢; have HF11 := hid (HF10.out.trans f11); have HD11 := hid hd11; clear hd11 f11)) | (go_at_call 38; go_loud (refine (sameD_ok A11 _ c11 xs A _ c xs _ HLM.out HLM.out HD11.out (HX0.out.fr HF11.out)).mono ?_; rintro e' w12 ⟨he, f12⟩; obtain rfl := he.trans (show _ = Ending.returned (.bool true) by simp); have HF12 := hid (HF11.out.trans f12); clear f12 he)))
            go_ret
            exact ⟨rfl, HF12.out⟩
  · have HG := hid hg
    clear hg
    go_enter Tryd.func11, Tryd.ntmps11
    go_upto_region 4 with (at_builtin; go_loud (refine app_d rfl (.tmp 22) (.tmp 23) rfl w.heap.size (.slice (some ⟨w.heap.size, 0, none⟩) 0 0) [] rfl HO.out A l c xs rfl HX1.out (by simp; omega) (by simp) ?_; intro A1 c1 w1 own1 f1; have HF1 := hid (show Fr No w w1 from ((Fr.refl No w).alloc (.cells #[] 58)).step f1 (fun i hi h => by simp [Value.ownBlock] at h; omega)); rw [List.nil_append, show ([] : List De).length + l = l from Nat.zero_add l] at own1; (try rw [show ([] : List De).length + l = l from Nat.zero_add l]); have HD1 := hid (DOut.rd HLEN.out.symm own1); have HC1 := hid (show l ≤ c1 from (by have o2 := own1; unfold DOut at o2; rw [HLEN.out] at o2; exact (own_lim o2).1)); clear own1 f1))
    go_upto_region 5 with (go_at_call 35; go_loud (refine (group_no A1 l c1 xs e s u _ (by omega) HC1.out HD1.out HG.out).mono ?_; rintro e' w2 ⟨rfl, f2⟩; have HF2 := hid (HF1.out.trans f2); replace HD1 := hid (HD1.out.fr f2); clear f2))
    go_upto_region 7 with (first | (go_at_call 24; refine (lives_ok _ (HT.out.fr HF2.out (fun h => h))).mono ?_; rintro e' w3 ⟨rfl, f3⟩; have HF3 := hid (HF2.out.trans f3); replace HD1 := hid (HD1.out.fr f3); clear f3) | (go_at_call 36; refine (needs_fr _ _ HBL.out).mono ?_; rintro e' w4 ⟨rfl, f4⟩; rw [HNE.out]; have HF4 := hid (HF3.out.trans f4); replace HD1 := hid (HD1.out.fr f4); clear f4) | (go_at_call 37; refine (rneeds_fr _ _ HBL.out).mono ?_; rintro e' w5 ⟨rfl, f5⟩; rw [HNE.out]; have HF5 := hid (HF4.out.trans f5); replace HD1 := hid (HD1.out.fr f5); clear f5) | (go_at_call 38; refine (sameD_ok A1 l c1 xs A l c xs _ HLM.out HLM.out HD1.out (HX0.out.fr HF5.out)).mono ?_; rintro e' w6 ⟨he, f6⟩; obtain rfl := he.trans (show _ = Ending.returned (.bool true) by simp); have HF6 := hid (HF5.out.trans f6); clear f6 he))
    go_cut [12] (fun r wx => (∃ b : Bool, r = .bool b ∧ Hid (b = true → rH nn e s u)) ∧ Fr No w wx)
    case first =>
      by_cases q1 : 0 ≤ s
      case neg =>
        go_wp2_with (go_at_call 37; refine (rneeds_fr _ _ HBL.out).mono ?_; rintro e' w7 ⟨rfl, f7⟩; rw [HNE.out]; have HF7 := hid (HF6.out.trans f7); clear f7)
        go_meet
        exact ⟨⟨_, rfl, hid (fun h => absurd h (by simp))⟩, HF6.out⟩
      by_cases q2 : s ≤ 1099511627776 - nn + 1
      case neg =>
        go_wp2_with (go_at_call 37; refine (rneeds_fr _ _ HBL.out).mono ?_; rintro e' w7 ⟨rfl, f7⟩; rw [HNE.out]; have HF7 := hid (HF6.out.trans f7); clear f7)
        go_meet
        exact ⟨⟨_, rfl, hid (fun h => absurd h (by simp))⟩, HF7.out⟩
      by_cases q3 : 1 ≤ e
      case neg =>
        go_wp2_with (go_at_call 37; refine (rneeds_fr _ _ HBL.out).mono ?_; rintro e' w7 ⟨rfl, f7⟩; rw [HNE.out]; have HF7 := hid (HF6.out.trans f7); clear f7)
        go_meet
        exact ⟨⟨_, rfl, hid (fun h => absurd h (by simp))⟩, HF7.out⟩
      by_cases q4 : e ≤ 2147483648
      case neg =>
        go_wp2_with (go_at_call 37; refine (rneeds_fr _ _ HBL.out).mono ?_; rintro e' w7 ⟨rfl, f7⟩; rw [HNE.out]; have HF7 := hid (HF6.out.trans f7); clear f7)
        go_meet
        exact ⟨⟨_, rfl, hid (fun h => absurd h (by simp))⟩, HF7.out⟩
      by_cases q5 : 0 ≤ u
      case neg =>
        go_wp2_with (go_at_call 37; refine (rneeds_fr _ _ HBL.out).mono ?_; rintro e' w7 ⟨rfl, f7⟩; rw [HNE.out]; have HF7 := hid (HF6.out.trans f7); clear f7)
        go_meet
        exact ⟨⟨_, rfl, hid (fun h => absurd h (by simp))⟩, HF7.out⟩
      go_wp2_with (go_at_call 37; refine (rneeds_fr _ _ HBL.out).mono ?_; rintro e' w7 ⟨rfl, f7⟩; rw [HNE.out]; have HF7 := hid (HF6.out.trans f7); clear f7)
      go_meet
      exact ⟨⟨_, rfl, hid (fun h => ⟨⟨q1, q2⟩, ⟨q3, q4⟩, q5, by simpa using h⟩)⟩, HF7.out⟩
    obtain ⟨⟨b, rfl, hB⟩, hf8⟩ := hcut
    have HF8 := hid hf8
    clear hf8
    go_upto_region 9 with fail
    go_loopw [12, 13] (fun rt i wr => ∃ (k : Nat) (b' : Bool), k ≤ l ∧ i = .int .i64 k ∧ rt = .bool b' ∧ Hid (b' = true → rH nn e s u ∧ ∀ d ∈ xs.take k, mayD d) ∧ Fr No w wr) (fun _ i _ => l - (intOf i).toNat)
    case atStart => exact ⟨0, b, by omega, rfl, rfl, hid (fun h => ⟨hB.out h, by simp⟩), HF8.out⟩
    case round =>
      obtain ⟨k, b', hk, rfl, rfl, HB, hf⟩ := hrel
      by_cases hlt : k < l
      · cases b' with
        | false =>
          have hlt3 : (k : Int) < l := by omega
          have h0 : (0 : Int) ≤ k := by omega
          have HFr := hid hf
          clear hf
          go_wp2_with fail
          go_roundw
          case rel => exact ⟨k + 1, false, by omega, by go_num, rfl, hid (fun h => by cases h), HFr.out⟩
          case measure => simp [intOf]; omega
        | true =>
          have hk1 : k < xs.length := by rw [HLEN.out]; exact hlt
          obtain ⟨x, hx⟩ : ∃ x, xs[k]? = some x := ⟨_, List.getElem?_eq_getElem hk1⟩
          obtain ⟨g, o, rfl, hg0, hc⟩ := (HX0.out.fr hf).at_ (by omega)
          obtain ⟨c0, c1', c2', c3, c4⟩ := hc k x hx
          have hlt3 : (k : Int) < l := by omega
          have h0 : (0 : Int) ≤ k := by omega
          have HXk := hid hx
          have HFr := hid hf
          clear hc hg0 hk1 hf hx
          obtain ⟨x0, x1, x2, x3, x4⟩ := x
          simp only [] at c0 c1' c2' c3 c4
          by_cases hm : mayD ⟨x0, x1, x2, x3, x4⟩
          · go_wp2_with (go_at_call 33; refine (rmayDelta_ok _ _ _ _ _ _).mono ?_; rintro e' w' ⟨rfl, hq⟩; rw [decide_eq_true hm])
            go_roundw
            case rel => exact ⟨k + 1, true, by omega, by go_num, rfl, hid (fun _ => all_k HXk.out (HB.out (by first | rfl | trivial)) hm), HFr.out.trans hq⟩
            case measure => simp [intOf]; omega
          · go_wp2_with (go_at_call 33; refine (rmayDelta_ok _ _ _ _ _ _).mono ?_; rintro e' w' ⟨rfl, hq⟩; rw [decide_eq_false hm])
            go_roundw
            case rel => exact ⟨k + 1, false, by omega, by go_num, rfl, hid (fun h => by cases h), HFr.out.trans hq⟩
            case measure => simp [intOf]; omega
      · obtain rfl : k = l := by omega
        have HF9 := hid hf
        clear hf hlt
        cases b' with
        | true =>
          have h9 := HB.out (by first | rfl | trivial)
          rw [List.take_of_length_le (by rw [HLEN.out]; exact Nat.le_refl _)] at h9
          exact absurd (HGI.out.2 h9) HG.out
        | false =>
          go_wp2_with fail
          go_ret
          exact ⟨rfl, HF9.out⟩
end Go.Proofs.YtdepkpdolkipcaaDoor.RcW
