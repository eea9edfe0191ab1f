/- Contracts: what a set has not of a span, as the document's answer and as the program reckon it. Conditions: the slice reads as a set's spans, the span may be, at most 2000 spans. -/
import Derived.Test.YthldppgbopiaiaaSpI
import Derived.Test.YthldppgbopiaiaaSpN
namespace Go.Proofs.Ythldppgbopiaiaa.SpQ
open Go.RowKit MSep MSepC MSpM MSpN SpA SpB SpO SpE SpF SpG SpH SpI

theorem ris_take {xs : List Sp} (h : Ris xs) (k : Nat) : Ris (xs.take k) := (ris_append.1 (by rw [List.take_append_drop]; exact h : Ris (xs.take k ++ xs.drop k))).1
theorem gaps_snoc {xs : List Sp} {k : Nat} {t : Sp} (wn : Sp) (h : xs[k]? = some t) : rgaps (xs.take (k + 1)) wn = drop (rgaps (xs.take k) wn) t := by
  rw [take_snoc h, rgaps, List.foldl_append]
  rfl
theorem gaps_len2 {xs : List Sp} {l : Nat} {wn : Sp} (hr : Ris xs) (hw : may wn) (k : Nat) (hl : xs.length = l) : (rgaps (xs.take k) wn).length ≤ l + 1 := by
  rw [← pgaps_rgaps (ris_take hr k) hw]
  have := pgaps_len (xs.take k) wn
  have : (xs.take k).length ≤ xs.length := by simp; omega
  omega
theorem gaps_may {xs : List Sp} {wn : Sp} (hw : may wn) (k : Nat) : ∀ s ∈ rgaps (xs.take k) wn, may s := fun s hs => ((rgaps_ok (xs.take k) hw).1.2 s hs).1
theorem gaps_pos {wn : Sp} (h : 0 < wn.2) : rgaps [] wn = [wn] := by rw [rgaps, if_pos h]; rfl
theorem gaps_zero {wn : Sp} (h : ¬ 0 < wn.2) : rgaps [] wn = [] := by rw [rgaps, if_neg h]; rfl

set_option maxRecDepth 100000 in
set_option maxHeartbeats 4000000 in
theorem rGaps_ok (A : Option Addr) (l c : Nat) (xs : List Sp) (a n : Int) (w : World) (hl : l ≤ 2000) (hx : RdS w A l xs) (hr : Ris xs) (hs : may (a, n)) : Calls Try.prog 35 #[.slice A l c, .agg #[.int .i64 a, .int .i64 n]] w fun e w' =>
    RetS w w' e (rgaps xs (a, n)) := by
  have HX := hid hx
  have HR := hid hr
  have HS := hid hs
  have FW := hid (fr1 w (.cells #[.int .i64 a, .int .i64 n] 23))
  have BX := hid (Blk.new w 23 #[.int .i64 a, .int .i64 n])
  have c0 := BX.out.cell 0
  have c1 := BX.out.cell 1
  simp only [List.getElem?_toArray, List.getElem?_cons_zero, List.getElem?_cons_succ] at c0 c1
  clear hx hr hs BX
  by_cases hn : 0 < n
  all_goals
    have HN := hid hn
    go_enter Try.func35, Try.ntmps35
    go_wp2
    clear hn c0 c1
    go_loopw [5, 6] (fun v i wr => ∃ (k : Nat) (A : Option Addr) (c : Nat), k ≤ l ∧ i = .int .i64 k ∧ v = .slice A (rgaps (xs.take k) (a, n)).length c ∧ RdS wr A (rgaps (xs.take k) (a, n)).length (rgaps (xs.take k) (a, n)) ∧ Fr No w wr) (fun _ i _ => l - (intOf i).toNat)
    case atStart =>
      first
      | exact ⟨0, none, 0, by omega, rfl, by rw [List.take_zero, gaps_zero (show ¬ 0 < n by have := HN.out; omega)]; rfl, by rw [List.take_zero, gaps_zero (show ¬ 0 < n by have := HN.out; omega)]; exact RdS.nil _ _, FW.out⟩
      | exact ⟨0, _, 1, by omega, rfl, by rw [List.take_zero, gaps_pos (show 0 < n by have := HN.out; omega)]; rfl, by rw [List.take_zero, gaps_pos (show 0 < n by have := HN.out; omega)]; exact lit_rd2 _ _ _ _ (by simp), FW.out.alloc _⟩
    case round =>
      obtain ⟨k, Av, cv, hk, rfl, rfl, ho, hf⟩ := hrel
      by_cases hlt : k < l
      · have hk1 : k < xs.length := by rw [HX.out.1]; exact hlt
        obtain ⟨⟨b, m⟩, hx⟩ : ∃ x, xs[k]? = some x := ⟨_, List.getElem?_eq_getElem hk1⟩
        have HXk := hid hx
        have HMB := hid (HR.out.2 _ (List.mem_of_getElem? hx)).1
        obtain ⟨g, o, rfl, hg, hc⟩ := (HX.out.fr hf).at_ (by omega)
        obtain ⟨c0, c1⟩ := hc k _ HXk.out
        simp only [] at c0 c1
        have hlt3 : (k : Int) < l := by omega
        have h0k : (0 : Int) ≤ k := by omega
        have FW := hid hf
        have HO := hid ho
        have HK := hid hlt
        have HLN := hid (gaps_len2 HR.out HS.out k HX.out.1)
        clear hc hg hx hk1 hf ho hk hlt
        go_wp2_with fail
        refine (rDrop_ok _ _ cv (rgaps (xs.take k) (a, n)) b m _ (by have := HLN.out; omega) HO.out (gaps_may HS.out k) HMB.out).mono ?_
        rintro e w3 ⟨A3, k3, c3, rfl, r3, f3⟩
        have FW := kf f3 FW
        have R3 := hid r3
        clear r3 f3 c0 c1
        go_wp2
        go_roundw
        case rel => exact ⟨k + 1, A3, c3, HK.out, by go_num, by rw [gaps_snoc _ HXk.out, R3.out.1], by rw [gaps_snoc _ HXk.out, R3.out.1]; exact R3.out, FW.out⟩
        case measure => have := HK.out; simp [intOf]; omega
      · obtain rfl : k = l := by omega
        have hE : xs.take k = xs := List.take_of_length_le (by rw [HX.out.1]; exact Nat.le_refl _)
        rw [hE] at ho ⊢
        have HO := hid ho
        have FW := hid hf
        clear hE ho hf
        go_wp2
        go_ret
        exact .mk HO.out FW.out

/-- Behind k rounds of Gaps. -/
def GpI (w : World) (xs : List Sp) (s : Sp) (l : Nat) (v fr i : Value) (wr : World) : Prop := ∃ (k : Nat) (A : Option Addr) (c : Nat) (st : Int × List Sp), k ≤ l ∧ i = .int .i64 k ∧ fr = .int .i64 st.1 ∧ v = .slice A st.2.length c ∧ (xs.take k).foldl (gStep s) (s.1, []) = st ∧ Out (w.heap.size + 1) wr v st.2 ∧ Fr No w wr ∧ Blk wr w.heap.size 23 #[.int .i64 s.1, .int .i64 s.2] ∧ (0 ≤ st.1 ∧ st.1 ≤ 1099511627776) ∧ st.2.length ≤ k
theorem gp_snoc {xs : List Sp} {k : Nat} {t s : Sp} {st : Int × List Sp} (h : xs[k]? = some t) (hst : (xs.take k).foldl (gStep s) (s.1, []) = st) : (xs.take (k + 1)).foldl (gStep s) (s.1, []) = gStep s st t := by
  rw [take_snoc h, List.foldl_append, hst]
  rfl

set_option maxRecDepth 100000 in
set_option maxHeartbeats 4000000 in
theorem gaps_ok (A : Option Addr) (l c : Nat) (xs : List Sp) (a n : Int) (w : World) (hl : l ≤ 2000) (hx : RdS w A l xs) (hr : Ris xs) (hs : may (a, n)) : Calls Try.prog 32 #[.slice A l c, .agg #[.int .i64 a, .int .i64 n]] w fun e w' =>
    RetP w w' e (pgaps xs (a, n)) 0 := by
  have hset : isSet xs = true := decide_eq_true ⟨by rw [hx.1]; omega, hr⟩
  have HSET := hid hset
  have HX := hid hx
  have HR := hid hr
  have HS := hid hs
  have HI := hid (isSet_ok A l c xs (w.alloc (.cells #[.int .i64 a, .int .i64 n] 23)) (by simp only [maxLen]; omega) (hx.fr (fr1 w _)) (fun t ht => wf_may (hr.2 t ht).1))
  have FW := hid (fr1 w (.cells #[.int .i64 a, .int .i64 n] 23))
  have BX := hid (Blk.new w 23 #[.int .i64 a, .int .i64 n])
  clear hset hx hr hs
  go_enter Try.func32, Try.ntmps32
  go_wp2_with fail
  refine HI.out.mono ?_
  rintro e w1 ⟨rfl, f1⟩
  rw [HSET.out]
  have FW := kf f1 FW
  have BX := kb f1 BX
  have c0 := BX.out.cell 0
  have c1 := BX.out.cell 1
  simp only [List.getElem?_toArray, List.getElem?_cons_zero, List.getElem?_cons_succ] at c0 c1
  clear f1 HI
  go_wp2_with fail
  refine (may_ok a n _ (wf_may HS.out)).mono ?_
  rintro e w2 ⟨rfl, f2⟩
  rw [decide_eq_true HS.out]
  have FW := kf f2 FW
  have BX := kb f2 BX
  clear f2 c0 c1
  have c0 := BX.out.cell 0
  have c1 := BX.out.cell 1
  simp only [List.getElem?_toArray, List.getElem?_cons_zero, List.getElem?_cons_succ] at c0 c1
  go_wp2
  clear c0 c1
  go_loopw [6, 7, 23] (fun v fr i wr => GpI w xs (a, n) l v fr i wr) (fun _ _ i _ => l - (intOf i).toNat)
  case atStart => exact ⟨0, none, 0, (a, []), by omega, rfl, rfl, rfl, rfl, Out.nil _ _, FW.out, BX.out, by have := HS.out; unfold may at this; simp only [] at this ⊢; omega, by simp⟩
  case round =>
    obtain ⟨k, Av, cv, ⟨fr, out⟩, hk, rfl, rfl, rfl, hst, ho, hf, hb, hfr, hln⟩ := hrel
    simp only [] at ho hfr hln
    by_cases hlt : k < l
    · have hk1 : k < xs.length := by rw [HX.out.1]; exact hlt
      obtain ⟨⟨b, m⟩, hx⟩ : ∃ x, xs[k]? = some x := ⟨_, List.getElem?_eq_getElem hk1⟩
      have HST := hid (gp_snoc hx hst)
      have hmb := (HR.out.2 _ (List.mem_of_getElem? hx)).1
      have HMB := hid hmb
      have HXk := hid hx
      obtain ⟨⟨p, q⟩, hX⟩ : ∃ X, meet0 (b, m) (a, n) = X := ⟨_, rfl⟩
      have hmeet := meet_yes HMB.out HS.out
      rw [hX] at hmeet
      have HMT := hid hmeet
      have HPQ := hid (meet0_may2 HMB.out HS.out (hid hX))
      have HM0 := hid hX
      obtain ⟨g, o, rfl, hg, hc⟩ := (HX.out.fr hf).at_ (by omega)
      obtain ⟨c0, c1⟩ := hc k _ HXk.out
      simp only [] at c0 c1
      have hlt3 : (k : Int) < l := by omega
      have h0k : (0 : Int) ≤ k := by omega
      have FW := hid (hf.alloc (.cells #[.int .i64 b, .int .i64 m] 23))
      have BX := hid (hb.alloc (.cells #[.int .i64 b, .int .i64 m] 23))
      have OX := hid (ho.fr (fr1 wr (.cells #[.int .i64 b, .int .i64 m] 23)))
      have SX := hid (Blk.new wr 23 #[.int .i64 b, .int .i64 m])
      have HV := hid (fun q h => (ho.ge q h).2)
      have d0 := BX.out.cell 0
      have d1 := BX.out.cell 1
      have s0 := SX.out.cell 0
      have s1 := SX.out.cell 1
      simp only [List.getElem?_toArray, List.getElem?_cons_zero, List.getElem?_cons_succ] at d0 d1 s0 s1
      have HH := hid (show w.heap.size + 1 ≤ wr.heap.size from hb.lt)
      have HK := hid hlt
      have HFR := hid hfr
      have HLN := hid hln
      clear hc hg hx hk1 hf hb ho hk hlt hst hmb hX hmeet hfr hln
      go_wp2_with fail
      refine (meet_ok b m a n _ (wf_may HMB.out) (wf_may HS.out)).mono ?_
      rintro e w3 ⟨rfl, f3⟩
      rw [HMT.out]
      simp only []
      have FW := hid ((kf f3 FW).out.alloc (.cells #[.int .i64 p, .int .i64 q] 23))
      have BX := hid ((kb f3 BX).out.alloc (.cells #[.int .i64 p, .int .i64 q] 23))
      have OX := hid ((ko f3 OX).out.fr (fr1 w3 (.cells #[.int .i64 p, .int .i64 q] 23)))
      have MX := hid (Blk.new w3 23 #[.int .i64 p, .int .i64 q])
      have HS3 := hid (show wr.heap.size < w3.heap.size from (kb f3 SX).out.lt)
      clear f3 c0 c1 d0 d1 s0 s1 SX
      have d0 := BX.out.cell 0
      have d1 := BX.out.cell 1
      have m0 := MX.out.cell 0
      have m1 := MX.out.cell 1
      simp only [List.getElem?_toArray, List.getElem?_cons_zero, List.getElem?_cons_succ] at d0 d1 m0 m1
      have hpq := HPQ.out
      unfold may at hpq
      simp only [] at hpq
      have hfr := HFR.out
      by_cases hq : q = 0
      · have hqb : (q == 0) = true := by simp [hq]
        have HE := hid (show gStep (a, n) (fr, out) (b, m) = (fr, out) by unfold gStep; rw [HM0.out, if_pos hq])
        clear hq
        go_wp2
        go_roundw
        case rel => exact ⟨k + 1, _, cv, (fr, out), HK.out, by go_num, rfl, rfl, by rw [HST.out, HE.out], OX.out, FW.out, BX.out, HFR.out, by have := HLN.out; simp only []; omega⟩
        case measure => have := HK.out; simp [intOf]; omega
      · have hqb : (q == 0) = false := by simp [hq]
        by_cases hp : fr < p
        · have HE := hid (show gStep (a, n) (fr, out) (b, m) = (p + q, out ++ [(fr, p - fr)]) by unfold gStep; rw [HM0.out, if_neg hq]; simp only []; rw [if_pos hp])
          clear hq
          go_wp2_with fail
          refine (between_ok fr p _ (by omega)).mono ?_
          rintro e w4 ⟨rfl, f4⟩
          have FW := kf f4 FW
          have BX := kb f4 BX
          have OX := ko f4 OX
          have MX := kb f4 MX
          have HS4 := hid (show w3.heap.size < w4.heap.size from MX.out.lt)
          clear f4 d0 d1 m0 m1
          go_wp2_with (at_builtin; refine app_sp rfl (.tmp 37) (.tmp 42) rfl (w.heap.size + 1) _ out rfl (ko (fr1 _ _) OX).out _ 1 _ [(fr, p - fr)] rfl (lit_rd2 _ _ _ _ (by simp)) (by have := HLN.out; simp; omega) (by have := HH.out; have := HS3.out; have := HS4.out; simp; omega) ?_)
          intro A5 c5 w5 o5 f5
          have FW := hid (fr_own (FW.out.alloc _) (ko (fr1 _ _) OX).out (by omega) f5)
          have BX := hid (kbo (BX.out.alloc _) (ko (fr1 _ _) OX).out (by omega) f5)
          have MX := hid ((MX.out.alloc _).fr f5 (fun he => by have := HV.out _ he; have := HS3.out; omega))
          have O5 := hid o5
          clear o5 f5
          have m0 := MX.out.cell 0
          have m1 := MX.out.cell 1
          simp only [List.getElem?_toArray, List.getElem?_cons_zero, List.getElem?_cons_succ] at m0 m1
          go_wp2_with fail
          refine (end_may p q _ HPQ.out).mono ?_
          rintro e w6 ⟨rfl, f6⟩
          have FW := kf f6 FW
          have BX := kb f6 BX
          have O5 := ko f6 O5
          clear f6 m0 m1
          go_wp2
          go_roundw
          case rel => exact ⟨k + 1, A5, c5, (p + q, out ++ [(fr, p - fr)]), HK.out, by go_num, rfl, by simp, by rw [HST.out, HE.out], O5.out, FW.out, BX.out, by simp only []; omega, by have := HLN.out; simp; omega⟩
          case measure => have := HK.out; simp [intOf]; omega
        · have HE := hid (show gStep (a, n) (fr, out) (b, m) = (p + q, out) by unfold gStep; rw [HM0.out, if_neg hq]; simp only []; rw [if_neg hp])
          clear hq
          go_wp2_with fail
          refine (end_may p q _ HPQ.out).mono ?_
          rintro e w6 ⟨rfl, f6⟩
          have FW := kf f6 FW
          have BX := kb f6 BX
          have OX := ko f6 OX
          clear f6 m0 m1 d0 d1
          go_wp2
          go_roundw
          case rel => exact ⟨k + 1, _, cv, (p + q, out), HK.out, by go_num, rfl, rfl, by rw [HST.out, HE.out], OX.out, FW.out, BX.out, by simp only []; omega, by have := HLN.out; simp only []; omega⟩
          case measure => have := HK.out; simp [intOf]; omega
    · obtain rfl : k = l := by omega
      have hE : xs.take k = xs := List.take_of_length_le (by rw [HX.out.1]; exact Nat.le_refl _)
      rw [hE] at hst
      have HPG := hid (show pgaps xs (a, n) = gEnd (a, n) (fr, out) by unfold pgaps; rw [hst])
      have FW := hid hf
      have BX := hid hb
      have OX := hid ho
      have HLN := hid hln
      have HH := hid (show w.heap.size + 1 ≤ wr.heap.size from hb.lt)
      have d0 := BX.out.cell 0
      have d1 := BX.out.cell 1
      simp only [List.getElem?_toArray, List.getElem?_cons_zero, List.getElem?_cons_succ] at d0 d1
      have hs := HS.out
      unfold may at hs
      simp only [] at hs
      clear hE ho hf hb hst hln
      go_wp2_with fail
      refine (end_may a n _ HS.out).mono ?_
      rintro e w3 ⟨rfl, f3⟩
      have FW := kf f3 FW
      have BX := kb f3 BX
      have OX := ko f3 OX
      have HH := hid (show w.heap.size + 1 ≤ w3.heap.size from BX.out.lt)
      clear f3 d0 d1
      have d0 := BX.out.cell 0
      have d1 := BX.out.cell 1
      simp only [List.getElem?_toArray, List.getElem?_cons_zero, List.getElem?_cons_succ] at d0 d1
      by_cases he : fr < a + n
      · have HE := hid (show gEnd (a, n) (fr, out) = out ++ [(fr, a + n - fr)] by unfold gEnd; rw [if_pos he])
        go_wp2_with fail
        refine (end_may a n _ HS.out).mono ?_
        rintro e w4 ⟨rfl, f4⟩
        have FW := kf f4 FW
        have OX := ko f4 OX
        have HH := hid (show w.heap.size + 1 ≤ w4.heap.size from (kb f4 BX).out.lt)
        clear f4 d0 d1
        go_wp2_with fail
        refine (between_ok fr (a + n) _ (by omega)).mono ?_
        rintro e w5 ⟨rfl, f5⟩
        have FW := kf f5 FW
        have OX := ko f5 OX
        have HH := hid (show w.heap.size + 1 ≤ w5.heap.size from Nat.le_trans HH.out f5.size)
        clear f5
        go_wp2_with (at_builtin; refine app_sp rfl (.tmp 51) (.tmp 56) rfl (w.heap.size + 1) _ out rfl (ko (fr1 _ _) OX).out _ 1 _ [(fr, a + n - fr)] rfl (lit_rd2 _ _ _ _ (by simp)) (by have := HLN.out; simp; omega) (by have := HH.out; simp; omega) ?_)
        intro A6 c6 w6 o6 f6
        have FW := hid (fr_own (FW.out.alloc _) (ko (fr1 _ _) OX).out (by omega) f6)
        have O6 := hid o6
        clear o6 f6
        go_wp2_with fail
        refine (limited_ok A6 _ c6 _ (by have := HLN.out; omega)).mono ?_
        rintro e w7 ⟨rfl, rfl⟩
        go_wp2
        go_ret2
        exact .mk (by rw [HPG.out, HE.out]; exact O6.out.rd) FW.out
      · have HE := hid (show gEnd (a, n) (fr, out) = out by unfold gEnd; rw [if_neg he])
        go_wp2_with fail
        refine (limited_ok Av _ cv _ (by have := HLN.out; omega)).mono ?_
        rintro e w7 ⟨rfl, rfl⟩
        go_wp2
        go_ret2
        exact .mk (by rw [HPG.out, HE.out]; exact OX.out.rd) FW.out

set_option maxRecDepth 100000 in
set_option maxHeartbeats 4000000 in
theorem gaps_bad (A : Option Addr) (l c : Nat) (xs : List Sp) (a n : Int) (w : World) (hl : l ≤ 2000) (hx : RdS w A l xs) (hw : ∀ s ∈ xs, wf s) (hs : wf (a, n)) (hn : ¬ (isSet xs = true ∧ may (a, n))) : Calls Try.prog 32 #[.slice A l c, .agg #[.int .i64 a, .int .i64 n]] w fun e w' =>
    RetP w w' e [] 30 := by
  have HI := hid (isSet_ok A l c xs (w.alloc (.cells #[.int .i64 a, .int .i64 n] 23)) (by simp only [maxLen]; omega) (hx.fr (fr1 w _)) hw)
  have HS := hid hs
  have FW := hid (fr1 w (.cells #[.int .i64 a, .int .i64 n] 23))
  have BX := hid (Blk.new w 23 #[.int .i64 a, .int .i64 n])
  clear hx hs hw
  by_cases hset : isSet xs = true
  · have HSET := hid hset
    have HM := hid (show ¬ may (a, n) from fun h => hn ⟨hset, h⟩)
    clear hset hn
    go_enter Try.func32, Try.ntmps32
    go_wp2_with fail
    refine HI.out.mono ?_
    rintro e w1 ⟨rfl, f1⟩
    rw [HSET.out]
    have FW := kf f1 FW
    have BX := kb f1 BX
    have c0 := BX.out.cell 0
    have c1 := BX.out.cell 1
    simp only [List.getElem?_toArray, List.getElem?_cons_zero, List.getElem?_cons_succ] at c0 c1
    clear f1 HI
    go_wp2_with fail
    refine (may_ok a n _ HS.out).mono ?_
    rintro e w2 ⟨rfl, f2⟩
    rw [decide_eq_false HM.out]
    have FW := kf f2 FW
    clear f2 c0 c1
    go_wp2
    go_ret2
    exact .mk (RdS.nil _ _) FW.out
  · have HSET := hid (show isSet xs = false by simpa using hset)
    clear hset hn
    go_enter Try.func32, Try.ntmps32
    go_wp2_with fail
    refine HI.out.mono ?_
    rintro e w1 ⟨rfl, f1⟩
    rw [HSET.out]
    have FW := kf f1 FW
    clear f1 HI
    go_wp2
    go_ret2
    exact .mk (RdS.nil _ _) FW.out

set_option maxRecDepth 100000 in
set_option maxHeartbeats 4000000 in
theorem both_bad (A B : Option Addr) (l c m d : Nat) (xs ys : List Sp) (w : World) (hl : l ≤ 2000) (hm : m ≤ 2000) (hx : RdS w A l xs) (hy : RdS w B m ys) (hwx : ∀ s ∈ xs, wf s) (hwy : ∀ s ∈ ys, wf s) (hn : ¬ (isSet xs = true ∧ isSet ys = true)) :
    Calls Try.prog 31 #[.slice A l c, .slice B m d] w fun e w' => RetP w w' e [] 30 := by
  have HI := hid (isSet_ok A l c xs w (by simp only [maxLen]; omega) hx hwx)
  have HY := hid hy
  clear hx hwx hy
  by_cases hset : isSet xs = true
  · have HSET := hid hset
    have HM := hid (show isSet ys = false by simpa using fun h => hn ⟨hset, h⟩)
    clear hset hn
    go_enter Try.func31, Try.ntmps31
    go_wp2_with fail
    refine HI.out.mono ?_
    rintro e w1 ⟨rfl, f1⟩
    rw [HSET.out]
    have FW := hid f1
    clear f1 HI
    go_wp2_with fail
    refine (isSet_ok B m d ys _ (by simp only [maxLen]; omega) (HY.out.fr FW.out) hwy).mono ?_
    rintro e w2 ⟨rfl, f2⟩
    rw [HM.out]
    have FW := kf f2 FW
    clear f2
    go_wp2
    go_ret2
    exact .mk (RdS.nil _ _) FW.out
  · have HSET := hid (show isSet xs = false by simpa using hset)
    clear hset hn
    go_enter Try.func31, Try.ntmps31
    go_wp2_with fail
    refine HI.out.mono ?_
    rintro e w1 ⟨rfl, f1⟩
    rw [HSET.out]
    have FW := hid f1
    clear f1 HI
    go_wp2
    go_ret2
    exact .mk (RdS.nil _ _) FW.out
end Go.Proofs.Ythldppgbopiaiaa.SpQ
