/- Contract: spans cut at multiples of 4096, by the document. Conditions: the slice reads as spans with sectors, of no more than 200000. -/
import Derived.Test.YtllolilpchmkiaaDoorBtQ
namespace Go.Proofs.YtllolilpchmkiaaDoor.BtZ
open Go.RowKit MSep MSepC MSpM Kit BtA BtQ SpO
open SpA (wf w64)
open SpU (spl spl_succ spl_len pc frm too Gd)

theorem lit2 (w : World) (a n : Int) : RdS (w.alloc (.cells #[.int .i64 a, .int .i64 n] 57)) (some ⟨w.heap.size, 0, none⟩) 1 [(a, n)] := by
  refine ⟨rfl, rfl, fun _ => ⟨w.heap.size, 0, rfl, (Blk.new w _ _).lt, ?_⟩⟩
  intro j u hu
  have hc := (Blk.new w 57 #[.int .i64 a, .int .i64 n]).cell (0 + j)
  rw [hc]
  rcases j with _ | _ | j
  · simpa [cs2] using hu
  · simpa [cs2] using hu
  · simp [cs2] at hu
theorem pcs_len {xs : List Sp} (h : ∀ s ∈ xs, Okp s) : ∀ k, (pcs (xs.take k)).length ≤ 51 * k
  | 0 => by simp [pcs]
  | k + 1 => by
    have ih := pcs_len h k
    cases hx : xs[k]? with
    | none =>
      rw [show xs.take (k + 1) = xs.take k by rw [List.take_add_one, hx]; simp]
      omega
    | some s =>
      have hs := h s (List.mem_of_getElem? hx)
      rw [pcs_snoc hx, List.length_append, (cutp_in hs).1]
      have := (okp_gd hs).2
      omega
/-- Where the loop stands behind i pieces. -/
def pos (s : Sp) (i : Nat) : Int := if i = kk s + 1 then s.1 + s.2 else frm s.1 4096 (s.1 / 4096) i
theorem pos_next {s : Sp} {i : Nat} (_hi : i ≤ kk s) : pos s (i + 1) = too s.1 s.2 4096 (s.1 / 4096) (kk s) i := by
  unfold pos too frm
  by_cases h : i = kk s
  · rw [if_pos (by omega), if_pos h]
  · rw [if_neg (by omega), if_neg (by omega), if_neg h]
    have : ((i + 1 : Nat) : Int) = (i : Int) + 1 := by omega
    rw [this, Int.add_assoc]
theorem pos_at {s : Sp} {i : Nat} (hi : i ≤ kk s) : pos s i = frm s.1 4096 (s.1 / 4096) i := by
  unfold pos
  rw [if_neg (by omega)]
def CI (w : World) (L : List Sp) (s : Sp) (v x : Value) (wr : World) : Prop := ∃ (i : Nat) (A : Option Addr) (c : Nat), i ≤ kk s + 1 ∧ v = .slice A (L.length + i) c ∧ x = .int .i64 (pos s i) ∧ Out w.heap.size wr v (L ++ spl s.1 s.2 4096 (s.1 / 4096) (kk s) i) ∧ Fr No w wr
set_option maxRecDepth 100000 in
set_option maxHeartbeats 8000000 in
theorem rcut_ok (A : Option Addr) (l c : Nat) (xs : List Sp) (w : World) (hl : l ≤ 100) (hx : RdS w A l xs) (ho : ∀ s ∈ xs, Okp s) :
    Calls Tryd.prog 52 #[.slice A l c] w fun e w' => ∃ A' c', e = .returned (.slice A' (pcs xs).length c') ∧ Out w.heap.size w' (.slice A' (pcs xs).length c') (pcs xs) ∧ Fr No w w' := by
  have HX := hid hx
  have HO := hid ho
  have HL := hid hl
  have HXL := hid hx.1
  clear hx ho hl
  go_enter Tryd.func52, Tryd.ntmps52
  go_wp2
  go_loopw [3, 4] (fun v i wr => ∃ (k : Nat) (AV : Option Addr) (cV : Nat), k ≤ l ∧ i = .int .i64 k ∧ v = .slice AV (pcs (xs.take k)).length cV ∧ Out w.heap.size wr v (pcs (xs.take k)) ∧ Fr No w wr) (fun _ i _ => l - (intOf i).toNat)
  case atStart => exact ⟨0, none, 0, by omega, rfl, rfl, Out.nil _ _, Fr.refl _ _⟩
  case round =>
    obtain ⟨k, AV, cV, hk, rfl, rfl, hout, hf⟩ := hrel
    by_cases hlt : k < l
    · have hk1 : k < xs.length := by rw [HXL.out]; exact hlt
      obtain ⟨s, hxk⟩ : ∃ x, xs[k]? = some x := ⟨_, List.getElem?_eq_getElem hk1⟩
      have hok := HO.out s (List.mem_of_getElem? hxk)
      obtain ⟨g, o, rfl, hg, hc⟩ := (HX.out.fr hf).at_ (by omega)
      obtain ⟨e0, e1⟩ := hc k _ hxk
      obtain ⟨hgd, hkk⟩ := okp_gd hok
      have hlt3 : (k : Int) < l := by omega
      have h0k : (0 : Int) ≤ k := by omega
      have hltb : decide ((k : Int) < (l : Int)) = true := decide_eq_true hlt3
      have hw1 : wrap64 ((k : Int) + 1) = (k : Int) + 1 := by have := HL.out; exact w64 _ (by omega)
      have HPC := hid (pcs_snoc hxk)
      have HPL := hid (pcs_len HO.out k)
      have HCL := hid ((cutp_in hok).1)
      obtain ⟨⟨m1, m2, m3⟩, h1s, h2s⟩ := hok
      have hend : wrap64 (s.1 + s.2) = s.1 + s.2 := w64 _ (by omega)
      have HSB := hid (And.intro m1 (And.intro h1s h2s))
      have HGD := hid hgd
      have HKK := hid hkk
      have HOUT := hid hout
      have HF := hid hf
      clear hgd hkk hout hf hc hg hxk hk1 m1 m2 m3 h1s h2s
      obtain ⟨L, hL⟩ : ∃ L, pcs (xs.take k) = L := ⟨_, rfl⟩
      rw [hL] at HPC HPL HOUT ⊢
      clear hL
      go_upto_region 5 with fail
      go_quiet (fail)
      clear e0 e1 hltb
      go_upto_region 6 with fail
      obtain ⟨wx, hwx⟩ : ∃ wx, wr.drewN nq = wx := ⟨_, rfl⟩
      rw [hwx]
      try simp only [hend]
      have HFx := hid (show Fr No w wx by rw [← hwx]; exact HF.out.drewN _)
      have HOx := hid (show Out w.heap.size wx (.slice AV L.length cV) L by rw [← hwx]; exact own_drewN HOUT.out _)
      clear hwx HF HOUT
      go_loopw [3, 5, 7] (fun v x _ w2 => ∃ (i : Nat) (A : Option Addr) (c : Nat), i ≤ kk s + 1 ∧ v = .slice A (L.length + i) c ∧ x = .int .i64 (pos s i) ∧ Out w.heap.size w2 v (L ++ spl s.1 s.2 4096 (s.1 / 4096) (kk s) i) ∧ Fr No w w2) (fun _ x _ _ => (s.1 + s.2 - intOf x).toNat)
      case atStart => exact ⟨0, AV, cV, Nat.zero_le _, rfl, by rw [pos_at (Nat.zero_le _)]; rfl, by simpa [spl] using HOx.out, HFx.out⟩
      case round =>
        obtain ⟨i, A2, c2, hi, rfl, rfl, ho2, hf2⟩ := hrel
        have hsb := HSB.out
        by_cases hik : i ≤ kk s
        · have hfi := HGD.out.frm_in hik
          have hti := HGD.out.too_in hik
          obtain ⟨c1_, _, _, c4_, _, c6_⟩ := HGD.out.pc_ok hik
          have HPN := hid (pos_next hik)
          have HPA := hid (pos_at hik)
          have HPC1 := hid (show pc s.1 s.2 4096 (s.1 / 4096) (kk s) i = (frm s.1 4096 (s.1 / 4096) i, too s.1 s.2 4096 (s.1 / 4096) (kk s) i - frm s.1 4096 (s.1 / 4096) i) from rfl)
          rw [c1_] at c4_
          rw [HPA.out]
          obtain ⟨p, hp⟩ : ∃ p, frm s.1 4096 (s.1 / 4096) i = p := ⟨_, rfl⟩
          obtain ⟨tt, htt⟩ : ∃ t, too s.1 s.2 4096 (s.1 / 4096) (kk s) i = t := ⟨_, rfl⟩
          rw [hp] at hfi hti c4_ HPA HPC1 ⊢
          rw [htt] at hti HPN HPC1
          have hT : tt = if s.1 + s.2 < (p / 4096 + 1) * 4096 then s.1 + s.2 else (p / 4096 + 1) * 4096 := by
            rw [← htt, c4_]
            unfold too
            by_cases hik2 : i = kk s
            · rw [if_pos hik2]
              have := HGD.out.hG
              subst hik2
              split <;> omega
            · rw [if_neg hik2, if_neg]
              have := HGD.out.mid (show i < kk s by omega)
              rw [SpU.step_u]
              omega
          obtain ⟨qv, hqv⟩ : ∃ q, p / 4096 = q := ⟨_, rfl⟩
          have hq2 : p.tdiv 4096 = qv := by rw [Int.tdiv_eq_ediv_of_nonneg (by omega), hqv]
          have hq1 : wrap64 (p.tdiv 4096) = qv := by rw [hq2]; exact w64 _ (by omega)
          rw [hqv] at hT
          have hq0 : wrap64 qv = qv := w64 _ (by omega)
          have hq3 : wrap64 (qv + 1) = qv + 1 := w64 _ (by omega)
          have hq4 : wrap64 ((qv + 1) * 4096) = (qv + 1) * 4096 := w64 _ (by omega)
          have hlt2 : decide (p < s.1 + s.2) = true := decide_eq_true (by omega)
          have hdf : wrap64 (tt - p) = tt - p := w64 _ (by omega)
          have HLI := hid (fun W => lit2 W p (tt - p))
          have HO2 := hid ho2
          have HF2 := hid hf2
          have HLEN := hid (show (L ++ spl s.1 s.2 4096 (s.1 / 4096) (kk s) i).length = L.length + i by rw [List.length_append, spl_len])
          have HLIM := hid (show (L ++ spl s.1 s.2 4096 (s.1 / 4096) (kk s) i).length + 1 ≤ 4000000000000 by rw [List.length_append, spl_len]; have := HPL.out; have := HL.out; have := HKK.out; omega)
          have hmeas : (s.1 + s.2 - tt).toNat < (s.1 + s.2 - p).toNat := by omega
          have HM := hid hmeas
          clear ho2 hf2 hfi c4_ hqv hp htt hmeas hsb
          by_cases hgt : s.1 + s.2 < (qv + 1) * 4096
          · obtain rfl : tt = s.1 + s.2 := by rw [hT, if_pos hgt]
            have hgb : decide (s.1 + s.2 < (qv + 1) * 4096) = true := decide_eq_true hgt
            clear hT hgt hti
            go_wp2_with (at_builtin; go_loud (refine app_sp rfl (.tmp 41) (.tmp 47) rfl w.heap.size (.slice A2 (L.length + i) c2) (L ++ spl s.1 s.2 4096 (s.1 / 4096) (kk s) i) rfl (own_fr HO2.out (fr1 _ _) (fun _ _ h => h)) (some ⟨wr.heap.size, 0, none⟩) 1 1 [(p, (s.1 + s.2) - p)] rfl (HLI.out wr) HLIM.out (Nat.le_trans HF2.out.size (fr1 wr _).size) ?_; intro A' c' x5 ho5 k5; have HO5 := hid ho5; have HF5 := hid ((HF2.out.alloc _).step k5 (fun j hj h => by have := (HO2.out.ge j h).1; omega)); clear ho5 k5))
            go_roundw
            case rel => exact ⟨i + 1, A', c', by omega, by rw [spl_len, Nat.add_assoc], by rw [HPN.out], by have h := HO5.out; rw [List.length_append] at h; rw [spl_succ, HPC1.out, ← List.append_assoc]; exact h, HF5.out⟩
            case measure => first | exact HM.out | (simp [intOf]; exact HM.out) | (have := HM.out; simp [intOf]; omega)
          · obtain rfl : tt = (qv + 1) * 4096 := by rw [hT, if_neg hgt]
            have hgb : decide (s.1 + s.2 < (qv + 1) * 4096) = false := decide_eq_false hgt
            clear hT hgt hti
            go_wp2_with (at_builtin; go_loud (refine app_sp rfl (.tmp 41) (.tmp 47) rfl w.heap.size (.slice A2 (L.length + i) c2) (L ++ spl s.1 s.2 4096 (s.1 / 4096) (kk s) i) rfl (own_fr HO2.out (fr1 _ _) (fun _ _ h => h)) (some ⟨wr.heap.size, 0, none⟩) 1 1 [(p, ((qv + 1) * 4096) - p)] rfl (HLI.out wr) HLIM.out (Nat.le_trans HF2.out.size (fr1 wr _).size) ?_; intro A' c' x5 ho5 k5; have HO5 := hid ho5; have HF5 := hid ((HF2.out.alloc _).step k5 (fun j hj h => by have := (HO2.out.ge j h).1; omega)); clear ho5 k5))
            go_roundw
            case rel => exact ⟨i + 1, A', c', by omega, by rw [spl_len, Nat.add_assoc], by rw [HPN.out], by have h := HO5.out; rw [List.length_append] at h; rw [spl_succ, HPC1.out, ← List.append_assoc]; exact h, HF5.out⟩
            case measure => first | exact HM.out | (simp [intOf]; exact HM.out) | (have := HM.out; simp [intOf]; omega)
        · obtain rfl : i = kk s + 1 := by omega
          have hpe : pos s (kk s + 1) = s.1 + s.2 := if_pos rfl
          rw [hpe]
          have hlt2 : decide (s.1 + s.2 < s.1 + s.2) = false := decide_eq_false (by omega)
          have HO2 := hid ho2
          have HF2 := hid hf2
          clear ho2 hf2 hsb
          go_wp2
          go_roundw
          case rel => (try refine ⟨_, _, ?_, rfl, rfl⟩); exact ⟨k + 1, A2, c2, by omega, by go_num, by rw [HPC.out, List.length_append, HCL.out], by rw [HPC.out]; exact HO2.out, HF2.out⟩
          case measure => first | exact next_m _ _ hlt hw1 | (simp [intOf]; omega)
    · obtain rfl : k = l := by omega
      have hltc : ¬ (k : Int) < k := by omega
      have hltb : decide ((k : Int) < (k : Int)) = false := decide_eq_false hltc
      have HE := hid (show pcs (xs.take k) = pcs xs by rw [List.take_of_length_le (by rw [HXL.out]; exact Nat.le_refl _)])
      have HOUT := hid hout
      have HF := hid hf
      clear hout hf
      go_wp2
      go_ret
      rw [HE.out]
      exact ⟨AV, cV, rfl, by have := HOUT.out; rwa [HE.out] at this, HF.out⟩
end Go.Proofs.YtllolilpchmkiaaDoor.BtZ
