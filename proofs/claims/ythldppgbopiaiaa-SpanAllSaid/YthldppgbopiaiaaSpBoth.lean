/- The law of Both and Gaps, walked: what two sets have in common, and what a set has not. Condition: the slices read as lists of spans of 64 bits. -/
import Derived.Test.YthldppgbopiaiaaSpT
import Derived.Test.YthldppgbopiaiaaSpP
import Derived.Test.YthldppgbopiaiaaSpGr
namespace Go.Proofs.Ythldppgbopiaiaa.SpBoth
open Go.RowKit MSep MSepC MSpM MSpN SpA SpB SpD SpO SpE SpF SpG SpGr SpH SpI SpJ SpP SpQ SpS SpT

theorem tot_in {hi : Int} : ∀ (l : List Sp) (lo : Int), lo ≤ hi → Ris l → (∀ u ∈ l, lo ≤ u.1 ∧ u.1 + u.2 ≤ hi) → tot l ≤ hi - lo
  | [], lo, h, _, _ => by simp [tot]; omega
  | u :: l, lo, h, hr, hu => by
    obtain ⟨⟨_, h0⟩, hsl, hr'⟩ := ris_cons.1 hr
    have h1 := hu u (by simp)
    have h2 := tot_in l (u.1 + u.2) (by omega) hr' (fun t ht => ⟨by have := hsl t ht; omega, (hu t (by simp [ht])).2⟩)
    have : tot (u :: l) = u.2 + tot l := by simp [tot]
    omega
theorem row_tot {s : Sp} {b : List Sp} (hs : may s) (hb : Ris b) : tot (b.flatMap fun t => one s t) ≤ s.2 := by
  have := tot_in (hi := s.1 + s.2) _ s.1 (by unfold may at hs; omega) (row_ris hs hb) (fun u hu => row_sub hu)
  omega
theorem rboth_tot {b : List Sp} (hb : Ris b) : ∀ a : List Sp, (∀ s ∈ a, may s) → tot (rboth a b) ≤ tot a
  | [], _ => by simp [rboth]
  | s :: a, h => by
    have h1 := rboth_tot hb a (fun t ht => h t (by simp [ht]))
    have h2 := row_tot (h s (by simp)) hb
    have e1 : rboth (s :: a) b = (b.flatMap fun t => one s t) ++ rboth a b := by simp [rboth]
    have e2 : tot (s :: a) = s.2 + tot a := by simp [tot]
    rw [e1, tot_append, e2]
    omega
theorem isSet_ris {xs : List Sp} (h : isSet xs = true) : Ris xs := (of_decide_eq_true (p := xs.length ≤ 4096 ∧ Ris xs) h).2
theorem krs {b c : World} {A : Option Addr} {n : Nat} {l : List Sp} (k : Fr No b c) (h : Hid (RdS b A n l)) : Hid (RdS c A n l) := hid (h.out.fr k)

set_option maxRecDepth 100000 in
set_option maxHeartbeats 4000000 in
theorem both_ok (A B : Option Addr) (l c m d : Nat) (xs ys : List Sp) (w : World) (hl : l ≤ 2000) (hm : m ≤ 2000) (hx : RdS w A l xs) (hy : RdS w B m ys) (hrx : Ris xs) (hry : Ris ys) :
    Calls Try.prog 31 #[.slice A l c, .slice B m d] w fun e w' => RetP w w' e (rboth xs ys) 0 := by
  have hsx : isSet xs = true := decide_eq_true ⟨by rw [hx.1]; omega, hrx⟩
  have hsy : isSet ys = true := decide_eq_true ⟨by rw [hy.1]; omega, hry⟩
  have HSX := hid hsx
  have HSY := hid hsy
  have HX := hid hx
  have HY := hid hy
  have HRX := hid hrx
  have HRY := hid hry
  have HC := hid (com_ok _ xs ys (Nat.le_refl _) hrx hry)
  have HI := hid (isSet_ok A l c xs w (by simp only [maxLen]; omega) hx (fun t ht => wf_may (hrx.2 t ht).1))
  clear hsx hsy hx hy hrx hry
  go_enter Try.func31, Try.ntmps31
  go_wp2_with fail
  refine HI.out.mono ?_
  rintro e w1 ⟨rfl, f1⟩
  rw [HSX.out]
  have FW := hid f1
  clear f1 HI
  go_wp2_with fail
  refine (isSet_ok B m d ys _ (by simp only [maxLen]; omega) (HY.out.fr FW.out) (fun t ht => wf_may (HRY.out.2 t ht).1)).mono ?_
  rintro e w2 ⟨rfl, f2⟩
  rw [HSY.out]
  have FW := kf f2 FW
  clear f2
  go_wp2_with fail
  refine (common_ok A B l c m d xs ys _ hl hm (HX.out.fr FW.out) (HY.out.fr FW.out) (fun t ht => (HRX.out.2 t ht).1) (fun t ht => (HRY.out.2 t ht).1)).mono ?_
  rintro e w3 ⟨A3, k3, c3, rfl, r3, f3⟩
  have FW := kf f3 FW
  have R3 := hid r3
  clear r3 f3
  go_wp2_with fail
  refine (limited_ok A3 k3 c3 _ (by have h1 := R3.out.1; have h2 := HC.out.2.2; have h3 := HX.out.1; have h4 := HY.out.1; omega)).mono ?_
  rintro e w4 ⟨rfl, rfl⟩
  go_wp2
  go_ret2
  exact .mk (by rw [← com_rboth HRX.out HRY.out]; exact R3.out) FW.out

set_option maxRecDepth 100000 in
set_option maxHeartbeats 8000000 in
theorem walk_ (A : Option Addr) (l c : Nat) (xs : List Sp) (B : Option Addr) (m d : Nat) (ys : List Sp) (a n : Int) (w : World) (hx : RdS w A l xs) (hwx : ∀ s ∈ xs, wf s) (hlc : l ≤ c) (hcm : c ≤ maxLen) (hy : RdS w B m ys) (hwy : ∀ s ∈ ys, wf s) (hmd : m ≤ d) (hdm : d ≤ maxLen) (hs : wf (a, n)) :
    Calls Try.prog 7 #[.slice A l c, .slice B m d, .agg #[.int .i64 a, .int .i64 n]] w fun e w' => e = .returned (.bool true) ∧ Fr No w w' := by
  have HX := hid hx
  have HY := hid hy
  have HWX := hid hwx
  have HWY := hid hwy
  have HLM := hid (Nat.le_trans hlc hcm)
  have HMM := hid (Nat.le_trans hmd hdm)
  have HS := hid hs
  have FW := hid (fr1 w (.cells #[.int .i64 a, .int .i64 n] 23))
  have AX := hid (Blk.new w 23 #[.int .i64 a, .int .i64 n])
  clear hx hy hwx hwy hcm hdm hs hlc hmd
  by_cases h1 : l ≤ 100 ∧ m ≤ 100
  · have HSM := hid (decide_eq_true h1)
    obtain ⟨h1, h2⟩ := h1
    have H1 := hid h1
    have H2 := hid h2
    clear h1 h2
    have a0 := AX.out.cell 0
    have a1 := AX.out.cell 1
    simp only [List.getElem?_toArray, List.getElem?_cons_zero, List.getElem?_cons_succ] at a0 a1
    by_cases hS : isSet xs = true
    · have HSS := hid hS
      have HRX := hid (isSet_ris hS)
      clear hS
      by_cases hT : isSet ys = true
      · have HST := hid hT
        have HRY := hid (isSet_ris hT)
        clear hT
        by_cases hM : may (a, n)
        · have HM := hid hM
          clear hM
          go_enter Try.func7, Try.ntmps7
          go_wp2_with fail
          refine (small_ok A l c B m d _ HLM.out HMM.out).mono ?_
          rintro e w1 ⟨rfl, rfl⟩
          rw [HSM.out]
          go_wp2_with fail
          refine (both_ok A B l c m d xs ys _ (by have := H1.out; omega) (by have := H2.out; omega) (HX.out.fr FW.out) (HY.out.fr FW.out) HRX.out HRY.out).mono ?_
          rintro e w6 ⟨A6, k6, c6, rfl, r6, f6⟩
          have R6 := hid r6
          have HK6 := hid (show k6 ≤ 200 by have h1 := r6.1; have h2 := (com_ok _ xs ys (Nat.le_refl _) HRX.out HRY.out).2.2; rw [com_rboth HRX.out HRY.out] at h2; have h3 := HX.out.1; have h4 := H1.out; have h5 := HY.out.1; have h6 := H2.out; omega)
          clear r6
          have FW := kf f6 FW
          have AX := kb f6 AX
          clear f6 a0 a1
          have a0 := AX.out.cell 0
          have a1 := AX.out.cell 1
          simp only [List.getElem?_toArray, List.getElem?_cons_zero, List.getElem?_cons_succ] at a0 a1
          go_wp2_with fail
          refine (gaps_ok A l c xs a n _ (by have := H1.out; omega) (HX.out.fr FW.out) HRX.out HM.out).mono ?_
          rintro e w6 ⟨A8, k8, c8, rfl, r8, f8⟩
          have R8 := hid r8
          have HK8 := hid (show k8 ≤ 101 by have h1 := r8.1; have h2 := pgaps_len xs (a, n); have h3 := HX.out.1; have h4 := H1.out; omega)
          clear r8
          have FW := kf f8 FW
          have AX := kb f8 AX
          have R6 := krs f8 R6
          clear f8 a0 a1
          have a0 := AX.out.cell 0
          have a1 := AX.out.cell 1
          simp only [List.getElem?_toArray, List.getElem?_cons_zero, List.getElem?_cons_succ] at a0 a1
          go_wp2_with fail
          refine (lives_ok _).mono ?_
          rintro e w6 ⟨rfl, f9⟩
          have FW := kf f9 FW
          have AX := kb f9 AX
          have R6 := krs f9 R6
          have R8 := krs f9 R8
          clear f9 a0 a1
          have a0 := AX.out.cell 0
          have a1 := AX.out.cell 1
          simp only [List.getElem?_toArray, List.getElem?_cons_zero, List.getElem?_cons_succ] at a0 a1
          go_wp2_with fail
          refine (rIsSet_ok A l c xs _ HLM.out (HX.out.fr FW.out) HWX.out).mono ?_
          rintro e w6 ⟨rfl, f10⟩
          rw [HSS.out]
          have FW := kf f10 FW
          have AX := kb f10 AX
          have R6 := krs f10 R6
          have R8 := krs f10 R8
          clear f10 a0 a1
          have a0 := AX.out.cell 0
          have a1 := AX.out.cell 1
          simp only [List.getElem?_toArray, List.getElem?_cons_zero, List.getElem?_cons_succ] at a0 a1
          go_wp2_with fail
          refine (rIsSet_ok B m d ys _ HMM.out (HY.out.fr FW.out) HWY.out).mono ?_
          rintro e w6 ⟨rfl, f11⟩
          rw [HST.out]
          have FW := kf f11 FW
          have AX := kb f11 AX
          have R6 := krs f11 R6
          have R8 := krs f11 R8
          clear f11 a0 a1
          have a0 := AX.out.cell 0
          have a1 := AX.out.cell 1
          simp only [List.getElem?_toArray, List.getElem?_cons_zero, List.getElem?_cons_succ] at a0 a1
          go_wp2_with fail
          refine (rBoth_ok A B l c m d xs ys _ (by have := H1.out; omega) (by have := H2.out; omega) (HX.out.fr FW.out) (HY.out.fr FW.out) (fun t ht => (HRX.out.2 t ht).1) (fun t ht => (HRY.out.2 t ht).1)).mono ?_
          rintro e w6 ⟨A11, k11, c11, rfl, r11, f12⟩
          have R11 := hid r11
          have HK11 := hid (show k11 = k6 by rw [← r11.1, ← R6.out.1])
          clear r11
          have FW := kf f12 FW
          have AX := kb f12 AX
          have R6 := krs f12 R6
          have R8 := krs f12 R8
          clear f12 a0 a1
          have a0 := AX.out.cell 0
          have a1 := AX.out.cell 1
          simp only [List.getElem?_toArray, List.getElem?_cons_zero, List.getElem?_cons_succ] at a0 a1
          go_wp2_with fail
          refine (same_ok A6 k6 c6 _ A11 k11 c11 _ _ (by have := HK6.out; simp only [maxLen]; omega) (by have h1 := HK6.out; have h2 := HK11.out; simp only [maxLen]; omega) R6.out R11.out).mono ?_
          rintro e w6 ⟨rfl, f13⟩
          rw [decide_eq_true rfl]
          have FW := kf f13 FW
          have AX := kb f13 AX
          have R6 := krs f13 R6
          have R8 := krs f13 R8
          clear f13 a0 a1
          have a0 := AX.out.cell 0
          have a1 := AX.out.cell 1
          simp only [List.getElem?_toArray, List.getElem?_cons_zero, List.getElem?_cons_succ] at a0 a1
          go_wp2_with fail
          refine (total_ok A6 k6 c6 _ _ (by have := HK6.out; omega) R6.out (rboth_ris HRX.out HRY.out)).mono ?_
          rintro e w6 ⟨rfl, f14⟩
          have FW := kf f14 FW
          have AX := kb f14 AX
          have R6 := krs f14 R6
          have R8 := krs f14 R8
          clear f14 a0 a1
          have a0 := AX.out.cell 0
          have a1 := AX.out.cell 1
          simp only [List.getElem?_toArray, List.getElem?_cons_zero, List.getElem?_cons_succ] at a0 a1
          go_wp2_with fail
          refine (total_ok A l c xs _ (by have := H1.out; omega) (HX.out.fr FW.out) HRX.out).mono ?_
          rintro e w6 ⟨rfl, f15⟩
          have htt := rboth_tot HRY.out xs (fun t ht => (HRX.out.2 t ht).1)
          have FW := kf f15 FW
          have AX := kb f15 AX
          have R6 := krs f15 R6
          have R8 := krs f15 R8
          clear f15 a0 a1
          have a0 := AX.out.cell 0
          have a1 := AX.out.cell 1
          simp only [List.getElem?_toArray, List.getElem?_cons_zero, List.getElem?_cons_succ] at a0 a1
          go_wp2_with fail
          refine (rIsSet_ok A l c xs _ HLM.out (HX.out.fr FW.out) HWX.out).mono ?_
          rintro e w6 ⟨rfl, f16⟩
          rw [HSS.out]
          have FW := kf f16 FW
          have AX := kb f16 AX
          have R6 := krs f16 R6
          have R8 := krs f16 R8
          clear f16 a0 a1
          have a0 := AX.out.cell 0
          have a1 := AX.out.cell 1
          simp only [List.getElem?_toArray, List.getElem?_cons_zero, List.getElem?_cons_succ] at a0 a1
          go_wp2_with fail
          refine (rmay_ok a n _ HS.out).mono ?_
          rintro e w6 ⟨rfl, f17⟩
          rw [decide_eq_true HM.out]
          have FW := kf f17 FW
          have AX := kb f17 AX
          have R6 := krs f17 R6
          have R8 := krs f17 R8
          clear f17 a0 a1
          have a0 := AX.out.cell 0
          have a1 := AX.out.cell 1
          simp only [List.getElem?_toArray, List.getElem?_cons_zero, List.getElem?_cons_succ] at a0 a1
          go_wp2_with fail
          refine (rGaps_ok A l c xs a n _ (by have := H1.out; omega) (HX.out.fr FW.out) HRX.out HM.out).mono ?_
          rintro e w6 ⟨A12, k12, c12, rfl, r12, f18⟩
          rw [← pgaps_rgaps HRX.out HM.out] at r12
          have R12 := hid r12
          have HK12 := hid (show k12 = k8 by rw [← r12.1, ← R8.out.1])
          clear r12
          have FW := kf f18 FW
          have AX := kb f18 AX
          have R8 := krs f18 R8
          clear f18 a0 a1
          have a0 := AX.out.cell 0
          have a1 := AX.out.cell 1
          simp only [List.getElem?_toArray, List.getElem?_cons_zero, List.getElem?_cons_succ] at a0 a1
          go_wp2_with fail
          refine (same_ok A8 k8 c8 _ A12 k12 c12 _ _ (by have := HK8.out; simp only [maxLen]; omega) (by have h1 := HK8.out; have h2 := HK12.out; simp only [maxLen]; omega) R8.out R12.out).mono ?_
          rintro e w6 ⟨rfl, f19⟩
          rw [decide_eq_true rfl]
          have FW := kf f19 FW
          have AX := kb f19 AX
          clear f19 a0 a1
          have a0 := AX.out.cell 0
          have a1 := AX.out.cell 1
          simp only [List.getElem?_toArray, List.getElem?_cons_zero, List.getElem?_cons_succ] at a0 a1
          go_wp2
          go_ret
          exact ⟨rfl, FW.out⟩
        · have HM := hid hM
          clear hM
          go_enter Try.func7, Try.ntmps7
          go_wp2_with fail
          refine (small_ok A l c B m d _ HLM.out HMM.out).mono ?_
          rintro e w1 ⟨rfl, rfl⟩
          rw [HSM.out]
          go_wp2_with fail
          refine (both_ok A B l c m d xs ys _ (by have := H1.out; omega) (by have := H2.out; omega) (HX.out.fr FW.out) (HY.out.fr FW.out) HRX.out HRY.out).mono ?_
          rintro e w6 ⟨A6, k6, c6, rfl, r6, f6⟩
          have R6 := hid r6
          have HK6 := hid (show k6 ≤ 200 by have h1 := r6.1; have h2 := (com_ok _ xs ys (Nat.le_refl _) HRX.out HRY.out).2.2; rw [com_rboth HRX.out HRY.out] at h2; have h3 := HX.out.1; have h4 := H1.out; have h5 := HY.out.1; have h6 := H2.out; omega)
          clear r6
          have FW := kf f6 FW
          have AX := kb f6 AX
          clear f6 a0 a1
          have a0 := AX.out.cell 0
          have a1 := AX.out.cell 1
          simp only [List.getElem?_toArray, List.getElem?_cons_zero, List.getElem?_cons_succ] at a0 a1
          go_wp2_with fail
          refine (gaps_bad A l c xs a n _ (by have := H1.out; omega) (HX.out.fr FW.out) HWX.out HS.out (fun h => by have h1 := h.1; have h2 := h.2; exact HM.out h2)).mono ?_
          rintro e w6 ⟨A8, k8, c8, rfl, r8, f8⟩
          have hk8 : k8 = 0 := r8.1.symm
          subst hk8
          clear r8
          have FW := kf f8 FW
          have AX := kb f8 AX
          have R6 := krs f8 R6
          clear f8 a0 a1
          have a0 := AX.out.cell 0
          have a1 := AX.out.cell 1
          simp only [List.getElem?_toArray, List.getElem?_cons_zero, List.getElem?_cons_succ] at a0 a1
          go_wp2_with fail
          refine (lives_ok _).mono ?_
          rintro e w6 ⟨rfl, f9⟩
          have FW := kf f9 FW
          have AX := kb f9 AX
          have R6 := krs f9 R6
          clear f9 a0 a1
          have a0 := AX.out.cell 0
          have a1 := AX.out.cell 1
          simp only [List.getElem?_toArray, List.getElem?_cons_zero, List.getElem?_cons_succ] at a0 a1
          go_wp2_with fail
          refine (rIsSet_ok A l c xs _ HLM.out (HX.out.fr FW.out) HWX.out).mono ?_
          rintro e w6 ⟨rfl, f10⟩
          rw [HSS.out]
          have FW := kf f10 FW
          have AX := kb f10 AX
          have R6 := krs f10 R6
          clear f10 a0 a1
          have a0 := AX.out.cell 0
          have a1 := AX.out.cell 1
          simp only [List.getElem?_toArray, List.getElem?_cons_zero, List.getElem?_cons_succ] at a0 a1
          go_wp2_with fail
          refine (rIsSet_ok B m d ys _ HMM.out (HY.out.fr FW.out) HWY.out).mono ?_
          rintro e w6 ⟨rfl, f11⟩
          rw [HST.out]
          have FW := kf f11 FW
          have AX := kb f11 AX
          have R6 := krs f11 R6
          clear f11 a0 a1
          have a0 := AX.out.cell 0
          have a1 := AX.out.cell 1
          simp only [List.getElem?_toArray, List.getElem?_cons_zero, List.getElem?_cons_succ] at a0 a1
          go_wp2_with fail
          refine (rBoth_ok A B l c m d xs ys _ (by have := H1.out; omega) (by have := H2.out; omega) (HX.out.fr FW.out) (HY.out.fr FW.out) (fun t ht => (HRX.out.2 t ht).1) (fun t ht => (HRY.out.2 t ht).1)).mono ?_
          rintro e w6 ⟨A11, k11, c11, rfl, r11, f12⟩
          have R11 := hid r11
          have HK11 := hid (show k11 = k6 by rw [← r11.1, ← R6.out.1])
          clear r11
          have FW := kf f12 FW
          have AX := kb f12 AX
          have R6 := krs f12 R6
          clear f12 a0 a1
          have a0 := AX.out.cell 0
          have a1 := AX.out.cell 1
          simp only [List.getElem?_toArray, List.getElem?_cons_zero, List.getElem?_cons_succ] at a0 a1
          go_wp2_with fail
          refine (same_ok A6 k6 c6 _ A11 k11 c11 _ _ (by have := HK6.out; simp only [maxLen]; omega) (by have h1 := HK6.out; have h2 := HK11.out; simp only [maxLen]; omega) R6.out R11.out).mono ?_
          rintro e w6 ⟨rfl, f13⟩
          rw [decide_eq_true rfl]
          have FW := kf f13 FW
          have AX := kb f13 AX
          have R6 := krs f13 R6
          clear f13 a0 a1
          have a0 := AX.out.cell 0
          have a1 := AX.out.cell 1
          simp only [List.getElem?_toArray, List.getElem?_cons_zero, List.getElem?_cons_succ] at a0 a1
          go_wp2_with fail
          refine (total_ok A6 k6 c6 _ _ (by have := HK6.out; omega) R6.out (rboth_ris HRX.out HRY.out)).mono ?_
          rintro e w6 ⟨rfl, f14⟩
          have FW := kf f14 FW
          have AX := kb f14 AX
          have R6 := krs f14 R6
          clear f14 a0 a1
          have a0 := AX.out.cell 0
          have a1 := AX.out.cell 1
          simp only [List.getElem?_toArray, List.getElem?_cons_zero, List.getElem?_cons_succ] at a0 a1
          go_wp2_with fail
          refine (total_ok A l c xs _ (by have := H1.out; omega) (HX.out.fr FW.out) HRX.out).mono ?_
          rintro e w6 ⟨rfl, f15⟩
          have htt := rboth_tot HRY.out xs (fun t ht => (HRX.out.2 t ht).1)
          have FW := kf f15 FW
          have AX := kb f15 AX
          have R6 := krs f15 R6
          clear f15 a0 a1
          have a0 := AX.out.cell 0
          have a1 := AX.out.cell 1
          simp only [List.getElem?_toArray, List.getElem?_cons_zero, List.getElem?_cons_succ] at a0 a1
          go_wp2_with fail
          refine (rIsSet_ok A l c xs _ HLM.out (HX.out.fr FW.out) HWX.out).mono ?_
          rintro e w6 ⟨rfl, f16⟩
          rw [HSS.out]
          have FW := kf f16 FW
          have AX := kb f16 AX
          have R6 := krs f16 R6
          clear f16 a0 a1
          have a0 := AX.out.cell 0
          have a1 := AX.out.cell 1
          simp only [List.getElem?_toArray, List.getElem?_cons_zero, List.getElem?_cons_succ] at a0 a1
          go_wp2_with fail
          refine (rmay_ok a n _ HS.out).mono ?_
          rintro e w6 ⟨rfl, f17⟩
          rw [decide_eq_false HM.out]
          have FW := kf f17 FW
          have AX := kb f17 AX
          have R6 := krs f17 R6
          clear f17 a0 a1
          have a0 := AX.out.cell 0
          have a1 := AX.out.cell 1
          simp only [List.getElem?_toArray, List.getElem?_cons_zero, List.getElem?_cons_succ] at a0 a1
          go_wp2
          go_ret
          exact ⟨rfl, FW.out⟩
      · have HST := hid (show isSet ys = false by simpa using hT)
        clear hT
        by_cases hM : may (a, n)
        · have HM := hid hM
          clear hM
          go_enter Try.func7, Try.ntmps7
          go_wp2_with fail
          refine (small_ok A l c B m d _ HLM.out HMM.out).mono ?_
          rintro e w1 ⟨rfl, rfl⟩
          rw [HSM.out]
          go_wp2_with fail
          refine (both_bad A B l c m d xs ys _ (by have := H1.out; omega) (by have := H2.out; omega) (HX.out.fr FW.out) (HY.out.fr FW.out) HWX.out HWY.out (fun h => by have h1 := h.1; have h2 := h.2; rw [HST.out] at h2; cases h2)).mono ?_
          rintro e w6 ⟨A6, k6, c6, rfl, r6, f6⟩
          have hk6 : k6 = 0 := r6.1.symm
          subst hk6
          clear r6
          have FW := kf f6 FW
          have AX := kb f6 AX
          clear f6 a0 a1
          have a0 := AX.out.cell 0
          have a1 := AX.out.cell 1
          simp only [List.getElem?_toArray, List.getElem?_cons_zero, List.getElem?_cons_succ] at a0 a1
          go_wp2_with fail
          refine (gaps_ok A l c xs a n _ (by have := H1.out; omega) (HX.out.fr FW.out) HRX.out HM.out).mono ?_
          rintro e w6 ⟨A8, k8, c8, rfl, r8, f8⟩
          have R8 := hid r8
          have HK8 := hid (show k8 ≤ 101 by have h1 := r8.1; have h2 := pgaps_len xs (a, n); have h3 := HX.out.1; have h4 := H1.out; omega)
          clear r8
          have FW := kf f8 FW
          have AX := kb f8 AX
          clear f8 a0 a1
          have a0 := AX.out.cell 0
          have a1 := AX.out.cell 1
          simp only [List.getElem?_toArray, List.getElem?_cons_zero, List.getElem?_cons_succ] at a0 a1
          go_wp2_with fail
          refine (lives_ok _).mono ?_
          rintro e w6 ⟨rfl, f9⟩
          have FW := kf f9 FW
          have AX := kb f9 AX
          have R8 := krs f9 R8
          clear f9 a0 a1
          have a0 := AX.out.cell 0
          have a1 := AX.out.cell 1
          simp only [List.getElem?_toArray, List.getElem?_cons_zero, List.getElem?_cons_succ] at a0 a1
          go_wp2_with fail
          refine (rIsSet_ok A l c xs _ HLM.out (HX.out.fr FW.out) HWX.out).mono ?_
          rintro e w6 ⟨rfl, f10⟩
          rw [HSS.out]
          have FW := kf f10 FW
          have AX := kb f10 AX
          have R8 := krs f10 R8
          clear f10 a0 a1
          have a0 := AX.out.cell 0
          have a1 := AX.out.cell 1
          simp only [List.getElem?_toArray, List.getElem?_cons_zero, List.getElem?_cons_succ] at a0 a1
          go_wp2_with fail
          refine (rIsSet_ok B m d ys _ HMM.out (HY.out.fr FW.out) HWY.out).mono ?_
          rintro e w6 ⟨rfl, f11⟩
          rw [HST.out]
          have FW := kf f11 FW
          have AX := kb f11 AX
          have R8 := krs f11 R8
          clear f11 a0 a1
          have a0 := AX.out.cell 0
          have a1 := AX.out.cell 1
          simp only [List.getElem?_toArray, List.getElem?_cons_zero, List.getElem?_cons_succ] at a0 a1
          go_wp2_with fail
          refine (rIsSet_ok A l c xs _ HLM.out (HX.out.fr FW.out) HWX.out).mono ?_
          rintro e w6 ⟨rfl, f16⟩
          rw [HSS.out]
          have FW := kf f16 FW
          have AX := kb f16 AX
          have R8 := krs f16 R8
          clear f16 a0 a1
          have a0 := AX.out.cell 0
          have a1 := AX.out.cell 1
          simp only [List.getElem?_toArray, List.getElem?_cons_zero, List.getElem?_cons_succ] at a0 a1
          go_wp2_with fail
          refine (rmay_ok a n _ HS.out).mono ?_
          rintro e w6 ⟨rfl, f17⟩
          rw [decide_eq_true HM.out]
          have FW := kf f17 FW
          have AX := kb f17 AX
          have R8 := krs f17 R8
          clear f17 a0 a1
          have a0 := AX.out.cell 0
          have a1 := AX.out.cell 1
          simp only [List.getElem?_toArray, List.getElem?_cons_zero, List.getElem?_cons_succ] at a0 a1
          go_wp2_with fail
          refine (rGaps_ok A l c xs a n _ (by have := H1.out; omega) (HX.out.fr FW.out) HRX.out HM.out).mono ?_
          rintro e w6 ⟨A12, k12, c12, rfl, r12, f18⟩
          rw [← pgaps_rgaps HRX.out HM.out] at r12
          have R12 := hid r12
          have HK12 := hid (show k12 = k8 by rw [← r12.1, ← R8.out.1])
          clear r12
          have FW := kf f18 FW
          have AX := kb f18 AX
          have R8 := krs f18 R8
          clear f18 a0 a1
          have a0 := AX.out.cell 0
          have a1 := AX.out.cell 1
          simp only [List.getElem?_toArray, List.getElem?_cons_zero, List.getElem?_cons_succ] at a0 a1
          go_wp2_with fail
          refine (same_ok A8 k8 c8 _ A12 k12 c12 _ _ (by have := HK8.out; simp only [maxLen]; omega) (by have h1 := HK8.out; have h2 := HK12.out; simp only [maxLen]; omega) R8.out R12.out).mono ?_
          rintro e w6 ⟨rfl, f19⟩
          rw [decide_eq_true rfl]
          have FW := kf f19 FW
          have AX := kb f19 AX
          clear f19 a0 a1
          have a0 := AX.out.cell 0
          have a1 := AX.out.cell 1
          simp only [List.getElem?_toArray, List.getElem?_cons_zero, List.getElem?_cons_succ] at a0 a1
          go_wp2
          go_ret
          exact ⟨rfl, FW.out⟩
        · have HM := hid hM
          clear hM
          go_enter Try.func7, Try.ntmps7
          go_wp2_with fail
          refine (small_ok A l c B m d _ HLM.out HMM.out).mono ?_
          rintro e w1 ⟨rfl, rfl⟩
          rw [HSM.out]
          go_wp2_with fail
          refine (both_bad A B l c m d xs ys _ (by have := H1.out; omega) (by have := H2.out; omega) (HX.out.fr FW.out) (HY.out.fr FW.out) HWX.out HWY.out (fun h => by have h1 := h.1; have h2 := h.2; rw [HST.out] at h2; cases h2)).mono ?_
          rintro e w6 ⟨A6, k6, c6, rfl, r6, f6⟩
          have hk6 : k6 = 0 := r6.1.symm
          subst hk6
          clear r6
          have FW := kf f6 FW
          have AX := kb f6 AX
          clear f6 a0 a1
          have a0 := AX.out.cell 0
          have a1 := AX.out.cell 1
          simp only [List.getElem?_toArray, List.getElem?_cons_zero, List.getElem?_cons_succ] at a0 a1
          go_wp2_with fail
          refine (gaps_bad A l c xs a n _ (by have := H1.out; omega) (HX.out.fr FW.out) HWX.out HS.out (fun h => by have h1 := h.1; have h2 := h.2; exact HM.out h2)).mono ?_
          rintro e w6 ⟨A8, k8, c8, rfl, r8, f8⟩
          have hk8 : k8 = 0 := r8.1.symm
          subst hk8
          clear r8
          have FW := kf f8 FW
          have AX := kb f8 AX
          clear f8 a0 a1
          have a0 := AX.out.cell 0
          have a1 := AX.out.cell 1
          simp only [List.getElem?_toArray, List.getElem?_cons_zero, List.getElem?_cons_succ] at a0 a1
          go_wp2_with fail
          refine (lives_ok _).mono ?_
          rintro e w6 ⟨rfl, f9⟩
          have FW := kf f9 FW
          have AX := kb f9 AX
          clear f9 a0 a1
          have a0 := AX.out.cell 0
          have a1 := AX.out.cell 1
          simp only [List.getElem?_toArray, List.getElem?_cons_zero, List.getElem?_cons_succ] at a0 a1
          go_wp2_with fail
          refine (rIsSet_ok A l c xs _ HLM.out (HX.out.fr FW.out) HWX.out).mono ?_
          rintro e w6 ⟨rfl, f10⟩
          rw [HSS.out]
          have FW := kf f10 FW
          have AX := kb f10 AX
          clear f10 a0 a1
          have a0 := AX.out.cell 0
          have a1 := AX.out.cell 1
          simp only [List.getElem?_toArray, List.getElem?_cons_zero, List.getElem?_cons_succ] at a0 a1
          go_wp2_with fail
          refine (rIsSet_ok B m d ys _ HMM.out (HY.out.fr FW.out) HWY.out).mono ?_
          rintro e w6 ⟨rfl, f11⟩
          rw [HST.out]
          have FW := kf f11 FW
          have AX := kb f11 AX
          clear f11 a0 a1
          have a0 := AX.out.cell 0
          have a1 := AX.out.cell 1
          simp only [List.getElem?_toArray, List.getElem?_cons_zero, List.getElem?_cons_succ] at a0 a1
          go_wp2_with fail
          refine (rIsSet_ok A l c xs _ HLM.out (HX.out.fr FW.out) HWX.out).mono ?_
          rintro e w6 ⟨rfl, f16⟩
          rw [HSS.out]
          have FW := kf f16 FW
          have AX := kb f16 AX
          clear f16 a0 a1
          have a0 := AX.out.cell 0
          have a1 := AX.out.cell 1
          simp only [List.getElem?_toArray, List.getElem?_cons_zero, List.getElem?_cons_succ] at a0 a1
          go_wp2_with fail
          refine (rmay_ok a n _ HS.out).mono ?_
          rintro e w6 ⟨rfl, f17⟩
          rw [decide_eq_false HM.out]
          have FW := kf f17 FW
          have AX := kb f17 AX
          clear f17 a0 a1
          have a0 := AX.out.cell 0
          have a1 := AX.out.cell 1
          simp only [List.getElem?_toArray, List.getElem?_cons_zero, List.getElem?_cons_succ] at a0 a1
          go_wp2
          go_ret
          exact ⟨rfl, FW.out⟩
    · have HSS := hid (show isSet xs = false by simpa using hS)
      clear hS
      go_enter Try.func7, Try.ntmps7
      go_wp2_with fail
      refine (small_ok A l c B m d _ HLM.out HMM.out).mono ?_
      rintro e w1 ⟨rfl, rfl⟩
      rw [HSM.out]
      go_wp2_with fail
      refine (both_bad A B l c m d xs ys _ (by have := H1.out; omega) (by have := H2.out; omega) (HX.out.fr FW.out) (HY.out.fr FW.out) HWX.out HWY.out (fun h => by have h1 := h.1; have h2 := h.2; rw [HSS.out] at h1; cases h1)).mono ?_
      rintro e w6 ⟨A6, k6, c6, rfl, r6, f6⟩
      have hk6 : k6 = 0 := r6.1.symm
      subst hk6
      clear r6
      have FW := kf f6 FW
      have AX := kb f6 AX
      clear f6 a0 a1
      have a0 := AX.out.cell 0
      have a1 := AX.out.cell 1
      simp only [List.getElem?_toArray, List.getElem?_cons_zero, List.getElem?_cons_succ] at a0 a1
      go_wp2_with fail
      refine (gaps_bad A l c xs a n _ (by have := H1.out; omega) (HX.out.fr FW.out) HWX.out HS.out (fun h => by have h1 := h.1; have h2 := h.2; rw [HSS.out] at h1; cases h1)).mono ?_
      rintro e w6 ⟨A8, k8, c8, rfl, r8, f8⟩
      have hk8 : k8 = 0 := r8.1.symm
      subst hk8
      clear r8
      have FW := kf f8 FW
      have AX := kb f8 AX
      clear f8 a0 a1
      have a0 := AX.out.cell 0
      have a1 := AX.out.cell 1
      simp only [List.getElem?_toArray, List.getElem?_cons_zero, List.getElem?_cons_succ] at a0 a1
      go_wp2_with fail
      refine (lives_ok _).mono ?_
      rintro e w6 ⟨rfl, f9⟩
      have FW := kf f9 FW
      have AX := kb f9 AX
      clear f9 a0 a1
      have a0 := AX.out.cell 0
      have a1 := AX.out.cell 1
      simp only [List.getElem?_toArray, List.getElem?_cons_zero, List.getElem?_cons_succ] at a0 a1
      go_wp2_with fail
      refine (rIsSet_ok A l c xs _ HLM.out (HX.out.fr FW.out) HWX.out).mono ?_
      rintro e w6 ⟨rfl, f10⟩
      rw [HSS.out]
      have FW := kf f10 FW
      have AX := kb f10 AX
      clear f10 a0 a1
      have a0 := AX.out.cell 0
      have a1 := AX.out.cell 1
      simp only [List.getElem?_toArray, List.getElem?_cons_zero, List.getElem?_cons_succ] at a0 a1
      go_wp2_with fail
      refine (rIsSet_ok A l c xs _ HLM.out (HX.out.fr FW.out) HWX.out).mono ?_
      rintro e w6 ⟨rfl, f16⟩
      rw [HSS.out]
      have FW := kf f16 FW
      have AX := kb f16 AX
      clear f16 a0 a1
      have a0 := AX.out.cell 0
      have a1 := AX.out.cell 1
      simp only [List.getElem?_toArray, List.getElem?_cons_zero, List.getElem?_cons_succ] at a0 a1
      go_wp2
      go_ret
      exact ⟨rfl, FW.out⟩
  · have HSM := hid (decide_eq_false h1)
    clear h1
    go_enter Try.func7, Try.ntmps7
    go_wp2_with fail
    refine (small_ok A l c B m d _ HLM.out HMM.out).mono ?_
    rintro e w1 ⟨rfl, rfl⟩
    rw [HSM.out]
    go_wp2_with fail
    refine (lives_ok _).mono ?_
    rintro e w2 ⟨rfl, f2⟩
    have FW := kf f2 FW
    clear f2
    go_wp2
    go_ret
    exact ⟨rfl, FW.out⟩
end Go.Proofs.Ythldppgbopiaiaa.SpBoth
