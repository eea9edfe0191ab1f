/- The law of Add and Drop, walked: a set with a span, and without it. Condition: the slice reads as a list of spans of 64 bits. -/
import Derived.Test.YthldppgbopiaiaaSpRA
import Derived.Test.YthldppgbopiaiaaSpP
import Derived.Test.YthldppgbopiaiaaSpGr
namespace Go.Proofs.Ythldppgbopiaiaa.SpChanges
open Go.RowKit MSep MSepC MSpM SpA SpB SpD SpO SpE SpF SpG SpGr SpH SpI SpL SpRA SpP

set_option maxRecDepth 100000 in
set_option maxHeartbeats 4000000 in
theorem add_bad (A : Option Addr) (l c : Nat) (xs : List Sp) (a n : Int) (w : World) (hl : l ≤ 2000) (hx : RdS w A l xs) (hw : ∀ s ∈ xs, wf s) (hs : wf (a, n)) (hn : ¬ (isSet xs = true ∧ may (a, n))) : Calls Try.prog 27 #[.slice A l c, .agg #[.int .i64 a, .int .i64 n]] w fun e w' =>
    RetP w w' e [] 30 := by
  have HI := hid (isSet_ok A l c xs (w.alloc (.cells #[.int .i64 a, .int .i64 n] 23)) (by simp only [maxLen]; omega) (hx.fr (fr1 w _)) hw)
  have HS := hid hs
  have FW := hid (fr1 w (.cells #[.int .i64 a, .int .i64 n] 23))
  have BX := hid (Blk.new w 23 #[.int .i64 a, .int .i64 n])
  clear hx hs hw
  by_cases hset : isSet xs = true
  · have HSET := hid hset
    have HM := hid (show ¬ may (a, n) from fun h => hn ⟨hset, h⟩)
    clear hset hn
    go_enter Try.func27, Try.ntmps27
    go_wp2_with fail
    refine HI.out.mono ?_
    rintro e w1 ⟨rfl, f1⟩
    rw [HSET.out]
    have FW := kf f1 FW
    have BX := kb f1 BX
    have c0 := BX.out.cell 0
    have c1 := BX.out.cell 1
    simp only [List.getElem?_toArray, List.getElem?_cons_zero, List.getElem?_cons_succ] at c0 c1
    clear f1 HI
    go_wp2_with fail
    refine (may_ok a n _ HS.out).mono ?_
    rintro e w2 ⟨rfl, f2⟩
    rw [decide_eq_false HM.out]
    have FW := kf f2 FW
    clear f2 c0 c1
    go_wp2
    go_ret2
    exact .mk (RdS.nil _ _) FW.out
  · have HSET := hid (show isSet xs = false by simpa using hset)
    clear hset hn
    go_enter Try.func27, Try.ntmps27
    go_wp2_with fail
    refine HI.out.mono ?_
    rintro e w1 ⟨rfl, f1⟩
    rw [HSET.out]
    have FW := kf f1 FW
    clear f1 HI
    go_wp2
    go_ret2
    exact .mk (RdS.nil _ _) FW.out
theorem krs {b c : World} {A : Option Addr} {n : Nat} {l : List Sp} (k : Fr No b c) (h : Hid (RdS b A n l)) : Hid (RdS c A n l) := hid (h.out.fr k)
theorem lit0 (w : World) (B : Nat) (hB : B ≤ w.heap.size) : Out B (w.alloc (.cells #[] 23)) (.slice (some ⟨w.heap.size, 0, none⟩) 0 0) [] :=
  World.ownsRow_lit (base := B) (e := 23) (size := 2) w #[] 0 hB (by simp [maxLen]) rfl
theorem lit1 (w : World) (A : Obj) : Out (w.heap.size + 1) ((w.alloc A).alloc (.cells #[] 23)) (.slice (some ⟨w.heap.size + 1, 0, none⟩) 0 0) [] := by
  have h := lit0 (w.alloc A) (w.heap.size + 1) (by simp)
  simpa using h

set_option maxRecDepth 100000 in
set_option maxHeartbeats 8000000 in
theorem walk_ (A : Option Addr) (l c : Nat) (xs : List Sp) (a n : Int) (w : World) (hx : RdS w A l xs) (hw : ∀ s ∈ xs, wf s) (hlc : l ≤ c) (hcm : c ≤ maxLen) (hs : wf (a, n)) : Calls Try.prog 6 #[.slice A l c, .agg #[.int .i64 a, .int .i64 n]] w fun e w' => e = .returned (.bool true) ∧ Fr No w w' := by
  have HX := hid hx
  have HW := hid hw
  have HCM := hid hcm
  have HS := hid hs
  have FW := hid (fr1 w (.cells #[.int .i64 a, .int .i64 n] 23))
  have AX := hid (Blk.new w 23 #[.int .i64 a, .int .i64 n])
  clear hx hw hcm hs
  by_cases h1 : l ≤ 100
  · have H1 := hid h1
    have HSM := hid (decide_eq_true (p := l ≤ 100 ∧ 0 ≤ 100) ⟨h1, by omega⟩)
    clear h1
    go_enter Try.func6, Try.ntmps6
    go_wp2_with fail
    refine (small_ok A l c none 0 0 _ (Nat.le_trans hlc HCM.out) (by simp [maxLen])).mono ?_
    rintro e w1 ⟨rfl, rfl⟩
    rw [HSM.out]
    go_wp2_with (at_builtin; refine own_sp rfl (.tmp 16) (.tmp 17) rfl (w.heap.size + 1) (w.heap.size + 1) rfl (lit1 w _) _ l _ xs rfl (HX.out.fr (fr2 w _ _)) (by have := H1.out; omega) (by simp) ?_)
    intro g5 c5 w5 hg5 hB5 hlc5 hcm5 r5 f5
    have FW := hid ((fr2 w (.cells #[.int .i64 a, .int .i64 n] 23) (.cells #[] 23)).step f5 (fun i hi he => absurd hi (by omega)))
    have AX := hid ((AX.out.alloc (.cells #[] 23)).fr f5 (fun he => by omega))
    have HG5 := hid hg5
    have HLC5 := hid hlc5
    have HCM5 := hid hcm5
    have R5 := hid r5
    have a0 := AX.out.cell 0
    have a1 := AX.out.cell 1
    simp only [List.getElem?_toArray, List.getElem?_cons_zero, List.getElem?_cons_succ] at a0 a1
    clear hg5 hB5 hlc5 hcm5 r5 f5
    by_cases hgood : isSet xs = true ∧ may (a, n)
    · have HSET := hid hgood.1
      have HM := hid hgood.2
      have HR := hid (of_decide_eq_true (p := xs.length ≤ 4096 ∧ Ris xs) hgood.1).2
      clear hgood
      go_wp2_with fail
      refine (add_ok g5 0 l c5 xs a n _ (by have := H1.out; omega) HLC5.out HCM5.out HG5.out R5.out HR.out HM.out).mono ?_
      rintro e w6 ⟨A6, k6, c6, rfl, r6, f6⟩
      have R6 := hid r6
      have HP := hid (padd_ok HR.out HM.out)
      have HK6 := hid (show k6 ≤ 101 by have h1 := r6.1; have h2 := HP.out.2.2; have h3 := HX.out.1; have h4 := H1.out; omega)
      clear r6
      have FW := kf f6 FW
      have AX := kb f6 AX
      have R5 := krs f6 R5
      clear f6 a0 a1
      have a0 := AX.out.cell 0
      have a1 := AX.out.cell 1
      simp only [List.getElem?_toArray, List.getElem?_cons_zero, List.getElem?_cons_succ] at a0 a1
      go_wp2_with fail
      refine (drop_ok _ l c5 xs a n _ (by have := H1.out; omega) R5.out HR.out HM.out).mono ?_
      rintro e w6 ⟨A8, k8, c8, rfl, r8, f8⟩
      have R8 := hid r8
      have HK8 := hid (show k8 ≤ 200 by have h1 := r8.1; have h2 := drop_len xs (a, n); have h3 := HX.out.1; have h4 := H1.out; omega)
      clear r8
      have FW := kf f8 FW
      have AX := kb f8 AX
      have R5 := krs f8 R5
      have R6 := krs f8 R6
      clear f8 a0 a1
      have a0 := AX.out.cell 0
      have a1 := AX.out.cell 1
      simp only [List.getElem?_toArray, List.getElem?_cons_zero, List.getElem?_cons_succ] at a0 a1
      go_wp2_with fail
      refine (lives_ok _).mono ?_
      rintro e w6 ⟨rfl, f9⟩
      have FW := kf f9 FW
      have AX := kb f9 AX
      have R5 := krs f9 R5
      have R6 := krs f9 R6
      have R8 := krs f9 R8
      clear f9 a0 a1
      have a0 := AX.out.cell 0
      have a1 := AX.out.cell 1
      simp only [List.getElem?_toArray, List.getElem?_cons_zero, List.getElem?_cons_succ] at a0 a1
      go_wp2_with fail
      refine (same_ok _ l c5 xs A l c xs _ (by have := H1.out; simp only [maxLen]; omega) (by have := H1.out; simp only [maxLen]; omega) R5.out (HX.out.fr FW.out)).mono ?_
      rintro e w6 ⟨rfl, f10⟩
      rw [decide_eq_true rfl]
      have FW := kf f10 FW
      have AX := kb f10 AX
      have R5 := krs f10 R5
      have R6 := krs f10 R6
      have R8 := krs f10 R8
      clear f10 a0 a1
      have a0 := AX.out.cell 0
      have a1 := AX.out.cell 1
      simp only [List.getElem?_toArray, List.getElem?_cons_zero, List.getElem?_cons_succ] at a0 a1
      go_wp2_with fail
      refine (rIsSet_ok A l c xs _ (Nat.le_trans hlc HCM.out) (HX.out.fr FW.out) HW.out).mono ?_
      rintro e w6 ⟨rfl, f11⟩
      rw [HSET.out]
      have FW := kf f11 FW
      have AX := kb f11 AX
      have R6 := krs f11 R6
      have R8 := krs f11 R8
      clear f11 a0 a1
      have a0 := AX.out.cell 0
      have a1 := AX.out.cell 1
      simp only [List.getElem?_toArray, List.getElem?_cons_zero, List.getElem?_cons_succ] at a0 a1
      go_wp2_with fail
      refine (rmay_ok a n _ HS.out).mono ?_
      rintro e w6 ⟨rfl, f12⟩
      rw [decide_eq_true HM.out]
      have FW := kf f12 FW
      have AX := kb f12 AX
      have R6 := krs f12 R6
      have R8 := krs f12 R8
      clear f12 a0 a1
      have a0 := AX.out.cell 0
      have a1 := AX.out.cell 1
      simp only [List.getElem?_toArray, List.getElem?_cons_zero, List.getElem?_cons_succ] at a0 a1
      go_wp2_with fail
      refine (drop_ok A6 k6 c6 _ a n _ (by have := HK6.out; omega) R6.out HP.out.1 HM.out).mono ?_
      rintro e w6 ⟨A10, k10, c10, rfl, r10, f13⟩
      have R10 := hid r10
      have HK10 := hid (show k10 ≤ 300 by have h1 := r10.1; have h2 := drop_len (padd xs (a, n)) (a, n); have h3 := R6.out.1; have h4 := HK6.out; omega)
      clear r10
      have FW := kf f13 FW
      have AX := kb f13 AX
      have R6 := krs f13 R6
      have R8 := krs f13 R8
      clear f13 a0 a1
      have a0 := AX.out.cell 0
      have a1 := AX.out.cell 1
      simp only [List.getElem?_toArray, List.getElem?_cons_zero, List.getElem?_cons_succ] at a0 a1
      go_wp2_with fail
      refine (rAdd_ok A l c xs a n _ (by have := H1.out; omega) (HX.out.fr FW.out) (fun s hs => (HR.out.2 s hs).1) HM.out).mono ?_
      rintro e w6 ⟨A11, k11, c11, rfl, r11, f14⟩
      rw [← padd_radd HR.out HM.out] at r11
      have R11 := hid r11
      have HK11 := hid (show k11 = k6 by rw [← r11.1, ← R6.out.1])
      clear r11
      have FW := kf f14 FW
      have AX := kb f14 AX
      have R6 := krs f14 R6
      have R8 := krs f14 R8
      have R10 := krs f14 R10
      clear f14 a0 a1
      have a0 := AX.out.cell 0
      have a1 := AX.out.cell 1
      simp only [List.getElem?_toArray, List.getElem?_cons_zero, List.getElem?_cons_succ] at a0 a1
      go_wp2_with fail
      refine (same_ok A6 k6 c6 _ A11 k11 c11 _ _ (by have := HK6.out; simp only [maxLen]; omega) (by have h1 := HK6.out; have h2 := HK11.out; simp only [maxLen]; omega) R6.out R11.out).mono ?_
      rintro e w6 ⟨rfl, f15⟩
      rw [decide_eq_true rfl]
      have FW := kf f15 FW
      have AX := kb f15 AX
      have R6 := krs f15 R6
      have R8 := krs f15 R8
      have R10 := krs f15 R10
      clear f15 a0 a1
      have a0 := AX.out.cell 0
      have a1 := AX.out.cell 1
      simp only [List.getElem?_toArray, List.getElem?_cons_zero, List.getElem?_cons_succ] at a0 a1
      go_wp2_with fail
      refine (rDrop_ok A l c xs a n _ (by have := H1.out; omega) (HX.out.fr FW.out) (fun s hs => (HR.out.2 s hs).1) HM.out).mono ?_
      rintro e w6 ⟨A12, k12, c12, rfl, r12, f16⟩
      have R12 := hid r12
      have HK12 := hid (show k12 = k8 by rw [← r12.1, ← R8.out.1])
      clear r12
      have FW := kf f16 FW
      have AX := kb f16 AX
      have R8 := krs f16 R8
      have R10 := krs f16 R10
      clear f16 a0 a1
      have a0 := AX.out.cell 0
      have a1 := AX.out.cell 1
      simp only [List.getElem?_toArray, List.getElem?_cons_zero, List.getElem?_cons_succ] at a0 a1
      go_wp2_with fail
      refine (same_ok A8 k8 c8 _ A12 k12 c12 _ _ (by have := HK8.out; simp only [maxLen]; omega) (by have h1 := HK8.out; have h2 := HK12.out; simp only [maxLen]; omega) R8.out R12.out).mono ?_
      rintro e w6 ⟨rfl, f17⟩
      rw [decide_eq_true rfl]
      have FW := kf f17 FW
      have AX := kb f17 AX
      have R8 := krs f17 R8
      have R10 := krs f17 R10
      clear f17 a0 a1
      have a0 := AX.out.cell 0
      have a1 := AX.out.cell 1
      simp only [List.getElem?_toArray, List.getElem?_cons_zero, List.getElem?_cons_succ] at a0 a1
      go_wp2_with fail
      refine (same_ok A10 k10 c10 _ A8 k8 c8 _ _ (by have := HK10.out; simp only [maxLen]; omega) (by have := HK8.out; simp only [maxLen]; omega) R10.out R8.out).mono ?_
      rintro e w6 ⟨rfl, f18⟩
      rw [decide_eq_true (show drop (padd xs (a, n)) (a, n) = drop xs (a, n) by rw [padd_radd HR.out HM.out]; exact drop_radd HR.out HM.out)]
      have FW := kf f18 FW
      have AX := kb f18 AX
      clear f18 a0 a1
      have a0 := AX.out.cell 0
      have a1 := AX.out.cell 1
      simp only [List.getElem?_toArray, List.getElem?_cons_zero, List.getElem?_cons_succ] at a0 a1
      go_wp2
      go_ret
      exact ⟨rfl, FW.out⟩
    · have HBAD := hid hgood
      clear hgood
      go_wp2_with fail
      refine (add_bad _ l c5 xs a n _ (by have := H1.out; omega) R5.out HW.out HS.out HBAD.out).mono ?_
      rintro e w6 ⟨A6, k6, c6, rfl, r6, f6⟩
      have hk6 : k6 = 0 := r6.1.symm
      subst hk6
      clear r6
      have FW := kf f6 FW
      have AX := kb f6 AX
      have R5 := krs f6 R5
      clear f6 a0 a1
      have a0 := AX.out.cell 0
      have a1 := AX.out.cell 1
      simp only [List.getElem?_toArray, List.getElem?_cons_zero, List.getElem?_cons_succ] at a0 a1
      go_wp2_with fail
      refine (drop_bad _ l c5 xs a n _ (by have := H1.out; omega) R5.out HW.out HS.out HBAD.out).mono ?_
      rintro e w6 ⟨A8, k8, c8, rfl, r8, f8⟩
      have hk8 : k8 = 0 := r8.1.symm
      subst hk8
      clear r8
      have FW := kf f8 FW
      have AX := kb f8 AX
      have R5 := krs f8 R5
      clear f8 a0 a1
      have a0 := AX.out.cell 0
      have a1 := AX.out.cell 1
      simp only [List.getElem?_toArray, List.getElem?_cons_zero, List.getElem?_cons_succ] at a0 a1
      go_wp2_with fail
      refine (lives_ok _).mono ?_
      rintro e w6 ⟨rfl, f9⟩
      have FW := kf f9 FW
      have AX := kb f9 AX
      have R5 := krs f9 R5
      clear f9 a0 a1
      have a0 := AX.out.cell 0
      have a1 := AX.out.cell 1
      simp only [List.getElem?_toArray, List.getElem?_cons_zero, List.getElem?_cons_succ] at a0 a1
      go_wp2_with fail
      refine (same_ok _ l c5 xs A l c xs _ (by have := H1.out; simp only [maxLen]; omega) (by have := H1.out; simp only [maxLen]; omega) R5.out (HX.out.fr FW.out)).mono ?_
      rintro e w6 ⟨rfl, f10⟩
      rw [decide_eq_true rfl]
      have FW := kf f10 FW
      have AX := kb f10 AX
      have R5 := krs f10 R5
      clear f10 a0 a1
      have a0 := AX.out.cell 0
      have a1 := AX.out.cell 1
      simp only [List.getElem?_toArray, List.getElem?_cons_zero, List.getElem?_cons_succ] at a0 a1
      go_wp2_with fail
      refine (rIsSet_ok A l c xs _ (Nat.le_trans hlc HCM.out) (HX.out.fr FW.out) HW.out).mono ?_
      rintro e w6 ⟨rfl, f11⟩
      have FW := kf f11 FW
      have AX := kb f11 AX
      clear f11 a0 a1
      have a0 := AX.out.cell 0
      have a1 := AX.out.cell 1
      simp only [List.getElem?_toArray, List.getElem?_cons_zero, List.getElem?_cons_succ] at a0 a1
      by_cases hset : isSet xs = true
      · have HM := hid (show ¬ may (a, n) from fun h => HBAD.out ⟨hset, h⟩)
        rw [hset]
        clear hset
        go_wp2_with fail
        refine (rmay_ok a n _ HS.out).mono ?_
        rintro e w7 ⟨rfl, f12⟩
        rw [decide_eq_false HM.out]
        have FW := kf f12 FW
        clear f12
        go_wp2
        go_ret
        exact ⟨rfl, FW.out⟩
      · have HSET := hid (show isSet xs = false by simpa using hset)
        rw [HSET.out]
        clear hset
        go_wp2
        go_ret
        exact ⟨rfl, FW.out⟩
  · have HSM := hid (decide_eq_false (p := l ≤ 100 ∧ 0 ≤ 100) (fun h => h1 h.1))
    clear h1
    go_enter Try.func6, Try.ntmps6
    go_wp2_with fail
    refine (small_ok A l c none 0 0 _ (Nat.le_trans hlc HCM.out) (by simp [maxLen])).mono ?_
    rintro e w1 ⟨rfl, rfl⟩
    rw [HSM.out]
    go_wp2_with fail
    refine (lives_ok _).mono ?_
    rintro e w2 ⟨rfl, f2⟩
    have FW := kf f2 FW
    clear f2
    go_wp2
    go_ret
    exact ⟨rfl, FW.out⟩
end Go.Proofs.Ythldppgbopiaiaa.SpChanges
