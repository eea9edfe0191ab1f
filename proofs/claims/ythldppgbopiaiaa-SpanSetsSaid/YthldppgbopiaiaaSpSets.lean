/- The law of Set, walked. Condition: the slice reads as a list of spans of 64 bits. -/
import Derived.Test.YthldppgbopiaiaaSpSt
import Derived.Test.YthldppgbopiaiaaSpGr
import Derived.Deep.DeepCutAuto
namespace Go.Proofs.Ythldppgbopiaiaa.SpSets
open Go.RowKit MSep MSepC MSpM MSpW SpA SpB SpC SpD SpO SpE SpF SpG SpGr SpH SpP SpSo SpSt

/-- What the law's loop and its end take of the set that was made, in whatever world. -/
theorem isSet_rset {xs : List Sp} (hl : xs.length ≤ 4096) (hm : ∀ s ∈ xs, may s) : isSet (rset xs) = true :=
  decide_eq_true ⟨by have := (rset_ok hm).2.2; omega, (rset_ok hm).1⟩

set_option maxRecDepth 100000 in
set_option maxHeartbeats 4000000 in
theorem walk_ (A : Option Addr) (l c : Nat) (xs : List Sp) (w : World) (hx : RdS w A l xs) (hw : ∀ s ∈ xs, wf s) (hlc : l ≤ c) (hcm : c ≤ maxLen) : Calls Try.prog 5 #[.slice A l c] w fun e w' => e = .returned (.bool true) ∧ Fr No w w' := by
  have HX := hid hx
  have HW := hid hw
  have HCM := hid hcm
  clear hx hw hcm
  by_cases h1 : l ≤ 100
  · have HSM := hid (decide_eq_true (p := l ≤ 100 ∧ 0 ≤ 100) ⟨h1, by omega⟩)
    have H1 := hid h1
    have O0 := hid (World.ownsRow_lit (base := w.heap.size) (e := 23) (size := 2) w #[] 0 (Nat.le_refl _) (by simp [maxLen]) rfl)
    have hl1 : (l : Int) ≤ 100 := by omega
    clear h1
    go_enter Try.func5, Try.ntmps5
    go_wp2_with fail
    refine (small_ok A l c none 0 0 _ (Nat.le_trans hlc HCM.out) (by simp [maxLen])).mono ?_
    rintro e w1 ⟨rfl, rfl⟩
    rw [HSM.out]
    have HX1 := hid (HX.out.fr (fr1 w (.cells #[] 23)))
    go_wp2_with (at_builtin; refine app_sp rfl (.tmp 11) (.tmp 12) rfl w.heap.size _ [] rfl O0.out _ l _ xs rfl HX1.out (by have := H1.out; simp; omega) (by simp) ?_)
    intro A1 c1 w1 o1 f1
    have FW := hid (fr_own (fr1 w (.cells #[] 23)) (show Out w.heap.size _ _ [] from O0.out) (Nat.le_refl _) f1)
    have R1 := hid (show RdS w1 A1 l xs from o1.rd)
    clear o1 f1 O0
    by_cases hm : ∀ s ∈ xs, may s
    · have HM := hid hm
      have HI := hid (isSet_rset (by have := HX.out.1; have := H1.out; omega) hm)
      clear hm
      go_wp2_with fail
      refine (set_good A1 l c1 xs _ (by have := H1.out; omega) R1.out HM.out).mono ?_
      rintro e w2 ⟨A2, k2, c2, rfl, r2, f2⟩
      have FW := kf f2 FW
      have R1 := hid (R1.out.fr f2)
      have R2 := hid r2
      have HK2 := hid (show k2 ≤ 4096 by have h := r2.1; have h3 := (rset_ok HM.out).2.2; have h4 := HX.out.1; have h5 := H1.out; omega)
      clear r2 f2
      go_wp2_with fail
      refine (lives_ok _).mono ?_
      rintro e w3 ⟨rfl, f3⟩
      have FW := kf f3 FW
      have R1 := hid (R1.out.fr f3)
      have R2 := hid (R2.out.fr f3)
      clear f3
      go_wp2_with fail
      refine (isSet_ok A l c xs _ (Nat.le_trans hlc HCM.out) (HX.out.fr FW.out) HW.out).mono ?_
      rintro e w4 ⟨rfl, f4⟩
      have FW := kf f4 FW
      have R1 := hid (R1.out.fr f4)
      have R2 := hid (R2.out.fr f4)
      clear f4
      go_wp2_with fail
      refine (rIsSet_ok A l c xs _ (Nat.le_trans hlc HCM.out) (HX.out.fr FW.out) HW.out).mono ?_
      rintro e w5 ⟨rfl, f5⟩
      have FW := kf f5 FW
      have R1 := hid (R1.out.fr f5)
      have R2 := hid (R2.out.fr f5)
      clear f5
      go_wp2_with fail
      refine (same_ok A1 l c1 xs A l c xs _ (by have := H1.out; simp only [maxLen]; omega) (Nat.le_trans hlc HCM.out) R1.out (HX.out.fr FW.out)).mono ?_
      rintro e w6 ⟨rfl, f6⟩
      rw [decide_eq_true (rfl : xs = xs)]
      have FW := kf f6 FW
      have R2 := hid (R2.out.fr f6)
      clear f6 R1
      go_wp2
      go_loopw [6] (fun i wr => ∃ k : Nat, k ≤ l ∧ i = .int .i64 k ∧ Fr No w6 wr) (fun i _ => l - (intOf i).toNat)
      case atStart => exact ⟨0, by omega, rfl, Fr.refl _ _⟩
      case round =>
        obtain ⟨k, hk, rfl, hf⟩ := hrel
        have FW := hid (FW.out.trans hf)
        have R2 := hid (R2.out.fr hf)
        by_cases hlt : k < l
        · have hk1 : k < xs.length := by rw [HX.out.1]; exact hlt
          obtain ⟨⟨a, n⟩, hx⟩ : ∃ x, xs[k]? = some x := ⟨_, List.getElem?_eq_getElem hk1⟩
          have hmx := HM.out _ (List.mem_of_getElem? hx)
          have HWk := hid (wf_may hmx)
          have HMk := hid hmx
          obtain ⟨g, o, rfl, hg, hc⟩ := (HX.out.fr FW.out).at_ (by omega)
          obtain ⟨c0, c1⟩ := hc k _ hx
          simp only [] at c0 c1
          have hlt3 : (k : Int) < l := by omega
          have h0k : (0 : Int) ≤ k := by omega
          have HF := hid hf
          have HK := hid hlt
          clear hc hg hx hk1 hf hk hlt hmx FW
          go_wp2_with fail
          refine (rmay_ok a n _ HWk.out).mono ?_
          rintro e w7 ⟨rfl, f7⟩
          have HF := kf f7 HF
          rw [decide_eq_true HMk.out]
          clear f7
          go_wp2
          go_roundw
          case rel => exact ⟨k + 1, HK.out, by go_num, HF.out⟩
          case measure => have := HK.out; simp [intOf]; omega
        · obtain rfl : k = l := by omega
          have HL := H1
          clear hf hlt hk
          go_wp2_with fail
          refine (rSet_ok A k c xs _ (by have := HL.out; omega) (HX.out.fr FW.out) HM.out).mono ?_
          rintro e w7 ⟨A7, k7, c7, rfl, r7, f7⟩
          have FW := kf f7 FW
          have R2 := hid (R2.out.fr f7)
          have R7 := hid r7
          have HK7 := hid (show k7 ≤ 4096 by have h := r7.1; have h3 := R2.out.1; have h5 := HK2.out; omega)
          clear r7 f7
          go_wp2_with fail
          refine (same_ok A2 k2 c2 (rset xs) A7 k7 c7 (rset xs) _ (by have := HK2.out; simp only [maxLen]; omega) (by have := HK7.out; simp only [maxLen]; omega) R2.out R7.out).mono ?_
          rintro e w8 ⟨rfl, f8⟩
          rw [decide_eq_true (rfl : rset xs = rset xs)]
          have FW := kf f8 FW
          have R2 := hid (R2.out.fr f8)
          clear f8
          go_wp2_with fail
          refine (isSet_ok A2 k2 c2 (rset xs) _ (by have := HK2.out; simp only [maxLen]; omega) R2.out (fun s hs => wf_may ((rset_ok HM.out).1.2 s hs).1)).mono ?_
          rintro e w9 ⟨rfl, f9⟩
          rw [HI.out]
          have FW := kf f9 FW
          clear f9
          go_wp2
          go_ret
          exact ⟨rfl, FW.out⟩
    · have HB := hid (show ∃ s ∈ xs, ¬ may s by simpa using hm)
      clear hm
      go_wp2_with fail
      refine (set_bad A1 l c1 xs _ (by have := H1.out; simp only [maxLen]; omega) R1.out HW.out HB.out).mono ?_
      rintro e w2 ⟨A2, k2, c2, rfl, r2, f2⟩
      have FW := kf f2 FW
      have R1 := hid (R1.out.fr f2)
      have hk2 : k2 = 0 := r2.1.symm
      subst hk2
      clear r2 f2
      go_wp2_with fail
      refine (lives_ok _).mono ?_
      rintro e w3 ⟨rfl, f3⟩
      have FW := kf f3 FW
      have R1 := hid (R1.out.fr f3)
      clear f3
      go_wp2_with fail
      refine (isSet_ok A l c xs _ (Nat.le_trans hlc HCM.out) (HX.out.fr FW.out) HW.out).mono ?_
      rintro e w4 ⟨rfl, f4⟩
      have FW := kf f4 FW
      have R1 := hid (R1.out.fr f4)
      clear f4
      go_wp2_with fail
      refine (rIsSet_ok A l c xs _ (Nat.le_trans hlc HCM.out) (HX.out.fr FW.out) HW.out).mono ?_
      rintro e w5 ⟨rfl, f5⟩
      have FW := kf f5 FW
      have R1 := hid (R1.out.fr f5)
      clear f5
      go_wp2_with fail
      refine (same_ok A1 l c1 xs A l c xs _ (by have := H1.out; simp only [maxLen]; omega) (Nat.le_trans hlc HCM.out) R1.out (HX.out.fr FW.out)).mono ?_
      rintro e w6 ⟨rfl, f6⟩
      rw [decide_eq_true (rfl : xs = xs)]
      have FW := kf f6 FW
      clear f6 R1
      go_wp2
      go_loopw [6] (fun i wr => ∃ k : Nat, k ≤ l ∧ i = .int .i64 k ∧ Hid (∀ s ∈ xs.take k, may s) ∧ Fr No w6 wr) (fun i _ => l - (intOf i).toNat)
      case atStart => exact ⟨0, by omega, rfl, hid (by simp), Fr.refl _ _⟩
      case round =>
        obtain ⟨k, hk, rfl, HE, hf⟩ := hrel
        have FW := hid (FW.out.trans hf)
        by_cases hlt : k < l
        · have hk1 : k < xs.length := by rw [HX.out.1]; exact hlt
          obtain ⟨⟨a, n⟩, hx⟩ : ∃ x, xs[k]? = some x := ⟨_, List.getElem?_eq_getElem hk1⟩
          have HXk := hid hx
          have HWk := hid (wf_at HW.out hx)
          obtain ⟨g, o, rfl, hg, hc⟩ := (HX.out.fr FW.out).at_ (by omega)
          obtain ⟨c0, c1⟩ := hc k _ hx
          simp only [] at c0 c1
          have hlt3 : (k : Int) < l := by omega
          have h0k : (0 : Int) ≤ k := by omega
          have HF := hid hf
          have HK := hid hlt
          clear hc hg hx hk1 hf hk hlt
          go_wp2_with fail
          refine (rmay_ok a n _ HWk.out).mono ?_
          rintro e w7 ⟨rfl, f7⟩
          have HF := kf f7 HF
          have FW := kf f7 FW
          clear f7
          by_cases hmk : may (a, n)
          · have HMk := hid hmk
            rw [decide_eq_true HMk.out]
            clear hmk FW
            go_wp2
            go_roundw
            case rel => exact ⟨k + 1, HK.out, by go_num, hid (by rw [take_snoc HXk.out]; intro s hs; rcases List.mem_append.1 hs with h | h; exact HE.out s h; simp only [List.mem_singleton] at h; subst h; exact HMk.out), HF.out⟩
            case measure => have := HK.out; simp [intOf]; omega
          · have HMk := hid hmk
            rw [decide_eq_false HMk.out]
            clear hmk
            go_wp2
            go_ret
            exact ⟨by first | rfl | simp, FW.out⟩
        · obtain rfl : k = l := by omega
          obtain ⟨s, hs, hn⟩ := HB.out
          have := HE.out
          rw [List.take_of_length_le (by rw [HX.out.1]; exact Nat.le_refl _)] at this
          exact absurd (this s hs) hn
  · have HSM := hid (decide_eq_false (p := l ≤ 100 ∧ 0 ≤ 100) (fun h => h1 h.1))
    clear h1
    go_enter Try.func5, Try.ntmps5
    go_wp2_with fail
    refine (small_ok A l c none 0 0 _ (Nat.le_trans hlc HCM.out) (by simp [maxLen])).mono ?_
    rintro e w1 ⟨rfl, rfl⟩
    rw [HSM.out]
    go_wp2_with fail
    refine (lives_ok _).mono ?_
    rintro e w2 ⟨rfl, f2⟩
    have FW := hid f2
    clear f2
    go_wp2
    go_ret
    exact ⟨rfl, FW.out⟩
end Go.Proofs.Ythldppgbopiaiaa.SpSets
