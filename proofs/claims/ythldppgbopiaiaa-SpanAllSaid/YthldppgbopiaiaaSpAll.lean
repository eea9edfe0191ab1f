/- The law of a set and its gaps, walked: they are all, and have nothing in common. Condition: the slice reads as a list of spans of 64 bits. -/
import Derived.Test.YthldppgbopiaiaaSpSt
import Derived.Test.YthldppgbopiaiaaSpBoth
import Derived.Test.YthldppgbopiaiaaSpQ
import Derived.Test.YthldppgbopiaiaaSpY
import Derived.Deep.DeepCutAuto
namespace Go.Proofs.Ythldppgbopiaiaa.SpAll
open Go.RowKit MSep MSepC MSpM MSpN MSpW MSpY SpA SpB SpC SpD SpO SpE SpF SpG SpGr SpH SpJ SpP SpQ SpBoth SpSo SpSt

theorem no_law {w w1 : World} (h : Hid (Fr No w w1)) {Q : World → Prop} (q : ∀ w2, Fr No w w2 → Q w2) : Q w1 := q w1 h.out
abbrev wb (a n : Int) : Obj := .cells #[.int .i64 a, .int .i64 n] 23

set_option maxRecDepth 100000 in
set_option maxHeartbeats 8000000 in
theorem walk_ (A : Option Addr) (l c : Nat) (xs : List Sp) (a n : Int) (w : World) (hx : RdS w A l xs) (hw : ∀ s ∈ xs, wf s) (hlc : l ≤ c) (hcm : c ≤ maxLen) (hwf : wf (a, n)) : Calls Try.prog 8 #[.slice A l c, .agg #[.int .i64 a, .int .i64 n]] w fun e w' => e = .returned (.bool true) ∧ Fr No w w' := by
  have HX := hid hx
  have HW := hid hw
  have HCM := hid hcm
  have HWF := hid hwf
  have HLC := hid hlc
  have FW := hid (fr1 w (wb a n))
  have PB := hid (Blk.new w 23 #[.int .i64 a, .int .i64 n])
  clear hx hw hcm hwf
  by_cases h1 : l ≤ 100
  · have HSM := hid (decide_eq_true (p := l ≤ 100 ∧ 0 ≤ 100) ⟨h1, by omega⟩)
    have H1 := hid h1
    clear h1
    by_cases hs : isSet xs = true
    · have HS := hid hs
      have HR := hid (isSet_ris hs)
      clear hs
      by_cases hm : may (a, n)
      · have HM := hid hm
        clear hm
        obtain ⟨K1, K2, K3⟩ := all_ok HR.out HM.out
        obtain ⟨RS, hRS⟩ : ∃ r, rset [(a, n)] = r := ⟨_, rfl⟩
        obtain ⟨RI, hRI⟩ : ∃ r, rboth xs RS = r := ⟨_, rfl⟩
        obtain ⟨RO, hRO⟩ : ∃ r, pgaps xs (a, n) = r := ⟨_, rfl⟩
        have hs1 := rset_one HM.out
        have hg := pgaps_ok HR.out HM.out
        have hgl := pgaps_len xs (a, n)
        have hbl := rboth_len HR.out hs1.1
        have hbr := rboth_ris HR.out hs1.1
        rw [hRS] at K1 K2 K3 hs1 hbl hbr
        rw [hRI] at K1 K2 K3 hbl hbr
        rw [hRO] at K1 K2 K3 hg hgl
        have HK1 := hid K1
        have HK2 := hid K2
        have HK3 := hid K3
        have HRS := hid hRS
        have HRI := hid hRI
        have HRO := hid hRO
        have HS1 := hid hs1.1
        have HSL := hid (Nat.le_trans hs1.2.2 (by omega : 1 ≤ 2000))
        have HIR := hid hbr
        have HOR := hid hg.1
        have HIL := hid (show RI.length ≤ 200 by have := HX.out.1; have := H1.out; have := hs1.2.2; omega)
        have HOL := hid (show RO.length ≤ 200 by have := HX.out.1; have := H1.out; omega)
        clear K1 K2 K3 hRS hRI hRO hs1 hg hgl hbl hbr
        go_enter Try.func8, Try.ntmps8
        go_wp2_with fail
        refine (small_ok A l c none 0 0 _ (Nat.le_trans HLC.out HCM.out) (by simp [maxLen])).mono ?_
        rintro e w1 ⟨rfl, rfl⟩
        rw [HSM.out]
        go_wp2_with fail
        refine (rIsSet_ok A l c xs _ (Nat.le_trans HLC.out HCM.out) (HX.out.fr FW.out) HW.out).mono ?_
        rintro e w2 ⟨rfl, f2⟩
        rw [HS.out]
        have FW := kf f2 FW
        have PB := hid (PB.out.fr f2 (fun h => h))
        have c0 := PB.out.cell 0
        have c1 := PB.out.cell 1
        simp only [List.getElem?_toArray, List.getElem?_cons_zero, List.getElem?_cons_succ] at c0 c1
        clear f2
        go_wp2_with fail
        refine (rmay_ok a n _ HWF.out).mono ?_
        rintro e w3 ⟨rfl, f3⟩
        rw [decide_eq_true HM.out]
        have FW := kf f3 FW
        have PB := hid (PB.out.fr f3 (fun h => h))
        clear f3 c0 c1
        have c0 := PB.out.cell 0
        have c1 := PB.out.cell 1
        simp only [List.getElem?_toArray, List.getElem?_cons_zero, List.getElem?_cons_succ] at c0 c1
        have HLT := hid (lit_rd w3 a n)
        go_wp2_with fail
        refine (rSet_ok _ 1 1 [(a, n)] _ (by omega) HLT.out (by have h := HM.out; simpa using h)).mono ?_
        rintro e w4 ⟨A4, k4, c4, rfl, r4, f4⟩
        rw [HRS.out] at r4
        have FW := hid ((FW.out.alloc (wb a n)).trans f4)
        have PB := hid ((PB.out.alloc (wb a n)).fr f4 (fun h => h))
        have R4 := hid r4
        have HK4 := hid (show k4 ≤ 2000 by have h := r4.1; have h2 := HSL.out; omega)
        clear f4 r4 c0 c1 HLT
        go_wp2_with fail
        refine (both_ok A A4 l c k4 c4 xs RS _ (by have := H1.out; omega) HK4.out (HX.out.fr FW.out) R4.out HR.out HS1.out).mono ?_
        rintro e w5 ⟨A5, k5, c5, rfl, r5, f5⟩
        rw [HRI.out] at r5
        have FW := kf f5 FW
        have PB := hid (PB.out.fr f5 (fun h => h))
        have R5 := hid r5
        have HK5 := hid (show k5 ≤ 200 by have h := r5.1; have h2 := HIL.out; omega)
        clear f5 r5 R4
        have c0 := PB.out.cell 0
        have c1 := PB.out.cell 1
        simp only [List.getElem?_toArray, List.getElem?_cons_zero, List.getElem?_cons_succ] at c0 c1
        go_wp2_with fail
        refine (gaps_ok A l c xs a n _ (by have := H1.out; omega) (HX.out.fr FW.out) HR.out HM.out).mono ?_
        rintro e w6 ⟨A6, k6, c6, rfl, r6, f6⟩
        rw [HRO.out] at r6
        have FW := kf f6 FW
        have PB := hid (PB.out.fr f6 (fun h => h))
        have R5 := hid (R5.out.fr f6)
        have R6 := hid r6
        have HK6 := hid (show k6 ≤ 200 by have h := r6.1; have h2 := HOL.out; omega)
        clear f6 r6 c0 c1
        have c0 := PB.out.cell 0
        have c1 := PB.out.cell 1
        simp only [List.getElem?_toArray, List.getElem?_cons_zero, List.getElem?_cons_succ] at c0 c1
        have HT5 := hid (fun W (f : Fr No w W) (h : RdS W A5 k5 RI) => total_ok A5 k5 c5 RI W (by have := HK5.out; omega) h HIR.out)
        have HT6 := hid (fun W (f : Fr No w W) (h : RdS W A6 k6 RO) => total_ok A6 k6 c6 RO W (by have := HK6.out; omega) h HOR.out)
        have hti := tot_range RI (fun s hs => (HIR.out.2 s hs).1)
        have hto := tot_range RO (fun s hs => (HOR.out.2 s hs).1)
        obtain ⟨ti, hti'⟩ : ∃ t, tot RI = t := ⟨_, rfl⟩
        obtain ⟨tq, hto'⟩ : ∃ t, tot RO = t := ⟨_, rfl⟩
        rw [hti'] at HK1 HT5 hti
        rw [hto'] at HK1 HT6 hto
        have htn : n = ti + tq := HK1.out.symm
        have hw1 : wrap64 (ti + tq) = ti + tq := w64 _ (by have h1 := HIL.out; have h2 := HOL.out; omega)
        have hw2 : IntKind.i64.wrap (ti + tq) = ti + tq := Go.IntWalk.i64_in _ (by have h1 := HIL.out; have h2 := HOL.out; omega)
        have FWL := FW
        subst htn
        have FW := FWL
        clear hti hto hti' hto' HK1
        go_wp2_with fail
        have R5 := hid (show RdS w6.drew A5 k5 RI from R5.out)
        have R6 := hid (show RdS w6.drew A6 k6 RO from R6.out)
        have PB := hid (PB.out.drew)
        have FW := kd FW
        refine wp_region_noPanic ?_
        refine wp_region_held_drew (S := (fun W' => W'.cell? ⟨w.heap.size, 0, none⟩ = some (.int .i64 a) ∧ W'.cell? ⟨w.heap.size, 1, none⟩ = some (.int .i64 (ti + tq)) ∧ Hid (Fr No w W'))) (by kernel_rfl) ?_ (fun hHeld => ?_)
        · (try dsimp only); (first | (go_split_ands; exact ⟨kc f (by assumption), kc f (by assumption), by assumption⟩) | (go_split_ands; exact ⟨(by assumption), (by assumption), by assumption⟩) | (go_split_ands; exact ⟨kc (fr1 _ _) (by assumption), kc (fr1 _ _) (by assumption), kfa (by assumption)⟩) | (exact ⟨c0, c1, FW⟩))
        refine wpAnyH_ready (rs := [0]) (by kernel_rfl) (by simp) (AllReadyH.cons rfl (fun K hK => ?_) AllReadyH.nil)
        go_simp
        go_at_call 13
        refine (lives_ok _).mono ?_
        rintro e W1 ⟨rfl, f⟩
        have FW := kf f hHeld.2.2
        have R5 := hid (R5.out.fr f)
        have R6 := hid (R6.out.fr f)
        have PB := hid (PB.out.fr f (fun h => h))
        dsimp only
        refine hK.out _ _ ?_ (fun hHeld => ?_)
        · (try dsimp only); (first | (go_split_ands; exact ⟨kc f (by assumption), kc f (by assumption), by assumption⟩) | (go_split_ands; exact ⟨(by assumption), (by assumption), by assumption⟩) | (go_split_ands; exact ⟨kc (fr1 _ _) (by assumption), kc (fr1 _ _) (by assumption), kfa (by assumption)⟩) | (exact ⟨c0, c1, FW⟩))
        clear hK K
        try simp only [Act.put, List.getElem_toArray, List.getElem_cons_succ, List.getElem_cons_zero, List.setIfInBounds_toArray, List.set_cons_zero, List.set_cons_succ]
        refine wpAnyH_take (i := 1) (v := (.bool false)) rfl (by kernel_rfl) (by kernel_rfl) (by kernel_rfl) (fun _ _ _ h => h) (Or.inl ⟨by kernel_rfl, fun w hSw => by first | (go_simp; done) | (go_simp; with_reducible rfl) | (go_simp; omega)⟩) (by assumption) ?_
        try simp only [Act.put, List.getElem_toArray, List.getElem_cons_succ, List.getElem_cons_zero, List.setIfInBounds_toArray, List.set_cons_zero, List.set_cons_succ]
        refine wpAnyH_take (i := 2) (v := (.bool false)) rfl (by kernel_rfl) (by kernel_rfl) (by kernel_rfl) (fun _ _ _ h => h) (Or.inl ⟨by kernel_rfl, fun w hSw => by first | (go_simp; done) | (go_simp; with_reducible rfl) | (go_simp; omega)⟩) (by assumption) ?_
        try simp only [Act.put, List.getElem_toArray, List.getElem_cons_succ, List.getElem_cons_zero, List.setIfInBounds_toArray, List.set_cons_zero, List.set_cons_succ]
        refine wpAnyH_take (i := 3) (v := ?v1) rfl (by kernel_rfl) (by kernel_rfl) (by kernel_rfl) (fun _ _ _ h => h) (Or.inl ⟨by kernel_rfl, ?y1⟩) (by assumption) ?_
        case y1 => (intro w hSw; (try dsimp only at hSw); go_simp; all_goals with_reducible rfl)
        try simp only [Act.put, List.getElem_toArray, List.getElem_cons_succ, List.getElem_cons_zero, List.setIfInBounds_toArray, List.set_cons_zero, List.set_cons_succ]
        refine wpAnyH_take (i := 4) (v := (.bool false)) rfl (by kernel_rfl) (by kernel_rfl) (by kernel_rfl) (fun _ _ _ h => h) (Or.inl ⟨by kernel_rfl, fun w hSw => by first | (go_simp; done) | (go_simp; with_reducible rfl) | (go_simp; omega)⟩) (by assumption) ?_
        try simp only [Act.put, List.getElem_toArray, List.getElem_cons_succ, List.getElem_cons_zero, List.setIfInBounds_toArray, List.set_cons_zero, List.set_cons_succ]
        refine wpAnyH_take (i := 5) (v := (.bool false)) rfl (by kernel_rfl) (by kernel_rfl) (by kernel_rfl) (fun _ _ _ h => h) (Or.inl ⟨by kernel_rfl, fun w hSw => by first | (go_simp; done) | (go_simp; with_reducible rfl) | (go_simp; omega)⟩) (by assumption) ?_
        try simp only [Act.put, List.getElem_toArray, List.getElem_cons_succ, List.getElem_cons_zero, List.setIfInBounds_toArray, List.set_cons_zero, List.set_cons_succ]
        refine wpAnyH_take (i := 6) (v := (.bool false)) rfl (by kernel_rfl) (by kernel_rfl) (by kernel_rfl) (fun _ _ _ h => h) (Or.inl ⟨by kernel_rfl, fun w hSw => by first | (go_simp; done) | (go_simp; with_reducible rfl) | (go_simp; omega)⟩) (by assumption) ?_
        try simp only [Act.put, List.getElem_toArray, List.getElem_cons_succ, List.getElem_cons_zero, List.setIfInBounds_toArray, List.set_cons_zero, List.set_cons_succ]
        refine wpAnyH_take (i := 7) (v := ?v2) rfl (by kernel_rfl) (by kernel_rfl) (by kernel_rfl) (fun _ _ _ h => h) (Or.inl ⟨by kernel_rfl, ?y2⟩) (by assumption) ?_
        case y2 => (intro w hSw; (try dsimp only at hSw); go_simp; all_goals with_reducible rfl)
        try simp only [Act.put, List.getElem_toArray, List.getElem_cons_succ, List.getElem_cons_zero, List.setIfInBounds_toArray, List.set_cons_zero, List.set_cons_succ]
        refine wpAnyH_take (i := 8) (v := (.bool false)) rfl (by kernel_rfl) (by kernel_rfl) (by kernel_rfl) (fun _ _ _ h => h) (Or.inl ⟨by kernel_rfl, fun w hSw => by first | (go_simp; done) | (go_simp; with_reducible rfl) | (go_simp; omega)⟩) (by assumption) ?_
        try simp only [Act.put, List.getElem_toArray, List.getElem_cons_succ, List.getElem_cons_zero, List.setIfInBounds_toArray, List.set_cons_zero, List.set_cons_succ]
        refine wpAnyH_take (i := 9) (v := (.bool false)) rfl (by kernel_rfl) (by kernel_rfl) (by kernel_rfl) (fun _ _ _ h => h) (Or.inl ⟨by kernel_rfl, fun w hSw => by first | (go_simp; done) | (go_simp; with_reducible rfl) | (go_simp; omega)⟩) (by assumption) ?_
        try simp only [Act.put, List.getElem_toArray, List.getElem_cons_succ, List.getElem_cons_zero, List.setIfInBounds_toArray, List.set_cons_zero, List.set_cons_succ]
        refine wpAnyH_take (i := 10) (v := (.bool false)) rfl (by kernel_rfl) (by kernel_rfl) (by kernel_rfl) (fun _ _ _ h => h) (Or.inl ⟨by kernel_rfl, fun w hSw => by first | (go_simp; done) | (go_simp; with_reducible rfl) | (go_simp; omega)⟩) (by assumption) ?_
        try simp only [Act.put, List.getElem_toArray, List.getElem_cons_succ, List.getElem_cons_zero, List.setIfInBounds_toArray, List.set_cons_zero, List.set_cons_succ]
        refine wpAnyH_take (i := 11) (v := ?v3) rfl (by kernel_rfl) (by kernel_rfl) (by kernel_rfl) (fun _ _ _ h => h) (Or.inl ⟨by kernel_rfl, ?y3⟩) (by assumption) ?_
        case y3 => (intro w hSw; (try dsimp only at hSw); go_simp; all_goals with_reducible rfl)
        try simp only [Act.put, List.getElem_toArray, List.getElem_cons_succ, List.getElem_cons_zero, List.setIfInBounds_toArray, List.set_cons_zero, List.set_cons_succ]
        refine wpAnyH_take (i := 13) (v := ?v4) rfl (by kernel_rfl) (by kernel_rfl) (by kernel_rfl) (fun _ _ _ h => h) (Or.inl ⟨by kernel_rfl, ?y4⟩) (by assumption) ?_
        case y4 => (intro w hSw; (try dsimp only at hSw); go_simp; all_goals with_reducible rfl)
        try simp only [Act.put, List.getElem_toArray, List.getElem_cons_succ, List.getElem_cons_zero, List.setIfInBounds_toArray, List.set_cons_zero, List.set_cons_succ]
        refine wpAnyH_take (i := 16) (v := ?v5) rfl (by kernel_rfl) (by kernel_rfl) (by kernel_rfl) (fun _ _ _ h => h) (Or.inl ⟨by kernel_rfl, ?y5⟩) (by assumption) ?_
        case y5 => (intro w hSw; (try dsimp only at hSw); go_simp; all_goals with_reducible rfl)
        try simp only [Act.put, List.getElem_toArray, List.getElem_cons_succ, List.getElem_cons_zero, List.setIfInBounds_toArray, List.set_cons_zero, List.set_cons_succ]
        refine wpAnyH_take (i := 17) (v := ?v6) rfl (by kernel_rfl) (by kernel_rfl) (by kernel_rfl) (fun _ _ _ h => h) (Or.inl ⟨by kernel_rfl, ?y6⟩) (by assumption) ?_
        case y6 => (intro w hSw; (try dsimp only at hSw); go_simp; all_goals with_reducible rfl)
        try simp only [Act.put, List.getElem_toArray, List.getElem_cons_succ, List.getElem_cons_zero, List.setIfInBounds_toArray, List.set_cons_zero, List.set_cons_succ]
        refine wpAnyH_ready (rs := [12]) (by kernel_rfl) (by simp) (AllReadyH.cons rfl (fun K hK => ?_) AllReadyH.nil)
        go_simp
        go_at_call 34
        refine (HT5.out _ FW.out R5.out).mono ?_
        rintro e W1 ⟨rfl, f⟩
        have FW := kf f hHeld.2.2
        have R5 := hid (R5.out.fr f)
        have R6 := hid (R6.out.fr f)
        have PB := hid (PB.out.fr f (fun h => h))
        dsimp only
        refine hK.out _ _ ?_ (fun hHeld => ?_)
        · (try dsimp only); (first | (go_split_ands; exact ⟨kc f (by assumption), kc f (by assumption), by assumption⟩) | (go_split_ands; exact ⟨(by assumption), (by assumption), by assumption⟩) | (go_split_ands; exact ⟨kc (fr1 _ _) (by assumption), kc (fr1 _ _) (by assumption), kfa (by assumption)⟩) | (exact ⟨c0, c1, FW⟩))
        clear hK K
        try simp only [Act.put, List.getElem_toArray, List.getElem_cons_succ, List.getElem_cons_zero, List.setIfInBounds_toArray, List.set_cons_zero, List.set_cons_succ]
        refine wpAnyH_ready (rs := [14]) (by kernel_rfl) (by simp) (AllReadyH.cons rfl (fun K hK => ?_) AllReadyH.nil)
        go_simp
        go_at_call 34
        refine (HT6.out _ FW.out R6.out).mono ?_
        rintro e W1 ⟨rfl, f⟩
        have FW := kf f hHeld.2.2
        have R5 := hid (R5.out.fr f)
        have R6 := hid (R6.out.fr f)
        have PB := hid (PB.out.fr f (fun h => h))
        dsimp only
        refine hK.out _ _ ?_ (fun hHeld => ?_)
        · (try dsimp only); (first | (go_split_ands; exact ⟨kc f (by assumption), kc f (by assumption), by assumption⟩) | (go_split_ands; exact ⟨(by assumption), (by assumption), by assumption⟩) | (go_split_ands; exact ⟨kc (fr1 _ _) (by assumption), kc (fr1 _ _) (by assumption), kfa (by assumption)⟩) | (exact ⟨c0, c1, FW⟩))
        clear hK K
        try simp only [Act.put, List.getElem_toArray, List.getElem_cons_succ, List.getElem_cons_zero, List.setIfInBounds_toArray, List.set_cons_zero, List.set_cons_succ]
        refine wpAnyH_take (i := 15) (v := ?v7) rfl (by kernel_rfl) (by kernel_rfl) (by kernel_rfl) (fun _ _ _ h => h) (Or.inl ⟨by kernel_rfl, ?y7⟩) (by assumption) ?_
        case y7 => (intro w hSw; (try dsimp only at hSw); go_simp; all_goals with_reducible rfl)
        try simp only [Act.put, List.getElem_toArray, List.getElem_cons_succ, List.getElem_cons_zero, List.setIfInBounds_toArray, List.set_cons_zero, List.set_cons_succ]
        refine wpAnyH_take (i := 18) (v := ?v8) rfl (by kernel_rfl) (by kernel_rfl) (by kernel_rfl) (fun _ _ _ h => h) (Or.inl ⟨by kernel_rfl, ?y8⟩) (by assumption) ?_
        case y8 => (intro w hSw; (try dsimp only at hSw); go_simp; all_goals with_reducible rfl)
        try simp only [Act.put, List.getElem_toArray, List.getElem_cons_succ, List.getElem_cons_zero, List.setIfInBounds_toArray, List.set_cons_zero, List.set_cons_succ]
        refine wpAnyH_take (i := 19) (v := ?v9) rfl (by kernel_rfl) (by kernel_rfl) (by kernel_rfl) (fun _ _ _ h => h) (Or.inl ⟨by kernel_rfl, ?y9⟩) (by assumption) ?_
        case y9 => (intro w hSw; (try dsimp only at hSw); go_simp; all_goals with_reducible rfl)
        try simp only [Act.put, List.getElem_toArray, List.getElem_cons_succ, List.getElem_cons_zero, List.setIfInBounds_toArray, List.set_cons_zero, List.set_cons_succ]
        refine wpAnyH_done (by kernel_rfl) ?_ _
        refine NoPanic.normal ?_
        go_wp2_with fail
        refine (both_ok A5 A6 k5 c5 k6 c6 RI RO _ (by have := HK5.out; omega) (by have := HK6.out; omega) R5.out R6.out HIR.out HOR.out).mono ?_
        rintro e w8 ⟨A8, k8, c8, rfl, r8, f8⟩
        rw [HK2.out] at r8
        have hk8 : k8 = 0 := r8.1.symm
        subst hk8
        have FW := kf f8 FW
        have R5 := hid (R5.out.fr f8)
        have R6 := hid (R6.out.fr f8)
        have PB := hid (PB.out.fr f8 (fun h => h))
        clear f8 r8
        have HSZ := hid FW.out.size
        have HLT8 := hid PB.out.lt
        have O0 := hid (World.ownsRow_lit (base := w8.heap.size) (e := 23) (size := 2) w8 #[] 0 (Nat.le_refl _) (by simp [maxLen]) rfl)
        have R5 := hid (R5.out.fr (fr1 w8 (.cells #[] 23)))
        go_wp2_with (at_builtin; refine app_sp rfl (.tmp 68) (.tmp 69) rfl w8.heap.size _ [] rfl O0.out _ k5 _ RI rfl R5.out (by have := HK5.out; simp; omega) (by simp) ?_)
        intro A9 c9 w9 o9 f9
        have O9 := hid (show Out w8.heap.size w9 (.slice A9 k5 c9) RI from o9)
        have FW := hid (fr_own (FW.out.alloc (.cells #[] 23)) (show Out w8.heap.size _ _ [] from O0.out) HSZ.out f9)
        have R6 := hid (rdo R6.out (fr1 w8 (.cells #[] 23)) (show Out w8.heap.size _ _ [] from O0.out) (Nat.le_refl _) f9)
        have HB9 := hid (show w8.heap.size ≤ w9.heap.size by have := f9.size; simp at this; omega)
        have R5L := hid R5.out.1
        have hl5 : k5 = RI.length := R5.out.1.symm
        have hl6 : k6 = RO.length := R6.out.1.symm
        have PB := hid (kbo (PB.out.alloc (.cells #[] 23)) (show Out w8.heap.size _ _ [] from O0.out) (by have := PB.out.lt; exact this) f9)
        have HL5 := hid hl5
        have HL6 := hid hl6
        clear hl5 hl6 o9 f9
        go_wp2_with (at_builtin; refine app_sp rfl (.tmp 70) (.tmp 71) rfl w8.heap.size _ RI rfl O9.out _ k6 _ RO rfl R6.out (by have := HK5.out; have := HK6.out; have := HL5.out; omega) HB9.out ?_)
        intro A10 c10 w10 o10 f10
        have FW := hid (fr_own FW.out (show Out w8.heap.size _ _ RI from O9.out) HSZ.out f10)
        have PB := hid (kbo PB.out (show Out w8.heap.size _ _ RI from O9.out) HLT8.out f10)
        have R10 := hid (show RdS w10 A10 (RI.length + k6) (RI ++ RO) from o10.rd)
        clear o10 f10
        have HM10 := hid (show ∀ s ∈ RI ++ RO, may s by intro s hs; rcases List.mem_append.1 hs with h | h; exact (HIR.out.2 s h).1; exact (HOR.out.2 s h).1)
        go_wp2_with fail
        refine (set_good A10 (RI.length + k6) c10 (RI ++ RO) _ (by have := HIL.out; have := HK6.out; omega) R10.out HM10.out).mono ?_
        rintro e w11 ⟨A11, k11, c11, rfl, r11, f11⟩
        rw [HK3.out] at r11
        have FW := kf f11 FW
        have PB := hid (PB.out.fr f11 (fun h => h))
        have R11 := hid r11
        have HK11 := hid (show k11 ≤ 2000 by have h := r11.1; have h2 := HSL.out; omega)
        clear r11 f11
        have c0 := PB.out.cell 0
        have c1 := PB.out.cell 1
        simp only [List.getElem?_toArray, List.getElem?_cons_zero, List.getElem?_cons_succ] at c0 c1
        have HLT2 := hid (lit_rd w11 a (ti + tq))
        go_wp2_with fail
        refine (rSet_ok _ 1 1 [(a, ti + tq)] _ (by omega) HLT2.out (by have h := HM.out; simpa using h)).mono ?_
        rintro e w12 ⟨A12, k12, c12, rfl, r12, f12⟩
        rw [HRS.out] at r12
        have FW := hid ((FW.out.alloc (wb a (ti + tq))).trans f12)
        have R11 := hid ((R11.out.fr (fr1 w11 (wb a (ti + tq)))).fr f12)
        have R12 := hid r12
        have HK12 := hid (show k12 ≤ 2000 by have h := r12.1; have h2 := HSL.out; omega)
        clear r12 f12
        go_wp2_with fail
        refine (same_ok A11 k11 c11 RS A12 k12 c12 RS _ (by have := HK11.out; simp only [maxLen]; omega) (by have := HK12.out; simp only [maxLen]; omega) R11.out R12.out).mono ?_
        rintro e w13 ⟨rfl, f13⟩
        rw [decide_eq_true (rfl : RS = RS)]
        have FW := kf f13 FW
        clear f13
        go_wp2
        go_ret
        exact ⟨rfl, FW.out⟩
      · have HM := hid hm
        clear hm
        go_enter Try.func8, Try.ntmps8
        go_wp2_with fail
        refine (small_ok A l c none 0 0 _ (Nat.le_trans HLC.out HCM.out) (by simp [maxLen])).mono ?_
        rintro e w1 ⟨rfl, rfl⟩
        rw [HSM.out]
        go_wp2_with fail
        refine (rIsSet_ok A l c xs _ (Nat.le_trans HLC.out HCM.out) (HX.out.fr FW.out) HW.out).mono ?_
        rintro e w2 ⟨rfl, f2⟩
        rw [HS.out]
        have FW := kf f2 FW
        have c0 := (PB.out.fr f2 (fun h => h)).cell 0
        have c1 := (PB.out.fr f2 (fun h => h)).cell 1
        simp only [List.getElem?_toArray, List.getElem?_cons_zero, List.getElem?_cons_succ] at c0 c1
        clear f2
        go_wp2_with fail
        refine (rmay_ok a n _ HWF.out).mono ?_
        rintro e w3 ⟨rfl, f3⟩
        rw [decide_eq_false HM.out]
        have FW := kf f3 FW
        clear f3
        go_wp2_with fail
        refine (lives_ok _).mono ?_
        rintro e w4 ⟨rfl, f4⟩
        have FW := kf f4 FW
        clear f4
        go_wp2
        go_ret
        exact ⟨rfl, FW.out⟩
    · have HS := hid (show isSet xs = false by simpa using hs)
      clear hs
      go_enter Try.func8, Try.ntmps8
      go_wp2_with fail
      refine (small_ok A l c none 0 0 _ (Nat.le_trans HLC.out HCM.out) (by simp [maxLen])).mono ?_
      rintro e w1 ⟨rfl, rfl⟩
      rw [HSM.out]
      go_wp2_with fail
      refine (rIsSet_ok A l c xs _ (Nat.le_trans HLC.out HCM.out) (HX.out.fr FW.out) HW.out).mono ?_
      rintro e w2 ⟨rfl, f2⟩
      rw [HS.out]
      have FW := kf f2 FW
      clear f2
      go_wp2_with fail
      refine (lives_ok _).mono ?_
      rintro e w3 ⟨rfl, f3⟩
      have FW := kf f3 FW
      clear f3
      go_wp2
      go_ret
      exact ⟨rfl, FW.out⟩
  · have HSM := hid (decide_eq_false (p := l ≤ 100 ∧ 0 ≤ 100) (fun h => h1 h.1))
    clear h1
    go_enter Try.func8, Try.ntmps8
    go_wp2_with fail
    refine (small_ok A l c none 0 0 _ (Nat.le_trans HLC.out HCM.out) (by simp [maxLen])).mono ?_
    rintro e w1 ⟨rfl, rfl⟩
    rw [HSM.out]
    go_wp2_with fail
    refine (lives_ok _).mono ?_
    rintro e w2 ⟨rfl, f2⟩
    have FW := kf f2 FW
    clear f2
    go_wp2
    go_ret
    exact ⟨rfl, FW.out⟩
end Go.Proofs.Ythldppgbopiaiaa.SpAll
