/- Contract: what is left of a span without another one, as the program reckons it. Condition: all numbers are 64 bits. -/
import Derived.Test.YthldppgbopiaiaaSpE
namespace Go.Proofs.Ythldppgbopiaiaa.SpF
open Go.RowKit MSep MSepC MSpM SpA SpB SpO SpE

theorem ko {b c : World} {B : Nat} {v : Value} {l : List Sp} (k : Fr No b c) (h : Hid (Out B b v l)) : Hid (Out B c v l) := hid (h.out.fr k)
theorem meet0_may2 {a b : Sp} {X : Sp} (ha : may a) (hb : may b) (h : Hid (meet0 a b = X)) : may X := by
  have := meet0_may ha hb
  rw [h.out] at this
  exact this
theorem cut_no {a b : Sp} (h : ¬ (may a ∧ may b)) : cut a b = [] := by unfold cut; rw [if_neg h]
theorem cut_none {a b : Sp} (h : a.2 = 0) : cut a b = [] := by
  unfold cut
  split
  · unfold cut0
    have e : (meet0 a b).2 = 0 := by
      unfold meet0
      split
      · rfl
      · simp only []
        omega
    rw [if_pos e, if_pos h]
  · rfl
theorem cut_go {a b : Sp} (ha : may a) (hb : may b) : cut a b = cut0 a b := by unfold cut; rw [if_pos ⟨ha, hb⟩]

set_option maxRecDepth 100000 in
set_option maxHeartbeats 4000000 in
theorem cut_ok (a n b m : Int) (w : World) (ha : wf (a, n)) (hb : wf (b, m)) : Calls Try.prog 12 #[.agg #[.int .i64 a, .int .i64 n], .agg #[.int .i64 b, .int .i64 m]] w fun e w' =>
    RetS w w' e (cut (a, n) (b, m)) := by
  obtain ⟨L, hL⟩ : ∃ L, cut (a, n) (b, m) = L := ⟨_, rfl⟩
  rw [hL]
  have HA := hid ha
  have HB := hid hb
  have HW := hid (fr2 w (.cells #[.int .i64 a, .int .i64 n] 23) (.cells #[.int .i64 b, .int .i64 m] 23))
  have A0 := hid ((Blk.new w 23 #[.int .i64 a, .int .i64 n]).alloc (.cells #[.int .i64 b, .int .i64 m] 23))
  have B0 := hid (blk2 w (.cells #[.int .i64 a, .int .i64 n] 23) 23 #[.int .i64 b, .int .i64 m])
  clear ha hb
  by_cases h1 : may (a, n)
  · have H1 := hid h1
    by_cases h2 : may (b, m)
    · have H2 := hid h2
      rw [cut_go h1 h2] at hL
      by_cases hn0 : n = 0
      · subst hn0
        rw [← cut_go h1 h2, cut_none rfl] at hL
        subst hL
        clear h1 h2
        go_enter Try.func12, Try.ntmps12
        go_wp2_with fail
        refine (may_ok a 0 _ HA.out).mono ?_
        rintro e w1 ⟨rfl, f1⟩
        rw [decide_eq_true H1.out]
        have b1 := kb f1 B0
        have d0 := b1.out.cell 0
        have d1 := b1.out.cell 1
        simp only [List.getElem?_toArray, List.getElem?_cons_zero, List.getElem?_cons_succ] at d0 d1
        have F1 := hid f1
        clear f1
        go_wp2_with fail
        refine (may_ok b m _ HB.out).mono ?_
        rintro e w2 ⟨rfl, f2⟩
        rw [decide_eq_true H2.out]
        have a2 := kb (F1.out.trans f2) A0
        have FW := kf (F1.out.trans f2) HW
        have c0 := a2.out.cell 0
        have c1 := a2.out.cell 1
        simp only [List.getElem?_toArray, List.getElem?_cons_zero, List.getElem?_cons_succ] at c0 c1
        clear f2 d0 d1
        go_wp2
        go_ret
        exact .mk (RdS.nil _ _) FW.out
      · obtain ⟨⟨p, q⟩, hX⟩ : ∃ X, meet0 (a, n) (b, m) = X := ⟨_, rfl⟩
        unfold cut0 at hL
        rw [hX] at hL
        have hs : 0 < q → a ≤ p ∧ b ≤ p ∧ p + q ≤ a + n ∧ p + q ≤ b + m := by
          have := @meet0_sub (a, n) (b, m)
          rw [hX] at this
          exact this
        have hq : 0 ≤ q := by
          have := meet0_nonneg (a, n) (b, m)
          rw [hX] at this
          exact this
        have HX := hid hX
        have HPQ := hid (meet0_may2 h1 h2 HX)
        have hmeet := meet_yes h1 h2
        rw [hX] at hmeet
        have HMT := hid hmeet
        simp only [] at hL
        rw [if_neg hn0] at hL
        unfold may at h1 h2
        simp only [] at h1 h2
        clear hX hmeet
        go_enter Try.func12, Try.ntmps12
        go_wp2_with fail
        refine (may_ok a n _ HA.out).mono ?_
        rintro e w1 ⟨rfl, f1⟩
        rw [decide_eq_true H1.out]
        have b1 := kb f1 B0
        have d0 := b1.out.cell 0
        have d1 := b1.out.cell 1
        simp only [List.getElem?_toArray, List.getElem?_cons_zero, List.getElem?_cons_succ] at d0 d1
        have F1 := hid f1
        clear f1
        go_wp2_with fail
        refine (may_ok b m _ HB.out).mono ?_
        rintro e w2 ⟨rfl, f2⟩
        rw [decide_eq_true H2.out]
        have b2 := kb (F1.out.trans f2) B0
        have a2 := kb (F1.out.trans f2) A0
        have FW2 := kf (F1.out.trans f2) HW
        have c0 := a2.out.cell 0
        have c1 := a2.out.cell 1
        have d0 := b2.out.cell 0
        have d1 := b2.out.cell 1
        simp only [List.getElem?_toArray, List.getElem?_cons_zero, List.getElem?_cons_succ] at c0 c1 d0 d1
        clear f2
        go_wp2_with fail
        refine (meet_ok a n b m _ HA.out HB.out).mono ?_
        rintro e w3 ⟨rfl, f3⟩
        rw [HMT.out]
        simp only []
        have AX := hid ((kb f3 a2).out.alloc (.cells #[.int .i64 p, .int .i64 q] 23))
        have FW := hid ((kf f3 FW2).out.alloc (.cells #[.int .i64 p, .int .i64 q] 23))
        have GX := hid (Blk.new w3 23 #[.int .i64 p, .int .i64 q])
        have HS := hid (show w.heap.size < w3.heap.size from (kb f3 a2).out.lt)
        clear f3 c0 c1 d0 d1 a2 b2 b1 FW2 F1
        have c0 := AX.out.cell 0
        have c1 := AX.out.cell 1
        have d0 := GX.out.cell 0
        have d1 := GX.out.cell 1
        simp only [List.getElem?_toArray, List.getElem?_cons_zero, List.getElem?_cons_succ] at c0 c1 d0 d1
        by_cases hq0 : q = 0
        · subst hq0
          rw [if_pos rfl] at hL
          subst hL
          have HR := hid (lit_rd2 (w3.alloc (.cells #[.int .i64 p, .int .i64 0] 23)) a n (w3.heap.size + 1) (by simp))
          go_wp2
          go_ret
          exact .mk HR.out (FW.out.alloc _)
        · have hs := hs (by omega)
          rw [if_neg hq0] at hL
          by_cases h5 : a < p
          · rw [if_pos h5] at hL
            go_wp2_with fail
            refine (between_ok a p _ (by omega)).mono ?_
            rintro e w4 ⟨rfl, f4⟩
            have AX := kb f4 AX
            have GX := kb f4 GX
            have FW := kf f4 FW
            have HG := hid (show w3.heap.size < w4.heap.size from GX.out.lt)
            clear f4 c0 c1 d0 d1
            go_wp2_with (at_builtin; refine app_sp rfl (.tmp 33) (.tmp 39) rfl (w3.heap.size + 1) _ [] rfl Out.nilb _ 1 _ [(a, p - a)] rfl (lit_rd2 _ _ _ _ (by simp)) (by simp) (by have := HG.out; simp; omega) ?_)
            intro A5 c5 w5 o5 f5
            have FW := hid (fr_own (FW.out.alloc (.cells #[.int .i64 a, .int .i64 (p - a)] 23)) (Out.nilb (B := w3.heap.size + 1)) (by have := HS.out; omega) f5)
            have AX := hid (kbo (AX.out.alloc (.cells #[.int .i64 a, .int .i64 (p - a)] 23)) (Out.nilb (B := w3.heap.size + 1)) (by have := HS.out; omega) f5)
            have GX := hid (kbo (GX.out.alloc (.cells #[.int .i64 a, .int .i64 (p - a)] 23)) (Out.nilb (B := w3.heap.size + 1)) (by omega) f5)
            have O6 := hid o5
            clear o5 f5
            have c0 := AX.out.cell 0
            have c1 := AX.out.cell 1
            have d0 := GX.out.cell 0
            have d1 := GX.out.cell 1
            simp only [List.getElem?_toArray, List.getElem?_cons_zero, List.getElem?_cons_succ] at c0 c1 d0 d1
            go_wp2_with fail
            have FW := kd FW
            go_region_held3 (fun W' => W'.cell? ⟨w.heap.size, 0, none⟩ = some (.int .i64 a) ∧ W'.cell? ⟨w.heap.size, 1, none⟩ = some (.int .i64 n) ∧ W'.cell? ⟨w3.heap.size, 0, none⟩ = some (.int .i64 p) ∧ W'.cell? ⟨w3.heap.size, 1, none⟩ = some (.int .i64 q) ∧ Hid (Fr No w W')) (first | (go_split_ands; exact ⟨kc f (by assumption), kc f (by assumption), kc f (by assumption), kc f (by assumption), by assumption⟩) | (go_split_ands; exact ⟨by assumption, by assumption, by assumption, by assumption, kd (by assumption)⟩) | (go_split_ands; exact ⟨by assumption, by assumption, by assumption, by assumption, by assumption⟩) | (go_split_ands; exact ⟨kc (fr1 _ _) (by assumption), kc (fr1 _ _) (by assumption), kc (fr1 _ _) (by assumption), kc (fr1 _ _) (by assumption), hid (Fr.alloc (Hid.out (by assumption)) _)⟩)) (first | (go_at_call 16; refine (end_may _ _ _ (by first | exact H1.out | exact HPQ.out)).mono ?_; rintro e W1 ⟨rfl, f⟩; have AX := kb f AX; have GX := kb f GX; have FW := kf f FW; have O6 := ko f O6; dsimp only))
            all_goals
              have c0 := AX.out.cell 0
              have c1 := AX.out.cell 1
              have d0 := GX.out.cell 0
              have d1 := GX.out.cell 1
              simp only [List.getElem?_toArray, List.getElem?_cons_zero, List.getElem?_cons_succ] at c0 c1 d0 d1
              by_cases h6 : p + q < a + n
              · rw [if_pos h6] at hL
                go_wp2_with fail
                have FW := kd FW
                go_region_held3 (fun W' => W'.cell? ⟨w.heap.size, 0, none⟩ = some (.int .i64 a) ∧ W'.cell? ⟨w.heap.size, 1, none⟩ = some (.int .i64 n) ∧ W'.cell? ⟨w3.heap.size, 0, none⟩ = some (.int .i64 p) ∧ W'.cell? ⟨w3.heap.size, 1, none⟩ = some (.int .i64 q) ∧ Hid (Fr No w W')) (first | (go_split_ands; exact ⟨kc f (by assumption), kc f (by assumption), kc f (by assumption), kc f (by assumption), by assumption⟩) | (go_split_ands; exact ⟨by assumption, by assumption, by assumption, by assumption, kd (by assumption)⟩) | (go_split_ands; exact ⟨by assumption, by assumption, by assumption, by assumption, by assumption⟩) | (go_split_ands; exact ⟨kc (fr1 _ _) (by assumption), kc (fr1 _ _) (by assumption), kc (fr1 _ _) (by assumption), kc (fr1 _ _) (by assumption), hid (Fr.alloc (Hid.out (by assumption)) _)⟩)) (first | (go_at_call 16; refine (end_may _ _ _ (by first | exact H1.out | exact HPQ.out)).mono ?_; rintro e W1 ⟨rfl, f⟩; have AX := kb f AX; have GX := kb f GX; have FW := kf f FW; have O6 := ko f O6; dsimp only) | (go_at_call 39; refine (between_ok _ _ _ (by omega)).mono ?_; rintro e W1 ⟨rfl, f⟩; have AX := kb f AX; have GX := kb f GX; have FW := kf f FW; have O6 := ko f O6; dsimp only) | (refine app_sp_step (by rfl) (.tmp 46) (.tmp 52) (by rfl) (w3.heap.size + 1) _ [(a, p - a)] (by rfl) (O6.out.fr (fr1 _ _)) _ 1 _ [(p + q, a + n - (p + q))] (by rfl) (lit_rd2 _ _ _ _ (by simp)) (by simp) (by have := GX.out.lt; simp; omega) ?_; intro A9 c9 w9 o9 f9; have FW := hid (fr_own (FW.out.alloc _) (O6.out.fr (fr1 _ _)) (by have := HS.out; omega) f9); have c0 := (kbo (AX.out.alloc _) (O6.out.fr (fr1 _ _)) (by have := HS.out; omega) f9).cell 0; have c1 := (kbo (AX.out.alloc _) (O6.out.fr (fr1 _ _)) (by have := HS.out; omega) f9).cell 1; have d0 := (kbo (GX.out.alloc _) (O6.out.fr (fr1 _ _)) (by omega) f9).cell 0; have d1 := (kbo (GX.out.alloc _) (O6.out.fr (fr1 _ _)) (by omega) f9).cell 1; simp only [List.getElem?_toArray, List.getElem?_cons_zero, List.getElem?_cons_succ] at c0 c1 d0 d1; have O9 := hid o9; clear o9 f9))
                all_goals
                  subst hL
                  go_wp2
                  go_ret
                  exact .mk O9.out.rd FW.out
              · rw [if_neg h6] at hL
                subst hL
                go_wp2
                go_ret
                exact .mk (by simpa using O6.out.rd) FW.out
          · rw [if_neg h5] at hL
            have O6 := hid (Out.nil (w3.heap.size + 1) (w3.alloc (.cells #[.int .i64 p, .int .i64 q] 23)))
            go_wp2_with fail
            have FW := kd FW
            go_region_held3 (fun W' => W'.cell? ⟨w.heap.size, 0, none⟩ = some (.int .i64 a) ∧ W'.cell? ⟨w.heap.size, 1, none⟩ = some (.int .i64 n) ∧ W'.cell? ⟨w3.heap.size, 0, none⟩ = some (.int .i64 p) ∧ W'.cell? ⟨w3.heap.size, 1, none⟩ = some (.int .i64 q) ∧ Hid (Fr No w W')) (first | (go_split_ands; exact ⟨kc f (by assumption), kc f (by assumption), kc f (by assumption), kc f (by assumption), by assumption⟩) | (go_split_ands; exact ⟨by assumption, by assumption, by assumption, by assumption, kd (by assumption)⟩) | (go_split_ands; exact ⟨by assumption, by assumption, by assumption, by assumption, by assumption⟩) | (go_split_ands; exact ⟨kc (fr1 _ _) (by assumption), kc (fr1 _ _) (by assumption), kc (fr1 _ _) (by assumption), kc (fr1 _ _) (by assumption), hid (Fr.alloc (Hid.out (by assumption)) _)⟩)) (first | (go_at_call 16; refine (end_may _ _ _ (by first | exact H1.out | exact HPQ.out)).mono ?_; rintro e W1 ⟨rfl, f⟩; have AX := kb f AX; have GX := kb f GX; have FW := kf f FW; have O6 := ko f O6; dsimp only))
            all_goals
              have c0 := AX.out.cell 0
              have c1 := AX.out.cell 1
              have d0 := GX.out.cell 0
              have d1 := GX.out.cell 1
              simp only [List.getElem?_toArray, List.getElem?_cons_zero, List.getElem?_cons_succ] at c0 c1 d0 d1
              by_cases h6 : p + q < a + n
              · rw [if_pos h6] at hL
                go_wp2_with fail
                have FW := kd FW
                go_region_held3 (fun W' => W'.cell? ⟨w.heap.size, 0, none⟩ = some (.int .i64 a) ∧ W'.cell? ⟨w.heap.size, 1, none⟩ = some (.int .i64 n) ∧ W'.cell? ⟨w3.heap.size, 0, none⟩ = some (.int .i64 p) ∧ W'.cell? ⟨w3.heap.size, 1, none⟩ = some (.int .i64 q) ∧ Hid (Fr No w W')) (first | (go_split_ands; exact ⟨kc f (by assumption), kc f (by assumption), kc f (by assumption), kc f (by assumption), by assumption⟩) | (go_split_ands; exact ⟨by assumption, by assumption, by assumption, by assumption, kd (by assumption)⟩) | (go_split_ands; exact ⟨by assumption, by assumption, by assumption, by assumption, by assumption⟩) | (go_split_ands; exact ⟨kc (fr1 _ _) (by assumption), kc (fr1 _ _) (by assumption), kc (fr1 _ _) (by assumption), kc (fr1 _ _) (by assumption), hid (Fr.alloc (Hid.out (by assumption)) _)⟩)) (first | (go_at_call 16; refine (end_may _ _ _ (by first | exact H1.out | exact HPQ.out)).mono ?_; rintro e W1 ⟨rfl, f⟩; have AX := kb f AX; have GX := kb f GX; have FW := kf f FW; have O6 := ko f O6; dsimp only) | (go_at_call 39; refine (between_ok _ _ _ (by omega)).mono ?_; rintro e W1 ⟨rfl, f⟩; have AX := kb f AX; have GX := kb f GX; have FW := kf f FW; have O6 := ko f O6; dsimp only) | (refine app_sp_step (by rfl) (.tmp 46) (.tmp 52) (by rfl) (w3.heap.size + 1) _ [] (by rfl) (O6.out.fr (fr1 _ _)) _ 1 _ [(p + q, a + n - (p + q))] (by rfl) (lit_rd2 _ _ _ _ (by simp)) (by simp) (by have := GX.out.lt; simp; omega) ?_; intro A9 c9 w9 o9 f9; have FW := hid (fr_own (FW.out.alloc _) (O6.out.fr (fr1 _ _)) (by have := HS.out; omega) f9); have c0 := (kbo (AX.out.alloc _) (O6.out.fr (fr1 _ _)) (by have := HS.out; omega) f9).cell 0; have c1 := (kbo (AX.out.alloc _) (O6.out.fr (fr1 _ _)) (by have := HS.out; omega) f9).cell 1; have d0 := (kbo (GX.out.alloc _) (O6.out.fr (fr1 _ _)) (by omega) f9).cell 0; have d1 := (kbo (GX.out.alloc _) (O6.out.fr (fr1 _ _)) (by omega) f9).cell 1; simp only [List.getElem?_toArray, List.getElem?_cons_zero, List.getElem?_cons_succ] at c0 c1 d0 d1; have O9 := hid o9; clear o9 f9))
                all_goals
                  subst hL
                  go_wp2
                  go_ret
                  exact .mk O9.out.rd FW.out
              · rw [if_neg h6] at hL
                subst hL
                go_wp2
                go_ret
                exact .mk (by simpa using O6.out.rd) FW.out
    · rw [cut_no (fun h => h2 h.2)] at hL
      subst hL
      have H2 := hid h2
      clear h1 h2
      go_enter Try.func12, Try.ntmps12
      go_wp2_with fail
      refine (may_ok a n _ HA.out).mono ?_
      rintro e w1 ⟨rfl, f1⟩
      rw [decide_eq_true H1.out]
      have b1 := kb f1 B0
      have d0 := b1.out.cell 0
      have d1 := b1.out.cell 1
      simp only [List.getElem?_toArray, List.getElem?_cons_zero, List.getElem?_cons_succ] at d0 d1
      have F1 := hid f1
      clear f1
      go_wp2_with fail
      refine (may_ok b m _ HB.out).mono ?_
      rintro e w2 ⟨rfl, f2⟩
      rw [decide_eq_false H2.out]
      have FW := kf (F1.out.trans f2) HW
      clear f2 d0 d1
      go_wp2
      go_ret
      exact .mk (RdS.nil _ _) FW.out
  · rw [cut_no (fun h => h1 h.1)] at hL
    subst hL
    have H1 := hid h1
    clear h1
    go_enter Try.func12, Try.ntmps12
    go_wp2_with fail
    refine (may_ok a n _ HA.out).mono ?_
    rintro e w1 ⟨rfl, f1⟩
    rw [decide_eq_false H1.out]
    have FW := kf f1 HW
    clear f1
    go_wp2
    go_ret
    exact .mk (RdS.nil _ _) FW.out
end Go.Proofs.Ythldppgbopiaiaa.SpF
