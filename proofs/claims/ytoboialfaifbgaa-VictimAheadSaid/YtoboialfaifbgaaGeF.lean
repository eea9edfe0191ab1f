/- Contracts: whether a device has a span, whether a disk is of a geometry; the document's Band and Check. Condition: all numbers are 64 bits. -/
import Derived.Test.YtoboialfaifbgaaGeEk
import Derived.Test.YtoboialfaifbgaaSqB
namespace Go.Proofs.Ytoboialfaifbgaa.GeF
open Go.RowKit MSep MGeM GeA GeB GeC GeD GeE GeEk

theorem cko_no {g : Ge} {a m : Int} (h : ¬ mayG g) : cko g a m = 70 := by unfold cko; rw [if_neg h]
theorem cko_bad {g : Ge} {a m : Int} (h : mayG g) (h2 : ¬ (MSpM.may (a, m) ∧ m ≠ 0 ∧ a + m ≤ (lay g).t)) : cko g a m = 71 := by
  unfold cko
  rw [if_pos h]
  exact if_neg h2
theorem cko_ok {g : Ge} {a m : Int} (h : mayG g) (h2 : MSpM.may (a, m) ∧ m ≠ 0 ∧ a + m ≤ (lay g).t) : cko g a m = 0 := by
  unfold cko
  rw [if_pos h]
  exact if_pos h2
theorem bs_alloc {w : World} {g : Nat} {a n : Int} (h : BS w g a n) (o : Obj) : BS (w.alloc o) g a n := Blk.alloc h o
set_option maxRecDepth 100000 in
set_option maxHeartbeats 2000000 in
theorem check_ok (c s n l k p m : Int) (w : World) (hs : -9223372036854775808 ≤ s ∧ s ≤ 9223372036854775807) (hw : SpA.wf (p, m)) : Calls Try.prog 85 #[.agg #[.int .i64 c, .int .i64 s, .int .i64 n, .int .i64 l, .int .i64 k], .agg #[.int .i64 p, .int .i64 m]] w fun e w' => e = .returned (.int .i64 (cko ⟨c, s, n, l, k⟩ p m)) ∧ Fr No w w' := by
  have HL := hid (fun W => layout_ok c s n l k W hs)
  have HF := hid ((fr1 w (bg c s n l k)).alloc (bs_ p m))
  have P0 := hid (BG2 w c s n l k (bs_ p m))
  have P1 := hid (BS.new2 w (bg c s n l k) p m)
  have HW := hid hw
  by_cases hm : mayG ⟨c, s, n, l, k⟩
  · have hg := good hm.1
    rw [show lyo ⟨c, s, n, l, k⟩ = (lay ⟨c, s, n, l, k⟩, 0) by unfold lyo; rw [if_pos hm]] at HL
    obtain ⟨y, hy⟩ : ∃ y, lay ⟨c, s, n, l, k⟩ = y := ⟨_, rfl⟩
    rw [hy] at HL hg
    obtain ⟨a, r, q, b, d, t, x, u⟩ := y
    have t1 := hg.t1
    have t2 := hg.t2
    dsimp only at t1 t2 HL
    have ht : (lay ⟨c, s, n, l, k⟩).t = t := by rw [hy]
    by_cases h1 : MSpM.may (p, m)
    · have HB := hid (decide_eq_true h1)
      have h1' := h1
      unfold MSpM.may at h1'
      dsimp only at h1'
      by_cases h2 : m = 0
      · have h2b : (m == 0) = true := by simp [h2]
        rw [show cko ⟨c, s, n, l, k⟩ p m = 71 from cko_bad hm (fun h => h.2.1 h2)]
        clear hm hg hy ht t1 t2
        clear h1 h1' h2
        go_enter Try.func85, Try.ntmps85
        go_wp2_with ((with_reducible refine ld_geom rfl (.tmp 2) rfl w.heap.size ?_ P0.out ?_); · rfl)
        refine (HL.out _).mono ?_
        rintro e w1 ⟨rfl, f1⟩
        have S1 : w.heap.size + 2 ≤ w1.heap.size := by have := f1.size; simp at this; omega
        have FW := hid ((HF.out.trans f1).alloc (by_ a r q b d t x u))
        have P1 := hid (show BS (w1.alloc (by_ a r q b d t x u)) (w.heap.size + 1) p m from (P1.out.fr f1 : Blk _ _ _ _).alloc _)
        have P2 := hid (BL.new w1 a r q b d t x u)
        clear f1 HL P0 HF
        obtain ⟨c0, c1⟩ := P1.out.cells
        obtain ⟨_, _, _, _, _, d5, _, _⟩ := P2.out.cells
        go_wp2_with fail
        have FW := kd FW
        refine wp_region_noPanic ?_
        refine wp_region_held_drew (S := (fun W' => W'.cell? ⟨w.heap.size + 1, 0, none⟩ = some (.int .i64 p) ∧ W'.cell? ⟨w.heap.size + 1, 1, none⟩ = some (.int .i64 m) ∧ W'.cell? ⟨w1.heap.size, 5, none⟩ = some (.int .i64 t) ∧ Hid (Fr No w W'))) (by kernel_rfl) ?_ (fun hHeld => ?_)
        · (try dsimp only); (first | (go_split_ands; exact ⟨kc f (by assumption), kc f (by assumption), kc f (by assumption), by assumption⟩) | (go_split_ands; exact ⟨(by assumption), (by assumption), (by assumption), by assumption⟩) | (go_split_ands; exact ⟨kc (fr1 _ _) (by assumption), kc (fr1 _ _) (by assumption), kc (fr1 _ _) (by assumption), kfa (by assumption)⟩))
        refine wpAnyH_take (i := 0) (v := ?v1) rfl (by kernel_rfl) (by kernel_rfl) (by kernel_rfl) (fun _ _ _ h => h) (Or.inl ⟨by kernel_rfl, ?y1⟩) (by assumption) ?_
        case y1 => (intro w hSw; (try dsimp only at hSw); go_simp; all_goals with_reducible rfl)
        try simp only [Act.put, List.getElem_toArray, List.getElem_cons_zero, List.setIfInBounds_toArray, List.set_cons_zero, List.set_cons_succ]
        refine wpAnyH_ready (rs := [1]) (by kernel_rfl) (by simp) (AllReadyH.cons rfl (fun K hK => ?_) AllReadyH.nil)
        go_simp
        go_at_call 99
        refine (SpA.may_ok p m _ HW.out).mono ?_
        rintro e W1 ⟨rfl, f⟩
        have FW := kf f hHeld.2.2.2
        rw [HB.out]
        dsimp only
        refine hK.out _ _ ?_ (fun hHeld => ?_)
        · (try dsimp only); (first | (go_split_ands; exact ⟨kc f (by assumption), kc f (by assumption), kc f (by assumption), by assumption⟩) | (go_split_ands; exact ⟨(by assumption), (by assumption), (by assumption), by assumption⟩) | (go_split_ands; exact ⟨kc (fr1 _ _) (by assumption), kc (fr1 _ _) (by assumption), kc (fr1 _ _) (by assumption), kfa (by assumption)⟩))
        clear hK K
        try simp only [Act.put, List.getElem_toArray, List.getElem_cons_succ, List.getElem_cons_zero, List.setIfInBounds_toArray, List.set_cons_zero, List.set_cons_succ]
        refine wpAnyH_take (i := 2) (v := (.bool false)) rfl (by kernel_rfl) (by kernel_rfl) (by kernel_rfl) (fun _ _ _ h => h) (Or.inl ⟨by kernel_rfl, fun w hSw => by first | (go_simp; done) | (go_simp; with_reducible rfl) | (go_simp; omega)⟩) (by assumption) ?_
        try simp only [Act.put, List.getElem_toArray, List.getElem_cons_succ, List.getElem_cons_zero, List.setIfInBounds_toArray, List.set_cons_zero, List.set_cons_succ]
        refine wpAnyH_take (i := 3) (v := (.bool false)) rfl (by kernel_rfl) (by kernel_rfl) (by kernel_rfl) (fun _ _ _ h => h) (Or.inl ⟨by kernel_rfl, fun w hSw => by first | (go_simp; done) | (go_simp; with_reducible rfl) | (go_simp; omega)⟩) (by assumption) ?_
        try simp only [Act.put, List.getElem_toArray, List.getElem_cons_succ, List.getElem_cons_zero, List.setIfInBounds_toArray, List.set_cons_zero, List.set_cons_succ]
        refine wpAnyH_take (i := 4) (v := ?v2) rfl (by kernel_rfl) (by kernel_rfl) (by kernel_rfl) (fun _ _ _ h => h) (Or.inl ⟨by kernel_rfl, ?y2⟩) (by assumption) ?_
        case y2 => (intro w hSw; (try dsimp only at hSw); go_simp; all_goals with_reducible rfl)
        try simp only [Act.put, List.getElem_toArray, List.getElem_cons_succ, List.getElem_cons_zero, List.setIfInBounds_toArray, List.set_cons_zero, List.set_cons_succ]
        refine wpAnyH_take (i := 5) (v := ?v3) rfl (by kernel_rfl) (by kernel_rfl) (by kernel_rfl) (fun _ _ _ h => h) (Or.inl ⟨by kernel_rfl, ?y3⟩) (by assumption) ?_
        case y3 => (intro w hSw; (try dsimp only at hSw); go_simp; all_goals with_reducible rfl)
        try simp only [Act.put, List.getElem_toArray, List.getElem_cons_succ, List.getElem_cons_zero, List.setIfInBounds_toArray, List.set_cons_zero, List.set_cons_succ]
        refine wpAnyH_take (i := 6) (v := (.bool true)) rfl (by kernel_rfl) (by kernel_rfl) (by kernel_rfl) (fun _ _ _ h => h) (Or.inl ⟨by kernel_rfl, fun w hSw => by first | (go_simp; done) | (go_simp; with_reducible rfl) | (go_simp; omega)⟩) (by assumption) ?_
        try simp only [Act.put, List.getElem_toArray, List.getElem_cons_succ, List.getElem_cons_zero, List.setIfInBounds_toArray, List.set_cons_zero, List.set_cons_succ]
        refine wpAnyH_take (i := 7) (v := (.bool true)) rfl (by kernel_rfl) (by kernel_rfl) (by kernel_rfl) (fun _ _ _ h => h) (Or.inl ⟨by kernel_rfl, fun w hSw => by first | (go_simp; done) | (go_simp; with_reducible rfl) | (go_simp; omega)⟩) (by assumption) ?_
        try simp only [Act.put, List.getElem_toArray, List.getElem_cons_succ, List.getElem_cons_zero, List.setIfInBounds_toArray, List.set_cons_zero, List.set_cons_succ]
        refine wpAnyH_take (i := 8) (v := (.bool true)) rfl (by kernel_rfl) (by kernel_rfl) (by kernel_rfl) (fun _ _ _ h => h) (Or.inl ⟨by kernel_rfl, fun w hSw => by first | (go_simp; done) | (go_simp; with_reducible rfl) | (go_simp; omega)⟩) (by assumption) ?_
        try simp only [Act.put, List.getElem_toArray, List.getElem_cons_succ, List.getElem_cons_zero, List.setIfInBounds_toArray, List.set_cons_zero, List.set_cons_succ]
        refine wpAnyH_take (i := 9) (v := undef) rfl (by kernel_rfl) (by kernel_rfl) (by kernel_rfl) (fun _ _ _ h => h) (Or.inr ⟨by kernel_rfl, rfl⟩) (by assumption) ?_
        try simp only [Act.put, List.getElem_toArray, List.getElem_cons_succ, List.getElem_cons_zero, List.setIfInBounds_toArray, List.set_cons_zero, List.set_cons_succ]
        refine wpAnyH_take (i := 10) (v := undef) rfl (by kernel_rfl) (by kernel_rfl) (by kernel_rfl) (fun _ _ _ h => h) (Or.inr ⟨by kernel_rfl, rfl⟩) (by assumption) ?_
        try simp only [Act.put, List.getElem_toArray, List.getElem_cons_succ, List.getElem_cons_zero, List.setIfInBounds_toArray, List.set_cons_zero, List.set_cons_succ]
        refine wpAnyH_take (i := 11) (v := undef) rfl (by kernel_rfl) (by kernel_rfl) (by kernel_rfl) (fun _ _ _ h => h) (Or.inr ⟨by kernel_rfl, rfl⟩) (by assumption) ?_
        try simp only [Act.put, List.getElem_toArray, List.getElem_cons_succ, List.getElem_cons_zero, List.setIfInBounds_toArray, List.set_cons_zero, List.set_cons_succ]
        refine wpAnyH_take (i := 12) (v := undef) rfl (by kernel_rfl) (by kernel_rfl) (by kernel_rfl) (fun _ _ _ h => h) (Or.inr ⟨by kernel_rfl, rfl⟩) (by assumption) ?_
        try simp only [Act.put, List.getElem_toArray, List.getElem_cons_succ, List.getElem_cons_zero, List.setIfInBounds_toArray, List.set_cons_zero, List.set_cons_succ]
        refine wpAnyH_take (i := 13) (v := undef) rfl (by kernel_rfl) (by kernel_rfl) (by kernel_rfl) (fun _ _ _ h => h) (Or.inr ⟨by kernel_rfl, rfl⟩) (by assumption) ?_
        try simp only [Act.put, List.getElem_toArray, List.getElem_cons_succ, List.getElem_cons_zero, List.setIfInBounds_toArray, List.set_cons_zero, List.set_cons_succ]
        refine wpAnyH_take (i := 14) (v := (.bool true)) rfl (by kernel_rfl) (by kernel_rfl) (by kernel_rfl) (fun _ _ _ h => h) (Or.inl ⟨by kernel_rfl, fun w hSw => by first | (go_simp; done) | (go_simp; with_reducible rfl) | (go_simp; omega)⟩) (by assumption) ?_
        try simp only [Act.put, List.getElem_toArray, List.getElem_cons_succ, List.getElem_cons_zero, List.setIfInBounds_toArray, List.set_cons_zero, List.set_cons_succ]
        refine wpAnyH_done (by kernel_rfl) ?_ _
        refine NoPanic.normal ?_
        go_wp2
        go_ret
        exact ⟨rfl, by first | exact FW.out | exact FW.out.drewN _ | exact FW.out.drew⟩
      · have h2b : (m == 0) = false := by simp [h2]
        by_cases h3 : t < p + m
        · have hq : wrap64 (p + m) = p + m := w64 _ (by omega)
          rw [show cko ⟨c, s, n, l, k⟩ p m = 71 from cko_bad hm (fun h => by have := h.2.2; rw [ht] at this; omega)]
          clear hm hg hy ht t1 t2
          clear h1 h1' h2
          go_enter Try.func85, Try.ntmps85
          go_wp2_with ((with_reducible refine ld_geom rfl (.tmp 2) rfl w.heap.size ?_ P0.out ?_); · rfl)
          refine (HL.out _).mono ?_
          rintro e w1 ⟨rfl, f1⟩
          have S1 : w.heap.size + 2 ≤ w1.heap.size := by have := f1.size; simp at this; omega
          have FW := hid ((HF.out.trans f1).alloc (by_ a r q b d t x u))
          have P1 := hid (show BS (w1.alloc (by_ a r q b d t x u)) (w.heap.size + 1) p m from (P1.out.fr f1 : Blk _ _ _ _).alloc _)
          have P2 := hid (BL.new w1 a r q b d t x u)
          clear f1 HL P0 HF
          obtain ⟨c0, c1⟩ := P1.out.cells
          obtain ⟨_, _, _, _, _, d5, _, _⟩ := P2.out.cells
          go_wp2_with fail
          have FW := kd FW
          refine wp_region_noPanic ?_
          refine wp_region_held_drew (S := (fun W' => W'.cell? ⟨w.heap.size + 1, 0, none⟩ = some (.int .i64 p) ∧ W'.cell? ⟨w.heap.size + 1, 1, none⟩ = some (.int .i64 m) ∧ W'.cell? ⟨w1.heap.size, 5, none⟩ = some (.int .i64 t) ∧ Hid (Fr No w W'))) (by kernel_rfl) ?_ (fun hHeld => ?_)
          · (try dsimp only); (first | (go_split_ands; exact ⟨kc f (by assumption), kc f (by assumption), kc f (by assumption), by assumption⟩) | (go_split_ands; exact ⟨(by assumption), (by assumption), (by assumption), by assumption⟩) | (go_split_ands; exact ⟨kc (fr1 _ _) (by assumption), kc (fr1 _ _) (by assumption), kc (fr1 _ _) (by assumption), kfa (by assumption)⟩))
          refine wpAnyH_take (i := 0) (v := ?v4) rfl (by kernel_rfl) (by kernel_rfl) (by kernel_rfl) (fun _ _ _ h => h) (Or.inl ⟨by kernel_rfl, ?y4⟩) (by assumption) ?_
          case y4 => (intro w hSw; (try dsimp only at hSw); go_simp; all_goals with_reducible rfl)
          try simp only [Act.put, List.getElem_toArray, List.getElem_cons_zero, List.setIfInBounds_toArray, List.set_cons_zero, List.set_cons_succ]
          refine wpAnyH_ready (rs := [1]) (by kernel_rfl) (by simp) (AllReadyH.cons rfl (fun K hK => ?_) AllReadyH.nil)
          go_simp
          go_at_call 99
          refine (SpA.may_ok p m _ HW.out).mono ?_
          rintro e W1 ⟨rfl, f⟩
          have FW := kf f hHeld.2.2.2
          rw [HB.out]
          dsimp only
          refine hK.out _ _ ?_ (fun hHeld => ?_)
          · (try dsimp only); (first | (go_split_ands; exact ⟨kc f (by assumption), kc f (by assumption), kc f (by assumption), by assumption⟩) | (go_split_ands; exact ⟨(by assumption), (by assumption), (by assumption), by assumption⟩) | (go_split_ands; exact ⟨kc (fr1 _ _) (by assumption), kc (fr1 _ _) (by assumption), kc (fr1 _ _) (by assumption), kfa (by assumption)⟩))
          clear hK K
          try simp only [Act.put, List.getElem_toArray, List.getElem_cons_succ, List.getElem_cons_zero, List.setIfInBounds_toArray, List.set_cons_zero, List.set_cons_succ]
          refine wpAnyH_take (i := 2) (v := (.bool false)) rfl (by kernel_rfl) (by kernel_rfl) (by kernel_rfl) (fun _ _ _ h => h) (Or.inl ⟨by kernel_rfl, fun w hSw => by first | (go_simp; done) | (go_simp; with_reducible rfl) | (go_simp; omega)⟩) (by assumption) ?_
          try simp only [Act.put, List.getElem_toArray, List.getElem_cons_succ, List.getElem_cons_zero, List.setIfInBounds_toArray, List.set_cons_zero, List.set_cons_succ]
          refine wpAnyH_take (i := 3) (v := (.bool false)) rfl (by kernel_rfl) (by kernel_rfl) (by kernel_rfl) (fun _ _ _ h => h) (Or.inl ⟨by kernel_rfl, fun w hSw => by first | (go_simp; done) | (go_simp; with_reducible rfl) | (go_simp; omega)⟩) (by assumption) ?_
          try simp only [Act.put, List.getElem_toArray, List.getElem_cons_succ, List.getElem_cons_zero, List.setIfInBounds_toArray, List.set_cons_zero, List.set_cons_succ]
          refine wpAnyH_take (i := 4) (v := ?v5) rfl (by kernel_rfl) (by kernel_rfl) (by kernel_rfl) (fun _ _ _ h => h) (Or.inl ⟨by kernel_rfl, ?y5⟩) (by assumption) ?_
          case y5 => (intro w hSw; (try dsimp only at hSw); go_simp; all_goals with_reducible rfl)
          try simp only [Act.put, List.getElem_toArray, List.getElem_cons_succ, List.getElem_cons_zero, List.setIfInBounds_toArray, List.set_cons_zero, List.set_cons_succ]
          refine wpAnyH_take (i := 5) (v := ?v6) rfl (by kernel_rfl) (by kernel_rfl) (by kernel_rfl) (fun _ _ _ h => h) (Or.inl ⟨by kernel_rfl, ?y6⟩) (by assumption) ?_
          case y6 => (intro w hSw; (try dsimp only at hSw); go_simp; all_goals with_reducible rfl)
          try simp only [Act.put, List.getElem_toArray, List.getElem_cons_succ, List.getElem_cons_zero, List.setIfInBounds_toArray, List.set_cons_zero, List.set_cons_succ]
          refine wpAnyH_take (i := 6) (v := (.bool false)) rfl (by kernel_rfl) (by kernel_rfl) (by kernel_rfl) (fun _ _ _ h => h) (Or.inl ⟨by kernel_rfl, fun w hSw => by first | (go_simp; done) | (go_simp; with_reducible rfl) | (go_simp; omega)⟩) (by assumption) ?_
          try simp only [Act.put, List.getElem_toArray, List.getElem_cons_succ, List.getElem_cons_zero, List.setIfInBounds_toArray, List.set_cons_zero, List.set_cons_succ]
          refine wpAnyH_take (i := 7) (v := (.bool false)) rfl (by kernel_rfl) (by kernel_rfl) (by kernel_rfl) (fun _ _ _ h => h) (Or.inl ⟨by kernel_rfl, fun w hSw => by first | (go_simp; done) | (go_simp; with_reducible rfl) | (go_simp; omega)⟩) (by assumption) ?_
          try simp only [Act.put, List.getElem_toArray, List.getElem_cons_succ, List.getElem_cons_zero, List.setIfInBounds_toArray, List.set_cons_zero, List.set_cons_succ]
          refine wpAnyH_take (i := 8) (v := (.bool false)) rfl (by kernel_rfl) (by kernel_rfl) (by kernel_rfl) (fun _ _ _ h => h) (Or.inl ⟨by kernel_rfl, fun w hSw => by first | (go_simp; done) | (go_simp; with_reducible rfl) | (go_simp; omega)⟩) (by assumption) ?_
          try simp only [Act.put, List.getElem_toArray, List.getElem_cons_succ, List.getElem_cons_zero, List.setIfInBounds_toArray, List.set_cons_zero, List.set_cons_succ]
          refine wpAnyH_take (i := 9) (v := ?v7) rfl (by kernel_rfl) (by kernel_rfl) (by kernel_rfl) (fun _ _ _ h => h) (Or.inl ⟨by kernel_rfl, ?y7⟩) (by assumption) ?_
          case y7 => (intro w hSw; (try dsimp only at hSw); go_simp; all_goals with_reducible rfl)
          try simp only [Act.put, List.getElem_toArray, List.getElem_cons_succ, List.getElem_cons_zero, List.setIfInBounds_toArray, List.set_cons_zero, List.set_cons_succ]
          refine wpAnyH_take (i := 11) (v := ?v8) rfl (by kernel_rfl) (by kernel_rfl) (by kernel_rfl) (fun _ _ _ h => h) (Or.inl ⟨by kernel_rfl, ?y8⟩) (by assumption) ?_
          case y8 => (intro w hSw; (try dsimp only at hSw); go_simp; all_goals with_reducible rfl)
          try simp only [Act.put, List.getElem_toArray, List.getElem_cons_succ, List.getElem_cons_zero, List.setIfInBounds_toArray, List.set_cons_zero, List.set_cons_succ]
          refine wpAnyH_take (i := 12) (v := ?v9) rfl (by kernel_rfl) (by kernel_rfl) (by kernel_rfl) (fun _ _ _ h => h) (Or.inl ⟨by kernel_rfl, ?y9⟩) (by assumption) ?_
          case y9 => (intro w hSw; (try dsimp only at hSw); go_simp; all_goals with_reducible rfl)
          try simp only [Act.put, List.getElem_toArray, List.getElem_cons_succ, List.getElem_cons_zero, List.setIfInBounds_toArray, List.set_cons_zero, List.set_cons_succ]
          refine wpAnyH_ready (rs := [10]) (by kernel_rfl) (by simp) (AllReadyH.cons rfl (fun K hK => ?_) AllReadyH.nil)
          go_simp
          go_at_call 101
          refine (SqB.end_may p m _ (of_decide_eq_true HB.out)).mono ?_
          rintro e W1 ⟨rfl, f⟩
          have FW := kf f hHeld.2.2.2
          dsimp only
          refine hK.out _ _ ?_ (fun hHeld => ?_)
          · (try dsimp only); (first | (go_split_ands; exact ⟨kc f (by assumption), kc f (by assumption), kc f (by assumption), by assumption⟩) | (go_split_ands; exact ⟨(by assumption), (by assumption), (by assumption), by assumption⟩) | (go_split_ands; exact ⟨kc (fr1 _ _) (by assumption), kc (fr1 _ _) (by assumption), kc (fr1 _ _) (by assumption), kfa (by assumption)⟩))
          clear hK K
          try simp only [Act.put, List.getElem_toArray, List.getElem_cons_succ, List.getElem_cons_zero, List.setIfInBounds_toArray, List.set_cons_zero, List.set_cons_succ]
          refine wpAnyH_take (i := 13) (v := (.bool true)) rfl (by kernel_rfl) (by kernel_rfl) (by kernel_rfl) (fun _ _ _ h => h) (Or.inl ⟨by kernel_rfl, fun w hSw => by first | (go_simp; done) | (go_simp; with_reducible rfl) | (go_simp; omega)⟩) (by assumption) ?_
          try simp only [Act.put, List.getElem_toArray, List.getElem_cons_succ, List.getElem_cons_zero, List.setIfInBounds_toArray, List.set_cons_zero, List.set_cons_succ]
          refine wpAnyH_take (i := 14) (v := (.bool true)) rfl (by kernel_rfl) (by kernel_rfl) (by kernel_rfl) (fun _ _ _ h => h) (Or.inl ⟨by kernel_rfl, fun w hSw => by first | (go_simp; done) | (go_simp; with_reducible rfl) | (go_simp; omega)⟩) (by assumption) ?_
          try simp only [Act.put, List.getElem_toArray, List.getElem_cons_succ, List.getElem_cons_zero, List.setIfInBounds_toArray, List.set_cons_zero, List.set_cons_succ]
          refine wpAnyH_done (by kernel_rfl) ?_ _
          refine NoPanic.normal ?_
          go_wp2
          go_ret
          exact ⟨rfl, by first | exact FW.out | exact FW.out.drewN _ | exact FW.out.drew⟩
        · have hq : wrap64 (p + m) = p + m := w64 _ (by omega)
          have h3' : p + m ≤ t := by omega
          rw [show cko ⟨c, s, n, l, k⟩ p m = 0 from cko_ok hm ⟨h1, h2, by rw [ht]; omega⟩]
          clear hm hg hy ht t1 t2
          clear h1 h1' h2
          go_enter Try.func85, Try.ntmps85
          go_wp2_with ((with_reducible refine ld_geom rfl (.tmp 2) rfl w.heap.size ?_ P0.out ?_); · rfl)
          refine (HL.out _).mono ?_
          rintro e w1 ⟨rfl, f1⟩
          have S1 : w.heap.size + 2 ≤ w1.heap.size := by have := f1.size; simp at this; omega
          have FW := hid ((HF.out.trans f1).alloc (by_ a r q b d t x u))
          have P1 := hid (show BS (w1.alloc (by_ a r q b d t x u)) (w.heap.size + 1) p m from (P1.out.fr f1 : Blk _ _ _ _).alloc _)
          have P2 := hid (BL.new w1 a r q b d t x u)
          clear f1 HL P0 HF
          obtain ⟨c0, c1⟩ := P1.out.cells
          obtain ⟨_, _, _, _, _, d5, _, _⟩ := P2.out.cells
          go_wp2_with fail
          have FW := kd FW
          refine wp_region_noPanic ?_
          refine wp_region_held_drew (S := (fun W' => W'.cell? ⟨w.heap.size + 1, 0, none⟩ = some (.int .i64 p) ∧ W'.cell? ⟨w.heap.size + 1, 1, none⟩ = some (.int .i64 m) ∧ W'.cell? ⟨w1.heap.size, 5, none⟩ = some (.int .i64 t) ∧ Hid (Fr No w W'))) (by kernel_rfl) ?_ (fun hHeld => ?_)
          · (try dsimp only); (first | (go_split_ands; exact ⟨kc f (by assumption), kc f (by assumption), kc f (by assumption), by assumption⟩) | (go_split_ands; exact ⟨(by assumption), (by assumption), (by assumption), by assumption⟩) | (go_split_ands; exact ⟨kc (fr1 _ _) (by assumption), kc (fr1 _ _) (by assumption), kc (fr1 _ _) (by assumption), kfa (by assumption)⟩))
          refine wpAnyH_take (i := 0) (v := ?v10) rfl (by kernel_rfl) (by kernel_rfl) (by kernel_rfl) (fun _ _ _ h => h) (Or.inl ⟨by kernel_rfl, ?y10⟩) (by assumption) ?_
          case y10 => (intro w hSw; (try dsimp only at hSw); go_simp; all_goals with_reducible rfl)
          try simp only [Act.put, List.getElem_toArray, List.getElem_cons_zero, List.setIfInBounds_toArray, List.set_cons_zero, List.set_cons_succ]
          refine wpAnyH_ready (rs := [1]) (by kernel_rfl) (by simp) (AllReadyH.cons rfl (fun K hK => ?_) AllReadyH.nil)
          go_simp
          go_at_call 99
          refine (SpA.may_ok p m _ HW.out).mono ?_
          rintro e W1 ⟨rfl, f⟩
          have FW := kf f hHeld.2.2.2
          rw [HB.out]
          dsimp only
          refine hK.out _ _ ?_ (fun hHeld => ?_)
          · (try dsimp only); (first | (go_split_ands; exact ⟨kc f (by assumption), kc f (by assumption), kc f (by assumption), by assumption⟩) | (go_split_ands; exact ⟨(by assumption), (by assumption), (by assumption), by assumption⟩) | (go_split_ands; exact ⟨kc (fr1 _ _) (by assumption), kc (fr1 _ _) (by assumption), kc (fr1 _ _) (by assumption), kfa (by assumption)⟩))
          clear hK K
          try simp only [Act.put, List.getElem_toArray, List.getElem_cons_succ, List.getElem_cons_zero, List.setIfInBounds_toArray, List.set_cons_zero, List.set_cons_succ]
          refine wpAnyH_take (i := 2) (v := (.bool false)) rfl (by kernel_rfl) (by kernel_rfl) (by kernel_rfl) (fun _ _ _ h => h) (Or.inl ⟨by kernel_rfl, fun w hSw => by first | (go_simp; done) | (go_simp; with_reducible rfl) | (go_simp; omega)⟩) (by assumption) ?_
          try simp only [Act.put, List.getElem_toArray, List.getElem_cons_succ, List.getElem_cons_zero, List.setIfInBounds_toArray, List.set_cons_zero, List.set_cons_succ]
          refine wpAnyH_take (i := 3) (v := (.bool false)) rfl (by kernel_rfl) (by kernel_rfl) (by kernel_rfl) (fun _ _ _ h => h) (Or.inl ⟨by kernel_rfl, fun w hSw => by first | (go_simp; done) | (go_simp; with_reducible rfl) | (go_simp; omega)⟩) (by assumption) ?_
          try simp only [Act.put, List.getElem_toArray, List.getElem_cons_succ, List.getElem_cons_zero, List.setIfInBounds_toArray, List.set_cons_zero, List.set_cons_succ]
          refine wpAnyH_take (i := 4) (v := ?v11) rfl (by kernel_rfl) (by kernel_rfl) (by kernel_rfl) (fun _ _ _ h => h) (Or.inl ⟨by kernel_rfl, ?y11⟩) (by assumption) ?_
          case y11 => (intro w hSw; (try dsimp only at hSw); go_simp; all_goals with_reducible rfl)
          try simp only [Act.put, List.getElem_toArray, List.getElem_cons_succ, List.getElem_cons_zero, List.setIfInBounds_toArray, List.set_cons_zero, List.set_cons_succ]
          refine wpAnyH_take (i := 5) (v := ?v12) rfl (by kernel_rfl) (by kernel_rfl) (by kernel_rfl) (fun _ _ _ h => h) (Or.inl ⟨by kernel_rfl, ?y12⟩) (by assumption) ?_
          case y12 => (intro w hSw; (try dsimp only at hSw); go_simp; all_goals with_reducible rfl)
          try simp only [Act.put, List.getElem_toArray, List.getElem_cons_succ, List.getElem_cons_zero, List.setIfInBounds_toArray, List.set_cons_zero, List.set_cons_succ]
          refine wpAnyH_take (i := 6) (v := (.bool false)) rfl (by kernel_rfl) (by kernel_rfl) (by kernel_rfl) (fun _ _ _ h => h) (Or.inl ⟨by kernel_rfl, fun w hSw => by first | (go_simp; done) | (go_simp; with_reducible rfl) | (go_simp; omega)⟩) (by assumption) ?_
          try simp only [Act.put, List.getElem_toArray, List.getElem_cons_succ, List.getElem_cons_zero, List.setIfInBounds_toArray, List.set_cons_zero, List.set_cons_succ]
          refine wpAnyH_take (i := 7) (v := (.bool false)) rfl (by kernel_rfl) (by kernel_rfl) (by kernel_rfl) (fun _ _ _ h => h) (Or.inl ⟨by kernel_rfl, fun w hSw => by first | (go_simp; done) | (go_simp; with_reducible rfl) | (go_simp; omega)⟩) (by assumption) ?_
          try simp only [Act.put, List.getElem_toArray, List.getElem_cons_succ, List.getElem_cons_zero, List.setIfInBounds_toArray, List.set_cons_zero, List.set_cons_succ]
          refine wpAnyH_take (i := 8) (v := (.bool false)) rfl (by kernel_rfl) (by kernel_rfl) (by kernel_rfl) (fun _ _ _ h => h) (Or.inl ⟨by kernel_rfl, fun w hSw => by first | (go_simp; done) | (go_simp; with_reducible rfl) | (go_simp; omega)⟩) (by assumption) ?_
          try simp only [Act.put, List.getElem_toArray, List.getElem_cons_succ, List.getElem_cons_zero, List.setIfInBounds_toArray, List.set_cons_zero, List.set_cons_succ]
          refine wpAnyH_take (i := 9) (v := ?v13) rfl (by kernel_rfl) (by kernel_rfl) (by kernel_rfl) (fun _ _ _ h => h) (Or.inl ⟨by kernel_rfl, ?y13⟩) (by assumption) ?_
          case y13 => (intro w hSw; (try dsimp only at hSw); go_simp; all_goals with_reducible rfl)
          try simp only [Act.put, List.getElem_toArray, List.getElem_cons_succ, List.getElem_cons_zero, List.setIfInBounds_toArray, List.set_cons_zero, List.set_cons_succ]
          refine wpAnyH_take (i := 11) (v := ?v14) rfl (by kernel_rfl) (by kernel_rfl) (by kernel_rfl) (fun _ _ _ h => h) (Or.inl ⟨by kernel_rfl, ?y14⟩) (by assumption) ?_
          case y14 => (intro w hSw; (try dsimp only at hSw); go_simp; all_goals with_reducible rfl)
          try simp only [Act.put, List.getElem_toArray, List.getElem_cons_succ, List.getElem_cons_zero, List.setIfInBounds_toArray, List.set_cons_zero, List.set_cons_succ]
          refine wpAnyH_take (i := 12) (v := ?v15) rfl (by kernel_rfl) (by kernel_rfl) (by kernel_rfl) (fun _ _ _ h => h) (Or.inl ⟨by kernel_rfl, ?y15⟩) (by assumption) ?_
          case y15 => (intro w hSw; (try dsimp only at hSw); go_simp; all_goals with_reducible rfl)
          try simp only [Act.put, List.getElem_toArray, List.getElem_cons_succ, List.getElem_cons_zero, List.setIfInBounds_toArray, List.set_cons_zero, List.set_cons_succ]
          refine wpAnyH_ready (rs := [10]) (by kernel_rfl) (by simp) (AllReadyH.cons rfl (fun K hK => ?_) AllReadyH.nil)
          go_simp
          go_at_call 101
          refine (SqB.end_may p m _ (of_decide_eq_true HB.out)).mono ?_
          rintro e W1 ⟨rfl, f⟩
          have FW := kf f hHeld.2.2.2
          dsimp only
          refine hK.out _ _ ?_ (fun hHeld => ?_)
          · (try dsimp only); (first | (go_split_ands; exact ⟨kc f (by assumption), kc f (by assumption), kc f (by assumption), by assumption⟩) | (go_split_ands; exact ⟨(by assumption), (by assumption), (by assumption), by assumption⟩) | (go_split_ands; exact ⟨kc (fr1 _ _) (by assumption), kc (fr1 _ _) (by assumption), kc (fr1 _ _) (by assumption), kfa (by assumption)⟩))
          clear hK K
          try simp only [Act.put, List.getElem_toArray, List.getElem_cons_succ, List.getElem_cons_zero, List.setIfInBounds_toArray, List.set_cons_zero, List.set_cons_succ]
          refine wpAnyH_take (i := 13) (v := (.bool false)) rfl (by kernel_rfl) (by kernel_rfl) (by kernel_rfl) (fun _ _ _ h => h) (Or.inl ⟨by kernel_rfl, fun w hSw => by first | (go_simp; done) | (go_simp; with_reducible rfl) | (go_simp; omega)⟩) (by assumption) ?_
          try simp only [Act.put, List.getElem_toArray, List.getElem_cons_succ, List.getElem_cons_zero, List.setIfInBounds_toArray, List.set_cons_zero, List.set_cons_succ]
          refine wpAnyH_take (i := 14) (v := (.bool false)) rfl (by kernel_rfl) (by kernel_rfl) (by kernel_rfl) (fun _ _ _ h => h) (Or.inl ⟨by kernel_rfl, fun w hSw => by first | (go_simp; done) | (go_simp; with_reducible rfl) | (go_simp; omega)⟩) (by assumption) ?_
          try simp only [Act.put, List.getElem_toArray, List.getElem_cons_succ, List.getElem_cons_zero, List.setIfInBounds_toArray, List.set_cons_zero, List.set_cons_succ]
          refine wpAnyH_done (by kernel_rfl) ?_ _
          refine NoPanic.normal ?_
          go_wp2
          go_ret
          exact ⟨rfl, by first | exact FW.out | exact FW.out.drewN _ | exact FW.out.drew⟩
    · have HB := hid (decide_eq_false h1)
      rw [show cko ⟨c, s, n, l, k⟩ p m = 71 from cko_bad hm (fun h => h1 h.1)]
      clear hm hg hy ht t1 t2
      clear h1
      go_enter Try.func85, Try.ntmps85
      go_wp2_with ((with_reducible refine ld_geom rfl (.tmp 2) rfl w.heap.size ?_ P0.out ?_); · rfl)
      refine (HL.out _).mono ?_
      rintro e w1 ⟨rfl, f1⟩
      have S1 : w.heap.size + 2 ≤ w1.heap.size := by have := f1.size; simp at this; omega
      have FW := hid ((HF.out.trans f1).alloc (by_ a r q b d t x u))
      have P1 := hid (show BS (w1.alloc (by_ a r q b d t x u)) (w.heap.size + 1) p m from (P1.out.fr f1 : Blk _ _ _ _).alloc _)
      have P2 := hid (BL.new w1 a r q b d t x u)
      clear f1 HL P0 HF
      obtain ⟨c0, c1⟩ := P1.out.cells
      obtain ⟨_, _, _, _, _, d5, _, _⟩ := P2.out.cells
      go_wp2_with fail
      have FW := kd FW
      refine wp_region_noPanic ?_
      refine wp_region_held_drew (S := (fun W' => W'.cell? ⟨w.heap.size + 1, 0, none⟩ = some (.int .i64 p) ∧ W'.cell? ⟨w.heap.size + 1, 1, none⟩ = some (.int .i64 m) ∧ W'.cell? ⟨w1.heap.size, 5, none⟩ = some (.int .i64 t) ∧ Hid (Fr No w W'))) (by kernel_rfl) ?_ (fun hHeld => ?_)
      · (try dsimp only); (first | (go_split_ands; exact ⟨kc f (by assumption), kc f (by assumption), kc f (by assumption), by assumption⟩) | (go_split_ands; exact ⟨(by assumption), (by assumption), (by assumption), by assumption⟩) | (go_split_ands; exact ⟨kc (fr1 _ _) (by assumption), kc (fr1 _ _) (by assumption), kc (fr1 _ _) (by assumption), kfa (by assumption)⟩))
      refine wpAnyH_take (i := 0) (v := ?v16) rfl (by kernel_rfl) (by kernel_rfl) (by kernel_rfl) (fun _ _ _ h => h) (Or.inl ⟨by kernel_rfl, ?y16⟩) (by assumption) ?_
      case y16 => (intro w hSw; (try dsimp only at hSw); go_simp; all_goals with_reducible rfl)
      try simp only [Act.put, List.getElem_toArray, List.getElem_cons_zero, List.setIfInBounds_toArray, List.set_cons_zero, List.set_cons_succ]
      refine wpAnyH_ready (rs := [1]) (by kernel_rfl) (by simp) (AllReadyH.cons rfl (fun K hK => ?_) AllReadyH.nil)
      go_simp
      go_at_call 99
      refine (SpA.may_ok p m _ HW.out).mono ?_
      rintro e W1 ⟨rfl, f⟩
      have FW := kf f hHeld.2.2.2
      rw [HB.out]
      dsimp only
      refine hK.out _ _ ?_ (fun hHeld => ?_)
      · (try dsimp only); (first | (go_split_ands; exact ⟨kc f (by assumption), kc f (by assumption), kc f (by assumption), by assumption⟩) | (go_split_ands; exact ⟨(by assumption), (by assumption), (by assumption), by assumption⟩) | (go_split_ands; exact ⟨kc (fr1 _ _) (by assumption), kc (fr1 _ _) (by assumption), kc (fr1 _ _) (by assumption), kfa (by assumption)⟩))
      clear hK K
      try simp only [Act.put, List.getElem_toArray, List.getElem_cons_succ, List.getElem_cons_zero, List.setIfInBounds_toArray, List.set_cons_zero, List.set_cons_succ]
      refine wpAnyH_take (i := 2) (v := (.bool true)) rfl (by kernel_rfl) (by kernel_rfl) (by kernel_rfl) (fun _ _ _ h => h) (Or.inl ⟨by kernel_rfl, fun w hSw => by first | (go_simp; done) | (go_simp; with_reducible rfl) | (go_simp; omega)⟩) (by assumption) ?_
      try simp only [Act.put, List.getElem_toArray, List.getElem_cons_succ, List.getElem_cons_zero, List.setIfInBounds_toArray, List.set_cons_zero, List.set_cons_succ]
      refine wpAnyH_take (i := 3) (v := (.bool true)) rfl (by kernel_rfl) (by kernel_rfl) (by kernel_rfl) (fun _ _ _ h => h) (Or.inl ⟨by kernel_rfl, fun w hSw => by first | (go_simp; done) | (go_simp; with_reducible rfl) | (go_simp; omega)⟩) (by assumption) ?_
      try simp only [Act.put, List.getElem_toArray, List.getElem_cons_succ, List.getElem_cons_zero, List.setIfInBounds_toArray, List.set_cons_zero, List.set_cons_succ]
      refine wpAnyH_take (i := 4) (v := undef) rfl (by kernel_rfl) (by kernel_rfl) (by kernel_rfl) (fun _ _ _ h => h) (Or.inr ⟨by kernel_rfl, rfl⟩) (by assumption) ?_
      try simp only [Act.put, List.getElem_toArray, List.getElem_cons_succ, List.getElem_cons_zero, List.setIfInBounds_toArray, List.set_cons_zero, List.set_cons_succ]
      refine wpAnyH_take (i := 5) (v := undef) rfl (by kernel_rfl) (by kernel_rfl) (by kernel_rfl) (fun _ _ _ h => h) (Or.inr ⟨by kernel_rfl, rfl⟩) (by assumption) ?_
      try simp only [Act.put, List.getElem_toArray, List.getElem_cons_succ, List.getElem_cons_zero, List.setIfInBounds_toArray, List.set_cons_zero, List.set_cons_succ]
      refine wpAnyH_take (i := 6) (v := undef) rfl (by kernel_rfl) (by kernel_rfl) (by kernel_rfl) (fun _ _ _ h => h) (Or.inr ⟨by kernel_rfl, rfl⟩) (by assumption) ?_
      try simp only [Act.put, List.getElem_toArray, List.getElem_cons_succ, List.getElem_cons_zero, List.setIfInBounds_toArray, List.set_cons_zero, List.set_cons_succ]
      refine wpAnyH_take (i := 7) (v := (.bool true)) rfl (by kernel_rfl) (by kernel_rfl) (by kernel_rfl) (fun _ _ _ h => h) (Or.inl ⟨by kernel_rfl, fun w hSw => by first | (go_simp; done) | (go_simp; with_reducible rfl) | (go_simp; omega)⟩) (by assumption) ?_
      try simp only [Act.put, List.getElem_toArray, List.getElem_cons_succ, List.getElem_cons_zero, List.setIfInBounds_toArray, List.set_cons_zero, List.set_cons_succ]
      refine wpAnyH_take (i := 8) (v := (.bool true)) rfl (by kernel_rfl) (by kernel_rfl) (by kernel_rfl) (fun _ _ _ h => h) (Or.inl ⟨by kernel_rfl, fun w hSw => by first | (go_simp; done) | (go_simp; with_reducible rfl) | (go_simp; omega)⟩) (by assumption) ?_
      try simp only [Act.put, List.getElem_toArray, List.getElem_cons_succ, List.getElem_cons_zero, List.setIfInBounds_toArray, List.set_cons_zero, List.set_cons_succ]
      refine wpAnyH_take (i := 9) (v := undef) rfl (by kernel_rfl) (by kernel_rfl) (by kernel_rfl) (fun _ _ _ h => h) (Or.inr ⟨by kernel_rfl, rfl⟩) (by assumption) ?_
      try simp only [Act.put, List.getElem_toArray, List.getElem_cons_succ, List.getElem_cons_zero, List.setIfInBounds_toArray, List.set_cons_zero, List.set_cons_succ]
      refine wpAnyH_take (i := 10) (v := undef) rfl (by kernel_rfl) (by kernel_rfl) (by kernel_rfl) (fun _ _ _ h => h) (Or.inr ⟨by kernel_rfl, rfl⟩) (by assumption) ?_
      try simp only [Act.put, List.getElem_toArray, List.getElem_cons_succ, List.getElem_cons_zero, List.setIfInBounds_toArray, List.set_cons_zero, List.set_cons_succ]
      refine wpAnyH_take (i := 11) (v := undef) rfl (by kernel_rfl) (by kernel_rfl) (by kernel_rfl) (fun _ _ _ h => h) (Or.inr ⟨by kernel_rfl, rfl⟩) (by assumption) ?_
      try simp only [Act.put, List.getElem_toArray, List.getElem_cons_succ, List.getElem_cons_zero, List.setIfInBounds_toArray, List.set_cons_zero, List.set_cons_succ]
      refine wpAnyH_take (i := 12) (v := undef) rfl (by kernel_rfl) (by kernel_rfl) (by kernel_rfl) (fun _ _ _ h => h) (Or.inr ⟨by kernel_rfl, rfl⟩) (by assumption) ?_
      try simp only [Act.put, List.getElem_toArray, List.getElem_cons_succ, List.getElem_cons_zero, List.setIfInBounds_toArray, List.set_cons_zero, List.set_cons_succ]
      refine wpAnyH_take (i := 13) (v := undef) rfl (by kernel_rfl) (by kernel_rfl) (by kernel_rfl) (fun _ _ _ h => h) (Or.inr ⟨by kernel_rfl, rfl⟩) (by assumption) ?_
      try simp only [Act.put, List.getElem_toArray, List.getElem_cons_succ, List.getElem_cons_zero, List.setIfInBounds_toArray, List.set_cons_zero, List.set_cons_succ]
      refine wpAnyH_take (i := 14) (v := (.bool true)) rfl (by kernel_rfl) (by kernel_rfl) (by kernel_rfl) (fun _ _ _ h => h) (Or.inl ⟨by kernel_rfl, fun w hSw => by first | (go_simp; done) | (go_simp; with_reducible rfl) | (go_simp; omega)⟩) (by assumption) ?_
      try simp only [Act.put, List.getElem_toArray, List.getElem_cons_succ, List.getElem_cons_zero, List.setIfInBounds_toArray, List.set_cons_zero, List.set_cons_succ]
      refine wpAnyH_done (by kernel_rfl) ?_ _
      refine NoPanic.normal ?_
      go_wp2
      go_ret
      exact ⟨rfl, by first | exact FW.out | exact FW.out.drewN _ | exact FW.out.drew⟩
  · rw [show lyo ⟨c, s, n, l, k⟩ = (z8, 70) by unfold lyo; rw [if_neg hm]] at HL
    rw [cko_no hm]
    unfold z8 at HL
    dsimp only at HL
    clear hm
    go_enter Try.func85, Try.ntmps85
    go_wp2_with ((with_reducible refine ld_geom rfl (.tmp 2) rfl w.heap.size ?_ P0.out ?_); · rfl)
    refine (HL.out _).mono ?_
    rintro e w1 ⟨rfl, f1⟩
    have S1 : w.heap.size + 2 ≤ w1.heap.size := by have := f1.size; simp at this; omega
    have FW := hid ((HF.out.trans f1).alloc (by_ 0 0 0 0 0 0 0 0))
    have P1 := hid (show BS (w1.alloc (by_ 0 0 0 0 0 0 0 0)) (w.heap.size + 1) p m from (P1.out.fr f1 : Blk _ _ _ _).alloc _)
    have P2 := hid (BL.new w1 0 0 0 0 0 0 0 0)
    clear f1 HL P0 HF
    obtain ⟨c0, c1⟩ := P1.out.cells
    obtain ⟨_, _, _, _, _, d5, _, _⟩ := P2.out.cells
    go_wp2_with fail
    go_ret
    exact ⟨rfl, FW.out⟩
set_option maxRecDepth 100000 in
set_option maxHeartbeats 2000000 in
theorem rcheck_ok (c s n l k p m : Int) (w : World) (hs : -9223372036854775808 ≤ s ∧ s ≤ 9223372036854775807) (hw : SpA.wf (p, m)) : Calls Try.prog 68 #[.agg #[.int .i64 c, .int .i64 s, .int .i64 n, .int .i64 l, .int .i64 k], .agg #[.int .i64 p, .int .i64 m]] w fun e w' => e = .returned (.int .i64 (cko ⟨c, s, n, l, k⟩ p m)) ∧ Fr No w w' := by
  have HL := hid (fun W => rlayout_ok c s n l k W hs)
  have HF := hid ((fr1 w (bg c s n l k)).alloc (bs_ p m))
  have P0 := hid (BG2 w c s n l k (bs_ p m))
  have P1 := hid (BS.new2 w (bg c s n l k) p m)
  have HW := hid hw
  by_cases hm : mayG ⟨c, s, n, l, k⟩
  · have hg := good hm.1
    rw [show rlo ⟨c, s, n, l, k⟩ = (lay ⟨c, s, n, l, k⟩, true) by unfold rlo; rw [if_pos hm]] at HL
    obtain ⟨y, hy⟩ : ∃ y, lay ⟨c, s, n, l, k⟩ = y := ⟨_, rfl⟩
    rw [hy] at HL hg
    obtain ⟨a, r, q, b, d, t, x, u⟩ := y
    have t1 := hg.t1
    have t2 := hg.t2
    dsimp only at t1 t2 HL
    have ht : (lay ⟨c, s, n, l, k⟩).t = t := by rw [hy]
    by_cases h1 : MSpM.may (p, m)
    · have HB := hid (decide_eq_true h1)
      have h1' := h1
      unfold MSpM.may at h1'
      dsimp only at h1'
      by_cases h2 : m = 0
      · have h2b : (m == 0) = true := by simp [h2]
        rw [show cko ⟨c, s, n, l, k⟩ p m = 71 from cko_bad hm (fun h => h.2.1 h2)]
        clear hm hg hy ht t1 t2
        clear h1 h1' h2
        go_enter Try.func68, Try.ntmps68
        go_wp2_with ((with_reducible refine ld_geom rfl (.tmp 2) rfl w.heap.size ?_ P0.out ?_); · rfl)
        refine (HL.out _).mono ?_
        rintro e w1 ⟨rfl, f1⟩
        have S1 : w.heap.size + 2 ≤ w1.heap.size := by have := f1.size; simp at this; omega
        have FW := hid ((HF.out.trans f1).alloc (by_ a r q b d t x u))
        have P1 := hid (show BS (w1.alloc (by_ a r q b d t x u)) (w.heap.size + 1) p m from (P1.out.fr f1 : Blk _ _ _ _).alloc _)
        have P2 := hid (BL.new w1 a r q b d t x u)
        clear f1 HL P0 HF
        obtain ⟨c0, c1⟩ := P1.out.cells
        obtain ⟨_, _, _, _, _, d5, _, _⟩ := P2.out.cells
        go_wp2_with fail
        refine (SpA.rmay_ok p m _ HW.out).mono ?_
        rintro e w2 ⟨rfl, f2⟩
        rw [HB.out]
        have FW := kf f2 FW
        have c0 := kc f2 c0
        have c1 := kc f2 c1
        have d5 := kc f2 d5
        clear f2
        go_wp2
        go_ret
        exact ⟨rfl, by first | exact FW.out | exact FW.out.drewN _ | exact FW.out.drew⟩
      · have h2b : (m == 0) = false := by simp [h2]
        by_cases h3 : t < p + m
        · have hq : wrap64 (p + m) = p + m := w64 _ (by omega)
          rw [show cko ⟨c, s, n, l, k⟩ p m = 71 from cko_bad hm (fun h => by have := h.2.2; rw [ht] at this; omega)]
          clear hm hg hy ht t1 t2
          clear h1 h1' h2
          go_enter Try.func68, Try.ntmps68
          go_wp2_with ((with_reducible refine ld_geom rfl (.tmp 2) rfl w.heap.size ?_ P0.out ?_); · rfl)
          refine (HL.out _).mono ?_
          rintro e w1 ⟨rfl, f1⟩
          have S1 : w.heap.size + 2 ≤ w1.heap.size := by have := f1.size; simp at this; omega
          have FW := hid ((HF.out.trans f1).alloc (by_ a r q b d t x u))
          have P1 := hid (show BS (w1.alloc (by_ a r q b d t x u)) (w.heap.size + 1) p m from (P1.out.fr f1 : Blk _ _ _ _).alloc _)
          have P2 := hid (BL.new w1 a r q b d t x u)
          clear f1 HL P0 HF
          obtain ⟨c0, c1⟩ := P1.out.cells
          obtain ⟨_, _, _, _, _, d5, _, _⟩ := P2.out.cells
          go_wp2_with fail
          refine (SpA.rmay_ok p m _ HW.out).mono ?_
          rintro e w2 ⟨rfl, f2⟩
          rw [HB.out]
          have FW := kf f2 FW
          have c0 := kc f2 c0
          have c1 := kc f2 c1
          have d5 := kc f2 d5
          clear f2
          go_wp2
          go_ret
          exact ⟨rfl, by first | exact FW.out | exact FW.out.drewN _ | exact FW.out.drew⟩
        · have hq : wrap64 (p + m) = p + m := w64 _ (by omega)
          have h3' : p + m ≤ t := by omega
          rw [show cko ⟨c, s, n, l, k⟩ p m = 0 from cko_ok hm ⟨h1, h2, by rw [ht]; omega⟩]
          clear hm hg hy ht t1 t2
          clear h1 h1' h2
          go_enter Try.func68, Try.ntmps68
          go_wp2_with ((with_reducible refine ld_geom rfl (.tmp 2) rfl w.heap.size ?_ P0.out ?_); · rfl)
          refine (HL.out _).mono ?_
          rintro e w1 ⟨rfl, f1⟩
          have S1 : w.heap.size + 2 ≤ w1.heap.size := by have := f1.size; simp at this; omega
          have FW := hid ((HF.out.trans f1).alloc (by_ a r q b d t x u))
          have P1 := hid (show BS (w1.alloc (by_ a r q b d t x u)) (w.heap.size + 1) p m from (P1.out.fr f1 : Blk _ _ _ _).alloc _)
          have P2 := hid (BL.new w1 a r q b d t x u)
          clear f1 HL P0 HF
          obtain ⟨c0, c1⟩ := P1.out.cells
          obtain ⟨_, _, _, _, _, d5, _, _⟩ := P2.out.cells
          go_wp2_with fail
          refine (SpA.rmay_ok p m _ HW.out).mono ?_
          rintro e w2 ⟨rfl, f2⟩
          rw [HB.out]
          have FW := kf f2 FW
          have c0 := kc f2 c0
          have c1 := kc f2 c1
          have d5 := kc f2 d5
          clear f2
          go_wp2
          go_ret
          exact ⟨rfl, by first | exact FW.out | exact FW.out.drewN _ | exact FW.out.drew⟩
    · have HB := hid (decide_eq_false h1)
      rw [show cko ⟨c, s, n, l, k⟩ p m = 71 from cko_bad hm (fun h => h1 h.1)]
      clear hm hg hy ht t1 t2
      clear h1
      go_enter Try.func68, Try.ntmps68
      go_wp2_with ((with_reducible refine ld_geom rfl (.tmp 2) rfl w.heap.size ?_ P0.out ?_); · rfl)
      refine (HL.out _).mono ?_
      rintro e w1 ⟨rfl, f1⟩
      have S1 : w.heap.size + 2 ≤ w1.heap.size := by have := f1.size; simp at this; omega
      have FW := hid ((HF.out.trans f1).alloc (by_ a r q b d t x u))
      have P1 := hid (show BS (w1.alloc (by_ a r q b d t x u)) (w.heap.size + 1) p m from (P1.out.fr f1 : Blk _ _ _ _).alloc _)
      have P2 := hid (BL.new w1 a r q b d t x u)
      clear f1 HL P0 HF
      obtain ⟨c0, c1⟩ := P1.out.cells
      obtain ⟨_, _, _, _, _, d5, _, _⟩ := P2.out.cells
      go_wp2_with fail
      refine (SpA.rmay_ok p m _ HW.out).mono ?_
      rintro e w2 ⟨rfl, f2⟩
      rw [HB.out]
      have FW := kf f2 FW
      have c0 := kc f2 c0
      have c1 := kc f2 c1
      have d5 := kc f2 d5
      clear f2
      go_wp2
      go_ret
      exact ⟨rfl, by first | exact FW.out | exact FW.out.drewN _ | exact FW.out.drew⟩
  · rw [show rlo ⟨c, s, n, l, k⟩ = (z8, false) by unfold rlo; rw [if_neg hm]] at HL
    rw [cko_no hm]
    unfold z8 at HL
    dsimp only at HL
    clear hm
    go_enter Try.func68, Try.ntmps68
    go_wp2_with ((with_reducible refine ld_geom rfl (.tmp 2) rfl w.heap.size ?_ P0.out ?_); · rfl)
    refine (HL.out _).mono ?_
    rintro e w1 ⟨rfl, f1⟩
    have S1 : w.heap.size + 2 ≤ w1.heap.size := by have := f1.size; simp at this; omega
    have FW := hid ((HF.out.trans f1).alloc (by_ 0 0 0 0 0 0 0 0))
    have P1 := hid (show BS (w1.alloc (by_ 0 0 0 0 0 0 0 0)) (w.heap.size + 1) p m from (P1.out.fr f1 : Blk _ _ _ _).alloc _)
    have P2 := hid (BL.new w1 0 0 0 0 0 0 0 0)
    clear f1 HL P0 HF
    obtain ⟨c0, c1⟩ := P1.out.cells
    obtain ⟨_, _, _, _, _, d5, _, _⟩ := P2.out.cells
    go_wp2_with fail
    go_ret
    exact ⟨rfl, FW.out⟩
end Go.Proofs.Ytoboialfaifbgaa.GeF
