/- Contracts of the calls on two spans: what they have in common, the span round both; whether a sector is in one. Condition: all numbers are 64 bits. -/
import Derived.Test.YtkkbgbpmpcoffaaDoorSpA
namespace Go.Proofs.YtkkbgbpmpcoffaaDoor.SpB
open Go.RowKit MSep MSpM SpA

theorem blk2 (w : World) (A : Obj) (t : TypeId) (cs : Array Value) : Blk ((w.alloc A).alloc (.cells cs t)) (w.heap.size + 1) t cs := by
  have := Blk.new (w.alloc A) t cs
  simpa using this
theorem blk3 (w : World) (A B : Obj) (t : TypeId) (cs : Array Value) : Blk (((w.alloc A).alloc B).alloc (.cells cs t)) (w.heap.size + 1 + 1) t cs := by
  have := Blk.new ((w.alloc A).alloc B) t cs
  simpa using this
theorem fr1 (w : World) (A : Obj) : Fr No w (w.alloc A) := (Fr.refl No w).alloc A
theorem fr2 (w : World) (A B : Obj) : Fr No w ((w.alloc A).alloc B) := (fr1 w A).alloc B
theorem fr3 (w : World) (A B C : Obj) : Fr No w (((w.alloc A).alloc B).alloc C) := (fr2 w A B).alloc C
theorem ret_sp {x y x' y' : Int} (h1 : x = x') (h2 : y = y') : Ending.returned (.agg #[.int .i64 x, .int .i64 y]) = Ending.returned (.agg #[.int .i64 x', .int .i64 y']) := by rw [h1, h2]

set_option maxRecDepth 100000 in
theorem rMeet_ok (a n b m : Int) (w : World) (ha : may (a, n)) (hb : may (b, m)) : Calls Tryd.prog 30 #[.agg #[.int .i64 a, .int .i64 n], .agg #[.int .i64 b, .int .i64 m]] w fun e w' => e = .returned (.agg #[.int .i64 (meet0 (a, n) (b, m)).1, .int .i64 (meet0 (a, n) (b, m)).2]) ∧ Fr No w w' := by
  unfold may at ha hb
  simp only [] at ha hb
  have w1 : wrap64 (a + n) = a + n := w64 _ (by omega)
  have w2 : wrap64 (b + m) = b + m := w64 _ (by omega)
  go_enter Tryd.func30, Tryd.ntmps30
  go_wp2_with fail
  go_region_held3 (fun w' => w'.cell? ⟨w.heap.size, 0, none⟩ = some (.int .i64 a) ∧ w'.cell? ⟨w.heap.size, 1, none⟩ = some (.int .i64 n)) (go_keep) (fail)
  go_wp2
  all_goals exact bodyPost_ret (v := .agg #[.int .i64 _, .int .i64 _]) (res23 rfl _ _ (w.heap.size + 1 + 1) _ _ rfl (blk3 w _ _ _ _).drew) rfl ⟨ret_sp (by unfold meet0; simp only []; (try unfold wrap64); split <;> omega) (by unfold meet0; simp only []; (try unfold wrap64); split <;> omega), (fr3 w _ _ _).drew⟩

theorem end_may (a n : Int) (w : World) (h : may (a, n)) : Calls Tryd.prog 70 #[.agg #[.int .i64 a, .int .i64 n]] w fun e w' => e = .returned (.int .i64 (a + n)) ∧ Fr No w w' := by
  have := end_ok a n w (wf_may h)
  rw [fin_may h] at this
  exact this
theorem meet_yes {a b : Sp} (ha : may a) (hb : may b) : meet a b = meet0 a b := by unfold meet; rw [if_pos ⟨ha, hb⟩]
theorem meet_no {a b : Sp} (h : ¬ (may a ∧ may b)) : meet a b = (0, 0) := by unfold meet; rw [if_neg h]

theorem meet0_xy {a n b m x y : Int} (ha : may (a, n)) (hb : may (b, m)) (hx : (if a < b then b else a) = x) (hy : (if fin (b, m) < fin (a, n) then fin (b, m) else fin (a, n)) = y) : meet0 (a, n) (b, m) = if y ≤ x then (0, 0) else (x, y - x) := by
  rw [fin_may ha, fin_may hb] at hy
  subst hx hy
  unfold meet0
  simp only []
  have e1 : max a b = if a < b then b else a := by omega
  have e2 : min (a + n) (b + m) = if b + m < a + n then b + m else a + n := by omega
  rw [e1, e2]
theorem meet_range {a n b m x y : Int} (ha : may (a, n)) (hb : may (b, m)) (hx : (if a < b then b else a) = x) (hy : (if fin (b, m) < fin (a, n) then fin (b, m) else fin (a, n)) = y) : -9223372036854775808 ≤ y - x ∧ y - x ≤ 9223372036854775807 := by
  rw [fin_may ha, fin_may hb] at hy
  unfold may at ha hb
  simp only [] at ha hb
  omega
set_option maxRecDepth 100000 in
theorem meet_ok (a n b m : Int) (w : World) (ha : wf (a, n)) (hb : wf (b, m)) : Calls Tryd.prog 77 #[.agg #[.int .i64 a, .int .i64 n], .agg #[.int .i64 b, .int .i64 m]] w fun e w' => e = .returned (.agg #[.int .i64 (meet (a, n) (b, m)).1, .int .i64 (meet (a, n) (b, m)).2]) ∧ Fr No w w' := by
  have HA := hid ha
  have HB := hid hb
  have F3 := hid (fr3 w (.cells #[.int .i64 a, .int .i64 n] 51) (.cells #[.int .i64 b, .int .i64 m] 51) (.cells #[.int .i64 0, .int .i64 0] 51))
  have B0 := hid (((Blk.new w 51 #[.int .i64 a, .int .i64 n]).alloc (.cells #[.int .i64 b, .int .i64 m] 51)).alloc (.cells #[.int .i64 0, .int .i64 0] 51))
  have B1 := hid ((blk2 w (.cells #[.int .i64 a, .int .i64 n] 51) 51 #[.int .i64 b, .int .i64 m]).alloc (.cells #[.int .i64 0, .int .i64 0] 51))
  have B2 := hid (blk3 w (.cells #[.int .i64 a, .int .i64 n] 51) (.cells #[.int .i64 b, .int .i64 m] 51) 51 #[.int .i64 0, .int .i64 0])
  clear ha hb
  by_cases h1 : may (a, n)
  · by_cases h2 : may (b, m)
    · rw [meet_yes h1 h2]
      obtain ⟨X, hX⟩ : ∃ X, meet0 (a, n) (b, m) = X := ⟨_, rfl⟩
      rw [hX]
      have HX := hid hX
      clear hX
      have H1 := hid h1
      have H2 := hid h2
      clear h1 h2
      go_enter Tryd.func77, Tryd.ntmps77
      go_wp2_with fail
      refine (may_ok a n _ HA.out).mono ?_
      rintro e w1 ⟨rfl, f1⟩
      rw [decide_eq_true H1.out]
      have b1 := B1.out.fr f1 (fun h => h)
      have c0 := b1.cell 0
      have c1 := b1.cell 1
      simp only [List.getElem?_toArray, List.getElem?_cons_zero, List.getElem?_cons_succ] at c0 c1
      have FF1 := hid f1
      clear f1 b1
      go_wp2_with fail
      refine (may_ok b m _ HB.out).mono ?_
      rintro e w2 ⟨rfl, f2⟩
      rw [decide_eq_true H2.out]
      have FF2 := hid (FF1.out.trans f2)
      have b0 := B0.out.fr FF2.out (fun h => h)
      have c0 := b0.cell 0
      have c1 := b0.cell 1
      have b1 := B1.out.fr FF2.out (fun h => h)
      have d0 := b1.cell 0
      have d1 := b1.cell 1
      simp only [List.getElem?_toArray, List.getElem?_cons_zero, List.getElem?_cons_succ] at c0 c1 d0 d1
      clear f2 b0 b1
      go_wp2_with fail
      have hFW := hid (F3.out.trans FF2.out)
      have hBW := hid (B2.out.fr FF2.out (fun h => h))
      go_region_held3 (fun W' => W'.cell? ⟨w.heap.size, 0, none⟩ = some (.int .i64 a) ∧ W'.cell? ⟨w.heap.size, 1, none⟩ = some (.int .i64 n) ∧ W'.cell? ⟨w.heap.size + 1, 0, none⟩ = some (.int .i64 b) ∧ W'.cell? ⟨w.heap.size + 1, 1, none⟩ = some (.int .i64 m) ∧ Hid (Blk W' (w.heap.size + 1 + 1) 51 #[.int .i64 0, .int .i64 0]) ∧ Hid (Fr No w W')) (first | (go_split_ands; exact ⟨kc (by assumption) (by assumption), kc (by assumption) (by assumption), kc (by assumption) (by assumption), kc (by assumption) (by assumption), kb (by assumption) (by assumption), kf (by assumption) (by assumption)⟩) | (go_split_ands; exact ⟨(by assumption), (by assumption), (by assumption), (by assumption), (by assumption), kd (by assumption)⟩) | (go_split_ands; exact ⟨(by assumption), (by assumption), (by assumption), (by assumption), (by assumption), by assumption⟩)) (first | (go_at_call 70; refine (end_ok _ _ _ (by first | exact HA.out | exact HB.out)).mono ?_; rintro e W1 ⟨rfl, f⟩; dsimp only))
      all_goals
        obtain ⟨_, _, _, _, KB, KF⟩ := ‹_ ∧ _›
        obtain ⟨x, hx⟩ : ∃ x : Int, (if a < b then b else a) = x := ⟨_, rfl⟩
        obtain ⟨y, hy⟩ : ∃ y : Int, (if fin (b, m) < fin (a, n) then fin (b, m) else fin (a, n)) = y := ⟨_, rfl⟩
        rw [hx, hy]
        have e := HX.out.symm.trans (meet0_xy H1.out H2.out hx hy)
        have r := meet_range H1.out H2.out hx hy
        have k0 := KB.out.cell 0
        have k1 := KB.out.cell 1
        have z0 := KB.out.frozen 0
        have z1 := KB.out.frozen 1
        simp only [List.getElem?_toArray, List.getElem?_cons_zero, List.getElem?_cons_succ] at k0 k1
        clear hx hy
        by_cases hc : y ≤ x
        · rw [if_pos hc] at e
          have E := hid e
          clear e r
          go_wp2
          exact bodyPost_ret (v := .agg #[.int .i64 0, .int .i64 0]) (res23 rfl _ _ (w.heap.size + 1 + 1) _ _ rfl ((KB.out.set_ 0 _).set_ 1 _)) rfl ⟨ret_sp (by rw [E.out]) (by rw [E.out]), (KF.out.setCell (fun h => absurd h (by simp; omega)) _).setCell (fun h => absurd h (by simp; omega)) _⟩
        · rw [if_neg hc] at e
          have E := hid e
          clear e
          have R := hid r
          clear r k0 k1 z0 z1
          go_wp2_with fail
          refine (between_ok x y _ R.out).mono ?_
          rintro e W2 ⟨rfl, f2⟩
          have KB2 := kb f2 KB
          have KF2 := kf f2 KF
          have k0 := KB2.out.cell 0
          have k1 := KB2.out.cell 1
          have z0 := KB2.out.frozen 0
          have z1 := KB2.out.frozen 1
          simp only [List.getElem?_toArray, List.getElem?_cons_zero, List.getElem?_cons_succ] at k0 k1
          clear f2
          go_wp2
          exact bodyPost_ret (v := .agg #[.int .i64 x, .int .i64 (y - x)]) (res23 rfl _ _ (w.heap.size + 1 + 1) _ _ rfl ((KB2.out.set_ 0 _).set_ 1 _)) rfl ⟨ret_sp (by rw [E.out]) (by rw [E.out]), (KF2.out.setCell (fun h => absurd h (by simp; omega)) _).setCell (fun h => absurd h (by simp; omega)) _⟩
    · rw [meet_no (fun h => h2 h.2)]
      have H1 := hid h1
      have H2 := hid h2
      clear h1 h2
      go_enter Tryd.func77, Tryd.ntmps77
      go_wp2_with fail
      refine (may_ok a n _ HA.out).mono ?_
      rintro e w1 ⟨rfl, f1⟩
      rw [decide_eq_true H1.out]
      have b1 := B1.out.fr f1 (fun h => h)
      have c0 := b1.cell 0
      have c1 := b1.cell 1
      simp only [List.getElem?_toArray, List.getElem?_cons_zero, List.getElem?_cons_succ] at c0 c1
      have FF1 := hid f1
      clear f1 b1
      go_wp2_with fail
      refine (may_ok b m _ HB.out).mono ?_
      rintro e w2 ⟨rfl, f2⟩
      rw [decide_eq_false H2.out]
      have KF := kf (FF1.out.trans f2) F3
      have KB := kb (FF1.out.trans f2) B2
      have k0 := KB.out.cell 0
      have k1 := KB.out.cell 1
      have z0 := KB.out.frozen 0
      have z1 := KB.out.frozen 1
      simp only [List.getElem?_toArray, List.getElem?_cons_zero, List.getElem?_cons_succ] at k0 k1
      clear f2 c0 c1
      go_wp2
      exact bodyPost_ret (v := .agg #[.int .i64 0, .int .i64 0]) (res23 rfl _ _ (w.heap.size + 1 + 1) _ _ rfl ((KB.out.set_ 0 _).set_ 1 _)) rfl ⟨rfl, (KF.out.setCell (fun h => absurd h (by simp; omega)) _).setCell (fun h => absurd h (by simp; omega)) _⟩
  · rw [meet_no (fun h => h1 h.1)]
    have H1 := hid h1
    clear h1
    go_enter Tryd.func77, Tryd.ntmps77
    go_wp2_with fail
    refine (may_ok a n _ HA.out).mono ?_
    rintro e w1 ⟨rfl, f1⟩
    rw [decide_eq_false H1.out]
    have KF := kf f1 F3
    have KB := kb f1 B2
    have k0 := KB.out.cell 0
    have k1 := KB.out.cell 1
    have z0 := KB.out.frozen 0
    have z1 := KB.out.frozen 1
    simp only [List.getElem?_toArray, List.getElem?_cons_zero, List.getElem?_cons_succ] at k0 k1
    clear f1
    go_wp2
    exact bodyPost_ret (v := .agg #[.int .i64 0, .int .i64 0]) (res23 rfl _ _ (w.heap.size + 1 + 1) _ _ rfl ((KB.out.set_ 0 _).set_ 1 _)) rfl ⟨rfl, (KF.out.setCell (fun h => absurd h (by simp; omega)) _).setCell (fun h => absurd h (by simp; omega)) _⟩
end Go.Proofs.YtkkbgbpmpcoffaaDoor.SpB
