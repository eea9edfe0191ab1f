/- Contracts: whether a sector is in a span, the span round two. Condition: all numbers are 64 bits. -/
import Derived.Test.YtoboialfaifbgaaSpB
namespace Go.Proofs.Ytoboialfaifbgaa.SpC
open Go.RowKit MSep MSpM SpA SpB

theorem has_no {a n x : Int} (h : ¬ may (a, n)) : has (a, n) x = false := decide_eq_false fun k => h k.1
theorem has_low {a n x : Int} (h : ¬ a ≤ x) : has (a, n) x = false := decide_eq_false fun k => h k.2.1
theorem has_yes {a n x : Int} (h : may (a, n)) (h1 : a ≤ x) : has (a, n) x = decide (x < a + n) := by
  unfold has
  simp only [h, h1, true_and]
theorem around_xy {a n b m x y : Int} (ha : may (a, n)) (hb : may (b, m)) (hx : (if b < a then b else a) = x) (hy : (if fin (a, n) < fin (b, m) then fin (b, m) else fin (a, n)) = y) : around (a, n) (b, m) = (x, y - x) := by
  rw [fin_may ha, fin_may hb] at hy
  subst hx hy
  unfold around
  simp only []
  have e1 : min a b = if b < a then b else a := by omega
  have e2 : max (a + n) (b + m) = if a + n < b + m then b + m else a + n := by omega
  rw [e1, e2]
theorem around_range {a n b m x y : Int} (ha : may (a, n)) (hb : may (b, m)) (hx : (if b < a then b else a) = x) (hy : (if fin (a, n) < fin (b, m) then fin (b, m) else fin (a, n)) = y) : -9223372036854775808 ≤ y - x ∧ y - x ≤ 9223372036854775807 := by
  rw [fin_may ha, fin_may hb] at hy
  unfold may at ha hb
  simp only [] at ha hb
  omega
set_option maxRecDepth 100000 in
set_option maxHeartbeats 1000000 in
theorem around_ok (a n b m : Int) (w : World) (ha : may (a, n)) (hb : may (b, m)) : Calls Try.prog 102 #[.agg #[.int .i64 a, .int .i64 n], .agg #[.int .i64 b, .int .i64 m]] w fun e w' => e = .returned (.agg #[.int .i64 (around (a, n) (b, m)).1, .int .i64 (around (a, n) (b, m)).2]) ∧ Fr No w w' := by
  obtain ⟨X, hX⟩ : ∃ X, around (a, n) (b, m) = X := ⟨_, rfl⟩
  rw [hX]
  have HX := hid hX
  have HA := hid ha
  have HB := hid hb
  have hFW := hid (fr3 w (.cells #[.int .i64 a, .int .i64 n] 68) (.cells #[.int .i64 b, .int .i64 m] 68) (.cells #[.int .i64 0, .int .i64 0] 68))
  have B0 := hid (((Blk.new w 68 #[.int .i64 a, .int .i64 n]).alloc (.cells #[.int .i64 b, .int .i64 m] 68)).alloc (.cells #[.int .i64 0, .int .i64 0] 68))
  have B1 := hid ((blk2 w (.cells #[.int .i64 a, .int .i64 n] 68) 68 #[.int .i64 b, .int .i64 m]).alloc (.cells #[.int .i64 0, .int .i64 0] 68))
  have hBW := hid (blk3 w (.cells #[.int .i64 a, .int .i64 n] 68) (.cells #[.int .i64 b, .int .i64 m] 68) 68 #[.int .i64 0, .int .i64 0])
  have c0 := B0.out.cell 0
  have c1 := B0.out.cell 1
  have d0 := B1.out.cell 0
  have d1 := B1.out.cell 1
  simp only [List.getElem?_toArray, List.getElem?_cons_zero, List.getElem?_cons_succ] at c0 c1 d0 d1
  clear hX ha hb
  go_enter Try.func102, Try.ntmps102
  go_wp2_with fail
  have hEW : Hid (∃ x y, Blk (((w.alloc (.cells #[.int .i64 a, .int .i64 n] 68)).alloc (.cells #[.int .i64 b, .int .i64 m] 68)).alloc (.cells #[.int .i64 0, .int .i64 0] 68)) (w.heap.size + 1 + 1) 68 #[x, y]) := hid ⟨_, _, hBW.out⟩
  go_region_held3 (fun W' => W'.cell? ⟨w.heap.size, 0, none⟩ = some (.int .i64 a) ∧ W'.cell? ⟨w.heap.size, 1, none⟩ = some (.int .i64 n) ∧ W'.cell? ⟨w.heap.size + 1, 0, none⟩ = some (.int .i64 b) ∧ W'.cell? ⟨w.heap.size + 1, 1, none⟩ = some (.int .i64 m) ∧ Hid (∃ x y, Blk W' (w.heap.size + 1 + 1) 68 #[x, y]) ∧ Hid (Fr No w W')) (first | (go_split_ands; exact ⟨kc (by assumption) (by assumption), kc (by assumption) (by assumption), kc (by assumption) (by assumption), kc (by assumption) (by assumption), kbe (by assumption) (by assumption), kf (by assumption) (by assumption)⟩) | (go_split_ands; exact ⟨(by assumption), (by assumption), (by assumption), (by assumption), (by assumption), kd (by assumption)⟩) | (go_split_ands; exact ⟨(by assumption), (by assumption), (by assumption), (by assumption), (by assumption), by assumption⟩) | (go_split_ands; exact ⟨ks (by first | omega | (simp only []; omega) | (simp; done) | (simp; omega)) (by assumption), ks (by first | omega | (simp only []; omega) | (simp; done) | (simp; omega)) (by assumption), ks (by first | omega | (simp only []; omega) | (simp; done) | (simp; omega)) (by assumption), ks (by first | omega | (simp only []; omega) | (simp; done) | (simp; omega)) (by assumption), kbs (by assumption), kfs (by first | omega | (simp only []; omega) | (simp; done) | (simp; omega)) (by assumption)⟩)) (first | (go_at_call 101; refine (end_ok _ _ _ (by first | exact wf_may HA.out | exact wf_may HB.out)).mono ?_; rintro e W1 ⟨rfl, f⟩; dsimp only) | (go_at_call 119; refine (between_ok _ _ _ (around_range HA.out HB.out rfl rfl)).mono ?_; rintro e W1 ⟨rfl, f⟩; (go_split_ands; have KB := kbe f (by assumption); obtain ⟨⟨_, k0⟩, ⟨_, k1⟩, z0, z1⟩ := kbf KB; clear KB); dsimp only))
  all_goals
    have E := hid (HX.out.symm.trans (around_xy HA.out HB.out rfl rfl))
    have KB := kbe f (by assumption)
    go_split_ands
    generalize (if b < a then b else a) = x at *
    generalize (if fin (a, n) < fin (b, m) then fin (b, m) else fin (a, n)) = y at *
    go_wp2
    exact bodyPost_ret (v := .agg #[.int .i64 _, .int .i64 _]) (res23 rfl _ _ (w.heap.size + 1 + 1) _ _ rfl (kbx KB _ _)) rfl ⟨ret_sp (congrArg Prod.fst E.out).symm (congrArg Prod.snd E.out).symm, Hid.out (by assumption)⟩
end Go.Proofs.Ytoboialfaifbgaa.SpC
