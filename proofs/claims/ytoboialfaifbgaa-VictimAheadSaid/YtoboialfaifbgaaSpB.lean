/- Contracts of the calls on two spans: what they have in common, the span round both; whether a sector is in one. Condition: all numbers are 64 bits. -/
import Derived.Test.YtoboialfaifbgaaSpA
namespace Go.Proofs.Ytoboialfaifbgaa.SpB
open Go.RowKit MSep MSpM SpA

theorem blk2 (w : World) (A : Obj) (t : TypeId) (cs : Array Value) : Blk ((w.alloc A).alloc (.cells cs t)) (w.heap.size + 1) t cs := by
  have := Blk.new (w.alloc A) t cs
  simpa using this
theorem blk3 (w : World) (A B : Obj) (t : TypeId) (cs : Array Value) : Blk (((w.alloc A).alloc B).alloc (.cells cs t)) (w.heap.size + 1 + 1) t cs := by
  have := Blk.new ((w.alloc A).alloc B) t cs
  simpa using this
theorem fr1 (w : World) (A : Obj) : Fr No w (w.alloc A) := (Fr.refl No w).alloc A
theorem fr2 (w : World) (A B : Obj) : Fr No w ((w.alloc A).alloc B) := (fr1 w A).alloc B
theorem fr3 (w : World) (A B C : Obj) : Fr No w (((w.alloc A).alloc B).alloc C) := (fr2 w A B).alloc C
theorem ret_sp {x y x' y' : Int} (h1 : x = x') (h2 : y = y') : Ending.returned (.agg #[.int .i64 x, .int .i64 y]) = Ending.returned (.agg #[.int .i64 x', .int .i64 y']) := by rw [h1, h2]

theorem end_may (a n : Int) (w : World) (h : may (a, n)) : Calls Try.prog 101 #[.agg #[.int .i64 a, .int .i64 n]] w fun e w' => e = .returned (.int .i64 (a + n)) ∧ Fr No w w' := by
  have := end_ok a n w (wf_may h)
  rw [fin_may h] at this
  exact this
theorem meet_yes {a b : Sp} (ha : may a) (hb : may b) : meet a b = meet0 a b := by unfold meet; rw [if_pos ⟨ha, hb⟩]
theorem meet_no {a b : Sp} (h : ¬ (may a ∧ may b)) : meet a b = (0, 0) := by unfold meet; rw [if_neg h]

theorem meet0_xy {a n b m x y : Int} (ha : may (a, n)) (hb : may (b, m)) (hx : (if a < b then b else a) = x) (hy : (if fin (b, m) < fin (a, n) then fin (b, m) else fin (a, n)) = y) : meet0 (a, n) (b, m) = if y ≤ x then (0, 0) else (x, y - x) := by
  rw [fin_may ha, fin_may hb] at hy
  subst hx hy
  unfold meet0
  simp only []
  have e1 : max a b = if a < b then b else a := by omega
  have e2 : min (a + n) (b + m) = if b + m < a + n then b + m else a + n := by omega
  rw [e1, e2]
theorem meet_range {a n b m x y : Int} (ha : may (a, n)) (hb : may (b, m)) (hx : (if a < b then b else a) = x) (hy : (if fin (b, m) < fin (a, n) then fin (b, m) else fin (a, n)) = y) : -9223372036854775808 ≤ y - x ∧ y - x ≤ 9223372036854775807 := by
  rw [fin_may ha, fin_may hb] at hy
  unfold may at ha hb
  simp only [] at ha hb
  omega
end Go.Proofs.Ytoboialfaifbgaa.SpB
