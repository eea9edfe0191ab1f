/- Contracts: whether a sector is in a span, the span round two. Condition: all numbers are 64 bits. -/
import Derived.Test.YtkkbgbpmpcoffaaDoorSpB
namespace Go.Proofs.YtkkbgbpmpcoffaaDoor.SpC
open Go.RowKit MSep MSpM SpA SpB

theorem has_no {a n x : Int} (h : ¬ may (a, n)) : has (a, n) x = false := decide_eq_false fun k => h k.1
theorem has_low {a n x : Int} (h : ¬ a ≤ x) : has (a, n) x = false := decide_eq_false fun k => h k.2.1
theorem has_yes {a n x : Int} (h : may (a, n)) (h1 : a ≤ x) : has (a, n) x = decide (x < a + n) := by
  unfold has
  simp only [h, h1, true_and]
theorem around_xy {a n b m x y : Int} (ha : may (a, n)) (hb : may (b, m)) (hx : (if b < a then b else a) = x) (hy : (if fin (a, n) < fin (b, m) then fin (b, m) else fin (a, n)) = y) : around (a, n) (b, m) = (x, y - x) := by
  rw [fin_may ha, fin_may hb] at hy
  subst hx hy
  unfold around
  simp only []
  have e1 : min a b = if b < a then b else a := by omega
  have e2 : max (a + n) (b + m) = if a + n < b + m then b + m else a + n := by omega
  rw [e1, e2]
theorem around_range {a n b m x y : Int} (ha : may (a, n)) (hb : may (b, m)) (hx : (if b < a then b else a) = x) (hy : (if fin (a, n) < fin (b, m) then fin (b, m) else fin (a, n)) = y) : -9223372036854775808 ≤ y - x ∧ y - x ≤ 9223372036854775807 := by
  rw [fin_may ha, fin_may hb] at hy
  unfold may at ha hb
  simp only [] at ha hb
  omega
end Go.Proofs.YtkkbgbpmpcoffaaDoor.SpC
