/- Contracts: whether two lists are the same, whether they are short. Condition: the slices read as lists. -/
import Derived.Test.YtoboialfaifbgaaSpC
import Derived.Test.YtoboialfaifbgaaSepC
namespace Go.Proofs.Ytoboialfaifbgaa.SpD
open Go.RowKit MSep MSepC MSpM SpA SpB

theorem ne_at {xs ys : List Sp} {k : Nat} {x y : Sp} (hx : xs[k]? = some x) (hy : ys[k]? = some y) (h : x ≠ y) : xs ≠ ys := by
  rintro rfl
  rw [hx] at hy
  exact h (Option.some.inj hy)
end Go.Proofs.Ytoboialfaifbgaa.SpD
