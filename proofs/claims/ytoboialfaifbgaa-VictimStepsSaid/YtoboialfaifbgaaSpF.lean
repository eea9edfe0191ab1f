/- Contract: what is left of a span without another one, as the program reckons it. Condition: all numbers are 64 bits. -/
import Derived.Test.YtoboialfaifbgaaSpE
namespace Go.Proofs.Ytoboialfaifbgaa.SpF
open Go.RowKit MSep MSepC MSpM SpA SpB SpO SpE

theorem ko {b c : World} {B : Nat} {v : Value} {l : List Sp} (k : Fr No b c) (h : Hid (Out B b v l)) : Hid (Out B c v l) := hid (h.out.fr k)
theorem meet0_may2 {a b : Sp} {X : Sp} (ha : may a) (hb : may b) (h : Hid (meet0 a b = X)) : may X := by
  have := meet0_may ha hb
  rw [h.out] at this
  exact this
theorem cut_no {a b : Sp} (h : ¬ (may a ∧ may b)) : cut a b = [] := by unfold cut; rw [if_neg h]
theorem cut_none {a b : Sp} (h : a.2 = 0) : cut a b = [] := by
  unfold cut
  split
  · unfold cut0
    have e : (meet0 a b).2 = 0 := by
      unfold meet0
      split
      · rfl
      · simp only []
        omega
    rw [if_pos e, if_pos h]
  · rfl
theorem cut_go {a b : Sp} (ha : may a) (hb : may b) : cut a b = cut0 a b := by unfold cut; rw [if_pos ⟨ha, hb⟩]

end Go.Proofs.Ytoboialfaifbgaa.SpF
