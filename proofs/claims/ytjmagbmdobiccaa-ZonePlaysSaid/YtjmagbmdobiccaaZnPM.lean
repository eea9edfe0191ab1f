/- Plain facts on what one call makes of a zone: its place stays, and when Written falls or rises. Nothing here speaks of a program. -/
import Derived.Test.YtjmagbmdobiccaaZnM
namespace Go.Proofs.Ytjmagbmdobiccaa.MZnPM
open MZnM

/-- What the law asks of one call that is OK. -/
def stepP (Z Z' : Zn) (j x m : Int) : Prop := Z'.a = Z.a ∧ Z'.l = Z.l ∧ (Z'.u < Z.u → j = 4) ∧ (Z.u < Z'.u → j = 5 ∧ x = Z.a + Z.u ∧ Z'.u = Z.u + m)
theorem step_same {Z Z' : Zn} {j x m : Int} (h1 : Z'.a = Z.a) (h2 : Z'.l = Z.l) (h3 : Z'.u = Z.u) : stepP Z Z' j x m := ⟨h1, h2, fun h => by omega, fun h => by omega⟩
theorem may_u {Z : Zn} (h : mayP Z) : 0 ≤ Z.u ∧ Z.u ≤ 4096 ∧ Z.l ≤ 4096 ∧ Z.a ≤ 1048576 ∧ 0 ≤ Z.a := by
  unfold mayP goesP seqP at h
  omega
theorem dos_step {Z : Zn} {j x m : Int} (hZ : mayP Z) (h : (dos Z j x m).2 = 0) : stepP Z (dos Z j x m).1 j x m := by
  by_cases h1 : j = 1
  · rw [dos, if_pos h1] at *
    unfold opn at *
    split at h
    · simp at *; omega
    · split at h
      · simp at h
      · rw [if_neg (by assumption), if_neg (by assumption)]; exact step_same rfl rfl rfl
  by_cases h2 : j = 2
  · rw [dos, if_neg h1, if_pos h2] at *
    unfold cls at *
    split at h
    · simp at *; omega
    · rw [if_neg (by assumption)]
      split at h
      · rw [if_pos (by assumption)]; exact step_same rfl rfl rfl
      · rw [if_neg (by assumption)]
        split at h
        · rw [if_pos (by assumption)]; exact step_same rfl rfl rfl
        · simp at h
  by_cases h3 : j = 3
  · rw [dos, if_neg h1, if_neg h2, if_pos h3] at *
    unfold fns at *
    split at h
    · simp at *; omega
    · rw [if_neg (by assumption)]; exact step_same rfl rfl rfl
  by_cases h4 : j = 4
  · rw [dos, if_neg h1, if_neg h2, if_neg h3, if_pos h4] at *
    unfold rst at *
    have hu := (may_u hZ).1
    split at h
    · simp at *; omega
    · rw [if_neg (by assumption)]
      exact ⟨rfl, rfl, fun _ => h4, fun h => by dsimp only at h; omega⟩
  by_cases h5 : j = 5
  · rw [dos, if_neg h1, if_neg h2, if_neg h3, if_neg h4, if_pos h5] at *
    by_cases c1 : ¬ mayP Z ∨ m < 1
    · rw [wrt, if_pos c1] at h; simp at h
    by_cases c2 : hurtP Z.s ∨ Z.s = 5
    · rw [wrt, if_neg c1, if_pos c2] at h; simp at h
    by_cases c3 : ¬ inP Z.a Z.l x m
    · rw [wrt, if_neg c1, if_neg c2, if_pos c3] at h; simp at h
    by_cases c4 : Z.k = 1
    · rw [wrt, if_neg c1, if_neg c2, if_neg c3, if_pos c4]; exact step_same rfl rfl rfl
    by_cases c5 : x ≠ Z.a + Z.u
    · rw [wrt, if_neg c1, if_neg c2, if_neg c3, if_neg c4, if_pos c5] at h; simp at h
    rw [wrt, if_neg c1, if_neg c2, if_neg c3, if_neg c4, if_neg c5]
    exact ⟨rfl, rfl, fun h => by dsimp only at h; omega, fun _ => ⟨h5, by omega, rfl⟩⟩
  rw [dos, if_neg h1, if_neg h2, if_neg h3, if_neg h4, if_neg h5] at *
  by_cases c1 : ¬ mayP Z ∨ ¬ hurtP m
  · rw [hrt, if_pos c1] at h; simp at h
  by_cases c2 : Z.s = 7 ∨ Z.s = m
  · rw [hrt, if_neg c1, if_pos c2] at h; simp at h
  rw [hrt, if_neg c1, if_neg c2]
  exact step_same rfl rfl rfl
end Go.Proofs.Ytjmagbmdobiccaa.MZnPM
