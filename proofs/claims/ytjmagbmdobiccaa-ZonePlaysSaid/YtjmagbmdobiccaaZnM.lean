/- Plain facts on zones: which may be, what a call makes of one. Nothing here speaks of a program. -/
import Derived.WalkKit
namespace Go.Proofs.Ytjmagbmdobiccaa.MZnM

/-- A zone: number, kind, state, first sector, length, how many are written. -/
structure Zn where
  n : Int
  k : Int
  s : Int
  a : Int
  l : Int
  u : Int

/-- All its numbers are 64 bits. -/
def i64 (x : Int) : Prop := -9223372036854775808 ≤ x ∧ x ≤ 9223372036854775807
def wfz (z : Zn) : Prop := i64 z.n ∧ i64 z.k ∧ i64 z.s ∧ i64 z.a ∧ i64 z.l ∧ i64 z.u
def z0 : Zn := ⟨0, 0, 0, 0, 0, 0⟩

def seqP (s l u : Int) : Prop := (s = 1 ∧ u = 0) ∨ ((s = 2 ∨ s = 3) ∧ 0 ≤ u ∧ u ≤ l - 1) ∨ (s = 4 ∧ 1 ≤ u ∧ u ≤ l - 1) ∨ ((s = 5 ∨ s = 6 ∨ s = 7) ∧ 0 ≤ u ∧ u ≤ l)
instance (s l u : Int) : Decidable (seqP s l u) := by unfold seqP; infer_instance
def goesP (k s l u : Int) : Prop := (k = 1 ∧ u = 0 ∧ (s = 0 ∨ s = 6 ∨ s = 7)) ∨ (k = 2 ∧ seqP s l u)
instance (k s l u : Int) : Decidable (goesP k s l u) := by unfold goesP; infer_instance
def mayP (z : Zn) : Prop := (0 ≤ z.n ∧ z.n ≤ 255) ∧ (1 ≤ z.l ∧ z.l ≤ 4096) ∧ (0 ≤ z.a ∧ z.a ≤ 1048576) ∧ goesP z.k z.s z.l z.u
instance (z : Zn) : Decidable (mayP z) := by unfold mayP; infer_instance
def hurtP (s : Int) : Prop := s = 6 ∨ s = 7
instance (s : Int) : Decidable (hurtP s) := by unfold hurtP; infer_instance
def openP (s : Int) : Prop := s = 2 ∨ s = 3
instance (s : Int) : Decidable (openP s) := by unfold openP; infer_instance
def inP (a l at_ n : Int) : Prop := a ≤ at_ ∧ at_ < a + l ∧ n ≤ a + l - at_
instance (a l at_ n : Int) : Decidable (inP a l at_ n) := by unfold inP; infer_instance

/-- Why a zone's state can't be changed; 0: it can. -/
def refd (z : Zn) : Int := if ¬ mayP z then 1 else if z.k = 1 then 53 else if hurtP z.s then 52 else 0
def opn (z : Zn) : Zn × Int := if refd z ≠ 0 then (z0, refd z) else if z.s = 5 then (z0, 52) else ({ z with s := 3 }, 0)
def cls (z : Zn) : Zn × Int := if refd z ≠ 0 then (z0, refd z) else if openP z.s then ({ z with s := if z.u = 0 then 1 else 4 }, 0) else if z.s = 4 then (z, 0) else (z0, 52)
def fns (z : Zn) : Zn × Int := if refd z ≠ 0 then (z0, refd z) else ({ z with s := 5 }, 0)
def rst (z : Zn) : Zn × Int := if refd z ≠ 0 then (z0, refd z) else ({ z with s := 1, u := 0 }, 0)
def wrt (z : Zn) (at_ n : Int) : Zn × Int :=
  if ¬ mayP z ∨ n < 1 then (z0, 1) else if hurtP z.s ∨ z.s = 5 then (z0, 52) else if ¬ inP z.a z.l at_ n then (z0, 51) else if z.k = 1 then (z, 0)
  else if at_ ≠ z.a + z.u then (z0, 50) else ({ z with s := if z.u + n = z.l then 5 else if z.s = 3 then 3 else 2, u := z.u + n }, 0)
def hrt (z : Zn) (s : Int) : Zn × Int := if ¬ mayP z ∨ ¬ hurtP s then (z0, 1) else if z.s = 7 ∨ z.s = s then (z0, 52) else ({ z with s := s }, 0)
def red (z : Zn) (at_ n : Int) : Int :=
  if ¬ mayP z ∨ n < 1 then 1 else if z.s = 7 then 52 else if ¬ inP z.a z.l at_ n then 51 else if z.k = 2 ∧ n > z.a + z.u - at_ then 50 else 0
def lft (z : Zn) : Int := if ¬ mayP z ∨ z.k = 1 ∨ z.s = 5 ∨ hurtP z.s then 0 else z.l - z.u
def ptr (z : Zn) : Int := if lft z = 0 then -1 else z.a + z.u
/-- One call: 1 Open, 2 Close, 3 Finish, 4 Reset, 5 Write, else Hurt. -/
def dos (z : Zn) (k at_ n : Int) : Zn × Int := if k = 1 then opn z else if k = 2 then cls z else if k = 3 then fns z else if k = 4 then rst z else if k = 5 then wrt z at_ n else hrt z n

theorem refd_zero {z : Zn} (h : refd z = 0) : mayP z ∧ z.k ≠ 1 ∧ ¬ hurtP z.s := by
  unfold refd at h
  split at h
  · omega
  · rename_i hm
    split at h
    · omega
    · split at h
      · omega
      · rename_i h1 h2
        exact ⟨by simpa using hm, h1, h2⟩
theorem opn_may (z : Zn) (h : (opn z).2 = 0) : mayP (opn z).1 := by
  by_cases hr : refd z ≠ 0
  · rw [opn, if_pos hr] at h; exact absurd h hr
  obtain ⟨hm, hk, hh⟩ := refd_zero (z := z) (by omega)
  by_cases hc : z.s = 5
  · rw [opn, if_neg hr, if_pos hc] at h; simp at h
  rw [opn, if_neg hr, if_neg hc]
  clear h hr
  obtain ⟨zn, zk, zs, za, zl, zu⟩ := z
  simp only [mayP, goesP, seqP, hurtP, or_true, true_and] at *
  omega
theorem cls_may (z : Zn) (h : (cls z).2 = 0) : mayP (cls z).1 := by
  by_cases hr : refd z ≠ 0
  · rw [cls, if_pos hr] at h; exact absurd h hr
  obtain ⟨hm, hk, hh⟩ := refd_zero (z := z) (by omega)
  by_cases hc : openP z.s
  · rw [cls, if_neg hr, if_pos hc]
    clear h hr
    obtain ⟨zn, zk, zs, za, zl, zu⟩ := z
    simp only [mayP, goesP, seqP, hurtP, openP] at *
    split <;> omega
  by_cases hd : z.s = 4
  · rw [cls, if_neg hr, if_neg hc, if_pos hd]
    exact hm
  rw [cls, if_neg hr, if_neg hc, if_neg hd] at h
  simp at h
theorem fns_may (z : Zn) (h : (fns z).2 = 0) : mayP (fns z).1 := by
  by_cases hr : refd z ≠ 0
  · rw [fns, if_pos hr] at h; exact absurd h hr
  obtain ⟨hm, hk, hh⟩ := refd_zero (z := z) (by omega)
  rw [fns, if_neg hr]
  clear h hr
  obtain ⟨zn, zk, zs, za, zl, zu⟩ := z
  simp only [mayP, goesP, seqP, hurtP, true_or, true_and] at *
  omega
theorem rst_may (z : Zn) (h : (rst z).2 = 0) : mayP (rst z).1 := by
  by_cases hr : refd z ≠ 0
  · rw [rst, if_pos hr] at h; exact absurd h hr
  obtain ⟨hm, hk, hh⟩ := refd_zero (z := z) (by omega)
  rw [rst, if_neg hr]
  clear h hr
  obtain ⟨zn, zk, zs, za, zl, zu⟩ := z
  simp only [mayP, goesP, seqP, hurtP, true_or, true_and, and_true] at *
  omega
theorem wrt_may (z : Zn) (at_ n : Int) (h : (wrt z at_ n).2 = 0) : mayP (wrt z at_ n).1 := by
  obtain ⟨zn, zk, zs, za, zl, zu⟩ := z
  by_cases h1 : ¬ mayP ⟨zn, zk, zs, za, zl, zu⟩ ∨ n < 1
  · rw [wrt, if_pos h1] at h; simp at h
  by_cases h2 : hurtP zs ∨ zs = 5
  · rw [wrt, if_neg h1, if_pos h2] at h; simp at h
  by_cases h3 : ¬ inP za zl at_ n
  · rw [wrt, if_neg h1, if_neg h2, if_pos h3] at h; simp at h
  by_cases h4 : zk = 1
  · rw [wrt, if_neg h1, if_neg h2, if_neg h3, if_pos h4]
    simp only []
    simpa using (not_or.1 h1).1
  by_cases h5 : at_ ≠ za + zu
  · rw [wrt, if_neg h1, if_neg h2, if_neg h3, if_neg h4, if_pos h5] at h; simp at h
  rw [wrt, if_neg h1, if_neg h2, if_neg h3, if_neg h4, if_neg h5]
  simp only [mayP, goesP, seqP, hurtP, inP] at *
  split
  · omega
  · split <;> omega
theorem hrt_may (z : Zn) (s : Int) (h : (hrt z s).2 = 0) : mayP (hrt z s).1 := by
  obtain ⟨zn, zk, zs, za, zl, zu⟩ := z
  by_cases h1 : ¬ mayP ⟨zn, zk, zs, za, zl, zu⟩ ∨ ¬ hurtP s
  · rw [hrt, if_pos h1] at h; simp at h
  by_cases h2 : zs = 7 ∨ zs = s
  · rw [hrt, if_neg h1, if_pos h2] at h; simp at h
  rw [hrt, if_neg h1, if_neg h2]
  simp only [mayP, goesP, seqP, hurtP] at *
  omega
/-- What a call makes of a zone may be. -/
theorem dos_may (z : Zn) (k at_ n : Int) (h : (dos z k at_ n).2 = 0) : mayP (dos z k at_ n).1 := by
  by_cases h1 : k = 1
  · rw [dos, if_pos h1] at *; exact opn_may z h
  by_cases h2 : k = 2
  · rw [dos, if_neg h1, if_pos h2] at *; exact cls_may z h
  by_cases h3 : k = 3
  · rw [dos, if_neg h1, if_neg h2, if_pos h3] at *; exact fns_may z h
  by_cases h4 : k = 4
  · rw [dos, if_neg h1, if_neg h2, if_neg h3, if_pos h4] at *; exact rst_may z h
  by_cases h5 : k = 5
  · rw [dos, if_neg h1, if_neg h2, if_neg h3, if_neg h4, if_pos h5] at *; exact wrt_may z at_ n h
  rw [dos, if_neg h1, if_neg h2, if_neg h3, if_neg h4, if_neg h5] at *
  exact hrt_may z n h
end Go.Proofs.Ytjmagbmdobiccaa.MZnM
