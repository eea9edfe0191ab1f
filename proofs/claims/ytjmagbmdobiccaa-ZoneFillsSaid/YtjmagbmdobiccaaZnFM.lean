/- Plain facts on a zone that is written sector by sector. Nothing here speaks of a program. -/
import Derived.Test.YtjmagbmdobiccaaZnM
namespace Go.Proofs.Ytjmagbmdobiccaa.MZnFM
open MZnM

/-- Its state behind k sectors of L; o: it was opened. -/
def st (o : Bool) (k L : Nat) : Int := if k = L then 5 else if o then 3 else if k = 0 then 1 else 2
theorem st_may (o : Bool) {k L : Nat} (h : k ≤ L) (h1 : 1 ≤ L) (h2 : L ≤ 300) : mayP ⟨0, 2, st o k L, 0, L, k⟩ := by
  unfold mayP goesP seqP st
  dsimp only
  split
  · omega
  · split
    · omega
    · split <;> omega
theorem st_five {o : Bool} {k L : Nat} (h : k < L) : st o k L ≠ 5 ∧ ¬ hurtP (st o k L) := by
  unfold st hurtP
  rw [if_neg (by omega)]
  split
  · omega
  · split <;> omega
theorem st_lft {o : Bool} {k L : Nat} (h : k < L) (h2 : L ≤ 300) : lft ⟨0, 2, st o k L, 0, L, k⟩ = L - k := by
  obtain ⟨h5, hh⟩ := st_five (o := o) h
  unfold lft
  rw [if_neg]
  intro hc
  rcases hc with hc | hc | hc | hc
  · exact hc (st_may o (by omega) (by omega) h2)
  · simp at hc
  · exact h5 hc
  · exact hh hc
theorem st_ptr {o : Bool} {k L : Nat} (h : k < L) (h2 : L ≤ 300) : ptr ⟨0, 2, st o k L, 0, L, k⟩ = k := by
  unfold ptr
  rw [st_lft h h2, if_neg (by omega)]
  dsimp only
  omega
theorem st_wrt {o : Bool} {k L : Nat} (h : k < L) (h2 : L ≤ 300) : wrt ⟨0, 2, st o k L, 0, L, k⟩ k 1 = (⟨0, 2, st o (k + 1) L, 0, L, (k : Int) + 1⟩, 0) := by
  obtain ⟨h5, hh⟩ := st_five (o := o) h
  have hm := st_may o (k := k) (L := L) (by omega) (by omega) h2
  have hs : (if (k : Int) + 1 = L then (5 : Int) else if st o k L = 3 then 3 else 2) = st o (k + 1) L := by
    unfold st
    rw [if_neg (show ¬ k = L by omega)]
    by_cases he : k + 1 = L
    · rw [if_pos (by omega), if_pos he]
    · rw [if_neg (by omega), if_neg he]
      cases o
      · by_cases h0 : k = 0 <;> simp [h0]
      · simp
  unfold wrt
  rw [if_neg (fun hc => hc.elim (fun hc => hc hm) (by omega)), if_neg (fun hc => hc.elim hh h5), if_neg (by unfold inP; dsimp only; omega), if_neg (by dsimp only; omega), if_neg (by dsimp only; omega)]
  dsimp only
  rw [hs]
theorem st_end {o : Bool} {L : Nat} : st o L L = 5 := by unfold st; rw [if_pos rfl]
theorem end_wrt {L : Nat} (h1 : 1 ≤ L) (h2 : L ≤ 300) : wrt ⟨0, 2, 5, 0, L, L⟩ ((L : Int) - 1) 1 = (z0, 52) := by
  have hm := st_may false (k := L) (L := L) (by omega) h1 h2
  rw [st_end] at hm
  unfold wrt
  rw [if_neg (fun hc => hc.elim (fun hc => hc hm) (by omega)), if_pos (.inr rfl)]
theorem end_red {L : Nat} (h1 : 1 ≤ L) (h2 : L ≤ 300) : red ⟨0, 2, 5, 0, L, L⟩ 0 L = 0 := by
  have hm := st_may false (k := L) (L := L) (by omega) h1 h2
  rw [st_end] at hm
  unfold red
  rw [if_neg (fun hc => hc.elim (fun hc => hc hm) (by omega)), if_neg (by dsimp only; omega), if_neg (by unfold inP; dsimp only; omega), if_neg (by dsimp only; omega)]
theorem start_opn {L : Nat} (h1 : 1 ≤ L) (h2 : L ≤ 300) : opn ⟨0, 2, 1, 0, L, 0⟩ = (⟨0, 2, 3, 0, L, 0⟩, 0) := by
  have hm : mayP ⟨0, 2, 1, 0, L, 0⟩ := by unfold mayP goesP seqP; dsimp only; omega
  have r0 : refd ⟨0, 2, 1, 0, L, 0⟩ = 0 := by unfold refd; rw [if_neg (fun h => h hm), if_neg (by dsimp only; omega), if_neg (by unfold hurtP; dsimp only; omega)]
  unfold opn
  rw [if_neg (by omega), if_neg (by dsimp only; omega)]
end Go.Proofs.Ytjmagbmdobiccaa.MZnFM
