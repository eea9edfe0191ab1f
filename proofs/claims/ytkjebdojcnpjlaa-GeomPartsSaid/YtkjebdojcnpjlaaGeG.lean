/- Plain facts on runs, of no program: a span, cut into pieces that are each in one band and not too long, one behind the other. -/
import Derived.Test.YtkjebdojcnpjlaaSqU
namespace Go.Proofs.Ytkjebdojcnpjlaa.MGeG
open MSpM SqU

/-- How long the piece from x on is: u at most, ahead of e, in one band of d. -/
def stp (e d u x : Int) : Int := min u (min (e - x) ((x / d + 1) * d - x))
/-- Where piece k begins. -/
def pos (a e d u : Int) : Nat → Int
  | 0 => a
  | k + 1 => pos a e d u k + stp e d u (pos a e d u k)
/-- The first k pieces. -/
def rns (a e d u : Int) (k : Nat) : List Sp := (List.range k).map fun i => (pos a e d u i, stp e d u (pos a e d u i))
theorem rns_len (a e d u : Int) (k : Nat) : (rns a e d u k).length = k := by simp [rns]
theorem rns_succ (a e d u : Int) (k : Nat) : rns a e d u (k + 1) = rns a e d u k ++ [(pos a e d u k, stp e d u (pos a e d u k))] := by simp [rns, List.range_succ]
theorem stp_pos {e d u x : Int} (hd : 0 < d) (hu : 0 < u) (hx : x < e) : 1 ≤ stp e d u x ∧ stp e d u x ≤ e - x ∧ stp e d u x ≤ u := by
  have := Int.lt_ediv_add_one_mul_self x hd
  unfold stp
  omega
theorem stp_band {e d u x f : Int} (hd : 0 < d) (h1 : f * d ≤ x) (h2 : x < f * d + d) : stp e d u x = min u (min (e - x) (f * d + d - x)) := by
  unfold stp
  rw [div_of hd h1 (by rw [Int.add_mul, Int.one_mul]; exact h2), Int.add_mul, Int.one_mul]
/-- All pieces ahead of the k-th begin ahead of e. -/
def Ok (a e d u : Int) (k : Nat) : Prop := ∀ j, j < k → pos a e d u j < e
theorem Ok.zero (a e d u : Int) : Ok a e d u 0 := fun _ h => absurd h (by omega)
theorem Ok.succ {a e d u : Int} {k : Nat} (h : Ok a e d u k) (hk : pos a e d u k < e) : Ok a e d u (k + 1) := fun j hj => by
  rcases Nat.lt_or_ge j k with h1 | h1
  · exact h j h1
  · obtain rfl : j = k := by omega
    exact hk
theorem Ok.low {a e d u : Int} {k : Nat} (hd : 0 < d) (hu : 0 < u) (h : Ok a e d u k) : a + k ≤ pos a e d u k := by
  induction k with
  | zero => simp [pos]
  | succ k ih =>
    have h1 := ih (fun j hj => h j (by omega))
    have h2 := stp_pos (e := e) hd hu (h k (by omega))
    have e1 : pos a e d u (k + 1) = pos a e d u k + stp e d u (pos a e d u k) := rfl
    rw [e1]
    omega
theorem Ok.one {a e d u : Int} {k k' : Nat} (h : Ok a e d u k) (h' : Ok a e d u k') (hk : ¬ pos a e d u k < e) (hk' : ¬ pos a e d u k' < e) : k = k' := by
  rcases Nat.lt_trichotomy k k' with h1 | h1 | h1
  · exact absurd (h' k h1) hk
  · exact h1
  · exact absurd (h k' h1) hk'
theorem pos_succ (a e d u : Int) (k : Nat) : pos a e d u (k + 1) = pos a e d u k + stp e d u (pos a e d u k) := rfl
end Go.Proofs.Ytkjebdojcnpjlaa.MGeG
