/- Contract: which zones may be, by the document. No condition. -/
import Derived.Test.YtjmagbmdobiccaaZnB
namespace Go.Proofs.Ytjmagbmdobiccaa.ZnR
open Go.RowKit MSep MZnM ZnA ZnB

set_option maxHeartbeats 4000000 in
theorem rmay_ok (n k s a l u : Int) (w : World) : Calls Try.prog 19 #[.agg #[.int .i64 n, .int .i64 k, .int .i64 s, .int .i64 a, .int .i64 l, .int .i64 u]] w fun e w' => e = .returned (.bool (decide (mayP ⟨n, k, s, a, l, u⟩))) ∧ Fr No w w' := by
  have HF := hid ((Fr.refl No w).alloc (bz n k s a l u))
  by_cases c4 : n < 0
  · skip
    go_enter Try.func19, Try.ntmps19
    go_wp2_with fail
    go_ret
    exact ⟨retb (by first | exact (decide_eq_true (by unfold mayP goesP seqP; dsimp only; omega)).symm | exact (decide_eq_false (by unfold mayP goesP seqP; dsimp only; omega)).symm), HF.out⟩
  by_cases c10 : 255 < n
  · skip
    go_enter Try.func19, Try.ntmps19
    go_wp2_with fail
    go_ret
    exact ⟨retb (by first | exact (decide_eq_true (by unfold mayP goesP seqP; dsimp only; omega)).symm | exact (decide_eq_false (by unfold mayP goesP seqP; dsimp only; omega)).symm), HF.out⟩
  by_cases c16 : l < 1
  · skip
    go_enter Try.func19, Try.ntmps19
    go_wp2_with fail
    go_ret
    exact ⟨retb (by first | exact (decide_eq_true (by unfold mayP goesP seqP; dsimp only; omega)).symm | exact (decide_eq_false (by unfold mayP goesP seqP; dsimp only; omega)).symm), HF.out⟩
  by_cases c22 : 4096 < l
  · skip
    go_enter Try.func19, Try.ntmps19
    go_wp2_with fail
    go_ret
    exact ⟨retb (by first | exact (decide_eq_true (by unfold mayP goesP seqP; dsimp only; omega)).symm | exact (decide_eq_false (by unfold mayP goesP seqP; dsimp only; omega)).symm), HF.out⟩
  by_cases c28 : a < 0
  · skip
    go_enter Try.func19, Try.ntmps19
    go_wp2_with fail
    go_ret
    exact ⟨retb (by first | exact (decide_eq_true (by unfold mayP goesP seqP; dsimp only; omega)).symm | exact (decide_eq_false (by unfold mayP goesP seqP; dsimp only; omega)).symm), HF.out⟩
  by_cases c34 : 1048576 < a
  · skip
    go_enter Try.func19, Try.ntmps19
    go_wp2_with fail
    go_ret
    exact ⟨retb (by first | exact (decide_eq_true (by unfold mayP goesP seqP; dsimp only; omega)).symm | exact (decide_eq_false (by unfold mayP goesP seqP; dsimp only; omega)).symm), HF.out⟩
  by_cases k1 : k = 1
  · subst k1
    by_cases u0 : u = 0
    · subst u0
      by_cases s0 : s = 0
      · subst s0
        go_enter Try.func19, Try.ntmps19
        go_wp2_with fail
        go_ret
        exact ⟨retb (by first | exact (decide_eq_true (by unfold mayP goesP seqP; dsimp only; omega)).symm | exact (decide_eq_false (by unfold mayP goesP seqP; dsimp only; omega)).symm), HF.out⟩
      by_cases s6 : s = 6
      · subst s6
        go_enter Try.func19, Try.ntmps19
        go_wp2_with fail
        go_ret
        exact ⟨retb (by first | exact (decide_eq_true (by unfold mayP goesP seqP; dsimp only; omega)).symm | exact (decide_eq_false (by unfold mayP goesP seqP; dsimp only; omega)).symm), HF.out⟩
      by_cases s7 : s = 7
      · subst s7
        go_enter Try.func19, Try.ntmps19
        go_wp2_with fail
        go_ret
        exact ⟨retb (by first | exact (decide_eq_true (by unfold mayP goesP seqP; dsimp only; omega)).symm | exact (decide_eq_false (by unfold mayP goesP seqP; dsimp only; omega)).symm), HF.out⟩
      have s0' : (s == 0) = false := by simpa using s0
      have s6' : (s == 6) = false := by simpa using s6
      have s7' : (s == 7) = false := by simpa using s7
      go_enter Try.func19, Try.ntmps19
      go_wp2_with fail
      go_ret
      exact ⟨retb (by first | exact (decide_eq_true (by unfold mayP goesP seqP; dsimp only; omega)).symm | exact (decide_eq_false (by unfold mayP goesP seqP; dsimp only; omega)).symm), HF.out⟩
    · skip
      go_enter Try.func19, Try.ntmps19
      go_wp2_with fail
      go_ret
      exact ⟨retb (by first | exact (decide_eq_true (by unfold mayP goesP seqP; dsimp only; omega)).symm | exact (decide_eq_false (by unfold mayP goesP seqP; dsimp only; omega)).symm), HF.out⟩
  by_cases k2 : k = 2
  · subst k2
    by_cases s1 : s = 1
    · subst s1
      by_cases u0 : u = 0
      · subst u0
        go_enter Try.func19, Try.ntmps19
        go_wp2_with fail
        go_ret
        exact ⟨retb (by first | exact (decide_eq_true (by unfold mayP goesP seqP; dsimp only; omega)).symm | exact (decide_eq_false (by unfold mayP goesP seqP; dsimp only; omega)).symm), HF.out⟩
      · have u0' : (u == 0) = false := by simpa using u0
        go_enter Try.func19, Try.ntmps19
        go_wp2_with fail
        go_ret
        exact ⟨retb (by first | exact (decide_eq_true (by unfold mayP goesP seqP; dsimp only; omega)).symm | exact (decide_eq_false (by unfold mayP goesP seqP; dsimp only; omega)).symm), HF.out⟩
    by_cases s2 : s = 2
    · subst s2
      by_cases u1 : 0 ≤ u
      · by_cases u2 : u < l
        · skip
          go_enter Try.func19, Try.ntmps19
          go_wp2_with fail
          go_ret
          exact ⟨retb (by first | exact (decide_eq_true (by unfold mayP goesP seqP; dsimp only; omega)).symm | exact (decide_eq_false (by unfold mayP goesP seqP; dsimp only; omega)).symm), HF.out⟩
        · skip
          go_enter Try.func19, Try.ntmps19
          go_wp2_with fail
          go_ret
          exact ⟨retb (by first | exact (decide_eq_true (by unfold mayP goesP seqP; dsimp only; omega)).symm | exact (decide_eq_false (by unfold mayP goesP seqP; dsimp only; omega)).symm), HF.out⟩
      · skip
        go_enter Try.func19, Try.ntmps19
        go_wp2_with fail
        go_ret
        exact ⟨retb (by first | exact (decide_eq_true (by unfold mayP goesP seqP; dsimp only; omega)).symm | exact (decide_eq_false (by unfold mayP goesP seqP; dsimp only; omega)).symm), HF.out⟩
    by_cases s3 : s = 3
    · subst s3
      by_cases u1 : 0 ≤ u
      · by_cases u2 : u < l
        · skip
          go_enter Try.func19, Try.ntmps19
          go_wp2_with fail
          go_ret
          exact ⟨retb (by first | exact (decide_eq_true (by unfold mayP goesP seqP; dsimp only; omega)).symm | exact (decide_eq_false (by unfold mayP goesP seqP; dsimp only; omega)).symm), HF.out⟩
        · skip
          go_enter Try.func19, Try.ntmps19
          go_wp2_with fail
          go_ret
          exact ⟨retb (by first | exact (decide_eq_true (by unfold mayP goesP seqP; dsimp only; omega)).symm | exact (decide_eq_false (by unfold mayP goesP seqP; dsimp only; omega)).symm), HF.out⟩
      · skip
        go_enter Try.func19, Try.ntmps19
        go_wp2_with fail
        go_ret
        exact ⟨retb (by first | exact (decide_eq_true (by unfold mayP goesP seqP; dsimp only; omega)).symm | exact (decide_eq_false (by unfold mayP goesP seqP; dsimp only; omega)).symm), HF.out⟩
    by_cases s4 : s = 4
    · subst s4
      by_cases u1 : 1 ≤ u
      · by_cases u2 : u < l
        · skip
          go_enter Try.func19, Try.ntmps19
          go_wp2_with fail
          go_ret
          exact ⟨retb (by first | exact (decide_eq_true (by unfold mayP goesP seqP; dsimp only; omega)).symm | exact (decide_eq_false (by unfold mayP goesP seqP; dsimp only; omega)).symm), HF.out⟩
        · skip
          go_enter Try.func19, Try.ntmps19
          go_wp2_with fail
          go_ret
          exact ⟨retb (by first | exact (decide_eq_true (by unfold mayP goesP seqP; dsimp only; omega)).symm | exact (decide_eq_false (by unfold mayP goesP seqP; dsimp only; omega)).symm), HF.out⟩
      · skip
        go_enter Try.func19, Try.ntmps19
        go_wp2_with fail
        go_ret
        exact ⟨retb (by first | exact (decide_eq_true (by unfold mayP goesP seqP; dsimp only; omega)).symm | exact (decide_eq_false (by unfold mayP goesP seqP; dsimp only; omega)).symm), HF.out⟩
    by_cases s5 : s = 5
    · subst s5
      by_cases u1 : 0 ≤ u
      · by_cases u2 : u ≤ l
        · skip
          go_enter Try.func19, Try.ntmps19
          go_wp2_with fail
          go_ret
          exact ⟨retb (by first | exact (decide_eq_true (by unfold mayP goesP seqP; dsimp only; omega)).symm | exact (decide_eq_false (by unfold mayP goesP seqP; dsimp only; omega)).symm), HF.out⟩
        · skip
          go_enter Try.func19, Try.ntmps19
          go_wp2_with fail
          go_ret
          exact ⟨retb (by first | exact (decide_eq_true (by unfold mayP goesP seqP; dsimp only; omega)).symm | exact (decide_eq_false (by unfold mayP goesP seqP; dsimp only; omega)).symm), HF.out⟩
      · skip
        go_enter Try.func19, Try.ntmps19
        go_wp2_with fail
        go_ret
        exact ⟨retb (by first | exact (decide_eq_true (by unfold mayP goesP seqP; dsimp only; omega)).symm | exact (decide_eq_false (by unfold mayP goesP seqP; dsimp only; omega)).symm), HF.out⟩
    by_cases s6 : s = 6
    · subst s6
      by_cases u1 : 0 ≤ u
      · by_cases u2 : u ≤ l
        · skip
          go_enter Try.func19, Try.ntmps19
          go_wp2_with fail
          go_ret
          exact ⟨retb (by first | exact (decide_eq_true (by unfold mayP goesP seqP; dsimp only; omega)).symm | exact (decide_eq_false (by unfold mayP goesP seqP; dsimp only; omega)).symm), HF.out⟩
        · skip
          go_enter Try.func19, Try.ntmps19
          go_wp2_with fail
          go_ret
          exact ⟨retb (by first | exact (decide_eq_true (by unfold mayP goesP seqP; dsimp only; omega)).symm | exact (decide_eq_false (by unfold mayP goesP seqP; dsimp only; omega)).symm), HF.out⟩
      · skip
        go_enter Try.func19, Try.ntmps19
        go_wp2_with fail
        go_ret
        exact ⟨retb (by first | exact (decide_eq_true (by unfold mayP goesP seqP; dsimp only; omega)).symm | exact (decide_eq_false (by unfold mayP goesP seqP; dsimp only; omega)).symm), HF.out⟩
    by_cases s7 : s = 7
    · subst s7
      by_cases u1 : 0 ≤ u
      · by_cases u2 : u ≤ l
        · skip
          go_enter Try.func19, Try.ntmps19
          go_wp2_with fail
          go_ret
          exact ⟨retb (by first | exact (decide_eq_true (by unfold mayP goesP seqP; dsimp only; omega)).symm | exact (decide_eq_false (by unfold mayP goesP seqP; dsimp only; omega)).symm), HF.out⟩
        · skip
          go_enter Try.func19, Try.ntmps19
          go_wp2_with fail
          go_ret
          exact ⟨retb (by first | exact (decide_eq_true (by unfold mayP goesP seqP; dsimp only; omega)).symm | exact (decide_eq_false (by unfold mayP goesP seqP; dsimp only; omega)).symm), HF.out⟩
      · skip
        go_enter Try.func19, Try.ntmps19
        go_wp2_with fail
        go_ret
        exact ⟨retb (by first | exact (decide_eq_true (by unfold mayP goesP seqP; dsimp only; omega)).symm | exact (decide_eq_false (by unfold mayP goesP seqP; dsimp only; omega)).symm), HF.out⟩
    go_enter Try.func19, Try.ntmps19
    go_wp2_with fail
    go_ret
    exact ⟨retb (by first | exact (decide_eq_true (by unfold mayP goesP seqP; dsimp only; omega)).symm | exact (decide_eq_false (by unfold mayP goesP seqP; dsimp only; omega)).symm), HF.out⟩
  go_enter Try.func19, Try.ntmps19
  go_wp2_with fail
  go_ret
  exact ⟨retb (by first | exact (decide_eq_true (by unfold mayP goesP seqP; dsimp only; omega)).symm | exact (decide_eq_false (by unfold mayP goesP seqP; dsimp only; omega)).symm), HF.out⟩
end Go.Proofs.Ytjmagbmdobiccaa.ZnR
