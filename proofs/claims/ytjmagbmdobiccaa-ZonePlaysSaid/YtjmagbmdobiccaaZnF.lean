/- Contracts: a zone that is read, by both; what is left of it, its pointer, a state's name, by the program. Condition: all numbers are 64 bits. -/
import Derived.Test.YtjmagbmdobiccaaZnD
import Derived.Test.YtjmagbmdobiccaaZnR
namespace Go.Proofs.Ytjmagbmdobiccaa.ZnF
open Go.RowKit MSep MZnM ZnA ZnB ZnR ZnC ZnD

set_option maxRecDepth 100000 in
set_option maxHeartbeats 4000000 in
theorem read_ok (n k s a l u x m : Int) (w : World) : Calls Try.prog 20 #[.agg #[.int .i64 n, .int .i64 k, .int .i64 s, .int .i64 a, .int .i64 l, .int .i64 u], .int .i64 x, .int .i64 m] w fun e w' => e = .returned (.int .i64 (red ⟨n, k, s, a, l, u⟩ x m)) ∧ Fr No w w' := by
  have HF := hid ((Fr.refl No w).alloc (bz n k s a l u))
  have P0 := hid (BZ.new w n k s a l u)
  have HM := hid (fun w => may_ok n k s a l u w)
  by_cases hm : ¬ mayP ⟨n, k, s, a, l, u⟩
  · rw [decide_eq_false hm] at HM
    have e : red ⟨n, k, s, a, l, u⟩ x m = 1 := by unfold red; rw [if_pos (.inl hm)]
    rw [e]
    clear e
    clear hm
    go_enter Try.func20, Try.ntmps20
    go_wp2_with ((with_reducible refine ld_zone rfl (.tmp 3) rfl w.heap.size ?_ P0.out ?_); · rfl)
    refine (HM.out _).mono ?_
    rintro e w1 ⟨rfl, f1⟩
    have HF := kf f1 HF
    have P0 := hid (P0.out.fr f1)
    clear f1
    go_wp2_with fail
    go_ret
    exact ⟨rfl, HF.out⟩
  have hm' : mayP ⟨n, k, s, a, l, u⟩ := by simpa using hm
  rw [decide_eq_true hm'] at HM
  have hl : 1 ≤ l ∧ l ≤ 4096 := hm'.2.1
  have ha : 0 ≤ a ∧ a ≤ 1048576 := hm'.2.2.1
  have HI := hid (fun w => has_ok n k s a l u x m w hl ha)
  by_cases h1 : m < 1
  · skip
    have e : red ⟨n, k, s, a, l, u⟩ x m = 1 := by unfold red; rw [if_pos (.inr h1)]
    rw [e]
    clear e
    clear hm hm' hl ha HI
    go_enter Try.func20, Try.ntmps20
    go_wp2_with ((with_reducible refine ld_zone rfl (.tmp 3) rfl w.heap.size ?_ P0.out ?_); · rfl)
    refine (HM.out _).mono ?_
    rintro e w1 ⟨rfl, f1⟩
    have HF := kf f1 HF
    have P0 := hid (P0.out.fr f1)
    clear f1
    go_wp2_with fail
    go_ret
    exact ⟨rfl, HF.out⟩
  have n1 : ¬ (¬ mayP ⟨n, k, s, a, l, u⟩ ∨ m < 1) := not_or.2 ⟨hm, h1⟩
  by_cases h7 : s = 7
  · skip
    have e : red ⟨n, k, s, a, l, u⟩ x m = 52 := by unfold red; rw [if_neg n1, if_pos h7]
    rw [e]
    clear e
    clear hm hm' hl ha HI n1
    subst h7
    go_enter Try.func20, Try.ntmps20
    go_wp2_with ((with_reducible refine ld_zone rfl (.tmp 3) rfl w.heap.size ?_ P0.out ?_); · rfl)
    refine (HM.out _).mono ?_
    rintro e w1 ⟨rfl, f1⟩
    have HF := kf f1 HF
    have P0 := hid (P0.out.fr f1)
    clear f1
    obtain ⟨_, _, c2, _, _, _⟩ := P0.out.cells
    go_wp2_with fail
    go_ret
    exact ⟨rfl, HF.out⟩
  have h7' : (s == 7) = false := by simpa using h7
  by_cases hi : ¬ inP a l x m
  · rw [decide_eq_false hi] at HI
    have e : red ⟨n, k, s, a, l, u⟩ x m = 51 := by unfold red; rw [if_neg n1, if_neg h7, if_pos hi]
    rw [e]
    clear e
    clear hm hm' hl ha n1 hi h7
    go_enter Try.func20, Try.ntmps20
    go_wp2_with ((with_reducible refine ld_zone rfl (.tmp 3) rfl w.heap.size ?_ P0.out ?_); · rfl)
    refine (HM.out _).mono ?_
    rintro e w1 ⟨rfl, f1⟩
    have HF := kf f1 HF
    have P0 := hid (P0.out.fr f1)
    clear f1
    obtain ⟨_, _, c2, _, _, _⟩ := P0.out.cells
    go_wp2_with ((with_reducible refine ld_zone rfl (.tmp 3) rfl w.heap.size ?_ P0.out ?_); · rfl)
    refine (HI.out _).mono ?_
    rintro e w1 ⟨rfl, f1⟩
    have HF := kf f1 HF
    have P0 := hid (P0.out.fr f1)
    clear f1
    go_wp2_with fail
    go_ret
    exact ⟨rfl, HF.out⟩
  have hi' : inP a l x m := by simpa using hi
  rw [decide_eq_true hi'] at HI
  have hu : 0 ≤ u ∧ u ≤ l := by unfold mayP goesP seqP at hm'; dsimp only at hm'; omega
  have hx : a ≤ x ∧ x < a + l := ⟨hi'.1, hi'.2.1⟩
  obtain ⟨hu1, hu2⟩ := hu
  obtain ⟨hl1, hl2⟩ := hl
  obtain ⟨ha1, ha2⟩ := ha
  obtain ⟨hx1, hx2⟩ := hx
  by_cases k2 : k = 2
  · subst k2
    by_cases hg : m > a + u - x
    · skip
      have e : red ⟨n, 2, s, a, l, u⟩ x m = 50 := by unfold red; rw [if_neg n1, if_neg h7, if_neg hi, if_pos ⟨rfl, hg⟩]
      rw [e]
      clear e
      clear hm hm' n1 hi hi' h7
      go_enter Try.func20, Try.ntmps20
      go_wp2_with ((with_reducible refine ld_zone rfl (.tmp 3) rfl w.heap.size ?_ P0.out ?_); · rfl)
      refine (HM.out _).mono ?_
      rintro e w1 ⟨rfl, f1⟩
      have HF := kf f1 HF
      have P0 := hid (P0.out.fr f1)
      clear f1
      obtain ⟨_, _, c2, _, _, _⟩ := P0.out.cells
      go_wp2_with ((with_reducible refine ld_zone rfl (.tmp 3) rfl w.heap.size ?_ P0.out ?_); · rfl)
      refine (HI.out _).mono ?_
      rintro e w1 ⟨rfl, f1⟩
      have HF := kf f1 HF
      have P0 := hid (P0.out.fr f1)
      clear f1
      obtain ⟨_, c1, _, c3, _, c5⟩ := P0.out.cells
      go_wp2_with fail
      go_ret
      exact ⟨rfl, HF.out⟩
    · skip
      have e : red ⟨n, 2, s, a, l, u⟩ x m = 0 := by unfold red; rw [if_neg n1, if_neg h7, if_neg hi, if_neg (fun h => hg h.2)]
      rw [e]
      clear e
      clear hm hm' n1 hi hi' h7
      go_enter Try.func20, Try.ntmps20
      go_wp2_with ((with_reducible refine ld_zone rfl (.tmp 3) rfl w.heap.size ?_ P0.out ?_); · rfl)
      refine (HM.out _).mono ?_
      rintro e w1 ⟨rfl, f1⟩
      have HF := kf f1 HF
      have P0 := hid (P0.out.fr f1)
      clear f1
      obtain ⟨_, _, c2, _, _, _⟩ := P0.out.cells
      go_wp2_with ((with_reducible refine ld_zone rfl (.tmp 3) rfl w.heap.size ?_ P0.out ?_); · rfl)
      refine (HI.out _).mono ?_
      rintro e w1 ⟨rfl, f1⟩
      have HF := kf f1 HF
      have P0 := hid (P0.out.fr f1)
      clear f1
      obtain ⟨_, c1, _, c3, _, c5⟩ := P0.out.cells
      go_wp2_with fail
      go_ret
      exact ⟨rfl, HF.out⟩
  · skip
    have e : red ⟨n, k, s, a, l, u⟩ x m = 0 := by unfold red; rw [if_neg n1, if_neg h7, if_neg hi, if_neg (fun h => k2 h.1)]
    rw [e]
    clear e
    have k2' : (k == 2) = false := by simpa using k2
    clear hm hm' n1 hi hi' h7 k2
    go_enter Try.func20, Try.ntmps20
    go_wp2_with ((with_reducible refine ld_zone rfl (.tmp 3) rfl w.heap.size ?_ P0.out ?_); · rfl)
    refine (HM.out _).mono ?_
    rintro e w1 ⟨rfl, f1⟩
    have HF := kf f1 HF
    have P0 := hid (P0.out.fr f1)
    clear f1
    obtain ⟨_, _, c2, _, _, _⟩ := P0.out.cells
    go_wp2_with ((with_reducible refine ld_zone rfl (.tmp 3) rfl w.heap.size ?_ P0.out ?_); · rfl)
    refine (HI.out _).mono ?_
    rintro e w1 ⟨rfl, f1⟩
    have HF := kf f1 HF
    have P0 := hid (P0.out.fr f1)
    clear f1
    obtain ⟨_, c1, _, c3, _, c5⟩ := P0.out.cells
    go_wp2_with fail
    go_ret
    exact ⟨rfl, HF.out⟩
set_option maxRecDepth 100000 in
set_option maxHeartbeats 4000000 in
theorem rread_ok (n k s a l u x m : Int) (w : World) : Calls Try.prog 21 #[.agg #[.int .i64 n, .int .i64 k, .int .i64 s, .int .i64 a, .int .i64 l, .int .i64 u], .int .i64 x, .int .i64 m] w fun e w' => e = .returned (.int .i64 (red ⟨n, k, s, a, l, u⟩ x m)) ∧ Fr No w w' := by
  have HF := hid ((Fr.refl No w).alloc (bz n k s a l u))
  have P0 := hid (BZ.new w n k s a l u)
  have HM := hid (fun w => rmay_ok n k s a l u w)
  by_cases hm : ¬ mayP ⟨n, k, s, a, l, u⟩
  · rw [decide_eq_false hm] at HM
    have e : red ⟨n, k, s, a, l, u⟩ x m = 1 := by unfold red; rw [if_pos (.inl hm)]
    rw [e]
    clear e
    clear hm
    go_enter Try.func21, Try.ntmps21
    go_wp2_with ((with_reducible refine ld_zone rfl (.tmp 3) rfl w.heap.size ?_ P0.out ?_); · rfl)
    refine (HM.out _).mono ?_
    rintro e w1 ⟨rfl, f1⟩
    have HF := kf f1 HF
    have P0 := hid (P0.out.fr f1)
    clear f1
    go_wp2_with fail
    go_ret
    exact ⟨rfl, HF.out⟩
  have hm' : mayP ⟨n, k, s, a, l, u⟩ := by simpa using hm
  rw [decide_eq_true hm'] at HM
  have hl : 1 ≤ l ∧ l ≤ 4096 := hm'.2.1
  have ha : 0 ≤ a ∧ a ≤ 1048576 := hm'.2.2.1
  have HI := hid (fun w => rin_ok n k s a l u x m w hl ha)
  by_cases h1 : m < 1
  · skip
    have e : red ⟨n, k, s, a, l, u⟩ x m = 1 := by unfold red; rw [if_pos (.inr h1)]
    rw [e]
    clear e
    clear hm hm' hl ha HI
    go_enter Try.func21, Try.ntmps21
    go_wp2_with ((with_reducible refine ld_zone rfl (.tmp 3) rfl w.heap.size ?_ P0.out ?_); · rfl)
    refine (HM.out _).mono ?_
    rintro e w1 ⟨rfl, f1⟩
    have HF := kf f1 HF
    have P0 := hid (P0.out.fr f1)
    clear f1
    go_wp2_with fail
    go_ret
    exact ⟨rfl, HF.out⟩
  have n1 : ¬ (¬ mayP ⟨n, k, s, a, l, u⟩ ∨ m < 1) := not_or.2 ⟨hm, h1⟩
  by_cases h7 : s = 7
  · skip
    have e : red ⟨n, k, s, a, l, u⟩ x m = 52 := by unfold red; rw [if_neg n1, if_pos h7]
    rw [e]
    clear e
    clear hm hm' hl ha HI n1
    subst h7
    go_enter Try.func21, Try.ntmps21
    go_wp2_with ((with_reducible refine ld_zone rfl (.tmp 3) rfl w.heap.size ?_ P0.out ?_); · rfl)
    refine (HM.out _).mono ?_
    rintro e w1 ⟨rfl, f1⟩
    have HF := kf f1 HF
    have P0 := hid (P0.out.fr f1)
    clear f1
    obtain ⟨_, _, c2, _, _, _⟩ := P0.out.cells
    go_wp2_with fail
    go_ret
    exact ⟨rfl, HF.out⟩
  have h7' : (s == 7) = false := by simpa using h7
  by_cases hi : ¬ inP a l x m
  · rw [decide_eq_false hi] at HI
    have e : red ⟨n, k, s, a, l, u⟩ x m = 51 := by unfold red; rw [if_neg n1, if_neg h7, if_pos hi]
    rw [e]
    clear e
    clear hm hm' hl ha n1 hi h7
    go_enter Try.func21, Try.ntmps21
    go_wp2_with ((with_reducible refine ld_zone rfl (.tmp 3) rfl w.heap.size ?_ P0.out ?_); · rfl)
    refine (HM.out _).mono ?_
    rintro e w1 ⟨rfl, f1⟩
    have HF := kf f1 HF
    have P0 := hid (P0.out.fr f1)
    clear f1
    obtain ⟨_, _, c2, _, _, _⟩ := P0.out.cells
    go_wp2_with ((with_reducible refine ld_zone rfl (.tmp 3) rfl w.heap.size ?_ P0.out ?_); · rfl)
    refine (HI.out _).mono ?_
    rintro e w1 ⟨rfl, f1⟩
    have HF := kf f1 HF
    have P0 := hid (P0.out.fr f1)
    clear f1
    go_wp2_with fail
    go_ret
    exact ⟨rfl, HF.out⟩
  have hi' : inP a l x m := by simpa using hi
  rw [decide_eq_true hi'] at HI
  have hu : 0 ≤ u ∧ u ≤ l := by unfold mayP goesP seqP at hm'; dsimp only at hm'; omega
  have hx : a ≤ x ∧ x < a + l := ⟨hi'.1, hi'.2.1⟩
  obtain ⟨hu1, hu2⟩ := hu
  obtain ⟨hl1, hl2⟩ := hl
  obtain ⟨ha1, ha2⟩ := ha
  obtain ⟨hx1, hx2⟩ := hx
  by_cases k2 : k = 2
  · subst k2
    by_cases hg : m > a + u - x
    · skip
      have e : red ⟨n, 2, s, a, l, u⟩ x m = 50 := by unfold red; rw [if_neg n1, if_neg h7, if_neg hi, if_pos ⟨rfl, hg⟩]
      rw [e]
      clear e
      clear hm hm' n1 hi hi' h7
      go_enter Try.func21, Try.ntmps21
      go_wp2_with ((with_reducible refine ld_zone rfl (.tmp 3) rfl w.heap.size ?_ P0.out ?_); · rfl)
      refine (HM.out _).mono ?_
      rintro e w1 ⟨rfl, f1⟩
      have HF := kf f1 HF
      have P0 := hid (P0.out.fr f1)
      clear f1
      obtain ⟨_, _, c2, _, _, _⟩ := P0.out.cells
      go_wp2_with ((with_reducible refine ld_zone rfl (.tmp 3) rfl w.heap.size ?_ P0.out ?_); · rfl)
      refine (HI.out _).mono ?_
      rintro e w1 ⟨rfl, f1⟩
      have HF := kf f1 HF
      have P0 := hid (P0.out.fr f1)
      clear f1
      obtain ⟨_, c1, _, c3, _, c5⟩ := P0.out.cells
      go_wp2_with fail
      go_ret
      exact ⟨rfl, HF.out⟩
    · skip
      have e : red ⟨n, 2, s, a, l, u⟩ x m = 0 := by unfold red; rw [if_neg n1, if_neg h7, if_neg hi, if_neg (fun h => hg h.2)]
      rw [e]
      clear e
      clear hm hm' n1 hi hi' h7
      go_enter Try.func21, Try.ntmps21
      go_wp2_with ((with_reducible refine ld_zone rfl (.tmp 3) rfl w.heap.size ?_ P0.out ?_); · rfl)
      refine (HM.out _).mono ?_
      rintro e w1 ⟨rfl, f1⟩
      have HF := kf f1 HF
      have P0 := hid (P0.out.fr f1)
      clear f1
      obtain ⟨_, _, c2, _, _, _⟩ := P0.out.cells
      go_wp2_with ((with_reducible refine ld_zone rfl (.tmp 3) rfl w.heap.size ?_ P0.out ?_); · rfl)
      refine (HI.out _).mono ?_
      rintro e w1 ⟨rfl, f1⟩
      have HF := kf f1 HF
      have P0 := hid (P0.out.fr f1)
      clear f1
      obtain ⟨_, c1, _, c3, _, c5⟩ := P0.out.cells
      go_wp2_with fail
      go_ret
      exact ⟨rfl, HF.out⟩
  · skip
    have e : red ⟨n, k, s, a, l, u⟩ x m = 0 := by unfold red; rw [if_neg n1, if_neg h7, if_neg hi, if_neg (fun h => k2 h.1)]
    rw [e]
    clear e
    have k2' : (k == 2) = false := by simpa using k2
    clear hm hm' n1 hi hi' h7 k2
    go_enter Try.func21, Try.ntmps21
    go_wp2_with ((with_reducible refine ld_zone rfl (.tmp 3) rfl w.heap.size ?_ P0.out ?_); · rfl)
    refine (HM.out _).mono ?_
    rintro e w1 ⟨rfl, f1⟩
    have HF := kf f1 HF
    have P0 := hid (P0.out.fr f1)
    clear f1
    obtain ⟨_, _, c2, _, _, _⟩ := P0.out.cells
    go_wp2_with ((with_reducible refine ld_zone rfl (.tmp 3) rfl w.heap.size ?_ P0.out ?_); · rfl)
    refine (HI.out _).mono ?_
    rintro e w1 ⟨rfl, f1⟩
    have HF := kf f1 HF
    have P0 := hid (P0.out.fr f1)
    clear f1
    obtain ⟨_, c1, _, c3, _, c5⟩ := P0.out.cells
    go_wp2_with fail
    go_ret
    exact ⟨rfl, HF.out⟩
set_option maxRecDepth 100000 in
set_option maxHeartbeats 4000000 in
theorem left_ok (n k s a l u : Int) (w : World) : Calls Try.prog 25 #[.agg #[.int .i64 n, .int .i64 k, .int .i64 s, .int .i64 a, .int .i64 l, .int .i64 u]] w fun e w' => e = .returned (.int .i64 (lft ⟨n, k, s, a, l, u⟩)) ∧ Fr No w w' := by
  have HF := hid ((Fr.refl No w).alloc (bz n k s a l u))
  have P0 := hid (BZ.new w n k s a l u)
  have HM := hid (fun w => may_ok n k s a l u w)
  by_cases hm : ¬ mayP ⟨n, k, s, a, l, u⟩
  · rw [decide_eq_false hm] at HM
    have e : lft ⟨n, k, s, a, l, u⟩ = 0 := by unfold lft; rw [if_pos (.inl hm)]
    rw [e]
    clear e
    clear hm
    go_enter Try.func25, Try.ntmps25
    go_wp2_with ((with_reducible refine ld_zone rfl (.tmp 1) rfl w.heap.size ?_ P0.out ?_); · rfl)
    refine (HM.out _).mono ?_
    rintro e w1 ⟨rfl, f1⟩
    have HF := kf f1 HF
    have P0 := hid (P0.out.fr f1)
    clear f1
    go_wp2_with fail
    go_ret
    exact ⟨rfl, HF.out⟩
  have hm' : mayP ⟨n, k, s, a, l, u⟩ := by simpa using hm
  rw [decide_eq_true hm'] at HM
  have hu : 0 ≤ u ∧ u ≤ l ∧ l ≤ 4096 := by unfold mayP goesP seqP at hm'; dsimp only at hm'; omega
  obtain ⟨hu1, hu2, hu3⟩ := hu
  by_cases k1 : k = 1
  · skip
    have e : lft ⟨n, k, s, a, l, u⟩ = 0 := by unfold lft; rw [if_pos (.inr (.inl k1))]
    rw [e]
    clear e
    subst k1
    clear hm hm'
    go_enter Try.func25, Try.ntmps25
    go_wp2_with ((with_reducible refine ld_zone rfl (.tmp 1) rfl w.heap.size ?_ P0.out ?_); · rfl)
    refine (HM.out _).mono ?_
    rintro e w1 ⟨rfl, f1⟩
    have HF := kf f1 HF
    have P0 := hid (P0.out.fr f1)
    clear f1
    obtain ⟨_, c1, c2, _, c4, c5⟩ := P0.out.cells
    go_wp2_with fail
    go_ret
    exact ⟨rfl, HF.out⟩
  have k1' : (k == 1) = false := by simpa using k1
  by_cases s5 : s = 5
  · skip
    have e : lft ⟨n, k, s, a, l, u⟩ = 0 := by unfold lft; rw [if_pos (.inr (.inr (.inl s5)))]
    rw [e]
    clear e
    subst s5
    clear hm hm' k1
    go_enter Try.func25, Try.ntmps25
    go_wp2_with ((with_reducible refine ld_zone rfl (.tmp 1) rfl w.heap.size ?_ P0.out ?_); · rfl)
    refine (HM.out _).mono ?_
    rintro e w1 ⟨rfl, f1⟩
    have HF := kf f1 HF
    have P0 := hid (P0.out.fr f1)
    clear f1
    obtain ⟨_, c1, c2, _, c4, c5⟩ := P0.out.cells
    go_wp2_with fail
    go_ret
    exact ⟨rfl, HF.out⟩
  have s5' : (s == 5) = false := by simpa using s5
  by_cases s6 : s = 6
  · skip
    have e : lft ⟨n, k, s, a, l, u⟩ = 0 := by unfold lft; rw [if_pos (.inr (.inr (.inr (.inl s6))))]
    rw [e]
    clear e
    subst s6
    clear hm hm' k1
    go_enter Try.func25, Try.ntmps25
    go_wp2_with ((with_reducible refine ld_zone rfl (.tmp 1) rfl w.heap.size ?_ P0.out ?_); · rfl)
    refine (HM.out _).mono ?_
    rintro e w1 ⟨rfl, f1⟩
    have HF := kf f1 HF
    have P0 := hid (P0.out.fr f1)
    clear f1
    obtain ⟨_, c1, c2, _, c4, c5⟩ := P0.out.cells
    go_wp2_with fail
    go_ret
    exact ⟨rfl, HF.out⟩
  have s6' : (s == 6) = false := by simpa using s6
  by_cases s7 : s = 7
  · skip
    have e : lft ⟨n, k, s, a, l, u⟩ = 0 := by unfold lft; rw [if_pos (.inr (.inr (.inr (.inr s7))))]
    rw [e]
    clear e
    subst s7
    clear hm hm' k1
    go_enter Try.func25, Try.ntmps25
    go_wp2_with ((with_reducible refine ld_zone rfl (.tmp 1) rfl w.heap.size ?_ P0.out ?_); · rfl)
    refine (HM.out _).mono ?_
    rintro e w1 ⟨rfl, f1⟩
    have HF := kf f1 HF
    have P0 := hid (P0.out.fr f1)
    clear f1
    obtain ⟨_, c1, c2, _, c4, c5⟩ := P0.out.cells
    go_wp2_with fail
    go_ret
    exact ⟨rfl, HF.out⟩
  have s7' : (s == 7) = false := by simpa using s7
  have e : lft ⟨n, k, s, a, l, u⟩ = l - u := by unfold lft; rw [if_neg]; unfold hurtP; simp [hm', k1, s5, s6, s7]
  rw [e]
  clear e
  clear hm hm' k1 s5 s6 s7
  go_enter Try.func25, Try.ntmps25
  go_wp2_with ((with_reducible refine ld_zone rfl (.tmp 1) rfl w.heap.size ?_ P0.out ?_); · rfl)
  refine (HM.out _).mono ?_
  rintro e w1 ⟨rfl, f1⟩
  have HF := kf f1 HF
  have P0 := hid (P0.out.fr f1)
  clear f1
  obtain ⟨_, c1, c2, _, c4, c5⟩ := P0.out.cells
  go_wp2_with fail
  go_ret
  exact ⟨rfl, HF.out⟩
set_option maxRecDepth 100000 in
set_option maxHeartbeats 4000000 in
theorem pointer_ok (n k s a l u : Int) (w : World) : Calls Try.prog 24 #[.agg #[.int .i64 n, .int .i64 k, .int .i64 s, .int .i64 a, .int .i64 l, .int .i64 u]] w fun e w' => e = .returned (.int .i64 (ptr ⟨n, k, s, a, l, u⟩)) ∧ Fr No w w' := by
  have HF := hid ((Fr.refl No w).alloc (bz n k s a l u))
  have P0 := hid (BZ.new w n k s a l u)
  have HL := hid (fun w => left_ok n k s a l u w)
  by_cases h0 : lft ⟨n, k, s, a, l, u⟩ = 0
  · rw [h0] at HL
    have e : ptr ⟨n, k, s, a, l, u⟩ = -1 := by unfold ptr; rw [if_pos h0]
    rw [e]
    clear e
    clear h0
    go_enter Try.func24, Try.ntmps24
    go_wp2_with ((with_reducible refine ld_zone rfl (.tmp 1) rfl w.heap.size ?_ P0.out ?_); · rfl)
    refine (HL.out _).mono ?_
    rintro e w1 ⟨rfl, f1⟩
    have HF := kf f1 HF
    have P0 := hid (P0.out.fr f1)
    clear f1
    go_wp2_with fail
    go_ret
    exact ⟨rfl, HF.out⟩
  have hm : mayP ⟨n, k, s, a, l, u⟩ := by apply Classical.byContradiction; intro h; exact h0 (by unfold lft; rw [if_pos (.inl h)])
  have hu : 0 ≤ u ∧ u ≤ l ∧ l ≤ 4096 ∧ 0 ≤ a ∧ a ≤ 1048576 := by unfold mayP goesP seqP at hm; dsimp only at hm; omega
  obtain ⟨hu1, hu2, hu3, hu4, hu5⟩ := hu
  have e : ptr ⟨n, k, s, a, l, u⟩ = a + u := by unfold ptr; rw [if_neg h0]
  rw [e]
  clear e
  obtain ⟨y, hy⟩ : ∃ y, lft ⟨n, k, s, a, l, u⟩ = y := ⟨_, rfl⟩
  rw [hy] at HL h0
  have h0' : (y == 0) = false := by simpa using h0
  clear hm hy h0
  go_enter Try.func24, Try.ntmps24
  go_wp2_with ((with_reducible refine ld_zone rfl (.tmp 1) rfl w.heap.size ?_ P0.out ?_); · rfl)
  refine (HL.out _).mono ?_
  rintro e w1 ⟨rfl, f1⟩
  have HF := kf f1 HF
  have P0 := hid (P0.out.fr f1)
  clear f1
  obtain ⟨_, _, _, c3, _, c5⟩ := P0.out.cells
  go_wp2_with fail
  go_ret
  exact ⟨rfl, HF.out⟩
theorem name5_ok (w : World) : Calls Try.prog 65 #[.int .i64 5] w fun e w' => e = .returned (.string (ByteArray.mk #[102, 117, 108, 108])) ∧ Fr No w w' := by
  go_enter Try.func65, Try.ntmps65
  go_wp2
  go_ret
  exact ⟨rfl, Fr.refl _ _⟩
end Go.Proofs.Ytjmagbmdobiccaa.ZnF
