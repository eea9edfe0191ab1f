/- Contracts: which deltas may be, by the program and by the document; how many records so many deltas need. No condition. -/
import Derived.Test.YtdepkpdolkipcaaDoorRcM
import Derived.Deep.DeepCutAuto
namespace Go.Proofs.YtdepkpdolkipcaaDoor.RcA
open Go.RowKit MSep RcM

abbrev dv (k a n z o : Int) : Value := .agg #[.int .i64 k, .int .i64 a, .int .i64 n, .int .i64 z, .int .i64 o]
abbrev dx (k a n z o : Int) : Obj := .cells #[.int .i64 k, .int .i64 a, .int .i64 n, .int .i64 z, .int .i64 o] 58
theorem rF {p : Prop} [Decidable p] (h : ¬ p) : Ending.returned (.bool false) = Ending.returned (.bool (decide p)) := by rw [decide_eq_false h]
theorem rT {p : Prop} [Decidable p] (h : p) : Ending.returned (.bool true) = Ending.returned (.bool (decide p)) := by rw [decide_eq_true h]
theorem m1 (a n z o : Int) : mayD ⟨1, a, n, z, o⟩ ↔ (0 ≤ a ∧ a ≤ 4294967295) ∧ (1 ≤ n ∧ n ≤ 65535) ∧ (0 ≤ z ∧ z ≤ 143) ∧ 0 ≤ o ∧ o ≤ 1024 := by simp [mayD, ata, mny, zn]
theorem m2 (a n z o : Int) : mayD ⟨2, a, n, z, o⟩ ↔ (0 ≤ a ∧ a ≤ 4294967295) ∧ (1 ≤ n ∧ n ≤ 65535) ∧ z = 0 ∧ o = 0 := by simp [mayD, ata, mny, zn]
theorem m3 (a n z o : Int) : mayD ⟨3, a, n, z, o⟩ ↔ (0 ≤ a ∧ a ≤ 4294967295) ∧ n = 0 ∧ ((0 ≤ z ∧ z ≤ 143) ∨ z = 255) ∧ o = 0 := by simp [mayD, ata, mny, zn]
theorem m4 (a n z o : Int) : mayD ⟨4, a, n, z, o⟩ ↔ a = 0 ∧ n = 0 ∧ (0 ≤ z ∧ z ≤ 143) ∧ o = 0 := by simp [mayD, ata, mny, zn]
theorem m0 {k : Int} (a n z o : Int) (h1 : ¬ k = 1) (h2 : ¬ k = 2) (h3 : ¬ k = 3) (h4 : ¬ k = 4) : ¬ mayD ⟨k, a, n, z, o⟩ := by simp [mayD, h1, h2, h3, h4]
set_option maxRecDepth 100000 in
theorem within_ok (n a b : Int) (w : World) : Calls Tryd.prog 67 #[.int .i64 n, .int .i64 a, .int .i64 b] w fun e w' => e = .returned (.bool (decide (a ≤ n ∧ n ≤ b))) ∧ w = w' := by
  by_cases h1 : a ≤ n
  · by_cases h2 : n ≤ b
    · rw [decide_eq_true (p := a ≤ n ∧ n ≤ b) ⟨h1, h2⟩]
      go_enter Tryd.func67, Tryd.ntmps67
      go_wp2
      go_ret
      exact ⟨rfl, rfl⟩
    · rw [decide_eq_false (p := a ≤ n ∧ n ≤ b) (by omega)]
      go_enter Tryd.func67, Tryd.ntmps67
      go_wp2
      go_ret
      exact ⟨rfl, rfl⟩
  · rw [decide_eq_false (p := a ≤ n ∧ n ≤ b) (by omega)]
    go_enter Tryd.func67, Tryd.ntmps67
    go_wp2
    go_ret
    exact ⟨rfl, rfl⟩
set_option maxRecDepth 100000 in
theorem mayDelta_ok1 (a n z o : Int) (w : World)  : Calls Tryd.prog 32 #[dv 1 a n z o] w fun e w' => e = .returned (.bool (decide (mayD ⟨1, a, n, z, o⟩))) ∧ Fr No w w' := by
  have HF := hid (fun o1 o2 => ((Fr.refl No w).alloc o1).alloc o2)
  by_cases c0 : 0 ≤ a ∧ a ≤ 4294967295
  case neg =>
    go_enter Tryd.func32, Tryd.ntmps32
    go_wp2_with (go_at_call 67; refine (within_ok _ _ _ _).mono ?_; rintro e w' ⟨rfl, rfl⟩; first | rw [decide_eq_true (by omega)] | rw [decide_eq_false (by omega)])
    go_ret
    exact ⟨rF (fun h => by have := (m1 _ _ _ _).1 h; omega), HF.out _ _⟩
  by_cases c1 : 1 ≤ n ∧ n ≤ 65535
  case neg =>
    go_enter Tryd.func32, Tryd.ntmps32
    go_wp2_with (go_at_call 67; refine (within_ok _ _ _ _).mono ?_; rintro e w' ⟨rfl, rfl⟩; first | rw [decide_eq_true (by omega)] | rw [decide_eq_false (by omega)])
    go_ret
    exact ⟨rF (fun h => by have := (m1 _ _ _ _).1 h; omega), HF.out _ _⟩
  by_cases c2 : 0 ≤ z ∧ z ≤ 143
  case neg =>
    go_enter Tryd.func32, Tryd.ntmps32
    go_wp2_with (go_at_call 67; refine (within_ok _ _ _ _).mono ?_; rintro e w' ⟨rfl, rfl⟩; first | rw [decide_eq_true (by omega)] | rw [decide_eq_false (by omega)])
    go_ret
    exact ⟨rF (fun h => by have := (m1 _ _ _ _).1 h; omega), HF.out _ _⟩
  by_cases c3 : 0 ≤ o ∧ o ≤ 1024
  case neg =>
    go_enter Tryd.func32, Tryd.ntmps32
    go_wp2_with (go_at_call 67; refine (within_ok _ _ _ _).mono ?_; rintro e w' ⟨rfl, rfl⟩; first | rw [decide_eq_true (by omega)] | rw [decide_eq_false (by omega)])
    go_ret
    exact ⟨rF (fun h => by have := (m1 _ _ _ _).1 h; omega), HF.out _ _⟩
  go_enter Tryd.func32, Tryd.ntmps32
  go_wp2_with (go_at_call 67; refine (within_ok _ _ _ _).mono ?_; rintro e w' ⟨rfl, rfl⟩; first | rw [decide_eq_true (by omega)] | rw [decide_eq_false (by omega)])
  go_ret
  exact ⟨rT ((m1 _ _ _ _).2 (by omega)), HF.out _ _⟩
set_option maxRecDepth 100000 in
theorem mayDelta_ok2 (a n z o : Int) (w : World)  : Calls Tryd.prog 32 #[dv 2 a n z o] w fun e w' => e = .returned (.bool (decide (mayD ⟨2, a, n, z, o⟩))) ∧ Fr No w w' := by
  have HF := hid (fun o1 o2 => ((Fr.refl No w).alloc o1).alloc o2)
  by_cases c0 : 0 ≤ a ∧ a ≤ 4294967295
  case neg =>
    go_enter Tryd.func32, Tryd.ntmps32
    go_wp2_with (go_at_call 67; refine (within_ok _ _ _ _).mono ?_; rintro e w' ⟨rfl, rfl⟩; first | rw [decide_eq_true (by omega)] | rw [decide_eq_false (by omega)])
    go_ret
    exact ⟨rF (fun h => by have := (m2 _ _ _ _).1 h; omega), HF.out _ _⟩
  by_cases c1 : 1 ≤ n ∧ n ≤ 65535
  case neg =>
    go_enter Tryd.func32, Tryd.ntmps32
    go_wp2_with (go_at_call 67; refine (within_ok _ _ _ _).mono ?_; rintro e w' ⟨rfl, rfl⟩; first | rw [decide_eq_true (by omega)] | rw [decide_eq_false (by omega)])
    go_ret
    exact ⟨rF (fun h => by have := (m2 _ _ _ _).1 h; omega), HF.out _ _⟩
  by_cases c2 : z = 0
  case neg =>
    go_enter Tryd.func32, Tryd.ntmps32
    go_wp2_with (go_at_call 67; refine (within_ok _ _ _ _).mono ?_; rintro e w' ⟨rfl, rfl⟩; first | rw [decide_eq_true (by omega)] | rw [decide_eq_false (by omega)])
    go_ret
    exact ⟨rF (fun h => by have := (m2 _ _ _ _).1 h; omega), HF.out _ _⟩
  by_cases c3 : o = 0
  case neg =>
    go_enter Tryd.func32, Tryd.ntmps32
    go_wp2_with (go_at_call 67; refine (within_ok _ _ _ _).mono ?_; rintro e w' ⟨rfl, rfl⟩; first | rw [decide_eq_true (by omega)] | rw [decide_eq_false (by omega)])
    go_ret
    exact ⟨rF (fun h => by have := (m2 _ _ _ _).1 h; omega), HF.out _ _⟩
  go_enter Tryd.func32, Tryd.ntmps32
  go_wp2_with (go_at_call 67; refine (within_ok _ _ _ _).mono ?_; rintro e w' ⟨rfl, rfl⟩; first | rw [decide_eq_true (by omega)] | rw [decide_eq_false (by omega)])
  go_ret
  exact ⟨rT ((m2 _ _ _ _).2 (by omega)), HF.out _ _⟩
set_option maxRecDepth 100000 in
theorem mayDelta_ok31 (a n z o : Int) (w : World) (hz : (z == 255) = false) : Calls Tryd.prog 32 #[dv 3 a n z o] w fun e w' => e = .returned (.bool (decide (mayD ⟨3, a, n, z, o⟩))) ∧ Fr No w w' := by
  have HF := hid (fun o1 o2 => ((Fr.refl No w).alloc o1).alloc o2)
  have hz2 : ¬ z = 255 := by simpa using hz
  by_cases c0 : 0 ≤ a ∧ a ≤ 4294967295
  case neg =>
    go_enter Tryd.func32, Tryd.ntmps32
    go_wp2_with (go_at_call 67; refine (within_ok _ _ _ _).mono ?_; rintro e w' ⟨rfl, rfl⟩; first | rw [decide_eq_true (by omega)] | rw [decide_eq_false (by omega)])
    go_ret
    exact ⟨rF (fun h => by have := (m3 _ _ _ _).1 h; omega), HF.out _ _⟩
  by_cases c1 : n = 0
  case neg =>
    go_enter Tryd.func32, Tryd.ntmps32
    go_wp2_with (go_at_call 67; refine (within_ok _ _ _ _).mono ?_; rintro e w' ⟨rfl, rfl⟩; first | rw [decide_eq_true (by omega)] | rw [decide_eq_false (by omega)])
    go_ret
    exact ⟨rF (fun h => by have := (m3 _ _ _ _).1 h; omega), HF.out _ _⟩
  by_cases c2 : 0 ≤ z ∧ z ≤ 143
  case neg =>
    go_enter Tryd.func32, Tryd.ntmps32
    go_wp2_with (go_at_call 67; refine (within_ok _ _ _ _).mono ?_; rintro e w' ⟨rfl, rfl⟩; first | rw [decide_eq_true (by omega)] | rw [decide_eq_false (by omega)])
    go_ret
    exact ⟨rF (fun h => by have := (m3 _ _ _ _).1 h; omega), HF.out _ _⟩
  by_cases c3 : o = 0
  case neg =>
    go_enter Tryd.func32, Tryd.ntmps32
    go_wp2_with (go_at_call 67; refine (within_ok _ _ _ _).mono ?_; rintro e w' ⟨rfl, rfl⟩; first | rw [decide_eq_true (by omega)] | rw [decide_eq_false (by omega)])
    go_ret
    exact ⟨rF (fun h => by have := (m3 _ _ _ _).1 h; omega), HF.out _ _⟩
  go_enter Tryd.func32, Tryd.ntmps32
  go_wp2_with (go_at_call 67; refine (within_ok _ _ _ _).mono ?_; rintro e w' ⟨rfl, rfl⟩; first | rw [decide_eq_true (by omega)] | rw [decide_eq_false (by omega)])
  go_ret
  exact ⟨rT ((m3 _ _ _ _).2 (by omega)), HF.out _ _⟩
set_option maxRecDepth 100000 in
theorem mayDelta_ok32 (a n o : Int) (w : World)  : Calls Tryd.prog 32 #[dv 3 a n 255 o] w fun e w' => e = .returned (.bool (decide (mayD ⟨3, a, n, 255, o⟩))) ∧ Fr No w w' := by
  have HF := hid (fun o1 o2 => ((Fr.refl No w).alloc o1).alloc o2)
  by_cases c0 : 0 ≤ a ∧ a ≤ 4294967295
  case neg =>
    go_enter Tryd.func32, Tryd.ntmps32
    go_wp2_with (go_at_call 67; refine (within_ok _ _ _ _).mono ?_; rintro e w' ⟨rfl, rfl⟩; first | rw [decide_eq_true (by omega)] | rw [decide_eq_false (by omega)])
    go_ret
    exact ⟨rF (fun h => by have := (m3 _ _ _ _).1 h; omega), HF.out _ _⟩
  by_cases c1 : n = 0
  case neg =>
    go_enter Tryd.func32, Tryd.ntmps32
    go_wp2_with (go_at_call 67; refine (within_ok _ _ _ _).mono ?_; rintro e w' ⟨rfl, rfl⟩; first | rw [decide_eq_true (by omega)] | rw [decide_eq_false (by omega)])
    go_ret
    exact ⟨rF (fun h => by have := (m3 _ _ _ _).1 h; omega), HF.out _ _⟩
  by_cases c2 : o = 0
  case neg =>
    go_enter Tryd.func32, Tryd.ntmps32
    go_wp2_with (go_at_call 67; refine (within_ok _ _ _ _).mono ?_; rintro e w' ⟨rfl, rfl⟩; first | rw [decide_eq_true (by omega)] | rw [decide_eq_false (by omega)])
    go_ret
    exact ⟨rF (fun h => by have := (m3 _ _ _ _).1 h; omega), HF.out _ _⟩
  go_enter Tryd.func32, Tryd.ntmps32
  go_wp2_with (go_at_call 67; refine (within_ok _ _ _ _).mono ?_; rintro e w' ⟨rfl, rfl⟩; first | rw [decide_eq_true (by omega)] | rw [decide_eq_false (by omega)])
  go_ret
  exact ⟨rT ((m3 _ _ _ _).2 (by omega)), HF.out _ _⟩
set_option maxRecDepth 100000 in
theorem mayDelta_ok4 (a n z o : Int) (w : World)  : Calls Tryd.prog 32 #[dv 4 a n z o] w fun e w' => e = .returned (.bool (decide (mayD ⟨4, a, n, z, o⟩))) ∧ Fr No w w' := by
  have HF := hid (fun o1 o2 => ((Fr.refl No w).alloc o1).alloc o2)
  by_cases c0 : a = 0
  case neg =>
    go_enter Tryd.func32, Tryd.ntmps32
    go_wp2_with (go_at_call 67; refine (within_ok _ _ _ _).mono ?_; rintro e w' ⟨rfl, rfl⟩; first | rw [decide_eq_true (by omega)] | rw [decide_eq_false (by omega)])
    go_ret
    exact ⟨rF (fun h => by have := (m4 _ _ _ _).1 h; omega), HF.out _ _⟩
  by_cases c1 : n = 0
  case neg =>
    go_enter Tryd.func32, Tryd.ntmps32
    go_wp2_with (go_at_call 67; refine (within_ok _ _ _ _).mono ?_; rintro e w' ⟨rfl, rfl⟩; first | rw [decide_eq_true (by omega)] | rw [decide_eq_false (by omega)])
    go_ret
    exact ⟨rF (fun h => by have := (m4 _ _ _ _).1 h; omega), HF.out _ _⟩
  by_cases c2 : 0 ≤ z ∧ z ≤ 143
  case neg =>
    go_enter Tryd.func32, Tryd.ntmps32
    go_wp2_with (go_at_call 67; refine (within_ok _ _ _ _).mono ?_; rintro e w' ⟨rfl, rfl⟩; first | rw [decide_eq_true (by omega)] | rw [decide_eq_false (by omega)])
    go_ret
    exact ⟨rF (fun h => by have := (m4 _ _ _ _).1 h; omega), HF.out _ _⟩
  by_cases c3 : o = 0
  case neg =>
    go_enter Tryd.func32, Tryd.ntmps32
    go_wp2_with (go_at_call 67; refine (within_ok _ _ _ _).mono ?_; rintro e w' ⟨rfl, rfl⟩; first | rw [decide_eq_true (by omega)] | rw [decide_eq_false (by omega)])
    go_ret
    exact ⟨rF (fun h => by have := (m4 _ _ _ _).1 h; omega), HF.out _ _⟩
  go_enter Tryd.func32, Tryd.ntmps32
  go_wp2_with (go_at_call 67; refine (within_ok _ _ _ _).mono ?_; rintro e w' ⟨rfl, rfl⟩; first | rw [decide_eq_true (by omega)] | rw [decide_eq_false (by omega)])
  go_ret
  exact ⟨rT ((m4 _ _ _ _).2 (by omega)), HF.out _ _⟩
set_option maxRecDepth 100000 in
theorem mayDelta_ok0 (k a n z o : Int) (w : World) (k1 : (k == 1) = false) (k2 : (k == 2) = false) (k3 : (k == 3) = false) (k4 : (k == 4) = false) : Calls Tryd.prog 32 #[dv k a n z o] w fun e w' => e = .returned (.bool (decide (mayD ⟨k, a, n, z, o⟩))) ∧ Fr No w w' := by
  have HF := hid (fun o1 o2 => ((Fr.refl No w).alloc o1).alloc o2)
  have e1 : ¬ k = 1 := by simpa using k1
  have e2 : ¬ k = 2 := by simpa using k2
  have e3 : ¬ k = 3 := by simpa using k3
  have e4 : ¬ k = 4 := by simpa using k4
  go_enter Tryd.func32, Tryd.ntmps32
  go_wp2
  go_ret
  exact ⟨rF (m0 a n z o e1 e2 e3 e4), HF.out _ _⟩
theorem mayDelta_ok (k a n z o : Int) (w : World) : Calls Tryd.prog 32 #[dv k a n z o] w fun e w' => e = .returned (.bool (decide (mayD ⟨k, a, n, z, o⟩))) ∧ Fr No w w' := by
  by_cases k1 : k = 1
  · subst k1; exact mayDelta_ok1 a n z o w
  by_cases k2 : k = 2
  · subst k2; exact mayDelta_ok2 a n z o w
  by_cases k3 : k = 3
  · subst k3
    by_cases hz : z = 255
    · subst hz; exact mayDelta_ok32 a n o w
    · exact mayDelta_ok31 a n z o w (by simpa using hz)
  by_cases k4 : k = 4
  · subst k4; exact mayDelta_ok4 a n z o w
  exact mayDelta_ok0 k a n z o w (by simpa using k1) (by simpa using k2) (by simpa using k3) (by simpa using k4)
set_option maxRecDepth 100000 in
set_option maxHeartbeats 4000000 in
theorem rmayDelta_ok (k a n z o : Int) (w : World) : Calls Tryd.prog 33 #[dv k a n z o] w fun e w' => e = .returned (.bool (decide (mayD ⟨k, a, n, z, o⟩))) ∧ Fr No w w' := by
  have HF := hid (fun o1 => (Fr.refl No w).alloc o1)
  go_enter Tryd.func33, Tryd.ntmps33
  go_upto_region 1 with fail
  go_cut [3] (fun r wx => (∃ b : Bool, r = .bool b ∧ (b = true ↔ (0 ≤ a ∧ a ≤ 4294967295))) ∧ wx = w.alloc (dx k a n z o))
  case first =>
    by_cases c1 : 0 ≤ a
    · by_cases c2 : a < 4294967296
      · go_wp2_with fail
        go_meet
        exact ⟨⟨_, rfl, by simp; omega⟩, rfl⟩
      · go_wp2_with fail
        go_meet
        exact ⟨⟨_, rfl, by simp; omega⟩, rfl⟩
    · go_wp2_with fail
      go_meet
      exact ⟨⟨_, rfl, by simp; omega⟩, rfl⟩
  obtain ⟨⟨A, rfl, iA⟩, rfl⟩ := hcut
  go_upto_region 2 with fail
  go_cut [4] (fun r wx => (∃ b : Bool, r = .bool b ∧ (b = true ↔ (1 ≤ n ∧ n ≤ 65535))) ∧ wx = w.alloc (dx k a n z o))
  case first =>
    by_cases c1 : 1 ≤ n
    · by_cases c2 : n ≤ 65535
      · go_wp2_with fail
        go_meet
        exact ⟨⟨_, rfl, by simp; omega⟩, rfl⟩
      · go_wp2_with fail
        go_meet
        exact ⟨⟨_, rfl, by simp; omega⟩, rfl⟩
    · go_wp2_with fail
      go_meet
      exact ⟨⟨_, rfl, by simp; omega⟩, rfl⟩
  obtain ⟨⟨N, rfl, iN⟩, rfl⟩ := hcut
  go_upto_region 3 with fail
  go_cut [5] (fun r wx => (∃ b : Bool, r = .bool b ∧ (b = true ↔ (0 ≤ z ∧ z ≤ 143))) ∧ wx = w.alloc (dx k a n z o))
  case first =>
    by_cases c1 : 0 ≤ z
    · by_cases c2 : z ≤ 143
      · go_wp2_with fail
        go_meet
        exact ⟨⟨_, rfl, by simp; omega⟩, rfl⟩
      · go_wp2_with fail
        go_meet
        exact ⟨⟨_, rfl, by simp; omega⟩, rfl⟩
    · go_wp2_with fail
      go_meet
      exact ⟨⟨_, rfl, by simp; omega⟩, rfl⟩
  obtain ⟨⟨Z, rfl, iZ⟩, rfl⟩ := hcut
  go_upto_region 4 with fail
  go_cut [6] (fun r wx => (∃ b : Bool, r = .bool b ∧ (b = true ↔ (0 ≤ o ∧ o ≤ 1024))) ∧ wx = w.alloc (dx k a n z o))
  case first =>
    by_cases c1 : 0 ≤ o
    · by_cases c2 : o ≤ 1024
      · go_wp2_with fail
        go_meet
        exact ⟨⟨_, rfl, by simp; omega⟩, rfl⟩
      · go_wp2_with fail
        go_meet
        exact ⟨⟨_, rfl, by simp; omega⟩, rfl⟩
    · go_wp2_with fail
      go_meet
      exact ⟨⟨_, rfl, by simp; omega⟩, rfl⟩
  obtain ⟨⟨O, rfl, iO⟩, rfl⟩ := hcut
  by_cases k1 : k = 1
  · subst k1
    go_wp2
    all_goals (go_ret; refine ⟨congrArg (fun b => Ending.returned (Value.bool b)) (?_ : _ = decide _), HF.out _⟩; rw [Bool.eq_iff_iff, decide_eq_true_iff, m1]; simp_all <;> omega)
  by_cases k2 : k = 2
  · subst k2
    go_wp2
    all_goals (go_ret; refine ⟨congrArg (fun b => Ending.returned (Value.bool b)) (?_ : _ = decide _), HF.out _⟩; rw [Bool.eq_iff_iff, decide_eq_true_iff, m2]; simp_all <;> omega)
  by_cases k3 : k = 3
  · subst k3
    go_wp2
    all_goals (go_ret; refine ⟨congrArg (fun b => Ending.returned (Value.bool b)) (?_ : _ = decide _), HF.out _⟩; rw [Bool.eq_iff_iff, decide_eq_true_iff, m3]; first | (rw [← iA, ← iZ]; simp_all; done) | (rw [← iA, ← iZ]; simp_all; omega) | omega)
  by_cases k4 : k = 4
  · subst k4
    go_wp2
    all_goals (go_ret; refine ⟨congrArg (fun b => Ending.returned (Value.bool b)) (?_ : _ = decide _), HF.out _⟩; rw [Bool.eq_iff_iff, decide_eq_true_iff, m4]; simp_all <;> omega)
  have e1 : (k == 1) = false := by simpa using k1
  have e2 : (k == 2) = false := by simpa using k2
  have e3 : (k == 3) = false := by simpa using k3
  have e4 : (k == 4) = false := by simpa using k4
  go_wp2
  go_ret
  exact ⟨rF (m0 a n z o k1 k2 k3 k4), HF.out _⟩

/-- How many records n deltas need. -/
def need (n : Int) : Int := if n < 0 then 0 else if n = 0 then 1 else (n - 1) / 6 + 1
set_option maxRecDepth 100000 in
theorem needs_ok (n : Int) (w : World) (hn : -9223372036854775808 ≤ n ∧ n ≤ 9223372036854775807) : Calls Tryd.prog 36 #[.int .i64 n] w fun e w' => e = .returned (.int .i64 (need n)) ∧ w = w' := by
  unfold need
  by_cases h0 : n < 0
  · rw [if_pos h0]
    go_enter Tryd.func36, Tryd.ntmps36
    go_wp2
    go_ret
    exact ⟨rfl, rfl⟩
  · rw [if_neg h0]
    by_cases h1 : n = 0
    · subst h1
      go_enter Tryd.func36, Tryd.ntmps36
      go_wp2
      go_ret
      exact ⟨rfl, rfl⟩
    · rw [if_neg h1]
      have hb : (n == 0) = false := by simpa using h1
      have q1 : n.tdiv 6 = n / 6 := Int.tdiv_eq_ediv_of_nonneg (by omega)
      have q2 : n.tmod 6 = n % 6 := Int.tmod_eq_emod_of_nonneg (by omega)
      by_cases h2 : 0 < n % 6
      · have e : (n - 1) / 6 + 1 = n / 6 + 1 := by omega
        rw [e]
        go_enter Tryd.func36, Tryd.ntmps36
        go_wp2
        all_goals (go_ret; exact ⟨by first | rfl | (congr 2; simp only [q1]; unfold wrap64; omega) | (congr 2; unfold wrap64; omega), rfl⟩)
      · have e : (n - 1) / 6 + 1 = n / 6 := by omega
        rw [e]
        go_enter Tryd.func36, Tryd.ntmps36
        go_wp2
        all_goals (go_ret; exact ⟨by first | rfl | (congr 2; simp only [q1]; unfold wrap64; omega) | (congr 2; unfold wrap64; omega), rfl⟩)
set_option maxRecDepth 100000 in
theorem rneeds_ok (n : Int) (w : World) (hn : -9223372036854775808 ≤ n ∧ n ≤ 9223372036854775807) : Calls Tryd.prog 37 #[.int .i64 n] w fun e w' => e = .returned (.int .i64 (need n)) ∧ w = w' := by
  unfold need
  by_cases h0 : n < 0
  · rw [if_pos h0]
    go_enter Tryd.func37, Tryd.ntmps37
    go_wp2
    go_ret
    exact ⟨rfl, rfl⟩
  · rw [if_neg h0]
    by_cases h1 : n = 0
    · subst h1
      go_enter Tryd.func37, Tryd.ntmps37
      go_wp2
      go_ret
      exact ⟨rfl, rfl⟩
    · rw [if_neg h1]
      have hb : (n == 0) = false := by simpa using h1
      have q1 : (n - 1).tdiv 6 = (n - 1) / 6 := Int.tdiv_eq_ediv_of_nonneg (by omega)
      go_enter Tryd.func37, Tryd.ntmps37
      go_wp2
      all_goals (go_ret; exact ⟨by first | rfl | (congr 2; simp only [q1]; unfold wrap64; omega) | (congr 2; unfold wrap64; omega), rfl⟩)
end Go.Proofs.YtdepkpdolkipcaaDoor.RcA
