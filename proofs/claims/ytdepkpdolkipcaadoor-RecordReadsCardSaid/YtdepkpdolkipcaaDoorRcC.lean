/- Contracts: which records may be, whether two are the same, by the program and by the document. Condition: their deltas read as lists. -/
import Derived.Test.YtdepkpdolkipcaaDoorRcB
namespace Go.Proofs.YtdepkpdolkipcaaDoor.RcC
open Go.RowKit MSep RcM RcA RcB

abbrev rv (e s : Int) (b : Bool) (u : Int) (A : Option Addr) (l c : Nat) : Value := .agg #[.int .i64 e, .int .i64 s, .bool b, .int .i64 u, .slice A l c]
abbrev rx (e s : Int) (b : Bool) (u : Int) (A : Option Addr) (l c : Nat) : Obj := .cells #[.int .i64 e, .int .i64 s, .bool b, .int .i64 u, .slice A l c] 48
def RB (w : World) (g : Nat) (e s : Int) (b : Bool) (u : Int) (A : Option Addr) (l c : Nat) : Prop := Blk w g 48 #[.int .i64 e, .int .i64 s, .bool b, .int .i64 u, .slice A l c]
theorem RB.cells {w : World} {g : Nat} {e s : Int} {b : Bool} {u : Int} {A : Option Addr} {l c : Nat} (h : RB w g e s b u A l c) : w.cell? ⟨g, 0, none⟩ = some (.int .i64 e) ∧ w.cell? ⟨g, 1, none⟩ = some (.int .i64 s) ∧ w.cell? ⟨g, 2, none⟩ = some (.bool b) ∧ w.cell? ⟨g, 3, none⟩ = some (.int .i64 u) ∧ w.cell? ⟨g, 4, none⟩ = some (.slice A l c) :=
  ⟨Blk.cell h 0, Blk.cell h 1, Blk.cell h 2, Blk.cell h 3, Blk.cell h 4⟩
theorem RB.fr {w w' : World} {g : Nat} {e s : Int} {b : Bool} {u : Int} {A : Option Addr} {l c : Nat} {S : Nat → Prop} (h : RB w g e s b u A l c) (f : Fr S w w') (hn : ¬ S g) : RB w' g e s b u A l c := Blk.fr h f hn
theorem all_snoc {xs : List De} {k : Nat} {d : De} (h : xs[k]? = some d) (h1 : ∀ x ∈ xs.take k, mayD x) (h2 : mayD d) : ∀ x ∈ xs.take (k + 1), mayD x := by
  rw [take_snoc h]
  intro x hx
  rcases List.mem_append.1 hx with hx | hx
  · exact h1 x hx
  · rw [List.mem_singleton.1 hx]; exact h2
theorem no_at {xs : List De} {k : Nat} {d : De} (h : xs[k]? = some d) (h2 : ¬ mayD d) : ¬ ∀ x ∈ xs, mayD x := fun k1 => h2 (k1 d (List.mem_of_getElem? h))
set_option maxRecDepth 100000 in
set_option maxHeartbeats 2000000 in
theorem may_ok (e s : Int) (b : Bool) (u : Int) (A : Option Addr) (l c : Nat) (xs : List De) (w : World)
    (hl : l ≤ maxLen) (hx : RdD w A l xs) : Calls Tryd.prog 26 #[rv e s b u A l c] w fun E w' => E = .returned (.bool (decide (mayR ⟨e, s, b, u, xs⟩))) ∧ Fr No w w' := by
  unfold maxLen at hl
  have HX := hid (hx.fr ((Fr.refl No w).alloc (rx e s b u A l c)))
  have HL := hid hx.1
  have HF := hid ((Fr.refl No w).alloc (rx e s b u A l c))
  have HB := hid (Blk.new w 48 #[.int .i64 e, .int .i64 s, .bool b, .int .i64 u, .slice A l c])
  obtain ⟨R, hR⟩ : ∃ R, decide (mayR ⟨e, s, b, u, xs⟩) = R := ⟨_, rfl⟩
  rw [hR]
  have HR := hid hR
  clear hR hx
  by_cases h1 : 1 ≤ e ∧ e ≤ 2147483648
  case neg =>
    go_enter Tryd.func26, Tryd.ntmps26
    go_wp2_with (go_at_call 67; refine (within_ok _ _ _ _).mono ?_; rintro e' w' ⟨rfl, rfl⟩; first | rw [decide_eq_true (by omega)] | rw [decide_eq_false (by omega)])
    go_ret
    exact ⟨retF HR (fun h => by have := h.1; unfold mayH at this; simp only [] at this; omega), HF.out⟩
  by_cases h2 : 0 ≤ s ∧ s ≤ 1099511627776
  case neg =>
    go_enter Tryd.func26, Tryd.ntmps26
    go_wp2_with (go_at_call 67; refine (within_ok _ _ _ _).mono ?_; rintro e' w' ⟨rfl, rfl⟩; first | rw [decide_eq_true (by omega)] | rw [decide_eq_false (by omega)])
    go_ret
    exact ⟨retF HR (fun h => by have := h.1; unfold mayH at this; simp only [] at this; omega), HF.out⟩
  by_cases h3 : 0 ≤ u ∧ u ≤ 1099511627776
  case neg =>
    go_enter Tryd.func26, Tryd.ntmps26
    go_wp2_with (go_at_call 67; refine (within_ok _ _ _ _).mono ?_; rintro e' w' ⟨rfl, rfl⟩; first | rw [decide_eq_true (by omega)] | rw [decide_eq_false (by omega)])
    go_ret
    exact ⟨retF HR (fun h => by have := h.1; unfold mayH at this; simp only [] at this; omega), HF.out⟩
  by_cases h4 : l ≤ 6
  case neg =>
    have h5 : (6 : Int) < l := by omega
    go_enter Tryd.func26, Tryd.ntmps26
    go_wp2_with (go_at_call 67; refine (within_ok _ _ _ _).mono ?_; rintro e' w' ⟨rfl, rfl⟩; first | rw [decide_eq_true (by omega)] | rw [decide_eq_false (by omega)])
    go_ret
    exact ⟨retF HR (fun h => by have := h.2.1; simp only [] at this; have := HL.out; omega), HF.out⟩
  have h5 : ¬ (6 : Int) < l := by omega
  go_enter Tryd.func26, Tryd.ntmps26
  go_wp2_with (go_at_call 67; refine (within_ok _ _ _ _).mono ?_; rintro e' w' ⟨rfl, rfl⟩; first | rw [decide_eq_true (by omega)] | rw [decide_eq_false (by omega)])
  go_loopw [28] (fun i wr => ∃ k : Nat, k ≤ l ∧ i = .int .i64 k ∧ Hid (∀ x ∈ xs.take k, mayD x) ∧ Fr No (w.alloc (rx e s b u A l c)) wr) (fun i _ => l - (intOf i).toNat)
  case atStart => exact ⟨0, by omega, rfl, hid (by simp), Fr.refl _ _⟩
  case round =>
    obtain ⟨k, hk, rfl, HE, hf⟩ := hrel
    by_cases hlt : k < l
    · have hk1 : k < xs.length := by rw [HL.out]; exact hlt
      obtain ⟨x, hx⟩ : ∃ x, xs[k]? = some x := ⟨_, List.getElem?_eq_getElem hk1⟩
      obtain ⟨g, o, rfl, hg, hc⟩ := (HX.out.fr hf).at_ (by omega)
      obtain ⟨c0, c1, c2, c3, c4⟩ := hc k x hx
      have hlt3 : (k : Int) < l := by omega
      have h0 : (0 : Int) ≤ k := by omega
      have HXk := hid hx
      have HFk := hid (HF.out.trans hf)
      have HFr := hid hf
      clear hc hg hk1 hx hf
      obtain ⟨x0, x1, x2, x3, x4⟩ := x
      simp only [] at c0 c1 c2 c3 c4
      by_cases hm : mayD ⟨x0, x1, x2, x3, x4⟩
      · go_wp2_with (go_at_call 32; refine (mayDelta_ok _ _ _ _ _ _).mono ?_; rintro e' w' ⟨rfl, hq⟩; rw [decide_eq_true hm])
        go_roundw
        case rel => exact ⟨k + 1, by omega, by go_num, hid (all_snoc HXk.out HE.out hm), (HFr.out.alloc _).trans hq⟩
        case measure => simp [intOf]; omega
      · go_wp2_with (go_at_call 32; refine (mayDelta_ok _ _ _ _ _ _).mono ?_; rintro e' w' ⟨rfl, hq⟩; rw [decide_eq_false hm])
        go_ret
        exact ⟨retF HR (fun h => no_at HXk.out hm h.2.2), (HFk.out.alloc _).trans hq⟩
    · obtain rfl : k = l := by omega
      have HFk := hid (HF.out.trans hf)
      have hE2 := hid (show mayR ⟨e, s, b, u, xs⟩ from ⟨⟨h1, h2, h3⟩, by simp only []; have := HL.out; omega, by have := HE.out; rwa [List.take_of_length_le (by rw [HL.out]; exact Nat.le_refl _)] at this⟩)
      clear hf
      go_wp2
      go_ret
      exact ⟨retT HR hE2.out, HFk.out⟩
set_option maxRecDepth 100000 in
set_option maxHeartbeats 4000000 in
theorem rmay_ok (e s : Int) (b : Bool) (u : Int) (A : Option Addr) (l c : Nat) (xs : List De) (w : World)
    (hl : l ≤ maxLen) (hx : RdD w A l xs) : Calls Tryd.prog 27 #[rv e s b u A l c] w fun E w' => E = .returned (.bool (decide (mayR ⟨e, s, b, u, xs⟩))) ∧ Fr No w w' := by
  unfold maxLen at hl
  have HX := hid (hx.fr ((Fr.refl No w).alloc (rx e s b u A l c)))
  have HL := hid hx.1
  have HF := hid ((Fr.refl No w).alloc (rx e s b u A l c))
  have HB := hid (Blk.new w 48 #[.int .i64 e, .int .i64 s, .bool b, .int .i64 u, .slice A l c])
  obtain ⟨R, hR⟩ : ∃ R, decide (mayR ⟨e, s, b, u, xs⟩) = R := ⟨_, rfl⟩
  rw [hR]
  have HR := hid hR
  clear hR hx
  obtain ⟨w1, hw1⟩ : ∃ w1, w.alloc (rx e s b u A l c) = w1 := ⟨_, rfl⟩
  have hsz : w1.heap.size = w.heap.size + 1 := by rw [← hw1]; simp
  rw [hw1] at HX HF HB
  go_enter Tryd.func27, Tryd.ntmps27
  go_wp2_with fail
  go_loopw [3] (fun i wr => ∃ k : Nat, k ≤ l ∧ i = .int .i64 k ∧ Hid (∀ x ∈ xs.take k, mayD x) ∧ Fr No w1 wr) (fun i _ => l - (intOf i).toNat)
  case atStart => exact ⟨0, by omega, rfl, hid (by simp), Fr.refl _ _⟩
  case round =>
    obtain ⟨k, hk, rfl, HE, hf⟩ := hrel
    obtain ⟨b0, b1, b2, b3, b4⟩ := RB.cells (RB.fr HB.out hf (fun h => h))
    by_cases hlt : k < l
    · have hk1 : k < xs.length := by rw [HL.out]; exact hlt
      obtain ⟨x, hx⟩ : ∃ x, xs[k]? = some x := ⟨_, List.getElem?_eq_getElem hk1⟩
      obtain ⟨g, o, rfl, hg, hc⟩ := (HX.out.fr hf).at_ (by omega)
      obtain ⟨c0, c1, c2, c3, c4⟩ := hc k x hx
      have hlt3 : (k : Int) < l := by omega
      have h0 : (0 : Int) ≤ k := by omega
      have HXk := hid hx
      have HFk := hid (HF.out.trans hf)
      have HFr := hid hf
      clear hc hg hk1 hx hf
      obtain ⟨x0, x1, x2, x3, x4⟩ := x
      simp only [] at c0 c1 c2 c3 c4
      by_cases hm : mayD ⟨x0, x1, x2, x3, x4⟩
      · go_wp2_with (go_at_call 33; refine (rmayDelta_ok _ _ _ _ _ _).mono ?_; rintro e' w' ⟨rfl, hq⟩; rw [decide_eq_true hm])
        go_roundw
        case rel => exact ⟨k + 1, by omega, by go_num, hid (all_snoc HXk.out HE.out hm), HFr.out.trans hq⟩
        case measure => simp [intOf]; omega
      · go_wp2_with (go_at_call 33; refine (rmayDelta_ok _ _ _ _ _ _).mono ?_; rintro e' w' ⟨rfl, hq⟩; rw [decide_eq_false hm])
        go_ret
        exact ⟨retF HR (fun h => no_at HXk.out hm h.2.2), HFk.out.trans hq⟩
    · obtain rfl : k = l := by omega
      have HFk := hid (HF.out.trans hf)
      have HA := hid (show ∀ x ∈ xs, mayD x by have := HE.out; rwa [List.take_of_length_le (by rw [HL.out]; exact Nat.le_refl _)] at this)
      clear hf
      by_cases h4 : k ≤ 6
      case neg =>
        have h5 : ¬ (k : Int) ≤ 6 := by omega
        go_wp2
        go_ret
        exact ⟨retF HR (fun h => by have := h.2.1; simp only [] at this; have := HL.out; omega), HFk.out⟩
      have h5 : (k : Int) ≤ 6 := by omega
      by_cases q1 : 1 ≤ e
      case neg =>
        go_wp2
        go_ret
        exact ⟨retF HR (fun h => by have := h.1; unfold mayH at this; simp only [] at this; omega), HFk.out⟩
      by_cases q2 : e ≤ 2147483648
      case neg =>
        go_wp2
        go_ret
        exact ⟨retF HR (fun h => by have := h.1; unfold mayH at this; simp only [] at this; omega), HFk.out⟩
      by_cases q3 : 0 ≤ s
      case neg =>
        go_wp2
        go_ret
        exact ⟨retF HR (fun h => by have := h.1; unfold mayH at this; simp only [] at this; omega), HFk.out⟩
      by_cases q4 : s ≤ 1099511627776
      case neg =>
        go_wp2
        go_ret
        exact ⟨retF HR (fun h => by have := h.1; unfold mayH at this; simp only [] at this; omega), HFk.out⟩
      by_cases q5 : 0 ≤ u
      case neg =>
        go_wp2
        go_ret
        exact ⟨retF HR (fun h => by have := h.1; unfold mayH at this; simp only [] at this; omega), HFk.out⟩
      by_cases q6 : u ≤ 1099511627776
      case neg =>
        go_wp2
        go_ret
        exact ⟨retF HR (fun h => by have := h.1; unfold mayH at this; simp only [] at this; omega), HFk.out⟩
      have hE2 := hid (show mayR ⟨e, s, b, u, xs⟩ from ⟨⟨⟨q1, q2⟩, ⟨q3, q4⟩, ⟨q5, q6⟩⟩, by simp only []; have := HL.out; omega, HA.out⟩)
      go_wp2
      go_ret
      exact ⟨retT HR hE2.out, HFk.out⟩
set_option maxRecDepth 100000 in
set_option maxHeartbeats 2000000 in
theorem same_ok (e s : Int) (b : Bool) (u : Int) (A : Option Addr) (l c : Nat) (xs : List De) (e' s' : Int) (b' : Bool) (u' : Int) (B : Option Addr) (m d : Nat) (ys : List De) (w : World) (hl : l ≤ maxLen) (hm : m ≤ maxLen) (hx : RdD w A l xs) (hy : RdD w B m ys) :
    Calls Tryd.prog 34 #[rv e s b u A l c, rv e' s' b' u' B m d] w fun E w' => E = .returned (.bool (decide (e = e' ∧ s = s' ∧ b = b' ∧ u = u' ∧ xs = ys))) ∧ Fr No w w' := by
  have HF := hid (((Fr.refl No w).alloc (rx e s b u A l c)).alloc (rx e' s' b' u' B m d))
  have HX := hid (hx.fr HF.out)
  have HY := hid (hy.fr HF.out)
  obtain ⟨R, hR⟩ : ∃ R, decide (e = e' ∧ s = s' ∧ b = b' ∧ u = u' ∧ xs = ys) = R := ⟨_, rfl⟩
  rw [hR]
  have HR := hid hR
  clear hR hx hy
  by_cases k0 : e = e'
  case neg =>
    have kb : (e == e') = false := by simpa using k0
    go_enter Tryd.func34, Tryd.ntmps34
    go_wp2
    go_ret
    exact ⟨retF HR (fun h => k0 h.1), HF.out⟩
  subst k0
  by_cases k1 : s = s'
  case neg =>
    have kb : (s == s') = false := by simpa using k1
    go_enter Tryd.func34, Tryd.ntmps34
    go_wp2
    go_ret
    exact ⟨retF HR (fun h => k1 h.2.1), HF.out⟩
  subst k1
  by_cases k2 : b = b'
  case neg =>
    have kb : (b == b') = false := by simpa using k2
    go_enter Tryd.func34, Tryd.ntmps34
    go_wp2
    go_ret
    exact ⟨retF HR (fun h => k2 h.2.2.1), HF.out⟩
  subst k2
  by_cases k3 : u = u'
  case neg =>
    have kb : (u == u') = false := by simpa using k3
    go_enter Tryd.func34, Tryd.ntmps34
    go_wp2
    go_ret
    exact ⟨retF HR (fun h => k3 h.2.2.2.1), HF.out⟩
  subst k3
  obtain ⟨q, hq⟩ : ∃ q, decide (xs = ys) = q := ⟨_, rfl⟩
  have HQ := hid hq
  clear hq
  go_enter Tryd.func34, Tryd.ntmps34
  go_wp2_with (go_at_call 69; refine (equal_ok _ _ _ _ _ _ _ _ _ hl hm HX.out HY.out).mono ?_; rintro e' w' ⟨rfl, hf⟩; rw [HQ.out])
  go_ret
  exact ⟨congrArg (fun b => Ending.returned (Value.bool b)) (show q = R by rw [← HQ.out, ← HR.out]; simp), HF.out.trans hf⟩
set_option maxRecDepth 100000 in
set_option maxHeartbeats 2000000 in
theorem rsame_ok (e s : Int) (b : Bool) (u : Int) (A : Option Addr) (l c : Nat) (xs : List De) (e' s' : Int) (b' : Bool) (u' : Int) (B : Option Addr) (m d : Nat) (ys : List De) (w : World) (hl : l ≤ maxLen) (hm : m ≤ maxLen) (hx : RdD w A l xs) (hy : RdD w B m ys) :
    Calls Tryd.prog 30 #[rv e s b u A l c, rv e' s' b' u' B m d] w fun E w' => E = .returned (.bool (decide (e = e' ∧ s = s' ∧ b = b' ∧ u = u' ∧ xs = ys))) ∧ Fr No w w' := by
  have HF := hid (((Fr.refl No w).alloc (rx e s b u A l c)).alloc (rx e' s' b' u' B m d))
  have HX := hid (hx.fr HF.out)
  have HY := hid (hy.fr HF.out)
  obtain ⟨R, hR⟩ : ∃ R, decide (e = e' ∧ s = s' ∧ b = b' ∧ u = u' ∧ xs = ys) = R := ⟨_, rfl⟩
  rw [hR]
  have HR := hid hR
  clear hR hx hy
  by_cases k0 : e = e'
  case neg =>
    have kb : (e == e') = false := by simpa using k0
    go_enter Tryd.func30, Tryd.ntmps30
    go_wp2
    go_ret
    exact ⟨retF HR (fun h => k0 h.1), HF.out⟩
  subst k0
  by_cases k1 : s = s'
  case neg =>
    have kb : (s == s') = false := by simpa using k1
    go_enter Tryd.func30, Tryd.ntmps30
    go_wp2
    go_ret
    exact ⟨retF HR (fun h => k1 h.2.1), HF.out⟩
  subst k1
  by_cases k2 : b = b'
  case neg =>
    have kb : (b == b') = false := by simpa using k2
    go_enter Tryd.func30, Tryd.ntmps30
    go_wp2
    go_ret
    exact ⟨retF HR (fun h => k2 h.2.2.1), HF.out⟩
  subst k2
  by_cases k3 : u = u'
  case neg =>
    have kb : (u == u') = false := by simpa using k3
    go_enter Tryd.func30, Tryd.ntmps30
    go_wp2
    go_ret
    exact ⟨retF HR (fun h => k3 h.2.2.2.1), HF.out⟩
  subst k3
  obtain ⟨q, hq⟩ : ∃ q, decide (xs = ys) = q := ⟨_, rfl⟩
  have HQ := hid hq
  clear hq
  go_enter Tryd.func30, Tryd.ntmps30
  go_wp2_with (go_at_call 38; refine (sameD_ok _ _ _ _ _ _ _ _ _ hl hm HX.out HY.out).mono ?_; rintro e' w' ⟨rfl, hf⟩; rw [HQ.out])
  go_ret
  exact ⟨congrArg (fun b => Ending.returned (Value.bool b)) (show q = R by rw [← HQ.out, ← HR.out]; simp), HF.out.trans hf⟩
end Go.Proofs.YtdepkpdolkipcaaDoor.RcC
