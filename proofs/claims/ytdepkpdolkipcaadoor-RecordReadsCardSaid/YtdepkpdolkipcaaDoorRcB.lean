/- Contracts: lists of deltas, whether two are the same, and which records may be, by the program and by the document. Condition: the slices read as lists. -/
import Derived.Test.YtdepkpdolkipcaaDoorRcA
import Derived.Deep.RegionHeld3
namespace Go.Proofs.YtdepkpdolkipcaaDoor.RcB
open Go.RowKit MSep RcM RcA

instance : DecidableEq De := fun x y => decidable_of_iff (x.k = y.k ∧ x.a = y.a ∧ x.n = y.n ∧ x.z = y.z ∧ x.o = y.o) (by cases x; cases y; simp)
def cs5 (l : List De) : List Value := l.flatMap fun d => [.int .i64 d.k, .int .i64 d.a, .int .i64 d.n, .int .i64 d.z, .int .i64 d.o]
theorem cs5_nil : cs5 [] = [] := rfl
theorem cs5_cons (d : De) (l : List De) : cs5 (d :: l) = .int .i64 d.k :: .int .i64 d.a :: .int .i64 d.n :: .int .i64 d.z :: .int .i64 d.o :: cs5 l := rfl
theorem cs5_append (a b : List De) : cs5 (a ++ b) = cs5 a ++ cs5 b := by simp [cs5]
theorem cs5_len (l : List De) : (cs5 l).length = l.length * 5 := by
  induction l with
  | nil => rfl
  | cons s l ih => rw [cs5_cons]; simp [ih]; omega
theorem cs5_one {l : List De} : ∀ u ∈ cs5 l, u.oneCell' = true := by
  intro u hu
  obtain ⟨s, _, h⟩ := List.mem_flatMap.1 hu
  simp at h
  rcases h with rfl | rfl | rfl | rfl | rfl <;> rfl
theorem cs5_get {l : List De} {i : Nat} {d : De} (h : l[i]? = some d) : (cs5 l)[i * 5]? = some (.int .i64 d.k) ∧ (cs5 l)[i * 5 + 1]? = some (.int .i64 d.a) ∧ (cs5 l)[i * 5 + 2]? = some (.int .i64 d.n) ∧ (cs5 l)[i * 5 + 3]? = some (.int .i64 d.z) ∧ (cs5 l)[i * 5 + 4]? = some (.int .i64 d.o) := by
  induction l generalizing i with
  | nil => simp at h
  | cons t l ih =>
    cases i with
    | zero => simp at h; subst h; simp [cs5_cons]
    | succ i =>
      have := ih (by simpa using h)
      rw [cs5_cons]
      rw [show (i + 1) * 5 = i * 5 + 1 + 1 + 1 + 1 + 1 by omega]
      simpa using this
theorem cs5_take (l : List De) (k : Nat) : (cs5 l).take (k * 5) = cs5 (l.take k) := by
  induction l generalizing k with
  | nil => simp [cs5_nil]
  | cons s l ih =>
    cases k with
    | zero => simp [cs5_nil]
    | succ k => rw [show (k + 1) * 5 = k * 5 + 1 + 1 + 1 + 1 + 1 by omega, cs5_cons, List.take_succ_cons, List.take_succ_cons, List.take_succ_cons, List.take_succ_cons, List.take_succ_cons, ih, List.take_succ_cons, cs5_cons]
theorem cs5_drop (l : List De) (k : Nat) : (cs5 l).drop (k * 5) = cs5 (l.drop k) := by
  induction l generalizing k with
  | nil => simp [cs5_nil]
  | cons s l ih =>
    cases k with
    | zero => simp
    | succ k => rw [show (k + 1) * 5 = k * 5 + 1 + 1 + 1 + 1 + 1 by omega, cs5_cons, List.drop_succ_cons, List.drop_succ_cons, List.drop_succ_cons, List.drop_succ_cons, List.drop_succ_cons, ih, List.drop_succ_cons]
/-- The slice at A of n deltas reads as l. -/
def RdD (w : World) (A : Option Addr) (n : Nat) (l : List De) : Prop := l.length = n ∧ Rd w A (n * 5) (cs5 l)
theorem RdD.nil (w : World) (A : Option Addr) : RdD w A 0 [] := ⟨rfl, Rd.nil w A⟩
theorem RdD.fr {w w' : World} {A : Option Addr} {n : Nat} {l : List De} (h : RdD w A n l) (hf : Fr No w w') : RdD w' A n l := ⟨h.1, h.2.fr hf (fun _ _ _ h => h)⟩
theorem RdD.at_ {w : World} {A : Option Addr} {n : Nat} {l : List De} (h : RdD w A n l) (hn : 0 < n) : ∃ g o, A = some ⟨g, o, none⟩ ∧ g < w.heap.size ∧ ∀ i d, l[i]? = some d →
    w.cell? ⟨g, o + i * 5, none⟩ = some (.int .i64 d.k) ∧ w.cell? ⟨g, o + i * 5 + 1, none⟩ = some (.int .i64 d.a) ∧ w.cell? ⟨g, o + i * 5 + 2, none⟩ = some (.int .i64 d.n) ∧ w.cell? ⟨g, o + i * 5 + 3, none⟩ = some (.int .i64 d.z) ∧ w.cell? ⟨g, o + i * 5 + 4, none⟩ = some (.int .i64 d.o) := by
  obtain ⟨g, o, rfl, hg, hc⟩ := h.2.2 (by omega)
  refine ⟨g, o, rfl, hg, fun i s hs => ?_⟩
  obtain ⟨h0, h1, h2, h3, h4⟩ := cs5_get hs
  exact ⟨hc _ _ h0, by rw [Nat.add_assoc]; exact hc _ _ h1, by rw [Nat.add_assoc]; exact hc _ _ h2, by rw [Nat.add_assoc]; exact hc _ _ h3, by rw [Nat.add_assoc]; exact hc _ _ h4⟩
theorem ne_at {xs ys : List De} {k : Nat} {x y : De} (hx : xs[k]? = some x) (hy : ys[k]? = some y) (h : x ≠ y) : xs ≠ ys := by
  rintro rfl
  rw [hx] at hy
  exact h (Option.some.inj hy)
theorem retF {p : Prop} [Decidable p] {R : Bool} (h : Hid (decide p = R)) (n : ¬ p) : Ending.returned (.bool false) = Ending.returned (.bool R) := by rw [← h.out, decide_eq_false n]
theorem retT {p : Prop} [Decidable p] {R : Bool} (h : Hid (decide p = R)) (n : p) : Ending.returned (.bool true) = Ending.returned (.bool R) := by rw [← h.out, decide_eq_true n]
theorem take_snoc {xs : List De} {k : Nat} {s : De} (h : xs[k]? = some s) : xs.take (k + 1) = xs.take k ++ [s] := by
  rw [List.take_add_one, h]
  rfl
set_option maxRecDepth 100000 in
set_option maxHeartbeats 2000000 in
theorem equal_ok (A : Option Addr) (l c : Nat) (xs : List De) (B : Option Addr) (m d : Nat) (ys : List De) (w : World) (hl : l ≤ maxLen) (hm : m ≤ maxLen) (hx : RdD w A l xs) (hy : RdD w B m ys) :
    Calls Tryd.prog 69 #[.slice A l c, .slice B m d] w fun e w' => e = .returned (.bool (decide (xs = ys))) ∧ Fr No w w' := by
  unfold maxLen at hl hm
  obtain ⟨R, hR⟩ : ∃ R, decide (xs = ys) = R := ⟨_, rfl⟩
  rw [hR]
  have HR := hid hR
  clear hR
  by_cases hlm : l = m
  · subst hlm
    have HX := hid hx
    have HY := hid hy
    clear hx hy
    go_enter Tryd.func69, Tryd.ntmps69
    go_wp2
    go_loopw [13] (fun i wr => ∃ k : Nat, k ≤ l ∧ i = .int .i64 k ∧ Hid (xs.take k = ys.take k) ∧ Fr No w wr) (fun i _ => l - (intOf i).toNat)
    case atStart => exact ⟨0, by omega, rfl, hid rfl, Fr.refl _ _⟩
    case round =>
      obtain ⟨k, hk, rfl, HE, hf⟩ := hrel
      by_cases hlt : k < l
      · have hk1 : k < xs.length := by rw [HX.out.1]; exact hlt
        have hk2 : k < ys.length := by rw [HY.out.1]; exact hlt
        obtain ⟨x, hx⟩ : ∃ x, xs[k]? = some x := ⟨_, List.getElem?_eq_getElem hk1⟩
        obtain ⟨y, hy⟩ : ∃ y, ys[k]? = some y := ⟨_, List.getElem?_eq_getElem hk2⟩
        obtain ⟨g, o, rfl, hg, hc⟩ := (HX.out.fr hf).at_ (by omega)
        obtain ⟨g', o', rfl, hg', hc'⟩ := (HY.out.fr hf).at_ (by omega)
        obtain ⟨c0, c1, c2, c3, c4⟩ := hc k x hx
        obtain ⟨d0, d1, d2, d3, d4⟩ := hc' k y hy
        have hlt3 : (k : Int) < l := by omega
        have h0 : (0 : Int) ≤ k := by omega
        have HXk := hid hx
        have HYk := hid hy
        have HF := hid hf
        clear hc hc' hg hg' hk1 hk2 hx hy hf
        obtain ⟨x0, x1, x2, x3, x4⟩ := x
        obtain ⟨y0, y1, y2, y3, y4⟩ := y
        simp only [] at c0 c1 c2 c3 c4 d0 d1 d2 d3 d4
        by_cases e0 : x0 = y0
        case neg =>
          have hN := hid (ne_at HXk.out HYk.out (fun e => e0 (congrArg De.k e)))
          have eb : (x0 == y0) = false := by simpa using e0
          go_wp2_with fail
          go_region_held3 (fun W' => W'.cell? ⟨g, o + k * 5, none⟩ = some (.int .i64 x0) ∧ W'.cell? ⟨g, o + k * 5 + 1, none⟩ = some (.int .i64 x1) ∧ W'.cell? ⟨g, o + k * 5 + 2, none⟩ = some (.int .i64 x2) ∧ W'.cell? ⟨g, o + k * 5 + 3, none⟩ = some (.int .i64 x3) ∧ W'.cell? ⟨g, o + k * 5 + 4, none⟩ = some (.int .i64 x4) ∧ W'.cell? ⟨g', o' + k * 5, none⟩ = some (.int .i64 y0) ∧ W'.cell? ⟨g', o' + k * 5 + 1, none⟩ = some (.int .i64 y1) ∧ W'.cell? ⟨g', o' + k * 5 + 2, none⟩ = some (.int .i64 y2) ∧ W'.cell? ⟨g', o' + k * 5 + 3, none⟩ = some (.int .i64 y3) ∧ W'.cell? ⟨g', o' + k * 5 + 4, none⟩ = some (.int .i64 y4)) (go_keep) (fail)
          go_wp2
          go_ret
          exact ⟨retF HR hN.out, HF.out.drew⟩
        subst e0
        by_cases e1 : x1 = y1
        case neg =>
          have hN := hid (ne_at HXk.out HYk.out (fun e => e1 (congrArg De.a e)))
          have eb : (x1 == y1) = false := by simpa using e1
          go_wp2_with fail
          go_region_held3 (fun W' => W'.cell? ⟨g, o + k * 5, none⟩ = some (.int .i64 x0) ∧ W'.cell? ⟨g, o + k * 5 + 1, none⟩ = some (.int .i64 x1) ∧ W'.cell? ⟨g, o + k * 5 + 2, none⟩ = some (.int .i64 x2) ∧ W'.cell? ⟨g, o + k * 5 + 3, none⟩ = some (.int .i64 x3) ∧ W'.cell? ⟨g, o + k * 5 + 4, none⟩ = some (.int .i64 x4) ∧ W'.cell? ⟨g', o' + k * 5, none⟩ = some (.int .i64 x0) ∧ W'.cell? ⟨g', o' + k * 5 + 1, none⟩ = some (.int .i64 y1) ∧ W'.cell? ⟨g', o' + k * 5 + 2, none⟩ = some (.int .i64 y2) ∧ W'.cell? ⟨g', o' + k * 5 + 3, none⟩ = some (.int .i64 y3) ∧ W'.cell? ⟨g', o' + k * 5 + 4, none⟩ = some (.int .i64 y4)) (go_keep) (fail)
          go_wp2
          go_ret
          exact ⟨retF HR hN.out, HF.out.drew⟩
        subst e1
        by_cases e2 : x2 = y2
        case neg =>
          have hN := hid (ne_at HXk.out HYk.out (fun e => e2 (congrArg De.n e)))
          have eb : (x2 == y2) = false := by simpa using e2
          go_wp2_with fail
          go_region_held3 (fun W' => W'.cell? ⟨g, o + k * 5, none⟩ = some (.int .i64 x0) ∧ W'.cell? ⟨g, o + k * 5 + 1, none⟩ = some (.int .i64 x1) ∧ W'.cell? ⟨g, o + k * 5 + 2, none⟩ = some (.int .i64 x2) ∧ W'.cell? ⟨g, o + k * 5 + 3, none⟩ = some (.int .i64 x3) ∧ W'.cell? ⟨g, o + k * 5 + 4, none⟩ = some (.int .i64 x4) ∧ W'.cell? ⟨g', o' + k * 5, none⟩ = some (.int .i64 x0) ∧ W'.cell? ⟨g', o' + k * 5 + 1, none⟩ = some (.int .i64 x1) ∧ W'.cell? ⟨g', o' + k * 5 + 2, none⟩ = some (.int .i64 y2) ∧ W'.cell? ⟨g', o' + k * 5 + 3, none⟩ = some (.int .i64 y3) ∧ W'.cell? ⟨g', o' + k * 5 + 4, none⟩ = some (.int .i64 y4)) (go_keep) (fail)
          go_wp2
          go_ret
          exact ⟨retF HR hN.out, HF.out.drew⟩
        subst e2
        by_cases e3 : x3 = y3
        case neg =>
          have hN := hid (ne_at HXk.out HYk.out (fun e => e3 (congrArg De.z e)))
          have eb : (x3 == y3) = false := by simpa using e3
          go_wp2_with fail
          go_region_held3 (fun W' => W'.cell? ⟨g, o + k * 5, none⟩ = some (.int .i64 x0) ∧ W'.cell? ⟨g, o + k * 5 + 1, none⟩ = some (.int .i64 x1) ∧ W'.cell? ⟨g, o + k * 5 + 2, none⟩ = some (.int .i64 x2) ∧ W'.cell? ⟨g, o + k * 5 + 3, none⟩ = some (.int .i64 x3) ∧ W'.cell? ⟨g, o + k * 5 + 4, none⟩ = some (.int .i64 x4) ∧ W'.cell? ⟨g', o' + k * 5, none⟩ = some (.int .i64 x0) ∧ W'.cell? ⟨g', o' + k * 5 + 1, none⟩ = some (.int .i64 x1) ∧ W'.cell? ⟨g', o' + k * 5 + 2, none⟩ = some (.int .i64 x2) ∧ W'.cell? ⟨g', o' + k * 5 + 3, none⟩ = some (.int .i64 y3) ∧ W'.cell? ⟨g', o' + k * 5 + 4, none⟩ = some (.int .i64 y4)) (go_keep) (fail)
          go_wp2
          go_ret
          exact ⟨retF HR hN.out, HF.out.drew⟩
        subst e3
        by_cases e4 : x4 = y4
        case neg =>
          have hN := hid (ne_at HXk.out HYk.out (fun e => e4 (congrArg De.o e)))
          have eb : (x4 == y4) = false := by simpa using e4
          go_wp2_with fail
          go_region_held3 (fun W' => W'.cell? ⟨g, o + k * 5, none⟩ = some (.int .i64 x0) ∧ W'.cell? ⟨g, o + k * 5 + 1, none⟩ = some (.int .i64 x1) ∧ W'.cell? ⟨g, o + k * 5 + 2, none⟩ = some (.int .i64 x2) ∧ W'.cell? ⟨g, o + k * 5 + 3, none⟩ = some (.int .i64 x3) ∧ W'.cell? ⟨g, o + k * 5 + 4, none⟩ = some (.int .i64 x4) ∧ W'.cell? ⟨g', o' + k * 5, none⟩ = some (.int .i64 x0) ∧ W'.cell? ⟨g', o' + k * 5 + 1, none⟩ = some (.int .i64 x1) ∧ W'.cell? ⟨g', o' + k * 5 + 2, none⟩ = some (.int .i64 x2) ∧ W'.cell? ⟨g', o' + k * 5 + 3, none⟩ = some (.int .i64 x3) ∧ W'.cell? ⟨g', o' + k * 5 + 4, none⟩ = some (.int .i64 y4)) (go_keep) (fail)
          go_wp2
          go_ret
          exact ⟨retF HR hN.out, HF.out.drew⟩
        subst e4
        go_wp2_with fail
        go_region_held3 (fun W' => W'.cell? ⟨g, o + k * 5, none⟩ = some (.int .i64 x0) ∧ W'.cell? ⟨g, o + k * 5 + 1, none⟩ = some (.int .i64 x1) ∧ W'.cell? ⟨g, o + k * 5 + 2, none⟩ = some (.int .i64 x2) ∧ W'.cell? ⟨g, o + k * 5 + 3, none⟩ = some (.int .i64 x3) ∧ W'.cell? ⟨g, o + k * 5 + 4, none⟩ = some (.int .i64 x4) ∧ W'.cell? ⟨g', o' + k * 5, none⟩ = some (.int .i64 x0) ∧ W'.cell? ⟨g', o' + k * 5 + 1, none⟩ = some (.int .i64 x1) ∧ W'.cell? ⟨g', o' + k * 5 + 2, none⟩ = some (.int .i64 x2) ∧ W'.cell? ⟨g', o' + k * 5 + 3, none⟩ = some (.int .i64 x3) ∧ W'.cell? ⟨g', o' + k * 5 + 4, none⟩ = some (.int .i64 x4)) (go_keep) (fail)
        go_wp2
        go_roundw
        case rel => exact ⟨k + 1, by omega, by go_num, hid (by rw [List.take_add_one, List.take_add_one, HXk.out, HYk.out, HE.out]), HF.out.drew⟩
        case measure => simp [intOf]; omega
      · obtain rfl : k = l := by omega
        have hE : xs = ys := by
          have := HE.out
          rwa [List.take_of_length_le (by rw [HX.out.1]; exact Nat.le_refl _), List.take_of_length_le (by rw [HY.out.1]; exact Nat.le_refl _)] at this
        have HF := hid hf
        have hE2 := hid hE
        clear hf hE
        go_wp2
        go_ret
        exact ⟨retT HR hE2.out, HF.out⟩
  · have hE2 := hid (show xs ≠ ys from fun e => hlm (by rw [← hx.1, ← hy.1, e]))
    have hne : ¬ (l : Int) = m := by omega
    clear hx hy
    go_enter Tryd.func69, Tryd.ntmps69
    go_wp2
    go_ret
    exact ⟨retF HR hE2.out, Fr.refl _ _⟩
set_option maxRecDepth 100000 in
set_option maxHeartbeats 2000000 in
theorem sameD_ok (A : Option Addr) (l c : Nat) (xs : List De) (B : Option Addr) (m d : Nat) (ys : List De) (w : World) (hl : l ≤ maxLen) (hm : m ≤ maxLen) (hx : RdD w A l xs) (hy : RdD w B m ys) :
    Calls Tryd.prog 38 #[.slice A l c, .slice B m d] w fun e w' => e = .returned (.bool (decide (xs = ys))) ∧ Fr No w w' := by
  unfold maxLen at hl hm
  obtain ⟨R, hR⟩ : ∃ R, decide (xs = ys) = R := ⟨_, rfl⟩
  rw [hR]
  have HR := hid hR
  clear hR
  by_cases hlm : l = m
  · subst hlm
    have HX := hid hx
    have HY := hid hy
    clear hx hy
    go_enter Tryd.func38, Tryd.ntmps38
    go_wp2
    go_loopw [5] (fun i wr => ∃ k : Nat, k ≤ l ∧ i = .int .i64 k ∧ Hid (xs.take k = ys.take k) ∧ Fr No w wr) (fun i _ => l - (intOf i).toNat)
    case atStart => exact ⟨0, by omega, rfl, hid rfl, Fr.refl _ _⟩
    case round =>
      obtain ⟨k, hk, rfl, HE, hf⟩ := hrel
      by_cases hlt : k < l
      · have hk1 : k < xs.length := by rw [HX.out.1]; exact hlt
        have hk2 : k < ys.length := by rw [HY.out.1]; exact hlt
        obtain ⟨x, hx⟩ : ∃ x, xs[k]? = some x := ⟨_, List.getElem?_eq_getElem hk1⟩
        obtain ⟨y, hy⟩ : ∃ y, ys[k]? = some y := ⟨_, List.getElem?_eq_getElem hk2⟩
        obtain ⟨g, o, rfl, hg, hc⟩ := (HX.out.fr hf).at_ (by omega)
        obtain ⟨g', o', rfl, hg', hc'⟩ := (HY.out.fr hf).at_ (by omega)
        obtain ⟨c0, c1, c2, c3, c4⟩ := hc k x hx
        obtain ⟨d0, d1, d2, d3, d4⟩ := hc' k y hy
        have hlt3 : (k : Int) < l := by omega
        have h0 : (0 : Int) ≤ k := by omega
        have HXk := hid hx
        have HYk := hid hy
        have HF := hid hf
        clear hc hc' hg hg' hk1 hk2 hx hy hf
        obtain ⟨x0, x1, x2, x3, x4⟩ := x
        obtain ⟨y0, y1, y2, y3, y4⟩ := y
        simp only [] at c0 c1 c2 c3 c4 d0 d1 d2 d3 d4
        by_cases e0 : x0 = y0
        case neg =>
          have hN := hid (ne_at HXk.out HYk.out (fun e => e0 (congrArg De.k e)))
          have eb : (x0 == y0) = false := by simpa using e0
          go_wp2_with fail
          go_region_held3 (fun W' => W'.cell? ⟨g, o + k * 5, none⟩ = some (.int .i64 x0) ∧ W'.cell? ⟨g, o + k * 5 + 1, none⟩ = some (.int .i64 x1) ∧ W'.cell? ⟨g, o + k * 5 + 2, none⟩ = some (.int .i64 x2) ∧ W'.cell? ⟨g, o + k * 5 + 3, none⟩ = some (.int .i64 x3) ∧ W'.cell? ⟨g, o + k * 5 + 4, none⟩ = some (.int .i64 x4) ∧ W'.cell? ⟨g', o' + k * 5, none⟩ = some (.int .i64 y0) ∧ W'.cell? ⟨g', o' + k * 5 + 1, none⟩ = some (.int .i64 y1) ∧ W'.cell? ⟨g', o' + k * 5 + 2, none⟩ = some (.int .i64 y2) ∧ W'.cell? ⟨g', o' + k * 5 + 3, none⟩ = some (.int .i64 y3) ∧ W'.cell? ⟨g', o' + k * 5 + 4, none⟩ = some (.int .i64 y4)) (go_keep) (fail)
          go_wp2
          go_ret
          exact ⟨retF HR hN.out, HF.out.drew⟩
        subst e0
        by_cases e1 : x1 = y1
        case neg =>
          have hN := hid (ne_at HXk.out HYk.out (fun e => e1 (congrArg De.a e)))
          have eb : (x1 == y1) = false := by simpa using e1
          go_wp2_with fail
          go_region_held3 (fun W' => W'.cell? ⟨g, o + k * 5, none⟩ = some (.int .i64 x0) ∧ W'.cell? ⟨g, o + k * 5 + 1, none⟩ = some (.int .i64 x1) ∧ W'.cell? ⟨g, o + k * 5 + 2, none⟩ = some (.int .i64 x2) ∧ W'.cell? ⟨g, o + k * 5 + 3, none⟩ = some (.int .i64 x3) ∧ W'.cell? ⟨g, o + k * 5 + 4, none⟩ = some (.int .i64 x4) ∧ W'.cell? ⟨g', o' + k * 5, none⟩ = some (.int .i64 x0) ∧ W'.cell? ⟨g', o' + k * 5 + 1, none⟩ = some (.int .i64 y1) ∧ W'.cell? ⟨g', o' + k * 5 + 2, none⟩ = some (.int .i64 y2) ∧ W'.cell? ⟨g', o' + k * 5 + 3, none⟩ = some (.int .i64 y3) ∧ W'.cell? ⟨g', o' + k * 5 + 4, none⟩ = some (.int .i64 y4)) (go_keep) (fail)
          go_wp2
          go_ret
          exact ⟨retF HR hN.out, HF.out.drew⟩
        subst e1
        by_cases e2 : x2 = y2
        case neg =>
          have hN := hid (ne_at HXk.out HYk.out (fun e => e2 (congrArg De.n e)))
          have eb : (x2 == y2) = false := by simpa using e2
          go_wp2_with fail
          go_region_held3 (fun W' => W'.cell? ⟨g, o + k * 5, none⟩ = some (.int .i64 x0) ∧ W'.cell? ⟨g, o + k * 5 + 1, none⟩ = some (.int .i64 x1) ∧ W'.cell? ⟨g, o + k * 5 + 2, none⟩ = some (.int .i64 x2) ∧ W'.cell? ⟨g, o + k * 5 + 3, none⟩ = some (.int .i64 x3) ∧ W'.cell? ⟨g, o + k * 5 + 4, none⟩ = some (.int .i64 x4) ∧ W'.cell? ⟨g', o' + k * 5, none⟩ = some (.int .i64 x0) ∧ W'.cell? ⟨g', o' + k * 5 + 1, none⟩ = some (.int .i64 x1) ∧ W'.cell? ⟨g', o' + k * 5 + 2, none⟩ = some (.int .i64 y2) ∧ W'.cell? ⟨g', o' + k * 5 + 3, none⟩ = some (.int .i64 y3) ∧ W'.cell? ⟨g', o' + k * 5 + 4, none⟩ = some (.int .i64 y4)) (go_keep) (fail)
          go_wp2
          go_ret
          exact ⟨retF HR hN.out, HF.out.drew⟩
        subst e2
        by_cases e3 : x3 = y3
        case neg =>
          have hN := hid (ne_at HXk.out HYk.out (fun e => e3 (congrArg De.z e)))
          have eb : (x3 == y3) = false := by simpa using e3
          go_wp2_with fail
          go_region_held3 (fun W' => W'.cell? ⟨g, o + k * 5, none⟩ = some (.int .i64 x0) ∧ W'.cell? ⟨g, o + k * 5 + 1, none⟩ = some (.int .i64 x1) ∧ W'.cell? ⟨g, o + k * 5 + 2, none⟩ = some (.int .i64 x2) ∧ W'.cell? ⟨g, o + k * 5 + 3, none⟩ = some (.int .i64 x3) ∧ W'.cell? ⟨g, o + k * 5 + 4, none⟩ = some (.int .i64 x4) ∧ W'.cell? ⟨g', o' + k * 5, none⟩ = some (.int .i64 x0) ∧ W'.cell? ⟨g', o' + k * 5 + 1, none⟩ = some (.int .i64 x1) ∧ W'.cell? ⟨g', o' + k * 5 + 2, none⟩ = some (.int .i64 x2) ∧ W'.cell? ⟨g', o' + k * 5 + 3, none⟩ = some (.int .i64 y3) ∧ W'.cell? ⟨g', o' + k * 5 + 4, none⟩ = some (.int .i64 y4)) (go_keep) (fail)
          go_wp2
          go_ret
          exact ⟨retF HR hN.out, HF.out.drew⟩
        subst e3
        by_cases e4 : x4 = y4
        case neg =>
          have hN := hid (ne_at HXk.out HYk.out (fun e => e4 (congrArg De.o e)))
          have eb : (x4 == y4) = false := by simpa using e4
          go_wp2_with fail
          go_region_held3 (fun W' => W'.cell? ⟨g, o + k * 5, none⟩ = some (.int .i64 x0) ∧ W'.cell? ⟨g, o + k * 5 + 1, none⟩ = some (.int .i64 x1) ∧ W'.cell? ⟨g, o + k * 5 + 2, none⟩ = some (.int .i64 x2) ∧ W'.cell? ⟨g, o + k * 5 + 3, none⟩ = some (.int .i64 x3) ∧ W'.cell? ⟨g, o + k * 5 + 4, none⟩ = some (.int .i64 x4) ∧ W'.cell? ⟨g', o' + k * 5, none⟩ = some (.int .i64 x0) ∧ W'.cell? ⟨g', o' + k * 5 + 1, none⟩ = some (.int .i64 x1) ∧ W'.cell? ⟨g', o' + k * 5 + 2, none⟩ = some (.int .i64 x2) ∧ W'.cell? ⟨g', o' + k * 5 + 3, none⟩ = some (.int .i64 x3) ∧ W'.cell? ⟨g', o' + k * 5 + 4, none⟩ = some (.int .i64 y4)) (go_keep) (fail)
          go_wp2
          go_ret
          exact ⟨retF HR hN.out, HF.out.drew⟩
        subst e4
        go_wp2_with fail
        go_region_held3 (fun W' => W'.cell? ⟨g, o + k * 5, none⟩ = some (.int .i64 x0) ∧ W'.cell? ⟨g, o + k * 5 + 1, none⟩ = some (.int .i64 x1) ∧ W'.cell? ⟨g, o + k * 5 + 2, none⟩ = some (.int .i64 x2) ∧ W'.cell? ⟨g, o + k * 5 + 3, none⟩ = some (.int .i64 x3) ∧ W'.cell? ⟨g, o + k * 5 + 4, none⟩ = some (.int .i64 x4) ∧ W'.cell? ⟨g', o' + k * 5, none⟩ = some (.int .i64 x0) ∧ W'.cell? ⟨g', o' + k * 5 + 1, none⟩ = some (.int .i64 x1) ∧ W'.cell? ⟨g', o' + k * 5 + 2, none⟩ = some (.int .i64 x2) ∧ W'.cell? ⟨g', o' + k * 5 + 3, none⟩ = some (.int .i64 x3) ∧ W'.cell? ⟨g', o' + k * 5 + 4, none⟩ = some (.int .i64 x4)) (go_keep) (fail)
        go_wp2
        go_roundw
        case rel => exact ⟨k + 1, by omega, by go_num, hid (by rw [List.take_add_one, List.take_add_one, HXk.out, HYk.out, HE.out]), HF.out.drew⟩
        case measure => simp [intOf]; omega
      · obtain rfl : k = l := by omega
        have hE : xs = ys := by
          have := HE.out
          rwa [List.take_of_length_le (by rw [HX.out.1]; exact Nat.le_refl _), List.take_of_length_le (by rw [HY.out.1]; exact Nat.le_refl _)] at this
        have HF := hid hf
        have hE2 := hid hE
        clear hf hE
        go_wp2
        go_ret
        exact ⟨retT HR hE2.out, HF.out⟩
  · have hE2 := hid (show xs ≠ ys from fun e => hlm (by rw [← hx.1, ← hy.1, e]))
    have hne : ¬ (l : Int) = m := by omega
    clear hx hy
    go_enter Tryd.func38, Tryd.ntmps38
    go_wp2
    go_ret
    exact ⟨retF HR hE2.out, Fr.refl _ _⟩
end Go.Proofs.YtdepkpdolkipcaaDoor.RcB
