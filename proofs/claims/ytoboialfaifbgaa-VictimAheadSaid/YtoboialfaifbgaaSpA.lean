/- Contracts of the plain calls on spans: which may be, where one ends, what two have in common. Condition: both numbers are 64 bits. -/
import Derived.Test.YtoboialfaifbgaaChecked
import Derived.Test.YtoboialfaifbgaaSpM
import Derived.Test.YtoboialfaifbgaaSep
import Derived.WalkLawsBesides
import Derived.Deep.RegionHeld3
namespace Go.Proofs.Ytoboialfaifbgaa.SpA
open Go.RowKit MSep MSpM

/-- Both numbers of a span are 64 bits. -/
def wf (s : Sp) : Prop := (-9223372036854775808 ≤ s.1 ∧ s.1 ≤ 9223372036854775807) ∧ (-9223372036854775808 ≤ s.2 ∧ s.2 ≤ 9223372036854775807)
theorem wf_may {s : Sp} (h : may s) : wf s := by unfold may at h; unfold wf; omega
theorem w64 (n : Int) (h : -9223372036854775808 ≤ n ∧ n ≤ 9223372036854775807) : wrap64 n = n := by unfold wrap64; omega

theorem may_no {a n : Int} (h : ¬ (0 ≤ a ∧ 0 ≤ n)) : decide (may (a, n)) = false := by
  refine decide_eq_false fun k => h ?_
  unfold may at k
  simp only [] at k
  omega
theorem may_yes {a n : Int} (h1 : 0 ≤ a) (h2 : 0 ≤ n) : decide (may (a, n)) = decide (n ≤ 1099511627776 - a) := by
  unfold may
  simp only [h1, h2, true_and]
  exact decide_eq_decide.2 (by omega)
set_option maxRecDepth 100000 in
theorem may_ok (a n : Int) (w : World) (h : wf (a, n)) : Calls Try.prog 99 #[.agg #[.int .i64 a, .int .i64 n]] w fun e w' => e = .returned (.bool (decide (may (a, n)))) ∧ Fr No w w' := by
  unfold wf at h
  simp only [] at h
  have HF := hid ((Fr.refl No w).alloc (.cells #[.int .i64 a, .int .i64 n] 68))
  by_cases h1 : 0 ≤ a
  · by_cases h2 : 0 ≤ n
    · have h3 : wrap64 (1099511627776 - a) = 1099511627776 - a := w64 _ (by omega)
      rw [may_yes h1 h2]
      go_enter Try.func99, Try.ntmps99
      go_wp2
      all_goals (go_ret; exact ⟨by simp_all, HF.out⟩)
    · rw [may_no (by omega)]
      go_enter Try.func99, Try.ntmps99
      go_wp2
      all_goals (go_ret; exact ⟨by simp_all, HF.out⟩)
  · rw [may_no (by omega)]
    go_enter Try.func99, Try.ntmps99
    go_wp2
    all_goals (go_ret; exact ⟨by simp_all, HF.out⟩)
theorem rmay_no {a n : Int} (h : ¬ (0 ≤ a ∧ a ≤ 1099511627776 ∧ 0 ≤ n)) : decide (may (a, n)) = false := by
  refine decide_eq_false fun k => h ?_
  unfold may at k
  simp only [] at k
  omega
set_option maxRecDepth 100000 in
theorem rmay_ok (a n : Int) (w : World) (h : wf (a, n)) : Calls Try.prog 90 #[.agg #[.int .i64 a, .int .i64 n]] w fun e w' => e = .returned (.bool (decide (may (a, n)))) ∧ Fr No w w' := by
  unfold wf at h
  simp only [] at h
  have HF := hid ((Fr.refl No w).alloc (.cells #[.int .i64 a, .int .i64 n] 68))
  by_cases h1 : 0 ≤ a ∧ a ≤ 1099511627776 ∧ 0 ≤ n
  · have h3 : wrap64 (1099511627776 - a) = 1099511627776 - a := w64 _ (by omega)
    obtain ⟨h1, h2, h4⟩ := h1
    rw [may_yes h1 h4]
    go_enter Try.func90, Try.ntmps90
    go_wp2
    all_goals (go_ret; exact ⟨by simp_all, HF.out⟩)
  · rw [rmay_no h1]
    go_enter Try.func90, Try.ntmps90
    go_wp2
    all_goals (go_ret; exact ⟨by first | rfl | (simp_all; done) | (simp_all; omega), HF.out⟩)

theorem kf {a b c : World} (k : Fr No b c) (h : Hid (Fr No a b)) : Hid (Fr No a c) := hid (h.out.trans k)
theorem kb {b c : World} {g : Nat} {t : TypeId} {cs : Array Value} (k : Fr No b c) (h : Hid (Blk b g t cs)) : Hid (Blk c g t cs) := hid (h.out.fr k (fun h => h))
theorem kc {b c : World} {p : Addr} {v : Value} (k : Fr No b c) (h : b.cell? p = some v) : c.cell? p = some v := k.cell_some h (fun h => h)
theorem kd {a b : World} (h : Hid (Fr No a b)) : Hid (Fr No a b.drew) := hid h.out.drew
theorem kfa {a b : World} {o : Obj} (h : Hid (Fr No a b)) : Hid (Fr No a (b.alloc o)) := hid (h.out.alloc o)
theorem ks {W : World} {p : Addr} {v x y : Value} {g : Nat} (hn : p.block ≠ g) (h : W.cell? p = some v) : ((W.setCell ⟨g, 0, none⟩ x).setCell ⟨g, 1, none⟩ y).cell? p = some v :=
  (Fr.cell_some (S := fun q => q = g) ((Fr.set1 W g 0 x).setCell (p := ⟨g, 1, none⟩) (fun _ => rfl) y) h hn)
theorem kfs {w W : World} {g : Nat} {x y : Value} (hg : w.heap.size ≤ g) (h : Hid (Fr No w W)) : Hid (Fr No w ((W.setCell ⟨g, 0, none⟩ x).setCell ⟨g, 1, none⟩ y)) :=
  hid ((h.out.setCell (fun h => absurd h (Nat.not_lt.2 hg)) x).setCell (fun h => absurd h (Nat.not_lt.2 hg)) y)
theorem kbe {b c : World} {g : Nat} {t : TypeId} (k : Fr No b c) (h : Hid (∃ x y, Blk b g t #[x, y])) : Hid (∃ x y, Blk c g t #[x, y]) := by
  obtain ⟨x, y, h⟩ := h.out
  exact hid ⟨x, y, h.fr k (fun h => h)⟩
theorem kbs {b : World} {g : Nat} {t : TypeId} {x' y' : Value} (h : Hid (∃ x y, Blk b g t #[x, y])) : Hid (∃ x y, Blk ((b.setCell ⟨g, 0, none⟩ x').setCell ⟨g, 1, none⟩ y') g t #[x, y]) := by
  obtain ⟨x, y, h⟩ := h.out
  exact hid ⟨x', y', (h.set_ 0 x').set_ 1 y'⟩
theorem kbx {b : World} {g : Nat} {t : TypeId} (h : Hid (∃ x y, Blk b g t #[x, y])) (x' y' : Value) : Blk ((b.setCell ⟨g, 0, none⟩ x').setCell ⟨g, 1, none⟩ y') g t #[x', y'] := by
  obtain ⟨x, y, h⟩ := h.out
  exact (h.set_ 0 x').set_ 1 y'
theorem kbf {b : World} {g : Nat} {t : TypeId} (h : Hid (∃ x y, Blk b g t #[x, y])) : (∃ x, b.cell? ⟨g, 0, none⟩ = some x) ∧ (∃ y, b.cell? ⟨g, 1, none⟩ = some y) ∧ b.frozen? ⟨g, 0, none⟩ = false ∧ b.frozen? ⟨g, 1, none⟩ = false := by
  obtain ⟨x, y, h⟩ := h.out
  exact ⟨⟨x, h.cell 0⟩, ⟨y, h.cell 1⟩, h.frozen 0, h.frozen 1⟩
theorem retb {b R : Bool} (h : b = R) : Ending.returned (.bool b) = Ending.returned (.bool R) := by rw [h]
theorem reti {a b : Int} (h : a = b) : Ending.returned (.int .i64 a) = Ending.returned (.int .i64 b) := by rw [h]
theorem retF {p : Prop} [Decidable p] {R : Bool} (h : Hid (decide p = R)) (n : ¬ p) : Ending.returned (.bool false) = Ending.returned (.bool R) := retb ((decide_eq_false n).symm.trans h.out)
theorem retT {p : Prop} [Decidable p] {R : Bool} (h : Hid (decide p = R)) (n : p) : Ending.returned (.bool true) = Ending.returned (.bool R) := retb ((decide_eq_true n).symm.trans h.out)
/-- The cell of a result that is a span. -/
theorem res23 {fn : Func} {p : Tmp} (h : fn.results = #[.cell p 68]) (tmps : Array Value) (w : World) (g : Nat) (x y : Int) (hp : tmps.getD p undef = .pointer (some ⟨g, 0, none⟩)) (hg : Blk w g 68 #[.int .i64 x, .int .i64 y]) :
    (results fn tmps).run Try.prog w = .ok (.agg #[.int .i64 x, .int .i64 y]) w :=
  results_cell_row h tmps w g 68 _ (0, 0) _ hp hg Try.underlying68 rfl (by kernel_rfl)
set_option maxRecDepth 100000 in
theorem between_ok (a b : Int) (w : World) (h : -9223372036854775808 ≤ b - a ∧ b - a ≤ 9223372036854775807) : Calls Try.prog 119 #[.int .i64 a, .int .i64 b] w fun e w' => e = .returned (.agg #[.int .i64 a, .int .i64 (b - a)]) ∧ Fr No w w' := by
  have h3 : wrap64 (b - a) = b - a := w64 _ h
  have HB := hid (Blk.new w 68 #[.int .i64 a, .int .i64 (b - a)])
  have HF := hid ((Fr.refl No w).alloc (.cells #[.int .i64 a, .int .i64 (b - a)] 68))
  clear h
  go_enter Try.func119, Try.ntmps119
  go_wp2
  exact bodyPost_ret (v := .agg #[.int .i64 a, .int .i64 (b - a)]) (res23 rfl _ _ w.heap.size a (b - a) rfl HB.out) rfl ⟨rfl, HF.out⟩
theorem fin_may {a n : Int} (h : may (a, n)) : fin (a, n) = a + n := by unfold fin; rw [if_pos h]
theorem fin_no {a n : Int} (h : ¬ may (a, n)) : fin (a, n) = 0 := by unfold fin; rw [if_neg h]
theorem fin_range (s : Sp) : 0 ≤ fin s ∧ fin s ≤ 1099511627776 := by
  unfold fin
  split
  · rename_i h
    unfold may at h
    omega
  · omega
set_option maxRecDepth 100000 in
theorem end_ok (a n : Int) (w : World) (h : wf (a, n)) : Calls Try.prog 101 #[.agg #[.int .i64 a, .int .i64 n]] w fun e w' => e = .returned (.int .i64 (fin (a, n))) ∧ Fr No w w' := by
  have HM := hid (may_ok a n (w.alloc (.cells #[.int .i64 a, .int .i64 n] 68)) h)
  have HF := hid ((Fr.refl No w).alloc (.cells #[.int .i64 a, .int .i64 n] 68))
  have B0 := hid (Blk.new w 68 #[.int .i64 a, .int .i64 n])
  clear h
  by_cases hm : may (a, n)
  · rw [decide_eq_true hm] at HM
    rw [fin_may hm]
    have h3 : wrap64 (a + n) = a + n := w64 _ (by unfold may at hm; simp only [] at hm; omega)
    clear hm
    go_enter Try.func101, Try.ntmps101
    go_wp2_with fail
    refine HM.out.mono ?_
    rintro e w1 ⟨rfl, f1⟩
    have c0 := (B0.out.fr f1 (fun h => h)).cell 0
    have c1 := (B0.out.fr f1 (fun h => h)).cell 1
    simp only [List.getElem?_toArray, List.getElem?_cons_zero, List.getElem?_cons_succ] at c0 c1
    have F1 := hid (HF.out.trans f1)
    clear f1
    go_wp2
    go_ret
    exact ⟨by simp [h3], F1.out⟩
  · rw [decide_eq_false hm] at HM
    rw [fin_no hm]
    clear hm
    go_enter Try.func101, Try.ntmps101
    go_wp2_with fail
    refine HM.out.mono ?_
    rintro e w1 ⟨rfl, f1⟩
    have F1 := hid (HF.out.trans f1)
    clear f1
    go_wp2
    go_ret
    exact ⟨rfl, F1.out⟩
end Go.Proofs.Ytoboialfaifbgaa.SpA
