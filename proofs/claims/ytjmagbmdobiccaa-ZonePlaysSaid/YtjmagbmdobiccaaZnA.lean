/- Contracts: which zones may be, by the program and by the document; what a result that is a zone and a number reads as. Condition: all numbers are 64 bits. -/
import Derived.Test.YtjmagbmdobiccaaChecked
import Derived.Test.YtjmagbmdobiccaaZnM
import Derived.Test.YtjmagbmdobiccaaSep
import Derived.WalkLawsBesides
import Derived.Deep.RegionHeld3
import Derived.Deep.QuietTactic
import Derived.BigQuiet
namespace Go.Proofs.Ytjmagbmdobiccaa.ZnA
open Go.RowKit MSep MZnM

theorem w64 (n : Int) (h : -9223372036854775808 ≤ n ∧ n ≤ 9223372036854775807) : wrap64 n = n := by unfold wrap64; omega
theorem retb {b R : Bool} (h : b = R) : Ending.returned (.bool b) = Ending.returned (.bool R) := by rw [h]
theorem reti {a b : Int} (h : a = b) : Ending.returned (.int .i64 a) = Ending.returned (.int .i64 b) := by rw [h]

theorem within_ok (x lo hi : Int) (w : World) : Calls Try.prog 66 #[.int .i64 x, .int .i64 lo, .int .i64 hi] w fun e w' => e = .returned (.bool (decide (lo ≤ x ∧ x ≤ hi))) ∧ w = w' := by
  by_cases h1 : lo ≤ x
  · go_enter Try.func66, Try.ntmps66
    go_wp2
    all_goals (go_ret; exact ⟨by first | rfl | (simp_all; done) | (simp_all; omega), rfl⟩)
  · go_enter Try.func66, Try.ntmps66
    go_wp2
    all_goals (go_ret; exact ⟨by first | rfl | (simp_all; done) | (simp_all; omega), rfl⟩)

/-- The world behind one box of a zone. -/
abbrev bz (n k s a l u : Int) : Obj := .cells #[.int .i64 n, .int .i64 k, .int .i64 s, .int .i64 a, .int .i64 l, .int .i64 u] 23
theorem isHurt_ok (n k s a l u : Int) (w : World) : Calls Try.prog 71 #[.agg #[.int .i64 n, .int .i64 k, .int .i64 s, .int .i64 a, .int .i64 l, .int .i64 u]] w fun e w' => e = .returned (.bool (decide (hurtP s))) ∧ Fr No w w' := by
  have HF := hid ((Fr.refl No w).alloc (bz n k s a l u))
  by_cases h1 : s = 6
  · rw [decide_eq_true (show hurtP s from .inl h1)]
    subst h1
    go_enter Try.func71, Try.ntmps71
    go_wp2
    all_goals (go_ret; exact ⟨rfl, HF.out⟩)
  · by_cases h2 : s = 7
    · rw [decide_eq_true (show hurtP s from .inr h2)]
      subst h2
      go_enter Try.func71, Try.ntmps71
      go_wp2
      all_goals (go_ret; exact ⟨rfl, HF.out⟩)
    · rw [decide_eq_false (show ¬ hurtP s by unfold hurtP; omega)]
      go_enter Try.func71, Try.ntmps71
      go_wp2
      all_goals (go_ret; exact ⟨by first | rfl | (simp_all; done), HF.out⟩)
theorem frd {W w w' : World} (h : Fr No W w) (k : ∃ n, w' = w.drewN n) : Fr No W w' := h.trans (Fr.of_drewN k)
set_option maxHeartbeats 1000000 in
theorem goesSeq_ok (n k s a l u : Int) (w : World) (h0 : 1 ≤ l) (h1 : l ≤ 4096) : Calls Try.prog 111 #[.agg #[.int .i64 n, .int .i64 k, .int .i64 s, .int .i64 a, .int .i64 l, .int .i64 u]] w fun e w' => e = .returned (.bool (decide (seqP s l u))) ∧ Fr No w w' := by
  have HF := hid ((Fr.refl No w).alloc (bz n k s a l u))
  by_cases hs : 1 ≤ s ∧ s ≤ 7
  · obtain ⟨hs1, hs2⟩ := hs
    have hd : s = 1 ∨ s = 2 ∨ s = 3 ∨ s = 4 ∨ s = 5 ∨ s = 6 ∨ s = 7 := by omega
    clear hs1 hs2
    rcases hd with rfl | rfl | rfl | rfl | rfl | rfl | rfl
    all_goals
      go_enter Try.func111, Try.ntmps111
      go_wp2_with fail
      go_quiet (fail)
      go_wp2_with fail
      refine (within_ok _ _ _ _).mono ?_
      rintro e w1 ⟨rfl, rfl⟩
      go_wp2
      go_ret
      exact ⟨retb (by rw [← Bool.decide_and]; exact decide_eq_decide.2 (by unfold seqP; omega)), by first | exact HF.out.drew | exact HF.out.drewN _⟩
  · rw [decide_eq_false (show ¬ seqP s l u by unfold seqP; omega)]
    have n1 : ¬ s = 1 := by omega
    have n2 : ¬ s = 2 := by omega
    have n3 : ¬ s = 3 := by omega
    have n4 : ¬ s = 4 := by omega
    have n5 : ¬ s = 5 := by omega
    have n6 : ¬ s = 6 := by omega
    have n7 : ¬ s = 7 := by omega
    clear hs
    go_enter Try.func111, Try.ntmps111
    go_wp2_with fail
    go_quiet (fail)
    go_wp2_with fail
    go_ret
    exact ⟨rfl, by first | exact HF.out.drew | exact HF.out.drewN _⟩
theorem kf {a b c : World} (k : Fr No b c) (h : Hid (Fr No a b)) : Hid (Fr No a c) := hid (h.out.trans k)
theorem kc {b c : World} {p : Addr} {v : Value} (k : Fr No b c) (h : b.cell? p = some v) : c.cell? p = some v := k.cell_some h (fun h => h)
/-- Block g holds a zone. -/
def BZ (w : World) (g : Nat) (n k s a l u : Int) : Prop := Blk w g 23 #[.int .i64 n, .int .i64 k, .int .i64 s, .int .i64 a, .int .i64 l, .int .i64 u]
theorem BZ.new (w : World) (n k s a l u : Int) : BZ (w.alloc (bz n k s a l u)) w.heap.size n k s a l u := Blk.new w _ _
theorem BZ.fr {w w' : World} {g : Nat} {n k s a l u : Int} (h : BZ w g n k s a l u) (f : Fr No w w') : BZ w' g n k s a l u := Blk.fr h f (fun h => h)
theorem BZ.cells {w : World} {g : Nat} {n k s a l u : Int} (h : BZ w g n k s a l u) : w.cell? ⟨g, 0, none⟩ = some (.int .i64 n) ∧ w.cell? ⟨g, 1, none⟩ = some (.int .i64 k) ∧ w.cell? ⟨g, 2, none⟩ = some (.int .i64 s) ∧ w.cell? ⟨g, 3, none⟩ = some (.int .i64 a) ∧ w.cell? ⟨g, 4, none⟩ = some (.int .i64 l) ∧ w.cell? ⟨g, 5, none⟩ = some (.int .i64 u) :=
  ⟨Blk.cell h 0, Blk.cell h 1, Blk.cell h 2, Blk.cell h 3, Blk.cell h 4, Blk.cell h 5⟩
theorem BZ.put {w : World} {g : Nat} {n k s a l u : Int} (h : BZ w g n k s a l u) (n' k' s' a' l' u' : Int) :
    BZ ((((((w.setCell ⟨g, 0, none⟩ (.int .i64 n')).setCell ⟨g, 1, none⟩ (.int .i64 k')).setCell ⟨g, 2, none⟩ (.int .i64 s')).setCell ⟨g, 3, none⟩ (.int .i64 a')).setCell ⟨g, 4, none⟩ (.int .i64 l')).setCell ⟨g, 5, none⟩ (.int .i64 u')) g n' k' s' a' l' u' :=
  (((((Blk.set_ h 0 _).set_ 1 _).set_ 2 _).set_ 3 _).set_ 4 _).set_ 5 _
theorem BZ.far {w : World} {g : Nat} {n k s a l u : Int} (h : BZ w g n k s a l u) {p : Addr} (hp : g ≠ p.block) (v : Value) : BZ (w.setCell p v) g n k s a l u := Blk.far h hp v
theorem BZ.frozens {w : World} {g : Nat} {n k s a l u : Int} (h : BZ w g n k s a l u) : w.frozen? ⟨g, 0, none⟩ = false ∧ w.frozen? ⟨g, 1, none⟩ = false ∧ w.frozen? ⟨g, 2, none⟩ = false ∧ w.frozen? ⟨g, 3, none⟩ = false ∧ w.frozen? ⟨g, 4, none⟩ = false ∧ w.frozen? ⟨g, 5, none⟩ = false :=
  ⟨Blk.frozen h 0, Blk.frozen h 1, Blk.frozen h 2, Blk.frozen h 3, Blk.frozen h 4, Blk.frozen h 5⟩
theorem goes_no {k s l u : Int} (h : ¬ (k = 1 ∨ k = 2)) : decide (goesP k s l u) = false := decide_eq_false (by unfold goesP; omega)
set_option maxHeartbeats 1000000 in
theorem goes_ok (n k s a l u : Int) (w : World) (h0 : 1 ≤ l) (h1 : l ≤ 4096) : Calls Try.prog 67 #[.agg #[.int .i64 n, .int .i64 k, .int .i64 s, .int .i64 a, .int .i64 l, .int .i64 u]] w fun e w' => e = .returned (.bool (decide (goesP k s l u))) ∧ Fr No w w' := by
  have HF := hid ((Fr.refl No w).alloc (bz n k s a l u))
  have HS := hid (goesSeq_ok n k s a l u (w.alloc (bz n k s a l u)) h0 h1)
  have HH := hid (isHurt_ok n k s a l u (w.alloc (bz n k s a l u)))
  clear h0 h1
  by_cases k1 : k = 1
  · subst k1
    by_cases u0 : u = 0
    · subst u0
      by_cases s0 : s = 0
      · subst s0
        rw [decide_eq_true (show goesP 1 0 l 0 from .inl ⟨rfl, rfl, .inl rfl⟩)]
        clear HS HH
        go_enter Try.func67, Try.ntmps67
        go_wp2_with fail
        go_ret
        exact ⟨rfl, HF.out⟩
      · have e : decide (goesP 1 s l 0) = decide (hurtP s) := decide_eq_decide.2 (by unfold goesP hurtP; omega)
        rw [e]
        have s0' : (s == 0) = false := by simpa using s0
        clear HS e
        go_enter Try.func67, Try.ntmps67
        go_wp2_with fail
        refine HH.out.mono ?_
        rintro e w1 ⟨rfl, f1⟩
        have HF := kf f1 HF
        clear f1
        go_wp2_with fail
        go_ret
        exact ⟨rfl, HF.out⟩
    · rw [decide_eq_false (show ¬ goesP 1 s l u by unfold goesP; omega)]
      have u0' : (u == 0) = false := by simpa using u0
      clear HS HH
      go_enter Try.func67, Try.ntmps67
      go_wp2_with fail
      go_ret
      exact ⟨rfl, HF.out⟩
  · by_cases k2 : k = 2
    · subst k2
      have e : decide (goesP 2 s l u) = decide (seqP s l u) := decide_eq_decide.2 (by unfold goesP seqP; omega)
      rw [e]
      clear e HH k1
      go_enter Try.func67, Try.ntmps67
      go_wp2_with fail
      refine HS.out.mono ?_
      rintro e w1 ⟨rfl, f1⟩
      have HF := kf f1 HF
      clear f1
      go_wp2_with fail
      go_ret
      exact ⟨rfl, HF.out⟩
    · rw [goes_no (by omega)]
      clear HS HH
      go_enter Try.func67, Try.ntmps67
      go_wp2_with fail
      go_ret
      exact ⟨rfl, HF.out⟩

set_option maxHeartbeats 1000000 in
theorem may_ok (n k s a l u : Int) (w : World) : Calls Try.prog 18 #[.agg #[.int .i64 n, .int .i64 k, .int .i64 s, .int .i64 a, .int .i64 l, .int .i64 u]] w fun e w' => e = .returned (.bool (decide (mayP ⟨n, k, s, a, l, u⟩))) ∧ Fr No w w' := by
  have HF := hid ((Fr.refl No w).alloc (bz n k s a l u))
  by_cases c1 : 0 ≤ n ∧ n ≤ 255
  · have d1 := decide_eq_true c1
    by_cases c2 : 1 ≤ l ∧ l ≤ 4096
    · have d2 := decide_eq_true c2
      by_cases c3 : 0 ≤ a ∧ a ≤ 1048576
      · have d3 := decide_eq_true c3
        have HG := hid (goes_ok n k s a l u (w.alloc (bz n k s a l u)) c2.1 c2.2)
        have e : decide (mayP ⟨n, k, s, a, l, u⟩) = decide (goesP k s l u) := decide_eq_decide.2 ⟨fun h => h.2.2.2, fun h => ⟨c1, c2, c3, h⟩⟩
        rw [e]
        have H1 := hid (within_ok n 0 255 (w.alloc (bz n k s a l u)))
        have H2 := hid (within_ok l 1 4096 (w.alloc (bz n k s a l u)))
        have H3 := hid (within_ok a 0 1048576 (w.alloc (bz n k s a l u)))
        rw [d1] at H1
        rw [d2] at H2
        rw [d3] at H3
        clear c1 c2 c3 d1 d2 d3 e
        go_enter Try.func18, Try.ntmps18
        go_wp2_with fail
        refine H1.out.mono ?_
        rintro e w1 ⟨rfl, rfl⟩
        go_wp2_with fail
        refine H2.out.mono ?_
        rintro e w1 ⟨rfl, rfl⟩
        go_wp2_with fail
        refine H3.out.mono ?_
        rintro e w1 ⟨rfl, rfl⟩
        go_wp2_with fail
        refine HG.out.mono ?_
        rintro e w1 ⟨rfl, f1⟩
        have HF := kf f1 HF
        clear f1
        go_wp2_with fail
        go_ret
        exact ⟨rfl, HF.out⟩
      · rw [decide_eq_false (show ¬ mayP ⟨n, k, s, a, l, u⟩ from fun h => c3 h.2.2.1)]
        have d3 := decide_eq_false c3
        have H1 := hid (within_ok n 0 255 (w.alloc (bz n k s a l u)))
        have H2 := hid (within_ok l 1 4096 (w.alloc (bz n k s a l u)))
        have H3 := hid (within_ok a 0 1048576 (w.alloc (bz n k s a l u)))
        rw [d1] at H1
        rw [d2] at H2
        rw [d3] at H3
        clear c1 c2 c3 d1 d2 d3
        go_enter Try.func18, Try.ntmps18
        go_wp2_with fail
        refine H1.out.mono ?_
        rintro e w1 ⟨rfl, rfl⟩
        go_wp2_with fail
        refine H2.out.mono ?_
        rintro e w1 ⟨rfl, rfl⟩
        go_wp2_with fail
        refine H3.out.mono ?_
        rintro e w1 ⟨rfl, rfl⟩
        go_wp2_with fail
        go_ret
        exact ⟨rfl, HF.out⟩
    · rw [decide_eq_false (show ¬ mayP ⟨n, k, s, a, l, u⟩ from fun h => c2 h.2.1)]
      have d2 := decide_eq_false c2
      have H1 := hid (within_ok n 0 255 (w.alloc (bz n k s a l u)))
      have H2 := hid (within_ok l 1 4096 (w.alloc (bz n k s a l u)))
      rw [d1] at H1
      rw [d2] at H2
      clear c1 c2 d1 d2
      go_enter Try.func18, Try.ntmps18
      go_wp2_with fail
      refine H1.out.mono ?_
      rintro e w1 ⟨rfl, rfl⟩
      go_wp2_with fail
      refine H2.out.mono ?_
      rintro e w1 ⟨rfl, rfl⟩
      go_wp2_with fail
      go_ret
      exact ⟨rfl, HF.out⟩
  · rw [decide_eq_false (show ¬ mayP ⟨n, k, s, a, l, u⟩ from fun h => c1 h.1)]
    have d1 := decide_eq_false c1
    have H1 := hid (within_ok n 0 255 (w.alloc (bz n k s a l u)))
    rw [d1] at H1
    clear c1 d1
    go_enter Try.func18, Try.ntmps18
    go_wp2_with fail
    refine H1.out.mono ?_
    rintro e w1 ⟨rfl, rfl⟩
    go_wp2_with fail
    go_ret
    exact ⟨rfl, HF.out⟩
end Go.Proofs.Ytjmagbmdobiccaa.ZnA
