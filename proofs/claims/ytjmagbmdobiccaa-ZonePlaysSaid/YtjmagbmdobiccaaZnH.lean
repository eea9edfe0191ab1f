/- Contracts: what must come of every program; one call by its kind, by the program and by the document. Condition: all numbers are 64 bits. -/
import Derived.Test.YtjmagbmdobiccaaZnE
import Derived.Test.YtjmagbmdobiccaaZnF
import Derived.Test.YtjmagbmdobiccaaZnG
namespace Go.Proofs.Ytjmagbmdobiccaa.ZnH
open Go.RowKit MSep MZnM ZnA ZnB ZnR ZnC ZnD ZnE ZnF ZnG

theorem kd {a b : World} (h : Hid (Fr No a b)) : Hid (Fr No a b.drew) := hid h.out.drew
theorem kfa {a b : World} {o : Obj} (h : Hid (Fr No a b)) : Hid (Fr No a (b.alloc o)) := hid (h.out.alloc o)
theorem fr1 (w : World) (A : Obj) : Fr No w (w.alloc A) := (Fr.refl No w).alloc A
theorem RetZ.ex {w w' : World} {e : Ending} {n k s a l u x : Int} (h : RetZ w w' e (⟨n, k, s, a, l, u⟩, x)) : e = .returned (.tuple #[.agg #[.int .i64 n, .int .i64 k, .int .i64 s, .int .i64 a, .int .i64 l, .int .i64 u], .int .i64 x]) ∧ Fr No w w' := h
theorem RetZ.mk {w w' : World} {e : Ending} {r : Zn × Int} (h : RetZ w w' e r) {n k s a l u x : Int} (hr : r = (⟨n, k, s, a, l, u⟩, x)) : e = .returned (.tuple #[.agg #[.int .i64 n, .int .i64 k, .int .i64 s, .int .i64 a, .int .i64 l, .int .i64 u], .int .i64 x]) ∧ Fr No w w' := by
  subst hr
  exact h
theorem mayA : mayP ⟨3, 2, 1, 48, 16, 0⟩ := by unfold mayP goesP seqP; dsimp only; omega
theorem mayB : mayP ⟨3, 2, 2, 48, 16, 4⟩ := by unfold mayP goesP seqP; dsimp only; omega
theorem mayC : mayP ⟨3, 2, 5, 48, 16, 4⟩ := by unfold mayP goesP seqP; dsimp only; omega
theorem e1 : nw 3 2 48 16 = (⟨3, 2, 1, 48, 16, 0⟩, 0) := by unfold nw; rw [if_pos rfl, if_pos mayA]
theorem e2 : wrt ⟨3, 2, 1, 48, 16, 0⟩ 48 4 = (⟨3, 2, 2, 48, 16, 4⟩, 0) := by
  unfold wrt
  rw [if_neg (fun h => h.elim (fun h => h mayA) (by omega)), if_neg (by unfold hurtP; dsimp only; omega), if_neg (by unfold inP; dsimp only; omega), if_neg (by dsimp only; omega), if_neg (by dsimp only; omega)]
  rfl
theorem e3 : wrt ⟨3, 2, 2, 48, 16, 4⟩ 48 1 = (z0, 50) := by
  unfold wrt
  rw [if_neg (fun h => h.elim (fun h => h mayB) (by omega)), if_neg (by unfold hurtP; dsimp only; omega), if_neg (by unfold inP; dsimp only; omega), if_neg (by dsimp only; omega), if_pos (by dsimp only; omega)]
theorem e4 : fns ⟨3, 2, 2, 48, 16, 4⟩ = (⟨3, 2, 5, 48, 16, 4⟩, 0) := by
  have r0 : refd ⟨3, 2, 2, 48, 16, 4⟩ = 0 := by unfold refd; rw [if_neg (fun h => h mayB), if_neg (by dsimp only; omega), if_neg (by unfold hurtP; dsimp only; omega)]
  unfold fns
  rw [r0]
  rfl
theorem e5 : red ⟨3, 2, 5, 48, 16, 4⟩ 50 2 = 0 := by
  unfold red
  rw [if_neg (fun h => h.elim (fun h => h mayC) (by omega)), if_neg (by dsimp only; omega), if_neg (by unfold inP; dsimp only; omega), if_neg (by dsimp only; omega)]
theorem e6 : lft ⟨3, 2, 2, 48, 16, 4⟩ = 12 := by
  unfold lft
  rw [if_neg (fun h => h.elim (fun h => h mayB) (by unfold hurtP; dsimp only; omega))]
  rfl
theorem e7 : ptr ⟨3, 2, 2, 48, 16, 4⟩ = 52 := by unfold ptr; rw [e6]; rfl
theorem BZn (w : World) (n k s a l u : Int) {B : Nat} (h : w.heap.size = B) : BZ (w.alloc (bz n k s a l u)) B n k s a l u := by subst h; exact BZ.new w n k s a l u

set_option maxRecDepth 100000 in
set_option maxHeartbeats 8000000 in
theorem lives_ok (w : World) : Calls Try.prog 17 #[] w fun e w' => e = .returned (.bool true) ∧ Fr No w w' := by
  have H1 := hid (fun w => (new_ok 3 2 48 16 w).mono (fun e w' h => RetZ.mk h e1))
  have H2 := hid (fun w => (write_ok 3 2 1 48 16 0 48 4 w).mono (fun e w' h => RetZ.mk h e2))
  have H3 := hid (fun w => (write_ok 3 2 2 48 16 4 48 1 w).mono (fun e w' h => RetZ.mk h e3))
  have H4 := hid (fun w => (finish_ok 3 2 2 48 16 4 w).mono (fun e w' h => RetZ.mk h e4))
  have H5 := hid (fun w => read_ok 3 2 5 48 16 4 50 2 w)
  rw [e5] at H5
  have H6 := hid (fun w => left_ok 3 2 2 48 16 4 w)
  rw [e6] at H6
  have H7 := hid (fun w => pointer_ok 3 2 2 48 16 4 w)
  rw [e7] at H7
  have H8 := hid (fun w => isOpen_ok 3 2 2 48 16 4 w)
  rw [decide_eq_true (show openP 2 from .inl rfl)] at H8
  have H9 := hid (fun w => may_ok 3 2 2 48 16 4 w)
  rw [decide_eq_true mayB] at H9
  go_enter Try.func17, Try.ntmps17
  go_wp2_with fail
  refine (H1.out _).mono ?_
  rintro e w1 ⟨rfl, f1⟩
  have HF := hid (f1.alloc (bz 3 2 1 48 16 0))
  have PA := hid (BZ.new w1 3 2 1 48 16 0)
  clear f1 H1
  go_wp2_with fail
  refine (H2.out _).mono ?_
  rintro e w2 ⟨rfl, f1⟩
  have HF := hid ((HF.out.trans f1).alloc (bz 3 2 2 48 16 4))
  have PB := hid (BZ.new w2 3 2 2 48 16 4)
  clear f1 H2 PA
  go_wp2_with fail
  refine (H3.out _).mono ?_
  rintro e w3 ⟨rfl, f1⟩
  have HF := hid ((HF.out.trans f1).alloc (bz 0 0 0 0 0 0))
  have PB := hid ((PB.out.fr f1).fr ((Fr.refl No w3).alloc (bz 0 0 0 0 0 0)))
  clear f1 H3
  obtain ⟨b0, b1, b2, b3, b4, b5⟩ := PB.out.cells
  go_wp2_with fail
  refine (H4.out _).mono ?_
  rintro e w4 ⟨rfl, f1⟩
  have HF := hid ((HF.out.trans f1).alloc (bz 3 2 5 48 16 4))
  have PB := hid ((PB.out.fr f1).fr ((Fr.refl No w4).alloc (bz 3 2 5 48 16 4)))
  have PC := hid (BZ.new w4 3 2 5 48 16 4)
  clear f1 H4 b0 b1 b2 b3 b4 b5
  obtain ⟨b0, b1, b2, b3, b4, b5⟩ := PB.out.cells
  obtain ⟨c0, c1, c2, c3, c4, c5⟩ := PC.out.cells
  go_wp2_with fail
  refine (H5.out _).mono ?_
  rintro e w5 ⟨rfl, f1⟩
  have HF := kf f1 HF
  have PB := hid (PB.out.fr f1)
  clear f1 b0 b1 b2 b3 b4 b5
  obtain ⟨b0, b1, b2, b3, b4, b5⟩ := PB.out.cells
  go_wp2_with fail
  refine (H6.out _).mono ?_
  rintro e w5 ⟨rfl, f1⟩
  have HF := kf f1 HF
  have PB := hid (PB.out.fr f1)
  clear f1 b0 b1 b2 b3 b4 b5
  obtain ⟨b0, b1, b2, b3, b4, b5⟩ := PB.out.cells
  go_wp2_with fail
  refine (H7.out _).mono ?_
  rintro e w5 ⟨rfl, f1⟩
  have HF := kf f1 HF
  have PB := hid (PB.out.fr f1)
  clear f1 b0 b1 b2 b3 b4 b5
  obtain ⟨b0, b1, b2, b3, b4, b5⟩ := PB.out.cells
  go_wp2_with fail
  refine (H8.out _).mono ?_
  rintro e w5 ⟨rfl, f1⟩
  have HF := kf f1 HF
  have PB := hid (PB.out.fr f1)
  clear f1 b0 b1 b2 b3 b4 b5
  obtain ⟨b0, b1, b2, b3, b4, b5⟩ := PB.out.cells
  go_wp2_with fail
  refine (H9.out _).mono ?_
  rintro e w5 ⟨rfl, f1⟩
  have HF := kf f1 HF
  have PB := hid (PB.out.fr f1)
  clear f1 b0 b1 b2 b3 b4 b5
  obtain ⟨b0, b1, b2, b3, b4, b5⟩ := PB.out.cells
  go_wp2_with fail
  refine ((hid name5_ok).out _).mono ?_
  rintro e w5 ⟨rfl, f1⟩
  have HF := kf f1 HF
  have PB := hid (PB.out.fr f1)
  clear f1 b0 b1 b2 b3 b4 b5
  obtain ⟨b0, b1, b2, b3, b4, b5⟩ := PB.out.cells
  go_wp2_with fail
  go_ret
  exact ⟨rfl, HF.out⟩
abbrev bo (j x m : Int) : Obj := .cells #[.int .i64 j, .int .i64 x, .int .i64 m] 25
theorem D0 (w : World) (n k s a l u : Int) (A B : Obj) : BZ (((w.alloc (bz n k s a l u)).alloc A).alloc B) w.heap.size n k s a l u := Blk.alloc (Blk.alloc (BZ.new w n k s a l u) _) _
theorem D2 (w : World) (A B : Obj) : BZ (((w.alloc A).alloc B).alloc zz) (w.heap.size + 1 + 1) 0 0 0 0 0 0 := by
  have := BZ.new ((w.alloc A).alloc B) 0 0 0 0 0 0
  simpa using this
theorem FF3 (w : World) (A B C : Obj) : Fr No w (((w.alloc A).alloc B).alloc C) := (FF2 w A B).alloc C

set_option maxRecDepth 100000 in
set_option maxHeartbeats 4000000 in
theorem do_ok (n k s a l u j x m : Int) (w : World) : Calls Try.prog 15 #[.agg #[.int .i64 n, .int .i64 k, .int .i64 s, .int .i64 a, .int .i64 l, .int .i64 u], .agg #[.int .i64 j, .int .i64 x, .int .i64 m]] w fun e w' => RetZ w w' e (dos ⟨n, k, s, a, l, u⟩ j x m) := by
  have HF := hid (FF3 w (bz n k s a l u) (bo j x m) zz)
  have P0 := hid (D0 w n k s a l u (bo j x m) zz)
  have P1 := hid (D2 w (bz n k s a l u) (bo j x m))
  by_cases j1 : j = 1
  · skip
    have e : dos ⟨n, k, s, a, l, u⟩ j x m = opn ⟨n, k, s, a, l, u⟩ := by unfold dos; rw [if_pos j1]
    rw [e]
    clear e
    have HC := hid (fun w => open_ok n k s a l u w)
    obtain ⟨⟨⟨n', k', s', a', l', u'⟩, y⟩, hr⟩ : ∃ r, opn ⟨n, k, s, a, l, u⟩ = r := ⟨_, rfl⟩
    rw [hr] at HC ⊢
    clear hr
    subst j1
    go_enter Try.func15, Try.ntmps15
    go_wp2_with fail
    refine (HC.out _).mono ?_
    rintro e w1 h1
    obtain ⟨rfl, f1⟩ := RetZ.ex h1
    have HF := kf f1 HF
    have P1 := hid (P1.out.fr f1)
    clear f1 h1
    go_wp2_with ((with_reducible refine st_zone rfl (.tmp 4) (.tmp 12) rfl (w.heap.size + 1 + 1) ?_ (n' := n') (k' := k') (s' := s') (a' := a') (l' := l') (u' := u') ?_ P1.out ?_); (· rfl); (· rfl); intro W' hb hf; have HB := hid hb; have HF := kfg (by omega) HF hf; clear hb hf)
    exact bodyPost_ret (v := zr (⟨n', k', s', a', l', u'⟩, y)) (resZ rfl _ _ (w.heap.size + 1 + 1) n' k' s' a' l' u' y rfl rfl HB.out) rfl ⟨rfl, HF.out⟩
  by_cases j2 : j = 2
  · skip
    have e : dos ⟨n, k, s, a, l, u⟩ j x m = cls ⟨n, k, s, a, l, u⟩ := by unfold dos; rw [if_neg j1, if_pos j2]
    rw [e]
    clear e
    have HC := hid (fun w => close_ok n k s a l u w)
    obtain ⟨⟨⟨n', k', s', a', l', u'⟩, y⟩, hr⟩ : ∃ r, cls ⟨n, k, s, a, l, u⟩ = r := ⟨_, rfl⟩
    rw [hr] at HC ⊢
    clear hr
    subst j2
    go_enter Try.func15, Try.ntmps15
    go_wp2_with fail
    refine (HC.out _).mono ?_
    rintro e w1 h1
    obtain ⟨rfl, f1⟩ := RetZ.ex h1
    have HF := kf f1 HF
    have P1 := hid (P1.out.fr f1)
    clear f1 h1
    go_wp2_with ((with_reducible refine st_zone rfl (.tmp 4) (.tmp 18) rfl (w.heap.size + 1 + 1) ?_ (n' := n') (k' := k') (s' := s') (a' := a') (l' := l') (u' := u') ?_ P1.out ?_); (· rfl); (· rfl); intro W' hb hf; have HB := hid hb; have HF := kfg (by omega) HF hf; clear hb hf)
    exact bodyPost_ret (v := zr (⟨n', k', s', a', l', u'⟩, y)) (resZ rfl _ _ (w.heap.size + 1 + 1) n' k' s' a' l' u' y rfl rfl HB.out) rfl ⟨rfl, HF.out⟩
  by_cases j3 : j = 3
  · skip
    have e : dos ⟨n, k, s, a, l, u⟩ j x m = fns ⟨n, k, s, a, l, u⟩ := by unfold dos; rw [if_neg j1, if_neg j2, if_pos j3]
    rw [e]
    clear e
    have HC := hid (fun w => finish_ok n k s a l u w)
    obtain ⟨⟨⟨n', k', s', a', l', u'⟩, y⟩, hr⟩ : ∃ r, fns ⟨n, k, s, a, l, u⟩ = r := ⟨_, rfl⟩
    rw [hr] at HC ⊢
    clear hr
    subst j3
    go_enter Try.func15, Try.ntmps15
    go_wp2_with fail
    refine (HC.out _).mono ?_
    rintro e w1 h1
    obtain ⟨rfl, f1⟩ := RetZ.ex h1
    have HF := kf f1 HF
    have P1 := hid (P1.out.fr f1)
    clear f1 h1
    go_wp2_with ((with_reducible refine st_zone rfl (.tmp 4) (.tmp 24) rfl (w.heap.size + 1 + 1) ?_ (n' := n') (k' := k') (s' := s') (a' := a') (l' := l') (u' := u') ?_ P1.out ?_); (· rfl); (· rfl); intro W' hb hf; have HB := hid hb; have HF := kfg (by omega) HF hf; clear hb hf)
    exact bodyPost_ret (v := zr (⟨n', k', s', a', l', u'⟩, y)) (resZ rfl _ _ (w.heap.size + 1 + 1) n' k' s' a' l' u' y rfl rfl HB.out) rfl ⟨rfl, HF.out⟩
  by_cases j4 : j = 4
  · skip
    have e : dos ⟨n, k, s, a, l, u⟩ j x m = rst ⟨n, k, s, a, l, u⟩ := by unfold dos; rw [if_neg j1, if_neg j2, if_neg j3, if_pos j4]
    rw [e]
    clear e
    have HC := hid (fun w => reset_ok n k s a l u w)
    obtain ⟨⟨⟨n', k', s', a', l', u'⟩, y⟩, hr⟩ : ∃ r, rst ⟨n, k, s, a, l, u⟩ = r := ⟨_, rfl⟩
    rw [hr] at HC ⊢
    clear hr
    subst j4
    go_enter Try.func15, Try.ntmps15
    go_wp2_with fail
    refine (HC.out _).mono ?_
    rintro e w1 h1
    obtain ⟨rfl, f1⟩ := RetZ.ex h1
    have HF := kf f1 HF
    have P1 := hid (P1.out.fr f1)
    clear f1 h1
    go_wp2_with ((with_reducible refine st_zone rfl (.tmp 4) (.tmp 30) rfl (w.heap.size + 1 + 1) ?_ (n' := n') (k' := k') (s' := s') (a' := a') (l' := l') (u' := u') ?_ P1.out ?_); (· rfl); (· rfl); intro W' hb hf; have HB := hid hb; have HF := kfg (by omega) HF hf; clear hb hf)
    exact bodyPost_ret (v := zr (⟨n', k', s', a', l', u'⟩, y)) (resZ rfl _ _ (w.heap.size + 1 + 1) n' k' s' a' l' u' y rfl rfl HB.out) rfl ⟨rfl, HF.out⟩
  by_cases j5 : j = 5
  · skip
    have e : dos ⟨n, k, s, a, l, u⟩ j x m = wrt ⟨n, k, s, a, l, u⟩ x m := by unfold dos; rw [if_neg j1, if_neg j2, if_neg j3, if_neg j4, if_pos j5]
    rw [e]
    clear e
    have HC := hid (fun w => write_ok n k s a l u x m w)
    obtain ⟨⟨⟨n', k', s', a', l', u'⟩, y⟩, hr⟩ : ∃ r, wrt ⟨n, k, s, a, l, u⟩ x m = r := ⟨_, rfl⟩
    rw [hr] at HC ⊢
    clear hr
    subst j5
    go_enter Try.func15, Try.ntmps15
    go_wp2_with fail
    refine (HC.out _).mono ?_
    rintro e w1 h1
    obtain ⟨rfl, f1⟩ := RetZ.ex h1
    have HF := kf f1 HF
    have P1 := hid (P1.out.fr f1)
    clear f1 h1
    go_wp2_with ((with_reducible refine st_zone rfl (.tmp 4) (.tmp 40) rfl (w.heap.size + 1 + 1) ?_ (n' := n') (k' := k') (s' := s') (a' := a') (l' := l') (u' := u') ?_ P1.out ?_); (· rfl); (· rfl); intro W' hb hf; have HB := hid hb; have HF := kfg (by omega) HF hf; clear hb hf)
    exact bodyPost_ret (v := zr (⟨n', k', s', a', l', u'⟩, y)) (resZ rfl _ _ (w.heap.size + 1 + 1) n' k' s' a' l' u' y rfl rfl HB.out) rfl ⟨rfl, HF.out⟩
  have e : dos ⟨n, k, s, a, l, u⟩ j x m = hrt ⟨n, k, s, a, l, u⟩ m := by unfold dos; rw [if_neg j1, if_neg j2, if_neg j3, if_neg j4, if_neg j5]
  rw [e]
  clear e
  have HC := hid (fun w => hurt_ok n k s a l u m w)
  obtain ⟨⟨⟨n', k', s', a', l', u'⟩, y⟩, hr⟩ : ∃ r, hrt ⟨n, k, s, a, l, u⟩ m = r := ⟨_, rfl⟩
  rw [hr] at HC ⊢
  clear hr
  have j1' : (j == 1) = false := by simpa using j1
  have j2' : (j == 2) = false := by simpa using j2
  have j3' : (j == 3) = false := by simpa using j3
  have j4' : (j == 4) = false := by simpa using j4
  have j5' : (j == 5) = false := by simpa using j5
  clear j1 j2 j3 j4 j5
  go_enter Try.func15, Try.ntmps15
  go_wp2_with fail
  refine (HC.out _).mono ?_
  rintro e w1 h1
  obtain ⟨rfl, f1⟩ := RetZ.ex h1
  have HF := kf f1 HF
  have P1 := hid (P1.out.fr f1)
  clear f1 h1
  go_wp2_with ((with_reducible refine st_zone rfl (.tmp 4) (.tmp 46) rfl (w.heap.size + 1 + 1) ?_ (n' := n') (k' := k') (s' := s') (a' := a') (l' := l') (u' := u') ?_ P1.out ?_); (· rfl); (· rfl); intro W' hb hf; have HB := hid hb; have HF := kfg (by omega) HF hf; clear hb hf)
  exact bodyPost_ret (v := zr (⟨n', k', s', a', l', u'⟩, y)) (resZ rfl _ _ (w.heap.size + 1 + 1) n' k' s' a' l' u' y rfl rfl HB.out) rfl ⟨rfl, HF.out⟩
set_option maxRecDepth 100000 in
set_option maxHeartbeats 4000000 in
theorem rdo_ok (n k s a l u j x m : Int) (w : World) : Calls Try.prog 16 #[.agg #[.int .i64 n, .int .i64 k, .int .i64 s, .int .i64 a, .int .i64 l, .int .i64 u], .agg #[.int .i64 j, .int .i64 x, .int .i64 m]] w fun e w' => RetZ w w' e (dos ⟨n, k, s, a, l, u⟩ j x m) := by
  have HF := hid (FF3 w (bz n k s a l u) (bo j x m) zz)
  have P0 := hid (D0 w n k s a l u (bo j x m) zz)
  have P1 := hid (D2 w (bz n k s a l u) (bo j x m))
  by_cases j1 : j = 1
  · skip
    have e : dos ⟨n, k, s, a, l, u⟩ j x m = opn ⟨n, k, s, a, l, u⟩ := by unfold dos; rw [if_pos j1]
    rw [e]
    clear e
    have HC := hid (fun w => rdo1_ok n k s a l u w)
    obtain ⟨⟨⟨n', k', s', a', l', u'⟩, y⟩, hr⟩ : ∃ r, opn ⟨n, k, s, a, l, u⟩ = r := ⟨_, rfl⟩
    rw [hr] at HC ⊢
    clear hr
    subst j1
    go_enter Try.func16, Try.ntmps16
    go_wp2_with fail
    refine (HC.out _).mono ?_
    rintro e w1 h1
    obtain ⟨rfl, f1⟩ := RetZ.ex h1
    have HF := kf f1 HF
    have P1 := hid (P1.out.fr f1)
    clear f1 h1
    go_wp2_with ((with_reducible refine st_zone rfl (.tmp 4) (.tmp 17) rfl (w.heap.size + 1 + 1) ?_ (n' := n') (k' := k') (s' := s') (a' := a') (l' := l') (u' := u') ?_ P1.out ?_); (· rfl); (· rfl); intro W' hb hf; have HB := hid hb; have HF := kfg (by omega) HF hf; clear hb hf)
    exact bodyPost_ret (v := zr (⟨n', k', s', a', l', u'⟩, y)) (resZ rfl _ _ (w.heap.size + 1 + 1) n' k' s' a' l' u' y rfl rfl HB.out) rfl ⟨rfl, HF.out⟩
  by_cases j2 : j = 2
  · skip
    have e : dos ⟨n, k, s, a, l, u⟩ j x m = cls ⟨n, k, s, a, l, u⟩ := by unfold dos; rw [if_neg j1, if_pos j2]
    rw [e]
    clear e
    have HC := hid (fun w => rdo2_ok n k s a l u w)
    obtain ⟨⟨⟨n', k', s', a', l', u'⟩, y⟩, hr⟩ : ∃ r, cls ⟨n, k, s, a, l, u⟩ = r := ⟨_, rfl⟩
    rw [hr] at HC ⊢
    clear hr
    subst j2
    go_enter Try.func16, Try.ntmps16
    go_wp2_with fail
    refine (HC.out _).mono ?_
    rintro e w1 h1
    obtain ⟨rfl, f1⟩ := RetZ.ex h1
    have HF := kf f1 HF
    have P1 := hid (P1.out.fr f1)
    clear f1 h1
    go_wp2_with ((with_reducible refine st_zone rfl (.tmp 4) (.tmp 17) rfl (w.heap.size + 1 + 1) ?_ (n' := n') (k' := k') (s' := s') (a' := a') (l' := l') (u' := u') ?_ P1.out ?_); (· rfl); (· rfl); intro W' hb hf; have HB := hid hb; have HF := kfg (by omega) HF hf; clear hb hf)
    exact bodyPost_ret (v := zr (⟨n', k', s', a', l', u'⟩, y)) (resZ rfl _ _ (w.heap.size + 1 + 1) n' k' s' a' l' u' y rfl rfl HB.out) rfl ⟨rfl, HF.out⟩
  by_cases j3 : j = 3
  · skip
    have e : dos ⟨n, k, s, a, l, u⟩ j x m = fns ⟨n, k, s, a, l, u⟩ := by unfold dos; rw [if_neg j1, if_neg j2, if_pos j3]
    rw [e]
    clear e
    have HC := hid (fun w => rdo3_ok n k s a l u w)
    obtain ⟨⟨⟨n', k', s', a', l', u'⟩, y⟩, hr⟩ : ∃ r, fns ⟨n, k, s, a, l, u⟩ = r := ⟨_, rfl⟩
    rw [hr] at HC ⊢
    clear hr
    subst j3
    go_enter Try.func16, Try.ntmps16
    go_wp2_with fail
    refine (HC.out _).mono ?_
    rintro e w1 h1
    obtain ⟨rfl, f1⟩ := RetZ.ex h1
    have HF := kf f1 HF
    have P1 := hid (P1.out.fr f1)
    clear f1 h1
    go_wp2_with ((with_reducible refine st_zone rfl (.tmp 4) (.tmp 17) rfl (w.heap.size + 1 + 1) ?_ (n' := n') (k' := k') (s' := s') (a' := a') (l' := l') (u' := u') ?_ P1.out ?_); (· rfl); (· rfl); intro W' hb hf; have HB := hid hb; have HF := kfg (by omega) HF hf; clear hb hf)
    exact bodyPost_ret (v := zr (⟨n', k', s', a', l', u'⟩, y)) (resZ rfl _ _ (w.heap.size + 1 + 1) n' k' s' a' l' u' y rfl rfl HB.out) rfl ⟨rfl, HF.out⟩
  by_cases j4 : j = 4
  · skip
    have e : dos ⟨n, k, s, a, l, u⟩ j x m = rst ⟨n, k, s, a, l, u⟩ := by unfold dos; rw [if_neg j1, if_neg j2, if_neg j3, if_pos j4]
    rw [e]
    clear e
    have HC := hid (fun w => rdo4_ok n k s a l u w)
    obtain ⟨⟨⟨n', k', s', a', l', u'⟩, y⟩, hr⟩ : ∃ r, rst ⟨n, k, s, a, l, u⟩ = r := ⟨_, rfl⟩
    rw [hr] at HC ⊢
    clear hr
    subst j4
    go_enter Try.func16, Try.ntmps16
    go_wp2_with fail
    refine (HC.out _).mono ?_
    rintro e w1 h1
    obtain ⟨rfl, f1⟩ := RetZ.ex h1
    have HF := kf f1 HF
    have P1 := hid (P1.out.fr f1)
    clear f1 h1
    go_wp2_with ((with_reducible refine st_zone rfl (.tmp 4) (.tmp 17) rfl (w.heap.size + 1 + 1) ?_ (n' := n') (k' := k') (s' := s') (a' := a') (l' := l') (u' := u') ?_ P1.out ?_); (· rfl); (· rfl); intro W' hb hf; have HB := hid hb; have HF := kfg (by omega) HF hf; clear hb hf)
    exact bodyPost_ret (v := zr (⟨n', k', s', a', l', u'⟩, y)) (resZ rfl _ _ (w.heap.size + 1 + 1) n' k' s' a' l' u' y rfl rfl HB.out) rfl ⟨rfl, HF.out⟩
  by_cases j5 : j = 5
  · skip
    have e : dos ⟨n, k, s, a, l, u⟩ j x m = wrt ⟨n, k, s, a, l, u⟩ x m := by unfold dos; rw [if_neg j1, if_neg j2, if_neg j3, if_neg j4, if_pos j5]
    rw [e]
    clear e
    have HC := hid (fun w => rwrite_ok n k s a l u x m w)
    obtain ⟨⟨⟨n', k', s', a', l', u'⟩, y⟩, hr⟩ : ∃ r, wrt ⟨n, k, s, a, l, u⟩ x m = r := ⟨_, rfl⟩
    rw [hr] at HC ⊢
    clear hr
    subst j5
    go_enter Try.func16, Try.ntmps16
    go_wp2_with fail
    refine (HC.out _).mono ?_
    rintro e w1 h1
    obtain ⟨rfl, f1⟩ := RetZ.ex h1
    have HF := kf f1 HF
    have P1 := hid (P1.out.fr f1)
    clear f1 h1
    go_wp2_with ((with_reducible refine st_zone rfl (.tmp 4) (.tmp 27) rfl (w.heap.size + 1 + 1) ?_ (n' := n') (k' := k') (s' := s') (a' := a') (l' := l') (u' := u') ?_ P1.out ?_); (· rfl); (· rfl); intro W' hb hf; have HB := hid hb; have HF := kfg (by omega) HF hf; clear hb hf)
    exact bodyPost_ret (v := zr (⟨n', k', s', a', l', u'⟩, y)) (resZ rfl _ _ (w.heap.size + 1 + 1) n' k' s' a' l' u' y rfl rfl HB.out) rfl ⟨rfl, HF.out⟩
  have e : dos ⟨n, k, s, a, l, u⟩ j x m = hrt ⟨n, k, s, a, l, u⟩ m := by unfold dos; rw [if_neg j1, if_neg j2, if_neg j3, if_neg j4, if_neg j5]
  rw [e]
  clear e
  have HC := hid (fun w => rhurt_ok n k s a l u m w)
  obtain ⟨⟨⟨n', k', s', a', l', u'⟩, y⟩, hr⟩ : ∃ r, hrt ⟨n, k, s, a, l, u⟩ m = r := ⟨_, rfl⟩
  rw [hr] at HC ⊢
  clear hr
  have j1' : (j == 1) = false := by simpa using j1
  have j2' : (j == 2) = false := by simpa using j2
  have j3' : (j == 3) = false := by simpa using j3
  have j4' : (j == 4) = false := by simpa using j4
  have j5' : (j == 5) = false := by simpa using j5
  clear j1 j2 j3 j4 j5
  go_enter Try.func16, Try.ntmps16
  go_wp2_with fail
  refine (HC.out _).mono ?_
  rintro e w1 h1
  obtain ⟨rfl, f1⟩ := RetZ.ex h1
  have HF := kf f1 HF
  have P1 := hid (P1.out.fr f1)
  clear f1 h1
  go_wp2_with ((with_reducible refine st_zone rfl (.tmp 4) (.tmp 33) rfl (w.heap.size + 1 + 1) ?_ (n' := n') (k' := k') (s' := s') (a' := a') (l' := l') (u' := u') ?_ P1.out ?_); (· rfl); (· rfl); intro W' hb hf; have HB := hid hb; have HF := kfg (by omega) HF hf; clear hb hf)
  exact bodyPost_ret (v := zr (⟨n', k', s', a', l', u'⟩, y)) (resZ rfl _ _ (w.heap.size + 1 + 1) n' k' s' a' l' u' y rfl rfl HB.out) rfl ⟨rfl, HF.out⟩
end Go.Proofs.Ytjmagbmdobiccaa.ZnH
