/- Contracts: a zone that is opened, closed, finished, reset, hurt, by the program. Condition: all numbers are 64 bits. -/
import Derived.Test.YtjmagbmdobiccaaZnB
namespace Go.Proofs.Ytjmagbmdobiccaa.ZnC
open Go.RowKit MSep MZnM ZnA ZnB

/-- The call has returned a zone and a number; what was there is as it was. -/
def RetZ (w w' : World) (e : Ending) (r : Zn × Int) : Prop := e = .returned (zr r) ∧ Fr No w w'
abbrev zz : Obj := .cells #[.int .i64 0, .int .i64 0, .int .i64 0, .int .i64 0, .int .i64 0, .int .i64 0] 23
theorem B0z (w : World) (n k s a l u : Int) : BZ ((w.alloc (bz n k s a l u)).alloc zz) w.heap.size n k s a l u := Blk.alloc (BZ.new w n k s a l u) _
theorem B1z (w : World) (n k s a l u : Int) : BZ ((w.alloc (bz n k s a l u)).alloc zz) (w.heap.size + 1) 0 0 0 0 0 0 := by
  have := Blk.new (w.alloc (bz n k s a l u)) 23 #[.int .i64 0, .int .i64 0, .int .i64 0, .int .i64 0, .int .i64 0, .int .i64 0]
  unfold BZ
  simpa using this
theorem FF2 (w : World) (A B : Obj) : Fr No w ((w.alloc A).alloc B) := ((Fr.refl No w).alloc A).alloc B

set_option maxRecDepth 100000 in
set_option maxHeartbeats 4000000 in
theorem open_ok (n k s a l u : Int) (w : World) : Calls Try.prog 23 #[.agg #[.int .i64 n, .int .i64 k, .int .i64 s, .int .i64 a, .int .i64 l, .int .i64 u]] w fun e w' => RetZ w w' e (opn ⟨n, k, s, a, l, u⟩) := by
  have HF := hid (FF2 w (bz n k s a l u) zz)
  have P0 := hid (B0z w n k s a l u)
  have P1 := hid (B1z w n k s a l u)
  have HR := hid (fun w => refused_ok n k s a l u w)
  by_cases hr : refd ⟨n, k, s, a, l, u⟩ ≠ 0
  · have e : opn ⟨n, k, s, a, l, u⟩ = (z0, refd ⟨n, k, s, a, l, u⟩) := by unfold opn; rw [if_pos hr]
    rw [e]
    clear e
    obtain ⟨x, hx⟩ : ∃ x, refd ⟨n, k, s, a, l, u⟩ = x := ⟨_, rfl⟩
    rw [hx] at hr HR ⊢
    clear hx
    have hb : (x != 0) = true := by simpa using hr
    clear hr
    go_enter Try.func23, Try.ntmps23
    go_wp2_with fail
    refine (HR.out _).mono ?_
    rintro e w1 ⟨rfl, f1⟩
    have HF := kf f1 HF
    have P0 := hid (P0.out.fr f1)
    have P1 := hid (P1.out.fr f1)
    clear f1
    go_wp2_with (first | (refine st_zone rfl (.tmp 2) (.tmp 9) rfl (w.heap.size + 1) rfl rfl (P1.out) ?_; intro W' hb hf; have HB := hid hb; have HF := kfg (by omega) (HF) hf; clear hb hf))
    exact bodyPost_ret (v := zr (⟨0, 0, 0, 0, 0, 0⟩, x)) (resZ rfl _ _ (w.heap.size + 1) (0) (0) (0) (0) (0) (0) (x) rfl rfl HB.out) rfl ⟨rfl, HF.out⟩
  have hr0 : refd ⟨n, k, s, a, l, u⟩ = 0 := by omega
  rw [hr0] at HR
  clear hr0
  by_cases h5 : s = 5
  · have e : opn ⟨n, k, s, a, l, u⟩ = (z0, 52) := by unfold opn; rw [if_neg hr, if_pos h5]
    rw [e]
    clear e hr
    subst h5
    go_enter Try.func23, Try.ntmps23
    go_wp2_with fail
    refine (HR.out _).mono ?_
    rintro e w1 ⟨rfl, f1⟩
    have HF := kf f1 HF
    have P0 := hid (P0.out.fr f1)
    have P1 := hid (P1.out.fr f1)
    clear f1
    obtain ⟨_, _, c2, _, _, c5⟩ := P0.out.cells
    go_wp2_with (first | (refine st_zone rfl (.tmp 2) (.tmp 14) rfl (w.heap.size + 1) rfl rfl (P1.out) ?_; intro W' hb hf; have HB := hid hb; have HF := kfg (by omega) (HF) hf; clear hb hf))
    exact bodyPost_ret (v := zr (⟨0, 0, 0, 0, 0, 0⟩, 52)) (resZ rfl _ _ (w.heap.size + 1) (0) (0) (0) (0) (0) (0) (52) rfl rfl HB.out) rfl ⟨rfl, HF.out⟩
  · have e : opn ⟨n, k, s, a, l, u⟩ = (⟨n, k, 3, a, l, u⟩, 0) := by unfold opn; rw [if_neg hr, if_neg h5]
    rw [e]
    clear e hr
    have h5' : (s == 5) = false := by simpa using h5
    go_enter Try.func23, Try.ntmps23
    go_wp2_with fail
    refine (HR.out _).mono ?_
    rintro e w1 ⟨rfl, f1⟩
    have HF := kf f1 HF
    have P0 := hid (P0.out.fr f1)
    have P1 := hid (P1.out.fr f1)
    clear f1
    obtain ⟨_, _, c2, _, _, c5⟩ := P0.out.cells
    obtain ⟨_, _, f2, _, _, _⟩ := P0.out.frozens
    have Q0 := hid (show BZ _ w.heap.size (n) (k) (3) (a) (l) (u) from (P0.out : Blk _ _ _ _).set_ 2 (.int .i64 (3)))
    go_wp2_with (first | (refine ld_zone rfl (.tmp 1) rfl w.heap.size rfl Q0.out ?_) | (refine st_zone rfl (.tmp 2) (.tmp 16) rfl (w.heap.size + 1) rfl rfl ((P1.out).far (p := ⟨w.heap.size, 2, none⟩) (by simp) (.int .i64 (3))) ?_; intro W' hb hf; have HB := hid hb; have HF := kfg (by omega) (kf1 (p := ⟨w.heap.size, 2, none⟩) (Nat.le_refl _) (HF)) hf; clear hb hf))
    exact bodyPost_ret (v := zr (⟨n, k, 3, a, l, u⟩, 0)) (resZ rfl _ _ (w.heap.size + 1) (n) (k) (3) (a) (l) (u) (0) rfl rfl HB.out) rfl ⟨rfl, HF.out⟩
set_option maxRecDepth 100000 in
set_option maxHeartbeats 4000000 in
theorem close_ok (n k s a l u : Int) (w : World) : Calls Try.prog 57 #[.agg #[.int .i64 n, .int .i64 k, .int .i64 s, .int .i64 a, .int .i64 l, .int .i64 u]] w fun e w' => RetZ w w' e (cls ⟨n, k, s, a, l, u⟩) := by
  have HF := hid (FF2 w (bz n k s a l u) zz)
  have P0 := hid (B0z w n k s a l u)
  have P1 := hid (B1z w n k s a l u)
  have HR := hid (fun w => refused_ok n k s a l u w)
  by_cases hr : refd ⟨n, k, s, a, l, u⟩ ≠ 0
  · have e : cls ⟨n, k, s, a, l, u⟩ = (z0, refd ⟨n, k, s, a, l, u⟩) := by unfold cls; rw [if_pos hr]
    rw [e]
    clear e
    obtain ⟨x, hx⟩ : ∃ x, refd ⟨n, k, s, a, l, u⟩ = x := ⟨_, rfl⟩
    rw [hx] at hr HR ⊢
    clear hx
    have hb : (x != 0) = true := by simpa using hr
    clear hr
    go_enter Try.func57, Try.ntmps57
    go_wp2_with fail
    refine (HR.out _).mono ?_
    rintro e w1 ⟨rfl, f1⟩
    have HF := kf f1 HF
    have P0 := hid (P0.out.fr f1)
    have P1 := hid (P1.out.fr f1)
    clear f1
    go_wp2_with (first | (refine st_zone rfl (.tmp 2) (.tmp 9) rfl (w.heap.size + 1) rfl rfl (P1.out) ?_; intro W' hb hf; have HB := hid hb; have HF := kfg (by omega) (HF) hf; clear hb hf))
    exact bodyPost_ret (v := zr (⟨0, 0, 0, 0, 0, 0⟩, x)) (resZ rfl _ _ (w.heap.size + 1) (0) (0) (0) (0) (0) (0) (x) rfl rfl HB.out) rfl ⟨rfl, HF.out⟩
  have hr0 : refd ⟨n, k, s, a, l, u⟩ = 0 := by omega
  rw [hr0] at HR
  clear hr0
  by_cases h2 : s = 2
  · by_cases u0 : u = 0
    · have e : cls ⟨n, k, s, a, l, u⟩ = (⟨n, k, 1, a, l, u⟩, 0) := by unfold cls; rw [if_neg hr, if_pos (by unfold openP; dsimp only; omega), if_pos u0]
      rw [e]
      clear e hr
      subst h2
      have u0' : (u == 0) = true := by simpa using u0
      clear u0
      go_enter Try.func57, Try.ntmps57
      go_wp2_with fail
      refine (HR.out _).mono ?_
      rintro e w1 ⟨rfl, f1⟩
      have HF := kf f1 HF
      have P0 := hid (P0.out.fr f1)
      have P1 := hid (P1.out.fr f1)
      clear f1
      obtain ⟨_, _, c2, _, _, c5⟩ := P0.out.cells
      obtain ⟨_, _, f2, _, _, _⟩ := P0.out.frozens
      have Q0 := hid (show BZ _ w.heap.size (n) (k) (1) (a) (l) (u) from ((P0.out : Blk _ _ _ _).set_ 2 (.int .i64 (4))).set_ 2 (.int .i64 (1)))
      go_wp2_with (first | (refine ld_zone rfl (.tmp 1) rfl w.heap.size rfl Q0.out ?_) | (refine st_zone rfl (.tmp 2) (.tmp 23) rfl (w.heap.size + 1) rfl rfl (((P1.out).far (p := ⟨w.heap.size, 2, none⟩) (by simp) (.int .i64 (4))).far (p := ⟨w.heap.size, 2, none⟩) (by simp) (.int .i64 (1))) ?_; intro W' hb hf; have HB := hid hb; have HF := kfg (by omega) (kf1 (p := ⟨w.heap.size, 2, none⟩) (Nat.le_refl _) (kf1 (p := ⟨w.heap.size, 2, none⟩) (Nat.le_refl _) (HF))) hf; clear hb hf))
      exact bodyPost_ret (v := zr (⟨n, k, 1, a, l, u⟩, 0)) (resZ rfl _ _ (w.heap.size + 1) (n) (k) (1) (a) (l) (u) (0) rfl rfl HB.out) rfl ⟨rfl, HF.out⟩
    · have e : cls ⟨n, k, s, a, l, u⟩ = (⟨n, k, 4, a, l, u⟩, 0) := by unfold cls; rw [if_neg hr, if_pos (by unfold openP; dsimp only; omega), if_neg u0]
      rw [e]
      clear e hr
      subst h2
      have u0' : (u == 0) = false := by simpa using u0
      go_enter Try.func57, Try.ntmps57
      go_wp2_with fail
      refine (HR.out _).mono ?_
      rintro e w1 ⟨rfl, f1⟩
      have HF := kf f1 HF
      have P0 := hid (P0.out.fr f1)
      have P1 := hid (P1.out.fr f1)
      clear f1
      obtain ⟨_, _, c2, _, _, c5⟩ := P0.out.cells
      obtain ⟨_, _, f2, _, _, _⟩ := P0.out.frozens
      have Q0 := hid (show BZ _ w.heap.size (n) (k) (4) (a) (l) (u) from (P0.out : Blk _ _ _ _).set_ 2 (.int .i64 (4)))
      go_wp2_with (first | (refine ld_zone rfl (.tmp 1) rfl w.heap.size rfl Q0.out ?_) | (refine st_zone rfl (.tmp 2) (.tmp 23) rfl (w.heap.size + 1) rfl rfl ((P1.out).far (p := ⟨w.heap.size, 2, none⟩) (by simp) (.int .i64 (4))) ?_; intro W' hb hf; have HB := hid hb; have HF := kfg (by omega) (kf1 (p := ⟨w.heap.size, 2, none⟩) (Nat.le_refl _) (HF)) hf; clear hb hf))
      exact bodyPost_ret (v := zr (⟨n, k, 4, a, l, u⟩, 0)) (resZ rfl _ _ (w.heap.size + 1) (n) (k) (4) (a) (l) (u) (0) rfl rfl HB.out) rfl ⟨rfl, HF.out⟩
  by_cases h3 : s = 3
  · by_cases u0 : u = 0
    · have e : cls ⟨n, k, s, a, l, u⟩ = (⟨n, k, 1, a, l, u⟩, 0) := by unfold cls; rw [if_neg hr, if_pos (by unfold openP; dsimp only; omega), if_pos u0]
      rw [e]
      clear e hr
      subst h3
      have u0' : (u == 0) = true := by simpa using u0
      clear u0
      go_enter Try.func57, Try.ntmps57
      go_wp2_with fail
      refine (HR.out _).mono ?_
      rintro e w1 ⟨rfl, f1⟩
      have HF := kf f1 HF
      have P0 := hid (P0.out.fr f1)
      have P1 := hid (P1.out.fr f1)
      clear f1
      obtain ⟨_, _, c2, _, _, c5⟩ := P0.out.cells
      obtain ⟨_, _, f2, _, _, _⟩ := P0.out.frozens
      have Q0 := hid (show BZ _ w.heap.size (n) (k) (1) (a) (l) (u) from ((P0.out : Blk _ _ _ _).set_ 2 (.int .i64 (4))).set_ 2 (.int .i64 (1)))
      go_wp2_with (first | (refine ld_zone rfl (.tmp 1) rfl w.heap.size rfl Q0.out ?_) | (refine st_zone rfl (.tmp 2) (.tmp 23) rfl (w.heap.size + 1) rfl rfl (((P1.out).far (p := ⟨w.heap.size, 2, none⟩) (by simp) (.int .i64 (4))).far (p := ⟨w.heap.size, 2, none⟩) (by simp) (.int .i64 (1))) ?_; intro W' hb hf; have HB := hid hb; have HF := kfg (by omega) (kf1 (p := ⟨w.heap.size, 2, none⟩) (Nat.le_refl _) (kf1 (p := ⟨w.heap.size, 2, none⟩) (Nat.le_refl _) (HF))) hf; clear hb hf))
      exact bodyPost_ret (v := zr (⟨n, k, 1, a, l, u⟩, 0)) (resZ rfl _ _ (w.heap.size + 1) (n) (k) (1) (a) (l) (u) (0) rfl rfl HB.out) rfl ⟨rfl, HF.out⟩
    · have e : cls ⟨n, k, s, a, l, u⟩ = (⟨n, k, 4, a, l, u⟩, 0) := by unfold cls; rw [if_neg hr, if_pos (by unfold openP; dsimp only; omega), if_neg u0]
      rw [e]
      clear e hr
      subst h3
      have u0' : (u == 0) = false := by simpa using u0
      go_enter Try.func57, Try.ntmps57
      go_wp2_with fail
      refine (HR.out _).mono ?_
      rintro e w1 ⟨rfl, f1⟩
      have HF := kf f1 HF
      have P0 := hid (P0.out.fr f1)
      have P1 := hid (P1.out.fr f1)
      clear f1
      obtain ⟨_, _, c2, _, _, c5⟩ := P0.out.cells
      obtain ⟨_, _, f2, _, _, _⟩ := P0.out.frozens
      have Q0 := hid (show BZ _ w.heap.size (n) (k) (4) (a) (l) (u) from (P0.out : Blk _ _ _ _).set_ 2 (.int .i64 (4)))
      go_wp2_with (first | (refine ld_zone rfl (.tmp 1) rfl w.heap.size rfl Q0.out ?_) | (refine st_zone rfl (.tmp 2) (.tmp 23) rfl (w.heap.size + 1) rfl rfl ((P1.out).far (p := ⟨w.heap.size, 2, none⟩) (by simp) (.int .i64 (4))) ?_; intro W' hb hf; have HB := hid hb; have HF := kfg (by omega) (kf1 (p := ⟨w.heap.size, 2, none⟩) (Nat.le_refl _) (HF)) hf; clear hb hf))
      exact bodyPost_ret (v := zr (⟨n, k, 4, a, l, u⟩, 0)) (resZ rfl _ _ (w.heap.size + 1) (n) (k) (4) (a) (l) (u) (0) rfl rfl HB.out) rfl ⟨rfl, HF.out⟩
  by_cases h4 : s = 4
  · have e : cls ⟨n, k, s, a, l, u⟩ = (⟨n, k, s, a, l, u⟩, 0) := by unfold cls; rw [if_neg hr, if_neg (by unfold openP; dsimp only; omega), if_pos h4]
    rw [e]
    clear e hr
    subst h4
    go_enter Try.func57, Try.ntmps57
    go_wp2_with fail
    refine (HR.out _).mono ?_
    rintro e w1 ⟨rfl, f1⟩
    have HF := kf f1 HF
    have P0 := hid (P0.out.fr f1)
    have P1 := hid (P1.out.fr f1)
    clear f1
    obtain ⟨_, _, c2, _, _, c5⟩ := P0.out.cells
    have Q0 := hid (show BZ _ w.heap.size (n) (k) (4) (a) (l) (u) from P0.out)
    go_wp2_with (first | (refine ld_zone rfl (.tmp 1) rfl w.heap.size rfl Q0.out ?_) | (refine st_zone rfl (.tmp 2) (.tmp 23) rfl (w.heap.size + 1) rfl rfl (P1.out) ?_; intro W' hb hf; have HB := hid hb; have HF := kfg (by omega) (HF) hf; clear hb hf))
    exact bodyPost_ret (v := zr (⟨n, k, 4, a, l, u⟩, 0)) (resZ rfl _ _ (w.heap.size + 1) (n) (k) (4) (a) (l) (u) (0) rfl rfl HB.out) rfl ⟨rfl, HF.out⟩
  · have e : cls ⟨n, k, s, a, l, u⟩ = (z0, 52) := by unfold cls; rw [if_neg hr, if_neg (by unfold openP; dsimp only; omega), if_neg h4]
    rw [e]
    clear e hr
    have h2' : (s == 2) = false := by simpa using h2
    have h3' : (s == 3) = false := by simpa using h3
    have h4' : (s == 4) = false := by simpa using h4
    go_enter Try.func57, Try.ntmps57
    go_wp2_with fail
    refine (HR.out _).mono ?_
    rintro e w1 ⟨rfl, f1⟩
    have HF := kf f1 HF
    have P0 := hid (P0.out.fr f1)
    have P1 := hid (P1.out.fr f1)
    clear f1
    obtain ⟨_, _, c2, _, _, c5⟩ := P0.out.cells
    go_wp2_with (first | (refine st_zone rfl (.tmp 2) (.tmp 24) rfl (w.heap.size + 1) rfl rfl (P1.out) ?_; intro W' hb hf; have HB := hid hb; have HF := kfg (by omega) (HF) hf; clear hb hf))
    exact bodyPost_ret (v := zr (⟨0, 0, 0, 0, 0, 0⟩, 52)) (resZ rfl _ _ (w.heap.size + 1) (0) (0) (0) (0) (0) (0) (52) rfl rfl HB.out) rfl ⟨rfl, HF.out⟩
set_option maxRecDepth 100000 in
set_option maxHeartbeats 4000000 in
theorem finish_ok (n k s a l u : Int) (w : World) : Calls Try.prog 58 #[.agg #[.int .i64 n, .int .i64 k, .int .i64 s, .int .i64 a, .int .i64 l, .int .i64 u]] w fun e w' => RetZ w w' e (fns ⟨n, k, s, a, l, u⟩) := by
  have HF := hid (FF2 w (bz n k s a l u) zz)
  have P0 := hid (B0z w n k s a l u)
  have P1 := hid (B1z w n k s a l u)
  have HR := hid (fun w => refused_ok n k s a l u w)
  by_cases hr : refd ⟨n, k, s, a, l, u⟩ ≠ 0
  · have e : fns ⟨n, k, s, a, l, u⟩ = (z0, refd ⟨n, k, s, a, l, u⟩) := by unfold fns; rw [if_pos hr]
    rw [e]
    clear e
    obtain ⟨x, hx⟩ : ∃ x, refd ⟨n, k, s, a, l, u⟩ = x := ⟨_, rfl⟩
    rw [hx] at hr HR ⊢
    clear hx
    have hb : (x != 0) = true := by simpa using hr
    clear hr
    go_enter Try.func58, Try.ntmps58
    go_wp2_with fail
    refine (HR.out _).mono ?_
    rintro e w1 ⟨rfl, f1⟩
    have HF := kf f1 HF
    have P0 := hid (P0.out.fr f1)
    have P1 := hid (P1.out.fr f1)
    clear f1
    go_wp2_with (first | (refine st_zone rfl (.tmp 2) (.tmp 9) rfl (w.heap.size + 1) rfl rfl (P1.out) ?_; intro W' hb hf; have HB := hid hb; have HF := kfg (by omega) (HF) hf; clear hb hf))
    exact bodyPost_ret (v := zr (⟨0, 0, 0, 0, 0, 0⟩, x)) (resZ rfl _ _ (w.heap.size + 1) (0) (0) (0) (0) (0) (0) (x) rfl rfl HB.out) rfl ⟨rfl, HF.out⟩
  have hr0 : refd ⟨n, k, s, a, l, u⟩ = 0 := by omega
  rw [hr0] at HR
  clear hr0
  · have e : fns ⟨n, k, s, a, l, u⟩ = (⟨n, k, 5, a, l, u⟩, 0) := by unfold fns; rw [if_neg hr]
    rw [e]
    clear e hr
    go_enter Try.func58, Try.ntmps58
    go_wp2_with fail
    refine (HR.out _).mono ?_
    rintro e w1 ⟨rfl, f1⟩
    have HF := kf f1 HF
    have P0 := hid (P0.out.fr f1)
    have P1 := hid (P1.out.fr f1)
    clear f1
    obtain ⟨_, _, c2, _, _, c5⟩ := P0.out.cells
    obtain ⟨_, _, f2, _, _, _⟩ := P0.out.frozens
    have Q0 := hid (show BZ _ w.heap.size (n) (k) (5) (a) (l) (u) from (P0.out : Blk _ _ _ _).set_ 2 (.int .i64 (5)))
    go_wp2_with (first | (refine ld_zone rfl (.tmp 1) rfl w.heap.size rfl Q0.out ?_) | (refine st_zone rfl (.tmp 2) (.tmp 12) rfl (w.heap.size + 1) rfl rfl ((P1.out).far (p := ⟨w.heap.size, 2, none⟩) (by simp) (.int .i64 (5))) ?_; intro W' hb hf; have HB := hid hb; have HF := kfg (by omega) (kf1 (p := ⟨w.heap.size, 2, none⟩) (Nat.le_refl _) (HF)) hf; clear hb hf))
    exact bodyPost_ret (v := zr (⟨n, k, 5, a, l, u⟩, 0)) (resZ rfl _ _ (w.heap.size + 1) (n) (k) (5) (a) (l) (u) (0) rfl rfl HB.out) rfl ⟨rfl, HF.out⟩
set_option maxRecDepth 100000 in
set_option maxHeartbeats 4000000 in
theorem reset_ok (n k s a l u : Int) (w : World) : Calls Try.prog 59 #[.agg #[.int .i64 n, .int .i64 k, .int .i64 s, .int .i64 a, .int .i64 l, .int .i64 u]] w fun e w' => RetZ w w' e (rst ⟨n, k, s, a, l, u⟩) := by
  have HF := hid (FF2 w (bz n k s a l u) zz)
  have P0 := hid (B0z w n k s a l u)
  have P1 := hid (B1z w n k s a l u)
  have HR := hid (fun w => refused_ok n k s a l u w)
  by_cases hr : refd ⟨n, k, s, a, l, u⟩ ≠ 0
  · have e : rst ⟨n, k, s, a, l, u⟩ = (z0, refd ⟨n, k, s, a, l, u⟩) := by unfold rst; rw [if_pos hr]
    rw [e]
    clear e
    obtain ⟨x, hx⟩ : ∃ x, refd ⟨n, k, s, a, l, u⟩ = x := ⟨_, rfl⟩
    rw [hx] at hr HR ⊢
    clear hx
    have hb : (x != 0) = true := by simpa using hr
    clear hr
    go_enter Try.func59, Try.ntmps59
    go_wp2_with fail
    refine (HR.out _).mono ?_
    rintro e w1 ⟨rfl, f1⟩
    have HF := kf f1 HF
    have P0 := hid (P0.out.fr f1)
    have P1 := hid (P1.out.fr f1)
    clear f1
    go_wp2_with (first | (refine st_zone rfl (.tmp 2) (.tmp 9) rfl (w.heap.size + 1) rfl rfl (P1.out) ?_; intro W' hb hf; have HB := hid hb; have HF := kfg (by omega) (HF) hf; clear hb hf))
    exact bodyPost_ret (v := zr (⟨0, 0, 0, 0, 0, 0⟩, x)) (resZ rfl _ _ (w.heap.size + 1) (0) (0) (0) (0) (0) (0) (x) rfl rfl HB.out) rfl ⟨rfl, HF.out⟩
  have hr0 : refd ⟨n, k, s, a, l, u⟩ = 0 := by omega
  rw [hr0] at HR
  clear hr0
  · have e : rst ⟨n, k, s, a, l, u⟩ = (⟨n, k, 1, a, l, 0⟩, 0) := by unfold rst; rw [if_neg hr]
    rw [e]
    clear e hr
    go_enter Try.func59, Try.ntmps59
    go_wp2_with fail
    refine (HR.out _).mono ?_
    rintro e w1 ⟨rfl, f1⟩
    have HF := kf f1 HF
    have P0 := hid (P0.out.fr f1)
    have P1 := hid (P1.out.fr f1)
    clear f1
    obtain ⟨_, _, c2, _, _, c5⟩ := P0.out.cells
    obtain ⟨_, _, f2, _, _, f5⟩ := P0.out.frozens
    have Q0 := hid (show BZ _ w.heap.size (n) (k) (1) (a) (l) (0) from ((P0.out : Blk _ _ _ _).set_ 2 (.int .i64 (1))).set_ 5 (.int .i64 (0)))
    go_wp2_with (first | (refine ld_zone rfl (.tmp 1) rfl w.heap.size rfl Q0.out ?_) | (refine st_zone rfl (.tmp 2) (.tmp 13) rfl (w.heap.size + 1) rfl rfl (((P1.out).far (p := ⟨w.heap.size, 2, none⟩) (by simp) (.int .i64 (1))).far (p := ⟨w.heap.size, 5, none⟩) (by simp) (.int .i64 (0))) ?_; intro W' hb hf; have HB := hid hb; have HF := kfg (by omega) (kf1 (p := ⟨w.heap.size, 5, none⟩) (Nat.le_refl _) (kf1 (p := ⟨w.heap.size, 2, none⟩) (Nat.le_refl _) (HF))) hf; clear hb hf))
    exact bodyPost_ret (v := zr (⟨n, k, 1, a, l, 0⟩, 0)) (resZ rfl _ _ (w.heap.size + 1) (n) (k) (1) (a) (l) (0) (0) rfl rfl HB.out) rfl ⟨rfl, HF.out⟩
end Go.Proofs.Ytjmagbmdobiccaa.ZnC
