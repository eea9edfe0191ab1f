/- Contracts: a zone that is opened, closed, finished, reset, by the document; a new zone, by the program. Condition: all numbers are 64 bits. -/
import Derived.Test.YtjmagbmdobiccaaZnD
import Derived.Test.YtjmagbmdobiccaaZnR
namespace Go.Proofs.Ytjmagbmdobiccaa.ZnG
open Go.RowKit MSep MZnM ZnA ZnB ZnR ZnC ZnD

set_option maxRecDepth 100000 in
set_option maxHeartbeats 4000000 in
theorem rdo1_ok (n k s a l u : Int) (w : World) : Calls Try.prog 61 #[.int .i64 1, .agg #[.int .i64 n, .int .i64 k, .int .i64 s, .int .i64 a, .int .i64 l, .int .i64 u]] w fun e w' => RetZ w w' e (opn ⟨n, k, s, a, l, u⟩) := by
  have HF := hid (FF2 w (bz n k s a l u) zz)
  have P0 := hid (B0z w n k s a l u)
  have P1 := hid (B1z w n k s a l u)
  have HM := hid (fun w => rmay_ok n k s a l u w)
  have HH := hid (fun w => hard_ok n k s a l u w)
  by_cases hm : ¬ mayP ⟨n, k, s, a, l, u⟩
  · rw [decide_eq_false hm] at HM
    have e : opn ⟨n, k, s, a, l, u⟩ = (z0, 1) := by unfold opn refd; rw [if_pos hm, if_pos (by decide)]
    rw [e]
    clear e
    clear hm HH
    go_enter Try.func61, Try.ntmps61
    go_wp2_with ((with_reducible refine ld_zone rfl (.tmp 3) rfl w.heap.size ?_ P0.out ?_); · rfl)
    refine (HM.out _).mono ?_
    rintro e w1 ⟨rfl, f1⟩
    have HF := kf f1 HF
    have P0 := hid (P0.out.fr f1)
    have P1 := hid (P1.out.fr f1)
    clear f1
    go_wp2_with (first | ((with_reducible refine st_zone rfl (.tmp 4) (.tmp 9) rfl (w.heap.size + 1) ?_ (n' := 0) (k' := 0) (s' := 0) (a' := 0) (l' := 0) (u' := 0) ?_ (P1.out) ?_); (· rfl); (· rfl); intro W' hb hf; have HB := hid hb; have HF := kfg (by omega) (HF) hf; clear hb hf))
    exact bodyPost_ret (v := zr (⟨0, 0, 0, 0, 0, 0⟩, 1)) (resZ rfl _ _ (w.heap.size + 1) (0) (0) (0) (0) (0) (0) (1) rfl rfl HB.out) rfl ⟨rfl, HF.out⟩
  have hm' : mayP ⟨n, k, s, a, l, u⟩ := by simpa using hm
  rw [decide_eq_true hm'] at HM
  by_cases k1 : k = 1
  · skip
    have e : opn ⟨n, k, s, a, l, u⟩ = (z0, 53) := by unfold opn refd; rw [if_neg hm, if_pos k1, if_pos (by decide)]
    rw [e]
    clear e
    subst k1
    clear hm hm' HH
    go_enter Try.func61, Try.ntmps61
    go_wp2_with ((with_reducible refine ld_zone rfl (.tmp 3) rfl w.heap.size ?_ P0.out ?_); · rfl)
    refine (HM.out _).mono ?_
    rintro e w1 ⟨rfl, f1⟩
    have HF := kf f1 HF
    have P0 := hid (P0.out.fr f1)
    have P1 := hid (P1.out.fr f1)
    clear f1
    obtain ⟨_, c1, _, _, _, _⟩ := P0.out.cells
    go_wp2_with (first | ((with_reducible refine st_zone rfl (.tmp 4) (.tmp 13) rfl (w.heap.size + 1) ?_ (n' := 0) (k' := 0) (s' := 0) (a' := 0) (l' := 0) (u' := 0) ?_ (P1.out) ?_); (· rfl); (· rfl); intro W' hb hf; have HB := hid hb; have HF := kfg (by omega) (HF) hf; clear hb hf))
    exact bodyPost_ret (v := zr (⟨0, 0, 0, 0, 0, 0⟩, 53)) (resZ rfl _ _ (w.heap.size + 1) (0) (0) (0) (0) (0) (0) (53) rfl rfl HB.out) rfl ⟨rfl, HF.out⟩
  have k1' : (k == 1) = false := by simpa using k1
  by_cases hh : hurtP s
  · rw [decide_eq_true hh] at HH
    have e : opn ⟨n, k, s, a, l, u⟩ = (z0, 52) := by unfold opn refd; rw [if_neg hm, if_neg k1, if_pos hh, if_pos (by decide)]
    rw [e]
    clear e
    clear hm hm' k1 hh
    go_enter Try.func61, Try.ntmps61
    go_wp2_with ((with_reducible refine ld_zone rfl (.tmp 3) rfl w.heap.size ?_ P0.out ?_); · rfl)
    refine (HM.out _).mono ?_
    rintro e w1 ⟨rfl, f1⟩
    have HF := kf f1 HF
    have P0 := hid (P0.out.fr f1)
    have P1 := hid (P1.out.fr f1)
    clear f1
    obtain ⟨_, c1, _, _, _, _⟩ := P0.out.cells
    go_wp2_with ((with_reducible refine ld_zone rfl (.tmp 3) rfl w.heap.size ?_ P0.out ?_); · rfl)
    refine (HH.out _).mono ?_
    rintro e w1 ⟨rfl, f1⟩
    have HF := kf f1 HF
    have P0 := hid (P0.out.fr f1)
    have P1 := hid (P1.out.fr f1)
    clear f1
    go_wp2_with (first | ((with_reducible refine st_zone rfl (.tmp 4) (.tmp 16) rfl (w.heap.size + 1) ?_ (n' := 0) (k' := 0) (s' := 0) (a' := 0) (l' := 0) (u' := 0) ?_ (P1.out) ?_); (· rfl); (· rfl); intro W' hb hf; have HB := hid hb; have HF := kfg (by omega) (HF) hf; clear hb hf))
    exact bodyPost_ret (v := zr (⟨0, 0, 0, 0, 0, 0⟩, 52)) (resZ rfl _ _ (w.heap.size + 1) (0) (0) (0) (0) (0) (0) (52) rfl rfl HB.out) rfl ⟨rfl, HF.out⟩
  rw [decide_eq_false hh] at HH
  have r0 : ¬ refd ⟨n, k, s, a, l, u⟩ ≠ 0 := by unfold refd; rw [if_neg hm, if_neg k1, if_neg hh]; decide
  by_cases s5 : s = 5
  · skip
    have e : opn ⟨n, k, s, a, l, u⟩ = (z0, 52) := by unfold opn; rw [if_neg r0, if_pos s5]
    rw [e]
    clear e
    subst s5
    clear hm hm' k1 hh r0
    go_enter Try.func61, Try.ntmps61
    go_wp2_with ((with_reducible refine ld_zone rfl (.tmp 3) rfl w.heap.size ?_ P0.out ?_); · rfl)
    refine (HM.out _).mono ?_
    rintro e w1 ⟨rfl, f1⟩
    have HF := kf f1 HF
    have P0 := hid (P0.out.fr f1)
    have P1 := hid (P1.out.fr f1)
    clear f1
    obtain ⟨_, c1, _, _, _, _⟩ := P0.out.cells
    go_wp2_with ((with_reducible refine ld_zone rfl (.tmp 3) rfl w.heap.size ?_ P0.out ?_); · rfl)
    refine (HH.out _).mono ?_
    rintro e w1 ⟨rfl, f1⟩
    have HF := kf f1 HF
    have P0 := hid (P0.out.fr f1)
    have P1 := hid (P1.out.fr f1)
    clear f1
    obtain ⟨_, _, c2, _, _, c5⟩ := P0.out.cells
    obtain ⟨_, _, f2, _, _, f5⟩ := P0.out.frozens
    go_wp2_with (first | ((with_reducible refine st_zone rfl (.tmp 4) (.tmp 23) rfl (w.heap.size + 1) ?_ (n' := 0) (k' := 0) (s' := 0) (a' := 0) (l' := 0) (u' := 0) ?_ (P1.out) ?_); (· rfl); (· rfl); intro W' hb hf; have HB := hid hb; have HF := kfg (by omega) (HF) hf; clear hb hf))
    exact bodyPost_ret (v := zr (⟨0, 0, 0, 0, 0, 0⟩, 52)) (resZ rfl _ _ (w.heap.size + 1) (0) (0) (0) (0) (0) (0) (52) rfl rfl HB.out) rfl ⟨rfl, HF.out⟩
  · skip
    have e : opn ⟨n, k, s, a, l, u⟩ = (⟨n, k, 3, a, l, u⟩, 0) := by unfold opn; rw [if_neg r0, if_neg s5]
    rw [e]
    clear e
    have s5' : (s == 5) = false := by simpa using s5
    clear hm hm' k1 hh r0 s5
    go_enter Try.func61, Try.ntmps61
    go_wp2_with ((with_reducible refine ld_zone rfl (.tmp 3) rfl w.heap.size ?_ P0.out ?_); · rfl)
    refine (HM.out _).mono ?_
    rintro e w1 ⟨rfl, f1⟩
    have HF := kf f1 HF
    have P0 := hid (P0.out.fr f1)
    have P1 := hid (P1.out.fr f1)
    clear f1
    obtain ⟨_, c1, _, _, _, _⟩ := P0.out.cells
    go_wp2_with ((with_reducible refine ld_zone rfl (.tmp 3) rfl w.heap.size ?_ P0.out ?_); · rfl)
    refine (HH.out _).mono ?_
    rintro e w1 ⟨rfl, f1⟩
    have HF := kf f1 HF
    have P0 := hid (P0.out.fr f1)
    have P1 := hid (P1.out.fr f1)
    clear f1
    obtain ⟨_, _, c2, _, _, c5⟩ := P0.out.cells
    obtain ⟨_, _, f2, _, _, f5⟩ := P0.out.frozens
    have Q0 := hid (show BZ _ w.heap.size (n) (k) (3) (a) (l) (u) from (P0.out : Blk _ _ _ _).set_ 2 (.int .i64 (3)))
    go_wp2_with (first | ((with_reducible refine ld_zone rfl (.tmp 3) rfl w.heap.size ?_ Q0.out ?_); · rfl) | ((with_reducible refine st_zone rfl (.tmp 4) (.tmp 48) rfl (w.heap.size + 1) ?_ (n' := n) (k' := k) (s' := 3) (a' := a) (l' := l) (u' := u) ?_ ((P1.out).far (p := ⟨w.heap.size, 2, none⟩) (by simp) (.int .i64 (3))) ?_); (· rfl); (· rfl); intro W' hb hf; have HB := hid hb; have HF := kfg (by omega) (kf1 (p := ⟨w.heap.size, 2, none⟩) (Nat.le_refl _) (HF)) hf; clear hb hf))
    exact bodyPost_ret (v := zr (⟨n, k, 3, a, l, u⟩, 0)) (resZ rfl _ _ (w.heap.size + 1) (n) (k) (3) (a) (l) (u) (0) rfl rfl HB.out) rfl ⟨rfl, HF.out⟩
set_option maxRecDepth 100000 in
set_option maxHeartbeats 4000000 in
theorem rdo2_ok (n k s a l u : Int) (w : World) : Calls Try.prog 61 #[.int .i64 2, .agg #[.int .i64 n, .int .i64 k, .int .i64 s, .int .i64 a, .int .i64 l, .int .i64 u]] w fun e w' => RetZ w w' e (cls ⟨n, k, s, a, l, u⟩) := by
  have HF := hid (FF2 w (bz n k s a l u) zz)
  have P0 := hid (B0z w n k s a l u)
  have P1 := hid (B1z w n k s a l u)
  have HM := hid (fun w => rmay_ok n k s a l u w)
  have HH := hid (fun w => hard_ok n k s a l u w)
  have HO := hid (fun w => risOpen_ok n k s a l u w)
  by_cases hm : ¬ mayP ⟨n, k, s, a, l, u⟩
  · rw [decide_eq_false hm] at HM
    have e : cls ⟨n, k, s, a, l, u⟩ = (z0, 1) := by unfold cls refd; rw [if_pos hm, if_pos (by decide)]
    rw [e]
    clear e
    clear hm HH HO
    go_enter Try.func61, Try.ntmps61
    go_wp2_with ((with_reducible refine ld_zone rfl (.tmp 3) rfl w.heap.size ?_ P0.out ?_); · rfl)
    refine (HM.out _).mono ?_
    rintro e w1 ⟨rfl, f1⟩
    have HF := kf f1 HF
    have P0 := hid (P0.out.fr f1)
    have P1 := hid (P1.out.fr f1)
    clear f1
    go_wp2_with (first | ((with_reducible refine st_zone rfl (.tmp 4) (.tmp 9) rfl (w.heap.size + 1) ?_ (n' := 0) (k' := 0) (s' := 0) (a' := 0) (l' := 0) (u' := 0) ?_ (P1.out) ?_); (· rfl); (· rfl); intro W' hb hf; have HB := hid hb; have HF := kfg (by omega) (HF) hf; clear hb hf))
    exact bodyPost_ret (v := zr (⟨0, 0, 0, 0, 0, 0⟩, 1)) (resZ rfl _ _ (w.heap.size + 1) (0) (0) (0) (0) (0) (0) (1) rfl rfl HB.out) rfl ⟨rfl, HF.out⟩
  have hm' : mayP ⟨n, k, s, a, l, u⟩ := by simpa using hm
  rw [decide_eq_true hm'] at HM
  by_cases k1 : k = 1
  · skip
    have e : cls ⟨n, k, s, a, l, u⟩ = (z0, 53) := by unfold cls refd; rw [if_neg hm, if_pos k1, if_pos (by decide)]
    rw [e]
    clear e
    subst k1
    clear hm hm' HH HO
    go_enter Try.func61, Try.ntmps61
    go_wp2_with ((with_reducible refine ld_zone rfl (.tmp 3) rfl w.heap.size ?_ P0.out ?_); · rfl)
    refine (HM.out _).mono ?_
    rintro e w1 ⟨rfl, f1⟩
    have HF := kf f1 HF
    have P0 := hid (P0.out.fr f1)
    have P1 := hid (P1.out.fr f1)
    clear f1
    obtain ⟨_, c1, _, _, _, _⟩ := P0.out.cells
    go_wp2_with (first | ((with_reducible refine st_zone rfl (.tmp 4) (.tmp 13) rfl (w.heap.size + 1) ?_ (n' := 0) (k' := 0) (s' := 0) (a' := 0) (l' := 0) (u' := 0) ?_ (P1.out) ?_); (· rfl); (· rfl); intro W' hb hf; have HB := hid hb; have HF := kfg (by omega) (HF) hf; clear hb hf))
    exact bodyPost_ret (v := zr (⟨0, 0, 0, 0, 0, 0⟩, 53)) (resZ rfl _ _ (w.heap.size + 1) (0) (0) (0) (0) (0) (0) (53) rfl rfl HB.out) rfl ⟨rfl, HF.out⟩
  have k1' : (k == 1) = false := by simpa using k1
  by_cases hh : hurtP s
  · rw [decide_eq_true hh] at HH
    have e : cls ⟨n, k, s, a, l, u⟩ = (z0, 52) := by unfold cls refd; rw [if_neg hm, if_neg k1, if_pos hh, if_pos (by decide)]
    rw [e]
    clear e
    clear hm hm' k1 hh HO
    go_enter Try.func61, Try.ntmps61
    go_wp2_with ((with_reducible refine ld_zone rfl (.tmp 3) rfl w.heap.size ?_ P0.out ?_); · rfl)
    refine (HM.out _).mono ?_
    rintro e w1 ⟨rfl, f1⟩
    have HF := kf f1 HF
    have P0 := hid (P0.out.fr f1)
    have P1 := hid (P1.out.fr f1)
    clear f1
    obtain ⟨_, c1, _, _, _, _⟩ := P0.out.cells
    go_wp2_with ((with_reducible refine ld_zone rfl (.tmp 3) rfl w.heap.size ?_ P0.out ?_); · rfl)
    refine (HH.out _).mono ?_
    rintro e w1 ⟨rfl, f1⟩
    have HF := kf f1 HF
    have P0 := hid (P0.out.fr f1)
    have P1 := hid (P1.out.fr f1)
    clear f1
    go_wp2_with (first | ((with_reducible refine st_zone rfl (.tmp 4) (.tmp 16) rfl (w.heap.size + 1) ?_ (n' := 0) (k' := 0) (s' := 0) (a' := 0) (l' := 0) (u' := 0) ?_ (P1.out) ?_); (· rfl); (· rfl); intro W' hb hf; have HB := hid hb; have HF := kfg (by omega) (HF) hf; clear hb hf))
    exact bodyPost_ret (v := zr (⟨0, 0, 0, 0, 0, 0⟩, 52)) (resZ rfl _ _ (w.heap.size + 1) (0) (0) (0) (0) (0) (0) (52) rfl rfl HB.out) rfl ⟨rfl, HF.out⟩
  rw [decide_eq_false hh] at HH
  have r0 : ¬ refd ⟨n, k, s, a, l, u⟩ ≠ 0 := by unfold refd; rw [if_neg hm, if_neg k1, if_neg hh]; decide
  by_cases s2 : s = 2
  · have ho : openP s := by unfold openP; omega
    rw [decide_eq_true ho] at HO
    by_cases u0 : u = 0
    · skip
      have e : cls ⟨n, k, s, a, l, u⟩ = (⟨n, k, 1, a, l, u⟩, 0) := by unfold cls; rw [if_neg r0, if_pos ho, if_pos u0]
      rw [e]
      clear e
      subst s2 u0
      clear hm hm' k1 hh r0 ho
      go_enter Try.func61, Try.ntmps61
      go_wp2_with ((with_reducible refine ld_zone rfl (.tmp 3) rfl w.heap.size ?_ P0.out ?_); · rfl)
      refine (HM.out _).mono ?_
      rintro e w1 ⟨rfl, f1⟩
      have HF := kf f1 HF
      have P0 := hid (P0.out.fr f1)
      have P1 := hid (P1.out.fr f1)
      clear f1
      obtain ⟨_, c1, _, _, _, _⟩ := P0.out.cells
      go_wp2_with ((with_reducible refine ld_zone rfl (.tmp 3) rfl w.heap.size ?_ P0.out ?_); · rfl)
      refine (HH.out _).mono ?_
      rintro e w1 ⟨rfl, f1⟩
      have HF := kf f1 HF
      have P0 := hid (P0.out.fr f1)
      have P1 := hid (P1.out.fr f1)
      clear f1
      obtain ⟨_, _, c2, _, _, c5⟩ := P0.out.cells
      obtain ⟨_, _, f2, _, _, f5⟩ := P0.out.frozens
      go_wp2_with ((with_reducible refine ld_zone rfl (.tmp 3) rfl w.heap.size ?_ P0.out ?_); · rfl)
      refine (HO.out _).mono ?_
      rintro e w1 ⟨rfl, f1⟩
      have HF := kf f1 HF
      have P0 := hid (P0.out.fr f1)
      have P1 := hid (P1.out.fr f1)
      clear f1
      obtain ⟨_, _, c2, _, _, c5⟩ := P0.out.cells
      obtain ⟨_, _, f2, _, _, f5⟩ := P0.out.frozens
      have Q0 := hid (show BZ _ w.heap.size (n) (k) (1) (a) (l) (0) from ((P0.out : Blk _ _ _ _).set_ 2 (.int .i64 (4)) : Blk _ _ _ _).set_ 2 (.int .i64 (1)))
      go_wp2_with (first | ((with_reducible refine ld_zone rfl (.tmp 3) rfl w.heap.size ?_ Q0.out ?_); · rfl) | ((with_reducible refine st_zone rfl (.tmp 4) (.tmp 48) rfl (w.heap.size + 1) ?_ (n' := n) (k' := k) (s' := 1) (a' := a) (l' := l) (u' := 0) ?_ (((P1.out).far (p := ⟨w.heap.size, 2, none⟩) (by simp) (.int .i64 (4))).far (p := ⟨w.heap.size, 2, none⟩) (by simp) (.int .i64 (1))) ?_); (· rfl); (· rfl); intro W' hb hf; have HB := hid hb; have HF := kfg (by omega) (kf1 (p := ⟨w.heap.size, 2, none⟩) (Nat.le_refl _) (kf1 (p := ⟨w.heap.size, 2, none⟩) (Nat.le_refl _) (HF))) hf; clear hb hf))
      exact bodyPost_ret (v := zr (⟨n, k, 1, a, l, 0⟩, 0)) (resZ rfl _ _ (w.heap.size + 1) (n) (k) (1) (a) (l) (0) (0) rfl rfl HB.out) rfl ⟨rfl, HF.out⟩
    · skip
      have e : cls ⟨n, k, s, a, l, u⟩ = (⟨n, k, 4, a, l, u⟩, 0) := by unfold cls; rw [if_neg r0, if_pos ho, if_neg u0]
      rw [e]
      clear e
      have u0' : (u == 0) = false := by simpa using u0
      subst s2
      clear hm hm' k1 hh r0 ho u0
      go_enter Try.func61, Try.ntmps61
      go_wp2_with ((with_reducible refine ld_zone rfl (.tmp 3) rfl w.heap.size ?_ P0.out ?_); · rfl)
      refine (HM.out _).mono ?_
      rintro e w1 ⟨rfl, f1⟩
      have HF := kf f1 HF
      have P0 := hid (P0.out.fr f1)
      have P1 := hid (P1.out.fr f1)
      clear f1
      obtain ⟨_, c1, _, _, _, _⟩ := P0.out.cells
      go_wp2_with ((with_reducible refine ld_zone rfl (.tmp 3) rfl w.heap.size ?_ P0.out ?_); · rfl)
      refine (HH.out _).mono ?_
      rintro e w1 ⟨rfl, f1⟩
      have HF := kf f1 HF
      have P0 := hid (P0.out.fr f1)
      have P1 := hid (P1.out.fr f1)
      clear f1
      obtain ⟨_, _, c2, _, _, c5⟩ := P0.out.cells
      obtain ⟨_, _, f2, _, _, f5⟩ := P0.out.frozens
      go_wp2_with ((with_reducible refine ld_zone rfl (.tmp 3) rfl w.heap.size ?_ P0.out ?_); · rfl)
      refine (HO.out _).mono ?_
      rintro e w1 ⟨rfl, f1⟩
      have HF := kf f1 HF
      have P0 := hid (P0.out.fr f1)
      have P1 := hid (P1.out.fr f1)
      clear f1
      obtain ⟨_, _, c2, _, _, c5⟩ := P0.out.cells
      obtain ⟨_, _, f2, _, _, f5⟩ := P0.out.frozens
      have Q0 := hid (show BZ _ w.heap.size (n) (k) (4) (a) (l) (u) from (P0.out : Blk _ _ _ _).set_ 2 (.int .i64 (4)))
      go_wp2_with (first | ((with_reducible refine ld_zone rfl (.tmp 3) rfl w.heap.size ?_ Q0.out ?_); · rfl) | ((with_reducible refine st_zone rfl (.tmp 4) (.tmp 48) rfl (w.heap.size + 1) ?_ (n' := n) (k' := k) (s' := 4) (a' := a) (l' := l) (u' := u) ?_ ((P1.out).far (p := ⟨w.heap.size, 2, none⟩) (by simp) (.int .i64 (4))) ?_); (· rfl); (· rfl); intro W' hb hf; have HB := hid hb; have HF := kfg (by omega) (kf1 (p := ⟨w.heap.size, 2, none⟩) (Nat.le_refl _) (HF)) hf; clear hb hf))
      exact bodyPost_ret (v := zr (⟨n, k, 4, a, l, u⟩, 0)) (resZ rfl _ _ (w.heap.size + 1) (n) (k) (4) (a) (l) (u) (0) rfl rfl HB.out) rfl ⟨rfl, HF.out⟩
  by_cases s3 : s = 3
  · have ho : openP s := by unfold openP; omega
    rw [decide_eq_true ho] at HO
    by_cases u0 : u = 0
    · skip
      have e : cls ⟨n, k, s, a, l, u⟩ = (⟨n, k, 1, a, l, u⟩, 0) := by unfold cls; rw [if_neg r0, if_pos ho, if_pos u0]
      rw [e]
      clear e
      subst s3 u0
      clear hm hm' k1 hh r0 ho
      go_enter Try.func61, Try.ntmps61
      go_wp2_with ((with_reducible refine ld_zone rfl (.tmp 3) rfl w.heap.size ?_ P0.out ?_); · rfl)
      refine (HM.out _).mono ?_
      rintro e w1 ⟨rfl, f1⟩
      have HF := kf f1 HF
      have P0 := hid (P0.out.fr f1)
      have P1 := hid (P1.out.fr f1)
      clear f1
      obtain ⟨_, c1, _, _, _, _⟩ := P0.out.cells
      go_wp2_with ((with_reducible refine ld_zone rfl (.tmp 3) rfl w.heap.size ?_ P0.out ?_); · rfl)
      refine (HH.out _).mono ?_
      rintro e w1 ⟨rfl, f1⟩
      have HF := kf f1 HF
      have P0 := hid (P0.out.fr f1)
      have P1 := hid (P1.out.fr f1)
      clear f1
      obtain ⟨_, _, c2, _, _, c5⟩ := P0.out.cells
      obtain ⟨_, _, f2, _, _, f5⟩ := P0.out.frozens
      go_wp2_with ((with_reducible refine ld_zone rfl (.tmp 3) rfl w.heap.size ?_ P0.out ?_); · rfl)
      refine (HO.out _).mono ?_
      rintro e w1 ⟨rfl, f1⟩
      have HF := kf f1 HF
      have P0 := hid (P0.out.fr f1)
      have P1 := hid (P1.out.fr f1)
      clear f1
      obtain ⟨_, _, c2, _, _, c5⟩ := P0.out.cells
      obtain ⟨_, _, f2, _, _, f5⟩ := P0.out.frozens
      have Q0 := hid (show BZ _ w.heap.size (n) (k) (1) (a) (l) (0) from ((P0.out : Blk _ _ _ _).set_ 2 (.int .i64 (4)) : Blk _ _ _ _).set_ 2 (.int .i64 (1)))
      go_wp2_with (first | ((with_reducible refine ld_zone rfl (.tmp 3) rfl w.heap.size ?_ Q0.out ?_); · rfl) | ((with_reducible refine st_zone rfl (.tmp 4) (.tmp 48) rfl (w.heap.size + 1) ?_ (n' := n) (k' := k) (s' := 1) (a' := a) (l' := l) (u' := 0) ?_ (((P1.out).far (p := ⟨w.heap.size, 2, none⟩) (by simp) (.int .i64 (4))).far (p := ⟨w.heap.size, 2, none⟩) (by simp) (.int .i64 (1))) ?_); (· rfl); (· rfl); intro W' hb hf; have HB := hid hb; have HF := kfg (by omega) (kf1 (p := ⟨w.heap.size, 2, none⟩) (Nat.le_refl _) (kf1 (p := ⟨w.heap.size, 2, none⟩) (Nat.le_refl _) (HF))) hf; clear hb hf))
      exact bodyPost_ret (v := zr (⟨n, k, 1, a, l, 0⟩, 0)) (resZ rfl _ _ (w.heap.size + 1) (n) (k) (1) (a) (l) (0) (0) rfl rfl HB.out) rfl ⟨rfl, HF.out⟩
    · skip
      have e : cls ⟨n, k, s, a, l, u⟩ = (⟨n, k, 4, a, l, u⟩, 0) := by unfold cls; rw [if_neg r0, if_pos ho, if_neg u0]
      rw [e]
      clear e
      have u0' : (u == 0) = false := by simpa using u0
      subst s3
      clear hm hm' k1 hh r0 ho u0
      go_enter Try.func61, Try.ntmps61
      go_wp2_with ((with_reducible refine ld_zone rfl (.tmp 3) rfl w.heap.size ?_ P0.out ?_); · rfl)
      refine (HM.out _).mono ?_
      rintro e w1 ⟨rfl, f1⟩
      have HF := kf f1 HF
      have P0 := hid (P0.out.fr f1)
      have P1 := hid (P1.out.fr f1)
      clear f1
      obtain ⟨_, c1, _, _, _, _⟩ := P0.out.cells
      go_wp2_with ((with_reducible refine ld_zone rfl (.tmp 3) rfl w.heap.size ?_ P0.out ?_); · rfl)
      refine (HH.out _).mono ?_
      rintro e w1 ⟨rfl, f1⟩
      have HF := kf f1 HF
      have P0 := hid (P0.out.fr f1)
      have P1 := hid (P1.out.fr f1)
      clear f1
      obtain ⟨_, _, c2, _, _, c5⟩ := P0.out.cells
      obtain ⟨_, _, f2, _, _, f5⟩ := P0.out.frozens
      go_wp2_with ((with_reducible refine ld_zone rfl (.tmp 3) rfl w.heap.size ?_ P0.out ?_); · rfl)
      refine (HO.out _).mono ?_
      rintro e w1 ⟨rfl, f1⟩
      have HF := kf f1 HF
      have P0 := hid (P0.out.fr f1)
      have P1 := hid (P1.out.fr f1)
      clear f1
      obtain ⟨_, _, c2, _, _, c5⟩ := P0.out.cells
      obtain ⟨_, _, f2, _, _, f5⟩ := P0.out.frozens
      have Q0 := hid (show BZ _ w.heap.size (n) (k) (4) (a) (l) (u) from (P0.out : Blk _ _ _ _).set_ 2 (.int .i64 (4)))
      go_wp2_with (first | ((with_reducible refine ld_zone rfl (.tmp 3) rfl w.heap.size ?_ Q0.out ?_); · rfl) | ((with_reducible refine st_zone rfl (.tmp 4) (.tmp 48) rfl (w.heap.size + 1) ?_ (n' := n) (k' := k) (s' := 4) (a' := a) (l' := l) (u' := u) ?_ ((P1.out).far (p := ⟨w.heap.size, 2, none⟩) (by simp) (.int .i64 (4))) ?_); (· rfl); (· rfl); intro W' hb hf; have HB := hid hb; have HF := kfg (by omega) (kf1 (p := ⟨w.heap.size, 2, none⟩) (Nat.le_refl _) (HF)) hf; clear hb hf))
      exact bodyPost_ret (v := zr (⟨n, k, 4, a, l, u⟩, 0)) (resZ rfl _ _ (w.heap.size + 1) (n) (k) (4) (a) (l) (u) (0) rfl rfl HB.out) rfl ⟨rfl, HF.out⟩
  have ho : ¬ openP s := by unfold openP; omega
  rw [decide_eq_false ho] at HO
  by_cases s4 : s = 4
  · subst s4
    have u0 : u ≠ 0 := by unfold mayP goesP seqP at hm'; dsimp only at hm'; omega
    have e : cls ⟨n, k, 4, a, l, u⟩ = (⟨n, k, 4, a, l, u⟩, 0) := by unfold cls; rw [if_neg r0, if_neg ho, if_pos rfl]
    rw [e]
    clear e
    have u0' : (u == 0) = false := by simpa using u0
    clear hm hm' k1 hh r0 ho u0 s2 s3
    go_enter Try.func61, Try.ntmps61
    go_wp2_with ((with_reducible refine ld_zone rfl (.tmp 3) rfl w.heap.size ?_ P0.out ?_); · rfl)
    refine (HM.out _).mono ?_
    rintro e w1 ⟨rfl, f1⟩
    have HF := kf f1 HF
    have P0 := hid (P0.out.fr f1)
    have P1 := hid (P1.out.fr f1)
    clear f1
    obtain ⟨_, c1, _, _, _, _⟩ := P0.out.cells
    go_wp2_with ((with_reducible refine ld_zone rfl (.tmp 3) rfl w.heap.size ?_ P0.out ?_); · rfl)
    refine (HH.out _).mono ?_
    rintro e w1 ⟨rfl, f1⟩
    have HF := kf f1 HF
    have P0 := hid (P0.out.fr f1)
    have P1 := hid (P1.out.fr f1)
    clear f1
    obtain ⟨_, _, c2, _, _, c5⟩ := P0.out.cells
    obtain ⟨_, _, f2, _, _, f5⟩ := P0.out.frozens
    go_wp2_with ((with_reducible refine ld_zone rfl (.tmp 3) rfl w.heap.size ?_ P0.out ?_); · rfl)
    refine (HO.out _).mono ?_
    rintro e w1 ⟨rfl, f1⟩
    have HF := kf f1 HF
    have P0 := hid (P0.out.fr f1)
    have P1 := hid (P1.out.fr f1)
    clear f1
    obtain ⟨_, _, c2, _, _, c5⟩ := P0.out.cells
    obtain ⟨_, _, f2, _, _, f5⟩ := P0.out.frozens
    have Q0 := hid (show BZ _ w.heap.size (n) (k) (4) (a) (l) (u) from (P0.out : Blk _ _ _ _).set_ 2 (.int .i64 (4)))
    go_wp2_with (first | ((with_reducible refine ld_zone rfl (.tmp 3) rfl w.heap.size ?_ Q0.out ?_); · rfl) | ((with_reducible refine st_zone rfl (.tmp 4) (.tmp 48) rfl (w.heap.size + 1) ?_ (n' := n) (k' := k) (s' := 4) (a' := a) (l' := l) (u' := u) ?_ ((P1.out).far (p := ⟨w.heap.size, 2, none⟩) (by simp) (.int .i64 (4))) ?_); (· rfl); (· rfl); intro W' hb hf; have HB := hid hb; have HF := kfg (by omega) (kf1 (p := ⟨w.heap.size, 2, none⟩) (Nat.le_refl _) (HF)) hf; clear hb hf))
    exact bodyPost_ret (v := zr (⟨n, k, 4, a, l, u⟩, 0)) (resZ rfl _ _ (w.heap.size + 1) (n) (k) (4) (a) (l) (u) (0) rfl rfl HB.out) rfl ⟨rfl, HF.out⟩
  · skip
    have e : cls ⟨n, k, s, a, l, u⟩ = (z0, 52) := by unfold cls; rw [if_neg r0, if_neg ho, if_neg s4]
    rw [e]
    clear e
    have s4' : (s != 4) = true := by simpa using s4
    clear hm hm' k1 hh r0 ho s2 s3 s4
    go_enter Try.func61, Try.ntmps61
    go_wp2_with ((with_reducible refine ld_zone rfl (.tmp 3) rfl w.heap.size ?_ P0.out ?_); · rfl)
    refine (HM.out _).mono ?_
    rintro e w1 ⟨rfl, f1⟩
    have HF := kf f1 HF
    have P0 := hid (P0.out.fr f1)
    have P1 := hid (P1.out.fr f1)
    clear f1
    obtain ⟨_, c1, _, _, _, _⟩ := P0.out.cells
    go_wp2_with ((with_reducible refine ld_zone rfl (.tmp 3) rfl w.heap.size ?_ P0.out ?_); · rfl)
    refine (HH.out _).mono ?_
    rintro e w1 ⟨rfl, f1⟩
    have HF := kf f1 HF
    have P0 := hid (P0.out.fr f1)
    have P1 := hid (P1.out.fr f1)
    clear f1
    obtain ⟨_, _, c2, _, _, c5⟩ := P0.out.cells
    obtain ⟨_, _, f2, _, _, f5⟩ := P0.out.frozens
    go_wp2_with ((with_reducible refine ld_zone rfl (.tmp 3) rfl w.heap.size ?_ P0.out ?_); · rfl)
    refine (HO.out _).mono ?_
    rintro e w1 ⟨rfl, f1⟩
    have HF := kf f1 HF
    have P0 := hid (P0.out.fr f1)
    have P1 := hid (P1.out.fr f1)
    clear f1
    obtain ⟨_, _, c2, _, _, c5⟩ := P0.out.cells
    obtain ⟨_, _, f2, _, _, f5⟩ := P0.out.frozens
    go_wp2_with (first | ((with_reducible refine st_zone rfl (.tmp 4) (.tmp 35) rfl (w.heap.size + 1) ?_ (n' := 0) (k' := 0) (s' := 0) (a' := 0) (l' := 0) (u' := 0) ?_ (P1.out) ?_); (· rfl); (· rfl); intro W' hb hf; have HB := hid hb; have HF := kfg (by omega) (HF) hf; clear hb hf))
    exact bodyPost_ret (v := zr (⟨0, 0, 0, 0, 0, 0⟩, 52)) (resZ rfl _ _ (w.heap.size + 1) (0) (0) (0) (0) (0) (0) (52) rfl rfl HB.out) rfl ⟨rfl, HF.out⟩
set_option maxRecDepth 100000 in
set_option maxHeartbeats 4000000 in
theorem rdo3_ok (n k s a l u : Int) (w : World) : Calls Try.prog 61 #[.int .i64 3, .agg #[.int .i64 n, .int .i64 k, .int .i64 s, .int .i64 a, .int .i64 l, .int .i64 u]] w fun e w' => RetZ w w' e (fns ⟨n, k, s, a, l, u⟩) := by
  have HF := hid (FF2 w (bz n k s a l u) zz)
  have P0 := hid (B0z w n k s a l u)
  have P1 := hid (B1z w n k s a l u)
  have HM := hid (fun w => rmay_ok n k s a l u w)
  have HH := hid (fun w => hard_ok n k s a l u w)
  by_cases hm : ¬ mayP ⟨n, k, s, a, l, u⟩
  · rw [decide_eq_false hm] at HM
    have e : fns ⟨n, k, s, a, l, u⟩ = (z0, 1) := by unfold fns refd; rw [if_pos hm, if_pos (by decide)]
    rw [e]
    clear e
    clear hm HH
    go_enter Try.func61, Try.ntmps61
    go_wp2_with ((with_reducible refine ld_zone rfl (.tmp 3) rfl w.heap.size ?_ P0.out ?_); · rfl)
    refine (HM.out _).mono ?_
    rintro e w1 ⟨rfl, f1⟩
    have HF := kf f1 HF
    have P0 := hid (P0.out.fr f1)
    have P1 := hid (P1.out.fr f1)
    clear f1
    go_wp2_with (first | ((with_reducible refine st_zone rfl (.tmp 4) (.tmp 9) rfl (w.heap.size + 1) ?_ (n' := 0) (k' := 0) (s' := 0) (a' := 0) (l' := 0) (u' := 0) ?_ (P1.out) ?_); (· rfl); (· rfl); intro W' hb hf; have HB := hid hb; have HF := kfg (by omega) (HF) hf; clear hb hf))
    exact bodyPost_ret (v := zr (⟨0, 0, 0, 0, 0, 0⟩, 1)) (resZ rfl _ _ (w.heap.size + 1) (0) (0) (0) (0) (0) (0) (1) rfl rfl HB.out) rfl ⟨rfl, HF.out⟩
  have hm' : mayP ⟨n, k, s, a, l, u⟩ := by simpa using hm
  rw [decide_eq_true hm'] at HM
  by_cases k1 : k = 1
  · skip
    have e : fns ⟨n, k, s, a, l, u⟩ = (z0, 53) := by unfold fns refd; rw [if_neg hm, if_pos k1, if_pos (by decide)]
    rw [e]
    clear e
    subst k1
    clear hm hm' HH
    go_enter Try.func61, Try.ntmps61
    go_wp2_with ((with_reducible refine ld_zone rfl (.tmp 3) rfl w.heap.size ?_ P0.out ?_); · rfl)
    refine (HM.out _).mono ?_
    rintro e w1 ⟨rfl, f1⟩
    have HF := kf f1 HF
    have P0 := hid (P0.out.fr f1)
    have P1 := hid (P1.out.fr f1)
    clear f1
    obtain ⟨_, c1, _, _, _, _⟩ := P0.out.cells
    go_wp2_with (first | ((with_reducible refine st_zone rfl (.tmp 4) (.tmp 13) rfl (w.heap.size + 1) ?_ (n' := 0) (k' := 0) (s' := 0) (a' := 0) (l' := 0) (u' := 0) ?_ (P1.out) ?_); (· rfl); (· rfl); intro W' hb hf; have HB := hid hb; have HF := kfg (by omega) (HF) hf; clear hb hf))
    exact bodyPost_ret (v := zr (⟨0, 0, 0, 0, 0, 0⟩, 53)) (resZ rfl _ _ (w.heap.size + 1) (0) (0) (0) (0) (0) (0) (53) rfl rfl HB.out) rfl ⟨rfl, HF.out⟩
  have k1' : (k == 1) = false := by simpa using k1
  by_cases hh : hurtP s
  · rw [decide_eq_true hh] at HH
    have e : fns ⟨n, k, s, a, l, u⟩ = (z0, 52) := by unfold fns refd; rw [if_neg hm, if_neg k1, if_pos hh, if_pos (by decide)]
    rw [e]
    clear e
    clear hm hm' k1 hh
    go_enter Try.func61, Try.ntmps61
    go_wp2_with ((with_reducible refine ld_zone rfl (.tmp 3) rfl w.heap.size ?_ P0.out ?_); · rfl)
    refine (HM.out _).mono ?_
    rintro e w1 ⟨rfl, f1⟩
    have HF := kf f1 HF
    have P0 := hid (P0.out.fr f1)
    have P1 := hid (P1.out.fr f1)
    clear f1
    obtain ⟨_, c1, _, _, _, _⟩ := P0.out.cells
    go_wp2_with ((with_reducible refine ld_zone rfl (.tmp 3) rfl w.heap.size ?_ P0.out ?_); · rfl)
    refine (HH.out _).mono ?_
    rintro e w1 ⟨rfl, f1⟩
    have HF := kf f1 HF
    have P0 := hid (P0.out.fr f1)
    have P1 := hid (P1.out.fr f1)
    clear f1
    go_wp2_with (first | ((with_reducible refine st_zone rfl (.tmp 4) (.tmp 16) rfl (w.heap.size + 1) ?_ (n' := 0) (k' := 0) (s' := 0) (a' := 0) (l' := 0) (u' := 0) ?_ (P1.out) ?_); (· rfl); (· rfl); intro W' hb hf; have HB := hid hb; have HF := kfg (by omega) (HF) hf; clear hb hf))
    exact bodyPost_ret (v := zr (⟨0, 0, 0, 0, 0, 0⟩, 52)) (resZ rfl _ _ (w.heap.size + 1) (0) (0) (0) (0) (0) (0) (52) rfl rfl HB.out) rfl ⟨rfl, HF.out⟩
  rw [decide_eq_false hh] at HH
  have r0 : ¬ refd ⟨n, k, s, a, l, u⟩ ≠ 0 := by unfold refd; rw [if_neg hm, if_neg k1, if_neg hh]; decide
  have e : fns ⟨n, k, s, a, l, u⟩ = (⟨n, k, 5, a, l, u⟩, 0) := by unfold fns; rw [if_neg r0]
  rw [e]
  clear e
  clear hm hm' k1 hh r0
  go_enter Try.func61, Try.ntmps61
  go_wp2_with ((with_reducible refine ld_zone rfl (.tmp 3) rfl w.heap.size ?_ P0.out ?_); · rfl)
  refine (HM.out _).mono ?_
  rintro e w1 ⟨rfl, f1⟩
  have HF := kf f1 HF
  have P0 := hid (P0.out.fr f1)
  have P1 := hid (P1.out.fr f1)
  clear f1
  obtain ⟨_, c1, _, _, _, _⟩ := P0.out.cells
  go_wp2_with ((with_reducible refine ld_zone rfl (.tmp 3) rfl w.heap.size ?_ P0.out ?_); · rfl)
  refine (HH.out _).mono ?_
  rintro e w1 ⟨rfl, f1⟩
  have HF := kf f1 HF
  have P0 := hid (P0.out.fr f1)
  have P1 := hid (P1.out.fr f1)
  clear f1
  obtain ⟨_, _, c2, _, _, c5⟩ := P0.out.cells
  obtain ⟨_, _, f2, _, _, f5⟩ := P0.out.frozens
  have Q0 := hid (show BZ _ w.heap.size (n) (k) (5) (a) (l) (u) from (P0.out : Blk _ _ _ _).set_ 2 (.int .i64 (5)))
  go_wp2_with (first | ((with_reducible refine ld_zone rfl (.tmp 3) rfl w.heap.size ?_ Q0.out ?_); · rfl) | ((with_reducible refine st_zone rfl (.tmp 4) (.tmp 48) rfl (w.heap.size + 1) ?_ (n' := n) (k' := k) (s' := 5) (a' := a) (l' := l) (u' := u) ?_ ((P1.out).far (p := ⟨w.heap.size, 2, none⟩) (by simp) (.int .i64 (5))) ?_); (· rfl); (· rfl); intro W' hb hf; have HB := hid hb; have HF := kfg (by omega) (kf1 (p := ⟨w.heap.size, 2, none⟩) (Nat.le_refl _) (HF)) hf; clear hb hf))
  exact bodyPost_ret (v := zr (⟨n, k, 5, a, l, u⟩, 0)) (resZ rfl _ _ (w.heap.size + 1) (n) (k) (5) (a) (l) (u) (0) rfl rfl HB.out) rfl ⟨rfl, HF.out⟩
set_option maxRecDepth 100000 in
set_option maxHeartbeats 4000000 in
theorem rdo4_ok (n k s a l u : Int) (w : World) : Calls Try.prog 61 #[.int .i64 4, .agg #[.int .i64 n, .int .i64 k, .int .i64 s, .int .i64 a, .int .i64 l, .int .i64 u]] w fun e w' => RetZ w w' e (rst ⟨n, k, s, a, l, u⟩) := by
  have HF := hid (FF2 w (bz n k s a l u) zz)
  have P0 := hid (B0z w n k s a l u)
  have P1 := hid (B1z w n k s a l u)
  have HM := hid (fun w => rmay_ok n k s a l u w)
  have HH := hid (fun w => hard_ok n k s a l u w)
  by_cases hm : ¬ mayP ⟨n, k, s, a, l, u⟩
  · rw [decide_eq_false hm] at HM
    have e : rst ⟨n, k, s, a, l, u⟩ = (z0, 1) := by unfold rst refd; rw [if_pos hm, if_pos (by decide)]
    rw [e]
    clear e
    clear hm HH
    go_enter Try.func61, Try.ntmps61
    go_wp2_with ((with_reducible refine ld_zone rfl (.tmp 3) rfl w.heap.size ?_ P0.out ?_); · rfl)
    refine (HM.out _).mono ?_
    rintro e w1 ⟨rfl, f1⟩
    have HF := kf f1 HF
    have P0 := hid (P0.out.fr f1)
    have P1 := hid (P1.out.fr f1)
    clear f1
    go_wp2_with (first | ((with_reducible refine st_zone rfl (.tmp 4) (.tmp 9) rfl (w.heap.size + 1) ?_ (n' := 0) (k' := 0) (s' := 0) (a' := 0) (l' := 0) (u' := 0) ?_ (P1.out) ?_); (· rfl); (· rfl); intro W' hb hf; have HB := hid hb; have HF := kfg (by omega) (HF) hf; clear hb hf))
    exact bodyPost_ret (v := zr (⟨0, 0, 0, 0, 0, 0⟩, 1)) (resZ rfl _ _ (w.heap.size + 1) (0) (0) (0) (0) (0) (0) (1) rfl rfl HB.out) rfl ⟨rfl, HF.out⟩
  have hm' : mayP ⟨n, k, s, a, l, u⟩ := by simpa using hm
  rw [decide_eq_true hm'] at HM
  by_cases k1 : k = 1
  · skip
    have e : rst ⟨n, k, s, a, l, u⟩ = (z0, 53) := by unfold rst refd; rw [if_neg hm, if_pos k1, if_pos (by decide)]
    rw [e]
    clear e
    subst k1
    clear hm hm' HH
    go_enter Try.func61, Try.ntmps61
    go_wp2_with ((with_reducible refine ld_zone rfl (.tmp 3) rfl w.heap.size ?_ P0.out ?_); · rfl)
    refine (HM.out _).mono ?_
    rintro e w1 ⟨rfl, f1⟩
    have HF := kf f1 HF
    have P0 := hid (P0.out.fr f1)
    have P1 := hid (P1.out.fr f1)
    clear f1
    obtain ⟨_, c1, _, _, _, _⟩ := P0.out.cells
    go_wp2_with (first | ((with_reducible refine st_zone rfl (.tmp 4) (.tmp 13) rfl (w.heap.size + 1) ?_ (n' := 0) (k' := 0) (s' := 0) (a' := 0) (l' := 0) (u' := 0) ?_ (P1.out) ?_); (· rfl); (· rfl); intro W' hb hf; have HB := hid hb; have HF := kfg (by omega) (HF) hf; clear hb hf))
    exact bodyPost_ret (v := zr (⟨0, 0, 0, 0, 0, 0⟩, 53)) (resZ rfl _ _ (w.heap.size + 1) (0) (0) (0) (0) (0) (0) (53) rfl rfl HB.out) rfl ⟨rfl, HF.out⟩
  have k1' : (k == 1) = false := by simpa using k1
  by_cases hh : hurtP s
  · rw [decide_eq_true hh] at HH
    have e : rst ⟨n, k, s, a, l, u⟩ = (z0, 52) := by unfold rst refd; rw [if_neg hm, if_neg k1, if_pos hh, if_pos (by decide)]
    rw [e]
    clear e
    clear hm hm' k1 hh
    go_enter Try.func61, Try.ntmps61
    go_wp2_with ((with_reducible refine ld_zone rfl (.tmp 3) rfl w.heap.size ?_ P0.out ?_); · rfl)
    refine (HM.out _).mono ?_
    rintro e w1 ⟨rfl, f1⟩
    have HF := kf f1 HF
    have P0 := hid (P0.out.fr f1)
    have P1 := hid (P1.out.fr f1)
    clear f1
    obtain ⟨_, c1, _, _, _, _⟩ := P0.out.cells
    go_wp2_with ((with_reducible refine ld_zone rfl (.tmp 3) rfl w.heap.size ?_ P0.out ?_); · rfl)
    refine (HH.out _).mono ?_
    rintro e w1 ⟨rfl, f1⟩
    have HF := kf f1 HF
    have P0 := hid (P0.out.fr f1)
    have P1 := hid (P1.out.fr f1)
    clear f1
    go_wp2_with (first | ((with_reducible refine st_zone rfl (.tmp 4) (.tmp 16) rfl (w.heap.size + 1) ?_ (n' := 0) (k' := 0) (s' := 0) (a' := 0) (l' := 0) (u' := 0) ?_ (P1.out) ?_); (· rfl); (· rfl); intro W' hb hf; have HB := hid hb; have HF := kfg (by omega) (HF) hf; clear hb hf))
    exact bodyPost_ret (v := zr (⟨0, 0, 0, 0, 0, 0⟩, 52)) (resZ rfl _ _ (w.heap.size + 1) (0) (0) (0) (0) (0) (0) (52) rfl rfl HB.out) rfl ⟨rfl, HF.out⟩
  rw [decide_eq_false hh] at HH
  have r0 : ¬ refd ⟨n, k, s, a, l, u⟩ ≠ 0 := by unfold refd; rw [if_neg hm, if_neg k1, if_neg hh]; decide
  have e : rst ⟨n, k, s, a, l, u⟩ = (⟨n, k, 1, a, l, 0⟩, 0) := by unfold rst; rw [if_neg r0]
  rw [e]
  clear e
  clear hm hm' k1 hh r0
  go_enter Try.func61, Try.ntmps61
  go_wp2_with ((with_reducible refine ld_zone rfl (.tmp 3) rfl w.heap.size ?_ P0.out ?_); · rfl)
  refine (HM.out _).mono ?_
  rintro e w1 ⟨rfl, f1⟩
  have HF := kf f1 HF
  have P0 := hid (P0.out.fr f1)
  have P1 := hid (P1.out.fr f1)
  clear f1
  obtain ⟨_, c1, _, _, _, _⟩ := P0.out.cells
  go_wp2_with ((with_reducible refine ld_zone rfl (.tmp 3) rfl w.heap.size ?_ P0.out ?_); · rfl)
  refine (HH.out _).mono ?_
  rintro e w1 ⟨rfl, f1⟩
  have HF := kf f1 HF
  have P0 := hid (P0.out.fr f1)
  have P1 := hid (P1.out.fr f1)
  clear f1
  obtain ⟨_, _, c2, _, _, c5⟩ := P0.out.cells
  obtain ⟨_, _, f2, _, _, f5⟩ := P0.out.frozens
  have Q0 := hid (show BZ _ w.heap.size (n) (k) (1) (a) (l) (0) from ((P0.out : Blk _ _ _ _).set_ 2 (.int .i64 (1)) : Blk _ _ _ _).set_ 5 (.int .i64 (0)))
  go_wp2_with (first | ((with_reducible refine ld_zone rfl (.tmp 3) rfl w.heap.size ?_ Q0.out ?_); · rfl) | ((with_reducible refine st_zone rfl (.tmp 4) (.tmp 48) rfl (w.heap.size + 1) ?_ (n' := n) (k' := k) (s' := 1) (a' := a) (l' := l) (u' := 0) ?_ (((P1.out).far (p := ⟨w.heap.size, 2, none⟩) (by simp) (.int .i64 (1))).far (p := ⟨w.heap.size, 5, none⟩) (by simp) (.int .i64 (0))) ?_); (· rfl); (· rfl); intro W' hb hf; have HB := hid hb; have HF := kfg (by omega) (kf1 (p := ⟨w.heap.size, 5, none⟩) (Nat.le_refl _) (kf1 (p := ⟨w.heap.size, 2, none⟩) (Nat.le_refl _) (HF))) hf; clear hb hf))
  exact bodyPost_ret (v := zr (⟨n, k, 1, a, l, 0⟩, 0)) (resZ rfl _ _ (w.heap.size + 1) (n) (k) (1) (a) (l) (0) (0) rfl rfl HB.out) rfl ⟨rfl, HF.out⟩
/-- A new zone. -/
def nw (n k a l : Int) : Zn × Int := if mayP ⟨n, k, if k = 2 then 1 else 0, a, l, 0⟩ then (⟨n, k, if k = 2 then 1 else 0, a, l, 0⟩, 0) else (z0, 1)
theorem Bn0 (w : World) (A : Obj) : BZ ((w.alloc zz).alloc A) w.heap.size 0 0 0 0 0 0 := Blk.alloc (BZ.new w 0 0 0 0 0 0) _
theorem Bn1 (w : World) (n k s a l u : Int) : BZ ((w.alloc zz).alloc (bz n k s a l u)) (w.heap.size + 1) n k s a l u := by
  have := BZ.new (w.alloc zz) n k s a l u
  simpa using this

set_option maxRecDepth 100000 in
set_option maxHeartbeats 4000000 in
theorem new_ok (n k a l : Int) (w : World) : Calls Try.prog 22 #[.int .i64 n, .int .i64 k, .int .i64 a, .int .i64 l] w fun e w' => RetZ w w' e (nw n k a l) := by
  obtain ⟨r, hr⟩ : ∃ r, nw n k a l = r := ⟨_, rfl⟩
  rw [hr]
  unfold nw at hr
  by_cases k2 : k = 2
  · subst k2
    rw [if_pos rfl] at hr
    have HM := hid (fun w => may_ok n 2 1 a l 0 w)
    by_cases hm : mayP ⟨n, 2, 1, a, l, 0⟩
    · rw [decide_eq_true hm] at HM
      rw [if_pos hm] at hr
      subst hr
      clear hm
      have HF := hid (FF2 w zz (bz n 2 1 a l 0))
      have P0 := hid (Bn0 w (bz n 2 1 a l 0))
      have P1 := hid (Bn1 w n 2 1 a l 0)
      go_enter Try.func22, Try.ntmps22
      go_wp2_with fail
      refine (HM.out _).mono ?_
      rintro e w1 ⟨rfl, f1⟩
      have HF := kf f1 HF
      have P0 := hid (P0.out.fr f1)
      have P1 := hid (P1.out.fr f1)
      clear f1
      go_wp2_with (first | ((with_reducible refine ld_zone rfl (.tmp 10) rfl (w.heap.size + 1) ?_ P1.out ?_); · rfl) | ((with_reducible refine st_zone rfl (.tmp 8) (.tmp 23) rfl w.heap.size ?_ (n' := n) (k' := 2) (s' := 1) (a' := a) (l' := l) (u' := 0) ?_ P0.out ?_); (· rfl); (· rfl); intro W' hb hf; have HB := hid hb; have HF := kfg (by omega) HF hf; clear hb hf))
      exact bodyPost_ret (v := zr (⟨n, 2, 1, a, l, 0⟩, 0)) (resZ rfl _ _ w.heap.size (n) (2) (1) (a) (l) (0) (0) rfl rfl HB.out) rfl ⟨rfl, HF.out⟩
    · rw [decide_eq_false hm] at HM
      rw [if_neg hm] at hr
      subst hr
      clear hm
      have HF := hid (FF2 w zz (bz n 2 1 a l 0))
      have P0 := hid (Bn0 w (bz n 2 1 a l 0))
      have P1 := hid (Bn1 w n 2 1 a l 0)
      go_enter Try.func22, Try.ntmps22
      go_wp2_with fail
      refine (HM.out _).mono ?_
      rintro e w1 ⟨rfl, f1⟩
      have HF := kf f1 HF
      have P0 := hid (P0.out.fr f1)
      have P1 := hid (P1.out.fr f1)
      clear f1
      go_wp2_with (first | ((with_reducible refine st_zone rfl (.tmp 8) (.tmp 22) rfl w.heap.size ?_ (n' := 0) (k' := 0) (s' := 0) (a' := 0) (l' := 0) (u' := 0) ?_ P0.out ?_); (· rfl); (· rfl); intro W' hb hf; have HB := hid hb; have HF := kfg (by omega) HF hf; clear hb hf))
      exact bodyPost_ret (v := zr (⟨0, 0, 0, 0, 0, 0⟩, 1)) (resZ rfl _ _ w.heap.size (0) (0) (0) (0) (0) (0) (1) rfl rfl HB.out) rfl ⟨rfl, HF.out⟩
  · rw [if_neg k2] at hr
    have k2' : (k == 2) = false := by simpa using k2
    clear k2
    have HM := hid (fun w => may_ok n k 0 a l 0 w)
    by_cases hm : mayP ⟨n, k, 0, a, l, 0⟩
    · rw [decide_eq_true hm] at HM
      rw [if_pos hm] at hr
      subst hr
      clear hm
      have HF := hid (FF2 w zz (bz n k 0 a l 0))
      have P0 := hid (Bn0 w (bz n k 0 a l 0))
      have P1 := hid (Bn1 w n k 0 a l 0)
      go_enter Try.func22, Try.ntmps22
      go_wp2_with fail
      refine (HM.out _).mono ?_
      rintro e w1 ⟨rfl, f1⟩
      have HF := kf f1 HF
      have P0 := hid (P0.out.fr f1)
      have P1 := hid (P1.out.fr f1)
      clear f1
      go_wp2_with (first | ((with_reducible refine ld_zone rfl (.tmp 10) rfl (w.heap.size + 1) ?_ P1.out ?_); · rfl) | ((with_reducible refine st_zone rfl (.tmp 8) (.tmp 23) rfl w.heap.size ?_ (n' := n) (k' := k) (s' := 0) (a' := a) (l' := l) (u' := 0) ?_ P0.out ?_); (· rfl); (· rfl); intro W' hb hf; have HB := hid hb; have HF := kfg (by omega) HF hf; clear hb hf))
      exact bodyPost_ret (v := zr (⟨n, k, 0, a, l, 0⟩, 0)) (resZ rfl _ _ w.heap.size (n) (k) (0) (a) (l) (0) (0) rfl rfl HB.out) rfl ⟨rfl, HF.out⟩
    · rw [decide_eq_false hm] at HM
      rw [if_neg hm] at hr
      subst hr
      clear hm
      have HF := hid (FF2 w zz (bz n k 0 a l 0))
      have P0 := hid (Bn0 w (bz n k 0 a l 0))
      have P1 := hid (Bn1 w n k 0 a l 0)
      go_enter Try.func22, Try.ntmps22
      go_wp2_with fail
      refine (HM.out _).mono ?_
      rintro e w1 ⟨rfl, f1⟩
      have HF := kf f1 HF
      have P0 := hid (P0.out.fr f1)
      have P1 := hid (P1.out.fr f1)
      clear f1
      go_wp2_with (first | ((with_reducible refine st_zone rfl (.tmp 8) (.tmp 22) rfl w.heap.size ?_ (n' := 0) (k' := 0) (s' := 0) (a' := 0) (l' := 0) (u' := 0) ?_ P0.out ?_); (· rfl); (· rfl); intro W' hb hf; have HB := hid hb; have HF := kfg (by omega) HF hf; clear hb hf))
      exact bodyPost_ret (v := zr (⟨0, 0, 0, 0, 0, 0⟩, 1)) (resZ rfl _ _ w.heap.size (0) (0) (0) (0) (0) (0) (1) rfl rfl HB.out) rfl ⟨rfl, HF.out⟩
end Go.Proofs.Ytjmagbmdobiccaa.ZnG
