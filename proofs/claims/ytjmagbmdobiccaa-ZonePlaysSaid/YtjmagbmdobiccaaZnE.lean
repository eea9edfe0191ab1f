/- Contracts: a zone that is written, by the document; a zone that is hurt, by both. Condition: all numbers are 64 bits. -/
import Derived.Test.YtjmagbmdobiccaaZnD
import Derived.Test.YtjmagbmdobiccaaZnR
namespace Go.Proofs.Ytjmagbmdobiccaa.ZnE
open Go.RowKit MSep MZnM ZnA ZnB ZnR ZnC ZnD

set_option maxRecDepth 100000 in
set_option maxHeartbeats 4000000 in
theorem rwrite_do_t1 (n k a u m : Int) (w : World) (HM0 : ∀ w, Calls Try.prog 19 #[.agg #[.int .i64 n, .int .i64 k, .int .i64 1, .int .i64 a, .int .i64 (u + m), .int .i64 u]] w fun e w' => e = .returned (.bool true) ∧ Fr No w w') (HH0 : ∀ w, Calls Try.prog 109 #[.agg #[.int .i64 n, .int .i64 k, .int .i64 1, .int .i64 a, .int .i64 (u + m), .int .i64 u]] w fun e w' => e = .returned (.bool false) ∧ Fr No w w') (HI0 : ∀ w, Calls Try.prog 69 #[.agg #[.int .i64 n, .int .i64 k, .int .i64 1, .int .i64 a, .int .i64 (u + m), .int .i64 u], .int .i64 (a + u), .int .i64 m] w fun e w' => e = .returned (.bool true) ∧ Fr No w w') (k1' : (k == 1) = false) (hu : 0 ≤ u) (ha : 0 ≤ a ∧ a ≤ 1048576) (hl : u + m ≤ 4096) (h1 : 1 ≤ m) : Calls Try.prog 62 #[.agg #[.int .i64 n, .int .i64 k, .int .i64 1, .int .i64 a, .int .i64 (u + m), .int .i64 u], .int .i64 (a + u), .int .i64 m] w fun e w' => RetZ w w' e (⟨n, k, 5, a, (u + m), u + m⟩, 0) := by
  have HF := hid (FF2 w (bz n k 1 a (u + m) u) zz)
  have P0 := hid (B0z w n k 1 a (u + m) u)
  have P1 := hid (B1z w n k 1 a (u + m) u)
  have HM := hid HM0
  have HH := hid HH0
  have HI := hid HI0
  clear HM0 HH0 HI0
  obtain ⟨ha1, ha2⟩ := ha
  go_enter Try.func62, Try.ntmps62
  go_wp2_with ((with_reducible refine ld_zone rfl (.tmp 3) rfl w.heap.size ?_ P0.out ?_); · rfl)
  refine (HM.out _).mono ?_
  rintro e w1 ⟨rfl, f1⟩
  have HF := kf f1 HF
  have P0 := hid (P0.out.fr f1)
  have P1 := hid (P1.out.fr f1)
  clear f1
  go_wp2_with ((with_reducible refine ld_zone rfl (.tmp 3) rfl w.heap.size ?_ P0.out ?_); · rfl)
  refine (HH.out _).mono ?_
  rintro e w1 ⟨rfl, f1⟩
  have HF := kf f1 HF
  have P0 := hid (P0.out.fr f1)
  have P1 := hid (P1.out.fr f1)
  clear f1
  obtain ⟨_, _, c2, _, _, _⟩ := P0.out.cells
  go_wp2_with ((with_reducible refine ld_zone rfl (.tmp 3) rfl w.heap.size ?_ P0.out ?_); · rfl)
  refine (HI.out _).mono ?_
  rintro e w1 ⟨rfl, f1⟩
  have HF := kf f1 HF
  have P0 := hid (P0.out.fr f1)
  have P1 := hid (P1.out.fr f1)
  clear f1
  obtain ⟨_, c1, c2, c3, c4, c5⟩ := P0.out.cells
  obtain ⟨_, _, f2, _, _, f5⟩ := P0.out.frozens
  clear HM HH HI
  have Q0 := hid (show BZ _ w.heap.size (n) (k) (5) (a) ((u + m)) (u + m) from ((P0.out : Blk _ _ _ _).set_ 5 (.int .i64 (u + m)) : Blk _ _ _ _).set_ 2 (.int .i64 (5)))
  go_wp2_with (first | ((with_reducible refine ld_zone rfl (.tmp 3) rfl w.heap.size ?_ Q0.out ?_); · rfl) | ((with_reducible refine st_zone rfl (.tmp 6) (.tmp 62) rfl (w.heap.size + 1) ?_ (n' := n) (k' := k) (s' := 5) (a' := a) (l' := (u + m)) (u' := u + m) ?_ (((P1.out).far (p := ⟨w.heap.size, 5, none⟩) (by simp) (.int .i64 (u + m))).far (p := ⟨w.heap.size, 2, none⟩) (by simp) (.int .i64 (5))) ?_); (· rfl); (· rfl); intro W' hb hf; have HB := hid hb; have HF := kfg (by omega) (kf1 (p := ⟨w.heap.size, 2, none⟩) (Nat.le_refl _) (kf1 (p := ⟨w.heap.size, 5, none⟩) (Nat.le_refl _) (HF))) hf; clear hb hf))
  exact bodyPost_ret (v := zr (⟨n, k, 5, a, (u + m), u + m⟩, 0)) (resZ rfl _ _ (w.heap.size + 1) (n) (k) (5) (a) ((u + m)) (u + m) (0) rfl rfl HB.out) rfl ⟨rfl, HF.out⟩
set_option maxRecDepth 100000 in
set_option maxHeartbeats 4000000 in
theorem rwrite_do_t2 (n k a u m : Int) (w : World) (HM0 : ∀ w, Calls Try.prog 19 #[.agg #[.int .i64 n, .int .i64 k, .int .i64 2, .int .i64 a, .int .i64 (u + m), .int .i64 u]] w fun e w' => e = .returned (.bool true) ∧ Fr No w w') (HH0 : ∀ w, Calls Try.prog 109 #[.agg #[.int .i64 n, .int .i64 k, .int .i64 2, .int .i64 a, .int .i64 (u + m), .int .i64 u]] w fun e w' => e = .returned (.bool false) ∧ Fr No w w') (HI0 : ∀ w, Calls Try.prog 69 #[.agg #[.int .i64 n, .int .i64 k, .int .i64 2, .int .i64 a, .int .i64 (u + m), .int .i64 u], .int .i64 (a + u), .int .i64 m] w fun e w' => e = .returned (.bool true) ∧ Fr No w w') (k1' : (k == 1) = false) (hu : 0 ≤ u) (ha : 0 ≤ a ∧ a ≤ 1048576) (hl : u + m ≤ 4096) (h1 : 1 ≤ m) : Calls Try.prog 62 #[.agg #[.int .i64 n, .int .i64 k, .int .i64 2, .int .i64 a, .int .i64 (u + m), .int .i64 u], .int .i64 (a + u), .int .i64 m] w fun e w' => RetZ w w' e (⟨n, k, 5, a, (u + m), u + m⟩, 0) := by
  have HF := hid (FF2 w (bz n k 2 a (u + m) u) zz)
  have P0 := hid (B0z w n k 2 a (u + m) u)
  have P1 := hid (B1z w n k 2 a (u + m) u)
  have HM := hid HM0
  have HH := hid HH0
  have HI := hid HI0
  clear HM0 HH0 HI0
  obtain ⟨ha1, ha2⟩ := ha
  go_enter Try.func62, Try.ntmps62
  go_wp2_with ((with_reducible refine ld_zone rfl (.tmp 3) rfl w.heap.size ?_ P0.out ?_); · rfl)
  refine (HM.out _).mono ?_
  rintro e w1 ⟨rfl, f1⟩
  have HF := kf f1 HF
  have P0 := hid (P0.out.fr f1)
  have P1 := hid (P1.out.fr f1)
  clear f1
  go_wp2_with ((with_reducible refine ld_zone rfl (.tmp 3) rfl w.heap.size ?_ P0.out ?_); · rfl)
  refine (HH.out _).mono ?_
  rintro e w1 ⟨rfl, f1⟩
  have HF := kf f1 HF
  have P0 := hid (P0.out.fr f1)
  have P1 := hid (P1.out.fr f1)
  clear f1
  obtain ⟨_, _, c2, _, _, _⟩ := P0.out.cells
  go_wp2_with ((with_reducible refine ld_zone rfl (.tmp 3) rfl w.heap.size ?_ P0.out ?_); · rfl)
  refine (HI.out _).mono ?_
  rintro e w1 ⟨rfl, f1⟩
  have HF := kf f1 HF
  have P0 := hid (P0.out.fr f1)
  have P1 := hid (P1.out.fr f1)
  clear f1
  obtain ⟨_, c1, c2, c3, c4, c5⟩ := P0.out.cells
  obtain ⟨_, _, f2, _, _, f5⟩ := P0.out.frozens
  clear HM HH HI
  have Q0 := hid (show BZ _ w.heap.size (n) (k) (5) (a) ((u + m)) (u + m) from ((P0.out : Blk _ _ _ _).set_ 5 (.int .i64 (u + m)) : Blk _ _ _ _).set_ 2 (.int .i64 (5)))
  go_wp2_with (first | ((with_reducible refine ld_zone rfl (.tmp 3) rfl w.heap.size ?_ Q0.out ?_); · rfl) | ((with_reducible refine st_zone rfl (.tmp 6) (.tmp 62) rfl (w.heap.size + 1) ?_ (n' := n) (k' := k) (s' := 5) (a' := a) (l' := (u + m)) (u' := u + m) ?_ (((P1.out).far (p := ⟨w.heap.size, 5, none⟩) (by simp) (.int .i64 (u + m))).far (p := ⟨w.heap.size, 2, none⟩) (by simp) (.int .i64 (5))) ?_); (· rfl); (· rfl); intro W' hb hf; have HB := hid hb; have HF := kfg (by omega) (kf1 (p := ⟨w.heap.size, 2, none⟩) (Nat.le_refl _) (kf1 (p := ⟨w.heap.size, 5, none⟩) (Nat.le_refl _) (HF))) hf; clear hb hf))
  exact bodyPost_ret (v := zr (⟨n, k, 5, a, (u + m), u + m⟩, 0)) (resZ rfl _ _ (w.heap.size + 1) (n) (k) (5) (a) ((u + m)) (u + m) (0) rfl rfl HB.out) rfl ⟨rfl, HF.out⟩
set_option maxRecDepth 100000 in
set_option maxHeartbeats 4000000 in
theorem rwrite_do_t3 (n k a u m : Int) (w : World) (HM0 : ∀ w, Calls Try.prog 19 #[.agg #[.int .i64 n, .int .i64 k, .int .i64 3, .int .i64 a, .int .i64 (u + m), .int .i64 u]] w fun e w' => e = .returned (.bool true) ∧ Fr No w w') (HH0 : ∀ w, Calls Try.prog 109 #[.agg #[.int .i64 n, .int .i64 k, .int .i64 3, .int .i64 a, .int .i64 (u + m), .int .i64 u]] w fun e w' => e = .returned (.bool false) ∧ Fr No w w') (HI0 : ∀ w, Calls Try.prog 69 #[.agg #[.int .i64 n, .int .i64 k, .int .i64 3, .int .i64 a, .int .i64 (u + m), .int .i64 u], .int .i64 (a + u), .int .i64 m] w fun e w' => e = .returned (.bool true) ∧ Fr No w w') (k1' : (k == 1) = false) (hu : 0 ≤ u) (ha : 0 ≤ a ∧ a ≤ 1048576) (hl : u + m ≤ 4096) (h1 : 1 ≤ m) : Calls Try.prog 62 #[.agg #[.int .i64 n, .int .i64 k, .int .i64 3, .int .i64 a, .int .i64 (u + m), .int .i64 u], .int .i64 (a + u), .int .i64 m] w fun e w' => RetZ w w' e (⟨n, k, 5, a, (u + m), u + m⟩, 0) := by
  have HF := hid (FF2 w (bz n k 3 a (u + m) u) zz)
  have P0 := hid (B0z w n k 3 a (u + m) u)
  have P1 := hid (B1z w n k 3 a (u + m) u)
  have HM := hid HM0
  have HH := hid HH0
  have HI := hid HI0
  clear HM0 HH0 HI0
  obtain ⟨ha1, ha2⟩ := ha
  go_enter Try.func62, Try.ntmps62
  go_wp2_with ((with_reducible refine ld_zone rfl (.tmp 3) rfl w.heap.size ?_ P0.out ?_); · rfl)
  refine (HM.out _).mono ?_
  rintro e w1 ⟨rfl, f1⟩
  have HF := kf f1 HF
  have P0 := hid (P0.out.fr f1)
  have P1 := hid (P1.out.fr f1)
  clear f1
  go_wp2_with ((with_reducible refine ld_zone rfl (.tmp 3) rfl w.heap.size ?_ P0.out ?_); · rfl)
  refine (HH.out _).mono ?_
  rintro e w1 ⟨rfl, f1⟩
  have HF := kf f1 HF
  have P0 := hid (P0.out.fr f1)
  have P1 := hid (P1.out.fr f1)
  clear f1
  obtain ⟨_, _, c2, _, _, _⟩ := P0.out.cells
  go_wp2_with ((with_reducible refine ld_zone rfl (.tmp 3) rfl w.heap.size ?_ P0.out ?_); · rfl)
  refine (HI.out _).mono ?_
  rintro e w1 ⟨rfl, f1⟩
  have HF := kf f1 HF
  have P0 := hid (P0.out.fr f1)
  have P1 := hid (P1.out.fr f1)
  clear f1
  obtain ⟨_, c1, c2, c3, c4, c5⟩ := P0.out.cells
  obtain ⟨_, _, f2, _, _, f5⟩ := P0.out.frozens
  clear HM HH HI
  have Q0 := hid (show BZ _ w.heap.size (n) (k) (5) (a) ((u + m)) (u + m) from ((P0.out : Blk _ _ _ _).set_ 5 (.int .i64 (u + m)) : Blk _ _ _ _).set_ 2 (.int .i64 (5)))
  go_wp2_with (first | ((with_reducible refine ld_zone rfl (.tmp 3) rfl w.heap.size ?_ Q0.out ?_); · rfl) | ((with_reducible refine st_zone rfl (.tmp 6) (.tmp 62) rfl (w.heap.size + 1) ?_ (n' := n) (k' := k) (s' := 5) (a' := a) (l' := (u + m)) (u' := u + m) ?_ (((P1.out).far (p := ⟨w.heap.size, 5, none⟩) (by simp) (.int .i64 (u + m))).far (p := ⟨w.heap.size, 2, none⟩) (by simp) (.int .i64 (5))) ?_); (· rfl); (· rfl); intro W' hb hf; have HB := hid hb; have HF := kfg (by omega) (kf1 (p := ⟨w.heap.size, 2, none⟩) (Nat.le_refl _) (kf1 (p := ⟨w.heap.size, 5, none⟩) (Nat.le_refl _) (HF))) hf; clear hb hf))
  exact bodyPost_ret (v := zr (⟨n, k, 5, a, (u + m), u + m⟩, 0)) (resZ rfl _ _ (w.heap.size + 1) (n) (k) (5) (a) ((u + m)) (u + m) (0) rfl rfl HB.out) rfl ⟨rfl, HF.out⟩
set_option maxRecDepth 100000 in
set_option maxHeartbeats 4000000 in
theorem rwrite_do_t4 (n k a u m : Int) (w : World) (HM0 : ∀ w, Calls Try.prog 19 #[.agg #[.int .i64 n, .int .i64 k, .int .i64 4, .int .i64 a, .int .i64 (u + m), .int .i64 u]] w fun e w' => e = .returned (.bool true) ∧ Fr No w w') (HH0 : ∀ w, Calls Try.prog 109 #[.agg #[.int .i64 n, .int .i64 k, .int .i64 4, .int .i64 a, .int .i64 (u + m), .int .i64 u]] w fun e w' => e = .returned (.bool false) ∧ Fr No w w') (HI0 : ∀ w, Calls Try.prog 69 #[.agg #[.int .i64 n, .int .i64 k, .int .i64 4, .int .i64 a, .int .i64 (u + m), .int .i64 u], .int .i64 (a + u), .int .i64 m] w fun e w' => e = .returned (.bool true) ∧ Fr No w w') (k1' : (k == 1) = false) (hu : 0 ≤ u) (ha : 0 ≤ a ∧ a ≤ 1048576) (hl : u + m ≤ 4096) (h1 : 1 ≤ m) : Calls Try.prog 62 #[.agg #[.int .i64 n, .int .i64 k, .int .i64 4, .int .i64 a, .int .i64 (u + m), .int .i64 u], .int .i64 (a + u), .int .i64 m] w fun e w' => RetZ w w' e (⟨n, k, 5, a, (u + m), u + m⟩, 0) := by
  have HF := hid (FF2 w (bz n k 4 a (u + m) u) zz)
  have P0 := hid (B0z w n k 4 a (u + m) u)
  have P1 := hid (B1z w n k 4 a (u + m) u)
  have HM := hid HM0
  have HH := hid HH0
  have HI := hid HI0
  clear HM0 HH0 HI0
  obtain ⟨ha1, ha2⟩ := ha
  go_enter Try.func62, Try.ntmps62
  go_wp2_with ((with_reducible refine ld_zone rfl (.tmp 3) rfl w.heap.size ?_ P0.out ?_); · rfl)
  refine (HM.out _).mono ?_
  rintro e w1 ⟨rfl, f1⟩
  have HF := kf f1 HF
  have P0 := hid (P0.out.fr f1)
  have P1 := hid (P1.out.fr f1)
  clear f1
  go_wp2_with ((with_reducible refine ld_zone rfl (.tmp 3) rfl w.heap.size ?_ P0.out ?_); · rfl)
  refine (HH.out _).mono ?_
  rintro e w1 ⟨rfl, f1⟩
  have HF := kf f1 HF
  have P0 := hid (P0.out.fr f1)
  have P1 := hid (P1.out.fr f1)
  clear f1
  obtain ⟨_, _, c2, _, _, _⟩ := P0.out.cells
  go_wp2_with ((with_reducible refine ld_zone rfl (.tmp 3) rfl w.heap.size ?_ P0.out ?_); · rfl)
  refine (HI.out _).mono ?_
  rintro e w1 ⟨rfl, f1⟩
  have HF := kf f1 HF
  have P0 := hid (P0.out.fr f1)
  have P1 := hid (P1.out.fr f1)
  clear f1
  obtain ⟨_, c1, c2, c3, c4, c5⟩ := P0.out.cells
  obtain ⟨_, _, f2, _, _, f5⟩ := P0.out.frozens
  clear HM HH HI
  have Q0 := hid (show BZ _ w.heap.size (n) (k) (5) (a) ((u + m)) (u + m) from ((P0.out : Blk _ _ _ _).set_ 5 (.int .i64 (u + m)) : Blk _ _ _ _).set_ 2 (.int .i64 (5)))
  go_wp2_with (first | ((with_reducible refine ld_zone rfl (.tmp 3) rfl w.heap.size ?_ Q0.out ?_); · rfl) | ((with_reducible refine st_zone rfl (.tmp 6) (.tmp 62) rfl (w.heap.size + 1) ?_ (n' := n) (k' := k) (s' := 5) (a' := a) (l' := (u + m)) (u' := u + m) ?_ (((P1.out).far (p := ⟨w.heap.size, 5, none⟩) (by simp) (.int .i64 (u + m))).far (p := ⟨w.heap.size, 2, none⟩) (by simp) (.int .i64 (5))) ?_); (· rfl); (· rfl); intro W' hb hf; have HB := hid hb; have HF := kfg (by omega) (kf1 (p := ⟨w.heap.size, 2, none⟩) (Nat.le_refl _) (kf1 (p := ⟨w.heap.size, 5, none⟩) (Nat.le_refl _) (HF))) hf; clear hb hf))
  exact bodyPost_ret (v := zr (⟨n, k, 5, a, (u + m), u + m⟩, 0)) (resZ rfl _ _ (w.heap.size + 1) (n) (k) (5) (a) ((u + m)) (u + m) (0) rfl rfl HB.out) rfl ⟨rfl, HF.out⟩
set_option maxRecDepth 100000 in
set_option maxHeartbeats 4000000 in
theorem rwrite_do_f1 (n k a l u m : Int) (w : World) (HM0 : ∀ w, Calls Try.prog 19 #[.agg #[.int .i64 n, .int .i64 k, .int .i64 1, .int .i64 a, .int .i64 l, .int .i64 u]] w fun e w' => e = .returned (.bool true) ∧ Fr No w w') (HH0 : ∀ w, Calls Try.prog 109 #[.agg #[.int .i64 n, .int .i64 k, .int .i64 1, .int .i64 a, .int .i64 l, .int .i64 u]] w fun e w' => e = .returned (.bool false) ∧ Fr No w w') (HI0 : ∀ w, Calls Try.prog 69 #[.agg #[.int .i64 n, .int .i64 k, .int .i64 1, .int .i64 a, .int .i64 l, .int .i64 u], .int .i64 (a + u), .int .i64 m] w fun e w' => e = .returned (.bool true) ∧ Fr No w w') (k1' : (k == 1) = false) (hu : 0 ≤ u ∧ u ≤ l) (ha : 0 ≤ a ∧ a ≤ 1048576) (hl : 1 ≤ l ∧ l ≤ 4096) (h1 : 1 ≤ m) (hw : u + m ≤ l) (hf : ¬ u + m = l) : Calls Try.prog 62 #[.agg #[.int .i64 n, .int .i64 k, .int .i64 1, .int .i64 a, .int .i64 l, .int .i64 u], .int .i64 (a + u), .int .i64 m] w fun e w' => RetZ w w' e (⟨n, k, if (1 : Int) = 3 then 3 else 2, a, l, u + m⟩, 0) := by
  rw [show (if (1 : Int) = 3 then (3 : Int) else 2) = 2 by decide]
  have HF := hid (FF2 w (bz n k 1 a l u) zz)
  have P0 := hid (B0z w n k 1 a l u)
  have P1 := hid (B1z w n k 1 a l u)
  have HM := hid HM0
  have HH := hid HH0
  have HI := hid HI0
  clear HM0 HH0 HI0
  obtain ⟨ha1, ha2⟩ := ha
  obtain ⟨hl1, hl2⟩ := hl
  obtain ⟨hu1, hu2⟩ := hu
  have hf' : (u + m == l) = false := by simpa using hf
  clear hf
  go_enter Try.func62, Try.ntmps62
  go_wp2_with ((with_reducible refine ld_zone rfl (.tmp 3) rfl w.heap.size ?_ P0.out ?_); · rfl)
  refine (HM.out _).mono ?_
  rintro e w1 ⟨rfl, f1⟩
  have HF := kf f1 HF
  have P0 := hid (P0.out.fr f1)
  have P1 := hid (P1.out.fr f1)
  clear f1
  go_wp2_with ((with_reducible refine ld_zone rfl (.tmp 3) rfl w.heap.size ?_ P0.out ?_); · rfl)
  refine (HH.out _).mono ?_
  rintro e w1 ⟨rfl, f1⟩
  have HF := kf f1 HF
  have P0 := hid (P0.out.fr f1)
  have P1 := hid (P1.out.fr f1)
  clear f1
  obtain ⟨_, _, c2, _, _, _⟩ := P0.out.cells
  go_wp2_with ((with_reducible refine ld_zone rfl (.tmp 3) rfl w.heap.size ?_ P0.out ?_); · rfl)
  refine (HI.out _).mono ?_
  rintro e w1 ⟨rfl, f1⟩
  have HF := kf f1 HF
  have P0 := hid (P0.out.fr f1)
  have P1 := hid (P1.out.fr f1)
  clear f1
  obtain ⟨_, c1, c2, c3, c4, c5⟩ := P0.out.cells
  obtain ⟨_, _, f2, _, _, f5⟩ := P0.out.frozens
  clear HM HH HI
  have Q0 := hid (show BZ _ w.heap.size (n) (k) (2) (a) (l) (u + m) from ((P0.out : Blk _ _ _ _).set_ 5 (.int .i64 (u + m)) : Blk _ _ _ _).set_ 2 (.int .i64 (2)))
  go_wp2_with (first | ((with_reducible refine ld_zone rfl (.tmp 3) rfl w.heap.size ?_ Q0.out ?_); · rfl) | ((with_reducible refine st_zone rfl (.tmp 6) (.tmp 62) rfl (w.heap.size + 1) ?_ (n' := n) (k' := k) (s' := 2) (a' := a) (l' := l) (u' := u + m) ?_ (((P1.out).far (p := ⟨w.heap.size, 5, none⟩) (by simp) (.int .i64 (u + m))).far (p := ⟨w.heap.size, 2, none⟩) (by simp) (.int .i64 (2))) ?_); (· rfl); (· rfl); intro W' hb hf; have HB := hid hb; have HF := kfg (by omega) (kf1 (p := ⟨w.heap.size, 2, none⟩) (Nat.le_refl _) (kf1 (p := ⟨w.heap.size, 5, none⟩) (Nat.le_refl _) (HF))) hf; clear hb hf))
  exact bodyPost_ret (v := zr (⟨n, k, 2, a, l, u + m⟩, 0)) (resZ rfl _ _ (w.heap.size + 1) (n) (k) (2) (a) (l) (u + m) (0) rfl rfl HB.out) rfl ⟨rfl, HF.out⟩
set_option maxRecDepth 100000 in
set_option maxHeartbeats 4000000 in
theorem rwrite_do_f2 (n k a l u m : Int) (w : World) (HM0 : ∀ w, Calls Try.prog 19 #[.agg #[.int .i64 n, .int .i64 k, .int .i64 2, .int .i64 a, .int .i64 l, .int .i64 u]] w fun e w' => e = .returned (.bool true) ∧ Fr No w w') (HH0 : ∀ w, Calls Try.prog 109 #[.agg #[.int .i64 n, .int .i64 k, .int .i64 2, .int .i64 a, .int .i64 l, .int .i64 u]] w fun e w' => e = .returned (.bool false) ∧ Fr No w w') (HI0 : ∀ w, Calls Try.prog 69 #[.agg #[.int .i64 n, .int .i64 k, .int .i64 2, .int .i64 a, .int .i64 l, .int .i64 u], .int .i64 (a + u), .int .i64 m] w fun e w' => e = .returned (.bool true) ∧ Fr No w w') (k1' : (k == 1) = false) (hu : 0 ≤ u ∧ u ≤ l) (ha : 0 ≤ a ∧ a ≤ 1048576) (hl : 1 ≤ l ∧ l ≤ 4096) (h1 : 1 ≤ m) (hw : u + m ≤ l) (hf : ¬ u + m = l) : Calls Try.prog 62 #[.agg #[.int .i64 n, .int .i64 k, .int .i64 2, .int .i64 a, .int .i64 l, .int .i64 u], .int .i64 (a + u), .int .i64 m] w fun e w' => RetZ w w' e (⟨n, k, if (2 : Int) = 3 then 3 else 2, a, l, u + m⟩, 0) := by
  rw [show (if (2 : Int) = 3 then (3 : Int) else 2) = 2 by decide]
  have HF := hid (FF2 w (bz n k 2 a l u) zz)
  have P0 := hid (B0z w n k 2 a l u)
  have P1 := hid (B1z w n k 2 a l u)
  have HM := hid HM0
  have HH := hid HH0
  have HI := hid HI0
  clear HM0 HH0 HI0
  obtain ⟨ha1, ha2⟩ := ha
  obtain ⟨hl1, hl2⟩ := hl
  obtain ⟨hu1, hu2⟩ := hu
  have hf' : (u + m == l) = false := by simpa using hf
  clear hf
  go_enter Try.func62, Try.ntmps62
  go_wp2_with ((with_reducible refine ld_zone rfl (.tmp 3) rfl w.heap.size ?_ P0.out ?_); · rfl)
  refine (HM.out _).mono ?_
  rintro e w1 ⟨rfl, f1⟩
  have HF := kf f1 HF
  have P0 := hid (P0.out.fr f1)
  have P1 := hid (P1.out.fr f1)
  clear f1
  go_wp2_with ((with_reducible refine ld_zone rfl (.tmp 3) rfl w.heap.size ?_ P0.out ?_); · rfl)
  refine (HH.out _).mono ?_
  rintro e w1 ⟨rfl, f1⟩
  have HF := kf f1 HF
  have P0 := hid (P0.out.fr f1)
  have P1 := hid (P1.out.fr f1)
  clear f1
  obtain ⟨_, _, c2, _, _, _⟩ := P0.out.cells
  go_wp2_with ((with_reducible refine ld_zone rfl (.tmp 3) rfl w.heap.size ?_ P0.out ?_); · rfl)
  refine (HI.out _).mono ?_
  rintro e w1 ⟨rfl, f1⟩
  have HF := kf f1 HF
  have P0 := hid (P0.out.fr f1)
  have P1 := hid (P1.out.fr f1)
  clear f1
  obtain ⟨_, c1, c2, c3, c4, c5⟩ := P0.out.cells
  obtain ⟨_, _, f2, _, _, f5⟩ := P0.out.frozens
  clear HM HH HI
  have Q0 := hid (show BZ _ w.heap.size (n) (k) (2) (a) (l) (u + m) from ((P0.out : Blk _ _ _ _).set_ 5 (.int .i64 (u + m)) : Blk _ _ _ _).set_ 2 (.int .i64 (2)))
  go_wp2_with (first | ((with_reducible refine ld_zone rfl (.tmp 3) rfl w.heap.size ?_ Q0.out ?_); · rfl) | ((with_reducible refine st_zone rfl (.tmp 6) (.tmp 62) rfl (w.heap.size + 1) ?_ (n' := n) (k' := k) (s' := 2) (a' := a) (l' := l) (u' := u + m) ?_ (((P1.out).far (p := ⟨w.heap.size, 5, none⟩) (by simp) (.int .i64 (u + m))).far (p := ⟨w.heap.size, 2, none⟩) (by simp) (.int .i64 (2))) ?_); (· rfl); (· rfl); intro W' hb hf; have HB := hid hb; have HF := kfg (by omega) (kf1 (p := ⟨w.heap.size, 2, none⟩) (Nat.le_refl _) (kf1 (p := ⟨w.heap.size, 5, none⟩) (Nat.le_refl _) (HF))) hf; clear hb hf))
  exact bodyPost_ret (v := zr (⟨n, k, 2, a, l, u + m⟩, 0)) (resZ rfl _ _ (w.heap.size + 1) (n) (k) (2) (a) (l) (u + m) (0) rfl rfl HB.out) rfl ⟨rfl, HF.out⟩
set_option maxRecDepth 100000 in
set_option maxHeartbeats 4000000 in
theorem rwrite_do_f3 (n k a l u m : Int) (w : World) (HM0 : ∀ w, Calls Try.prog 19 #[.agg #[.int .i64 n, .int .i64 k, .int .i64 3, .int .i64 a, .int .i64 l, .int .i64 u]] w fun e w' => e = .returned (.bool true) ∧ Fr No w w') (HH0 : ∀ w, Calls Try.prog 109 #[.agg #[.int .i64 n, .int .i64 k, .int .i64 3, .int .i64 a, .int .i64 l, .int .i64 u]] w fun e w' => e = .returned (.bool false) ∧ Fr No w w') (HI0 : ∀ w, Calls Try.prog 69 #[.agg #[.int .i64 n, .int .i64 k, .int .i64 3, .int .i64 a, .int .i64 l, .int .i64 u], .int .i64 (a + u), .int .i64 m] w fun e w' => e = .returned (.bool true) ∧ Fr No w w') (k1' : (k == 1) = false) (hu : 0 ≤ u ∧ u ≤ l) (ha : 0 ≤ a ∧ a ≤ 1048576) (hl : 1 ≤ l ∧ l ≤ 4096) (h1 : 1 ≤ m) (hw : u + m ≤ l) (hf : ¬ u + m = l) : Calls Try.prog 62 #[.agg #[.int .i64 n, .int .i64 k, .int .i64 3, .int .i64 a, .int .i64 l, .int .i64 u], .int .i64 (a + u), .int .i64 m] w fun e w' => RetZ w w' e (⟨n, k, if (3 : Int) = 3 then 3 else 2, a, l, u + m⟩, 0) := by
  rw [show (if (3 : Int) = 3 then (3 : Int) else 2) = 3 by decide]
  have HF := hid (FF2 w (bz n k 3 a l u) zz)
  have P0 := hid (B0z w n k 3 a l u)
  have P1 := hid (B1z w n k 3 a l u)
  have HM := hid HM0
  have HH := hid HH0
  have HI := hid HI0
  clear HM0 HH0 HI0
  obtain ⟨ha1, ha2⟩ := ha
  obtain ⟨hl1, hl2⟩ := hl
  obtain ⟨hu1, hu2⟩ := hu
  have hf' : (u + m == l) = false := by simpa using hf
  clear hf
  go_enter Try.func62, Try.ntmps62
  go_wp2_with ((with_reducible refine ld_zone rfl (.tmp 3) rfl w.heap.size ?_ P0.out ?_); · rfl)
  refine (HM.out _).mono ?_
  rintro e w1 ⟨rfl, f1⟩
  have HF := kf f1 HF
  have P0 := hid (P0.out.fr f1)
  have P1 := hid (P1.out.fr f1)
  clear f1
  go_wp2_with ((with_reducible refine ld_zone rfl (.tmp 3) rfl w.heap.size ?_ P0.out ?_); · rfl)
  refine (HH.out _).mono ?_
  rintro e w1 ⟨rfl, f1⟩
  have HF := kf f1 HF
  have P0 := hid (P0.out.fr f1)
  have P1 := hid (P1.out.fr f1)
  clear f1
  obtain ⟨_, _, c2, _, _, _⟩ := P0.out.cells
  go_wp2_with ((with_reducible refine ld_zone rfl (.tmp 3) rfl w.heap.size ?_ P0.out ?_); · rfl)
  refine (HI.out _).mono ?_
  rintro e w1 ⟨rfl, f1⟩
  have HF := kf f1 HF
  have P0 := hid (P0.out.fr f1)
  have P1 := hid (P1.out.fr f1)
  clear f1
  obtain ⟨_, c1, c2, c3, c4, c5⟩ := P0.out.cells
  obtain ⟨_, _, f2, _, _, f5⟩ := P0.out.frozens
  clear HM HH HI
  have Q0 := hid (show BZ _ w.heap.size (n) (k) (3) (a) (l) (u + m) from (P0.out : Blk _ _ _ _).set_ 5 (.int .i64 (u + m)))
  go_wp2_with (first | ((with_reducible refine ld_zone rfl (.tmp 3) rfl w.heap.size ?_ Q0.out ?_); · rfl) | ((with_reducible refine st_zone rfl (.tmp 6) (.tmp 62) rfl (w.heap.size + 1) ?_ (n' := n) (k' := k) (s' := 3) (a' := a) (l' := l) (u' := u + m) ?_ ((P1.out).far (p := ⟨w.heap.size, 5, none⟩) (by simp) (.int .i64 (u + m))) ?_); (· rfl); (· rfl); intro W' hb hf; have HB := hid hb; have HF := kfg (by omega) (kf1 (p := ⟨w.heap.size, 5, none⟩) (Nat.le_refl _) (HF)) hf; clear hb hf))
  exact bodyPost_ret (v := zr (⟨n, k, 3, a, l, u + m⟩, 0)) (resZ rfl _ _ (w.heap.size + 1) (n) (k) (3) (a) (l) (u + m) (0) rfl rfl HB.out) rfl ⟨rfl, HF.out⟩
set_option maxRecDepth 100000 in
set_option maxHeartbeats 4000000 in
theorem rwrite_do_f4 (n k a l u m : Int) (w : World) (HM0 : ∀ w, Calls Try.prog 19 #[.agg #[.int .i64 n, .int .i64 k, .int .i64 4, .int .i64 a, .int .i64 l, .int .i64 u]] w fun e w' => e = .returned (.bool true) ∧ Fr No w w') (HH0 : ∀ w, Calls Try.prog 109 #[.agg #[.int .i64 n, .int .i64 k, .int .i64 4, .int .i64 a, .int .i64 l, .int .i64 u]] w fun e w' => e = .returned (.bool false) ∧ Fr No w w') (HI0 : ∀ w, Calls Try.prog 69 #[.agg #[.int .i64 n, .int .i64 k, .int .i64 4, .int .i64 a, .int .i64 l, .int .i64 u], .int .i64 (a + u), .int .i64 m] w fun e w' => e = .returned (.bool true) ∧ Fr No w w') (k1' : (k == 1) = false) (hu : 0 ≤ u ∧ u ≤ l) (ha : 0 ≤ a ∧ a ≤ 1048576) (hl : 1 ≤ l ∧ l ≤ 4096) (h1 : 1 ≤ m) (hw : u + m ≤ l) (hf : ¬ u + m = l) : Calls Try.prog 62 #[.agg #[.int .i64 n, .int .i64 k, .int .i64 4, .int .i64 a, .int .i64 l, .int .i64 u], .int .i64 (a + u), .int .i64 m] w fun e w' => RetZ w w' e (⟨n, k, if (4 : Int) = 3 then 3 else 2, a, l, u + m⟩, 0) := by
  rw [show (if (4 : Int) = 3 then (3 : Int) else 2) = 2 by decide]
  have HF := hid (FF2 w (bz n k 4 a l u) zz)
  have P0 := hid (B0z w n k 4 a l u)
  have P1 := hid (B1z w n k 4 a l u)
  have HM := hid HM0
  have HH := hid HH0
  have HI := hid HI0
  clear HM0 HH0 HI0
  obtain ⟨ha1, ha2⟩ := ha
  obtain ⟨hl1, hl2⟩ := hl
  obtain ⟨hu1, hu2⟩ := hu
  have hf' : (u + m == l) = false := by simpa using hf
  clear hf
  go_enter Try.func62, Try.ntmps62
  go_wp2_with ((with_reducible refine ld_zone rfl (.tmp 3) rfl w.heap.size ?_ P0.out ?_); · rfl)
  refine (HM.out _).mono ?_
  rintro e w1 ⟨rfl, f1⟩
  have HF := kf f1 HF
  have P0 := hid (P0.out.fr f1)
  have P1 := hid (P1.out.fr f1)
  clear f1
  go_wp2_with ((with_reducible refine ld_zone rfl (.tmp 3) rfl w.heap.size ?_ P0.out ?_); · rfl)
  refine (HH.out _).mono ?_
  rintro e w1 ⟨rfl, f1⟩
  have HF := kf f1 HF
  have P0 := hid (P0.out.fr f1)
  have P1 := hid (P1.out.fr f1)
  clear f1
  obtain ⟨_, _, c2, _, _, _⟩ := P0.out.cells
  go_wp2_with ((with_reducible refine ld_zone rfl (.tmp 3) rfl w.heap.size ?_ P0.out ?_); · rfl)
  refine (HI.out _).mono ?_
  rintro e w1 ⟨rfl, f1⟩
  have HF := kf f1 HF
  have P0 := hid (P0.out.fr f1)
  have P1 := hid (P1.out.fr f1)
  clear f1
  obtain ⟨_, c1, c2, c3, c4, c5⟩ := P0.out.cells
  obtain ⟨_, _, f2, _, _, f5⟩ := P0.out.frozens
  clear HM HH HI
  have Q0 := hid (show BZ _ w.heap.size (n) (k) (2) (a) (l) (u + m) from ((P0.out : Blk _ _ _ _).set_ 5 (.int .i64 (u + m)) : Blk _ _ _ _).set_ 2 (.int .i64 (2)))
  go_wp2_with (first | ((with_reducible refine ld_zone rfl (.tmp 3) rfl w.heap.size ?_ Q0.out ?_); · rfl) | ((with_reducible refine st_zone rfl (.tmp 6) (.tmp 62) rfl (w.heap.size + 1) ?_ (n' := n) (k' := k) (s' := 2) (a' := a) (l' := l) (u' := u + m) ?_ (((P1.out).far (p := ⟨w.heap.size, 5, none⟩) (by simp) (.int .i64 (u + m))).far (p := ⟨w.heap.size, 2, none⟩) (by simp) (.int .i64 (2))) ?_); (· rfl); (· rfl); intro W' hb hf; have HB := hid hb; have HF := kfg (by omega) (kf1 (p := ⟨w.heap.size, 2, none⟩) (Nat.le_refl _) (kf1 (p := ⟨w.heap.size, 5, none⟩) (Nat.le_refl _) (HF))) hf; clear hb hf))
  exact bodyPost_ret (v := zr (⟨n, k, 2, a, l, u + m⟩, 0)) (resZ rfl _ _ (w.heap.size + 1) (n) (k) (2) (a) (l) (u + m) (0) rfl rfl HB.out) rfl ⟨rfl, HF.out⟩
theorem rwrite_do (n k s a l u m : Int) (w : World) (HM0 : ∀ w, Calls Try.prog 19 #[.agg #[.int .i64 n, .int .i64 k, .int .i64 s, .int .i64 a, .int .i64 l, .int .i64 u]] w fun e w' => e = .returned (.bool true) ∧ Fr No w w') (HH0 : ∀ w, Calls Try.prog 109 #[.agg #[.int .i64 n, .int .i64 k, .int .i64 s, .int .i64 a, .int .i64 l, .int .i64 u]] w fun e w' => e = .returned (.bool false) ∧ Fr No w w') (HI0 : ∀ w, Calls Try.prog 69 #[.agg #[.int .i64 n, .int .i64 k, .int .i64 s, .int .i64 a, .int .i64 l, .int .i64 u], .int .i64 (a + u), .int .i64 m] w fun e w' => e = .returned (.bool true) ∧ Fr No w w') (h5' : (s == 5) = false) (k1' : (k == 1) = false) (hu : 0 ≤ u ∧ u ≤ l) (hs : s = 1 ∨ s = 2 ∨ s = 3 ∨ s = 4) (hl : 1 ≤ l ∧ l ≤ 4096) (ha : 0 ≤ a ∧ a ≤ 1048576) (h1 : 1 ≤ m) (hw : u + m ≤ l) : Calls Try.prog 62 #[.agg #[.int .i64 n, .int .i64 k, .int .i64 s, .int .i64 a, .int .i64 l, .int .i64 u], .int .i64 (a + u), .int .i64 m] w fun e w' => RetZ w w' e (⟨n, k, if u + m = l then 5 else if s = 3 then 3 else 2, a, l, u + m⟩, 0) := by
  by_cases hf : u + m = l
  · rcases hs with rfl | rfl | rfl | rfl
    · rw [if_pos hf]
      subst hf
      exact rwrite_do_t1 n k a u m w HM0 HH0 HI0 k1' hu.1 ha hl.2 h1
    · rw [if_pos hf]
      subst hf
      exact rwrite_do_t2 n k a u m w HM0 HH0 HI0 k1' hu.1 ha hl.2 h1
    · rw [if_pos hf]
      subst hf
      exact rwrite_do_t3 n k a u m w HM0 HH0 HI0 k1' hu.1 ha hl.2 h1
    · rw [if_pos hf]
      subst hf
      exact rwrite_do_t4 n k a u m w HM0 HH0 HI0 k1' hu.1 ha hl.2 h1
  · rcases hs with rfl | rfl | rfl | rfl
    · rw [if_neg hf]
      exact rwrite_do_f1 n k a l u m w HM0 HH0 HI0 k1' hu ha hl h1 hw hf
    · rw [if_neg hf]
      exact rwrite_do_f2 n k a l u m w HM0 HH0 HI0 k1' hu ha hl h1 hw hf
    · rw [if_neg hf]
      exact rwrite_do_f3 n k a l u m w HM0 HH0 HI0 k1' hu ha hl h1 hw hf
    · rw [if_neg hf]
      exact rwrite_do_f4 n k a l u m w HM0 HH0 HI0 k1' hu ha hl h1 hw hf
set_option maxRecDepth 100000 in
set_option maxHeartbeats 40000000 in
theorem rwrite_ok (n k s a l u x m : Int) (w : World) : Calls Try.prog 62 #[.agg #[.int .i64 n, .int .i64 k, .int .i64 s, .int .i64 a, .int .i64 l, .int .i64 u], .int .i64 x, .int .i64 m] w fun e w' => RetZ w w' e (wrt ⟨n, k, s, a, l, u⟩ x m) := by
  have HF := hid (FF2 w (bz n k s a l u) zz)
  have P0 := hid (B0z w n k s a l u)
  have P1 := hid (B1z w n k s a l u)
  have HM := hid (fun w => rmay_ok n k s a l u w)
  have HH := hid (fun w => hard_ok n k s a l u w)
  by_cases hm : ¬ mayP ⟨n, k, s, a, l, u⟩
  · rw [decide_eq_false hm] at HM
    have e : wrt ⟨n, k, s, a, l, u⟩ x m = (z0, 1) := by unfold wrt; rw [if_pos (.inl hm)]
    rw [e]
    clear e
    clear hm HH
    go_enter Try.func62, Try.ntmps62
    go_wp2_with ((with_reducible refine ld_zone rfl (.tmp 3) rfl w.heap.size ?_ P0.out ?_); · rfl)
    refine (HM.out _).mono ?_
    rintro e w1 ⟨rfl, f1⟩
    have HF := kf f1 HF
    have P0 := hid (P0.out.fr f1)
    have P1 := hid (P1.out.fr f1)
    clear f1
    go_wp2_with (first | ((with_reducible refine st_zone rfl (.tmp 6) (.tmp 16) rfl (w.heap.size + 1) ?_ (n' := 0) (k' := 0) (s' := 0) (a' := 0) (l' := 0) (u' := 0) ?_ (P1.out) ?_); (· rfl); (· rfl); intro W' hb hf; have HB := hid hb; have HF := kfg (by omega) (HF) hf; clear hb hf))
    exact bodyPost_ret (v := zr (⟨0, 0, 0, 0, 0, 0⟩, 1)) (resZ rfl _ _ (w.heap.size + 1) (0) (0) (0) (0) (0) (0) (1) rfl rfl HB.out) rfl ⟨rfl, HF.out⟩
  have hm' : mayP ⟨n, k, s, a, l, u⟩ := by simpa using hm
  rw [decide_eq_true hm'] at HM
  have hl : 1 ≤ l ∧ l ≤ 4096 := hm'.2.1
  have ha : 0 ≤ a ∧ a ≤ 1048576 := hm'.2.2.1
  have HI := hid (fun w => rin_ok n k s a l u x m w hl ha)
  by_cases h1 : m < 1
  · skip
    have e : wrt ⟨n, k, s, a, l, u⟩ x m = (z0, 1) := by unfold wrt; rw [if_pos (.inr h1)]
    rw [e]
    clear e
    clear hm hm' hl ha HI HH
    go_enter Try.func62, Try.ntmps62
    go_wp2_with ((with_reducible refine ld_zone rfl (.tmp 3) rfl w.heap.size ?_ P0.out ?_); · rfl)
    refine (HM.out _).mono ?_
    rintro e w1 ⟨rfl, f1⟩
    have HF := kf f1 HF
    have P0 := hid (P0.out.fr f1)
    have P1 := hid (P1.out.fr f1)
    clear f1
    go_wp2_with (first | ((with_reducible refine st_zone rfl (.tmp 6) (.tmp 16) rfl (w.heap.size + 1) ?_ (n' := 0) (k' := 0) (s' := 0) (a' := 0) (l' := 0) (u' := 0) ?_ (P1.out) ?_); (· rfl); (· rfl); intro W' hb hf; have HB := hid hb; have HF := kfg (by omega) (HF) hf; clear hb hf))
    exact bodyPost_ret (v := zr (⟨0, 0, 0, 0, 0, 0⟩, 1)) (resZ rfl _ _ (w.heap.size + 1) (0) (0) (0) (0) (0) (0) (1) rfl rfl HB.out) rfl ⟨rfl, HF.out⟩
  have n1 : ¬ (¬ mayP ⟨n, k, s, a, l, u⟩ ∨ m < 1) := not_or.2 ⟨hm, h1⟩
  by_cases hh : hurtP s
  · rw [decide_eq_true hh] at HH
    have e : wrt ⟨n, k, s, a, l, u⟩ x m = (z0, 52) := by unfold wrt; rw [if_neg n1, if_pos (.inl hh)]
    rw [e]
    clear e
    clear hm hm' hl ha HI n1 hh
    go_enter Try.func62, Try.ntmps62
    go_wp2_with ((with_reducible refine ld_zone rfl (.tmp 3) rfl w.heap.size ?_ P0.out ?_); · rfl)
    refine (HM.out _).mono ?_
    rintro e w1 ⟨rfl, f1⟩
    have HF := kf f1 HF
    have P0 := hid (P0.out.fr f1)
    have P1 := hid (P1.out.fr f1)
    clear f1
    go_wp2_with ((with_reducible refine ld_zone rfl (.tmp 3) rfl w.heap.size ?_ P0.out ?_); · rfl)
    refine (HH.out _).mono ?_
    rintro e w1 ⟨rfl, f1⟩
    have HF := kf f1 HF
    have P0 := hid (P0.out.fr f1)
    have P1 := hid (P1.out.fr f1)
    clear f1
    obtain ⟨_, _, c2, _, _, _⟩ := P0.out.cells
    go_wp2_with (first | ((with_reducible refine st_zone rfl (.tmp 6) (.tmp 25) rfl (w.heap.size + 1) ?_ (n' := 0) (k' := 0) (s' := 0) (a' := 0) (l' := 0) (u' := 0) ?_ (P1.out) ?_); (· rfl); (· rfl); intro W' hb hf; have HB := hid hb; have HF := kfg (by omega) (HF) hf; clear hb hf))
    exact bodyPost_ret (v := zr (⟨0, 0, 0, 0, 0, 0⟩, 52)) (resZ rfl _ _ (w.heap.size + 1) (0) (0) (0) (0) (0) (0) (52) rfl rfl HB.out) rfl ⟨rfl, HF.out⟩
  rw [decide_eq_false hh] at HH
  by_cases h5 : s = 5
  · skip
    have e : wrt ⟨n, k, s, a, l, u⟩ x m = (z0, 52) := by unfold wrt; rw [if_neg n1, if_pos (.inr h5)]
    rw [e]
    clear e
    clear hm hm' hl ha HI n1 hh
    subst h5
    go_enter Try.func62, Try.ntmps62
    go_wp2_with ((with_reducible refine ld_zone rfl (.tmp 3) rfl w.heap.size ?_ P0.out ?_); · rfl)
    refine (HM.out _).mono ?_
    rintro e w1 ⟨rfl, f1⟩
    have HF := kf f1 HF
    have P0 := hid (P0.out.fr f1)
    have P1 := hid (P1.out.fr f1)
    clear f1
    go_wp2_with ((with_reducible refine ld_zone rfl (.tmp 3) rfl w.heap.size ?_ P0.out ?_); · rfl)
    refine (HH.out _).mono ?_
    rintro e w1 ⟨rfl, f1⟩
    have HF := kf f1 HF
    have P0 := hid (P0.out.fr f1)
    have P1 := hid (P1.out.fr f1)
    clear f1
    obtain ⟨_, _, c2, _, _, _⟩ := P0.out.cells
    go_wp2_with (first | ((with_reducible refine st_zone rfl (.tmp 6) (.tmp 25) rfl (w.heap.size + 1) ?_ (n' := 0) (k' := 0) (s' := 0) (a' := 0) (l' := 0) (u' := 0) ?_ (P1.out) ?_); (· rfl); (· rfl); intro W' hb hf; have HB := hid hb; have HF := kfg (by omega) (HF) hf; clear hb hf))
    exact bodyPost_ret (v := zr (⟨0, 0, 0, 0, 0, 0⟩, 52)) (resZ rfl _ _ (w.heap.size + 1) (0) (0) (0) (0) (0) (0) (52) rfl rfl HB.out) rfl ⟨rfl, HF.out⟩
  have h5' : (s == 5) = false := by simpa using h5
  have n2 : ¬ (hurtP s ∨ s = 5) := not_or.2 ⟨hh, h5⟩
  by_cases hi : ¬ inP a l x m
  · rw [decide_eq_false hi] at HI
    have e : wrt ⟨n, k, s, a, l, u⟩ x m = (z0, 51) := by unfold wrt; rw [if_neg n1, if_neg n2, if_pos hi]
    rw [e]
    clear e
    clear hm hm' hl ha n1 n2 hi hh h5
    go_enter Try.func62, Try.ntmps62
    go_wp2_with ((with_reducible refine ld_zone rfl (.tmp 3) rfl w.heap.size ?_ P0.out ?_); · rfl)
    refine (HM.out _).mono ?_
    rintro e w1 ⟨rfl, f1⟩
    have HF := kf f1 HF
    have P0 := hid (P0.out.fr f1)
    have P1 := hid (P1.out.fr f1)
    clear f1
    go_wp2_with ((with_reducible refine ld_zone rfl (.tmp 3) rfl w.heap.size ?_ P0.out ?_); · rfl)
    refine (HH.out _).mono ?_
    rintro e w1 ⟨rfl, f1⟩
    have HF := kf f1 HF
    have P0 := hid (P0.out.fr f1)
    have P1 := hid (P1.out.fr f1)
    clear f1
    obtain ⟨_, _, c2, _, _, _⟩ := P0.out.cells
    go_wp2_with ((with_reducible refine ld_zone rfl (.tmp 3) rfl w.heap.size ?_ P0.out ?_); · rfl)
    refine (HI.out _).mono ?_
    rintro e w1 ⟨rfl, f1⟩
    have HF := kf f1 HF
    have P0 := hid (P0.out.fr f1)
    have P1 := hid (P1.out.fr f1)
    clear f1
    go_wp2_with (first | ((with_reducible refine st_zone rfl (.tmp 6) (.tmp 32) rfl (w.heap.size + 1) ?_ (n' := 0) (k' := 0) (s' := 0) (a' := 0) (l' := 0) (u' := 0) ?_ (P1.out) ?_); (· rfl); (· rfl); intro W' hb hf; have HB := hid hb; have HF := kfg (by omega) (HF) hf; clear hb hf))
    exact bodyPost_ret (v := zr (⟨0, 0, 0, 0, 0, 0⟩, 51)) (resZ rfl _ _ (w.heap.size + 1) (0) (0) (0) (0) (0) (0) (51) rfl rfl HB.out) rfl ⟨rfl, HF.out⟩
  have hi' : inP a l x m := by simpa using hi
  rw [decide_eq_true hi'] at HI
  by_cases k1 : k = 1
  · skip
    have e : wrt ⟨n, k, s, a, l, u⟩ x m = (⟨n, k, s, a, l, u⟩, 0) := by unfold wrt; rw [if_neg n1, if_neg n2, if_neg hi, if_pos k1]
    rw [e]
    clear e
    clear hm hm' hl ha n1 n2 hi hi' hh h5
    subst k1
    go_enter Try.func62, Try.ntmps62
    go_wp2_with ((with_reducible refine ld_zone rfl (.tmp 3) rfl w.heap.size ?_ P0.out ?_); · rfl)
    refine (HM.out _).mono ?_
    rintro e w1 ⟨rfl, f1⟩
    have HF := kf f1 HF
    have P0 := hid (P0.out.fr f1)
    have P1 := hid (P1.out.fr f1)
    clear f1
    go_wp2_with ((with_reducible refine ld_zone rfl (.tmp 3) rfl w.heap.size ?_ P0.out ?_); · rfl)
    refine (HH.out _).mono ?_
    rintro e w1 ⟨rfl, f1⟩
    have HF := kf f1 HF
    have P0 := hid (P0.out.fr f1)
    have P1 := hid (P1.out.fr f1)
    clear f1
    obtain ⟨_, _, c2, _, _, _⟩ := P0.out.cells
    go_wp2_with ((with_reducible refine ld_zone rfl (.tmp 3) rfl w.heap.size ?_ P0.out ?_); · rfl)
    refine (HI.out _).mono ?_
    rintro e w1 ⟨rfl, f1⟩
    have HF := kf f1 HF
    have P0 := hid (P0.out.fr f1)
    have P1 := hid (P1.out.fr f1)
    clear f1
    obtain ⟨_, c1, _, _, _, _⟩ := P0.out.cells
    have Q0 := hid (show BZ _ w.heap.size (n) (1) (s) (a) (l) (u) from P0.out)
    go_wp2_with (first | ((with_reducible refine ld_zone rfl (.tmp 3) rfl w.heap.size ?_ Q0.out ?_); · rfl) | ((with_reducible refine st_zone rfl (.tmp 6) (.tmp 37) rfl (w.heap.size + 1) ?_ (n' := n) (k' := 1) (s' := s) (a' := a) (l' := l) (u' := u) ?_ (P1.out) ?_); (· rfl); (· rfl); intro W' hb hf; have HB := hid hb; have HF := kfg (by omega) (HF) hf; clear hb hf))
    exact bodyPost_ret (v := zr (⟨n, 1, s, a, l, u⟩, 0)) (resZ rfl _ _ (w.heap.size + 1) (n) (1) (s) (a) (l) (u) (0) rfl rfl HB.out) rfl ⟨rfl, HF.out⟩
  have k1' : (k == 1) = false := by simpa using k1
  have hu : 0 ≤ u ∧ u ≤ l ∧ (s = 1 ∨ s = 2 ∨ s = 3 ∨ s = 4) := by unfold mayP goesP seqP at hm'; unfold hurtP at hh; dsimp only at hm'; omega
  obtain ⟨hu1, hu2, hs⟩ := hu
  obtain ⟨hl1, hl2⟩ := hl
  obtain ⟨ha1, ha2⟩ := ha
  by_cases hx : x ≠ a + u
  · skip
    have e : wrt ⟨n, k, s, a, l, u⟩ x m = (z0, 50) := by unfold wrt; rw [if_neg n1, if_neg n2, if_neg hi, if_neg k1, if_pos hx]
    rw [e]
    clear e
    have hx' : (x != a + u) = true := by simpa using hx
    clear hm hm' n1 n2 hi hi' hh h5 k1 hs hx
    go_enter Try.func62, Try.ntmps62
    go_wp2_with ((with_reducible refine ld_zone rfl (.tmp 3) rfl w.heap.size ?_ P0.out ?_); · rfl)
    refine (HM.out _).mono ?_
    rintro e w1 ⟨rfl, f1⟩
    have HF := kf f1 HF
    have P0 := hid (P0.out.fr f1)
    have P1 := hid (P1.out.fr f1)
    clear f1
    go_wp2_with ((with_reducible refine ld_zone rfl (.tmp 3) rfl w.heap.size ?_ P0.out ?_); · rfl)
    refine (HH.out _).mono ?_
    rintro e w1 ⟨rfl, f1⟩
    have HF := kf f1 HF
    have P0 := hid (P0.out.fr f1)
    have P1 := hid (P1.out.fr f1)
    clear f1
    obtain ⟨_, _, c2, _, _, _⟩ := P0.out.cells
    go_wp2_with ((with_reducible refine ld_zone rfl (.tmp 3) rfl w.heap.size ?_ P0.out ?_); · rfl)
    refine (HI.out _).mono ?_
    rintro e w1 ⟨rfl, f1⟩
    have HF := kf f1 HF
    have P0 := hid (P0.out.fr f1)
    have P1 := hid (P1.out.fr f1)
    clear f1
    obtain ⟨_, c1, _, c3, _, c5⟩ := P0.out.cells
    go_wp2_with (first | ((with_reducible refine st_zone rfl (.tmp 6) (.tmp 46) rfl (w.heap.size + 1) ?_ (n' := 0) (k' := 0) (s' := 0) (a' := 0) (l' := 0) (u' := 0) ?_ (P1.out) ?_); (· rfl); (· rfl); intro W' hb hf; have HB := hid hb; have HF := kfg (by omega) (HF) hf; clear hb hf))
    exact bodyPost_ret (v := zr (⟨0, 0, 0, 0, 0, 0⟩, 50)) (resZ rfl _ _ (w.heap.size + 1) (0) (0) (0) (0) (0) (0) (50) rfl rfl HB.out) rfl ⟨rfl, HF.out⟩
  obtain rfl : x = a + u := by omega
  have hw : u + m ≤ l := by unfold inP at hi'; omega
  have E : wrt ⟨n, k, s, a, l, u⟩ (a + u) m = (⟨n, k, if u + m = l then 5 else if s = 3 then 3 else 2, a, l, u + m⟩, 0) := by unfold wrt; rw [if_neg n1, if_neg n2, if_neg hi, if_neg k1, if_neg hx]
  rw [E]
  exact rwrite_do n k s a l u m w HM.out HH.out HI.out h5' k1' ⟨hu1, hu2⟩ hs ⟨hl1, hl2⟩ ⟨ha1, ha2⟩ (by omega) hw
set_option maxRecDepth 100000 in
set_option maxHeartbeats 40000000 in
theorem hurt_ok (n k s a l u x : Int) (w : World) : Calls Try.prog 60 #[.agg #[.int .i64 n, .int .i64 k, .int .i64 s, .int .i64 a, .int .i64 l, .int .i64 u], .int .i64 x] w fun e w' => RetZ w w' e (hrt ⟨n, k, s, a, l, u⟩ x) := by
  have HF := hid (FF2 w (bz n k s a l u) zz)
  have P0 := hid (B0z w n k s a l u)
  have P1 := hid (B1z w n k s a l u)
  have HM := hid (fun w => may_ok n k s a l u w)
  by_cases hm : ¬ mayP ⟨n, k, s, a, l, u⟩
  · rw [decide_eq_false hm] at HM
    have e : hrt ⟨n, k, s, a, l, u⟩ x = (z0, 1) := by unfold hrt; rw [if_pos (.inl hm)]
    rw [e]
    clear e
    clear hm
    go_enter Try.func60, Try.ntmps60
    go_wp2_with ((with_reducible refine ld_zone rfl (.tmp 2) rfl w.heap.size ?_ P0.out ?_); · rfl)
    refine (HM.out _).mono ?_
    rintro e w1 ⟨rfl, f1⟩
    have HF := kf f1 HF
    have P0 := hid (P0.out.fr f1)
    have P1 := hid (P1.out.fr f1)
    clear f1
    go_wp2_with (first | ((with_reducible refine st_zone rfl (.tmp 4) (.tmp 17) rfl (w.heap.size + 1) ?_ (n' := 0) (k' := 0) (s' := 0) (a' := 0) (l' := 0) (u' := 0) ?_ (P1.out) ?_); (· rfl); (· rfl); intro W' hb hf; have HB := hid hb; have HF := kfg (by omega) (HF) hf; clear hb hf))
    exact bodyPost_ret (v := zr (⟨0, 0, 0, 0, 0, 0⟩, 1)) (resZ rfl _ _ (w.heap.size + 1) (0) (0) (0) (0) (0) (0) (1) rfl rfl HB.out) rfl ⟨rfl, HF.out⟩
  have hm' : mayP ⟨n, k, s, a, l, u⟩ := by simpa using hm
  rw [decide_eq_true hm'] at HM
  clear hm'
  by_cases hx : ¬ hurtP x
  · skip
    have e : hrt ⟨n, k, s, a, l, u⟩ x = (z0, 1) := by unfold hrt; rw [if_pos (.inr hx)]
    rw [e]
    clear e
    have x6 : (x != 6) = true := by unfold hurtP at hx; rw [bne_iff_ne]; omega
    have x7 : (x != 7) = true := by unfold hurtP at hx; rw [bne_iff_ne]; omega
    clear hm hx
    go_enter Try.func60, Try.ntmps60
    go_wp2_with ((with_reducible refine ld_zone rfl (.tmp 2) rfl w.heap.size ?_ P0.out ?_); · rfl)
    refine (HM.out _).mono ?_
    rintro e w1 ⟨rfl, f1⟩
    have HF := kf f1 HF
    have P0 := hid (P0.out.fr f1)
    have P1 := hid (P1.out.fr f1)
    clear f1
    go_wp2_with (first | ((with_reducible refine st_zone rfl (.tmp 4) (.tmp 17) rfl (w.heap.size + 1) ?_ (n' := 0) (k' := 0) (s' := 0) (a' := 0) (l' := 0) (u' := 0) ?_ (P1.out) ?_); (· rfl); (· rfl); intro W' hb hf; have HB := hid hb; have HF := kfg (by omega) (HF) hf; clear hb hf))
    exact bodyPost_ret (v := zr (⟨0, 0, 0, 0, 0, 0⟩, 1)) (resZ rfl _ _ (w.heap.size + 1) (0) (0) (0) (0) (0) (0) (1) rfl rfl HB.out) rfl ⟨rfl, HF.out⟩
  have n1 : ¬ (¬ mayP ⟨n, k, s, a, l, u⟩ ∨ ¬ hurtP x) := not_or.2 ⟨hm, hx⟩
  by_cases h7 : s = 7
  · skip
    have e : hrt ⟨n, k, s, a, l, u⟩ x = (z0, 52) := by unfold hrt; rw [if_neg n1, if_pos (.inl h7)]
    rw [e]
    clear e
    have hx' : x = 6 ∨ x = 7 := by unfold hurtP at hx; omega
    clear hm hx n1
    subst h7
    rcases hx' with rfl | rfl
    · skip
      go_enter Try.func60, Try.ntmps60
      go_wp2_with ((with_reducible refine ld_zone rfl (.tmp 2) rfl w.heap.size ?_ P0.out ?_); · rfl)
      refine (HM.out _).mono ?_
      rintro e w1 ⟨rfl, f1⟩
      have HF := kf f1 HF
      have P0 := hid (P0.out.fr f1)
      have P1 := hid (P1.out.fr f1)
      clear f1
      obtain ⟨_, _, c2, _, _, _⟩ := P0.out.cells
      go_wp2_with (first | ((with_reducible refine st_zone rfl (.tmp 4) (.tmp 27) rfl (w.heap.size + 1) ?_ (n' := 0) (k' := 0) (s' := 0) (a' := 0) (l' := 0) (u' := 0) ?_ (P1.out) ?_); (· rfl); (· rfl); intro W' hb hf; have HB := hid hb; have HF := kfg (by omega) (HF) hf; clear hb hf))
      exact bodyPost_ret (v := zr (⟨0, 0, 0, 0, 0, 0⟩, 52)) (resZ rfl _ _ (w.heap.size + 1) (0) (0) (0) (0) (0) (0) (52) rfl rfl HB.out) rfl ⟨rfl, HF.out⟩
    · skip
      go_enter Try.func60, Try.ntmps60
      go_wp2_with ((with_reducible refine ld_zone rfl (.tmp 2) rfl w.heap.size ?_ P0.out ?_); · rfl)
      refine (HM.out _).mono ?_
      rintro e w1 ⟨rfl, f1⟩
      have HF := kf f1 HF
      have P0 := hid (P0.out.fr f1)
      have P1 := hid (P1.out.fr f1)
      clear f1
      obtain ⟨_, _, c2, _, _, _⟩ := P0.out.cells
      go_wp2_with (first | ((with_reducible refine st_zone rfl (.tmp 4) (.tmp 27) rfl (w.heap.size + 1) ?_ (n' := 0) (k' := 0) (s' := 0) (a' := 0) (l' := 0) (u' := 0) ?_ (P1.out) ?_); (· rfl); (· rfl); intro W' hb hf; have HB := hid hb; have HF := kfg (by omega) (HF) hf; clear hb hf))
      exact bodyPost_ret (v := zr (⟨0, 0, 0, 0, 0, 0⟩, 52)) (resZ rfl _ _ (w.heap.size + 1) (0) (0) (0) (0) (0) (0) (52) rfl rfl HB.out) rfl ⟨rfl, HF.out⟩
  have h7' : (s == 7) = false := by simpa using h7
  by_cases hs : s = x
  · skip
    have e : hrt ⟨n, k, s, a, l, u⟩ x = (z0, 52) := by unfold hrt; rw [if_neg n1, if_pos (.inr hs)]
    rw [e]
    clear e
    have hx' : x = 6 ∨ x = 7 := by unfold hurtP at hx; omega
    clear hm hx n1
    subst hs
    obtain rfl : s = 6 := by omega
    go_enter Try.func60, Try.ntmps60
    go_wp2_with ((with_reducible refine ld_zone rfl (.tmp 2) rfl w.heap.size ?_ P0.out ?_); · rfl)
    refine (HM.out _).mono ?_
    rintro e w1 ⟨rfl, f1⟩
    have HF := kf f1 HF
    have P0 := hid (P0.out.fr f1)
    have P1 := hid (P1.out.fr f1)
    clear f1
    obtain ⟨_, _, c2, _, _, _⟩ := P0.out.cells
    go_wp2_with (first | ((with_reducible refine st_zone rfl (.tmp 4) (.tmp 27) rfl (w.heap.size + 1) ?_ (n' := 0) (k' := 0) (s' := 0) (a' := 0) (l' := 0) (u' := 0) ?_ (P1.out) ?_); (· rfl); (· rfl); intro W' hb hf; have HB := hid hb; have HF := kfg (by omega) (HF) hf; clear hb hf))
    exact bodyPost_ret (v := zr (⟨0, 0, 0, 0, 0, 0⟩, 52)) (resZ rfl _ _ (w.heap.size + 1) (0) (0) (0) (0) (0) (0) (52) rfl rfl HB.out) rfl ⟨rfl, HF.out⟩
  have e : hrt ⟨n, k, s, a, l, u⟩ x = (⟨n, k, x, a, l, u⟩, 0) := by unfold hrt; rw [if_neg n1, if_neg (not_or.2 ⟨h7, hs⟩)]
  rw [e]
  clear e
  have hx' : x = 6 ∨ x = 7 := by unfold hurtP at hx; omega
  have hs' : (s == x) = false := by simpa using hs
  clear hm hx n1 h7 hs
  rcases hx' with rfl | rfl
  · skip
    go_enter Try.func60, Try.ntmps60
    go_wp2_with ((with_reducible refine ld_zone rfl (.tmp 2) rfl w.heap.size ?_ P0.out ?_); · rfl)
    refine (HM.out _).mono ?_
    rintro e w1 ⟨rfl, f1⟩
    have HF := kf f1 HF
    have P0 := hid (P0.out.fr f1)
    have P1 := hid (P1.out.fr f1)
    clear f1
    obtain ⟨c0, c1, c2, c3, c4, c5⟩ := P0.out.cells
    obtain ⟨_, _, f2, _, _, _⟩ := P0.out.frozens
    have Q0 := hid (show BZ _ w.heap.size (n) (k) (6) (a) (l) (u) from (P0.out : Blk _ _ _ _).set_ 2 (.int .i64 (6)))
    go_wp2_with (first | ((with_reducible refine ld_zone rfl (.tmp 2) rfl w.heap.size ?_ Q0.out ?_); · rfl) | ((with_reducible refine st_zone rfl (.tmp 4) (.tmp 30) rfl (w.heap.size + 1) ?_ (n' := n) (k' := k) (s' := 6) (a' := a) (l' := l) (u' := u) ?_ ((P1.out).far (p := ⟨w.heap.size, 2, none⟩) (by simp) (.int .i64 (6))) ?_); (· rfl); (· rfl); intro W' hb hf; have HB := hid hb; have HF := kfg (by omega) (kf1 (p := ⟨w.heap.size, 2, none⟩) (Nat.le_refl _) (HF)) hf; clear hb hf))
    exact bodyPost_ret (v := zr (⟨n, k, 6, a, l, u⟩, 0)) (resZ rfl _ _ (w.heap.size + 1) (n) (k) (6) (a) (l) (u) (0) rfl rfl HB.out) rfl ⟨rfl, HF.out⟩
  · skip
    go_enter Try.func60, Try.ntmps60
    go_wp2_with ((with_reducible refine ld_zone rfl (.tmp 2) rfl w.heap.size ?_ P0.out ?_); · rfl)
    refine (HM.out _).mono ?_
    rintro e w1 ⟨rfl, f1⟩
    have HF := kf f1 HF
    have P0 := hid (P0.out.fr f1)
    have P1 := hid (P1.out.fr f1)
    clear f1
    obtain ⟨c0, c1, c2, c3, c4, c5⟩ := P0.out.cells
    obtain ⟨_, _, f2, _, _, _⟩ := P0.out.frozens
    have Q0 := hid (show BZ _ w.heap.size (n) (k) (7) (a) (l) (u) from (P0.out : Blk _ _ _ _).set_ 2 (.int .i64 (7)))
    go_wp2_with (first | ((with_reducible refine ld_zone rfl (.tmp 2) rfl w.heap.size ?_ Q0.out ?_); · rfl) | ((with_reducible refine st_zone rfl (.tmp 4) (.tmp 30) rfl (w.heap.size + 1) ?_ (n' := n) (k' := k) (s' := 7) (a' := a) (l' := l) (u' := u) ?_ ((P1.out).far (p := ⟨w.heap.size, 2, none⟩) (by simp) (.int .i64 (7))) ?_); (· rfl); (· rfl); intro W' hb hf; have HB := hid hb; have HF := kfg (by omega) (kf1 (p := ⟨w.heap.size, 2, none⟩) (Nat.le_refl _) (HF)) hf; clear hb hf))
    exact bodyPost_ret (v := zr (⟨n, k, 7, a, l, u⟩, 0)) (resZ rfl _ _ (w.heap.size + 1) (n) (k) (7) (a) (l) (u) (0) rfl rfl HB.out) rfl ⟨rfl, HF.out⟩
set_option maxRecDepth 100000 in
set_option maxHeartbeats 40000000 in
theorem rhurt_ok (n k s a l u x : Int) (w : World) : Calls Try.prog 63 #[.agg #[.int .i64 n, .int .i64 k, .int .i64 s, .int .i64 a, .int .i64 l, .int .i64 u], .int .i64 x] w fun e w' => RetZ w w' e (hrt ⟨n, k, s, a, l, u⟩ x) := by
  have HF := hid (FF2 w (bz n k s a l u) zz)
  have P0 := hid (B0z w n k s a l u)
  have P1 := hid (B1z w n k s a l u)
  have HM := hid (fun w => rmay_ok n k s a l u w)
  by_cases hm : ¬ mayP ⟨n, k, s, a, l, u⟩
  · rw [decide_eq_false hm] at HM
    have e : hrt ⟨n, k, s, a, l, u⟩ x = (z0, 1) := by unfold hrt; rw [if_pos (.inl hm)]
    rw [e]
    clear e
    clear hm
    go_enter Try.func63, Try.ntmps63
    go_wp2_with ((with_reducible refine ld_zone rfl (.tmp 2) rfl w.heap.size ?_ P0.out ?_); · rfl)
    refine (HM.out _).mono ?_
    rintro e w1 ⟨rfl, f1⟩
    have HF := kf f1 HF
    have P0 := hid (P0.out.fr f1)
    have P1 := hid (P1.out.fr f1)
    clear f1
    go_wp2_with (first | ((with_reducible refine st_zone rfl (.tmp 4) (.tmp 17) rfl (w.heap.size + 1) ?_ (n' := 0) (k' := 0) (s' := 0) (a' := 0) (l' := 0) (u' := 0) ?_ (P1.out) ?_); (· rfl); (· rfl); intro W' hb hf; have HB := hid hb; have HF := kfg (by omega) (HF) hf; clear hb hf))
    exact bodyPost_ret (v := zr (⟨0, 0, 0, 0, 0, 0⟩, 1)) (resZ rfl _ _ (w.heap.size + 1) (0) (0) (0) (0) (0) (0) (1) rfl rfl HB.out) rfl ⟨rfl, HF.out⟩
  have hm' : mayP ⟨n, k, s, a, l, u⟩ := by simpa using hm
  rw [decide_eq_true hm'] at HM
  clear hm'
  by_cases hx : ¬ hurtP x
  · skip
    have e : hrt ⟨n, k, s, a, l, u⟩ x = (z0, 1) := by unfold hrt; rw [if_pos (.inr hx)]
    rw [e]
    clear e
    have x6 : (x != 6) = true := by unfold hurtP at hx; rw [bne_iff_ne]; omega
    have x7 : (x != 7) = true := by unfold hurtP at hx; rw [bne_iff_ne]; omega
    clear hm hx
    go_enter Try.func63, Try.ntmps63
    go_wp2_with ((with_reducible refine ld_zone rfl (.tmp 2) rfl w.heap.size ?_ P0.out ?_); · rfl)
    refine (HM.out _).mono ?_
    rintro e w1 ⟨rfl, f1⟩
    have HF := kf f1 HF
    have P0 := hid (P0.out.fr f1)
    have P1 := hid (P1.out.fr f1)
    clear f1
    go_wp2_with (first | ((with_reducible refine st_zone rfl (.tmp 4) (.tmp 17) rfl (w.heap.size + 1) ?_ (n' := 0) (k' := 0) (s' := 0) (a' := 0) (l' := 0) (u' := 0) ?_ (P1.out) ?_); (· rfl); (· rfl); intro W' hb hf; have HB := hid hb; have HF := kfg (by omega) (HF) hf; clear hb hf))
    exact bodyPost_ret (v := zr (⟨0, 0, 0, 0, 0, 0⟩, 1)) (resZ rfl _ _ (w.heap.size + 1) (0) (0) (0) (0) (0) (0) (1) rfl rfl HB.out) rfl ⟨rfl, HF.out⟩
  have n1 : ¬ (¬ mayP ⟨n, k, s, a, l, u⟩ ∨ ¬ hurtP x) := not_or.2 ⟨hm, hx⟩
  by_cases h7 : s = 7
  · skip
    have e : hrt ⟨n, k, s, a, l, u⟩ x = (z0, 52) := by unfold hrt; rw [if_neg n1, if_pos (.inl h7)]
    rw [e]
    clear e
    have hx' : x = 6 ∨ x = 7 := by unfold hurtP at hx; omega
    clear hm hx n1
    subst h7
    rcases hx' with rfl | rfl
    · skip
      go_enter Try.func63, Try.ntmps63
      go_wp2_with ((with_reducible refine ld_zone rfl (.tmp 2) rfl w.heap.size ?_ P0.out ?_); · rfl)
      refine (HM.out _).mono ?_
      rintro e w1 ⟨rfl, f1⟩
      have HF := kf f1 HF
      have P0 := hid (P0.out.fr f1)
      have P1 := hid (P1.out.fr f1)
      clear f1
      obtain ⟨_, _, c2, _, _, _⟩ := P0.out.cells
      go_wp2_with (first | ((with_reducible refine st_zone rfl (.tmp 4) (.tmp 27) rfl (w.heap.size + 1) ?_ (n' := 0) (k' := 0) (s' := 0) (a' := 0) (l' := 0) (u' := 0) ?_ (P1.out) ?_); (· rfl); (· rfl); intro W' hb hf; have HB := hid hb; have HF := kfg (by omega) (HF) hf; clear hb hf))
      exact bodyPost_ret (v := zr (⟨0, 0, 0, 0, 0, 0⟩, 52)) (resZ rfl _ _ (w.heap.size + 1) (0) (0) (0) (0) (0) (0) (52) rfl rfl HB.out) rfl ⟨rfl, HF.out⟩
    · skip
      go_enter Try.func63, Try.ntmps63
      go_wp2_with ((with_reducible refine ld_zone rfl (.tmp 2) rfl w.heap.size ?_ P0.out ?_); · rfl)
      refine (HM.out _).mono ?_
      rintro e w1 ⟨rfl, f1⟩
      have HF := kf f1 HF
      have P0 := hid (P0.out.fr f1)
      have P1 := hid (P1.out.fr f1)
      clear f1
      obtain ⟨_, _, c2, _, _, _⟩ := P0.out.cells
      go_wp2_with (first | ((with_reducible refine st_zone rfl (.tmp 4) (.tmp 27) rfl (w.heap.size + 1) ?_ (n' := 0) (k' := 0) (s' := 0) (a' := 0) (l' := 0) (u' := 0) ?_ (P1.out) ?_); (· rfl); (· rfl); intro W' hb hf; have HB := hid hb; have HF := kfg (by omega) (HF) hf; clear hb hf))
      exact bodyPost_ret (v := zr (⟨0, 0, 0, 0, 0, 0⟩, 52)) (resZ rfl _ _ (w.heap.size + 1) (0) (0) (0) (0) (0) (0) (52) rfl rfl HB.out) rfl ⟨rfl, HF.out⟩
  have h7' : (s == 7) = false := by simpa using h7
  by_cases hs : s = x
  · skip
    have e : hrt ⟨n, k, s, a, l, u⟩ x = (z0, 52) := by unfold hrt; rw [if_neg n1, if_pos (.inr hs)]
    rw [e]
    clear e
    have hx' : x = 6 ∨ x = 7 := by unfold hurtP at hx; omega
    clear hm hx n1
    subst hs
    obtain rfl : s = 6 := by omega
    go_enter Try.func63, Try.ntmps63
    go_wp2_with ((with_reducible refine ld_zone rfl (.tmp 2) rfl w.heap.size ?_ P0.out ?_); · rfl)
    refine (HM.out _).mono ?_
    rintro e w1 ⟨rfl, f1⟩
    have HF := kf f1 HF
    have P0 := hid (P0.out.fr f1)
    have P1 := hid (P1.out.fr f1)
    clear f1
    obtain ⟨_, _, c2, _, _, _⟩ := P0.out.cells
    go_wp2_with (first | ((with_reducible refine st_zone rfl (.tmp 4) (.tmp 27) rfl (w.heap.size + 1) ?_ (n' := 0) (k' := 0) (s' := 0) (a' := 0) (l' := 0) (u' := 0) ?_ (P1.out) ?_); (· rfl); (· rfl); intro W' hb hf; have HB := hid hb; have HF := kfg (by omega) (HF) hf; clear hb hf))
    exact bodyPost_ret (v := zr (⟨0, 0, 0, 0, 0, 0⟩, 52)) (resZ rfl _ _ (w.heap.size + 1) (0) (0) (0) (0) (0) (0) (52) rfl rfl HB.out) rfl ⟨rfl, HF.out⟩
  have e : hrt ⟨n, k, s, a, l, u⟩ x = (⟨n, k, x, a, l, u⟩, 0) := by unfold hrt; rw [if_neg n1, if_neg (not_or.2 ⟨h7, hs⟩)]
  rw [e]
  clear e
  have hx' : x = 6 ∨ x = 7 := by unfold hurtP at hx; omega
  have hs' : (s == x) = false := by simpa using hs
  clear hm hx n1 h7 hs
  rcases hx' with rfl | rfl
  · skip
    go_enter Try.func63, Try.ntmps63
    go_wp2_with ((with_reducible refine ld_zone rfl (.tmp 2) rfl w.heap.size ?_ P0.out ?_); · rfl)
    refine (HM.out _).mono ?_
    rintro e w1 ⟨rfl, f1⟩
    have HF := kf f1 HF
    have P0 := hid (P0.out.fr f1)
    have P1 := hid (P1.out.fr f1)
    clear f1
    obtain ⟨c0, c1, c2, c3, c4, c5⟩ := P0.out.cells
    obtain ⟨_, _, f2, _, _, _⟩ := P0.out.frozens
    have Q0 := hid (show BZ _ w.heap.size (n) (k) (6) (a) (l) (u) from (P0.out : Blk _ _ _ _).set_ 2 (.int .i64 (6)))
    go_wp2_with (first | ((with_reducible refine ld_zone rfl (.tmp 2) rfl w.heap.size ?_ Q0.out ?_); · rfl) | ((with_reducible refine st_zone rfl (.tmp 4) (.tmp 30) rfl (w.heap.size + 1) ?_ (n' := n) (k' := k) (s' := 6) (a' := a) (l' := l) (u' := u) ?_ ((P1.out).far (p := ⟨w.heap.size, 2, none⟩) (by simp) (.int .i64 (6))) ?_); (· rfl); (· rfl); intro W' hb hf; have HB := hid hb; have HF := kfg (by omega) (kf1 (p := ⟨w.heap.size, 2, none⟩) (Nat.le_refl _) (HF)) hf; clear hb hf))
    exact bodyPost_ret (v := zr (⟨n, k, 6, a, l, u⟩, 0)) (resZ rfl _ _ (w.heap.size + 1) (n) (k) (6) (a) (l) (u) (0) rfl rfl HB.out) rfl ⟨rfl, HF.out⟩
  · skip
    go_enter Try.func63, Try.ntmps63
    go_wp2_with ((with_reducible refine ld_zone rfl (.tmp 2) rfl w.heap.size ?_ P0.out ?_); · rfl)
    refine (HM.out _).mono ?_
    rintro e w1 ⟨rfl, f1⟩
    have HF := kf f1 HF
    have P0 := hid (P0.out.fr f1)
    have P1 := hid (P1.out.fr f1)
    clear f1
    obtain ⟨c0, c1, c2, c3, c4, c5⟩ := P0.out.cells
    obtain ⟨_, _, f2, _, _, _⟩ := P0.out.frozens
    have Q0 := hid (show BZ _ w.heap.size (n) (k) (7) (a) (l) (u) from (P0.out : Blk _ _ _ _).set_ 2 (.int .i64 (7)))
    go_wp2_with (first | ((with_reducible refine ld_zone rfl (.tmp 2) rfl w.heap.size ?_ Q0.out ?_); · rfl) | ((with_reducible refine st_zone rfl (.tmp 4) (.tmp 30) rfl (w.heap.size + 1) ?_ (n' := n) (k' := k) (s' := 7) (a' := a) (l' := l) (u' := u) ?_ ((P1.out).far (p := ⟨w.heap.size, 2, none⟩) (by simp) (.int .i64 (7))) ?_); (· rfl); (· rfl); intro W' hb hf; have HB := hid hb; have HF := kfg (by omega) (kf1 (p := ⟨w.heap.size, 2, none⟩) (Nat.le_refl _) (HF)) hf; clear hb hf))
    exact bodyPost_ret (v := zr (⟨n, k, 7, a, l, u⟩, 0)) (resZ rfl _ _ (w.heap.size + 1) (n) (k) (7) (a) (l) (u) (0) rfl rfl HB.out) rfl ⟨rfl, HF.out⟩
end Go.Proofs.Ytjmagbmdobiccaa.ZnE
