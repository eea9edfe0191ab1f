/- What must come of every program of layer 14; PoolNobody's walk. -/
import Derived.Test.YtecngikdfplibaaPlG
namespace Go.Proofs.Ytecngikdfplibaa.PlH
open Go.RowKit MSep MSepC MGeM GeA PlM PlA PlB PlC PlD PlE PlF PlG

theorem OutI.get {B : Nat} {w : World} {g n c : Nat} {L : List Int} (hn : n = L.length) (h : OutI B w (.slice (some ⟨g, 0, none⟩) n c) L) {i : Nat} {x : Int} (hi : L[i]? = some x) : w.cell? ⟨g, i, none⟩ = some (.int .i64 x) := by
  have hr := OutI.rd hn h
  have hlt := (List.getElem?_eq_some_iff.1 hi).1
  obtain ⟨g', o, e, _, hc⟩ := hr.at_ (by omega)
  cases e
  have := hc i x hi
  rwa [Nat.zero_add] at this
theorem outI_at {B : Nat} {w : World} {A : Option Addr} {k c : Nat} {L : List Int} (h : OutI B w (.slice A k c) L) (hk : 0 < L.length) : ∃ g, A = some ⟨g, 0, none⟩ ∧ B ≤ g ∧ g < w.heap.size := by
  obtain ⟨_, ⟨_, h2⟩ | ⟨g, cap, cur, hv, hb, hh, _⟩⟩ := h
  · omega
  · injection hv with e1 e2 e3
    exact ⟨g, e1, hb, (Array.getElem?_eq_some_iff.1 hh).1⟩
theorem m6 : mayG ⟨2, 6, 16, 3, 2⟩ := by decide
theorem m0 : ¬ mayG ⟨0, 0, 0, 0, 0⟩ := by decide
theorem r0 : List.replicate (6 : Int).toNat (0 : Int) = [0, 0, 0, 0, 0, 0] := rfl
set_option maxRecDepth 100000 in
theorem geom_ok (w : World) : Calls Try.prog 59 #[] w fun e w' => e = .returned (.agg #[.int .i64 2, .int .i64 6, .int .i64 16, .int .i64 3, .int .i64 2]) ∧ Fr No w w' := by
  go_enter Try.func59, Try.ntmps59
  go_wp2
  exact bodyPost_ret (v := .agg #[.int .i64 2, .int .i64 6, .int .i64 16, .int .i64 3, .int .i64 2]) (by simp [results, Try.f59, go_sem]) rfl ⟨rfl, (Fr.refl No w).alloc _⟩
def PS (w : World) (p q : Nat) (R : List Int) : Prop := PA w p q 2 6 16 3 2 3 R
theorem PS.fr0 {w w' : World} {p q : Nat} {R : List Int} (h : PS w p q R) (f : Fr No w w') : PS w' p q R := PA.fr0 h f
theorem t1 (p q : Nat) (w : World) (h : PS w p q [0, 0, 0, 0, 0, 0]) : Calls Try.prog 32 #[.pointer (some ⟨p, 0, none⟩), .int .i64 2] w fun e w' => e = .returned (.tuple #[.int .i64 2, .int .i64 0]) ∧ PS w' p q [2, 0, 0, 0, 0, 0] ∧ Fr (fun g => g = q) w w' := take_ok p q 2 6 16 3 2 3 [0, 0, 0, 0, 0, 0] 2 w h
theorem t2 (p q : Nat) (w : World) (h : PS w p q [2, 0, 0, 0, 0, 0]) : Calls Try.prog 32 #[.pointer (some ⟨p, 0, none⟩), .int .i64 2] w fun e w' => e = .returned (.tuple #[.int .i64 0, .int .i64 140]) ∧ PS w' p q [2, 0, 0, 0, 0, 0] ∧ Fr (fun g => g = q) w w' := take_ok p q 2 6 16 3 2 3 [2, 0, 0, 0, 0, 0] 2 w h
theorem t3 (p q : Nat) (w : World) (h : PS w p q [2, 0, 0, 0, 0, 0]) : Calls Try.prog 34 #[.pointer (some ⟨p, 0, none⟩), .int .i64 2, .int .i64 3] w fun e w' => e = .returned (.int .i64 0) ∧ PS w' p q [3, 0, 0, 0, 0, 0] ∧ Fr (fun g => g = q) w w' := set_ok p q 2 6 16 3 2 3 [2, 0, 0, 0, 0, 0] 2 3 w h (by unfold inI; decide) (by unfold ok; decide)
theorem t4 (p q : Nat) (w : World) (h : PS w p q [3, 0, 0, 0, 0, 0]) : Calls Try.prog 32 #[.pointer (some ⟨p, 0, none⟩), .int .i64 4] w fun e w' => e = .returned (.tuple #[.int .i64 3, .int .i64 0]) ∧ PS w' p q [3, 4, 0, 0, 0, 0] ∧ Fr (fun g => g = q) w w' := take_ok p q 2 6 16 3 2 3 [3, 0, 0, 0, 0, 0] 4 w h
theorem t5 (p q : Nat) (w : World) (h : PS w p q [3, 4, 0, 0, 0, 0]) : Calls Try.prog 41 #[.pointer (some ⟨p, 0, none⟩), .int .i64 0] w fun e w' => ∃ g cp, e = .returned (.slice (some ⟨g, 0, none⟩) 4 cp) ∧ OutI w.heap.size w' (.slice (some ⟨g, 0, none⟩) 4 cp) [4, 5, 6, 7] ∧ Fr No w w' := by
  refine (list_ok p q 2 6 16 3 2 3 [3, 4, 0, 0, 0, 0] 0 w h).mono ?_
  rintro e w' ⟨A, cp, rfl, ho, f⟩
  have ho2 : OutI w.heap.size w' (.slice A 4 cp) [4, 5, 6, 7] := ho
  obtain ⟨g, rfl, _, _⟩ := outI_at ho2 (by decide)
  exact ⟨g, cp, rfl, ho2, f⟩
theorem t6 (p q : Nat) (w : World) (h : PS w p q [3, 4, 0, 0, 0, 0]) : Calls Try.prog 39 #[.pointer (some ⟨p, 0, none⟩), .int .i64 2] w fun e w' => e = .returned (.int .i64 3) ∧ Fr No w w' := role_ok p q 2 6 16 3 2 3 [3, 4, 0, 0, 0, 0] 2 w h (by unfold inI; decide)
theorem t7 (p q : Nat) (w : World) (h : PS w p q [3, 4, 0, 0, 0, 0]) : Calls Try.prog 38 #[.pointer (some ⟨p, 0, none⟩), .int .i64 0] w fun e w' => e = .returned (.int .i64 4) ∧ Fr No w w' := count_ok p q 2 6 16 3 2 3 [3, 4, 0, 0, 0, 0] 0 w h
theorem t8 (p q : Nat) (w : World) (h : PS w p q [3, 4, 0, 0, 0, 0]) : Calls Try.prog 42 #[.pointer (some ⟨p, 0, none⟩)] w fun e w' => e = .returned (.int .i64 1) ∧ Fr No w w' := cached_ok p q 2 6 16 3 2 3 [3, 4, 0, 0, 0, 0] w h
theorem t9 (p q : Nat) (w : World) (h : PS w p q [3, 4, 0, 0, 0, 0]) : Calls Try.prog 36 #[.pointer (some ⟨p, 0, none⟩)] w fun e w' => e = .returned (.bool true) ∧ Fr No w w' := sound_ok p q 2 6 16 3 2 3 [3, 4, 0, 0, 0, 0] true w h ⟨fun _ => by decide, fun _ => rfl⟩
theorem t10 (p q : Nat) (w : World) (h : PS w p q [3, 4, 0, 0, 0, 0]) : Calls Try.prog 40 #[.pointer (some ⟨p, 0, none⟩)] w fun e w' => ∃ A cp, e = .returned (.slice A 6 cp) ∧ Fr No w w' := by
  refine (roles_ok p q 2 6 16 3 2 3 [3, 4, 0, 0, 0, 0] w h).mono ?_
  rintro e w' ⟨A, cp, rfl, ho, f⟩
  exact ⟨A, cp, rfl, f⟩
theorem n1 (w : World) : Calls Try.prog 37 #[.agg #[.int .i64 2, .int .i64 6, .int .i64 16, .int .i64 3, .int .i64 2]] w fun e w' => ∃ p q, e = .returned (.tuple #[.pointer (some ⟨p, 0, none⟩), .int .i64 0]) ∧ PS w' p q [0, 0, 0, 0, 0, 0] ∧ w.heap.size ≤ q ∧ Fr No w w' := by
  refine (new_y 2 6 16 3 2 w m6).mono ?_
  rintro e w' ⟨p, q, rfl, h, h1, h2, f⟩
  exact ⟨p, q, rfl, h, h2, f⟩
theorem n0 (w : World) : Calls Try.prog 37 #[.agg #[.int .i64 0, .int .i64 0, .int .i64 0, .int .i64 0, .int .i64 0]] w fun e w' => e = .returned (.tuple #[.pointer none, .int .i64 70]) ∧ Fr No w w' := new_n 0 0 0 0 0 w (by unfold inI; decide) m0
set_option maxRecDepth 100000 in
set_option maxHeartbeats 4000000 in
theorem lives_ok (w : World) : Calls Try.prog 27 #[] w fun e w' => e = .returned (.bool true) ∧ Fr No w w' := by
  have FW : Hid (Fr No w w) := hid (Fr.refl No w)
  go_enter Try.func27, Try.ntmps27
  go_upto_region 5 with (first | (go_at_call 59; refine (geom_ok _).mono ?_; rintro e w1 ⟨rfl, f⟩; replace FW := hid (FW.out.trans f); clear f) | (go_at_call 37; with_reducible refine (n1 _).mono ?_; rintro e w2 ⟨p, q, rfl, h, hq, f⟩; have HQ := hid (Nat.le_trans FW.out.size hq); replace FW := hid (FW.out.trans f); have HP := hid h; clear f h hq) | (go_at_call 37; refine (n0 _).mono ?_; rintro e w3 ⟨rfl, f⟩; replace FW := hid (FW.out.trans f); replace HP := hid (HP.out.fr0 f); clear f))
  go_upto_region 6 with (go_at_call 32; refine (t1 p q _ HP.out).mono ?_; rintro e w4 ⟨rfl, h, f⟩; replace FW := hid (FW.out.step f (fun i hi e => by have := HQ.out; omega)); have HP1 := hid h; clear f h)
  go_upto_region 7 with (go_at_call 32; refine (t2 p q _ HP1.out).mono ?_; rintro e w5 ⟨rfl, h, f⟩; replace FW := hid (FW.out.step f (fun i hi e => by have := HQ.out; omega)); have HP2 := hid h; clear f h)
  go_upto_region 8 with (go_at_call 34; refine (t3 p q _ HP2.out).mono ?_; rintro e w6 ⟨rfl, h, f⟩; replace FW := hid (FW.out.step f (fun i hi e => by have := HQ.out; omega)); have HP3 := hid h; clear f h)
  go_upto_region 9 with (go_at_call 32; refine (t4 p q _ HP3.out).mono ?_; rintro e w7 ⟨rfl, h, f⟩; replace FW := hid (FW.out.step f (fun i hi e => by have := HQ.out; omega)); have HP4 := hid h; clear f h)
  go_upto_region 10 with (go_at_call 41; refine (t5 p q _ HP4.out).mono ?_; rintro e w8 ⟨g, cp, rfl, ho, f⟩; replace FW := hid (FW.out.trans f); replace HP4 := hid (HP4.out.fr0 f); have HO := hid ho; clear f ho)
  go_wp2_with (first
    | (go_at_call 39; refine (t6 p q _ HP4.out).mono ?_; rintro e w9 ⟨rfl, f⟩; replace FW := hid (FW.out.trans f); replace HP4 := hid (HP4.out.fr0 f); replace HO := hid (HO.out.fr0 f); clear f)
    | (go_at_call 38; refine (t7 p q _ HP4.out).mono ?_; rintro e w10 ⟨rfl, f⟩; replace FW := hid (FW.out.trans f); replace HP4 := hid (HP4.out.fr0 f); replace HO := hid (HO.out.fr0 f); have l0 := OutI.get rfl HO.out (i := 0) rfl; clear f)
    | (go_at_call 42; refine (t8 p q _ HP4.out).mono ?_; rintro e w11 ⟨rfl, f⟩; replace FW := hid (FW.out.trans f); replace HP4 := hid (HP4.out.fr0 f); clear f)
    | (go_at_call 36; refine (t9 p q _ HP4.out).mono ?_; rintro e w12 ⟨rfl, f⟩; replace FW := hid (FW.out.trans f); replace HP4 := hid (HP4.out.fr0 f); clear f)
    | (go_at_call 40; refine (t10 p q _ HP4.out).mono ?_; rintro e w13 ⟨A1, cp1, rfl, f⟩; replace FW := hid (FW.out.trans f); clear f))
  go_ret
  exact ⟨rfl, FW.out⟩
set_option maxRecDepth 100000 in
set_option maxHeartbeats 4000000 in
theorem nobody_ok (j z r : Int) (w : World) : Calls Try.prog 9 #[.agg #[.int .i64 j, .int .i64 z, .int .i64 r]] w fun e w' => e = .returned (.bool true) ∧ Fr No w w' := by
  obtain ⟨W, hW⟩ : ∃ W, w.alloc (.cells #[.int .i64 j, .int .i64 z, .int .i64 r] 59) = W := ⟨_, rfl⟩
  obtain ⟨X, hX⟩ : ∃ X, w.heap.size = X := ⟨_, rfl⟩
  have FW := hid (show Fr No w W by rw [← hW]; exact (Fr.refl No w).alloc _)
  have HB := hid (show Blk W X 59 #[.int .i64 j, .int .i64 z, .int .i64 r] by rw [← hW, ← hX]; exact Blk.new w _ _)
  have x1 := HB.out.cell 1
  have x2 := HB.out.cell 2
  go_enter Try.func9, Try.ntmps9
  go_wp2_with (first
    | (go_at_call 32; refine (take_nil r _).mono ?_; rintro e w1 ⟨rfl, rfl⟩)
    | (go_at_call 27; refine (lives_ok _).mono ?_; rintro e w2 ⟨rfl, f⟩; replace FW := hid (FW.out.trans f); replace HB := hid (Blk.fr HB.out f (fun h => h)); clear f x1 x2; have x1 := HB.out.cell 1; have x2 := HB.out.cell 2)
    | (go_at_call 34; refine (set_nil z r _).mono ?_; rintro e w1 ⟨rfl, rfl⟩)
    | (go_at_call 39; refine (role_nil z _).mono ?_; rintro e w1 ⟨rfl, rfl⟩)
    | (go_at_call 40; refine (roles_nil _).mono ?_; rintro e w1 ⟨rfl, rfl⟩)
    | (go_at_call 38; refine (count_nil r _).mono ?_; rintro e w1 ⟨rfl, rfl⟩)
    | (go_at_call 41; refine (list_nil r _).mono ?_; rintro e w1 ⟨rfl, rfl⟩)
    | (go_at_call 42; refine (cached_nil _).mono ?_; rintro e w1 ⟨rfl, rfl⟩)
    | (go_at_call 36; refine (sound_nil _).mono ?_; rintro e w1 ⟨rfl, rfl⟩))
  go_ret
  exact ⟨rfl, FW.out⟩
end Go.Proofs.Ytecngikdfplibaa.PlH
