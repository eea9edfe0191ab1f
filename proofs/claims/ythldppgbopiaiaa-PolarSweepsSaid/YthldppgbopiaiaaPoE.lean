/- Contract: what must come of every program of layer 4. No condition. -/
import Derived.Test.YthldppgbopiaiaaPoD
namespace Go.Proofs.Ythldppgbopiaiaa.PoE
open Go.RowKit MSep MSepC MSpM SpA SpO PoA PoB PoC PoD

theorem three {ys : List Int} (hp : ys.Perm [9, 1, 5]) (hs : ys.Pairwise (fun a b => ¬ bef 5 b a)) : ys = [5, 9, 1] := by
  have hl := hp.length_eq
  match ys, hl with
  | [a, b, c], _ =>
    have ha : a ∈ [(9 : Int), 1, 5] := hp.mem_iff.1 (by simp)
    have hb : b ∈ [(9 : Int), 1, 5] := hp.mem_iff.1 (by simp)
    have hc : c ∈ [(9 : Int), 1, 5] := hp.mem_iff.1 (by simp)
    have h9 : (9 : Int) ∈ [a, b, c] := hp.mem_iff.2 (by simp)
    have h1 : (1 : Int) ∈ [a, b, c] := hp.mem_iff.2 (by simp)
    have h5 : (5 : Int) ∈ [a, b, c] := hp.mem_iff.2 (by simp)
    simp only [List.mem_cons, List.not_mem_nil, or_false] at ha hb hc h9 h1 h5
    simp only [List.pairwise_cons, List.mem_cons, List.not_mem_nil, or_false, forall_eq_or_imp, forall_eq, bef] at hs
    obtain ⟨⟨s1, s2⟩, s3, _⟩ := hs
    have : a = 5 ∧ b = 9 ∧ c = 1 := by omega
    obtain ⟨rfl, rfl, rfl⟩ := this
    rfl
theorem lit3 (w : World) : RdI (w.alloc (.cells #[.int .i64 9, .int .i64 1, .int .i64 5] 3)) (some ⟨w.heap.size, 0, none⟩) 3 [9, 1, 5] := ⟨rfl, Rd.lit w [.int .i64 9, .int .i64 1, .int .i64 5] 3⟩
set_option maxRecDepth 100000 in
set_option maxHeartbeats 4000000 in
theorem lives_ok (w : World) : Calls Try.prog 38 #[] w fun e w' => e = .returned (.bool true) ∧ Fr No w w' := by
  have HL3 := hid (lit3 w)
  have E1 : ∀ w, (binOp .eql 59 (.complex .f64 b2 b5) (.complex .f64 4611686018427387904 4617315517961601024)).run Try.prog w = .ok (.bool true) w := fun _ => by kernel_rfl
  have E2 : ∀ w, (binOp .eql 59 (.complex .f64 m5 b2) (.complex .f64 13840687554816376832 4611686018427387904)).run Try.prog w = .ok (.bool true) w := fun _ => by kernel_rfl
  have E3 : ∀ w, (binOp .eql 59 (.complex .f64 b2 b8) (.complex .f64 4611686018427387904 4620693217682128896)).run Try.prog w = .ok (.bool true) w := fun _ => by kernel_rfl
  go_enter Try.func38, Try.ntmps38
  go_wp2_with fail
  refine (sweep_ok 5 _ 3 3 [9, 1, 5] _ (by omega) HL3.out).mono ?_
  rintro e w1 ⟨A1, c1, ys, rfl, r1, hp, hs, f1⟩
  obtain rfl := three hp hs
  have FW := hid (((Fr.refl No w).alloc (.cells #[.int .i64 9, .int .i64 1, .int .i64 5] 3)).trans f1)
  have R1 := hid r1
  have HL1 := hid (lit_rd w1 25 3)
  clear r1 f1 hp hs HL3
  go_wp2_with fail
  refine (walk_ok _ 1 _ HL1.out).mono ?_
  rintro e w2 ⟨rfl, f2⟩
  have FW := hid ((FW.out.alloc (.cells #[.int .i64 25, .int .i64 3] 23)).trans f2)
  have R1 := hid ((R1.out.fr ((Fr.refl No w1).alloc (.cells #[.int .i64 25, .int .i64 3] 23))).fr f2)
  clear f2 HL1
  go_wp2_with fail
  refine (place25 _).mono ?_
  rintro e w3 ⟨rfl, f3⟩
  have FW := kf f3 FW
  have R1 := hid (R1.out.fr f3)
  clear f3
  go_wp2_with fail
  refine (sector_at _).mono ?_
  rintro e w4 ⟨rfl, rfl⟩
  go_wp2_with fail
  refine (turn_at _).mono ?_
  rintro e w4 ⟨rfl, rfl⟩
  go_wp2_with fail
  refine (norm_at _).mono ?_
  rintro e w4 ⟨rfl, rfl⟩
  go_wp2_with fail
  refine (apart_at _).mono ?_
  rintro e w4 ⟨rfl, rfl⟩
  obtain ⟨g, o, rfl, _, hc⟩ := R1.out.2.2 (by simp)
  have q0 := hc 0 _ rfl
  have q2 := hc 2 _ rfl
  simp only [en, Nat.add_zero] at q0 q2
  clear hc
  go_wp2_with fail
  refine (may_at _).mono ?_
  rintro e w4 ⟨rfl, rfl⟩
  go_wp2
  go_ret
  exact ⟨rfl, FW.out⟩
end Go.Proofs.Ythldppgbopiaiaa.PoE
