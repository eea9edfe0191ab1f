/- Contracts: the head's way through one given span. -/
import Derived.Test.YthldppgbopiaiaaPoA
import Derived.Test.YthldppgbopiaiaaSpP
import Derived.Deep.DeepCutAuto
namespace Go.Proofs.Ythldppgbopiaiaa.PoB
open Go.RowKit MSep MSepC MSpM SpA SpO PoA

theorem whole1 : Whole b1 := ⟨fun _ => by kernel_rfl, fun _ => by kernel_rfl, fun _ => by kernel_rfl, by kernel_rfl, by kernel_rfl, by kernel_rfl⟩
theorem whole3 : Whole b3 := ⟨fun _ => by kernel_rfl, fun _ => by kernel_rfl, fun _ => by kernel_rfl, by kernel_rfl, by kernel_rfl, by kernel_rfl⟩
theorem whole4 : Whole b4 := ⟨fun _ => by kernel_rfl, fun _ => by kernel_rfl, fun _ => by kernel_rfl, by kernel_rfl, by kernel_rfl, by kernel_rfl⟩
theorem lt0 : FloatKind.f64.format.order b0 (floatOfInt FloatKind.f64 10) = some .lt := by kernel_rfl
theorem nn5 : NN b5 := .inl (by kernel_rfl)
theorem cv0 : Cv b0 0 := fun _ => by kernel_rfl
theorem cv2 : Cv b2 2 := fun _ => by kernel_rfl
theorem cv5 : Cv b5 5 := fun _ => by kernel_rfl
theorem cv1 : Cv b1 1 := fun _ => by kernel_rfl
theorem cv4 : Cv b4 4 := fun _ => by kernel_rfl
def m2 : Nat := 13835058055282163712
def m4 : Nat := 13839561654909534208
def m5 : Nat := 13840687554816376832
theorem absm2 : ∀ w, Calls Try.prog 91 #[.float .f64 m2] w fun e w' => e = .returned (.float .f64 b2) ∧ w = w' := abs_ok m2 b2 (fun _ => by kernel_rfl) (by kernel_rfl) (fun _ => by kernel_rfl)
theorem absm4 : ∀ w, Calls Try.prog 91 #[.float .f64 m4] w fun e w' => e = .returned (.float .f64 b4) ∧ w = w' := abs_ok m4 b4 (fun _ => by kernel_rfl) (by kernel_rfl) (fun _ => by kernel_rfl)
theorem absp1 : ∀ w, Calls Try.prog 91 #[.float .f64 b1] w fun e w' => e = .returned (.float .f64 b1) ∧ w = w' := abs_ok b1 b1 (fun _ => by kernel_rfl) (by kernel_rfl) (fun _ => by kernel_rfl)
theorem dist02 : ∀ w, Calls Try.prog 71 #[.float .f64 b0, .float .f64 b2] w fun e w' => e = .returned (.int .i64 2) ∧ w = w' := distance_ok b0 b2 m2 b2 2 (fun _ => by kernel_rfl) absm2 cv2
theorem dist04 : ∀ w, Calls Try.prog 71 #[.float .f64 b0, .float .f64 b4] w fun e w' => e = .returned (.int .i64 4) ∧ w = w' := distance_ok b0 b4 m4 b4 4 (fun _ => by kernel_rfl) absm4 cv4
theorem dist10 : ∀ w, Calls Try.prog 71 #[.float .f64 b1, .float .f64 b0] w fun e w' => e = .returned (.int .i64 1) ∧ w = w' := distance_ok b1 b0 b1 b1 1 (fun _ => by kernel_rfl) absp1 cv1
theorem on00 : ∀ w, Calls Try.prog 66 #[.complex .f64 b0 b0, .int .i64 10] w fun e w' => e = .returned (.bool true) ∧ w = w' := onPlatter_ok b0 b0 whole0 whole0 nn0 nn0 lt0
theorem on25 : ∀ w, Calls Try.prog 66 #[.complex .f64 b2 b5, .int .i64 10] w fun e w' => e = .returned (.bool true) ∧ w = w' := onPlatter_ok b2 b5 whole2 whole5 nn2 nn5 lt5
theorem cost_at : ∀ w, Calls Try.prog 68 #[.complex .f64 b0 b0, .complex .f64 b2 b5, .int .i64 10] w fun e w' => e = .returned (.int .i64 25) ∧ Fr No w w' := fun w =>
  (cost_ok b0 b0 b2 b5 on00 on25 dist02 cv0 cv5 w).mono (fun _ _ h => ⟨h.1, h.2 ▸ Fr.refl _ _⟩)
theorem sector_at : ∀ w, Calls Try.prog 56 #[.complex .f64 b2 b5, .int .i64 10] w fun e w' => e = .returned (.int .i64 25) ∧ w = w' := sector_ok b2 b5 whole2 whole5 nn2 nn5 lt5 cv2 cv5
theorem turn_at : ∀ w, Calls Try.prog 57 #[.complex .f64 b2 b5, .int .i64 1] w fun e w' => e = .returned (.complex .f64 m5 b2) ∧ w = w' := turn_ok b2 b5 m5 b2 whole2 whole5 (fun _ => by kernel_rfl)
theorem norm_at : ∀ w, Calls Try.prog 58 #[.complex .f64 b3 b4] w fun e w' => e = .returned (.int .i64 25) ∧ w = w' := norm_ok b3 b4 4621256167635550208 4625196817309499392 4627730092099895296 whole3 whole4 (fun _ => by kernel_rfl) (fun _ => by kernel_rfl) (fun _ => by kernel_rfl) (fun _ => by kernel_rfl)
theorem apart_at : ∀ w, Calls Try.prog 59 #[.complex .f64 b1 b0, .complex .f64 b0 b4] w fun e w' => e = .returned (.int .i64 5) ∧ w = w' := apart_ok b1 b0 b0 b4 whole1 whole0 whole0 whole4 dist10 dist04
theorem may_at : ∀ w, Calls Try.prog 60 #[.complex .f64 b0 b0] w fun e w' => e = .returned (.bool true) ∧ w = w' := may_ok b0 b0 whole0 whole0
theorem place25 (w : World) : Calls Try.prog 55 #[.int .i64 25, .int .i64 10] w fun e w' => e = .returned (.complex .f64 b2 b5) ∧ Fr No w w' := by
  go_enter Try.func55, Try.ntmps55
  go_wp2_with fail
  refine (isTrack10 _).mono ?_
  rintro e w1 ⟨rfl, rfl⟩
  go_wp2_with fail
  go_quiet (fail)
  go_wp2_with fail
  go_ret
  exact ⟨by rw [show floatOfInt FloatKind.f64 2 = b2 by kernel_rfl, show floatOfInt FloatKind.f64 5 = b5 by kernel_rfl]; rfl, (Fr.refl No w).drewN _⟩
theorem place28 (w : World) : Calls Try.prog 55 #[.int .i64 28, .int .i64 10] w fun e w' => e = .returned (.complex .f64 b2 b8) ∧ Fr No w w' := by
  go_enter Try.func55, Try.ntmps55
  go_wp2_with fail
  refine (isTrack10 _).mono ?_
  rintro e w1 ⟨rfl, rfl⟩
  go_wp2_with fail
  go_quiet (fail)
  go_wp2_with fail
  go_ret
  exact ⟨by rw [show floatOfInt FloatKind.f64 2 = b2 by kernel_rfl, show floatOfInt FloatKind.f64 8 = b8 by kernel_rfl]; rfl, (Fr.refl No w).drewN _⟩
theorem gone_ok (w : World) : Calls Try.prog 67 #[.agg #[.int .i64 25, .int .i64 3]] w fun e w' => e = .returned (.bool true) ∧ Fr No w w' := by
  have HF := hid ((Fr.refl No w).alloc (.cells #[.int .i64 25, .int .i64 3] 23))
  have PB := hid (Blk.new w 23 #[.int .i64 25, .int .i64 3])
  have HM := hid (fun w => SpA.may_ok 25 3 w (by unfold wf; omega))
  rw [show decide (may (25, 3)) = true by decide] at HM
  have HE := hid (fun w => SpA.end_ok 25 3 w (by unfold wf; omega))
  rw [show fin (25, 3) = 28 by decide] at HE
  go_enter Try.func67, Try.ntmps67
  go_wp2_with fail
  refine (HM.out _).mono ?_
  rintro e w1 ⟨rfl, f1⟩
  have HF := kf f1 HF
  have c0 := (PB.out.fr f1 (fun h => h)).cell 0
  have c1 := (PB.out.fr f1 (fun h => h)).cell 1
  simp only [List.getElem?_toArray, List.getElem?_cons_zero, List.getElem?_cons_succ] at c0 c1
  clear f1
  go_wp2_with fail
  refine (HE.out _).mono ?_
  rintro e w2 ⟨rfl, f2⟩
  have HF := kf f2 HF
  clear f2
  go_wp2
  go_ret
  exact ⟨rfl, HF.out⟩

/-- Behind no round of Walk, behind one. -/
def WkI (w : World) (c z i : Value) (wr : World) : Prop := ((c = .int .i64 0 ∧ z = .complex .f64 b0 b0 ∧ i = .int .i64 0) ∨ (c = .int .i64 28 ∧ z = .complex .f64 b2 b8 ∧ i = .int .i64 1)) ∧ Fr No w wr
theorem wk0 {w wr : World} (h : Fr No w wr) : WkI w (.int .i64 0) (.complex .f64 b0 b0) (.int .i64 0) wr := ⟨.inl ⟨rfl, rfl, rfl⟩, h⟩
theorem wk1 {w wr : World} (h : Fr No w wr) : WkI w (.int .i64 28) (.complex .f64 b2 b8) (.int .i64 1) wr := ⟨.inr ⟨rfl, rfl, rfl⟩, h⟩
set_option maxRecDepth 100000 in
set_option maxHeartbeats 2000000 in
theorem walk_ok (A : Option Addr) (c : Nat) (w : World) (hx : RdS w A 1 [(25, 3)]) : Calls Try.prog 54 #[.complex .f64 b0 b0, .slice A 1 c, .int .i64 10] w fun e w' => e = .returned (.tuple #[.int .i64 28, .complex .f64 b2 b8]) ∧ Fr No w w' := by
  have HX := hid hx
  clear hx
  go_enter Try.func54, Try.ntmps54
  go_wp2_with fail
  refine (on00 _).mono ?_
  rintro e w1 ⟨rfl, rfl⟩
  go_wp2_with fail
  go_loopw [8, 9, 19] (fun c z i wr => WkI w c z i wr) (fun _ _ i _ => 1 - (intOf i).toNat)
  case atStart => exact wk0 (Fr.refl _ _)
  case round =>
    obtain ⟨⟨rfl, rfl, rfl⟩ | ⟨rfl, rfl, rfl⟩, hf⟩ := hrel
    · obtain ⟨g, o, rfl, hg, hc⟩ := (HX.out.fr hf).at_ (by omega)
      obtain ⟨q0, q1⟩ := hc 0 _ rfl
      simp only [Nat.zero_mul, Nat.add_zero] at q0 q1
      have FW := hid (hf.alloc (.cells #[.int .i64 25, .int .i64 3] 23))
      have PB := hid (Blk.new wr 23 #[.int .i64 25, .int .i64 3])
      clear hc hg hf
      go_wp2_with fail
      refine (gone_ok _).mono ?_
      rintro e w2 ⟨rfl, f2⟩
      have FW := kf f2 FW
      have PB := hid (PB.out.fr f2 (fun h => h))
      have c0 := PB.out.cell 0
      have c1 := PB.out.cell 1
      simp only [List.getElem?_toArray, List.getElem?_cons_zero, List.getElem?_cons_succ] at c0 c1
      clear f2
      go_wp2_with fail
      have PB := hid PB.out.drew
      have FW := kd FW
      refine wp_region_noPanic ?_
      refine wp_region_held_drew (S := (fun W' => W'.cell? ⟨wr.heap.size, 0, none⟩ = some (.int .i64 25) ∧ W'.cell? ⟨wr.heap.size, 1, none⟩ = some (.int .i64 3) ∧ Hid (Fr No w W'))) (by kernel_rfl) ?_ (fun hHeld => ?_)
      · (try dsimp only); (first | (go_split_ands; exact ⟨kc f (by assumption), kc f (by assumption), by assumption⟩) | (go_split_ands; exact ⟨(by assumption), (by assumption), by assumption⟩) | (go_split_ands; exact ⟨kc (fr1 _ _) (by assumption), kc (fr1 _ _) (by assumption), kfa (by assumption)⟩))
      refine wpAnyH_take (i := 0) (v := ?v1) rfl (by kernel_rfl) (by kernel_rfl) (by kernel_rfl) (fun _ _ _ h => h) (Or.inl ⟨by kernel_rfl, ?y1⟩) (by assumption) ?_
      case y1 => (intro w hSw; (try dsimp only at hSw); go_simp; all_goals with_reducible rfl)
      try simp only [Act.put, List.getElem_toArray, List.getElem_cons_zero, List.setIfInBounds_toArray, List.set_cons_zero, List.set_cons_succ]
      refine wpAnyH_take (i := 1) (v := ?v2) rfl (by kernel_rfl) (by kernel_rfl) (by kernel_rfl) (fun _ _ _ h => h) (Or.inl ⟨by kernel_rfl, ?y2⟩) (by assumption) ?_
      case y2 => (intro w hSw; (try dsimp only at hSw); go_simp; all_goals with_reducible rfl)
      try simp only [Act.put, List.getElem_toArray, List.getElem_cons_succ, List.getElem_cons_zero, List.setIfInBounds_toArray, List.set_cons_zero, List.set_cons_succ]
      refine wpAnyH_take (i := 2) (v := ?v3) rfl (by kernel_rfl) (by kernel_rfl) (by kernel_rfl) (fun _ _ _ h => h) (Or.inl ⟨by kernel_rfl, ?y3⟩) (by assumption) ?_
      case y3 => (intro w hSw; (try dsimp only at hSw); go_simp; all_goals with_reducible rfl)
      try simp only [Act.put, List.getElem_toArray, List.getElem_cons_succ, List.getElem_cons_zero, List.setIfInBounds_toArray, List.set_cons_zero, List.set_cons_succ]
      refine wpAnyH_take (i := 3) (v := ?v4) rfl (by kernel_rfl) (by kernel_rfl) (by kernel_rfl) (fun _ _ _ h => h) (Or.inl ⟨by kernel_rfl, ?y4⟩) (by assumption) ?_
      case y4 => (intro w hSw; (try dsimp only at hSw); go_simp; all_goals with_reducible rfl)
      try simp only [Act.put, List.getElem_toArray, List.getElem_cons_succ, List.getElem_cons_zero, List.setIfInBounds_toArray, List.set_cons_zero, List.set_cons_succ]
      refine wpAnyH_take (i := 4) (v := ?v5) rfl (by kernel_rfl) (by kernel_rfl) (by kernel_rfl) (fun _ _ _ h => h) (Or.inl ⟨by kernel_rfl, ?y5⟩) (by assumption) ?_
      case y5 => (intro w hSw; (try dsimp only at hSw); go_simp; all_goals with_reducible rfl)
      try simp only [Act.put, List.getElem_toArray, List.getElem_cons_succ, List.getElem_cons_zero, List.setIfInBounds_toArray, List.set_cons_zero, List.set_cons_succ]
      refine wpAnyH_take (i := 6) (v := ?v6) rfl (by kernel_rfl) (by kernel_rfl) (by kernel_rfl) (fun _ _ _ h => h) (Or.inl ⟨by kernel_rfl, ?y6⟩) (by assumption) ?_
      case y6 => (intro w hSw; (try dsimp only at hSw); go_simp; all_goals with_reducible rfl)
      try simp only [Act.put, List.getElem_toArray, List.getElem_cons_succ, List.getElem_cons_zero, List.setIfInBounds_toArray, List.set_cons_zero, List.set_cons_succ]
      refine wpAnyH_take (i := 8) (v := ?v7) rfl (by kernel_rfl) (by kernel_rfl) (by kernel_rfl) (fun _ _ _ h => h) (Or.inl ⟨by kernel_rfl, ?y7⟩) (by assumption) ?_
      case y7 => (intro w hSw; (try dsimp only at hSw); go_simp; all_goals with_reducible rfl)
      try simp only [Act.put, List.getElem_toArray, List.getElem_cons_succ, List.getElem_cons_zero, List.setIfInBounds_toArray, List.set_cons_zero, List.set_cons_succ]
      refine wpAnyH_take (i := 9) (v := ?v8) rfl (by kernel_rfl) (by kernel_rfl) (by kernel_rfl) (fun _ _ _ h => h) (Or.inl ⟨by kernel_rfl, ?y8⟩) (by assumption) ?_
      case y8 => (intro w hSw; (try dsimp only at hSw); go_simp; all_goals with_reducible rfl)
      try simp only [Act.put, List.getElem_toArray, List.getElem_cons_succ, List.getElem_cons_zero, List.setIfInBounds_toArray, List.set_cons_zero, List.set_cons_succ]
      refine wpAnyH_ready (rs := [5]) (by kernel_rfl) (by simp) (AllReadyH.cons rfl (fun K hK => ?_) AllReadyH.nil)
      go_simp
      go_at_call 55
      refine (place25 _).mono ?_
      rintro e W1 ⟨rfl, f⟩
      have FW := kf f hHeld.2.2
      have PB := hid (PB.out.fr f (fun h => h))
      dsimp only
      refine hK.out _ _ ?_ (fun hHeld => ?_)
      · (try dsimp only); (first | (go_split_ands; exact ⟨kc f (by assumption), kc f (by assumption), by assumption⟩) | (go_split_ands; exact ⟨(by assumption), (by assumption), by assumption⟩) | (go_split_ands; exact ⟨kc (fr1 _ _) (by assumption), kc (fr1 _ _) (by assumption), kfa (by assumption)⟩))
      clear hK K
      try simp only [Act.put, List.getElem_toArray, List.getElem_cons_succ, List.getElem_cons_zero, List.setIfInBounds_toArray, List.set_cons_zero, List.set_cons_succ]
      refine wpAnyH_ready (rs := [7]) (by kernel_rfl) (by simp) (AllReadyH.cons rfl (fun K hK => ?_) AllReadyH.nil)
      go_simp
      go_at_call 68
      refine (cost_at _).mono ?_
      rintro e W1 ⟨rfl, f⟩
      have FW := kf f hHeld.2.2
      have PB := hid (PB.out.fr f (fun h => h))
      dsimp only
      refine hK.out _ _ ?_ (fun hHeld => ?_)
      · (try dsimp only); (first | (go_split_ands; exact ⟨kc f (by assumption), kc f (by assumption), by assumption⟩) | (go_split_ands; exact ⟨(by assumption), (by assumption), by assumption⟩) | (go_split_ands; exact ⟨kc (fr1 _ _) (by assumption), kc (fr1 _ _) (by assumption), kfa (by assumption)⟩))
      clear hK K
      try simp only [Act.put, List.getElem_toArray, List.getElem_cons_succ, List.getElem_cons_zero, List.setIfInBounds_toArray, List.set_cons_zero, List.set_cons_succ]
      refine wpAnyH_take (i := 10) (v := ?v9) rfl (by kernel_rfl) (by kernel_rfl) (by kernel_rfl) (fun _ _ _ h => h) (Or.inl ⟨by kernel_rfl, ?y9⟩) (by assumption) ?_
      case y9 => (intro w hSw; (try dsimp only at hSw); go_simp; all_goals with_reducible rfl)
      try simp only [Act.put, List.getElem_toArray, List.getElem_cons_succ, List.getElem_cons_zero, List.setIfInBounds_toArray, List.set_cons_zero, List.set_cons_succ]
      refine wpAnyH_take (i := 11) (v := ?v10) rfl (by kernel_rfl) (by kernel_rfl) (by kernel_rfl) (fun _ _ _ h => h) (Or.inl ⟨by kernel_rfl, ?y10⟩) (by assumption) ?_
      case y10 => (intro w hSw; (try dsimp only at hSw); go_simp; all_goals with_reducible rfl)
      try simp only [Act.put, List.getElem_toArray, List.getElem_cons_succ, List.getElem_cons_zero, List.setIfInBounds_toArray, List.set_cons_zero, List.set_cons_succ]
      refine wpAnyH_take (i := 12) (v := ?v11) rfl (by kernel_rfl) (by kernel_rfl) (by kernel_rfl) (fun _ _ _ h => h) (Or.inl ⟨by kernel_rfl, ?y11⟩) (by assumption) ?_
      case y11 => (intro w hSw; (try dsimp only at hSw); go_simp; all_goals with_reducible rfl)
      try simp only [Act.put, List.getElem_toArray, List.getElem_cons_succ, List.getElem_cons_zero, List.setIfInBounds_toArray, List.set_cons_zero, List.set_cons_succ]
      refine wpAnyH_done (by kernel_rfl) ?_ _
      refine NoPanic.normal ?_
      have HE := hid (fun w => SpA.end_ok 25 3 w (by unfold wf; omega))
      rw [show fin (25, 3) = 28 by decide] at HE
      have c0 := PB.out.cell 0
      have c1 := PB.out.cell 1
      simp only [List.getElem?_toArray, List.getElem?_cons_zero, List.getElem?_cons_succ] at c0 c1
      go_wp2_with fail
      refine (HE.out _).mono ?_
      rintro e w5 ⟨rfl, f5⟩
      have FW := kf f5 FW
      clear f5
      go_wp2_with fail
      refine (place28 _).mono ?_
      rintro e w6 ⟨rfl, f6⟩
      have FW := kf f6 FW
      clear f6
      go_wp2
      go_roundw
      case rel => exact wk1 FW.out
      case measure => simp [intOf]
    · go_wp2
      go_ret2
      exact ⟨rfl, hf⟩
end Go.Proofs.Ythldppgbopiaiaa.PoB
