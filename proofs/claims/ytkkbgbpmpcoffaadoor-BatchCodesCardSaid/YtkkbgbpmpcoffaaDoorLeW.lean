/- Contracts of package le's writer. Conditions: the writer's own block and its bytes' block are known whole. -/
import Derived.Test.YtkkbgbpmpcoffaaDoorLeA
import Derived.Test.YtkkbgbpmpcoffaaDoorSep
namespace Go.Proofs.YtkkbgbpmpcoffaaDoor.LeW
open Go.RowKit MSep LeA

/-- The lowest k bytes of n, the lowest first. -/
def low : Nat → Int → List Int
  | 0, _ => []
  | k + 1, n => n % 256 :: low k (n / 256)
theorem low_len : ∀ k n, (low k n).length = k
  | 0, _ => rfl
  | k + 1, n => by simp [low, low_len k]
theorem low_snoc : ∀ k n, low (k + 1) n = low k n ++ [n / 256 ^ k % 256]
  | 0, n => by simp [low]
  | k + 1, n => by
    rw [low, low_snoc k, low, List.cons_append, Int.ediv_ediv_of_nonneg (by omega)]
    congr 4
    rw [Int.pow_succ, Int.mul_comm]

/-- A writer at block g, with so much room, at fault or not, with what was put in the slice sv. -/
structure WOk (w : World) (B g : Nat) (room : Int) (bad : Bool) (sv : Value) (xs : List Int) : Prop where
  blk : Blk w g 119 #[.int .i64 room, sv, .bool bad]
  own : w.ownsRow B 5 1 sv xs.length (xs.map (Value.int .u8))
  hB : B ≤ g
  r0 : 0 ≤ room
  r1 : room ≤ 65536
  fit : xs.length ≤ room

/-- The blocks of a writer. -/
def WF (g : Nat) (sv : Value) : Nat → Prop := fun k => k = g ∨ sv.ownBlock = some k

theorem WOk.apart {w : World} {B g : Nat} {room : Int} {bad : Bool} {sv : Value} {xs : List Int} (h : WOk w B g room bad sv xs) : sv.ownBlock ≠ some g :=
  own_blk_ne h.own h.blk (by decide)

theorem WOk.fr {w w' : World} {B g : Nat} {room : Int} {bad : Bool} {sv : Value} {xs : List Int} {S : Nat → Prop} (h : WOk w B g room bad sv xs) (hf : Fr S w w') (hn : ∀ k, WF g sv k → ¬ S k) : WOk w' B g room bad sv xs :=
  ⟨h.blk.fr hf (hn g (.inl rfl)), own_fr h.own hf (fun k hk => hn k (.inr hk)), h.hB, h.r0, h.r1, h.fit⟩

theorem u8_info : (Tryd.prog.info? 5).map (fun i => (i.zero, i.size, i.bytes)) = some (some (.int .u8 0), 1, 1) := by kernel_rfl

set_option maxRecDepth 100000 in
theorem put_ok (g : Nat) (size : Int) (n : Int) (B : Nat) (room : Int) (sv : Value) (xs : List Int) (w : World) (hs : size = 1 ∨ size = 2 ∨ size = 4 ∨ size = 8)
    (hf : xs.length + size ≤ room) (hn : 0 ≤ n) (hn2 : n < 18446744073709551616) (hB : B ≤ w.heap.size) (h : WOk w B g room false sv xs) :
    Calls Tryd.prog 54 #[.pointer (some ⟨g, 0, none⟩), .int .i64 size, .int .u64 n] w fun e w' => e = .returned (.pointer (some ⟨g, 0, none⟩)) ∧
      ∃ sv', WOk w' B g room false sv' (xs ++ low size.toNat n) ∧ Fr (WF g sv) w w' ∧ ∀ k, sv'.ownBlock = some k → sv.ownBlock = some k ∨ w.heap.size ≤ k := by
  go_enter Tryd.func54, Tryd.ntmps54
  obtain ⟨A, cap, rfl⟩ := own_form h.own
  have hfit := h.fit
  have hr0 := h.r0
  have hr1 := h.r1
  have c0 := h.blk.cell 0
  have c1 := h.blk.cell 1
  have c2 := h.blk.cell 2
  have hb : (size == 1 || size == 2 || size == 4 || size == 8) = true := by rcases hs with rfl | rfl | rfl | rfl <;> rfl
  have hsz : 1 ≤ size ∧ size ≤ 8 := by omega
  go_wp2_with fail
  refine wp_scope_on 0 rfl ?_
  go_wp2_with (first | (go_at_call 74; refine (isSize_any _ _).mono ?_; rintro e w' ⟨rfl, rfl⟩; rw [hb]) | (go_at_call 73; refine (fits_ok _ _ _ _ _ _ _ hr0 hr1 (by omega) c0 c1 c2).mono ?_; rintro e w' ⟨rfl, nd, rfl⟩; rw [decide_eq_true (by omega)]))
  obtain ⟨i0, hi, hz0, hz1, hz2⟩ := info_parts u8_info
  clear c0 c1 c2 hb
  go_loopw [2, 17] (fun m i wr => ∃ k : Nat, k ≤ size.toNat ∧ i = .int .i64 k ∧ m = .int .u64 (n / 256 ^ k) ∧ ∃ sv', WOk wr B g room false sv' (xs ++ low k n) ∧ Fr (WF g (.slice A xs.length cap)) w wr ∧ ∀ q, sv'.ownBlock = some q → (Value.slice A xs.length cap).ownBlock = some q ∨ w.heap.size ≤ q)
    (fun _ i _ => size.toNat - (intOf i).toNat)
  case atStart =>
    refine ⟨0, by omega, rfl, by simp, _, ?_, (Fr.refl _ _).drewN _, fun q hq => .inl hq⟩
    simpa [low] using h.fr (S := No) ((Fr.refl _ _).drewN nd) (fun _ _ h => h)
  case round =>
    obtain ⟨k, hk, rfl, rfl, sv', hW, hF, hO⟩ := hrel
    by_cases hlt : k < size.toNat
    · have c1 := hW.blk.cell 1
      have f1 := hW.blk.frozen 1
      have hne := hW.apart
      have hfl : (xs ++ low k n).length = xs.length + k := by simp [low_len]
      obtain ⟨m, hm⟩ : ∃ m, n / 256 ^ k = m := ⟨_, rfl⟩
      have m0 : 0 ≤ m := by rw [← hm]; exact Int.ediv_nonneg hn (Int.pow_nonneg (by omega))
      have m1 : m < 18446744073709551616 := by rw [← hm]; exact Int.lt_of_le_of_lt (Int.ediv_le_self _ hn) hn2
      rw [hm]
      have HM := hid hm
      have HL := hid hfl
      clear hm hfl
      have hBr : B ≤ wr.heap.size := Nat.le_trans hB hF.size
      go_wp2_with (first
        | (at_builtin; go_must (refine wpList_app rfl (.tmp 23) (.tmp 26) 27 rfl B 5 i0 (.int .u8 0) 1 Tryd.underlying27 hi hz0 hz1 hz2 rfl sv' _ _ rfl (hW.own.alloc _) _ 1 1 [.int .u8 (m % 256)] rfl (Rd.one _ _ _) one_u8 (by have := HL.out; simp only [maxLen]; omega) (by have := HL.out; omega) (by simp; omega) ?_)))
      intro A1 k1 w1 hown1 hF1 hO1
      have hb1 : Blk w1 g 119 #[.int .i64 room, sv', .bool false] := (hW.blk.alloc _).fr hF1 hne
      have d1 := hb1.cell 1
      have e1 := hb1.frozen 1
      have HO1 := hid hO1
      clear hO1
      go_wp2
      go_roundw
      case rel =>
        refine ⟨k + 1, by omega, by go_num, ?_, .slice A1 (xs.length + (low k n).length + 1) k1, ⟨?_, ?_, hW.hB, hr0, hr1, ?_⟩, ?_, ?_⟩
        · rw [← HM.out, Int.ediv_ediv_of_nonneg (Int.pow_nonneg (by omega)), Int.pow_succ]
        · simpa using hb1.set_ 1 _
        · rw [low_snoc, HM.out]
          refine own_fr (S := fun q => q = g) ?_ (Fr.set1 w1 g 1 _) (fun q hq hg => ?_)
          · simpa [HL.out, Nat.add_assoc] using hown1
          · subst hg
            exact own_blk_ne hown1 hb1 (by decide) hq
        · have := HL.out
          simp [low_len] at this ⊢
          omega
        · exact (hF.step ((((Fr.refl _ _).alloc _).step hF1 (fun _ _ h => .inr h)).setCell (S := WF g sv') (fun _ => .inl rfl) _) (fun i hi hw => hw.elim .inl (fun h => (hO i h).elim .inr (fun h => absurd hi (by omega)))))
        · intro q hq
          rcases HO1.out q hq with h | h
          · exact hO q h
          · have := hF.size
            exact .inr (by omega)
      case measure => simp [intOf]; omega
    · obtain rfl : k = size.toNat := by omega
      have HW := hid hW
      clear hW
      go_wp2
      rw [jump_ret]
      go_ret
      exact ⟨rfl, sv', HW.out, hF, hO⟩

theorem WOk.toBad {w : World} {B g : Nat} {room : Int} {bad : Bool} {sv : Value} {xs : List Int} (h : WOk w B g room bad sv xs) : WOk (w.setCell ⟨g, 2, none⟩ (.bool true)) B g room true sv xs :=
  ⟨by simpa using h.blk.set_ 2 (.bool true), own_fr h.own (Fr.set1 w g 2 _) (fun k hk hg => h.apart (hg ▸ hk)), h.hB, h.r0, h.r1, h.fit⟩

set_option maxRecDepth 100000 in
theorem put_bad (g : Nat) (size : Int) (n : Int) (B : Nat) (room : Int) (bad : Bool) (sv : Value) (xs : List Int) (w : World)
    (hf : bad = true ∨ ¬ (size = 1 ∨ size = 2 ∨ size = 4 ∨ size = 8) ∨ room < xs.length + size) (h : WOk w B g room bad sv xs) :
    Calls Tryd.prog 54 #[.pointer (some ⟨g, 0, none⟩), .int .i64 size, .int .u64 n] w fun e w' => e = .returned (.pointer (some ⟨g, 0, none⟩)) ∧
      WOk w' B g room true sv xs ∧ Fr (fun k => k = g) w w' := by
  by_cases hs : size = 1 ∨ size = 2 ∨ size = 4 ∨ size = 8
  · have hb : (size == 1 || size == 2 || size == 4 || size == 8) = true := by rcases hs with rfl | rfl | rfl | rfl <;> rfl
    have hfits : ∀ w', (∀ i, w'.cell? ⟨g, i, none⟩ = w.cell? ⟨g, i, none⟩) → Calls Tryd.prog 73 #[.pointer (some ⟨g, 0, none⟩), .int .i64 size] w' fun e w'' => e = .returned (.bool false) ∧ ∃ k, w'' = w'.drewN k := by
      intro w' hc
      have hr0 := h.r0
      have hr1 := h.r1
      have hfit := h.fit
      cases bad with
      | true => exact fits_bad _ _ _ ((hc 2).trans (h.blk.cell 2))
      | false =>
        obtain ⟨A, cap, rfl⟩ := own_form h.own
        have hlt : room < xs.length + size := by
          rcases hf with h1 | h1 | h1
          · cases h1
          · exact absurd hs h1
          · exact h1
        refine (fits_ok _ _ _ _ _ _ _ hr0 hr1 (by omega) ((hc 0).trans (h.blk.cell 0)) ((hc 1).trans (h.blk.cell 1)) ((hc 2).trans (h.blk.cell 2))).mono ?_
        rintro e w' ⟨rfl, hk⟩
        refine ⟨?_, hk⟩
        rw [decide_eq_false (by omega)]
    have HF := hid hfits
    have c2 := h.blk.cell 2
    have f2 := h.blk.frozen 2
    clear hfits hf
    go_enter Tryd.func54, Tryd.ntmps54
    go_wp2_with fail
    refine wp_scope_on 0 rfl ?_
    go_wp2_with (first | (go_at_call 74; refine (isSize_any _ _).mono ?_; rintro e w' ⟨rfl, rfl⟩; rw [hb]) | (go_at_call 73; refine (HF.out _ (fun _ => rfl)).mono ?_; rintro e w' ⟨rfl, nd, rfl⟩))
    go_step3
    refine jump_on ?_
    go_wp2
    rw [Exit.noGoto_ret]
    go_ret
    exact ⟨rfl, WOk.toBad (h.fr (S := No) ((Fr.refl _ _).drewN nd) (fun _ _ h => h)), Fr.step (S := fun k => k = g) ((Fr.refl _ w).drewN nd) (Fr.set1 _ g 2 _) (fun _ _ h => h)⟩
  · have hb : (size == 1 || size == 2 || size == 4 || size == 8) = false := by simp; omega
    have c2 := h.blk.cell 2
    have f2 := h.blk.frozen 2
    clear hs hf
    go_enter Tryd.func54, Tryd.ntmps54
    go_wp2_with fail
    refine wp_scope_on 0 rfl ?_
    go_wp2_with (first | (go_at_call 74; refine (isSize_any _ _).mono ?_; rintro e w' ⟨rfl, rfl⟩; rw [hb]))
    go_step3
    refine jump_on ?_
    go_wp2
    rw [Exit.noGoto_ret]
    go_ret
    exact ⟨rfl, WOk.toBad h, Fr.set1 _ g 2 _⟩

set_option maxRecDepth 100000 in
theorem put_nil (size n : Int) (w : World) :
    Calls Tryd.prog 54 #[.pointer none, .int .i64 size, .int .u64 n] w fun e w' => e = .returned (.pointer none) ∧ w = w' := by
  go_enter Tryd.func54, Tryd.ntmps54
  go_wp2_with fail
  refine wp_scope_on 0 rfl ?_
  go_wp2
  rw [jump_ret]
  go_ret
  exact ⟨rfl, rfl⟩

set_option maxRecDepth 100000 in
theorem bytes_ok (g : Nat) (A : Option Addr) (n c : Nat) (ys : List Int) (B : Nat) (room : Int) (sv : Value) (xs : List Int) (w : World)
    (hf : xs.length + n ≤ room) (hr : Rd w A n (ys.map (Value.int .u8))) (hB : B ≤ w.heap.size) (h : WOk w B g room false sv xs) :
    Calls Tryd.prog 53 #[.pointer (some ⟨g, 0, none⟩), .slice A n c] w fun e w' => e = .returned (.pointer (some ⟨g, 0, none⟩)) ∧
      ∃ sv', WOk w' B g room false sv' (xs ++ ys) ∧ Fr (WF g sv) w w' ∧ ∀ k, sv'.ownBlock = some k → sv.ownBlock = some k ∨ w.heap.size ≤ k := by
  obtain ⟨i0, hi, hz0, hz1, hz2⟩ := info_parts u8_info
  obtain ⟨A0, cap, rfl⟩ := own_form h.own
  have hr0 := h.r0
  have hr1 := h.r1
  have c0 := h.blk.cell 0
  have c1 := h.blk.cell 1
  have c2 := h.blk.cell 2
  have hn : ys.length = n := by simpa using hr.1
  have HN := hid hn
  clear hn
  have hne := h.apart
  go_enter Tryd.func53, Tryd.ntmps53
  go_wp2_with fail
  refine wp_scope_on 0 rfl ?_
  go_wp2_with (first
    | (go_at_call 73; refine (fits_ok _ _ _ _ _ _ _ hr0 hr1 (by omega) c0 c1 c2).mono ?_; rintro e w' ⟨rfl, nd, rfl⟩; rw [decide_eq_true (by omega)])
    | (at_builtin; go_must (refine wpList_app rfl (.tmp 16) (.tmp 17) 27 rfl B 5 i0 (.int .u8 0) 1 Tryd.underlying27 hi hz0 hz1 hz2 rfl _ _ _ rfl (own_drewN h.own _) _ n c _ rfl (hr.drewN _) one_u8s (by simp only [maxLen]; omega) (by omega) hB ?_)))
  intro A1 k1 w1 hown1 hF1 hO1
  have hb1 : Blk w1 g 119 #[.int .i64 room, .slice A0 xs.length cap, .bool false] := (h.blk.drewN nd).fr hF1 hne
  have d1 := hb1.cell 1
  have e1 := hb1.frozen 1
  have HO1 := hid hO1
  clear hO1
  go_wp2
  rw [jump_ret]
  go_ret
  refine ⟨rfl, .slice A1 (xs.length + n) k1, ⟨by simpa using hb1.set_ 1 _, ?_, h.hB, hr0, hr1, ?_⟩, ?_, HO1.out⟩
  · refine own_fr (S := fun q => q = g) ?_ (Fr.set1 w1 g 1 _) (fun q hq hg => ?_)
    · simpa [HN.out] using hown1
    · subst hg
      exact own_blk_ne hown1 hb1 (by decide) hq
  · have := HN.out
    simp
    omega
  · exact Fr.step (S := WF g (.slice A0 xs.length cap)) (((Fr.refl _ w).drewN nd).step hF1 (fun _ _ h => .inr h)) (Fr.set1 w1 g 1 _) (fun _ _ h => .inl h)

set_option maxRecDepth 100000 in
theorem bytes_bad (g : Nat) (A : Option Addr) (n c : Nat) (B : Nat) (room : Int) (bad : Bool) (sv : Value) (xs : List Int) (w : World)
    (hf : bad = true ∨ room < xs.length + n) (h : WOk w B g room bad sv xs) :
    Calls Tryd.prog 53 #[.pointer (some ⟨g, 0, none⟩), .slice A n c] w fun e w' => e = .returned (.pointer (some ⟨g, 0, none⟩)) ∧
      WOk w' B g room true sv xs ∧ Fr (fun k => k = g) w w' := by
  have hfits : ∀ w', (∀ i, w'.cell? ⟨g, i, none⟩ = w.cell? ⟨g, i, none⟩) → Calls Tryd.prog 73 #[.pointer (some ⟨g, 0, none⟩), .int .i64 n] w' fun e w'' => e = .returned (.bool false) ∧ ∃ k, w'' = w'.drewN k := by
    intro w' hc
    have hr0 := h.r0
    have hr1 := h.r1
    have hfit := h.fit
    cases bad with
    | true => exact fits_bad _ _ _ ((hc 2).trans (h.blk.cell 2))
    | false =>
      obtain ⟨A, cap, rfl⟩ := own_form h.own
      have hlt : room < xs.length + n := by
        rcases hf with h1 | h1
        · cases h1
        · exact h1
      refine (fits_ok _ _ _ _ _ _ _ hr0 hr1 (by omega) ((hc 0).trans (h.blk.cell 0)) ((hc 1).trans (h.blk.cell 1)) ((hc 2).trans (h.blk.cell 2))).mono ?_
      rintro e w' ⟨rfl, hk⟩
      refine ⟨?_, hk⟩
      rw [decide_eq_false (by omega)]
  have HF := hid hfits
  have c2 := h.blk.cell 2
  have f2 := h.blk.frozen 2
  clear hfits hf
  go_enter Tryd.func53, Tryd.ntmps53
  go_wp2_with fail
  refine wp_scope_on 0 rfl ?_
  go_wp2_with (go_at_call 73; refine (HF.out _ (fun _ => rfl)).mono ?_; rintro e w' ⟨rfl, nd, rfl⟩)
  go_step3
  refine jump_on ?_
  go_wp2
  rw [Exit.noGoto_ret]
  go_ret
  exact ⟨rfl, WOk.toBad (h.fr (S := No) ((Fr.refl _ _).drewN nd) (fun _ _ h => h)), Fr.step (S := fun k => k = g) ((Fr.refl _ w).drewN nd) (Fr.set1 _ g 2 _) (fun _ _ h => h)⟩

set_option maxRecDepth 100000 in
theorem bytes_nil (A : Option Addr) (n c : Nat) (w : World) :
    Calls Tryd.prog 53 #[.pointer none, .slice A n c] w fun e w' => e = .returned (.pointer none) ∧ w = w' := by
  go_enter Tryd.func53, Tryd.ntmps53
  go_wp2_with fail
  refine wp_scope_on 0 rfl ?_
  go_wp2
  rw [jump_ret]
  go_ret
  exact ⟨rfl, rfl⟩

set_option maxRecDepth 100000 in
theorem done_nil (w : World) :
    Calls Tryd.prog 55 #[.pointer none] w fun e w' => e = .returned (.tuple #[.slice none 0 0, .int .i64 6]) ∧ w = w' := by
  go_enter Tryd.func55, Tryd.ntmps55
  go_wp2
  go_ret2
  exact ⟨rfl, rfl⟩

set_option maxRecDepth 100000 in
theorem done_bad (g : Nat) (B : Nat) (room : Int) (sv : Value) (xs : List Int) (w : World) (h : WOk w B g room true sv xs) :
    Calls Tryd.prog 55 #[.pointer (some ⟨g, 0, none⟩)] w fun e w' => e = .returned (.tuple #[.slice none 0 0, .int .i64 2]) ∧ w = w' := by
  have c2 := h.blk.cell 2
  go_enter Tryd.func55, Tryd.ntmps55
  go_wp2
  go_ret2
  exact ⟨rfl, rfl⟩

theorem cp_info : (Tryd.prog.info? 5).map (·.size) = some 1 := by kernel_rfl

/-- What a writer's bytes are, with 0 behind. -/
def padded (room : Nat) (xs : List Int) : List Int := xs ++ List.replicate (room - xs.length) 0

set_option maxRecDepth 100000 in
theorem done_ok (g : Nat) (B : Nat) (room : Int) (sv : Value) (xs : List Int) (w : World) (hB : B ≤ w.heap.size) (h : WOk w B g room false sv xs) :
    Calls Tryd.prog 55 #[.pointer (some ⟨g, 0, none⟩)] w fun e w' => e = .returned (.tuple #[.slice (some ⟨w.heap.size, 0, none⟩) room.toNat room.toNat, .int .i64 0]) ∧
      w'.ownsRow B 5 1 (.slice (some ⟨w.heap.size, 0, none⟩) room.toNat room.toNat) room.toNat ((padded room.toNat xs).map (Value.int .u8)) ∧ Fr No w w' := by
  obtain ⟨i0, hi, hz0, hz1, hz2⟩ := info_parts u8_info
  obtain ⟨A0, cap, rfl⟩ := own_form h.own
  have hr0 := h.r0
  have hr1 := h.r1
  have hfit := h.fit
  obtain ⟨rm, rfl⟩ := Int.eq_ofNat_of_zero_le hr0
  rw [Int.toNat_natCast]
  have c0 := h.blk.cell 0
  have c1 := h.blk.cell 1
  have c2 := h.blk.cell 2
  go_enter Tryd.func55, Tryd.ntmps55
  go_wp2_with (at_make; go_must (refine wpList_make_full _ rfl _ _ 27 rfl B 5 i0 (.int .u8 0) 1 Tryd.underlying27 hi hz0 hz1 .i64 .i64 _ _ rm rfl rfl rfl rfl (by rw [hz2]; omega) (by simp only [maxLen]; omega) hB ?_))
  intro w1 hown1 hg1
  have hF1 : Fr No w w1 := (Fr.refl _ _).grown hg1 (fun k hk => by cases hk)
  have hW1 := h.fr hF1 (fun _ _ h => h)
  have d1 := hW1.blk.cell 1
  have HF1 := hid hF1
  clear hF1
  go_wp2_with (refine wpList_cp rfl (.tmp 16) (.tmp 20) 27 27 rfl 5 Tryd.underlying27 cp_info _ _ _ _ _ _ _ _ B rfl rfl hown1 (Rd.own hW1.own) one_u8s ?_)
  intro w2 hown2 hF2
  go_wp2
  go_ret2
  refine ⟨rfl, ?_, HF1.out.step hF2 (fun i hi hs => ?_)⟩
  · rw [toList_madeCells_one] at hown2
    have e2 : (xs.map (Value.int .u8)).take rm = xs.map (Value.int .u8) := List.take_of_length_le (by simp; omega)
    rw [e2] at hown2
    simpa [padded] using hown2
  · simp [Value.ownBlock] at hs
    omega
end Go.Proofs.YtkkbgbpmpcoffaaDoor.LeW
