/- Contracts of the plain writer that the statements of layer 1 hold package le's against. Conditions: its own block and its bytes' block are known whole. -/
import Derived.Test.YtkkbgbpmpcoffaaDoorLeL
namespace Go.Proofs.YtkkbgbpmpcoffaaDoor.LeX
open Go.RowKit MSep LeA LeW

/-- The plain writer at block g, with so much room, at fault or not, with what was put in the slice sv. -/
structure XOk (w : World) (B g : Nat) (room : Int) (bad : Bool) (sv : Value) (xs : List Int) : Prop where
  blk : Blk w g 76 #[.int .i64 room, sv, .bool bad]
  own : w.ownsRow B 5 1 sv xs.length (xs.map (Value.int .u8))
  hB : B ≤ g
  r0 : 0 ≤ room
  r1 : room ≤ 65536
  fit : xs.length ≤ room

section
variable {w w' : World} {B g : Nat} {room : Int} {bad : Bool} {sv : Value} {xs : List Int}
theorem XOk.apart (h : XOk w B g room bad sv xs) : sv.ownBlock ≠ some g := own_blk_ne h.own h.blk (by decide)
theorem XOk.fr {S : Nat → Prop} (h : XOk w B g room bad sv xs) (hf : Fr S w w') (hn : ∀ k, WF g sv k → ¬ S k) : XOk w' B g room bad sv xs :=
  ⟨h.blk.fr hf (hn g (.inl rfl)), own_fr h.own hf (fun k hk => hn k (.inr hk)), h.hB, h.r0, h.r1, h.fit⟩
theorem XOk.lt (h : XOk w B g room bad sv xs) : ∀ k, WF g sv k → k < w.heap.size := by
  rintro k (rfl | hk)
  · exact h.blk.lt
  · exact (h.own.lt k hk).2
theorem XOk.toBad (h : XOk w B g room bad sv xs) : XOk (w.setCell ⟨g, 2, none⟩ (.bool true)) B g room true sv xs :=
  ⟨by simpa using h.blk.set_ 2 (.bool true), own_fr h.own (Fr.set1 w g 2 _) (fun k hk hg => h.apart (hg ▸ hk)), h.hB, h.r0, h.r1, h.fit⟩
end

set_option maxRecDepth 100000 in
theorem size_any (n : Int) (w : World) : Calls Tryd.prog 61 #[.int .i64 n] w fun e w' => e = .returned (.bool (n == 1 || n == 2 || n == 4 || n == 8)) ∧ w = w' := by
  go_enter Tryd.func61, Tryd.ntmps61
  go_wp2
  all_goals
    go_ret
    simp_all

set_option maxRecDepth 100000 in
theorem xput_bad (g : Nat) (size : Int) (n : Int) (B : Nat) (room : Int) (bad : Bool) (sv : Value) (xs : List Int) (w : World)
    (hf : bad = true ∨ ¬ (size = 1 ∨ size = 2 ∨ size = 4 ∨ size = 8) ∨ room < xs.length + size) (h : XOk w B g room bad sv xs) :
    Calls Tryd.prog 33 #[.pointer (some ⟨g, 0, none⟩), .int .i64 size, .int .u64 n] w fun e w' => e = .returned (.tuple #[]) ∧
      XOk w' B g room true sv xs ∧ Fr (fun k => k = g) w w' := by
  obtain ⟨A, cap, rfl⟩ := own_form h.own
  have hr0 := h.r0
  have hr1 := h.r1
  have hfit := h.fit
  have c0 := h.blk.cell 0
  have c1 := h.blk.cell 1
  have c2 := h.blk.cell 2
  have f2 := h.blk.frozen 2
  have fin : ∀ nd, XOk ((w.drewN nd).setCell ⟨g, 2, none⟩ (.bool true)) B g room true (.slice A xs.length cap) xs ∧ Fr (fun k => k = g) w ((w.drewN nd).setCell ⟨g, 2, none⟩ (.bool true)) := fun nd =>
    ⟨XOk.toBad (h.fr (S := No) ((Fr.refl _ _).drewN nd) (fun _ _ h => h)), Fr.step (S := fun k => k = g) ((Fr.refl _ w).drewN nd) (Fr.set1 _ g 2 _) (fun _ _ h => h)⟩
  have FIN := hid fin
  clear fin
  cases bad with
  | true =>
    clear hf
    go_enter Tryd.func33, Tryd.ntmps33
    go_wp2
    go_quiet (fail)
    go_wp2
    go_returns
    exact ⟨rfl, FIN.out _⟩
  | false =>
    by_cases hs : size = 1 ∨ size = 2 ∨ size = 4 ∨ size = 8
    · have hb : (size == 1 || size == 2 || size == 4 || size == 8) = true := by rcases hs with rfl | rfl | rfl | rfl <;> rfl
      have hlt : room - xs.length < size := by
        rcases hf with h1 | h1 | h1
        · cases h1
        · exact absurd hs h1
        · omega
      have hsz : 1 ≤ size ∧ size ≤ 8 := by omega
      have hd : decide (room - (xs.length : Int) < size) = true := decide_eq_true hlt
      clear hf hs
      go_enter Tryd.func33, Tryd.ntmps33
      go_wp2
      go_quiet ((go_at_call 61; exact Calls.quiet_of_same ((size_any _ _).mono fun e w' h => ⟨by rw [h.1, hb], h.2.symm⟩)))
      go_wp2
      go_returns
      exact ⟨rfl, FIN.out _⟩
    · have hb : (size == 1 || size == 2 || size == 4 || size == 8) = false := by simp; omega
      clear hf hs
      go_enter Tryd.func33, Tryd.ntmps33
      go_wp2
      go_quiet ((go_at_call 61; exact Calls.quiet_of_same ((size_any _ _).mono fun e w' h => ⟨by rw [h.1, hb], h.2.symm⟩)))
      go_wp2
      go_returns
      exact ⟨rfl, FIN.out _⟩

theorem shr_pow (n : Int) (k : Nat) : n / 2 ^ (8 * k) = n / 256 ^ k := by
  have h2 : (2 : Int) ^ (8 * k) = 256 ^ k := by rw [Int.pow_mul]; rfl
  rw [h2]

set_option maxRecDepth 100000 in
theorem xput_ok (g : Nat) (size : Int) (n : Int) (B : Nat) (room : Int) (sv : Value) (xs : List Int) (w : World) (hs : size = 1 ∨ size = 2 ∨ size = 4 ∨ size = 8)
    (hf : xs.length + size ≤ room) (hn : 0 ≤ n) (hn2 : n < 18446744073709551616) (hB : B ≤ w.heap.size) (h : XOk w B g room false sv xs) :
    Calls Tryd.prog 33 #[.pointer (some ⟨g, 0, none⟩), .int .i64 size, .int .u64 n] w fun e w' => e = .returned (.tuple #[]) ∧
      ∃ sv', XOk w' B g room false sv' (xs ++ low size.toNat n) ∧ Fr (WF g sv) w w' ∧ ∀ k, sv'.ownBlock = some k → sv.ownBlock = some k ∨ w.heap.size ≤ k := by
  have _ := And.intro hn hn2
  obtain ⟨A, cap, rfl⟩ := own_form h.own
  have hfit := h.fit
  have hr0 := h.r0
  have hr1 := h.r1
  have c0 := h.blk.cell 0
  have c1 := h.blk.cell 1
  have c2 := h.blk.cell 2
  have hb : (size == 1 || size == 2 || size == 4 || size == 8) = true := by rcases hs with rfl | rfl | rfl | rfl <;> rfl
  have hsz : 1 ≤ size ∧ size ≤ 8 := by omega
  have hd : decide (room - (xs.length : Int) < size) = false := decide_eq_false (by omega)
  have hge : ¬ room - (xs.length : Int) < size := by omega
  obtain ⟨i0, hi, hz0, hz1, hz2⟩ := info_parts u8_info
  go_enter Tryd.func33, Tryd.ntmps33
  go_wp2
  go_quiet ((go_at_call 61; exact Calls.quiet_of_same ((size_any _ _).mono fun e w' h => ⟨by rw [h.1, hb], h.2.symm⟩)))
  go_wp2
  clear c0 c1 c2 hb hd
  go_loopw [6] (fun i wr => ∃ k : Nat, k ≤ size.toNat ∧ i = .int .i64 k ∧ ∃ sv', XOk wr B g room false sv' (xs ++ low k n) ∧ Fr (WF g (.slice A xs.length cap)) w wr ∧ ∀ q, sv'.ownBlock = some q → (Value.slice A xs.length cap).ownBlock = some q ∨ w.heap.size ≤ q)
    (fun i _ => size.toNat - (intOf i).toNat)
  case atStart =>
    refine ⟨0, by omega, rfl, _, ?_, (Fr.refl _ _).drewN _, fun q hq => .inl hq⟩
    simpa [low] using h.fr (S := No) ((Fr.refl _ _).drewN _) (fun _ _ h => h)
  case round =>
    obtain ⟨k, hk, rfl, sv', hW, hF, hO⟩ := hrel
    by_cases hlt : k < size.toNat
    · have c1 := hW.blk.cell 1
      have f1 := hW.blk.frozen 1
      have ca : ∀ o, (wr.alloc o).cell? ⟨g, 1, none⟩ = some sv' := fun o => (hW.blk.alloc o).cell 1
      have hne := hW.apart
      have hfl : (xs ++ low k n).length = xs.length + k := by simp [low_len]
      have HL := hid hfl
      clear hfl
      have hBr : B ≤ wr.heap.size := Nat.le_trans hB hF.size
      have hk8 : (k : Int) ≤ 8 := by omega
      have hw8 : IntKind.i64.wrap (8 * (k : Int)) = 8 * (k : Int) := IntWalk.i64_in _ (by omega)
      have h80 : 0 ≤ 8 * (k : Int) := by omega
      go_wp2
      go_region_law (refine step_app rfl (.tmp 42) (.tmp 48) 27 rfl B 5 i0 (.int .u8 0) 1 Tryd.underlying27 hi hz0 hz1 hz2 rfl sv' _ _ (by simp [Act.eval]) (by exact hW.own.alloc _) (some ⟨wr.heap.size, 0, none⟩) 1 1 [.int .u8 (IntKind.u8.wrap (n / 2 ^ (8 * (k : Int)).toNat))] (by simp [Act.eval]) (by exact Rd.one wr _ _) one_u8 (by have := HL.out; simp only [maxLen]; omega) (by have := HL.out; omega) (by simp; omega) ?_; intro A1 k1 w1 hown1 hF1 hO1; have hb1 : Blk w1 g 76 #[.int .i64 room, sv', .bool false] := ((hW.blk.alloc _).drew).fr hF1 hne; have d1 := hb1.cell 1; have e1 := hb1.frozen 1; have HO1 := hid hO1; clear hO1)
      all_goals
        go_wp2
        go_roundw
        case rel =>
          have hO2 := HO1.out
          simp only [List.length_append] at hown1 hO2
          refine ⟨k + 1, by omega, by go_num, .slice A1 (xs.length + (low k n).length + 1) k1, ⟨?_, ?_, hW.hB, hr0, hr1, ?_⟩, ?_, ?_⟩
          · simpa using hb1.set_ 1 _
          · have hx : IntKind.u8.wrap (n / 2 ^ (8 * (k : Int)).toNat) = n / 256 ^ k % 256 := by
              rw [show (8 * (k : Int)).toNat = 8 * k by omega, shr_pow, IntKind.wrap_u8]
            rw [low_snoc, ← hx]
            refine own_fr (S := fun q => q = g) ?_ (Fr.set1 w1 g 1 _) (fun q hq hg => ?_)
            · simpa [Nat.add_assoc] using hown1
            · subst hg
              exact own_blk_ne hown1 hb1 (by decide) hq
          · have := HL.out
            simp [low_len] at this ⊢
            omega
          · exact (hF.step ((((Fr.refl _ wr).alloc _).drew.step hF1 (fun _ _ h => .inr h)).setCell (S := WF g sv') (fun _ => .inl rfl) _) (fun i hi hw => hw.elim .inl (fun h => (hO i h).elim .inr (fun h => absurd hi (by omega)))))
          · intro q hq
            rcases hO2 q hq with h | h
            · exact hO q h
            · have := hF.size
              simp only [World.size_drew, World.size_alloc] at h
              exact .inr (by omega)
        case measure => simp [intOf]; omega
    · obtain rfl : k = size.toNat := by omega
      have HW := hid hW
      clear hW
      go_wp2
      go_returns
      exact ⟨rfl, sv', HW.out, hF, hO⟩

set_option maxRecDepth 100000 in
theorem xbytes_bad (g : Nat) (A : Option Addr) (n c : Nat) (B : Nat) (room : Int) (bad : Bool) (sv : Value) (xs : List Int) (w : World)
    (hf : bad = true ∨ room < xs.length + n) (hn : n ≤ maxLen) (h : XOk w B g room bad sv xs) :
    Calls Tryd.prog 32 #[.pointer (some ⟨g, 0, none⟩), .slice A n c] w fun e w' => e = .returned (.tuple #[]) ∧
      XOk w' B g room true sv xs ∧ Fr (fun k => k = g) w w' := by
  unfold maxLen at hn
  obtain ⟨A0, cap, rfl⟩ := own_form h.own
  have hr0 := h.r0
  have hr1 := h.r1
  have hfit := h.fit
  have c0 := h.blk.cell 0
  have c1 := h.blk.cell 1
  have c2 := h.blk.cell 2
  have f2 := h.blk.frozen 2
  have fin : ∀ nd, XOk ((w.drewN nd).setCell ⟨g, 2, none⟩ (.bool true)) B g room true (.slice A0 xs.length cap) xs ∧ Fr (fun k => k = g) w ((w.drewN nd).setCell ⟨g, 2, none⟩ (.bool true)) := fun nd =>
    ⟨XOk.toBad (h.fr (S := No) ((Fr.refl _ _).drewN nd) (fun _ _ h => h)), Fr.step (S := fun k => k = g) ((Fr.refl _ w).drewN nd) (Fr.set1 _ g 2 _) (fun _ _ h => h)⟩
  have FIN := hid fin
  clear fin
  cases bad with
  | true =>
    clear hf
    go_enter Tryd.func32, Tryd.ntmps32
    go_wp2
    go_quiet (fail)
    go_wp2
    go_returns
    exact ⟨rfl, FIN.out _⟩
  | false =>
    have hlt : room - xs.length < n := by
      rcases hf with h1 | h1
      · cases h1
      · omega
    have hd : decide (room - (xs.length : Int) < n) = true := decide_eq_true hlt
    clear hf
    go_enter Tryd.func32, Tryd.ntmps32
    go_wp2
    go_quiet (fail)
    go_wp2
    go_returns
    exact ⟨rfl, FIN.out _⟩

set_option maxRecDepth 100000 in
theorem xbytes_ok (g : Nat) (A : Option Addr) (n c : Nat) (ys : List Int) (B : Nat) (room : Int) (sv : Value) (xs : List Int) (w : World)
    (hf : xs.length + n ≤ room) (hr : Rd w A n (ys.map (Value.int .u8))) (hB : B ≤ w.heap.size) (h : XOk w B g room false sv xs) :
    Calls Tryd.prog 32 #[.pointer (some ⟨g, 0, none⟩), .slice A n c] w fun e w' => e = .returned (.tuple #[]) ∧
      ∃ sv', XOk w' B g room false sv' (xs ++ ys) ∧ Fr (WF g sv) w w' ∧ ∀ k, sv'.ownBlock = some k → sv.ownBlock = some k ∨ w.heap.size ≤ k := by
  obtain ⟨i0, hi, hz0, hz1, hz2⟩ := info_parts u8_info
  obtain ⟨A0, cap, rfl⟩ := own_form h.own
  have hr0 := h.r0
  have hr1 := h.r1
  have c0 := h.blk.cell 0
  have c1 := h.blk.cell 1
  have c2 := h.blk.cell 2
  have hn : ys.length = n := by simpa using hr.1
  have HN := hid hn
  clear hn
  have hne := h.apart
  have hge : ¬ room - (xs.length : Int) < n := by omega
  have hd : decide (room - (xs.length : Int) < n) = false := decide_eq_false hge
  go_enter Tryd.func32, Tryd.ntmps32
  go_wp2
  go_quiet (fail)
  go_wp2_with (at_builtin; go_must (refine wpList_app rfl (.tmp 30) (.tmp 31) 27 rfl B 5 i0 (.int .u8 0) 1 Tryd.underlying27 hi hz0 hz1 hz2 rfl _ _ _ rfl (own_drewN h.own _) _ n c _ rfl (hr.drewN _) one_u8s (by simp only [maxLen]; omega) (by omega) hB ?_))
  intro A1 k1 w1 hown1 hF1 hO1
  have hb1 : Blk w1 g 76 #[.int .i64 room, .slice A0 xs.length cap, .bool false] := (h.blk.drewN _).fr hF1 hne
  have d1 := hb1.cell 1
  have e1 := hb1.frozen 1
  have HO1 := hid hO1
  clear hO1
  go_wp2
  go_returns
  refine ⟨rfl, .slice A1 (xs.length + n) k1, ⟨by simpa using hb1.set_ 1 _, ?_, h.hB, hr0, hr1, ?_⟩, ?_, HO1.out⟩
  · refine own_fr (S := fun q => q = g) ?_ (Fr.set1 w1 g 1 _) (fun q hq hg => ?_)
    · simpa [HN.out] using hown1
    · subst hg
      exact own_blk_ne hown1 hb1 (by decide) hq
  · have := HN.out
    simp
    omega
  · exact Fr.step (S := WF g (.slice A0 xs.length cap)) (((Fr.refl _ w).drewN _).step hF1 (fun _ _ h => .inr h)) (Fr.set1 w1 g 1 _) (fun _ _ h => .inl h)

/-- The length in a slot. -/
def lenOf : Value → Nat | .slice _ n _ => n | _ => 0

end Go.Proofs.YtkkbgbpmpcoffaaDoor.LeX
