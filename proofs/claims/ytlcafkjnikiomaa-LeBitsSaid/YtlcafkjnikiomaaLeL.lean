/- The contract of 'lives' in the statements of layer 1: it answers true, and leaves all that was there as it was. No conditions. -/
import Derived.Test.YtlcafkjnikiomaaLeB
namespace Go.Proofs.Ytlcafkjnikiomaa.LeL
open Go.RowKit MSep LeA LeW LeR LeB

theorem WOk.new (w : World) (n : Int) (h0 : 0 ≤ n) (h1 : n ≤ 65536) : WOk (w.alloc (.cells #[.int .i64 n, .slice none 0 0, .bool false] 69)) w.heap.size w.heap.size n false (.slice none 0 0) [] :=
  ⟨Blk.new _ _ _, World.ownsRow_nil _ _ _ _, Nat.le_refl _, h0, h1, by simpa using h0⟩
theorem WOk.lt {w : World} {B g : Nat} {room : Int} {bad : Bool} {sv : Value} {xs : List Int} (h : WOk w B g room bad sv xs) : ∀ k, WF g sv k → k < w.heap.size := by
  rintro k (rfl | hk)
  · exact h.blk.lt
  · exact (h.own.lt k hk).2

theorem lives_any (w : World) : Calls Try.prog 10 #[] w fun e w' => e = .returned (.bool true) ∧ Fr No w w' := by
  go_enter Try.func10, Try.ntmps10
  go_wp2_with fail
  refine (new_in _ _ (by omega) (by omega)).mono ?_
  rintro e w1 ⟨rfl, hw1⟩
  have W1 := WOk.new w 4 (by omega) (by omega)
  have F1 : Fr No w w1 := hw1 ▸ (Fr.refl _ _).alloc _
  rw [hw1] at W1
  have s1 : w1.heap.size = w.heap.size + 1 := by rw [← hw1]; simp
  clear hw1
  have S1 := hid s1
  clear s1
  have L1 := F1.size
  go_wp2_with fail
  refine (take_any _ _ _ [2, 1, 0] w.heap.size _ (Rd.lit w1 [.int .u8 2, .int .u8 1, .int .u8 0] _) (by decide) (by simp) (by simp; omega)).mono ?_
  rintro e w2 ⟨r, A, c, rfl, R2, F2, hr2, _⟩
  have F12 : Fr No w1 w2 := ((Fr.refl _ _).alloc _).trans F2
  have W2 := W1.fr F12 (fun _ _ h => h)
  have HR2 := hid hr2
  have HRL := hid (R2.lt (by simp))
  clear W1 hr2
  have L2 := F12.size
  go_wp2_with fail
  refine (newBits_in 10 w.heap.size _ (by omega) (by omega)).mono ?_
  rintro e w3 ⟨b, A3, c3, rfl, B3, F3, hb3⟩
  have W3 := W2.fr F3 (fun _ _ h => h)
  have R3 := R2.fr F3 (fun _ _ h => h)
  have HB3 := hid hb3
  clear W2 R2 hb3
  have L3 := F3.size
  have e0 : (List.replicate ((10 + 7) / 8) 0 : List Int) = [0, 0] := by decide
  rw [e0] at B3
  go_wp2_with fail
  refine (put_ok _ 2 258 _ 4 _ [] _ (by omega) (by simp) (by omega) (by omega) (by omega) W3).mono ?_
  rintro e w4 ⟨rfl, sv, W4, F4, O4⟩
  have e1 : [] ++ low (2 : Int).toNat 258 = [2, 1] := by decide
  rw [e1] at W4
  have R4 := R3.fr F4 (fun k hk h => by
    have h1 := HR2.out k hk
    simp at h1
    simp [WF, Value.ownBlock] at h
    omega)
  have B4 := B3.fr F4 (fun k hk h => by
    have := HB3.out k hk
    have := S1.out
    simp [WF, Value.ownBlock] at h
    omega)
  have G4 : Fr No w w4 := ((F1.trans F12).trans F3).step F4 (fun k hk h => by
    simp [WF, Value.ownBlock] at h
    omega)
  have O4' : ∀ k, WF w.heap.size sv k → k = w.heap.size ∨ w3.heap.size ≤ k := by
    rintro k (rfl | hk)
    · exact .inl rfl
    · rcases O4 k hk with h | h
      · simp [Value.ownBlock] at h
      · exact .inr h
  have HO4 := hid O4'
  have L4 := F4.size
  have HBL := hid B3.lt
  clear W3 R3 B3 O4 O4' F4
  go_wp2_with fail
  refine (LeW.done_ok _ _ 4 _ _ _ (by omega) W4).mono ?_
  rintro e w5 ⟨rfl, own5, F5⟩
  have e2 : padded (4 : Int).toNat [2, 1] = [2, 1, 0, 0] := by decide
  rw [e2] at own5
  have R5 := R4.fr F5 (fun _ _ h => h)
  have B5 := B4.fr F5 (fun _ _ h => h)
  have G5 := G4.trans F5
  have L5 := F5.size
  clear R4 B4 W4
  go_wp2_with fail
  refine (get_ok _ 2 _ _ _ _ [2, 1, 0] _ (by omega) (by simp) R5).mono ?_
  rintro e w6 ⟨he, R6, F6⟩
  rw [show num (List.take 2 [2, 1, 0]) = 258 from by decide] at he
  subst he
  have e4 : List.drop 2 [2, 1, 0] = ([0] : List Int) := by decide
  rw [e4] at R6
  have B6 := B5.fr F6 (fun k hk h => by
    subst h
    have h2 := HB3.out _ hk
    have h3 := HRL.out k (.inl rfl)
    omega)
  have own6 := own_fr own5 F6 (fun k hk h => by
    subst h
    have h3 := HRL.out k (.inl rfl)
    simp [Value.ownBlock] at hk
    omega)
  have G6 : Fr No w w6 := G5.step F6 (fun k hk h => by
    subst h
    have h2 := HR2.out k (.inl rfl)
    simp at h2
    omega)
  have L6 := F6.size
  clear R5 B5 own5 F6
  go_wp2_with fail
  refine (set_other 9 true (by decide) B6).mono ?_
  rintro e w7 ⟨rfl, B7, F7⟩
  rw [show setL 10 [0, 0] 9 true = [0, 2] from by decide] at B7
  have R7 := R6.fr F7 (fun k hk h => by
    have h1 := HRL.out k hk.cut
    have h2 := HB3.out k h
    omega)
  have own7 := own_fr own6 F7 (fun k hk h => by
    have h3 := HBL.out k h
    simp [Value.ownBlock] at hk
    omega)
  have G7 : Fr No w w7 := G6.step F7 (fun k hk h => by
    have h2 := HB3.out k h
    omega)
  have L7 := F7.size
  clear R6 B6 own6 F7
  go_wp2_with fail
  refine (new_in _ _ (by omega) (by omega)).mono ?_
  rintro e w8 ⟨rfl, hw8⟩
  have W8 := WOk.new w7 1 (by omega) (by omega)
  have F8 : Fr No w7 w8 := hw8 ▸ (Fr.refl _ _).alloc _
  rw [hw8] at W8
  clear hw8
  go_wp2_with fail
  refine (put_bad _ 2 0 _ 1 _ _ [] _ (.inr (.inr (by simp))) W8).mono ?_
  rintro e w9 ⟨rfl, W9, F9⟩
  have F79 : Fr No w7 w9 := F8.step F9 (fun k hk h => by omega)
  have R9 := R7.fr F79 (fun _ _ h => h)
  have B9 := B7.fr F79 (fun _ _ h => h)
  have own9 := own_fr own7 F79 (fun _ _ h => h)
  have G9 := G7.trans F79
  have L9 := F79.size
  clear R7 B7 own7 F8 F9 W8
  go_wp2_with fail
  refine (LeW.done_bad _ _ _ _ _ _ W9).mono ?_
  rintro e w' ⟨rfl, rfl⟩
  have hs9 := run_str (P := Try.prog) w9 27 9 5 Try.underlying27 Try.underlying5 Try.underlying9 _ 4 4 [2, 1, 0, 0] (Rd.own own9)
  rw [show strOfNums [2, 1, 0, 0] = ⟨#[2, 1, 0, 0]⟩ from rfl] at hs9
  go_wp2_with fail
  refine (LeR.done_ok _ _ _ _ _ _ R9).mono ?_
  rintro e w' ⟨he, rfl⟩
  rw [show endOf [0] = 0 from by decide] at he
  subst he
  go_wp2_with fail
  refine (pack_any (by omega) B9).mono ?_
  rintro e w10 ⟨A10, c10, rfl, own10, F10, _⟩
  have B10 := B9.fr F10 (fun _ _ h => h)
  have hs10 := run_str (P := Try.prog) w10 27 9 5 Try.underlying27 Try.underlying5 Try.underlying9 A10 2 c10 [0, 2] (Rd.own own10)
  rw [show strOfNums [0, 2] = ⟨#[0, 2]⟩ from rfl] at hs10
  go_wp2_with fail
  refine (first_any true 0 (by omega) B10).mono ?_
  rintro e w' ⟨he, rfl⟩
  rw [show firstB 10 [0, 2] true 0 = 9 from by decide] at he
  subst he
  go_wp2
  go_ret
  exact ⟨rfl, G9.trans F10⟩
end Go.Proofs.Ytlcafkjnikiomaa.LeL
