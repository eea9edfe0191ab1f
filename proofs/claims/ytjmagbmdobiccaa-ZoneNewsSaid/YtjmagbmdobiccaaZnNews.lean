/- The law of New, walked: which zones can be made. Condition: all numbers are 64 bits. -/
import Derived.Test.YtjmagbmdobiccaaZnH
namespace Go.Proofs.Ytjmagbmdobiccaa.ZnNews
open Go.RowKit MSep MZnM ZnA ZnB ZnR ZnC ZnG ZnH

set_option maxRecDepth 100000 in
set_option maxHeartbeats 4000000 in
theorem law_ok (n k a l : Int) (w : World) : Calls Try.prog 5 #[.int .i64 n, .int .i64 k, .int .i64 a, .int .i64 l] w fun e w' => e = .returned (.bool true) ∧ Fr No w w' := by
  have HN := hid (fun w => new_ok n k a l w)
  have HL := hid lives_ok
  obtain ⟨r, hr⟩ : ∃ r, nw n k a l = r := ⟨_, rfl⟩
  rw [hr] at HN
  unfold nw at hr
  by_cases k2 : k = 2
  · subst k2
    rw [if_pos rfl] at hr
    have HM := hid (fun w => rmay_ok n 2 1 a l 0 w)
    by_cases hm : mayP ⟨n, 2, 1, a, l, 0⟩
    · rw [decide_eq_true hm] at HM
      rw [if_pos hm] at hr
      subst hr
      clear hm
      go_enter Try.func5, Try.ntmps5
      go_wp2_with fail
      refine (HN.out _).mono ?_
      rintro e w1 h1
      obtain ⟨rfl, f1⟩ := RetZ.ex h1
      have HF := hid ((f1.alloc (bz (n) (2) (1) (a) (l) (0))).alloc (bz (n) (2) (1) (a) (l) (0)))
      have PA := hid (Blk.alloc (BZ.new w1 (n) (2) (1) (a) (l) (0)) (bz (n) (2) (1) (a) (l) (0)))
      have PB := hid (BZn (w1.alloc (bz (n) (2) (1) (a) (l) (0))) (n) (2) (1) (a) (l) (0) (B := w1.heap.size + 1) (by simp))
      clear f1 h1
      go_wp2_with fail
      refine (HL.out _).mono ?_
      rintro e w2 ⟨rfl, f1⟩
      have HF := kf f1 HF
      have PA := hid (show BZ w2 w1.heap.size (n) (2) (1) (a) (l) (0) from Blk.fr PA.out f1 (fun h => h))
      have PB := hid (PB.out.fr f1)
      clear f1
      obtain ⟨a0, a1, a2, a3, a4, a5⟩ := PA.out.cells
      obtain ⟨b0, b1, b2, b3, b4, b5⟩ := PB.out.cells
      go_wp2_with fail
      refine (HM.out _).mono ?_
      rintro e w3 ⟨rfl, f1⟩
      have HF := kf f1 HF
      have PA := hid (PA.out.fr f1)
      have PB := hid (PB.out.fr f1)
      clear f1 a0 a1 a2 a3 a4 a5 b0 b1 b2 b3 b4 b5
      obtain ⟨a0, a1, a2, a3, a4, a5⟩ := PA.out.cells
      obtain ⟨b0, b1, b2, b3, b4, b5⟩ := PB.out.cells
      go_wp2_with fail
      go_ret
      exact ⟨rfl, HF.out⟩
    · rw [decide_eq_false hm] at HM
      rw [if_neg hm] at hr
      subst hr
      clear hm
      go_enter Try.func5, Try.ntmps5
      go_wp2_with fail
      refine (HN.out _).mono ?_
      rintro e w1 h1
      obtain ⟨rfl, f1⟩ := RetZ.ex h1
      have HF := hid ((f1.alloc (bz (0) (0) (0) (0) (0) (0))).alloc (bz (n) (2) (1) (a) (l) (0)))
      have PA := hid (Blk.alloc (BZ.new w1 (0) (0) (0) (0) (0) (0)) (bz (n) (2) (1) (a) (l) (0)))
      have PB := hid (BZn (w1.alloc (bz (0) (0) (0) (0) (0) (0))) (n) (2) (1) (a) (l) (0) (B := w1.heap.size + 1) (by simp))
      clear f1 h1
      go_wp2_with fail
      refine (HL.out _).mono ?_
      rintro e w2 ⟨rfl, f1⟩
      have HF := kf f1 HF
      have PA := hid (show BZ w2 w1.heap.size (0) (0) (0) (0) (0) (0) from Blk.fr PA.out f1 (fun h => h))
      have PB := hid (PB.out.fr f1)
      clear f1
      obtain ⟨a0, a1, a2, a3, a4, a5⟩ := PA.out.cells
      obtain ⟨b0, b1, b2, b3, b4, b5⟩ := PB.out.cells
      go_wp2_with fail
      refine (HM.out _).mono ?_
      rintro e w3 ⟨rfl, f1⟩
      have HF := kf f1 HF
      have PA := hid (PA.out.fr f1)
      have PB := hid (PB.out.fr f1)
      clear f1 a0 a1 a2 a3 a4 a5 b0 b1 b2 b3 b4 b5
      obtain ⟨a0, a1, a2, a3, a4, a5⟩ := PA.out.cells
      obtain ⟨b0, b1, b2, b3, b4, b5⟩ := PB.out.cells
      go_wp2_with fail
      go_ret
      exact ⟨rfl, HF.out⟩
  · rw [if_neg k2] at hr
    have k2' : (k == 2) = false := by simpa using k2
    clear k2
    have HM := hid (fun w => rmay_ok n k 0 a l 0 w)
    by_cases hm : mayP ⟨n, k, 0, a, l, 0⟩
    · rw [decide_eq_true hm] at HM
      rw [if_pos hm] at hr
      subst hr
      clear hm
      go_enter Try.func5, Try.ntmps5
      go_wp2_with fail
      refine (HN.out _).mono ?_
      rintro e w1 h1
      obtain ⟨rfl, f1⟩ := RetZ.ex h1
      have HF := hid ((f1.alloc (bz (n) (k) (0) (a) (l) (0))).alloc (bz (n) (k) (0) (a) (l) (0)))
      have PA := hid (Blk.alloc (BZ.new w1 (n) (k) (0) (a) (l) (0)) (bz (n) (k) (0) (a) (l) (0)))
      have PB := hid (BZn (w1.alloc (bz (n) (k) (0) (a) (l) (0))) (n) (k) (0) (a) (l) (0) (B := w1.heap.size + 1) (by simp))
      clear f1 h1
      go_wp2_with fail
      refine (HL.out _).mono ?_
      rintro e w2 ⟨rfl, f1⟩
      have HF := kf f1 HF
      have PA := hid (show BZ w2 w1.heap.size (n) (k) (0) (a) (l) (0) from Blk.fr PA.out f1 (fun h => h))
      have PB := hid (PB.out.fr f1)
      clear f1
      obtain ⟨a0, a1, a2, a3, a4, a5⟩ := PA.out.cells
      obtain ⟨b0, b1, b2, b3, b4, b5⟩ := PB.out.cells
      go_wp2_with fail
      refine (HM.out _).mono ?_
      rintro e w3 ⟨rfl, f1⟩
      have HF := kf f1 HF
      have PA := hid (PA.out.fr f1)
      have PB := hid (PB.out.fr f1)
      clear f1 a0 a1 a2 a3 a4 a5 b0 b1 b2 b3 b4 b5
      obtain ⟨a0, a1, a2, a3, a4, a5⟩ := PA.out.cells
      obtain ⟨b0, b1, b2, b3, b4, b5⟩ := PB.out.cells
      go_wp2_with fail
      go_ret
      exact ⟨rfl, HF.out⟩
    · rw [decide_eq_false hm] at HM
      rw [if_neg hm] at hr
      subst hr
      clear hm
      go_enter Try.func5, Try.ntmps5
      go_wp2_with fail
      refine (HN.out _).mono ?_
      rintro e w1 h1
      obtain ⟨rfl, f1⟩ := RetZ.ex h1
      have HF := hid ((f1.alloc (bz (0) (0) (0) (0) (0) (0))).alloc (bz (n) (k) (0) (a) (l) (0)))
      have PA := hid (Blk.alloc (BZ.new w1 (0) (0) (0) (0) (0) (0)) (bz (n) (k) (0) (a) (l) (0)))
      have PB := hid (BZn (w1.alloc (bz (0) (0) (0) (0) (0) (0))) (n) (k) (0) (a) (l) (0) (B := w1.heap.size + 1) (by simp))
      clear f1 h1
      go_wp2_with fail
      refine (HL.out _).mono ?_
      rintro e w2 ⟨rfl, f1⟩
      have HF := kf f1 HF
      have PA := hid (show BZ w2 w1.heap.size (0) (0) (0) (0) (0) (0) from Blk.fr PA.out f1 (fun h => h))
      have PB := hid (PB.out.fr f1)
      clear f1
      obtain ⟨a0, a1, a2, a3, a4, a5⟩ := PA.out.cells
      obtain ⟨b0, b1, b2, b3, b4, b5⟩ := PB.out.cells
      go_wp2_with fail
      refine (HM.out _).mono ?_
      rintro e w3 ⟨rfl, f1⟩
      have HF := kf f1 HF
      have PA := hid (PA.out.fr f1)
      have PB := hid (PB.out.fr f1)
      clear f1 a0 a1 a2 a3 a4 a5 b0 b1 b2 b3 b4 b5
      obtain ⟨a0, a1, a2, a3, a4, a5⟩ := PA.out.cells
      obtain ⟨b0, b1, b2, b3, b4, b5⟩ := PB.out.cells
      go_wp2_with fail
      go_ret
      exact ⟨rfl, HF.out⟩
end Go.Proofs.Ytjmagbmdobiccaa.ZnNews
