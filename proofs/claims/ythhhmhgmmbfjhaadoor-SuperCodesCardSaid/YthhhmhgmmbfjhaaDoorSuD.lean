/- Contract: whether a superblock may be, by the program. Condition: the geometry's Seq is a whole number of 64 bits. -/
import Derived.Test.YthhhmhgmmbfjhaaDoorSuC
namespace Go.Proofs.YthhhmhgmmbfjhaaDoor.SuD
open Go.RowKit MSep MGeM GeA GeC SuA SuB SuC

def va (g c s n l k t e f x y : Int) : Nat → Int
  | 0 => x
  | 1 => g
  | 2 => c
  | 3 => s
  | 4 => n
  | 5 => l
  | 6 => k
  | 7 => t
  | 8 => e
  | 9 => f
  | 10 => y
  | _ => 0
def lo : Nat → Int
  | 0 => 1
  | 1 => 1
  | 8 => 1
  | _ => 0
def hi : Nat → Int
  | 0 => 1
  | 1 => 1099511627776
  | 7 => 1
  | 8 => 2147483648
  | 9 => 1099511627776
  | 10 => 1
  | _ => 65535
def okTo (g c s n l k t e f x y : Int) : Nat → Bool
  | 0 => true
  | i + 1 => okTo g c s n l k t e f x y i && decide (lo i ≤ va g c s n l k t e f x y i ∧ va g c s n l k t e f x y i ≤ hi i)
theorem nv_at : ∀ i, i < 11 → ∃ sz fn, nv i = .agg #[.int .i64 sz, .int .i64 (lo i), .int .i64 (hi i), fn]
  | 0, _ => ⟨_, _, rfl⟩
  | 1, _ => ⟨_, _, rfl⟩
  | 2, _ => ⟨_, _, rfl⟩
  | 3, _ => ⟨_, _, rfl⟩
  | 4, _ => ⟨_, _, rfl⟩
  | 5, _ => ⟨_, _, rfl⟩
  | 6, _ => ⟨_, _, rfl⟩
  | 7, _ => ⟨_, _, rfl⟩
  | 8, _ => ⟨_, _, rfl⟩
  | 9, _ => ⟨_, _, rfl⟩
  | 10, _ => ⟨_, _, rfl⟩
theorem BK.at_ {w : World} {G : Nat} {g c s n l k t e f x y : Int} {b : Bool} (h : BK w G g c s n l k t e f b x y) : ∀ i, i < 11 → w.cell? ⟨G, off i, none⟩ = some (.int .i64 (va g c s n l k t e f x y i))
  | 0, _ => Blk.cell h 10
  | 1, _ => Blk.cell h 0
  | 2, _ => Blk.cell h 1
  | 3, _ => Blk.cell h 2
  | 4, _ => Blk.cell h 3
  | 5, _ => Blk.cell h 4
  | 6, _ => Blk.cell h 5
  | 7, _ => Blk.cell h 6
  | 8, _ => Blk.cell h 7
  | 9, _ => Blk.cell h 8
  | 10, _ => Blk.cell h 11
/-- What a superblock may be. -/
def mayS (g c s n l k t e f : Int) : Prop := mayG ⟨c, s, n, l, k⟩ ∧ (1 ≤ g ∧ g ≤ 1099511627776) ∧ ((0 ≤ c ∧ c ≤ 65535) ∧ (0 ≤ s ∧ s ≤ 65535) ∧ (0 ≤ n ∧ n ≤ 65535) ∧ (0 ≤ l ∧ l ≤ 65535) ∧ (0 ≤ k ∧ k ≤ 65535)) ∧ (0 ≤ t ∧ t ≤ 1) ∧ (1 ≤ e ∧ e ≤ 2147483648) ∧ (0 ≤ f ∧ f ≤ 1099511627776)
instance (g c s n l k t e f : Int) : Decidable (mayS g c s n l k t e f) := by unfold mayS; exact inferInstance
theorem ok_all (g c s n l k t e f : Int) (b : Bool) : (decide (mayG ⟨c, s, n, l, k⟩) && okTo g c s n l k t e f 1 (if b then 1 else 0) 11) = decide (mayS g c s n l k t e f) := by
  rw [Bool.eq_iff_iff, decide_eq_true_iff, Bool.and_eq_true, decide_eq_true_iff]
  unfold mayS
  have h : okTo g c s n l k t e f 1 (if b then 1 else 0) 11 = true ↔ ((1 ≤ g ∧ g ≤ 1099511627776) ∧ ((0 ≤ c ∧ c ≤ 65535) ∧ (0 ≤ s ∧ s ≤ 65535) ∧ (0 ≤ n ∧ n ≤ 65535) ∧ (0 ≤ l ∧ l ≤ 65535) ∧ (0 ≤ k ∧ k ≤ 65535)) ∧ (0 ≤ t ∧ t ≤ 1) ∧ (1 ≤ e ∧ e ≤ 2147483648) ∧ (0 ≤ f ∧ f ≤ 1099511627776)) := by
    cases b
    · show okTo g c s n l k t e f 1 0 11 = true ↔ _
      simp only [okTo, lo, hi, va, Bool.and_eq_true, decide_eq_true_iff, true_and]
      omega
    · show okTo g c s n l k t e f 1 1 11 = true ↔ _
      simp only [okTo, lo, hi, va, Bool.and_eq_true, decide_eq_true_iff, true_and]
      omega
  rw [h]
def InvM (w : World) (M G : Nat) (p : Bool) (g c s n l k t e f : Int) (b : Bool) (x y : Int) (i : Nat) (w' : World) : Prop := BK w' G g c s n l k t e f b x y ∧ Blk w' M 4 #[.bool (p && okTo g c s n l k t e f x y i)] ∧ Fr No w w'
set_option maxRecDepth 100000 in
theorem may_does (w : World) (M G : Nat) (p : Bool) (g c s n l k t e f : Int) (b : Bool) (x y : Int) (hM : w.heap.size ≤ M) (hne : G ≠ M) : Does 53 #[.pointer (some ⟨M, 0, none⟩)] G (InvM w M G p g c s n l k t e f b x y) where
  go := by
    rintro i hi w' ⟨h1, h2, h3⟩
    obtain ⟨sz, fn, hv⟩ := nv_at i hi
    rw [hv]
    refine (may1_ok sz (lo i) (SuD.hi i) (va g c s n l k t e f x y i) fn G (off i) M (p && okTo g c s n l k t e f x y i) w' (BK.at_ h1 i hi) h2 hne).mono ?_
    rintro E w'' ⟨rfl, k1, k2⟩
    refine ⟨rfl, Blk.fr h1 k2 (fun h => hne h), ?_, h3.step k2 (fun j hj h => by subst h; omega)⟩
    rw [Bool.and_assoc] at k1
    exact k1
  new := by
    rintro i w' w'' hf ⟨h1, h2, h3⟩
    exact ⟨Blk.fr h1 hf (fun h => h), Blk.fr h2 hf (fun h => h), h3.trans hf⟩
  enter := by
    intro args w'
    kernel_rfl
set_option maxRecDepth 100000 in
set_option maxHeartbeats 2000000 in
theorem mayS_ok (g c s n l k t e f : Int) (b : Bool) (w : World) (hs : -9223372036854775808 ≤ s ∧ s ≤ 9223372036854775807) : Calls Tryd.prog 16 #[sv g c s n l k t e f b] w fun E w' => E = .returned (.bool (decide (mayS g c s n l k t e f))) ∧ Fr No w w' := by
  have HS := hid hs
  obtain ⟨W, hW⟩ : ∃ W, w.alloc (sbx g c s n l k t e f b) = W := ⟨_, rfl⟩
  obtain ⟨X, hX⟩ : ∃ X, w.heap.size = X := ⟨_, rfl⟩
  have HFW := hid (show Fr No w W by rw [← hW]; exact (Fr.refl No w).alloc _)
  have hB : Blk W X 25 #[.int .i64 g, .int .i64 c, .int .i64 s, .int .i64 n, .int .i64 l, .int .i64 k, .int .i64 t, .int .i64 e, .int .i64 f, .bool b] := by
    rw [← hW, ← hX]
    exact Blk.new w _ _
  have c0 : W.cell? ⟨X, 0, none⟩ = some (.int .i64 g) := hB.cell 0
  have c1 : W.cell? ⟨X, 1, none⟩ = some (.int .i64 c) := hB.cell 1
  have c2 : W.cell? ⟨X, 2, none⟩ = some (.int .i64 s) := hB.cell 2
  have c3 : W.cell? ⟨X, 3, none⟩ = some (.int .i64 n) := hB.cell 3
  have c4 : W.cell? ⟨X, 4, none⟩ = some (.int .i64 l) := hB.cell 4
  have c5 : W.cell? ⟨X, 5, none⟩ = some (.int .i64 k) := hB.cell 5
  have HB := hid hB
  clear hs hB
  go_enter Tryd.func16, Tryd.ntmps16
  go_wp2_with (first | (go_at_call 52; go_loud (refine (GeC.may_ok c s n l k _ HS.out).mono ?_; rintro e' w1 ⟨rfl, f1⟩; have HF1 := hid (HFW.out.trans f1); replace HB := hid (Blk.fr HB.out f1 (fun h => h)); have q0 : ∀ o, (w1.alloc o).cell? ⟨X, 0, none⟩ = some (.int .i64 g) := fun o => Blk.cell (Blk.alloc HB.out o) 0; have q1 : ∀ o, (w1.alloc o).cell? ⟨X, 1, none⟩ = some (.int .i64 c) := fun o => Blk.cell (Blk.alloc HB.out o) 1; have q2 : ∀ o, (w1.alloc o).cell? ⟨X, 2, none⟩ = some (.int .i64 s) := fun o => Blk.cell (Blk.alloc HB.out o) 2; have q3 : ∀ o, (w1.alloc o).cell? ⟨X, 3, none⟩ = some (.int .i64 n) := fun o => Blk.cell (Blk.alloc HB.out o) 3; have q4 : ∀ o, (w1.alloc o).cell? ⟨X, 4, none⟩ = some (.int .i64 l) := fun o => Blk.cell (Blk.alloc HB.out o) 4; have q5 : ∀ o, (w1.alloc o).cell? ⟨X, 5, none⟩ = some (.int .i64 k) := fun o => Blk.cell (Blk.alloc HB.out o) 5; have q6 : ∀ o, (w1.alloc o).cell? ⟨X, 6, none⟩ = some (.int .i64 t) := fun o => Blk.cell (Blk.alloc HB.out o) 6; have q7 : ∀ o, (w1.alloc o).cell? ⟨X, 7, none⟩ = some (.int .i64 e) := fun o => Blk.cell (Blk.alloc HB.out o) 7; have q8 : ∀ o, (w1.alloc o).cell? ⟨X, 8, none⟩ = some (.int .i64 f) := fun o => Blk.cell (Blk.alloc HB.out o) 8; have q9 : ∀ o, (w1.alloc o).cell? ⟨X, 9, none⟩ = some (.bool b) := fun o => Blk.cell (Blk.alloc HB.out o) 9; clear f1)) | (go_at_call 45; go_loud (refine (blockOf_ok g c s n l k t e f b _).mono ?_; rintro e' w2 ⟨G, rfl, hG, hBK, f2⟩; have HBK := hid hBK; have HBM := hid (Blk.fr (Blk.new w1 4 #[.bool (decide (mayG ⟨c, s, n, l, k⟩))]) f2 (fun h => h)); have HF2 := hid ((HF1.out.alloc _).trans f2); have HG := hid (show G ≠ w1.heap.size by simp at hG; omega); have HSZ := hid HF1.out.size; clear hG hBK f2)) | (go_at_call 46; go_loud (refine (each_ok 53 G (.pointer (some ⟨w1.heap.size, 0, none⟩)) (InvM w w1.heap.size G (decide (mayG ⟨c, s, n, l, k⟩)) g c s n l k t e f b 1 (if b then 1 else 0)) (may_does w w1.heap.size G (decide (mayG ⟨c, s, n, l, k⟩)) g c s n l k t e f b 1 (if b then 1 else 0) HSZ.out HG.out) _ ⟨HBK.out, by simpa [okTo] using HBM.out, HF2.out⟩).mono ?_; rintro e' w3 ⟨rfl, hI⟩; have m0 : w3.cell? ⟨w1.heap.size, 0, none⟩ = some (.bool (decide (mayS g c s n l k t e f))) := (by have m := Blk.cell hI.2.1 0; rw [ok_all] at m; exact m); have HI3 := hid hI.2.2; clear hI)))
  go_ret
  exact ⟨rfl, HI3.out⟩
end Go.Proofs.YthhhmhgmmbfjhaaDoor.SuD
