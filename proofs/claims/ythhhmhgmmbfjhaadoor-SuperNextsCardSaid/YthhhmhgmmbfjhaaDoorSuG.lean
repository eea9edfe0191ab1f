/- Contract: the sector of a superblock, by the program. Conditions: the geometry's Seq is a whole number of 64 bits; the superblock may be. -/
import Derived.Test.YthhhmhgmmbfjhaaDoorSuF
import Derived.Test.YthhhmhgmmbfjhaaDoorCrcG
import Derived.Test.YthhhmhgmmbfjhaaDoorRcM
import Derived.Lib.SlBytesConst
namespace Go.Proofs.YthhhmhgmmbfjhaaDoor.SuG
open Go.RowKit MSep MFrame LeA LeW LeR LeX WrB SuA SuB SuD SuE SuF CrcA CrcM CrcE CrcG

theorem pad_rest (zs : List Int) (h : zs.length ≤ 124) : seal_ (padded 124 zs) = seal_ zs := by
  have : rest (padded 124 zs) = rest zs := by
    unfold rest padded
    rw [List.length_append, List.length_replicate]
    rw [show 124 - (zs.length + (124 - zs.length)) = 0 by omega]
    simp
  unfold seal_
  rw [this]
theorem pad_u8 (zs : List Int) (h : ∀ x ∈ zs, 0 ≤ x ∧ x ≤ 255) : ∀ x ∈ padded 124 zs, 0 ≤ x ∧ x ≤ 255 := by
  intro x hx
  unfold padded at hx
  rcases List.mem_append.1 hx with hx | hx
  · exact h x hx
  · rw [List.eq_of_mem_replicate hx]; decide
theorem eTo_u8 (g c s n l k t e f x y : Int) : ∀ i, ∀ z ∈ eTo g c s n l k t e f x y i, 0 ≤ z ∧ z ≤ 255
  | 0 => by simp [eTo]
  | i + 1 => by
    intro z hz
    rw [eTo, List.mem_append] at hz
    rcases hz with hz | hz
    · exact eTo_u8 g c s n l k t e f x y i z hz
    · exact RcM.low_u8 _ _ z hz
theorem WrU.toP {w : World} {B g : Nat} {U : Nat → Prop} {xs : List Int} (h : WrU w B U g xs) (T : Nat) (hT : U T) : WrP w B T g xs := by
  obtain ⟨⟨sv, h, ha⟩, hu⟩ := h
  exact ⟨⟨sv, h, fun k hk e => ha k hk (e ▸ hT)⟩, hu T hT⟩
set_option maxRecDepth 100000 in
set_option maxHeartbeats 2000000 in
theorem encS_ok (g c s n l k t e f : Int) (b : Bool) (w : World) (hs : -9223372036854775808 ≤ s ∧ s ≤ 9223372036854775807) (hm : mayS g c s n l k t e f) (hT : TabAt w) : Calls Tryd.prog 14 #[sv g c s n l k t e f b] w fun E w' => ∃ q, E = .returned (.tuple #[.slice (some ⟨q, 0, none⟩) 128 128, .int .i64 0]) ∧ Blk w' q 5 (cells (seal_ (eTo g c s n l k t e f 1 (if b then 1 else 0) 11))).toArray ∧ Fr No w w' := by
  have hYl := eTo_len g c s n l k t e f 1 (if b then 1 else 0) 11
  have hYu := eTo_u8 g c s n l k t e f 1 (if b then 1 else 0) 11
  obtain ⟨Y, hY⟩ : ∃ Y, eTo g c s n l k t e f 1 (if b then 1 else 0) 11 = Y := ⟨_, rfl⟩
  rw [hY] at hYl hYu ⊢
  have HYL := hid (show Y.length ≤ 124 by omega)
  have HYU := hid hYu
  have HY := hid hY
  clear hYl hYu hY
  obtain ⟨W, hW⟩ : ∃ W, w.alloc (sbx g c s n l k t e f b) = W := ⟨_, rfl⟩
  obtain ⟨X, hX⟩ : ∃ X, w.heap.size = X := ⟨_, rfl⟩
  have HFW := hid (show Fr No w W by rw [← hW]; exact (Fr.refl No w).alloc _)
  have hB : Blk W X 25 #[.int .i64 g, .int .i64 c, .int .i64 s, .int .i64 n, .int .i64 l, .int .i64 k, .int .i64 t, .int .i64 e, .int .i64 f, .bool b] := by
    rw [← hW, ← hX]
    exact Blk.new w _ _
  have x0 : W.cell? ⟨X, 0, none⟩ = some (.int .i64 g) := hB.cell 0
  have x1 : W.cell? ⟨X, 1, none⟩ = some (.int .i64 c) := hB.cell 1
  have x2 : W.cell? ⟨X, 2, none⟩ = some (.int .i64 s) := hB.cell 2
  have x3 : W.cell? ⟨X, 3, none⟩ = some (.int .i64 n) := hB.cell 3
  have x4 : W.cell? ⟨X, 4, none⟩ = some (.int .i64 l) := hB.cell 4
  have x5 : W.cell? ⟨X, 5, none⟩ = some (.int .i64 k) := hB.cell 5
  have x6 : W.cell? ⟨X, 6, none⟩ = some (.int .i64 t) := hB.cell 6
  have x7 : W.cell? ⟨X, 7, none⟩ = some (.int .i64 e) := hB.cell 7
  have x8 : W.cell? ⟨X, 8, none⟩ = some (.int .i64 f) := hB.cell 8
  have x9 : W.cell? ⟨X, 9, none⟩ = some (.bool b) := hB.cell 9
  have kcv := fun w C n c => Lib.run_convert_bytes_const (P := Tryd.prog) w 26 5 C n c Tryd.underlying26 Tryd.underlying5
  have HB := hid hB
  have HS := hid hs
  have HM := hid hm
  have HT := hid hT
  clear hs hB hm hT
  go_enter Tryd.func14, Tryd.ntmps14
  go_wp2_with (first | (go_at_call 16; go_loud (refine (mayS_ok g c s n l k t e f b _ HS.out).mono ?_; rintro e' w1 ⟨rfl, f1⟩; rw [decide_eq_true HM.out]; have HF1 := hid (HFW.out.trans f1); replace HB := hid (Blk.fr HB.out f1 (fun h => h)); clear x0 x1 x2 x3 x4 x5 x6 x7 x8 x9; have x0 : w1.cell? ⟨X, 0, none⟩ = some (.int .i64 g) := Blk.cell HB.out 0; have x1 : w1.cell? ⟨X, 1, none⟩ = some (.int .i64 c) := Blk.cell HB.out 1; have x2 : w1.cell? ⟨X, 2, none⟩ = some (.int .i64 s) := Blk.cell HB.out 2; have x3 : w1.cell? ⟨X, 3, none⟩ = some (.int .i64 n) := Blk.cell HB.out 3; have x4 : w1.cell? ⟨X, 4, none⟩ = some (.int .i64 l) := Blk.cell HB.out 4; have x5 : w1.cell? ⟨X, 5, none⟩ = some (.int .i64 k) := Blk.cell HB.out 5; have x6 : w1.cell? ⟨X, 6, none⟩ = some (.int .i64 t) := Blk.cell HB.out 6; have x7 : w1.cell? ⟨X, 7, none⟩ = some (.int .i64 e) := Blk.cell HB.out 7; have x8 : w1.cell? ⟨X, 8, none⟩ = some (.int .i64 f) := Blk.cell HB.out 8; have x9 : w1.cell? ⟨X, 9, none⟩ = some (.bool b) := Blk.cell HB.out 9; clear f1)) | (go_at_call 43; go_loud (refine (new_wp X _ (Blk.lt HB.out)).mono ?_; rintro e' w2 ⟨rfl, HW, f2⟩; have HF2 := hid (HF1.out.trans f2); replace HB := hid (Blk.fr HB.out f2 (fun h => h)); clear x0 x1 x2 x3 x4 x5 x6 x7 x8 x9; have x0 : w2.cell? ⟨X, 0, none⟩ = some (.int .i64 g) := Blk.cell HB.out 0; have x1 : w2.cell? ⟨X, 1, none⟩ = some (.int .i64 c) := Blk.cell HB.out 1; have x2 : w2.cell? ⟨X, 2, none⟩ = some (.int .i64 s) := Blk.cell HB.out 2; have x3 : w2.cell? ⟨X, 3, none⟩ = some (.int .i64 n) := Blk.cell HB.out 3; have x4 : w2.cell? ⟨X, 4, none⟩ = some (.int .i64 l) := Blk.cell HB.out 4; have x5 : w2.cell? ⟨X, 5, none⟩ = some (.int .i64 k) := Blk.cell HB.out 5; have x6 : w2.cell? ⟨X, 6, none⟩ = some (.int .i64 t) := Blk.cell HB.out 6; have x7 : w2.cell? ⟨X, 7, none⟩ = some (.int .i64 e) := Blk.cell HB.out 7; have x8 : w2.cell? ⟨X, 8, none⟩ = some (.int .i64 f) := Blk.cell HB.out 8; have x9 : w2.cell? ⟨X, 9, none⟩ = some (.bool b) := Blk.cell HB.out 9; clear f2)) | (go_at_call 44; go_loud (refine (bytes_wp w1.heap.size _ 8 8 [84, 72, 65, 84, 67, 72, 83, 66] w1.heap.size X [] _ (by decide) (CrcG.lit_rd w2 [84, 72, 65, 84, 67, 72, 83, 66] (8, 9)) (HW.fr ((Fr.refl No _).alloc _))).mono ?_; rintro e' w3 ⟨rfl, HW3, f3⟩; have HF3 := hid ((HF2.out.alloc (.cells #[.int .u8 84, .int .u8 72, .int .u8 65, .int .u8 84, .int .u8 67, .int .u8 72, .int .u8 83, .int .u8 66] 5 (8, 9))).step f3 (fun i hi h => by have h2 := h.1; have := HF1.out.size; omega)); replace HB := hid (Blk.fr (Blk.alloc HB.out (.cells #[.int .u8 84, .int .u8 72, .int .u8 65, .int .u8 84, .int .u8 67, .int .u8 72, .int .u8 83, .int .u8 66] 5 (8, 9))) f3 (fun h => h.2 rfl)); clear x0 x1 x2 x3 x4 x5 x6 x7 x8 x9; have q0 : ∀ o, (w3.alloc o).cell? ⟨X, 0, none⟩ = some (.int .i64 g) := fun o => Blk.cell (Blk.alloc HB.out o) 0; have q1 : ∀ o, (w3.alloc o).cell? ⟨X, 1, none⟩ = some (.int .i64 c) := fun o => Blk.cell (Blk.alloc HB.out o) 1; have q2 : ∀ o, (w3.alloc o).cell? ⟨X, 2, none⟩ = some (.int .i64 s) := fun o => Blk.cell (Blk.alloc HB.out o) 2; have q3 : ∀ o, (w3.alloc o).cell? ⟨X, 3, none⟩ = some (.int .i64 n) := fun o => Blk.cell (Blk.alloc HB.out o) 3; have q4 : ∀ o, (w3.alloc o).cell? ⟨X, 4, none⟩ = some (.int .i64 l) := fun o => Blk.cell (Blk.alloc HB.out o) 4; have q5 : ∀ o, (w3.alloc o).cell? ⟨X, 5, none⟩ = some (.int .i64 k) := fun o => Blk.cell (Blk.alloc HB.out o) 5; have q6 : ∀ o, (w3.alloc o).cell? ⟨X, 6, none⟩ = some (.int .i64 t) := fun o => Blk.cell (Blk.alloc HB.out o) 6; have q7 : ∀ o, (w3.alloc o).cell? ⟨X, 7, none⟩ = some (.int .i64 e) := fun o => Blk.cell (Blk.alloc HB.out o) 7; have q8 : ∀ o, (w3.alloc o).cell? ⟨X, 8, none⟩ = some (.int .i64 f) := fun o => Blk.cell (Blk.alloc HB.out o) 8; have q9 : ∀ o, (w3.alloc o).cell? ⟨X, 9, none⟩ = some (.bool b) := fun o => Blk.cell (Blk.alloc HB.out o) 9; clear f3)) | (go_at_call 45; go_loud (refine (blockOf_ok g c s n l k t e f b _).mono ?_; rintro e' w4 ⟨G, rfl, hG, hBK, f4⟩; have HBK := hid hBK; have HBM := hid (Blk.fr (Blk.new w3 78 #[.pointer (some ⟨w1.heap.size, 0, none⟩)]) f4 (fun h => h)); have HF4 := hid ((HF3.out.alloc _).trans f4); have HWU := hid (WrP.toU HW3 (((Fr.refl No w3).alloc _).trans f4) (fun q => q = G ∨ q = w3.heap.size) (fun q hq => by have h1 := Blk.lt hBK; have h2 := f4.size; simp at hG h2; rcases hq with rfl | rfl <;> omega)); clear hG hBK f4)) | (go_at_call 46; go_loud (refine (each_ok 47 G (.pointer (some ⟨w3.heap.size, 0, none⟩)) (InvE w w3.heap.size G w1.heap.size w1.heap.size g c s n l k t e f b 1 (if b then 1 else 0)) (enc_does w w3.heap.size G w1.heap.size w1.heap.size g c s n l k t e f b 1 (if b then 1 else 0) HF1.out.size (va_in b HM.out)) _ ⟨HBK.out, HBM.out, by simpa [eTo] using HWU.out, HF4.out⟩).mono ?_; rintro e' w5 ⟨rfl, hI⟩; have m0 : w5.cell? ⟨w3.heap.size, 0, none⟩ = some (.pointer (some ⟨w1.heap.size, 0, none⟩)) := Blk.cell hI.2.1 0; have HW5 := hid (show WrP w5 w1.heap.size G w1.heap.size Y by (have q := WrU.toP hI.2.2.1 G (Or.inl rfl); rw [HY.out] at q; exact q)); have HF5 := hid hI.2.2.2; clear hI)) | (go_at_call 49; go_loud (refine (done_wp _ _ _ _ _ HW5.out).mono ?_; rintro e' w6 ⟨A6, rfl, HD6, f6⟩; have HF6 := hid (HF5.out.trans f6); clear f6)) | (go_at_call 50; go_loud (refine (seal_ok _ _ _ _ _ (by decide) HD6 (pad_u8 _ HYU.out) (HT.out.fr HF6.out (fun h => h))).mono ?_; rintro e' w7 ⟨rfl, hb7, f7⟩; rw [pad_rest _ HYL.out] at hb7; have HB7 := hid hb7; have HF7 := hid (HF6.out.trans f7); clear f7 hb7)))
  go_ret2
  exact ⟨_, rfl, HB7.out, HF7.out⟩
end Go.Proofs.YthhhmhgmmbfjhaaDoor.SuG
