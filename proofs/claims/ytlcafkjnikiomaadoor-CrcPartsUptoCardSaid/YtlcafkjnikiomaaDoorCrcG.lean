/- What must come of every program of package crc. Condition: the table is as its text lays it. -/
import Derived.Test.YtlcafkjnikiomaaDoorCrcF
import Derived.Lib.SlBytesConst
namespace Go.Proofs.YtlcafkjnikiomaaDoor.CrcG
open Go.RowKit MSep MFrame CrcM CrcA CrcB CrcC CrcD CrcE CrcF

theorem seal_drop (zs : List Int) : (seal_ zs).drop 4 = rest zs := by
  rw [seal_, List.drop_left' (lo_len _ _)]
theorem ld_seal (zs : List Int) : ld (seal_ zs) 4 = onN 0 (rest zs) := by
  have hS : onN 0 (rest zs) < 4294967296 := nt_lt _
  rw [seal_]
  obtain ⟨S, hS2⟩ : ∃ S, onN 0 (rest zs) = S := ⟨_, rfl⟩
  obtain ⟨r, hr⟩ : ∃ r, rest zs = r := ⟨_, rfl⟩
  rw [hS2] at hS ⊢
  rw [hr, lo4 S hS]
  simp [ld]
  omega
theorem chk_seal (zs : List Int) : (128 == 128 && ld (seal_ zs) 4 == onN 0 ((seal_ zs).drop 4)) = true := by
  rw [seal_drop, ld_seal]
  simp

theorem lit_rd (w : World) (xs : List Int) (fr : Nat × Nat) : Rd (w.alloc (.cells (cells xs).toArray 5 fr)) (some ⟨w.heap.size, 0, none⟩) xs.length (cells xs) :=
  ⟨by simp [cells], fun _ => ⟨_, _, rfl, by simp, fun j u hu => by
    rw [Nat.zero_add, cell_of_row _ _ j _ _ _ (heap_alloc_new w _)]
    simpa using hu⟩⟩

theorem sums : onN 0 [49, 50, 51, 52, 53, 54, 55, 56, 57] = 3808858755 := by decide +kernel
theorem joined : it 40 (onN 0 [49, 50, 51, 52]) ^^^ onN 0 [53, 54, 55, 56, 57] = 3808858755 := by decide +kernel
theorem nib1 : it 4 1 = 274646895 := by decide +kernel

theorem sum_lit (w : World) (hT : TabAt w) (xs : List Int) (n : Nat) (hn : xs.length = n) (hx : ∀ x ∈ xs, 0 ≤ x ∧ x ≤ 255) (fr : Nat × Nat) (hl : n ≤ 1000) :
    Calls Tryd.prog 12 #[.slice (some ⟨w.heap.size, 0, none⟩) n n] (w.alloc (.cells (cells xs).toArray 5 fr)) fun e w' => e = .returned (.int .u32 (onN 0 xs : Nat)) ∧ Fr No w w' := by
  subst hn
  refine (sum_any (some ⟨w.heap.size, 0, none⟩) xs.length xs.length xs _ (lit_rd w xs fr) hx (by simp only [maxLen]; omega) (hT.fr (S := No) ((Fr.refl _ w).alloc _) (fun h => h))).mono ?_
  rintro e w' ⟨rfl, rfl⟩
  exact ⟨rfl, (Fr.refl _ w).alloc _⟩
theorem join_is (w : World) : Calls Tryd.prog 19 #[.int .u32 (onN 0 [49, 50, 51, 52] : Nat), .int .u32 (onN 0 [53, 54, 55, 56, 57] : Nat), .int .i64 5] w fun e w' => e = .returned (.int .u32 3808858755) ∧ Fr No w w' := by
  refine (join_any (onN 0 [49, 50, 51, 52]) (onN 0 [53, 54, 55, 56, 57]) 5 w (nt_lt _) (nt_lt _) (by simp [maxLen])).mono ?_
  rintro e w' ⟨rfl, F⟩
  refine ⟨?_, F⟩
  rw [show 8 * (5 : Int).toNat = 40 from rfl, joined]
  rfl
theorem nib_is (w : World) (hT : TabAt w) : Calls Tryd.prog 17 #[.int .i64 1] w fun e w' => e = .returned (.int .u32 274646895) ∧ w = w' := by
  refine (nibble_any 1 w hT).mono ?_
  rintro e w' ⟨rfl, rfl⟩
  refine ⟨?_, rfl⟩
  rw [if_pos (by omega), show (1 : Int).toNat = 1 from rfl, nib1]
  rfl
theorem check_is (w : World) (g : Nat) (zs : List Int) (hz : ∀ x ∈ zs, 0 ≤ x ∧ x ≤ 255) (hl : zs.length ≤ 124) (hb : Blk w g 5 (cells (seal_ zs)).toArray) (hT : TabAt w) :
    Calls Tryd.prog 22 #[.slice (some ⟨g, 0, none⟩) 128 128] w fun e w' => e = .returned (.bool true) ∧ w = w' := by
  have hr := Rd.blk (off := 0) (n := 128) hb (by simp [cells, seal_len hl])
  rw [List.drop_zero, List.take_of_length_le (by simp [cells, seal_len hl])] at hr
  have h := check_any (some ⟨g, 0, none⟩) 128 128 (seal_ zs) w ⟨hr, Nat.le_refl _, by simp [maxLen], seal_u8 hz⟩ hT
  rw [chk_seal] at h
  exact h
theorem check_not (w : World) (g : Nat) (zs : List Int) (hz : ∀ x ∈ zs, 0 ≤ x ∧ x ≤ 255) (hl : zs.length ≤ 124) (hb : Blk w g 5 (cells (seal_ zs)).toArray) (hT : TabAt w) :
    Calls Tryd.prog 22 #[.slice (some ⟨g, 0, none⟩) 127 128] w fun e w' => e = .returned (.bool false) ∧ w = w' := by
  have hr := Rd.blk (off := 0) (n := 127) hb (by simp [cells, seal_len hl])
  rw [List.drop_zero, cells, ← List.map_take] at hr
  have h := check_any (some ⟨g, 0, none⟩) 127 128 ((seal_ zs).take 127) w ⟨hr, by omega, by simp [maxLen], fun x hx => seal_u8 hz x (List.mem_of_mem_take hx)⟩ hT
  exact h

set_option maxHeartbeats 1000000 in
theorem lives_any (w : World) (hT : TabAt w) : Calls Tryd.prog 11 #[] w fun e w' => e = .returned (.bool true) ∧ Fr No w w' := by
  have HT := hid hT
  have kc := fun (w : World) (C : Array Value) (n c : Nat) => Lib.run_convert_bytes_const (P := Tryd.prog) w 23 5 C n c Tryd.underlying23 Tryd.underlying5
  have HS := hid (fun (w : World) (hT : TabAt w) (fr : Nat × Nat) => seal_ok (some ⟨w.heap.size, 0, none⟩) 3 3 [97, 98, 99] _ (by omega) (lit_rd w [97, 98, 99] fr) (by decide) (hT.fr (S := No) ((Fr.refl _ w).alloc _) (fun h => h)))
  clear hT
  go_enter Tryd.func11, Tryd.ntmps11
  go_wp2_with fail
  refine (HS.out w HT.out _).mono ?_
  rintro e w1 ⟨rfl, B1, F1⟩
  have HF1 := hid (((Fr.refl No w).alloc _).trans F1)
  rw [World.size_alloc] at B1 ⊢
  obtain ⟨g, hg⟩ : ∃ g, w.heap.size + 1 = g := ⟨_, rfl⟩
  rw [hg] at B1 ⊢
  have HB1 := hid B1
  clear B1 F1 hg
  go_wp2_with fail
  refine (sum_lit w1 (HT.out.fr HF1.out (fun h => h)) [49, 50, 51, 52, 53, 54, 55, 56, 57] 9 rfl (by decide) _ (by omega)).mono ?_
  rintro e w2 ⟨rfl, F2⟩
  have HF2 := hid (HF1.out.trans F2)
  have HB2 := hid (HB1.out.fr F2 (fun h => h))
  clear F2
  rw [sums]
  go_wp2_with fail
  refine (sum_lit w2 (HT.out.fr HF2.out (fun h => h)) [49, 50, 51, 52] 4 rfl (by decide) _ (by omega)).mono ?_
  rintro e w3 ⟨rfl, F3⟩
  have HF3 := hid (HF2.out.trans F3)
  have HB3 := hid (HB2.out.fr F3 (fun h => h))
  have HJ := hid join_is
  obtain ⟨a, ha⟩ : ∃ a, onN 0 [49, 50, 51, 52] = a := ⟨_, rfl⟩
  rw [ha] at HJ ⊢
  clear F3 ha
  go_wp2_with fail
  refine (sum_lit w3 (HT.out.fr HF3.out (fun h => h)) [53, 54, 55, 56, 57] 5 rfl (by decide) _ (by omega)).mono ?_
  rintro e w4 ⟨rfl, F4⟩
  have HF4 := hid (HF3.out.trans F4)
  have HB4 := hid (HB3.out.fr F4 (fun h => h))
  obtain ⟨b, hb⟩ : ∃ b, onN 0 [53, 54, 55, 56, 57] = b := ⟨_, rfl⟩
  rw [hb] at HJ ⊢
  clear F4 hb
  go_wp2_with fail
  refine (HJ.out w4).mono ?_
  rintro e w5 ⟨rfl, F5⟩
  have HF5 := hid (HF4.out.trans F5)
  have HB5 := hid (HB4.out.fr F5 (fun h => h))
  clear F5
  go_wp2_with fail
  refine (check_is w5 g [97, 98, 99] (by decide) (by decide) HB5.out (HT.out.fr HF5.out (fun h => h))).mono ?_
  rintro e w' ⟨rfl, rfl⟩
  go_wp2_with fail
  refine (check_not w5 g [97, 98, 99] (by decide) (by decide) HB5.out (HT.out.fr HF5.out (fun h => h))).mono ?_
  rintro e w' ⟨rfl, rfl⟩
  go_wp2_with fail
  refine (nib_is w5 (HT.out.fr HF5.out (fun h => h))).mono ?_
  rintro e w' ⟨rfl, rfl⟩
  go_wp2
  go_ret
  exact ⟨rfl, HF5.out⟩
end Go.Proofs.YtlcafkjnikiomaaDoor.CrcG
