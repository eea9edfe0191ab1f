/- What must come of every program of package crc. Condition: the table is as its text lays it. -/
import Derived.Test.YtpiplcakefcaaaaDoorCrcF
import Derived.Lib.SlBytesConst
namespace Go.Proofs.YtpiplcakefcaaaaDoor.CrcG
open Go.RowKit MSep MFrame CrcM CrcA CrcB CrcC CrcD CrcE CrcF

theorem seal_drop (zs : List Int) : (seal_ zs).drop 4 = rest zs := by
  rw [seal_, List.drop_left' (lo_len _ _)]
theorem ld_seal (zs : List Int) : ld (seal_ zs) 4 = onN 0 (rest zs) := by
  have hS : onN 0 (rest zs) < 4294967296 := nt_lt _
  rw [seal_]
  obtain ⟨S, hS2⟩ : ∃ S, onN 0 (rest zs) = S := ⟨_, rfl⟩
  obtain ⟨r, hr⟩ : ∃ r, rest zs = r := ⟨_, rfl⟩
  rw [hS2] at hS ⊢
  rw [hr, lo4 S hS]
  simp [ld]
  omega
theorem chk_seal (zs : List Int) : (128 == 128 && ld (seal_ zs) 4 == onN 0 ((seal_ zs).drop 4)) = true := by
  rw [seal_drop, ld_seal]
  simp

theorem lit_rd (w : World) (xs : List Int) (fr : Nat × Nat) : Rd (w.alloc (.cells (cells xs).toArray 5 fr)) (some ⟨w.heap.size, 0, none⟩) xs.length (cells xs) :=
  ⟨by simp [cells], fun _ => ⟨_, _, rfl, by simp, fun j u hu => by
    rw [Nat.zero_add, cell_of_row _ _ j _ _ _ (heap_alloc_new w _)]
    simpa using hu⟩⟩

theorem sums : onN 0 [49, 50, 51, 52, 53, 54, 55, 56, 57] = 3808858755 := by decide +kernel
theorem joined : it 40 (onN 0 [49, 50, 51, 52]) ^^^ onN 0 [53, 54, 55, 56, 57] = 3808858755 := by decide +kernel
theorem nib1 : it 4 1 = 274646895 := by decide +kernel

theorem sum_lit (w : World) (hT : TabAt w) (xs : List Int) (n : Nat) (hn : xs.length = n) (hx : ∀ x ∈ xs, 0 ≤ x ∧ x ≤ 255) (fr : Nat × Nat) (hl : n ≤ 1000) :
    Calls Tryd.prog 56 #[.slice (some ⟨w.heap.size, 0, none⟩) n n] (w.alloc (.cells (cells xs).toArray 5 fr)) fun e w' => e = .returned (.int .u32 (onN 0 xs : Nat)) ∧ Fr No w w' := by
  subst hn
  refine (sum_any (some ⟨w.heap.size, 0, none⟩) xs.length xs.length xs _ (lit_rd w xs fr) hx (by simp only [maxLen]; omega) (hT.fr (S := No) ((Fr.refl _ w).alloc _) (fun h => h))).mono ?_
  rintro e w' ⟨rfl, rfl⟩
  exact ⟨rfl, (Fr.refl _ w).alloc _⟩
theorem check_is (w : World) (g : Nat) (zs : List Int) (hz : ∀ x ∈ zs, 0 ≤ x ∧ x ≤ 255) (hl : zs.length ≤ 124) (hb : Blk w g 5 (cells (seal_ zs)).toArray) (hT : TabAt w) :
    Calls Tryd.prog 100 #[.slice (some ⟨g, 0, none⟩) 128 128] w fun e w' => e = .returned (.bool true) ∧ w = w' := by
  have hr := Rd.blk (off := 0) (n := 128) hb (by simp [cells, seal_len hl])
  rw [List.drop_zero, List.take_of_length_le (by simp [cells, seal_len hl])] at hr
  have h := check_any (some ⟨g, 0, none⟩) 128 128 (seal_ zs) w ⟨hr, Nat.le_refl _, by simp [maxLen], seal_u8 hz⟩ hT
  rw [chk_seal] at h
  exact h
theorem check_not (w : World) (g : Nat) (zs : List Int) (hz : ∀ x ∈ zs, 0 ≤ x ∧ x ≤ 255) (hl : zs.length ≤ 124) (hb : Blk w g 5 (cells (seal_ zs)).toArray) (hT : TabAt w) :
    Calls Tryd.prog 100 #[.slice (some ⟨g, 0, none⟩) 127 128] w fun e w' => e = .returned (.bool false) ∧ w = w' := by
  have hr := Rd.blk (off := 0) (n := 127) hb (by simp [cells, seal_len hl])
  rw [List.drop_zero, cells, ← List.map_take] at hr
  have h := check_any (some ⟨g, 0, none⟩) 127 128 ((seal_ zs).take 127) w ⟨hr, by omega, by simp [maxLen], fun x hx => seal_u8 hz x (List.mem_of_mem_take hx)⟩ hT
  exact h

end Go.Proofs.YtpiplcakefcaaaaDoor.CrcG
