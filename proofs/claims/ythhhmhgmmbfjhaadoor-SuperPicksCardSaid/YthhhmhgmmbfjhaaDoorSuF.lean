/- Contract: a superblock's numbers are put one behind the other. Condition: the superblock may be. -/
import Derived.Test.YthhhmhgmmbfjhaaDoorSuE
namespace Go.Proofs.YthhhmhgmmbfjhaaDoor.SuF
open Go.RowKit MSep LeA LeW LeR LeX WrB SuA SuB SuD SuE

def sz : Nat → Nat
  | 0 => 2
  | 1 => 8
  | 7 => 1
  | 8 => 4
  | 9 => 8
  | 10 => 1
  | _ => 2
/-- The mark and the first i numbers as bytes. -/
def eTo (g c s n l k t e f x y : Int) : Nat → List Int
  | 0 => [84, 72, 65, 84, 67, 72, 83, 66]
  | i + 1 => eTo g c s n l k t e f x y i ++ low (sz i) (va g c s n l k t e f x y i)
theorem sz_in : ∀ i, i < 11 → ((sz i : Nat) : Int) = 1 ∨ ((sz i : Nat) : Int) = 2 ∨ ((sz i : Nat) : Int) = 4 ∨ ((sz i : Nat) : Int) = 8 := by decide
theorem sz_le (i : Nat) : sz i ≤ 8 := by unfold sz; split <;> omega
theorem eTo_len (g c s n l k t e f x y : Int) : ∀ i, (eTo g c s n l k t e f x y i).length ≤ 8 + 8 * i
  | 0 => by simp [eTo]
  | i + 1 => by
    have := eTo_len g c s n l k t e f x y i
    have := sz_le i
    rw [eTo, List.length_append, low_len]
    omega
theorem nv_sz : ∀ i, i < 11 → ∃ fn, nv i = .agg #[.int .i64 ((sz i : Nat) : Int), .int .i64 (lo i), .int .i64 (hi i), fn]
  | 0, _ => ⟨_, rfl⟩
  | 1, _ => ⟨_, rfl⟩
  | 2, _ => ⟨_, rfl⟩
  | 3, _ => ⟨_, rfl⟩
  | 4, _ => ⟨_, rfl⟩
  | 5, _ => ⟨_, rfl⟩
  | 6, _ => ⟨_, rfl⟩
  | 7, _ => ⟨_, rfl⟩
  | 8, _ => ⟨_, rfl⟩
  | 9, _ => ⟨_, rfl⟩
  | 10, _ => ⟨_, rfl⟩
/-- What is put is none below 0. -/
theorem va_in {g c s n l k t e f : Int} (b : Bool) (h : mayS g c s n l k t e f) : ∀ i, i < 11 → 0 ≤ va g c s n l k t e f 1 (if b then 1 else 0) i ∧ va g c s n l k t e f 1 (if b then 1 else 0) i < 9223372036854775808 := by
  obtain ⟨_, h1, ⟨h2, h3, h4, h5, h6⟩, h7, h8, h9⟩ := h
  intro i hi
  match i, hi with
  | 0, _ => exact ⟨by simp [va], by simp [va]⟩
  | 1, _ => simp only [va]; omega
  | 2, _ => simp only [va]; omega
  | 3, _ => simp only [va]; omega
  | 4, _ => simp only [va]; omega
  | 5, _ => simp only [va]; omega
  | 6, _ => simp only [va]; omega
  | 7, _ => simp only [va]; omega
  | 8, _ => simp only [va]; omega
  | 9, _ => simp only [va]; omega
  | 10, _ => cases b <;> simp [va]
def InvE (w : World) (M G B g0 : Nat) (g c s n l k t e f : Int) (b : Bool) (x y : Int) (i : Nat) (w' : World) : Prop :=
  BK w' G g c s n l k t e f b x y ∧ Blk w' M 78 #[.pointer (some ⟨g0, 0, none⟩)] ∧ WrU w' B (fun q => q = G ∨ q = M) g0 (eTo g c s n l k t e f x y i) ∧ Fr No w w'
set_option maxRecDepth 100000 in
theorem enc_does (w : World) (M G B g0 : Nat) (g c s n l k t e f : Int) (b : Bool) (x y : Int) (hB : w.heap.size ≤ B) (hv : ∀ i, i < 11 → 0 ≤ va g c s n l k t e f x y i ∧ va g c s n l k t e f x y i < 9223372036854775808) : Does 47 #[.pointer (some ⟨M, 0, none⟩)] G (InvE w M G B g0 g c s n l k t e f b x y) where
  go := by
    rintro i hi w' ⟨h1, h2, h3, h4⟩
    obtain ⟨fn, hq⟩ := nv_sz i hi
    rw [hq]
    have hl := eTo_len g c s n l k t e f x y i
    have hz := sz_le i
    refine (enc1_ok (sz i : Nat) (lo i) (SuD.hi i) (va g c s n l k t e f x y i) fn G (off i) M g0 B (fun q => q = G ∨ q = M) (eTo g c s n l k t e f x y i) w' (BK.at_ h1 i hi) (Blk.cell h2 0) (Or.inl rfl) (Or.inr rfl) h3 (sz_in i hi) (by omega) (hv i hi)).mono ?_
    rintro E w'' ⟨rfl, k1, k2⟩
    refine ⟨rfl, Blk.fr h1 k2 (fun h => h.2 (Or.inl rfl)), Blk.fr h2 k2 (fun h => h.2 (Or.inr rfl)), ?_, h4.step k2 (fun j hj h => by have := h.1; omega)⟩
    rw [Int.toNat_natCast] at k1
    exact k1
  new := by
    rintro i w' w'' hf ⟨h1, h2, h3, h4⟩
    exact ⟨Blk.fr h1 hf (fun h => h), Blk.fr h2 hf (fun h => h), h3.fr hf, h4.trans hf⟩
  enter := by
    intro args w'
    kernel_rfl
end Go.Proofs.YthhhmhgmmbfjhaaDoor.SuF
