/- Contracts of package le's rows of bits. Conditions: the row's own block and its bytes' block are known whole. -/
import Derived.Test.YtkkbgbpmpcoffaaDoorLeR
namespace Go.Proofs.YtkkbgbpmpcoffaaDoor.LeB
open Go.RowKit MSep LeA LeW LeR

/-- The blocks of a row. -/
def BF (g : Nat) (A : Option Addr) : Nat → Prop := fun k => k = g ∨ ∃ a, A = some a ∧ a.block = k

/-- Bit i of these bytes. -/
def bitOf (bs : List Int) (i : Nat) : Bool := bs.getD (i / 8) 0 / 2 ^ (i % 8) % 2 == 1
/-- Is there a bit i? -/
def inB (n : Nat) (i : Int) : Bool := decide (0 ≤ i) && decide (i < n)
/-- What Has answers. -/
def hasB (n : Nat) (bs : List Int) (i : Int) : Bool := inB n i && bitOf bs i.toNat

section
variable {w w' : World} {B g n : Nat} {A : Option Addr} {c : Nat} {bs : List Int}
end

theorem and_one_fin : ∀ y : Fin 256, bits BinOp.and IntKind.u8 (y.val : Int) 1 = (y.val : Int) % 2 := by decide +kernel
theorem and_one (y : Int) (h0 : 0 ≤ y) (h1 : y ≤ 255) : bits BinOp.and IntKind.u8 y 1 = y % 2 := by
  obtain ⟨m, rfl⟩ := Int.eq_ofNat_of_zero_le h0
  exact and_one_fin ⟨m, by omega⟩

/-- A byte with bit t the other way. -/
def flip (x : Int) (t : Nat) : Int := if x / 2 ^ t % 2 = 1 then x - 2 ^ t else x + 2 ^ t
theorem xor_fin : ∀ x : Fin 256, ∀ t : Fin 8, bits BinOp.xor IntKind.u8 (x.val : Int) (2 ^ t.val % 256) = flip x.val t.val ∧ 0 ≤ flip x.val t.val ∧ flip x.val t.val ≤ 255 ∧
    ∀ s : Fin 8, (flip x.val t.val / 2 ^ s.val % 2 == 1) = if s = t then !((x.val : Int) / 2 ^ s.val % 2 == 1) else ((x.val : Int) / 2 ^ s.val % 2 == 1) := by decide +kernel
theorem xor_pow (x : Int) (t : Nat) (h0 : 0 ≤ x) (h1 : x ≤ 255) (ht : t < 8) : bits BinOp.xor IntKind.u8 x (2 ^ t % 256) = flip x t ∧ 0 ≤ flip x t ∧ flip x t ≤ 255 ∧
    ∀ s, s < 8 → (flip x t / 2 ^ s % 2 == 1) = if s = t then !(x / 2 ^ s % 2 == 1) else (x / 2 ^ s % 2 == 1) := by
  obtain ⟨m, rfl⟩ := Int.eq_ofNat_of_zero_le h0
  have := xor_fin ⟨m, by omega⟩ ⟨t, ht⟩
  refine ⟨this.1, this.2.1, this.2.2.1, fun s hs => ?_⟩
  have h2 := this.2.2.2 ⟨s, hs⟩
  simpa using h2

/-- What Set answers. -/
def setB (n : Nat) (bs : List Int) (i : Int) (is : Bool) : Bool := inB n i && (bitOf bs i.toNat != is)
/-- The bytes behind Set. -/
def setL (n : Nat) (bs : List Int) (i : Int) (is : Bool) : List Int := if setB n bs i is then bs.set (i.toNat / 8) (flip (bs.getD (i.toNat / 8) 0) (i.toNat % 8)) else bs

/-- How many of the first k bits are set. -/
def cntB (bs : List Int) : Nat → Int
  | 0 => 0
  | k + 1 => cntB bs k + if bitOf bs k then 1 else 0
theorem cntB_bd (bs : List Int) : ∀ k, 0 ≤ cntB bs k ∧ cntB bs k ≤ k
  | 0 => by simp [cntB]
  | k + 1 => by
    have := cntB_bd bs k
    simp only [cntB]
    split <;> omega
theorem hasB_in {n : Nat} {bs : List Int} {k : Nat} (h : k < n) : hasB n bs k = bitOf bs k := by
  have hb : inB n k = true := by simp [inB]; omega
  rw [hasB, hb]
  simp

/-- The first from k on, within m, of which p says yes; -1, if there is none. -/
def firstP (p : Nat → Bool) : Nat → Nat → Int
  | _, 0 => -1
  | k, m + 1 => if p k then k else firstP p (k + 1) m
/-- What First answers. -/
def firstB (n : Nat) (bs : List Int) (is : Bool) (start : Int) : Int := firstP (fun i => bitOf bs i == is) (max start 0).toNat (n - (max start 0).toNat)

end Go.Proofs.YtkkbgbpmpcoffaaDoor.LeB
