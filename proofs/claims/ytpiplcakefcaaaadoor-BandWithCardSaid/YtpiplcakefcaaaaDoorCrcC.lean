/- Contracts of package crc's step, pass, Zeros and Join. No conditions but the bounds that are named. -/
import Derived.Test.YtpiplcakefcaaaaDoorCrcB
namespace Go.Proofs.YtpiplcakefcaaaaDoor.CrcC
open Go.RowKit MSep MFrame CrcM CrcA CrcB

theorem it1_pow (j : Nat) : it 1 (2 ^ (j + 1)) = 2 ^ j := by
  rw [it, it, Nat.pow_succ, Nat.mul_comm, s0_even]
theorem pow_in (n : Nat) (h : n + 1 ≤ 31) : (2 ^ n : Int) % 4294967296 = ((2 ^ n : Nat) : Int) := by
  have h1 : 2 ^ n < 4294967296 := Nat.pow_lt_pow_right (a := 2) (n := 32) (m := n) (by omega) (by omega)
  have h2 : ((2 : Int) ^ n) = ((2 ^ n : Nat) : Int) := by push_cast; rfl
  rw [h2]
  obtain ⟨q, hq⟩ : ∃ q : Nat, 2 ^ n = q := ⟨_, rfl⟩
  rw [hq] at h1 ⊢
  omega

theorem pb_half (m : Nat) : Value.int .i64 ((m : Int) / 2) = .int .i64 ((m / 2 : Nat) : Int) := by simp
theorem pb_odd (K R m : Nat) (h : m % 2 = 1) : it (2 * K * (m / 2)) (it K R) = it (K * m) R := by
  rw [← it_add]
  congr 1
  have : m = 2 * (m / 2) + 1 := by omega
  conv => rhs; rw [this]
  rw [Nat.mul_add, ← Nat.mul_assoc, Nat.mul_comm K 2, Nat.mul_one]
theorem pb_even (K R m : Nat) (h : m % 2 = 0) : it (2 * K * (m / 2)) R = it (K * m) R := by
  congr 1
  have : m = 2 * (m / 2) := by omega
  conv => rhs; rw [this]
  rw [← Nat.mul_assoc, Nat.mul_comm K 2]

end Go.Proofs.YtpiplcakefcaaaaDoor.CrcC
