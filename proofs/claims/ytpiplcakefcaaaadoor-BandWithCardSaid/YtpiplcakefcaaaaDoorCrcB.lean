/- Contracts of package crc's rows of steps. No conditions but the bounds that are named. -/
import Derived.Test.YtpiplcakefcaaaaDoorCrcA
import Derived.Test.YtpiplcakefcaaaaDoorSepB
namespace Go.Proofs.YtpiplcakefcaaaaDoor.CrcB
open Go.RowKit MSep MFrame CrcM CrcA

/-- The rows of 'so many steps', as an array's cells. -/
def MA (k : Nat) : Array Value := ((mat k).map fun (x : Nat) => Value.int .u32 x).toArray
theorem MA_size (k : Nat) : (MA k).size = 32 := by simp [MA, mat]
theorem MA_get (k i : Nat) (hi : i < 32) : (MA k)[i]? = some (.int .u32 (it k (2 ^ i) : Nat)) := by
  simp [MA, List.getElem?_map, mat_get k i hi]
theorem MA_one (k : Nat) : (MA k).all (·.oneCell') = true := by
  simp [MA, Value.oneCell']

theorem and1 {a : Nat} {x : Int} (ha : a < 4294967296) (h : (a : Int) = x) : bits BinOp.and IntKind.u32 x 1 = ((a % 2 : Nat) : Int) := by
  have := u32_and_nat a 1 ha (by omega)
  rw [Nat.and_one_is_mod] at this
  rw [← h]
  exact this

theorem it_lt2 (k : Nat) {i : Nat} (hi : i < 32) : it k (2 ^ i) < 4294967296 := it_lt k (Nat.pow_lt_pow_right (a := 2) (n := 32) (m := i) (by omega) hi)
theorem MA_eq (k : Nat) (cs : Array Value) (hs : cs.size = 32) (h : ∀ j, j < 32 → cs[j]? = some (.int .u32 (it k (2 ^ j) : Nat))) : cs = MA k := by
  apply Array.ext_getElem?
  intro j
  rcases Nat.lt_or_ge j 32 with hj | hj
  · rw [h j hj, MA_get k j hj]
  · rw [Array.getElem?_eq_none (by omega), Array.getElem?_eq_none (by rw [MA_size]; omega)]

end Go.Proofs.YtpiplcakefcaaaaDoor.CrcB
