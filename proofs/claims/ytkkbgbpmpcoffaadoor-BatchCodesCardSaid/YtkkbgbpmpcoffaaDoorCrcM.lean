/- The arithmetic of CRC-32C over natural numbers. No conditions but the bounds that are named. -/
import Derived.WalkKit
namespace Go.Proofs.YtkkbgbpmpcoffaaDoor.CrcM

/-- One step with a bit 0. -/
def s0 (r : Nat) : Nat := if r % 2 = 1 then r / 2 ^^^ 2197175160 else r / 2
/-- k steps with bits 0. -/
def it : Nat → Nat → Nat
  | 0, r => r
  | k + 1, r => s0 (it k r)

theorem xor_div (a b : Nat) : (a ^^^ b) / 2 = a / 2 ^^^ b / 2 := by
  have := Nat.shiftRight_xor_distrib (a := a) (b := b) (i := 1)
  simpa [Nat.shiftRight_eq_div_pow] using this
theorem xor_mod (a b : Nat) : (a ^^^ b) % 2 = (a % 2 + b % 2) % 2 := by
  have h := Nat.testBit_xor a b 0
  simp only [Nat.testBit_zero] at h
  have h1 : (a ^^^ b) % 2 < 2 := Nat.mod_lt _ (by omega)
  have ha : a % 2 = 0 ∨ a % 2 = 1 := by omega
  have hb : b % 2 = 0 ∨ b % 2 = 1 := by omega
  have hc : (a ^^^ b) % 2 = 0 ∨ (a ^^^ b) % 2 = 1 := by omega
  rcases ha with ha | ha <;> rcases hb with hb | hb <;> rcases hc with hc | hc <;> simp [ha, hb, hc] at h ⊢
theorem xlc (a b c : Nat) : a ^^^ (b ^^^ c) = b ^^^ (a ^^^ c) := by rw [← Nat.xor_assoc, Nat.xor_comm a b, Nat.xor_assoc]
theorem xor_add (i : Nat) {a : Nat} (b : Nat) (h : a < 2 ^ i) : 2 ^ i * b ^^^ a = 2 ^ i * b + a := by
  rw [Nat.two_pow_add_eq_or_of_lt h]
  apply Nat.eq_of_testBit_eq
  intro j
  rw [Nat.testBit_xor, Nat.testBit_or, Nat.testBit_two_pow_mul]
  by_cases hj : i ≤ j
  · rw [Nat.testBit_lt_two_pow (x := a) (i := j) (Nat.lt_of_lt_of_le h (Nat.pow_le_pow_right (by omega) hj))]
    simp
  · simp [hj]
theorem s0_xor (a b : Nat) : s0 (a ^^^ b) = s0 a ^^^ s0 b := by
  have ha : a % 2 = 0 ∨ a % 2 = 1 := by omega
  have hb : b % 2 = 0 ∨ b % 2 = 1 := by omega
  have hm := xor_mod a b
  rcases ha with ha | ha <;> rcases hb with hb | hb <;> rw [ha, hb] at hm <;> simp only [s0, xor_div, hm, ha, hb]
  · rfl
  · simp [Nat.xor_assoc]
  · simp [Nat.xor_assoc, Nat.xor_comm]
    exact xlc _ _ _
  · simp only [Nat.xor_assoc, reduceIte]
    rw [← Nat.xor_assoc 2197175160 (b / 2), Nat.xor_comm 2197175160 (b / 2), Nat.xor_assoc, Nat.xor_self, Nat.xor_zero]
    simp
theorem s0_zero : s0 0 = 0 := by decide
theorem it_zero (k : Nat) : it k 0 = 0 := by
  induction k with
  | zero => rfl
  | succ k ih => rw [it, ih, s0_zero]
theorem it_xor (k a b : Nat) : it k (a ^^^ b) = it k a ^^^ it k b := by
  induction k with
  | zero => rfl
  | succ k ih => rw [it, ih, s0_xor, it, it]
theorem it_add (j k a : Nat) : it (j + k) a = it j (it k a) := by
  induction j with
  | zero => rw [Nat.zero_add, it]
  | succ j ih => rw [Nat.succ_add, it, ih, it]
theorem s0_lt {r : Nat} (h : r < 4294967296) : s0 r < 4294967296 := by
  rw [s0]
  split
  · exact Nat.xor_lt_two_pow (n := 32) (by omega) (by omega)
  · omega
theorem it_lt (k : Nat) {r : Nat} (h : r < 4294967296) : it k r < 4294967296 := by
  induction k with
  | zero => exact h
  | succ k ih => exact s0_lt ih
theorem xor_lt {a b : Nat} (ha : a < 4294967296) (hb : b < 4294967296) : a ^^^ b < 4294967296 := Nat.xor_lt_two_pow (n := 32) ha hb
theorem s0_even (r : Nat) : s0 (2 * r) = r := by
  rw [s0, if_neg (by omega)]
  omega
theorem it_pow (k r : Nat) : it k (2 ^ k * r) = r := by
  induction k generalizing r with
  | zero => simp [it]
  | succ k ih => rw [it, show 2 ^ (k + 1) * r = 2 ^ k * (2 * r) by rw [Nat.pow_succ, Nat.mul_assoc], ih, s0_even]
theorem s0_inj {r : Nat} (h : r < 4294967296) (h0 : s0 r = 0) : r = 0 := by
  unfold s0 at h0
  by_cases h1 : r % 2 = 1
  · rw [if_pos h1] at h0
    obtain ⟨q, hq⟩ : ∃ q, r / 2 = q := ⟨_, rfl⟩
    rw [hq] at h0
    have h2 : q = 2197175160 := by
      have h3 : (q ^^^ 2197175160) ^^^ 2197175160 = 0 ^^^ 2197175160 := by rw [h0]
      rw [Nat.xor_assoc, Nat.xor_self, Nat.xor_zero, Nat.zero_xor] at h3
      exact h3
    omega
  · rw [if_neg h1] at h0
    omega
theorem it_inj (k : Nat) {r : Nat} (h : r < 4294967296) (h0 : it k r = 0) : r = 0 := by
  induction k with
  | zero => exact h0
  | succ k ih => exact ih (s0_inj (it_lt k h) h0)

/-- The register behind some bytes. -/
def reg (r : Nat) (zs : List Int) : Nat := zs.foldl (fun r x => it 8 (r ^^^ x.toNat)) r
theorem reg_append (r : Nat) (xs ys : List Int) : reg r (xs ++ ys) = reg (reg r xs) ys := by simp [reg]
theorem reg_nil (r : Nat) : reg r [] = r := by rw [reg, List.foldl_nil]
theorem reg_cons (r : Nat) (x : Int) (xs : List Int) : reg r (x :: xs) = reg (it 8 (r ^^^ x.toNat)) xs := by rw [reg, reg, List.foldl_cons]
theorem reg_snoc (r : Nat) (xs : List Int) (x : Int) : reg r (xs ++ [x]) = it 8 (reg r xs ^^^ x.toNat) := by rw [reg_append, reg_cons, reg_nil]
theorem reg_xor (zs : List Int) : ∀ a b, reg (a ^^^ b) zs = reg a zs ^^^ it (8 * zs.length) b := by
  induction zs with
  | nil => intro a b; rw [reg_nil, reg_nil, List.length_nil, Nat.mul_zero, it]
  | cons z zs ih =>
    intro a b
    rw [reg_cons, reg_cons, Nat.xor_assoc, Nat.xor_comm b, ← Nat.xor_assoc, it_xor, ih, List.length_cons, show 8 * (zs.length + 1) = 8 * zs.length + 8 by omega, it_add]
theorem reg_lt (zs : List Int) (hz : ∀ x ∈ zs, 0 ≤ x ∧ x ≤ 255) : ∀ {r}, r < 4294967296 → reg r zs < 4294967296 := by
  induction zs with
  | nil => intro r h; rw [reg_nil]; exact h
  | cons z zs ih =>
    intro r h
    rw [reg_cons]
    have := hz z (by simp)
    exact ih (fun x hx => hz x (by simp [hx])) (it_lt 8 (xor_lt h (by omega)))
theorem reg_zeros (n : Nat) : ∀ r, reg r (List.replicate n 0) = it (8 * n) r := by
  induction n with
  | zero => intro r; rw [List.replicate_zero, reg_nil, Nat.mul_zero, it]
  | succ n ih =>
    intro r
    rw [List.replicate_succ, reg_cons, ih, show 8 * (n + 1) = 8 * n + 8 by omega, it_add (8 * n) 8 r]
    rw [show (0 : Int).toNat = 0 from rfl, Nat.xor_zero]

/-- The register turned. -/
def nt (r : Nat) : Nat := 4294967295 - r
theorem nt_lt (r : Nat) : nt r < 4294967296 := by unfold nt; omega
theorem nt_nt {r : Nat} (h : r < 4294967296) : nt (nt r) = r := by unfold nt; omega
theorem nt_xor {r : Nat} (h : r < 4294967296) : nt r = r ^^^ 4294967295 := by
  have : (BitVec.ofNat 32 r) ^^^ BitVec.allOnes 32 = ~~~ BitVec.ofNat 32 r := by rw [BitVec.xor_allOnes]
  have h2 := congrArg BitVec.toNat this
  rw [BitVec.toNat_xor, BitVec.toNat_not, BitVec.toNat_ofNat, Nat.mod_eq_of_lt (by omega)] at h2
  have h3 : (BitVec.allOnes 32).toNat = 4294967295 := by decide
  rw [h3] at h2
  rw [h2]
  rfl
/-- The sum gone on. -/
def onN (sum : Nat) (zs : List Int) : Nat := nt (reg (nt sum) zs)
theorem onN_append (s : Nat) (xs ys : List Int) (hx : ∀ x ∈ xs, 0 ≤ x ∧ x ≤ 255) : onN s (xs ++ ys) = onN (onN s xs) ys := by
  rw [onN, reg_append, onN, onN, nt_nt (reg_lt xs hx (nt_lt s))]
/-- Two texts' sums joined. -/
theorem join_eq (s : Nat) (xs ys : List Int) (hx : ∀ x ∈ xs, 0 ≤ x ∧ x ≤ 255) (hy : ∀ x ∈ ys, 0 ≤ x ∧ x ≤ 255) : onN s (xs ++ ys) = it (8 * ys.length) (onN s xs) ^^^ onN 0 ys := by
  rw [onN_append s xs ys hx]
  obtain ⟨a, ha⟩ : ∃ a, onN s xs = a := ⟨_, rfl⟩
  have h1 : a < 4294967296 := by rw [← ha]; exact nt_lt _
  have h2 := reg_xor ys (nt 0) a
  have h3 := reg_lt ys hy (nt_lt 0)
  have h4 := it_lt (8 * ys.length) h1
  have e1 : nt a = nt 0 ^^^ a := by rw [nt_xor h1, Nat.xor_comm]; rfl
  rw [ha, onN, onN, e1, h2, nt_xor (xor_lt h3 h4), nt_xor h3, Nat.xor_assoc, xlc]
/-- The plain step, with any bit. -/
def stp (r b : Nat) : Nat := if r % 2 ≠ b then r / 2 ^^^ 2197175160 else r / 2
/-- The plain register behind k bits of a byte. -/
def prt (k r x : Nat) : Nat := it k (r ^^^ x) ^^^ x / 2 ^ k
theorem prt_zero (r x : Nat) : prt 0 r x = r := by simp [prt, it, Nat.xor_assoc]
theorem prt_step (k r x : Nat) : stp (prt k r x) (x / 2 ^ k % 2) = prt (k + 1) r x := by
  obtain ⟨t, ht⟩ : ∃ t, it k (r ^^^ x) = t := ⟨_, rfl⟩
  obtain ⟨y, hy⟩ : ∃ y, x / 2 ^ k = y := ⟨_, rfl⟩
  have h2 : x / 2 ^ (k + 1) = y / 2 := by rw [Nat.pow_succ, ← Nat.div_div_eq_div_mul, hy]
  simp only [prt, stp, it, ht, hy, h2, xor_div, xor_mod, s0]
  have e1 : t % 2 = 0 ∨ t % 2 = 1 := by omega
  have e2 : y % 2 = 0 ∨ y % 2 = 1 := by omega
  rcases e1 with e1 | e1 <;> rcases e2 with e2 | e2 <;> simp [e1, e2, Nat.xor_assoc, Nat.xor_comm]
  · exact xlc _ _ _
  · exact xlc _ _ _
theorem prt_all (r x : Nat) (hx : x < 256) : prt 8 r x = it 8 (r ^^^ x) := by
  rw [prt, Nat.div_eq_of_lt hx, Nat.xor_zero]
theorem prt_lt (k r x : Nat) (hr : r < 4294967296) (hx : x < 256) : prt k r x < 4294967296 :=
  xor_lt (it_lt k (xor_lt hr (by omega))) (by have := Nat.div_le_self x (2 ^ k); omega)

/-- The table. -/
def tab : List Nat := [0, 274646895, 549293790, 820201905, 1098587580, 1361435347, 1640403810, 1905808397, 2197175160, 2460548119, 2722870694, 2987750089, 3280807620, 3553878443, 3811616794, 4084100981]
theorem tab_eq : ∀ i : Fin 16, tab[i.val]? = some (it 4 i.val) := by decide +kernel
theorem split16 (r : Nat) : (16 * (r / 16)) ^^^ (r % 16) = r := by
  have h := xor_add 4 (a := r % 16) (r / 16) (by omega)
  rw [show (16 : Nat) * (r / 16) = 2 ^ 4 * (r / 16) from rfl, h]
  omega
theorem nib (r : Nat) : it 4 (r % 16) ^^^ r / 16 = it 4 r := by
  conv => rhs; rw [← split16 r, it_xor, show 16 * (r / 16) = 2 ^ 4 * (r / 16) from rfl, it_pow]
  rw [Nat.xor_comm]

/-- A matrix's rows. -/
def mat (k : Nat) : List Nat := (List.range 32).map fun i => it k (2 ^ i)
theorem mat_get (k i : Nat) (hi : i < 32) : (mat k)[i]? = some (it k (2 ^ i)) := by
  rw [mat, List.getElem?_map, List.getElem?_range hi]
  rfl
theorem low_step (r i : Nat) : r % 2 ^ (i + 1) = if r / 2 ^ i % 2 = 1 then r % 2 ^ i ^^^ 2 ^ i else r % 2 ^ i := by
  have h : r % 2 ^ (i + 1) = r % 2 ^ i + 2 ^ i * (r / 2 ^ i % 2) := by rw [Nat.pow_succ, Nat.mod_mul]
  rw [h]
  have h0 : r % 2 ^ i < 2 ^ i := Nat.mod_lt _ (Nat.two_pow_pos i)
  split
  · rename_i h1
    rw [h1, Nat.mul_one]
    have h2 := xor_add i (a := r % 2 ^ i) 1 h0
    rw [Nat.mul_one] at h2
    rw [Nat.add_comm, ← h2, Nat.xor_comm]
  · have h1 : r / 2 ^ i % 2 = 0 := by omega
    rw [h1, Nat.mul_zero, Nat.add_zero]
end Go.Proofs.YtkkbgbpmpcoffaaDoor.CrcM
