/- Sectors of which four bytes in a row are others, plainly. No conditions but the bounds that are named. -/
import Derived.Test.YtlcafkjnikiomaaDoorCrcG
namespace Go.Proofs.YtlcafkjnikiomaaDoor.CrcL
open Go.RowKit MSep MFrame CrcM CrcA CrcE CrcG

/-- What is added to byte j: i bytes of v, lowest first, from q on. -/
def ad (q i v j : Nat) : Nat := if q ≤ j ∧ j < q + i then v / 2 ^ (8 * (j - q)) % 256 else 0
/-- The bytes, with that added. -/
def brk (q i v : Nat) (xs : List Int) : List Int := xs.mapIdx fun j x => ((x.toNat ^^^ ad q i v j : Nat) : Int)
theorem brk_len (q i v : Nat) (xs : List Int) : (brk q i v xs).length = xs.length := by simp [brk]
theorem brk_zero (q v : Nat) (xs : List Int) (hx : ∀ x ∈ xs, 0 ≤ x ∧ x ≤ 255) : brk q 0 v xs = xs := by
  apply List.ext_getElem
  · simp [brk]
  · intro j h1 h2
    have := hx xs[j] (List.getElem_mem h2)
    simp only [brk, List.getElem_mapIdx, ad]
    rw [if_neg (by omega), Nat.xor_zero]
    omega
theorem brk_get (q i v : Nat) (xs : List Int) (hx : ∀ x ∈ xs, 0 ≤ x ∧ x ≤ 255) (h : q + i < xs.length) : (brk q i v xs)[q + i]? = some xs[q + i] := by
  have := hx xs[q + i] (List.getElem_mem h)
  simp only [brk, List.getElem?_mapIdx, List.getElem?_eq_getElem h, Option.map_some, ad]
  rw [if_neg (by omega), Nat.xor_zero]
  congr 1
  omega
theorem brk_set (q i v : Nat) (xs : List Int) (h : q + i < xs.length) : (brk q i v xs).set (q + i) ((xs[q + i].toNat ^^^ (v / 2 ^ (8 * i) % 256) : Nat) : Int) = brk q (i + 1) v xs := by
  apply List.ext_getElem
  · simp [brk]
  · intro j h1 h2
    simp only [List.getElem_set, brk, List.getElem_mapIdx, ad]
    by_cases hj : q + i = j
    · subst hj
      rw [if_pos rfl, if_pos (by omega), show q + i - q = i by omega]
    · rw [if_neg hj]
      by_cases h3 : q ≤ j ∧ j < q + i
      · rw [if_pos h3, if_pos (by omega)]
      · rw [if_neg h3, if_neg (by omega)]
theorem brk_u8 (q i v : Nat) (xs : List Int) (hx : ∀ x ∈ xs, 0 ≤ x ∧ x ≤ 255) : ∀ x ∈ brk q i v xs, 0 ≤ x ∧ x ≤ 255 := by
  intro x h
  obtain ⟨j, hj, rfl⟩ := List.mem_iff_getElem.1 h
  rw [brk_len] at hj
  have h1 := hx xs[j] (List.getElem_mem hj)
  simp only [brk, List.getElem_mapIdx]
  have h2 : ad q i v j < 2 ^ 8 := by
    unfold ad
    split <;> omega
  have h3 : xs[j].toNat < 2 ^ 8 := by omega
  have := Nat.xor_lt_two_pow h3 h2
  omega
/-- Adding goes through the register. -/
theorem reg_brk (q i v : Nat) : ∀ (xs : List Int) (k r s : Nat), reg (r ^^^ s) (xs.mapIdx fun j x => ((x.toNat ^^^ ad q i v (j + k) : Nat) : Int)) = reg r xs ^^^ reg s ((List.range' k xs.length).map fun j => ((ad q i v j : Nat) : Int)) := by
  intro xs
  induction xs with
  | nil => intro k r s; simp [reg_nil]
  | cons x xs ih =>
    intro k r s
    rw [List.mapIdx_cons, reg_cons, List.length_cons, List.range'_succ, List.map_cons, reg_cons, reg_cons, Int.toNat_natCast, Int.toNat_natCast, Nat.zero_add]
    have e : r ^^^ s ^^^ (x.toNat ^^^ ad q i v k) = (r ^^^ x.toNat) ^^^ (s ^^^ ad q i v k) := by
      rw [Nat.xor_assoc, Nat.xor_assoc, xlc s]
    rw [e, it_xor]
    have := ih (k + 1) (it 8 (r ^^^ x.toNat)) (it 8 (s ^^^ ad q i v k))
    rw [← this]
    congr 1
    apply List.ext_getElem
    · simp
    · intro j h1 h2
      simp only [List.getElem_mapIdx]
      rw [show j + 1 + k = j + (k + 1) by omega]

theorem byte_on (a u : Nat) : it 8 (a ^^^ u % 256) ^^^ u / 256 = it 8 (a ^^^ u) := by
  have h := xor_add 8 (a := u % 256) (u / 256) (by omega)
  have e : u = (u % 256) ^^^ (2 ^ 8 * (u / 256)) := by
    rw [Nat.xor_comm, h]
    omega
  conv => rhs; rw [e, ← Nat.xor_assoc, it_xor, it_pow]
/-- Four bytes of v, ahead of none, are 32 steps of v. -/
theorem reg_four (v : Nat) (hv : v < 4294967296) : reg 0 [((v % 256 : Nat) : Int), ((v / 256 % 256 : Nat) : Int), ((v / 65536 % 256 : Nat) : Int), ((v / 16777216 % 256 : Nat) : Int)] = it 32 v := by
  rw [reg_cons, reg_cons, reg_cons, reg_cons, reg_nil]
  simp only [Int.toNat_natCast]
  have h1 := byte_on 0 v
  have h2 := byte_on (it 8 (0 ^^^ v % 256)) (v / 256)
  have h3 := byte_on (it 8 (it 8 (0 ^^^ v % 256) ^^^ v / 256 % 256)) (v / 65536)
  rw [show v / 256 / 256 = v / 65536 by omega] at h2
  rw [show v / 65536 / 256 = v / 16777216 by omega] at h3
  rw [show v / 16777216 % 256 = v / 16777216 by omega, h3, h2, h1, Nat.zero_xor, ← it_add, ← it_add, ← it_add]
theorem reg_none (n : Nat) : reg 0 (List.replicate n 0) = 0 := by rw [reg_zeros, it_zero]
theorem ads_eq (q v : Nat) (h4 : 4 ≤ q) (h124 : q ≤ 124) : (List.range' 4 124).map (fun j => ((ad q 4 v j : Nat) : Int)) = List.replicate (q - 4) 0 ++ ([((v % 256 : Nat) : Int), ((v / 256 % 256 : Nat) : Int), ((v / 65536 % 256 : Nat) : Int), ((v / 16777216 % 256 : Nat) : Int)] ++ List.replicate (124 - q) 0) := by
  apply List.ext_getElem
  · simp
    omega
  · intro j h1 h2
    have hj : j < 124 := by simpa using h1
    simp only [List.getElem_map, List.getElem_range', Nat.one_mul, ad]
    by_cases ha : j < q - 4
    · rw [if_neg (by omega), List.getElem_append_left (by simpa using ha)]
      simp
    · rw [List.getElem_append_right (by simp; omega)]
      simp only [List.length_replicate]
      by_cases hb : j < q
      · rw [if_pos (by omega), List.getElem_append_left (by simp; omega)]
        have hc : j - (q - 4) = 0 ∨ j - (q - 4) = 1 ∨ j - (q - 4) = 2 ∨ j - (q - 4) = 3 := by omega
        obtain ⟨d, hd⟩ : ∃ d, j - (q - 4) = d := ⟨_, rfl⟩
        rw [show 4 + j - q = d by omega]
        simp only [hd] at hc ⊢
        rcases hc with rfl | rfl | rfl | rfl
        · simp
        · rfl
        · rfl
        · rfl
      · rw [if_neg (by omega), List.getElem_append_right (by simp; omega)]
        simp
theorem brk_drop (q i v : Nat) (xs : List Int) : (brk q i v xs).drop 4 = (xs.drop 4).mapIdx fun j x => ((x.toNat ^^^ ad q i v (j + 4) : Nat) : Int) := by
  apply List.ext_getElem
  · simp [brk]
  · intro j h1 h2
    simp only [brk, List.getElem_drop, List.getElem_mapIdx]
    rw [show ad q i v (4 + j) = ad q i v (j + 4) by rw [Nat.add_comm]]
theorem ld_congr (xs ys : List Int) : ∀ i, (∀ j, j < i → xs.getD j 0 = ys.getD j 0) → ld xs i = ld ys i := by
  intro i
  induction i with
  | zero => intro _; rfl
  | succ i ih =>
    intro h
    rw [ld, ld, ih (fun j hj => h j (by omega)), h i (by omega)]
/-- A sealed sector of which four bytes in a row behind the sum are others is none. -/
theorem brk_none (zs : List Int) (hl : zs.length ≤ 124) (hz : ∀ x ∈ zs, 0 ≤ x ∧ x ≤ 255) (q v : Nat) (h4 : 4 ≤ q) (h124 : q ≤ 124) (hv : v < 4294967296) (h0 : v ≠ 0) :
    (128 == 128 && ld (brk q 4 v (seal_ zs)) 4 == onN 0 ((brk q 4 v (seal_ zs)).drop 4)) = false := by
  have h1 : ld (brk q 4 v (seal_ zs)) 4 = ld (seal_ zs) 4 := by
    refine ld_congr _ _ 4 fun j hj => ?_
    have hs := seal_len hl
    have hx := seal_u8 hz ((seal_ zs)[j]'(by omega)) (List.getElem_mem _)
    rw [List.getD_eq_getElem?_getD, List.getD_eq_getElem?_getD, List.getElem?_eq_getElem (by rw [brk_len]; omega), List.getElem?_eq_getElem (by omega)]
    simp only [brk, List.getElem_mapIdx, ad, Option.getD_some]
    rw [if_neg (by omega), Nat.xor_zero]
    omega
  have h2 : onN 0 ((brk q 4 v (seal_ zs)).drop 4) ≠ onN 0 (rest zs) := by
    rw [brk_drop, seal_drop]
    have hr := reg_brk q 4 v (rest zs) 4 (nt 0) 0
    rw [Nat.xor_zero, rest_len hl, ads_eq q v h4 h124, reg_append, reg_none, reg_append, reg_four v hv, reg_zeros] at hr
    unfold onN
    rw [hr]
    intro e
    have hA := reg_lt (rest zs) (rest_u8 hz) (nt_lt 0)
    have hD := it_lt (8 * (124 - q)) (it_lt 32 hv)
    obtain ⟨a, ha⟩ : ∃ a, reg (nt 0) (rest zs) = a := ⟨_, rfl⟩
    obtain ⟨d, hd⟩ : ∃ d, it (8 * (124 - q)) (it 32 v) = d := ⟨_, rfl⟩
    rw [ha] at e hA
    rw [hd] at e hD
    have e2 : a ^^^ d = a := by
      have := congrArg nt e
      rwa [nt_nt (xor_lt hA hD), nt_nt hA] at this
    have e3 : d = 0 := by
      have : a ^^^ (a ^^^ d) = a ^^^ a := by rw [e2]
      rwa [← Nat.xor_assoc, Nat.xor_self, Nat.zero_xor] at this
    exact h0 (it_inj 32 hv (it_inj (8 * (124 - q)) (it_lt 32 hv) (hd.trans e3)))
  rw [h1, ld_seal]
  simpa using fun e => h2 e.symm
end Go.Proofs.YtlcafkjnikiomaaDoor.CrcL
