/- Plain facts: what any bytes are as a superblock, by the program's way and by the document's, which is the same. Nothing here walks a program. -/
import Derived.Test.YthhhmhgmmbfjhaaDoorSuI
namespace Go.Proofs.YthhhmhgmmbfjhaaDoor.SuJ
open Go.RowKit MSep LeW LeR RdA RcM SuA SuB SuD SuF SuI CrcA CrcM CrcE

structure Sp where
  g : Int
  c : Int
  s : Int
  n : Int
  l : Int
  k : Int
  t : Int
  e : Int
  f : Int
  b : Bool
deriving DecidableEq
abbrev spv (r : Sp) : Value := sv r.g r.c r.s r.n r.l r.k r.t r.e r.f r.b
def mayP (r : Sp) : Prop := mayS r.g r.c r.s r.n r.l r.k r.t r.e r.f
instance (r : Sp) : Decidable (mayP r) := by unfold mayP; exact inferInstance
def rz : Sp := ⟨0, 0, 0, 0, 0, 0, 0, 0, 0, false⟩
def mk8 : List Int := [84, 72, 65, 84, 67, 72, 83, 66]
def secOk (zs : List Int) : Bool := zs.length == 128 && ld zs 4 == onN 0 (zs.drop 4)
/-- What is got, by the program. -/
def spO (st : Option (List Int)) : Sp := ⟨dvl st 1, dvl st 2, dvl st 3, dvl st 4, dvl st 5, dvl st 6, dvl st 7, dvl st 8, dvl st 9, decide (dvl st 10 = 1)⟩
def dP1 (st : Option (List Int)) : Option Sp := if dn (dst st 11) = 0 ∧ mayP (spO st) then some (spO st) else none
def dP (xs : List Int) : Option Sp := if xs.take 8 = mk8 then dP1 (some (xs.drop 8)) else none
def dec (zs : List Int) : Option Sp := if secOk zs then dP (zs.drop 4) else none
/-- What is got, by the document. -/
def isGet (i : Nat) : Bool := i == 0 || (2 ≤ i && i ≤ 6)
def rgo (i : Nat) (st : Option (List Int)) : Int × Option (List Int) := if isGet i then gt (sz i) st else gi (sz i) (lo i) (hi i) st
def rst (st : Option (List Int)) : Nat → Option (List Int)
  | 0 => st
  | i + 1 => (rgo i (rst st i)).2
def rvl (st : Option (List Int)) (i : Nat) : Int := (rgo i (rst st i)).1
def spR (st : Option (List Int)) : Sp := ⟨rvl st 1, rvl st 2, rvl st 3, rvl st 4, rvl st 5, rvl st 6, rvl st 7, rvl st 8, rvl st 9, decide (rvl st 10 = 1)⟩
def dR1 (st : Option (List Int)) : Option Sp := if rvl st 0 = 1 then (if dy (rst st 11) = true ∧ mayP (spR st) then some (spR st) else none) else none
def dR (xs : List Int) : Option Sp := if xs.take 8 = mk8 then dR1 (some (xs.drop 8)) else none
def decR (zs : List Int) : Option Sp := if secOk zs then dR (zs.drop 4) else none

/-- Whatever is left is made of bytes. -/
def by8 (st : Option (List Int)) : Prop := ∀ ys, st = some ys → ∀ x ∈ ys, 0 ≤ x ∧ x ≤ 255
theorem gt_by8 {n : Nat} {st : Option (List Int)} (h : by8 st) : by8 (gt n st).2 := by
  intro ys hy
  cases st with
  | none => cases hy
  | some xs =>
    by_cases hl : xs.length < n
    · rw [gt, if_pos hl] at hy; cases hy
    · rw [gt, if_neg hl] at hy
      cases hy
      exact fun x hx => h _ rfl x (List.mem_of_mem_drop hx)
theorem gi_by8 {n : Nat} {a b : Int} {st : Option (List Int)} (h : by8 st) : by8 (gi n a b st).2 := by
  intro ys hy
  cases st with
  | none => cases hy
  | some xs =>
    by_cases hl : xs.length < n
    · rw [gi, if_pos hl] at hy; cases hy
    · rw [gi, if_neg hl] at hy
      split at hy
      · cases hy
        exact fun x hx => h _ rfl x (List.mem_of_mem_drop hx)
      · cases hy
theorem rgo_by8 {i : Nat} {st : Option (List Int)} (h : by8 st) : by8 (rgo i st).2 := by
  unfold rgo
  split
  · exact gt_by8 h
  · exact gi_by8 h
theorem gt2 {st : Option (List Int)} (h : by8 st) : 0 ≤ (gt 2 st).1 ∧ (gt 2 st).1 ≤ 65535 := by
  cases st with
  | none => exact ⟨by decide, by decide⟩
  | some xs =>
    by_cases hl : xs.length < 2
    · rw [gt, if_pos hl]; exact ⟨by decide, by decide⟩
    · have := num_take (h _ rfl) 2 (by omega)
      rw [gt, if_neg hl]
      simp only [show (256 : Int) ^ 2 = 65536 by decide] at this
      exact ⟨this.1, by omega⟩
theorem gi_gt {st : Option (List Int)} (h : by8 st) : gi 2 0 65535 st = gt 2 st := by
  cases st with
  | none => rfl
  | some xs =>
    by_cases hl : xs.length < 2
    · rw [gi, gt, if_pos hl, if_pos hl]
    · have := num_take (h _ rfl) 2 (by omega)
      simp only [show (256 : Int) ^ 2 = 65536 by decide] at this
      rw [gi, gt, if_neg hl, if_neg hl, w64 _ (by omega), if_pos (by omega)]
theorem gi_one {st : Option (List Int)} (h : by8 st) : if (gt 2 st).1 = 1 then gi 2 1 1 st = gt 2 st else (gi 2 1 1 st).2 = none := by
  cases st with
  | none => rw [if_neg (by decide)]; rfl
  | some xs =>
    by_cases hl : xs.length < 2
    · rw [gi, gt, if_pos hl, if_pos hl, if_neg (by decide)]
    · have := num_take (h _ rfl) 2 (by omega)
      simp only [show (256 : Int) ^ 2 = 65536 by decide] at this
      rw [gi, gt, if_neg hl, if_neg hl, w64 _ (by omega)]
      by_cases e : num (xs.take 2) = 1
      · rw [if_pos e, if_pos (by omega)]
      · rw [if_neg e, if_neg (by omega)]
theorem get_of {i : Nat} (h1 : 1 ≤ i) (h : isGet i = true) : sz i = 2 ∧ SuD.lo i = 0 ∧ SuD.hi i = 65535 := by
  have : i = 2 ∨ i = 3 ∨ i = 4 ∨ i = 5 ∨ i = 6 := by
    unfold isGet at h
    simp only [Bool.or_eq_true, beq_iff_eq, Bool.and_eq_true, decide_eq_true_eq] at h
    omega
  rcases this with rfl | rfl | rfl | rfl | rfl <;> exact ⟨rfl, rfl, rfl⟩
theorem step_eq {i : Nat} (h1 : 1 ≤ i) {st : Option (List Int)} (h : by8 st) : gi (sz i) (lo i) (hi i) st = rgo i st := by
  unfold rgo
  by_cases hg : isGet i = true
  · obtain ⟨e1, e2, e3⟩ := get_of h1 hg
    rw [if_pos hg, e1, e2, e3]
    exact gi_gt h
  · rw [if_neg hg]
theorem rst_by8 {st : Option (List Int)} (h : by8 st) : ∀ i, by8 (rst st i)
  | 0 => h
  | i + 1 => rgo_by8 (rst_by8 h i)
theorem dst_rst {st : Option (List Int)} (h : by8 st) (h1 : rvl st 0 = 1) : ∀ i, dst st i = rst st i
  | 0 => rfl
  | 1 => by
    have := gi_one h
    rw [if_pos (show (gt 2 st).1 = 1 from h1)] at this
    exact congrArg Prod.snd this
  | i + 2 => by
    show (gi _ _ _ (dst st (i + 1))).2 = (rgo _ (rst st (i + 1))).2
    rw [dst_rst h h1 (i + 1), step_eq (by omega) (rst_by8 h (i + 1))]
theorem dvl_rvl {st : Option (List Int)} (h : by8 st) (h1 : rvl st 0 = 1) (i : Nat) (hi : 1 ≤ i) : dvl st i = rvl st i := by
  unfold dvl rvl
  rw [dst_rst h h1 i, step_eq hi (rst_by8 h i)]
theorem dst_none {st : Option (List Int)} (h : dst st 1 = none) : ∀ i, dst st (i + 1) = none
  | 0 => h
  | i + 1 => by
    show (gi _ _ _ (dst st (i + 1))).2 = none
    rw [dst_none h i]
    rfl
theorem dP1_dR1 {st : Option (List Int)} (h : by8 st) : dP1 st = dR1 st := by
  unfold dP1 dR1
  by_cases h1 : rvl st 0 = 1
  · have e : spO st = spR st := by
      unfold spO spR
      rw [dvl_rvl h h1 1 (by decide), dvl_rvl h h1 2 (by decide), dvl_rvl h h1 3 (by decide), dvl_rvl h h1 4 (by decide), dvl_rvl h h1 5 (by decide), dvl_rvl h h1 6 (by decide), dvl_rvl h h1 7 (by decide), dvl_rvl h h1 8 (by decide), dvl_rvl h h1 9 (by decide), dvl_rvl h h1 10 (by decide)]
    rw [if_pos h1, e, dst_rst h h1 11]
    by_cases h2 : dn (rst st 11) = 0 ∧ mayP (spR st)
    · rw [if_pos h2, if_pos ⟨(dn_zero _).1 h2.1, h2.2⟩]
    · rw [if_neg h2, if_neg (fun h => h2 ⟨(dn_zero _).2 h.1, h.2⟩)]
  · have := gi_one h
    rw [if_neg (show ¬ (gt 2 st).1 = 1 from h1)] at this
    rw [if_neg h1, dst_none this 10, if_neg (fun h => by simp [dn] at h)]
theorem dec_decR (zs : List Int) (h : ∀ x ∈ zs, 0 ≤ x ∧ x ≤ 255) : dec zs = decR zs := by
  unfold dec decR dP dR
  split
  · split
    · exact dP1_dR1 (fun ys hy x hx => by cases hy; exact h x (List.mem_of_mem_drop (List.mem_of_mem_drop hx)))
    · rfl
  · rfl
theorem gi_in (n : Nat) (a b : Int) (st : Option (List Int)) : (gi n a b st).1 = 0 ∨ (a ≤ (gi n a b st).1 ∧ (gi n a b st).1 ≤ b) := by
  cases st with
  | none => exact Or.inl rfl
  | some xs =>
    by_cases hl : xs.length < n
    · rw [gi, if_pos hl]; exact Or.inl rfl
    · by_cases hb : a ≤ wrap64 (num (xs.take n)) ∧ wrap64 (num (xs.take n)) ≤ b
      · rw [gi, if_neg hl, if_pos hb]; exact Or.inr hb
      · rw [gi, if_neg hl, if_neg hb]; exact Or.inl rfl
theorem dvl3 (st : Option (List Int)) : -9223372036854775808 ≤ dvl st 3 ∧ dvl st 3 ≤ 9223372036854775807 := by
  rcases gi_in (sz 3) (SuD.lo 3) (SuD.hi 3) (dst st 3) with h | h
  · unfold dvl; omega
  · have h2 : SuD.lo 3 = 0 := rfl
    have h3 : SuD.hi 3 = 65535 := rfl
    unfold dvl; omega
theorem rvl3 {st : Option (List Int)} (h : by8 st) : -9223372036854775808 ≤ rvl st 3 ∧ rvl st 3 ≤ 9223372036854775807 := by
  have := gt2 (rst_by8 h 3)
  show _ ≤ (gt 2 (rst st 3)).1 ∧ (gt 2 (rst st 3)).1 ≤ _
  omega
theorem mark_eq {ys : List Int} (h : ∀ x ∈ ys, 0 ≤ x ∧ x ≤ 255) : ((strOfNums ys).toList == ([84, 72, 65, 84, 67, 72, 83, 66] : List UInt8)) = decide (ys = mk8) := by
  rw [CrcF.str_list]
  by_cases e : ys = mk8
  · subst e; rfl
  · rw [decide_eq_false e, beq_eq_false_iff_ne]
    intro h2
    exact e (CrcF.str_inj h (by decide) (h2.trans rfl))
end Go.Proofs.YthhhmhgmmbfjhaaDoor.SuJ
