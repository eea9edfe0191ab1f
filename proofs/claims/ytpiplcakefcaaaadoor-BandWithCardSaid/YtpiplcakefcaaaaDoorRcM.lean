/- Plain facts on deltas and records: which may be, their bytes, and what any bytes are as a record. Nothing here walks a program. -/
import Derived.Test.YtpiplcakefcaaaaDoorRdA
namespace Go.Proofs.YtpiplcakefcaaaaDoor.RcM
open Go.RowKit LeW LeR RdA

theorem num_low : ∀ (k : Nat) (n : Int), num (low k n) = n % 256 ^ k
  | 0, n => by simp [low, num, Int.emod_one]
  | k + 1, n => by
    rw [low, num, num_low k, Int.pow_succ]
    have h1 := Int.emod_add_mul_ediv n 256
    have h2 : n % (256 ^ k * 256) = n % 256 + 256 * (n / 256 % 256 ^ k) := by
      rw [Int.mul_comm (256 ^ k) 256, Int.emod_def, Int.emod_def n 256, Int.emod_def (n / 256), ← Int.ediv_ediv_of_nonneg (by omega), Int.mul_sub, ← Int.mul_assoc]
      omega
    rw [h2]
/-- A delta: kind, at, how many, zone, offset. -/
structure De where
  k : Int
  a : Int
  n : Int
  z : Int
  o : Int
/-- A record: epoch, number, whether it ends a group, up to, deltas. -/
structure Rc where
  e : Int
  s : Int
  c : Bool
  u : Int
  l : List De
def zn (z : Int) : Prop := 0 ≤ z ∧ z ≤ 143
instance (z : Int) : Decidable (zn z) := by unfold zn; exact inferInstance
def ata (a : Int) : Prop := 0 ≤ a ∧ a ≤ 4294967295
instance (a : Int) : Decidable (ata a) := by unfold ata; exact inferInstance
def mny (n : Int) : Prop := 1 ≤ n ∧ n ≤ 65535
instance (n : Int) : Decidable (mny n) := by unfold mny; exact inferInstance
/-- A delta that may be. -/
def mayD (d : De) : Prop := (d.k = 1 ∧ ata d.a ∧ mny d.n ∧ zn d.z ∧ 0 ≤ d.o ∧ d.o ≤ 1024) ∨ (d.k = 2 ∧ ata d.a ∧ mny d.n ∧ d.z = 0 ∧ d.o = 0) ∨ (d.k = 3 ∧ ata d.a ∧ d.n = 0 ∧ (zn d.z ∨ d.z = 255) ∧ d.o = 0) ∨ (d.k = 4 ∧ d.a = 0 ∧ d.n = 0 ∧ zn d.z ∧ d.o = 0)
instance (d : De) : Decidable (mayD d) := by unfold mayD; exact inferInstance
def mayH (e s u : Int) : Prop := (1 ≤ e ∧ e ≤ 2147483648) ∧ (0 ≤ s ∧ s ≤ 1099511627776) ∧ (0 ≤ u ∧ u ≤ 1099511627776)
instance (e s u : Int) : Decidable (mayH e s u) := by unfold mayH; exact inferInstance
/-- A record that may be. -/
def mayR (r : Rc) : Prop := mayH r.e r.s r.u ∧ r.l.length ≤ 6 ∧ ∀ d ∈ r.l, mayD d
instance (r : Rc) : Decidable (mayR r) := by unfold mayR; exact inferInstance

theorem mayD_in {d : De} (h : mayD d) : (1 ≤ d.k ∧ d.k ≤ 4) ∧ (0 ≤ d.a ∧ d.a ≤ 4294967295) ∧ (0 ≤ d.n ∧ d.n ≤ 65535) ∧ (0 ≤ d.z ∧ d.z ≤ 255) ∧ (0 ≤ d.o ∧ d.o ≤ 1024) := by
  unfold mayD zn ata mny at h
  omega

/-- A delta's bytes, a record's. -/
def eD (d : De) : List Int := low 1 d.k ++ (low 1 d.z ++ (low 2 d.n ++ (low 4 d.a ++ (low 4 d.o ++ low 4 0))))
def b01 (b : Bool) : Int := if b then 1 else 0
def eH (r : Rc) : List Int := [74, 82] ++ (low 1 (b01 r.c) ++ (low 1 r.l.length ++ (low 4 r.e ++ (low 8 r.s ++ low 8 r.u))))
def eR (r : Rc) : List Int := eH r ++ r.l.flatMap eD
theorem eD_len (d : De) : (eD d).length = 16 := by simp [eD, low_len]
theorem eH_len (r : Rc) : (eH r).length = 24 := by simp [eH, low_len]
theorem fl_len (l : List De) : (l.flatMap eD).length = 16 * l.length := by
  induction l with
  | nil => rfl
  | cons d l ih => rw [List.flatMap_cons, List.length_append, eD_len, ih, List.length_cons]; omega
theorem eR_len (r : Rc) : (eR r).length = 24 + 16 * r.l.length := by rw [eR, List.length_append, eH_len, fl_len]
theorem low_u8 : ∀ (k : Nat) (n : Int), ∀ x ∈ low k n, 0 ≤ x ∧ x ≤ 255
  | 0, n, x, h => by simp [low] at h
  | k + 1, n, x, h => by
    rw [low, List.mem_cons] at h
    rcases h with rfl | h
    · omega
    · exact low_u8 k _ x h
theorem eD_u8 (d : De) : ∀ x ∈ eD d, 0 ≤ x ∧ x ≤ 255 := by
  intro x h
  simp only [eD, List.mem_append] at h
  rcases h with h | h | h | h | h | h <;> exact low_u8 _ _ x h
theorem eR_u8 (r : Rc) : ∀ x ∈ eR r, 0 ≤ x ∧ x ≤ 255 := by
  intro x h
  simp only [eR, eH, List.mem_append, List.mem_flatMap] at h
  rcases h with (h | h | h | h | h | h) | ⟨d, _, h⟩
  · simp at h; omega
  · exact low_u8 _ _ x h
  · exact low_u8 _ _ x h
  · exact low_u8 _ _ x h
  · exact low_u8 _ _ x h
  · exact low_u8 _ _ x h
  · exact eD_u8 d x h

/-- One delta, as the program gets it, each number within bounds. -/
def pD (st : Option (List Int)) : De × Option (List Int) :=
  let k := gi 1 1 4 st
  let z := gi 1 0 255 k.2
  let n := gi 2 0 65535 z.2
  let a := gi 4 0 4294967295 n.2
  let o := gi 4 0 1024 a.2
  let q := gi 4 0 0 o.2
  (⟨k.1, a.1, n.1, z.1, o.1⟩, q.2)
def pDs : Nat → Option (List Int) → List De × Option (List Int)
  | 0, st => ([], st)
  | n + 1, st => ((pD st).1 :: (pDs n (pD st).2).1, (pDs n (pD st).2).2)
theorem pDs_snoc : ∀ (n : Nat) (st : Option (List Int)), pDs (n + 1) st = ((pDs n st).1 ++ [(pD (pDs n st).2).1], (pD (pDs n st).2).2)
  | 0, st => rfl
  | n + 1, st => by
    have h := pDs_snoc n (pD st).2
    rw [pDs, h]
    simp [pDs]
/-- One delta, as the document's text gets it; the last number. -/
def rD (st : Option (List Int)) : De × Int × Option (List Int) :=
  let k := gt 1 st
  let z := gt 1 k.2
  let n := gt 2 z.2
  let a := gt 4 n.2
  let o := gt 4 a.2
  let q := gt 4 o.2
  (⟨wrap64 k.1, wrap64 a.1, wrap64 n.1, wrap64 z.1, wrap64 o.1⟩, q.1, q.2)
/-- n deltas; none: one of them says nothing. -/
def rDs : Nat → Option (List Int) → Option (List De × Option (List Int))
  | 0, st => some ([], st)
  | n + 1, st => if (rD st).2.1 = 0 then (rDs n (rD st).2.2).map fun p => ((rD st).1 :: p.1, p.2) else none
/-- What comes ahead of the deltas: whether it ends a group, how many, epoch, number, up to. -/
structure Hd where
  c : Int
  n : Int
  e : Int
  s : Int
  u : Int
def hd (st : Option (List Int)) : Hd × Option (List Int) :=
  let c := gi 1 0 1 st
  let n := gi 1 0 6 c.2
  let e := gi 4 1 2147483648 n.2
  let s := gi 8 0 1099511627776 e.2
  let u := gi 8 0 1099511627776 s.2
  (⟨c.1, n.1, e.1, s.1, u.1⟩, u.2)
def tk (st : Option (List Int)) : Rc × Option (List Int) :=
  let h := hd st
  let d := pDs h.1.n.toNat h.2
  (⟨h.1.e, h.1.s, decide (h.1.c = 1), h.1.u, d.1⟩, d.2)
def marked (xs : List Int) : Prop := xs.take 2 = [74, 82]
instance (xs : List Int) : Decidable (marked xs) := by unfold marked; exact inferInstance
/-- What 124 bytes are as a record, by the program. -/
def dP (xs : List Int) : Option Rc :=
  if marked xs then (let t := tk (some (xs.drop 2)); if dn t.2 = 0 ∧ mayR t.1 then some t.1 else none) else none
/-- The same, by the document's text. -/
def dR (xs : List Int) : Option Rc :=
  if marked xs then (let h := hd (some (xs.drop 2)); match rDs h.1.n.toNat h.2 with
    | none => none
    | some d => if dy d.2 = true ∧ mayR ⟨h.1.e, h.1.s, decide (h.1.c = 1), h.1.u, d.1⟩ then some ⟨h.1.e, h.1.s, decide (h.1.c = 1), h.1.u, d.1⟩ else none) else none

theorem gi_none (n : Nat) (a b : Int) : gi n a b none = (0, none) := rfl
theorem pD_none : (pD none).2 = none := rfl
theorem pDs_none : ∀ n, (pDs n none).2 = none
  | 0 => rfl
  | n + 1 => by rw [pDs]; exact pDs_none n
theorem rD_none : rD none = (⟨0, 0, 0, 0, 0⟩, 0, none) := by
  have h : wrap64 0 = 0 := by unfold wrap64; omega
  simp only [rD, gt, h]
theorem rDs_none : ∀ n, ∃ l, rDs n none = some (l, none)
  | 0 => ⟨[], rfl⟩
  | n + 1 => by
    obtain ⟨l, h⟩ := rDs_none n
    refine ⟨⟨0, 0, 0, 0, 0⟩ :: l, ?_⟩
    rw [rDs, rD_none]
    simp [h]
/-- A number within bounds is the number; the reader goes on. -/
theorem gi_some {n : Nat} {a b : Int} {xs : List Int} (hl : n ≤ xs.length) : gi n a b (some xs) = if a ≤ wrap64 (num (xs.take n)) ∧ wrap64 (num (xs.take n)) ≤ b then (wrap64 (num (xs.take n)), some (xs.drop n)) else (0, none) := by
  rw [gi, if_neg (by omega)]
theorem gt_some {n : Nat} {xs : List Int} (hl : n ≤ xs.length) : gt n (some xs) = (num (xs.take n), some (xs.drop n)) := by
  rw [gt, if_neg (by omega)]
theorem num_take {xs : List Int} (h : ∀ x ∈ xs, 0 ≤ x ∧ x ≤ 255) (n : Nat) (hl : n ≤ xs.length) : 0 ≤ num (xs.take n) ∧ num (xs.take n) < 256 ^ n := by
  have := num_bd (xs.take n) (fun x hx => h x (List.mem_of_mem_take hx))
  rw [List.length_take, Nat.min_eq_left hl] at this
  exact this
theorem w64 (n : Int) (h : 0 ≤ n ∧ n < 9223372036854775808) : wrap64 n = n := by unfold wrap64; omega
/-- One delta of 16 bytes: both get the same, and go on; or the program is at fault, and the document's is none that may be. -/
theorem one_delta {xs : List Int} (h8 : ∀ x ∈ xs, 0 ≤ x ∧ x ≤ 255) (hl : 16 ≤ xs.length) :
    ((rD (some xs)).2.1 = 0 ∧ pD (some xs) = ((rD (some xs)).1, some (xs.drop 16)) ∧ (rD (some xs)).2.2 = some (xs.drop 16)) ∨
    ((pD (some xs)).2 = none ∧ ((rD (some xs)).2.1 ≠ 0 ∨ ((rD (some xs)).2.2 = some (xs.drop 16) ∧ ¬ mayD (rD (some xs)).1))) := by
  have hr : rD (some xs) = (⟨wrap64 (num (xs.take 1)), wrap64 (num ((xs.drop 4).take 4)), wrap64 (num ((xs.drop 2).take 2)), wrap64 (num ((xs.drop 1).take 1)), wrap64 (num ((xs.drop 8).take 4))⟩, num ((xs.drop 12).take 4), some (xs.drop 16)) := by
    simp only [rD, gt_some (n := 1) (xs := xs) (by omega), gt_some (n := 1) (xs := xs.drop 1) (by simp; omega), List.drop_drop, gt_some (n := 2) (xs := xs.drop 2) (by simp; omega), gt_some (n := 4) (xs := xs.drop 4) (by simp; omega), gt_some (n := 4) (xs := xs.drop 8) (by simp; omega), gt_some (n := 4) (xs := xs.drop 12) (by simp; omega), Nat.reduceAdd]
  have b1 := num_take h8 1 (by omega)
  have b2 := num_take (xs := xs.drop 1) (fun x hx => h8 x (List.mem_of_mem_drop hx)) 1 (by simp; omega)
  have b3 := num_take (xs := xs.drop 2) (fun x hx => h8 x (List.mem_of_mem_drop hx)) 2 (by simp; omega)
  have b4 := num_take (xs := xs.drop 4) (fun x hx => h8 x (List.mem_of_mem_drop hx)) 4 (by simp; omega)
  have b5 := num_take (xs := xs.drop 8) (fun x hx => h8 x (List.mem_of_mem_drop hx)) 4 (by simp; omega)
  have b6 := num_take (xs := xs.drop 12) (fun x hx => h8 x (List.mem_of_mem_drop hx)) 4 (by simp; omega)
  have g1 := gi_some (n := 1) (a := 1) (b := 4) (xs := xs) (by omega)
  have g2 := gi_some (n := 1) (a := 0) (b := 255) (xs := xs.drop 1) (by simp; omega)
  have g3 := gi_some (n := 2) (a := 0) (b := 65535) (xs := xs.drop 2) (by simp; omega)
  have g4 := gi_some (n := 4) (a := 0) (b := 4294967295) (xs := xs.drop 4) (by simp; omega)
  have g5 := gi_some (n := 4) (a := 0) (b := 1024) (xs := xs.drop 8) (by simp; omega)
  have g6 := gi_some (n := 4) (a := 0) (b := 0) (xs := xs.drop 12) (by simp; omega)
  simp only [List.drop_drop, Nat.reduceAdd] at g1 g2 g3 g4 g5 g6
  have p1 : (256 : Int) ^ 1 = 256 := by decide
  have p2 : (256 : Int) ^ 2 = 65536 := by decide
  have p4 : (256 : Int) ^ 4 = 4294967296 := by decide
  rw [p1] at b1 b2
  rw [p2] at b3
  rw [p4] at b4 b5 b6
  rw [hr]
  clear hr
  generalize num (xs.take 1) = k at *
  generalize num ((xs.drop 1).take 1) = z at *
  generalize num ((xs.drop 2).take 2) = n at *
  generalize num ((xs.drop 4).take 4) = a at *
  generalize num ((xs.drop 8).take 4) = o at *
  generalize num ((xs.drop 12).take 4) = q at *
  rw [w64 k (by omega)] at g1 ⊢
  rw [w64 z (by omega)] at g2 ⊢
  rw [w64 n (by omega)] at g3 ⊢
  rw [w64 a (by omega)] at g4 ⊢
  rw [w64 o (by omega)] at g5 ⊢
  rw [w64 q (by omega)] at g6
  rw [if_pos (by omega)] at g2 g3 g4
  by_cases c1 : 1 ≤ k ∧ k ≤ 4
  · rw [if_pos c1] at g1
    by_cases c5 : o ≤ 1024
    · rw [if_pos ⟨b5.1, c5⟩] at g5
      by_cases c6 : q = 0
      · rw [if_pos (by omega)] at g6
        refine .inl ⟨c6, ?_, rfl⟩
        simp only [pD, g1, g2, g3, g4, g5, g6]
      · rw [if_neg (by omega)] at g6
        refine .inr ⟨?_, .inl c6⟩
        simp only [pD, g1, g2, g3, g4, g5, g6]
    · rw [if_neg (by omega)] at g5
      refine .inr ⟨?_, .inr ⟨rfl, fun h => c5 (mayD_in h).2.2.2.2.2⟩⟩
      simp only [pD, g1, g2, g3, g4, g5, gi_none]
  · rw [if_neg c1] at g1
    refine .inr ⟨?_, .inr ⟨rfl, fun h => c1 (mayD_in h).1⟩⟩
    simp only [pD, g1, gi_none]

/-- n deltas: the same; or the program is at fault, and the document's are none, or one of them may not be. -/
theorem some_deltas : ∀ (n : Nat) {xs : List Int}, (∀ x ∈ xs, 0 ≤ x ∧ x ≤ 255) → 16 * n ≤ xs.length →
    (∃ l ys, pDs n (some xs) = (l, some ys) ∧ rDs n (some xs) = some (l, some ys)) ∨
    ((pDs n (some xs)).2 = none ∧ (rDs n (some xs) = none ∨ ∃ l st, rDs n (some xs) = some (l, st) ∧ ∃ d ∈ l, ¬ mayD d))
  | 0, xs, _, _ => .inl ⟨[], xs, rfl, rfl⟩
  | n + 1, xs, h8, hl => by
    have hm : ∀ x ∈ xs.drop 16, 0 ≤ x ∧ x ≤ 255 := fun x hx => h8 x (List.mem_of_mem_drop hx)
    have ih := some_deltas n hm (by simp; omega)
    rcases one_delta h8 (by omega) with ⟨h1, h2, h3⟩ | ⟨h1, h2 | ⟨h2, h3⟩⟩
    · rw [pDs, rDs, if_pos h1, h2, h3]
      dsimp only
      rcases ih with ⟨l, ys, e1, e2⟩ | ⟨e1, e2 | ⟨l, st, e2, d, hd, hn⟩⟩
      · exact .inl ⟨(rD (some xs)).1 :: l, ys, by rw [e1], by rw [e2]; rfl⟩
      · exact .inr ⟨e1, .inl (by rw [e2]; rfl)⟩
      · exact .inr ⟨e1, .inr ⟨_, _, by rw [e2]; rfl, d, List.mem_cons_of_mem _ hd, hn⟩⟩
    · rw [pDs, rDs, if_neg h2, h1]
      exact .inr ⟨pDs_none n, .inl rfl⟩
    · rw [pDs, rDs, h1, h2]
      refine .inr ⟨pDs_none n, ?_⟩
      split
      · cases hx : rDs n (some (xs.drop 16)) with
        | none => exact .inl rfl
        | some p => exact .inr ⟨_, _, rfl, _, List.mem_cons_self, h3⟩
      · exact .inl rfl

theorem hd_some {xs : List Int} (hl : 22 ≤ xs.length) : (hd (some xs)).2 = none ∨ ((hd (some xs)).2 = some (xs.drop 22) ∧ 0 ≤ (hd (some xs)).1.n ∧ (hd (some xs)).1.n ≤ 6) := by
  have g1 := gi_some (n := 1) (a := 0) (b := 1) (xs := xs) (by omega)
  have g2 := gi_some (n := 1) (a := 0) (b := 6) (xs := xs.drop 1) (by simp; omega)
  have g3 := gi_some (n := 4) (a := 1) (b := 2147483648) (xs := xs.drop 2) (by simp; omega)
  have g4 := gi_some (n := 8) (a := 0) (b := 1099511627776) (xs := xs.drop 6) (by simp; omega)
  have g5 := gi_some (n := 8) (a := 0) (b := 1099511627776) (xs := xs.drop 14) (by simp; omega)
  simp only [List.drop_drop, Nat.reduceAdd] at g1 g2 g3 g4 g5
  split at g1
  · split at g2
    · rename_i k2
      split at g3
      · split at g4
        · split at g5
          · refine .inr ?_
            simp only [hd, g1, g2, g3, g4, g5]
            exact ⟨trivial, k2⟩
          · refine .inl ?_
            simp only [hd, g1, g2, g3, g4, g5]
        · refine .inl ?_
          simp only [hd, g1, g2, g3, g4, gi_none]
      · refine .inl ?_
        simp only [hd, g1, g2, g3, gi_none]
    · refine .inl ?_
      simp only [hd, g1, g2, gi_none]
  · refine .inl ?_
    simp only [hd, g1, gi_none]

/-- The program and the document say the same of any 124 bytes. -/
theorem dP_dR {xs : List Int} (h8 : ∀ x ∈ xs, 0 ≤ x ∧ x ≤ 255) (hl : xs.length = 124) : dP xs = dR xs := by
  unfold dP dR
  by_cases hm : marked xs
  · rw [if_pos hm, if_pos hm]
    dsimp only [tk]
    rcases hd_some (xs := xs.drop 2) (by simp; omega) with h0 | ⟨h0, h1, h2⟩
    · rw [h0, pDs_none]
      obtain ⟨l, e⟩ := rDs_none (hd (some (xs.drop 2))).1.n.toNat
      rw [e]
      simp [dn, dy]
    · rw [h0]
      rcases some_deltas (hd (some (xs.drop 2))).1.n.toNat (xs := (xs.drop 2).drop 22) (fun x hx => h8 x (List.mem_of_mem_drop (List.mem_of_mem_drop hx))) (by simp; omega) with ⟨l, ys, e1, e2⟩ | ⟨e1, e2 | ⟨l, st, e2, d, hd, hn⟩⟩
      · rw [e1, e2]
        dsimp only
        have hz := dn_zero (some ys)
        simp only [hz]
      · rw [e1, e2]
        simp [dn]
      · rw [e1, e2]
        dsimp only
        rw [if_neg (by simp [dn]), if_neg (fun h => hn (h.2.2.2 d hd))]
  · rw [if_neg hm, if_neg hm]
end Go.Proofs.YtpiplcakefcaaaaDoor.RcM
