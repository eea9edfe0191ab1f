/- Plain facts on a band's content and label: which labels may be, the bytes of one, what any bytes are as one; contents with pieces. Nothing here walks a program. -/
import Derived.Test.YtpiplcakefcaaaaDoorRdA
import Derived.Test.YtpiplcakefcaaaaDoorRcM
import Derived.Test.YtpiplcakefcaaaaDoorCrcG
import Derived.Test.YtpiplcakefcaaaaDoorGeM
namespace Go.Proofs.YtpiplcakefcaaaaDoor.BdM
open Go.RowKit MSep LeX LeW LeR RdA CrcA CrcM CrcE MGeM

/-- A label: the band, the last batch, the sum. -/
structure Lb where
  b : Int
  u : Int
  s : Int
def lz : Lb := ⟨0, 0, 0⟩
def mayLb (g : Ge) (t : Lb) : Prop := mayG g ∧ (0 ≤ t.b ∧ t.b < (lay g).b) ∧ (0 ≤ t.u ∧ t.u ≤ 1099511627776) ∧ 0 ≤ t.s ∧ t.s ≤ 4294967295
instance (g : Ge) (t : Lb) : Decidable (mayLb g t) := by unfold mayLb; exact inferInstance
/-- Its bytes, ahead of the sum and of what fills up. -/
def eLb (t : Lb) : List Int := [76, 66] ++ low 4 t.b ++ low 8 t.u ++ low 4 t.s
theorem eLb_len (t : Lb) : (eLb t).length = 18 := by simp [eLb, low_len]
theorem eLb_u8 (t : Lb) : ∀ x ∈ eLb t, 0 ≤ x ∧ x ≤ 255 := by
  intro x hx
  unfold eLb at hx
  simp only [List.mem_append] at hx
  rcases hx with ((hx | hx) | hx) | hx
  · simp at hx; omega
  · exact RcM.low_u8 _ _ x hx
  · exact RcM.low_u8 _ _ x hx
  · exact RcM.low_u8 _ _ x hx
theorem pad_rest (zs : List Int) (h : zs.length ≤ 124) : seal_ (padded 124 zs) = seal_ zs := by
  have : rest (padded 124 zs) = rest zs := by
    unfold rest padded
    rw [List.length_append, List.length_replicate]
    rw [show 124 - (zs.length + (124 - zs.length)) = 0 by omega]
    simp
  unfold seal_
  rw [this]
theorem pad_u8 (zs : List Int) (h : ∀ x ∈ zs, 0 ≤ x ∧ x ≤ 255) : ∀ x ∈ padded 124 zs, 0 ≤ x ∧ x ≤ 255 := by
  intro x hx
  unfold padded at hx
  rcases List.mem_append.1 hx with hx | hx
  · exact h x hx
  · rw [List.eq_of_mem_replicate hx]; decide

def by8 (st : Option (List Int)) : Prop := ∀ ys, st = some ys → ∀ x ∈ ys, 0 ≤ x ∧ x ≤ 255
theorem gt_by8 {n : Nat} {st : Option (List Int)} (h : by8 st) : by8 (gt n st).2 := by
  intro ys hy
  cases st with
  | none => cases hy
  | some xs =>
    by_cases hl : xs.length < n
    · rw [gt, if_pos hl] at hy; cases hy
    · rw [gt, if_neg hl] at hy
      cases hy
      exact fun x hx => h _ rfl x (List.mem_of_mem_drop hx)
theorem gi_by8 {n : Nat} {a b : Int} {st : Option (List Int)} (h : by8 st) : by8 (gi n a b st).2 := by
  intro ys hy
  cases st with
  | none => cases hy
  | some xs =>
    by_cases hl : xs.length < n
    · rw [gi, if_pos hl] at hy; cases hy
    · rw [gi, if_neg hl] at hy
      split at hy
      · cases hy
        exact fun x hx => h _ rfl x (List.mem_of_mem_drop hx)
      · cases hy
theorem gt_in {n : Nat} {st : Option (List Int)} (h : by8 st) : 0 ≤ (gt n st).1 ∧ (gt n st).1 < 256 ^ n := by
  have hp : (0 : Int) < 256 ^ n := Int.pow_pos (by decide)
  cases st with
  | none => exact ⟨Int.le_refl 0, hp⟩
  | some xs =>
    by_cases hl : xs.length < n
    · rw [gt, if_pos hl]; exact ⟨Int.le_refl 0, hp⟩
    · rw [gt, if_neg hl]; exact RcM.num_take (h _ rfl) n (by omega)
def secOk (zs : List Int) : Bool := zs.length == 128 && ld zs 4 == onN 0 (zs.drop 4)
/-- What is got behind the mark, by the program: the label, and what is left. -/
def gP (st : Option (List Int)) : Lb × Option (List Int) := (⟨(gt 4 st).1, wrap64 (gt 8 (gt 4 st).2).1, (gt 4 (gt 8 (gt 4 st).2).2).1⟩, (gt 4 (gt 8 (gt 4 st).2).2).2)
def lP1 (st : Option (List Int)) : Option Lb := if dn (gP st).2 = 0 then some (gP st).1 else none
def lP2 (xs : List Int) : Option Lb := if xs.take 2 = [76, 66] then lP1 (some (xs.drop 2)) else none
/-- What any bytes are as a sector of a label, whatever label it is. -/
def lP (zs : List Int) : Option Lb := if secOk zs then lP2 (zs.drop 4) else none
/-- The label of a sector, by the program. -/
def lbP (g : Ge) (zs : List Int) : Option Lb := match lP zs with
  | none => none
  | some t => if mayLb g t then some t else none
/-- The same, by the document. -/
def gD (st : Option (List Int)) : Lb × Option (List Int) := (⟨(gt 4 st).1, (gi 8 0 1099511627776 (gt 4 st).2).1, (gt 4 (gi 8 0 1099511627776 (gt 4 st).2).2).1⟩, (gt 4 (gi 8 0 1099511627776 (gt 4 st).2).2).2)
def lD1 (g : Ge) (st : Option (List Int)) : Option Lb := if dy (gD st).2 = true ∧ mayLb g (gD st).1 then some (gD st).1 else none
def lD2 (g : Ge) (xs : List Int) : Option Lb := if xs.take 2 = [76, 66] then lD1 g (some (xs.drop 2)) else none
def lbD (g : Ge) (zs : List Int) : Option Lb := if secOk zs then lD2 g (zs.drop 4) else none
theorem dn_dy (st : Option (List Int)) : dn st = 0 ↔ dy st = true := by
  cases st with
  | none => simp [dn, dy]
  | some xs => simp [dn, dy, endOf]
theorem gi_cases (n : Nat) (a b : Int) (st : Option (List Int)) : ((gt n st).2 ≠ none ∧ a ≤ wrap64 (gt n st).1 ∧ wrap64 (gt n st).1 ≤ b ∧ gi n a b st = (wrap64 (gt n st).1, (gt n st).2)) ∨ ((gt n st).2 = none ∨ ¬ (a ≤ wrap64 (gt n st).1 ∧ wrap64 (gt n st).1 ≤ b)) ∧ (gi n a b st).2 = none := by
  cases st with
  | none => exact Or.inr ⟨Or.inl rfl, rfl⟩
  | some xs =>
    by_cases hl : xs.length < n
    · rw [gi, gt, if_pos hl, if_pos hl]
      exact Or.inr ⟨Or.inl rfl, rfl⟩
    · by_cases hc : a ≤ wrap64 (num (xs.take n)) ∧ wrap64 (num (xs.take n)) ≤ b
      · rw [gi, gt, if_neg hl, if_neg hl, if_pos hc]
        exact Or.inl ⟨by simp, hc.1, hc.2, rfl⟩
      · rw [gi, gt, if_neg hl, if_neg hl, if_neg hc]
        exact Or.inr ⟨Or.inr hc, rfl⟩
theorem lD1_eq (g : Ge) (st : Option (List Int)) : lD1 g st = (match lP1 st with | none => none | some t => if mayLb g t then some t else none) := by
  unfold lD1 lP1 gD gP
  dsimp only
  rcases gi_cases 8 0 1099511627776 (gt 4 st).2 with ⟨_, h1, h2, h3⟩ | ⟨h1, h2⟩
  · rw [h3]
    by_cases hd : dy (gt 4 (gt 8 (gt 4 st).2).2).2 = true
    · rw [if_pos ((dn_dy _).2 hd)]
      dsimp only
      by_cases hm : mayLb g ⟨(gt 4 st).1, wrap64 (gt 8 (gt 4 st).2).1, (gt 4 (gt 8 (gt 4 st).2).2).1⟩
      · rw [if_pos ⟨hd, hm⟩, if_pos hm]
      · rw [if_neg (fun h => hm h.2), if_neg hm]
    · rw [if_neg (fun h => hd ((dn_dy _).1 h)), if_neg (fun h => hd h.1)]
  · rw [h2]
    rw [if_neg (fun h => by have := h.1; simp [gt, dy] at this)]
    by_cases hd : dn (gt 4 (gt 8 (gt 4 st).2).2).2 = 0
    · rw [if_pos hd]
      dsimp only
      rw [if_neg]
      intro hm
      rcases h1 with h1 | h1
      · rw [h1] at hd
        simp [gt, dn] at hd
      · exact h1 hm.2.2.1
    · rw [if_neg hd]
theorem lbD_eq (g : Ge) (zs : List Int) : lbD g zs = lbP g zs := by
  unfold lbD lbP lP
  by_cases h1 : secOk zs = true
  · rw [if_pos h1, if_pos h1]
    unfold lD2 lP2
    by_cases h2 : (zs.drop 4).take 2 = [76, 66]
    · rw [if_pos h2, if_pos h2, lD1_eq]
    · rw [if_neg h2, if_neg h2]
  · rw [if_neg h1, if_neg h1]

theorem take_low (n : Nat) (v : Int) (ys : List Int) : (low n v ++ ys).take n = low n v := by
  have := low_len n v
  rw [List.take_append_of_le_length (by omega), List.take_of_length_le (by omega)]
theorem drop_low (n : Nat) (v : Int) (ys : List Int) : (low n v ++ ys).drop n = ys := by
  have := low_len n v
  rw [List.drop_append_of_le_length (by omega), List.drop_of_length_le (by omega)]
  simp
theorem gt_low {n : Nat} {v : Int} {ys : List Int} (h0 : 0 ≤ v) (h1 : v < 256 ^ n) : gt n (some (low n v ++ ys)) = (v, some ys) := by
  have hn : num (low n v) = v := by rw [RcM.num_low]; exact Int.emod_eq_of_lt h0 h1
  rw [gt, if_neg (by rw [List.length_append, low_len]; omega), take_low, drop_low, hn]
theorem q4 : (256 : Int) ^ 4 = 4294967296 := by decide
theorem q8 : (256 : Int) ^ 8 = 18446744073709551616 := by decide
/-- What was encoded is decoded. -/
theorem lbP_seal {g : Ge} {t : Lb} (h : mayLb g t) (hb : t.b ≤ 4294967295) : lbP g (seal_ (eLb t)) = some t := by
  have hl : (eLb t).length ≤ 124 := by rw [eLb_len]; omega
  have hs : secOk (seal_ (eLb t)) = true := by
    unfold secOk
    rw [seal_len hl, CrcG.ld_seal, CrcG.seal_drop]
    simp
  have hm : (rest (eLb t)).take 2 = [76, 66] := by
    unfold rest eLb
    rfl
  have hd : (rest (eLb t)).drop 2 = low 4 t.b ++ (low 8 t.u ++ (low 4 t.s ++ List.replicate (124 - (eLb t).length) 0)) := by
    unfold rest
    generalize List.replicate (124 - (eLb t).length) (0 : Int) = Q
    simp [eLb, List.append_assoc]
  obtain ⟨_, ⟨b0, _⟩, ⟨u0, u1⟩, s0, s1⟩ := id h
  have e : lP (seal_ (eLb t)) = some t := by
    rw [lP, if_pos hs, CrcG.seal_drop, lP2, if_pos hm, hd, lP1]
    unfold gP
    rw [gt_low b0 (by rw [q4]; omega)]
    dsimp only
    rw [gt_low u0 (by rw [q8]; omega)]
    dsimp only
    rw [gt_low s0 (by rw [q4]; omega)]
    dsimp only
    rw [if_pos]
    · rw [RcM.w64 t.u (by omega)]
    · rw [dn_dy]
      simp [dy, allZero]
  rw [lbP, e]
  exact if_pos h
theorem mayLb_b {g : Ge} {t : Lb} (h : mayLb g t) : t.b ≤ 4294967295 := by
  have := (good h.1.1).b2
  have := h.2.1.2
  omega

/-- A piece: where, how many, a hole or not, its bytes and where they stand. -/
structure Pc where
  a : Int
  n : Int
  h : Bool
  A : Option Addr
  l : Nat
  c : Nat
  z : List Int
/-- How many sectors a piece has; 0 of one that may not be. -/
def sc (p : Pc) : Int := if p.h = true ∧ p.l = 0 then p.n else if p.h = true ∨ p.n ≠ 0 ∨ p.l % 128 ≠ 0 then 0 else (p.l / 128 : Nat)
/-- Sectors from at on, n of them, are within a band of d. -/
def wi (d a n : Int) : Prop := 0 ≤ a ∧ 1 ≤ n ∧ n ≤ d ∧ a ≤ d - n
instance (d a n : Int) : Decidable (wi d a n) := by unfold wi; exact inferInstance
def inn (d : Int) (p : Pc) : Prop := wi d p.a (sc p)
instance (d : Int) (p : Pc) : Decidable (inn d p) := by unfold inn; exact inferInstance
/-- The bytes of a piece that is within. -/
def pb (p : Pc) : List Int := if p.h = true then List.replicate (128 * p.n.toNat) 0 else p.z
def put (c : List Int) (p : Pc) : List Int := c.take (128 * p.a.toNat) ++ pb p ++ c.drop (128 * p.a.toNat + (pb p).length)
def puts (c : List Int) (l : List Pc) : List Int := l.foldl put c
def okP (d : Int) (l : List Pc) : Prop := ∀ p ∈ l, inn d p
instance (d : Int) (l : List Pc) : Decidable (okP d l) := by unfold okP; exact inferInstance
theorem pb_len {d : Int} {p : Pc} (h : inn d p) (hz : p.z.length = p.l) : ((pb p).length : Int) = 128 * sc p ∧ (pb p).length = 128 * (sc p).toNat := by
  have h1 := h.2.1
  unfold pb
  by_cases hh : p.h = true
  · have e : p.l = 0 := by
      apply Classical.byContradiction
      intro h0
      unfold sc at h1
      rw [if_neg (fun q => h0 q.2), if_pos (Or.inl hh)] at h1
      omega
    have es : sc p = p.n := by unfold sc; rw [if_pos ⟨hh, e⟩]
    rw [if_pos hh, List.length_replicate, es]
    omega
  · have e : ¬ (p.h = true ∨ p.n ≠ 0 ∨ p.l % 128 ≠ 0) := by
      intro q
      unfold sc at h1
      rw [if_neg (fun q => hh q.1), if_pos q] at h1
      omega
    have e3 : p.l % 128 = 0 := by
      apply Classical.byContradiction
      intro h0
      exact e (Or.inr (Or.inr h0))
    have es : sc p = (p.l / 128 : Nat) := by unfold sc; rw [if_neg (fun q => hh q.1), if_neg e]
    rw [if_neg hh, hz, es]
    omega
theorem put_len {d : Int} {p : Pc} {c : List Int} (h : inn d p) (hz : p.z.length = p.l) (hc : (c.length : Int) = 128 * d) : (put c p).length = c.length := by
  have h1 := pb_len h hz
  obtain ⟨a0, _, _, a3⟩ := h
  unfold put
  rw [List.length_append, List.length_append, List.length_take, List.length_drop]
  omega
theorem puts_len {d : Int} {c : List Int} (hc : (c.length : Int) = 128 * d) : ∀ (l : List Pc), okP d l → (∀ p ∈ l, p.z.length = p.l) → (puts c l).length = c.length := by
  intro l
  induction l generalizing c with
  | nil => intro _ _; rfl
  | cons p l ih =>
    intro h hz
    have e := put_len (h p (by simp)) (hz p (by simp)) hc
    show (puts (put c p) l).length = c.length
    rw [ih (by omega) (fun q hq => h q (by simp [hq])) (fun q hq => hz q (by simp [hq])), e]
theorem puts_snoc {c : List Int} {l : List Pc} {k : Nat} {p : Pc} (h : l[k]? = some p) : puts c (l.take (k + 1)) = put (puts c (l.take k)) p := by
  unfold puts
  rw [List.take_add_one, h, List.foldl_append]
  rfl
theorem okP_snoc {d : Int} {l : List Pc} {k : Nat} {p : Pc} (h : l[k]? = some p) (h1 : okP d (l.take k)) (h2 : inn d p) : okP d (l.take (k + 1)) := by
  intro q hq
  rw [List.take_add_one, h] at hq
  rcases List.mem_append.1 hq with hq | hq
  · exact h1 q hq
  · simp at hq
    subst hq
    exact h2
theorem u8_put {c : List Int} {p : Pc} (hc : ∀ x ∈ c, 0 ≤ x ∧ x ≤ 255) (hz : ∀ x ∈ p.z, 0 ≤ x ∧ x ≤ 255) : ∀ x ∈ put c p, 0 ≤ x ∧ x ≤ 255 := by
  intro x hx
  unfold put pb at hx
  rcases List.mem_append.1 hx with hx | hx
  · rcases List.mem_append.1 hx with hx | hx
    · exact hc x (List.mem_of_mem_take hx)
    · split at hx
      · rw [List.eq_of_mem_replicate hx]; decide
      · exact hz x hx
  · exact hc x (List.mem_of_mem_drop hx)
theorem u8_puts {l : List Pc} : ∀ {c : List Int}, (∀ x ∈ c, 0 ≤ x ∧ x ≤ 255) → (∀ p ∈ l, ∀ x ∈ p.z, 0 ≤ x ∧ x ≤ 255) → ∀ x ∈ puts c l, 0 ≤ x ∧ x ≤ 255 := by
  induction l with
  | nil => intro c hc _; exact hc
  | cons p l ih =>
    intro c hc hz
    exact ih (u8_put hc (hz p (by simp))) (fun q hq => hz q (by simp [hq]))
/-- A content with pieces: nothing where it is none, or one of them is not within. -/
def wth (d : Int) (c : List Int) (l : List Pc) : Option (List Int) := if (c.length : Int) = 128 * d ∧ okP d l then some (puts c l) else none
end Go.Proofs.YtpiplcakefcaaaaDoor.BdM
