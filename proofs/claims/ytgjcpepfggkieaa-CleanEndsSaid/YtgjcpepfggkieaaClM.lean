/- The cleaner's jobs as plain data: which may be, what they want, what becomes of them, how much is left. Nothing here speaks of a program. -/
import Derived.Test.YtgjcpepfggkieaaGeM
namespace Go.Proofs.Ytgjcpepfggkieaa.ClM
open MGeM

/-- A job: state, zone, bands, spare zone, next sector. -/
structure Jb where
  st : Int
  z : Int
  bs : List Int
  sp : Int
  nx : Int
  deriving DecidableEq
/-- What was done: kind, zone, band, bands. -/
structure Dd where
  k : Int
  z : Int
  b : Int
  bs : List Int
/-- The numbers rise, from lo on, and are below B. -/
def rises (B : Int) : Int → List Int → Bool
  | _, [] => true
  | lo, x :: xs => decide (lo ≤ x) && (decide (x < B) && rises B (x + 1) xs)
theorem rises_nil (B lo : Int) : rises B lo [] = true := rfl
/-- The least number that may come behind these. -/
def least : Int → List Int → Int
  | lo, [] => lo
  | _, x :: xs => least (x + 1) xs
theorem least_snoc (lo : Int) (l : List Int) (x : Int) : least lo (l ++ [x]) = x + 1 := by
  induction l generalizing lo with
  | nil => rfl
  | cons y l ih => exact ih _
theorem rises_app (B lo : Int) (l m : List Int) : rises B lo (l ++ m) = (rises B lo l && rises B (least lo l) m) := by
  induction l generalizing lo with
  | nil => simp [rises, least]
  | cons y l ih => simp only [List.cons_append, rises, least, ih, Bool.and_assoc]
theorem rises_snoc (B lo : Int) (l : List Int) (x : Int) : rises B lo (l ++ [x]) = (rises B lo l && (decide (least lo l ≤ x) && decide (x < B))) := by
  rw [rises_app]
  simp [rises]
theorem take_snoc {α : Type} {l : List α} {k : Nat} {x : α} (h : l[k]? = some x) : l.take (k + 1) = l.take k ++ [x] := by
  rw [List.take_add_one, h]; rfl
theorem rises_bad {B lo : Int} {l : List Int} {k : Nat} {x : Int} (h : l[k]? = some x) (hb : ¬ (least lo (l.take k) ≤ x ∧ x < B)) : rises B lo l = false := by
  rw [← List.take_append_drop (k + 1) l, rises_app, take_snoc h, rises_snoc]
  have : (decide (least lo (l.take k) ≤ x) && decide (x < B)) = false := by
    rw [← Bool.decide_and]; exact decide_eq_false hb
  rw [this]; simp
theorem rises_good {B lo : Int} {l : List Int} {k : Nat} {x : Int} (h : l[k]? = some x) (hr : rises B lo (l.take k) = true) (h1 : least lo (l.take k) ≤ x) (h2 : x < B) : rises B lo (l.take (k + 1)) = true := by
  rw [take_snoc h, rises_snoc, hr, decide_eq_true h1, decide_eq_true h2]; rfl
theorem rises_bound {B : Int} {l : List Int} : ∀ {lo : Int}, rises B lo l = true → ∀ x ∈ l, lo ≤ x ∧ x < B := by
  induction l with
  | nil => intro lo _ x hx; cases hx
  | cons y l ih =>
    intro lo h x hx
    simp only [rises, Bool.and_eq_true, decide_eq_true_eq] at h
    rcases List.mem_cons.1 hx with rfl | hx
    · exact ⟨h.1, h.2.1⟩
    · have := ih h.2.2 x hx
      exact ⟨by omega, this.2⟩
theorem rises_lo {B lo lo' : Int} {l : List Int} (h : rises B lo l = true) (hl : lo' ≤ lo) : rises B lo' l = true := by
  cases l with
  | nil => rfl
  | cons y l =>
    simp only [rises, Bool.and_eq_true, decide_eq_true_eq] at h ⊢
    exact ⟨by omega, h.2⟩
theorem rises_tail {B lo x : Int} {l : List Int} (h0 : 0 ≤ lo) (h : rises B lo (x :: l) = true) : rises B 0 l = true := by
  simp only [rises, Bool.and_eq_true, decide_eq_true_eq] at h
  exact rises_lo h.2.2 (by omega)
theorem rises_len {B : Int} {l : List Int} : ∀ {lo : Int}, rises B lo l = true → (l.length : Int) ≤ max (B - lo) 0 := by
  induction l with
  | nil => intro lo _; simp; omega
  | cons y l ih =>
    intro lo h
    simp only [rises, Bool.and_eq_true, decide_eq_true_eq] at h
    have := ih h.2.2
    simp only [List.length_cons]
    omega
/-- The document's test of bands, one behind the other. -/
def pairB (B : Int) (l : List Int) (i : Nat) : Bool :=
  match l[i]? with
  | some x => decide (0 ≤ x) && (decide (x < B) && (i == 0 || (match l[i - 1]? with | some y => decide (y < x) | none => true)))
  | none => true
theorem least_take {l : List Int} {k : Nat} {y : Int} (h : l[k]? = some y) (lo : Int) : least lo (l.take (k + 1)) = y + 1 := by
  rw [take_snoc h, least_snoc]

def idle : Jb := ⟨0, 255, [], 255, 0⟩
def zero : Jb := ⟨0, 0, [], 0, 0⟩
def sqB (g : Ge) (i : Int) : Bool := decide (sqo g i)
/-- The job has a band, and its zone may be. -/
def clB (g : Ge) (j : Jb) : Bool := !j.bs.isEmpty && (sqB g j.z || j.z == 255)
def hoB (g : Ge) (j : Jb) : Bool := sqB g j.sp && j.sp != j.z
/-- Whether the rest of a job may be by its state. -/
def stB (g : Ge) (j : Jb) : Bool :=
  if j.st = 0 then j.z == 255 && (j.sp == 255 && (j.nx == 0 && j.bs.isEmpty))
  else if j.st = 5 then sqB g j.z && (j.bs.isEmpty && (j.sp == 255 && j.nx == 0))
  else if j.st = 1 then clB g j && (j.sp == 255 && j.nx == 0)
  else if j.st = 3 then clB g j && (hoB g j && j.nx == 0)
  else if j.st = 2 then clB g j && (hoB g j && (decide (0 ≤ j.nx) && decide (j.nx < (lay g).d)))
  else if j.st = 4 then clB g j && (hoB g j && j.nx == (lay g).d)
  else false
def mayB (g : Ge) (j : Jb) : Bool := decide (mayG g) && (rises (lay g).b 0 j.bs && stB g j)
def chB (n : Int) : Bool := decide (1 ≤ n) && decide (n ≤ 4096)
abbrev T5 := Int × Int × Int × Int × Int
/-- What a job wants next, of a band of so many sectors. -/
def wantJ (d ch : Int) (j : Jb) : T5 :=
  if j.st = 1 then (2, j.bs.headD 0, 0, 0, 0)
  else if j.st = 3 then (4, j.bs.headD 0, j.sp, 0, 0)
  else if j.st = 2 then (3, j.bs.headD 0, j.sp, j.nx, min ch (d - j.nx))
  else if j.st = 4 then (5, j.bs.headD 0, j.sp, 0, 0)
  else if j.st = 5 then (6, 0, j.z, 0, 0)
  else (1, 0, 0, 0, 0)
def nextJ (z : Int) (bs : List Int) : Jb := if bs = [] then (if z = 255 then idle else ⟨5, z, [], 255, 0⟩) else ⟨1, z, bs, 255, 0⟩
def touchJ (j : Jb) (b : Int) : Jb := if (j.st = 2 ∨ j.st = 3 ∨ j.st = 4) ∧ b = j.bs.headD 0 then nextJ j.z j.bs else j
/-- What becomes of a job as something of that kind was done. -/
def turnJ (d ch : Int) (k : Int) (j : Jb) (v : Dd) : Jb :=
  if k = 1 then nextJ v.z v.bs
  else if k = 2 then ⟨3, j.z, j.bs, v.z, j.nx⟩
  else if k = 3 then ⟨if j.nx + (wantJ d ch j).2.2.2.2 = d then 4 else j.st, j.z, j.bs, j.sp, j.nx + (wantJ d ch j).2.2.2.2⟩
  else if k = 4 then ⟨2, j.z, j.bs, j.sp, j.nx⟩
  else if k = 5 then nextJ j.z j.bs.tail
  else idle
/-- The job and the number of the error behind something that was done, of a job that may be. -/
def aftJ (g : Ge) (ch : Int) (j : Jb) (v : Dd) : Jb × Int :=
  if v.k = 7 then (idle, 0)
  else if v.k = 8 then (if 0 ≤ v.b ∧ v.b < (lay g).b then (touchJ j v.b, 0) else (zero, 1))
  else if v.k = (wantJ (lay g).d ch j).1 then
    (if mayB g (turnJ (lay g).d ch v.k j v) then (turnJ (lay g).d ch v.k j v, 0) else (zero, 1))
  else (zero, 52)
/-- So many chunks hold so many sectors. -/
def cks (ch x : Int) : Int := (x + ch - 1) / ch
theorem cks_zero {ch : Int} (h : 1 ≤ ch) : cks ch 0 = 0 := by unfold cks; exact Int.ediv_eq_zero_of_lt (by omega) (by omega)
theorem cks_step {ch x : Int} (h : 1 ≤ ch) (hx : 1 ≤ x) : cks ch (x - min ch x) + 1 = cks ch x := by
  by_cases hc : x ≤ ch
  · rw [Int.min_eq_right hc, Int.sub_self, cks_zero h]
    unfold cks
    have e : x + ch - 1 = (x - 1) + ch := by omega
    rw [e, Int.add_ediv_of_dvd_right (Int.dvd_refl ch), Int.ediv_self (by omega), Int.ediv_eq_zero_of_lt (by omega) (by omega)]
  · rw [Int.min_eq_left (by omega)]
    unfold cks
    have e : x + ch - 1 = (x - ch + ch - 1) + ch := by omega
    rw [e, Int.add_ediv_of_dvd_right (Int.dvd_refl ch), Int.ediv_self (by omega)]
theorem cks_nonneg {ch x : Int} (h : 1 ≤ ch) (hx : 0 ≤ x) : 0 ≤ cks ch x := Int.ediv_nonneg (by omega) (by omega)
theorem cks_le {ch x : Int} (h : 1 ≤ ch) (hx : 0 ≤ x) : cks ch x ≤ x := by
  unfold cks
  have h1 : (x + ch - 1) / ch < x + 1 := Int.ediv_lt_of_lt_mul (by omega) (by
    have : x * 1 ≤ x * ch := Int.mul_le_mul_of_nonneg_left h hx
    rw [Int.add_mul]; omega)
  omega
/-- What a job that may be keeps to, as what it wants is done: which spare zone it has does not matter. -/
def okJ (d : Int) (j : Jb) : Prop :=
  (j.st = 0 ∨ j.st = 1 ∨ j.st = 2 ∨ j.st = 3 ∨ j.st = 4 ∨ j.st = 5) ∧ (j.st = 1 ∨ j.st = 2 ∨ j.st = 3 ∨ j.st = 4 → j.bs ≠ []) ∧ (j.st = 1 ∨ j.st = 3 → j.nx = 0) ∧ (j.st = 2 → 0 ≤ j.nx ∧ j.nx < d)
def fz (z : Int) : Int := if z = 255 then 0 else 1
/-- How many things are to be done still. -/
def leftJ (d ch : Int) (j : Jb) : Int :=
  if j.st = 0 then 0
  else if j.st = 5 then 1
  else if j.st = 1 then (j.bs.length : Int) * (3 + cks ch d) + fz j.z
  else if j.st = 3 then ((j.bs.length : Int) - 1) * (3 + cks ch d) + fz j.z + 2 + cks ch d
  else if j.st = 2 then ((j.bs.length : Int) - 1) * (3 + cks ch d) + fz j.z + 1 + cks ch (d - j.nx)
  else ((j.bs.length : Int) - 1) * (3 + cks ch d) + fz j.z + 1
/-- What was done is just what was wanted, of no zone and no bands. -/
def dn (k : Int) : Dd := ⟨k, 0, 0, []⟩
theorem mul1 (n x : Int) : n * x = (n - 1) * x + x := by rw [Int.sub_mul]; omega
theorem left_next (d ch z : Int) (bs : List Int) : leftJ d ch (nextJ z bs) = (bs.length : Int) * (3 + cks ch d) + fz z := by
  unfold nextJ fz
  by_cases hb : bs = []
  · subst hb
    by_cases hz : z = 255
    · simp [hz, leftJ, idle]
    · simp [hz, leftJ]
  · simp [hb, leftJ, fz]
theorem ok_next (d z : Int) (bs : List Int) : okJ d (nextJ z bs) := by
  unfold nextJ
  by_cases hb : bs = []
  · by_cases hz : z = 255
    · simp [hz, hb, okJ, idle]
    · simp [hz, hb, okJ]
  · simp [hb, okJ]
theorem left_turn {d ch : Int} {j : Jb} (sp : Int) (hc : 1 ≤ ch) (hd : 1 ≤ d) (h : okJ d j) (h0 : j.st ≠ 0) :
    okJ d (turnJ d ch (wantJ d ch j).1 j ⟨(wantJ d ch j).1, sp, 0, []⟩) ∧ leftJ d ch (turnJ d ch (wantJ d ch j).1 j ⟨(wantJ d ch j).1, sp, 0, []⟩) + 1 = leftJ d ch j := by
  obtain ⟨st, z, bs, s, nx⟩ := j
  obtain ⟨h1, h2, h3, h4⟩ := h
  dsimp only at h1 h2 h3 h4 h0
  rcases h1 with rfl | rfl | rfl | rfl | rfl | rfl
  · exact absurd rfl h0
  · have hb := h2 (by simp)
    obtain rfl := h3 (by simp)
    have m := mul1 bs.length (3 + cks ch d)
    simp [turnJ, wantJ, okJ, leftJ, hb]
    omega
  · have hb := h2 (by simp)
    obtain ⟨ha, hn⟩ := h4 rfl
    have hs := cks_step (ch := ch) (x := d - nx) hc (by omega)
    by_cases hl : nx + min ch (d - nx) = d
    · have e : min ch (d - nx) = d - nx := by omega
      rw [e, Int.sub_self, cks_zero hc] at hs
      simp [turnJ, wantJ, okJ, leftJ, hb, hl]
      omega
    · have e : d - (nx + min ch (d - nx)) = d - nx - min ch (d - nx) := by omega
      have g1 : 0 ≤ nx + min ch (d - nx) := by omega
      have g2 : nx + min ch (d - nx) < d := by omega
      simp only [turnJ, wantJ, okJ, leftJ]
      simp only [show ¬((2 : Int) = 1) by decide, show ¬((2 : Int) = 3) by decide, show ¬((3 : Int) = 1) by decide, show ¬((3 : Int) = 2) by decide, show ¬((2 : Int) = 0) by decide, show ¬((2 : Int) = 5) by decide, if_true, if_false, if_neg hl, e]
      refine ⟨⟨by simp, fun _ => hb, by simp, fun _ => ⟨g1, g2⟩⟩, by omega⟩
  · have hb := h2 (by simp)
    obtain rfl := h3 (by simp)
    simp [turnJ, wantJ, okJ, leftJ, hb]
    omega
  · have hb := h2 (by simp)
    obtain ⟨x, l, rfl⟩ := List.exists_cons_of_ne_nil hb
    have e : turnJ d ch (wantJ d ch ⟨4, z, x :: l, s, nx⟩).1 ⟨4, z, x :: l, s, nx⟩ ⟨(wantJ d ch ⟨4, z, x :: l, s, nx⟩).1, sp, 0, []⟩ = nextJ z l := by simp [turnJ, wantJ]
    rw [e, left_next]
    refine ⟨ok_next _ _ _, ?_⟩
    simp [leftJ]
  · simp [turnJ, wantJ, okJ, leftJ, idle]
theorem left_pos {d ch : Int} {j : Jb} (hc : 1 ≤ ch) (hd : 1 ≤ d) (h : okJ d j) : 0 ≤ leftJ d ch j ∧ (leftJ d ch j = 0 → j.st = 0) := by
  obtain ⟨st, z, bs, s, nx⟩ := j
  obtain ⟨h1, h2, h3, h4⟩ := h
  dsimp only at h1 h2 h3 h4
  have k0 := cks_nonneg (ch := ch) (x := d) hc (by omega)
  have f0 : 0 ≤ fz z := by unfold fz; split <;> omega
  have len : ∀ {l : List Int}, l ≠ [] → 1 ≤ (l.length : Int) := by
    intro l hl; have := List.length_pos_iff.2 hl; omega
  have pos : ∀ n : Int, 0 ≤ n → 0 ≤ n * (3 + cks ch d) := fun n hn => Int.mul_nonneg hn (by omega)
  rcases h1 with rfl | rfl | rfl | rfl | rfl | rfl
  · simp [leftJ]
  · have hb := len (h2 (by simp))
    have m := mul1 bs.length (3 + cks ch d)
    have p := pos ((bs.length : Int) - 1) (by omega)
    simp [leftJ]
    omega
  · have hb := len (h2 (by simp))
    have p := pos ((bs.length : Int) - 1) (by omega)
    have k1 := cks_nonneg (ch := ch) (x := d - nx) hc (by have := h4 rfl; omega)
    simp [leftJ]
    omega
  · have hb := len (h2 (by simp))
    have p := pos ((bs.length : Int) - 1) (by omega)
    simp [leftJ]
    omega
  · have hb := len (h2 (by simp))
    have p := pos ((bs.length : Int) - 1) (by omega)
    simp [leftJ]
    omega
  · simp [leftJ]
/-- A job that may be keeps to it. -/
theorem ok_of_may {g : Ge} {j : Jb} (h : mayB g j = true) : okJ (lay g).d j := by
  simp only [mayB, Bool.and_eq_true] at h
  have h := h.2.2
  obtain ⟨st, z, bs, s, nx⟩ := j
  unfold stB at h
  dsimp only at h
  have ne : ∀ {z s nx : Int} {st : Int}, clB g ⟨st, z, bs, s, nx⟩ = true → bs ≠ [] := by
    intro z s nx st hc hb
    subst hb
    simp [clB] at hc
  split at h
  · subst st; simp [okJ]
  split at h
  · subst st; simp [okJ]
  split at h
  · subst st
    simp only [Bool.and_eq_true, beq_iff_eq] at h
    have := ne h.1
    simp [okJ, this, h.2.2]
  split at h
  · subst st
    simp only [Bool.and_eq_true, beq_iff_eq] at h
    have := ne h.1
    simp [okJ, this, h.2.2]
  split at h
  · subst st
    simp only [Bool.and_eq_true, decide_eq_true_eq] at h
    have := ne h.1
    simp [okJ, this, h.2.2]
  split at h
  · subst st
    simp only [Bool.and_eq_true, beq_iff_eq] at h
    have := ne h.1
    simp [okJ, this]
  · cases h
end Go.Proofs.Ytgjcpepfggkieaa.ClM
