/- Plain facts on batches: which spans may be a batch's, how many sectors they have. Nothing here speaks of a program's functions. -/
import Derived.Test.YtkkbgbpmpcoffaaDoorGeM
import Derived.Test.YtkkbgbpmpcoffaaDoorSpM
namespace Go.Proofs.YtkkbgbpmpcoffaaDoor.BtM
open MSpM MGeM

/-- Span s may stand behind the spans ahead of it. -/
def okS (g : Ge) (pre : List Sp) (s : Sp) : Prop := cko g s.1 s.2 = 0 ∧ s.2 ≤ 4096 ∧ ∀ t ∈ pre, ¬ 0 < (meet s t).2
def uptoS (g : Ge) (l : List Sp) (k : Nat) : Prop := ∀ i s, i < k → l[i]? = some s → okS g (l.take i) s
def spsOk (g : Ge) (l : List Sp) : Prop := 1 ≤ l.length ∧ l.length ≤ 8 ∧ uptoS g l l.length
theorem uptoS_zero (g : Ge) (l : List Sp) : uptoS g l 0 := fun _ _ h => by omega
theorem uptoS_succ {g : Ge} {l : List Sp} {k : Nat} {s : Sp} (h : l[k]? = some s) : uptoS g l (k + 1) ↔ uptoS g l k ∧ okS g (l.take k) s := by
  constructor
  · intro h1
    exact ⟨fun i t hi ht => h1 i t (by omega) ht, h1 k s (by omega) h⟩
  · rintro ⟨h1, h2⟩ i t hi ht
    by_cases e : i = k
    · subst e
      rw [h] at ht
      cases ht
      exact h2
    · exact h1 i t (by omega) ht
theorem uptoS_mono {g : Ge} {l : List Sp} {k m : Nat} (h : uptoS g l m) (hk : k ≤ m) : uptoS g l k := fun i s hi hs => h i s (by omega) hs
theorem okS_may {g : Ge} {pre : List Sp} {s : Sp} (h : okS g pre s) : mayG g ∧ may s ∧ 1 ≤ s.2 ∧ s.1 + s.2 ≤ (lay g).t ∧ s.2 ≤ 4096 := by
  obtain ⟨h1, h2, _⟩ := h
  unfold cko at h1
  by_cases hg : mayG g
  · rw [if_pos hg] at h1
    by_cases hc : (0 ≤ s.1 ∧ 0 ≤ s.2 ∧ s.1 + s.2 ≤ 1099511627776) ∧ s.2 ≠ 0 ∧ s.1 + s.2 ≤ (lay g).t
    · exact ⟨hg, hc.1, by omega, hc.2.2, h2⟩
    · rw [if_neg hc] at h1
      omega
  · rw [if_neg hg] at h1
    omega
theorem uptoS_may {g : Ge} {l : List Sp} {k : Nat} (h : uptoS g l k) : ∀ s ∈ l.take k, mayG g ∧ may s ∧ 1 ≤ s.2 ∧ s.1 + s.2 ≤ (lay g).t ∧ s.2 ≤ 4096 := by
  intro s hs
  obtain ⟨i, hi⟩ := List.mem_iff_getElem?.1 hs
  rw [List.getElem?_take] at hi
  split at hi
  case isTrue hk => exact okS_may (h i s hk hi)
  case isFalse => cases hi
theorem spsOk_may {g : Ge} {l : List Sp} (h : spsOk g l) : ∀ s ∈ l, mayG g ∧ may s ∧ 1 ≤ s.2 ∧ s.1 + s.2 ≤ (lay g).t ∧ s.2 ≤ 4096 := by
  intro s hs
  refine uptoS_may h.2.2 s ?_
  rw [List.take_length]
  exact hs

/-- How many sectors spans have; the same, as the program counts. -/
def tn (l : List Sp) : Int := l.foldl (fun n s => n + s.2) 0
def cap (n x : Int) : Int := n + min (max x 0) (1048576 - n)
def dn (l : List Sp) : Int := l.foldl (fun n s => cap n s.2) 0
theorem tn_snoc {l : List Sp} {k : Nat} {s : Sp} (h : l[k]? = some s) : tn (l.take (k + 1)) = tn (l.take k) + s.2 := by
  unfold tn
  rw [List.take_add_one, h, List.foldl_append]
  rfl
theorem dn_snoc {l : List Sp} {k : Nat} {s : Sp} (h : l[k]? = some s) : dn (l.take (k + 1)) = cap (dn (l.take k)) s.2 := by
  unfold dn
  rw [List.take_add_one, h, List.foldl_append]
  rfl
theorem cap_in {n x : Int} (h : 0 ≤ n ∧ n ≤ 1048576) : 0 ≤ cap n x ∧ cap n x ≤ 1048576 := by
  unfold cap
  omega
theorem dn_in (l : List Sp) : 0 ≤ dn l ∧ dn l ≤ 1048576 := by
  unfold dn
  suffices h : ∀ (l : List Sp) (n : Int), 0 ≤ n ∧ n ≤ 1048576 → 0 ≤ l.foldl (fun n s => cap n s.2) n ∧ l.foldl (fun n s => cap n s.2) n ≤ 1048576 from h l 0 (by omega)
  intro l
  induction l with
  | nil => exact fun _ h => h
  | cons s l ih => exact fun n h => ih _ (cap_in h)
theorem fold_in (l : List Sp) : ∀ n : Int, (∀ s ∈ l, 0 ≤ s.2) → n ≤ l.foldl (fun n s => n + s.2) n := by
  induction l with
  | nil => exact fun n _ => Int.le_refl n
  | cons s l ih =>
    intro n h
    have h1 := ih (n + s.2) (fun t ht => h t (by simp [ht]))
    have h2 := h s (by simp)
    show n ≤ l.foldl (fun n s => n + s.2) (n + s.2)
    omega
theorem dn_tn {l : List Sp} (h : ∀ s ∈ l, 0 ≤ s.2) (ht : tn l ≤ 1048576) : dn l = tn l := by
  unfold dn tn at *
  suffices hh : ∀ (l : List Sp) (n : Int), (∀ s ∈ l, 0 ≤ s.2) → l.foldl (fun n s => n + s.2) n ≤ 1048576 → l.foldl (fun n s => cap n s.2) n = l.foldl (fun n s => n + s.2) n from hh l 0 h ht
  intro l
  induction l with
  | nil => exact fun _ _ _ => rfl
  | cons s l ih =>
    intro n h1 h2
    have h3 := h1 s (by simp)
    have h4 := fold_in l (n + s.2) (fun t ht => h1 t (by simp [ht]))
    have h5 : l.foldl (fun n s => n + s.2) (n + s.2) ≤ 1048576 := h2
    have h6 : cap n s.2 = n + s.2 := by unfold cap; omega
    show l.foldl (fun n s => cap n s.2) (cap n s.2) = l.foldl (fun n s => n + s.2) (n + s.2)
    rw [h6]
    exact ih (n + s.2) (fun t ht => h1 t (by simp [ht])) h5
theorem fold_le (l : List Sp) : ∀ n : Int, (∀ s ∈ l, s.2 ≤ 4096) → l.foldl (fun n s => n + s.2) n ≤ n + 4096 * l.length := by
  induction l with
  | nil => intro n _; simp
  | cons s l ih =>
    intro n h
    have h1 := ih (n + s.2) (fun t ht => h t (by simp [ht]))
    have h2 := h s (by simp)
    show l.foldl (fun n s => n + s.2) (n + s.2) ≤ _
    rw [List.length_cons]
    push_cast
    omega
theorem tn_in {l : List Sp} (h : ∀ s ∈ l, 0 ≤ s.2 ∧ s.2 ≤ 4096) : 0 ≤ tn l ∧ tn l ≤ 4096 * l.length := by
  have h1 := fold_in l 0 (fun s hs => (h s hs).1)
  have h2 := fold_le l 0 (fun s hs => (h s hs).2)
  unfold tn
  omega

structure Ba where
  q : Int
  k : Int
  l : List Sp
deriving DecidableEq
/-- How many sectors of data a batch has. -/
def dsec (k : Int) (l : List Sp) : Int := if k = 1 then dn l else 0
def size_ (k : Int) (l : List Sp) : Int := if k = 1 then tn l else 0
/-- The batch may be. -/
def mayB (g : Ge) (b : Ba) : Prop := mayG g ∧ (1 ≤ b.q ∧ b.q ≤ 1099511627776) ∧ spsOk g b.l ∧ ((b.k = 1 ∧ tn b.l ≤ (lay g).u) ∨ b.k = 2)
theorem spsOk_tn {g : Ge} {l : List Sp} (h : spsOk g l) : 1 ≤ tn l ∧ tn l ≤ 32768 ∧ dn l = tn l := by
  have hm := spsOk_may h
  have h1 := tn_in (l := l) (fun s hs => by have := hm s hs; omega)
  have h8 := h.2.1
  have h0 := h.1
  have h2 : 1 ≤ tn l := by
    cases l with
    | nil => simp at h0
    | cons s l =>
      have h3 := fold_in l (0 + s.2) (fun t ht => by have := hm t (by simp [ht]); omega)
      have h4 := hm s (by simp)
      show 1 ≤ l.foldl (fun n s => n + s.2) (0 + s.2)
      omega
  exact ⟨h2, by omega, dn_tn (fun s hs => by have := hm s hs; omega) (by omega)⟩
theorem mayB_tn {g : Ge} {b : Ba} (h : mayB g b) : 1 ≤ tn b.l ∧ tn b.l ≤ 32768 ∧ dn b.l = tn b.l := spsOk_tn h.2.2.1
theorem mayB_dsec {g : Ge} {b : Ba} (h : mayB g b) : dsec b.k b.l = size_ b.k b.l := by
  unfold dsec size_
  rw [(mayB_tn h).2.2]
end Go.Proofs.YtkkbgbpmpcoffaaDoor.BtM
