/- Plain facts on sets that part an interval: their lengths; what a set has of a span and its gaps there. Of no program. -/
import Derived.Test.YthldppgbopiaiaaSpN
import Derived.Test.YthldppgbopiaiaaSpJ
namespace Go.Proofs.Ythldppgbopiaiaa.MSpY
open MSpM MSpN SpJ

theorem tot_cons (s : Sp) (l : List Sp) : tot (s :: l) = s.2 + tot l := by simp [tot]
theorem in_first {s : Sp} {a : List Sp} {lo hi : Int} (ha : Ris (s :: a)) (h : ∀ x, In (s :: a) x → lo ≤ x ∧ x < hi) (hlo : In (s :: a) lo) : s.1 = lo := by
  obtain ⟨⟨_, h0⟩, hs, _⟩ := ris_cons.1 ha
  have h1 := (h s.1 ⟨s, by simp, Int.le_refl _, by omega⟩).1
  obtain ⟨t, ht, h2, h3⟩ := hlo
  rcases List.mem_cons.1 ht with rfl | ht
  · omega
  · have := hs t ht
    omega
theorem part_step {s : Sp} {a b : List Sp} {lo hi : Int} (ha : Ris (s :: a)) (hlo : s.1 = lo) (hi1 : ∀ x, In (s :: a) x ∨ In b x ↔ lo ≤ x ∧ x < hi) (hd : ∀ x, ¬ (In (s :: a) x ∧ In b x)) :
    lo + s.2 ≤ hi ∧ (∀ x, In a x ∨ In b x ↔ lo + s.2 ≤ x ∧ x < hi) ∧ ∀ x, ¬ (In a x ∧ In b x) := by
  obtain ⟨⟨_, h0⟩, hs, _⟩ := ris_cons.1 ha
  refine ⟨?_, fun x => ⟨fun h => ?_, fun h => ?_⟩, fun x h => hd x ⟨(in_cons s a x).2 (.inr h.1), h.2⟩⟩
  · have := ((hi1 (lo + s.2 - 1)).1 (.inl ⟨s, by simp, by omega, by omega⟩)).2
    omega
  · rcases h with h | h
    · have h1 := (hi1 x).1 (.inl ((in_cons s a x).2 (.inr h)))
      obtain ⟨t, ht, h2, h3⟩ := h
      have := hs t ht
      exact ⟨by omega, h1.2⟩
    · have h1 := (hi1 x).1 (.inr h)
      refine ⟨?_, h1.2⟩
      apply Classical.byContradiction
      intro hn
      exact hd x ⟨⟨s, by simp, by omega, by omega⟩, h⟩
  · rcases (hi1 x).2 ⟨by omega, h.2⟩ with h1 | h1
    · rcases (in_cons s a x).1 h1 with h2 | h2
      · omega
      · exact .inl h2
    · exact .inr h1
theorem no_first {s : Sp} {a : List Sp} {lo : Int} (ha : Ris (s :: a)) (h : ∀ x, In (s :: a) x → lo ≤ x ∧ x < lo) : False := by
  obtain ⟨⟨_, h0⟩, _, _⟩ := ris_cons.1 ha
  have := h s.1 ⟨s, by simp, Int.le_refl _, by omega⟩
  omega
theorem part_go : ∀ (n : Nat) (a b : List Sp) (lo hi : Int), a.length + b.length ≤ n → Ris a → Ris b → lo ≤ hi → (∀ x, In a x ∨ In b x ↔ lo ≤ x ∧ x < hi) → (∀ x, ¬ (In a x ∧ In b x)) → tot a + tot b = hi - lo
  | n, a, b, lo, hi, hn, ha, hb, hle, hi1, hd => by
    by_cases hlt : lo < hi
    · rcases (hi1 lo).2 ⟨Int.le_refl _, hlt⟩ with h | h
      · cases a with
        | nil => exact absurd h (in_nil _)
        | cons s a =>
          have e := in_first ha (fun x hx => (hi1 x).1 (.inl hx)) h
          obtain ⟨h1, h2, h3⟩ := part_step ha e hi1 hd
          cases n with
          | zero => simp at hn
          | succ n =>
            have := part_go n a b (lo + s.2) hi (by simp only [List.length_cons] at hn; omega) (ris_cons.1 ha).2.2 hb h1 h2 h3
            rw [tot_cons]
            omega
      · cases b with
        | nil => exact absurd h (in_nil _)
        | cons s b =>
          have e := in_first hb (fun x hx => (hi1 x).1 (.inr hx)) h
          obtain ⟨h1, h2, h3⟩ := part_step (b := a) hb e (fun x => (Or.comm).trans (hi1 x)) (fun x h => hd x ⟨h.2, h.1⟩)
          cases n with
          | zero => simp at hn
          | succ n =>
            have := part_go n a b (lo + s.2) hi (by simp only [List.length_cons] at hn; omega) ha (ris_cons.1 hb).2.2 h1 (fun x => (Or.comm).trans (h2 x)) (fun x h => h3 x ⟨h.2, h.1⟩)
            rw [tot_cons]
            omega
    · obtain rfl : lo = hi := by omega
      cases a with
      | cons s a => exact (no_first ha (fun x hx => (hi1 x).1 (.inl hx))).elim
      | nil =>
        cases b with
        | cons s b => exact (no_first hb (fun x hx => (hi1 x).1 (.inr hx))).elim
        | nil => simp [tot]

theorem rset_one {w : Sp} (hw : may w) : Ris (rset [w]) ∧ (∀ x, In (rset [w]) x ↔ (w.1 ≤ x ∧ x < w.1 + w.2)) ∧ (rset [w]).length ≤ 1 := by
  have h := rset_ok (l := [w]) (by simpa using hw)
  exact ⟨h.1, fun x => (h.2.1 x).trans (in_one w x), h.2.2⟩
/-- What a set has of a span, and its gaps there: the lengths, nothing in common, together the span. -/
theorem all_ok {xs : List Sp} {w : Sp} (hx : Ris xs) (hw : may w) :
    tot (rboth xs (rset [w])) + tot (pgaps xs w) = w.2 ∧ rboth (rboth xs (rset [w])) (pgaps xs w) = [] ∧ rset (rboth xs (rset [w]) ++ pgaps xs w) = rset [w] := by
  obtain ⟨s1, s2, _⟩ := rset_one hw
  obtain ⟨g1, g2⟩ := pgaps_ok hx hw
  have i1 := rboth_ris hx s1
  have i2 : ∀ x, In (rboth xs (rset [w])) x ↔ In xs x ∧ (w.1 ≤ x ∧ x < w.1 + w.2) := fun x => (rboth_in _ _ x).trans (and_congr Iff.rfl (s2 x))
  have hd : ∀ x, ¬ (In (rboth xs (rset [w])) x ∧ In (pgaps xs w) x) := fun x h => ((g2 x).1 h.2).2 ((i2 x).1 h.1).1
  have hu : ∀ x, In (rboth xs (rset [w])) x ∨ In (pgaps xs w) x ↔ w.1 ≤ x ∧ x < w.1 + w.2 := fun x => by
    rw [i2 x, g2 x]
    constructor
    · rintro (h | h)
      · exact h.2
      · exact h.1
    · intro h
      by_cases hi : In xs x
      · exact .inl ⟨hi, h⟩
      · exact .inr ⟨h, hi⟩
  refine ⟨?_, empty_of (rboth_ris i1 g1) (fun x h => hd x ((rboth_in _ _ x).1 h)), ?_⟩
  · have hn : 0 ≤ w.2 := by unfold may at hw; omega
    have := part_go _ _ _ w.1 (w.1 + w.2) (Nat.le_refl _) i1 g1 (by omega) hu hd
    omega
  · have hm : ∀ s ∈ rboth xs (rset [w]) ++ pgaps xs w, may s := fun s hs => by
      rcases List.mem_append.1 hs with h | h
      · exact (i1.2 s h).1
      · exact (g1.2 s h).1
    obtain ⟨r1, r2, _⟩ := rset_ok hm
    exact ext _ _ r1 s1 fun x => by rw [r2 x, in_append, s2 x]; exact hu x
theorem rboth_len {a b : List Sp} (ha : Ris a) (hb : Ris b) : (rboth a b).length ≤ a.length + b.length := by
  rw [← com_rboth ha hb]
  exact (com_ok _ a b (Nat.le_refl _) ha hb).2.2
end Go.Proofs.Ythldppgbopiaiaa.MSpY
