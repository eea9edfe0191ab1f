/- Plain facts on spans that rise, of no program: joined, they are the set of them all. -/
import Derived.Test.YthldppgbopiaiaaSpM
namespace Go.Proofs.Ythldppgbopiaiaa.MSpW
open MSpM

/-- One round of the joining: the set so far and the next span. -/
def jStep (o : List Sp) (s : Sp) : List Sp :=
  if s.2 = 0 then o
  else match o.getLast? with
    | none => o ++ [s]
    | some t => if s.1 ≤ t.1 + t.2 then o.dropLast ++ [around t s] else o ++ [s]
def joined (l : List Sp) : List Sp := l.foldl jStep []
theorem jStep_zero {o : List Sp} {s : Sp} (h : s.2 = 0) : jStep o s = o := by unfold jStep; rw [if_pos h]
theorem jStep_nil {s : Sp} (h : s.2 ≠ 0) : jStep [] s = [s] := by unfold jStep; rw [if_neg h]; rfl
theorem jStep_in {p : List Sp} {t s : Sp} (h : s.2 ≠ 0) (h1 : s.1 ≤ t.1 + t.2) : jStep (p ++ [t]) s = p ++ [around t s] := by
  unfold jStep
  rw [if_neg h, List.getLast?_concat]
  simp only []
  rw [if_pos h1, List.dropLast_concat]
theorem jStep_out {p : List Sp} {t s : Sp} (h : s.2 ≠ 0) (h1 : ¬ s.1 ≤ t.1 + t.2) : jStep (p ++ [t]) s = p ++ [t] ++ [s] := by
  unfold jStep
  rw [if_neg h, List.getLast?_concat]
  simp only []
  rw [if_neg h1]
theorem jStep_ok {o : List Sp} {s : Sp} (ho : Ris o) (hs : may s) (hle : ∀ t ∈ o, t.1 ≤ s.1) : Ris (jStep o s) ∧ (∀ x, In (jStep o s) x ↔ In o x ∨ (s.1 ≤ x ∧ x < s.1 + s.2)) ∧ (∀ t ∈ jStep o s, t.1 ≤ s.1) ∧ (jStep o s).length ≤ o.length + 1 := by
  by_cases h0 : s.2 = 0
  · rw [jStep_zero h0]
    exact ⟨ho, fun x => ⟨.inl, fun h => h.elim id (fun h => by omega)⟩, hle, by omega⟩
  · have hpos : 0 < s.2 := by unfold may at hs; omega
    rcases List.eq_nil_or_concat o with rfl | ⟨p, t, hpt0⟩
    · rw [jStep_nil h0]
      refine ⟨ris_one hs hpos, fun x => ?_, fun t ht => ?_, by simp⟩
      · rw [in_one]
        exact ⟨.inr, fun h => h.elim (fun h => absurd h (in_nil x)) id⟩
      · simp only [List.mem_singleton] at ht
        subst ht
        omega
    · rw [List.concat_eq_append] at hpt0
      subst hpt0
      obtain ⟨hp, ht, hpt⟩ := ris_append.1 ho
      have htm := ht.2 t (by simp)
      have hts := hle t (by simp)
      by_cases h1 : s.1 ≤ t.1 + t.2
      · rw [jStep_in h0 h1]
        have e1 : (around t s).1 = t.1 := by unfold around; simp only []; omega
        have e2 : t.1 + t.2 ≤ (around t s).1 + (around t s).2 ∧ s.1 + s.2 ≤ (around t s).1 + (around t s).2 ∧ ((around t s).1 + (around t s).2 = t.1 + t.2 ∨ (around t s).1 + (around t s).2 = s.1 + s.2) := by unfold around; simp only []; omega
        generalize around t s = q at e1 e2 ⊢
        have hq : may q := by have h := htm.1; unfold may at h hs ⊢; omega
        refine ⟨ris_append.2 ⟨hp, ris_one hq (by have := htm.2; omega), fun u hu v hv => ?_⟩, fun x => ?_, fun v hv => ?_, by simp⟩
        · simp only [List.mem_singleton] at hv
          subst hv
          have := hpt u hu t (by simp)
          omega
        · rw [in_append, in_append, in_one, in_one]
          constructor
          · rintro (k | k)
            · exact .inl (.inl k)
            · by_cases hx : x < t.1 + t.2
              · exact .inl (.inr (by omega))
              · exact .inr (by omega)
          · rintro ((k | k) | k)
            · exact .inl k
            · exact .inr (by omega)
            · exact .inr (by omega)
        · rcases List.mem_append.1 hv with k | k
          · exact hle v (by simp [k])
          · simp only [List.mem_singleton] at k
            subst k
            omega
      · rw [jStep_out h0 h1]
        refine ⟨ris_append.2 ⟨ho, ris_one hs hpos, fun u hu v hv => ?_⟩, fun x => ?_, fun v hv => ?_, by simp⟩
        · simp only [List.mem_singleton] at hv
          subst hv
          rcases List.mem_append.1 hu with k | k
          · have := hpt u k t (by simp)
            have := htm.2
            omega
          · simp only [List.mem_singleton] at k
            subst k
            omega
        · rw [in_append, in_one]
        · rcases List.mem_append.1 hv with k | k
          · exact hle v k
          · simp only [List.mem_singleton] at k
            subst k
            omega
theorem joined_go : ∀ (l o : List Sp), (∀ s ∈ l, may s) → l.Pairwise (fun a b => a.1 ≤ b.1) → Ris o → (∀ t ∈ o, ∀ s ∈ l, t.1 ≤ s.1) →
    Ris (l.foldl jStep o) ∧ (∀ x, In (l.foldl jStep o) x ↔ In o x ∨ In l x) ∧ (l.foldl jStep o).length ≤ o.length + l.length
  | [], o, _, _, ho, _ => ⟨ho, fun x => ⟨.inl, fun h => h.elim id (fun h => absurd h (in_nil x))⟩, by simp⟩
  | s :: l, o, hm, hp, ho, hle => by
    obtain ⟨hp1, hp2⟩ := List.pairwise_cons.1 hp
    obtain ⟨j1, j2, j3, j4⟩ := jStep_ok ho (hm s (by simp)) (fun t ht => hle t ht s (by simp))
    obtain ⟨r1, r2, r3⟩ := joined_go l (jStep o s) (fun t ht => hm t (by simp [ht])) hp2 j1 (fun t ht u hu => Int.le_trans (j3 t ht) (hp1 u hu))
    rw [List.foldl_cons]
    refine ⟨r1, fun x => ?_, by simp only [List.length_cons]; omega⟩
    rw [r2, j2, in_cons, or_assoc]
theorem joined_ok {l : List Sp} (hm : ∀ s ∈ l, may s) (hp : l.Pairwise (fun a b => a.1 ≤ b.1)) : Ris (joined l) ∧ (∀ x, In (joined l) x ↔ In l x) ∧ (joined l).length ≤ l.length := by
  have h := joined_go l [] hm hp ris_nil (by simp)
  refine ⟨h.1, fun x => ?_, by have := h.2.2; simp only [List.length_nil, Nat.zero_add] at this; exact this⟩
  rw [show joined l = l.foldl jStep [] from rfl, h.2.1 x]
  exact ⟨fun k => k.elim (fun k => absurd k (in_nil x)) id, .inr⟩
/-- The spans of a list, put in order and joined, are the list's set. -/
theorem joined_rset {l r : List Sp} (hm : ∀ s ∈ l, may s) (hp : r.Pairwise (fun a b => a.1 ≤ b.1)) (hr : r.Perm l) : joined r = rset l := by
  have hmr : ∀ s ∈ r, may s := fun s hs => hm s (hr.mem_iff.1 hs)
  refine MSpM.ext _ _ (joined_ok hmr hp).1 (rset_ok hm).1 fun x => ?_
  rw [(joined_ok hmr hp).2.1, (rset_ok hm).2.1]
  constructor
  · rintro ⟨s, h1, h2⟩
    exact ⟨s, hr.mem_iff.1 h1, h2⟩
  · rintro ⟨s, h1, h2⟩
    exact ⟨s, hr.mem_iff.2 h1, h2⟩
end Go.Proofs.Ythldppgbopiaiaa.MSpW
