/- Plain facts on sets of spans, of no program: what two sets have in common, what a set has not, how many sectors there are. -/
import Derived.Test.YthldppgbopiaiaaSpM
namespace Go.Proofs.Ythldppgbopiaiaa.MSpN
open MSpM

/- What two sets have in common, as the document's answer reckons it. -/
def one (s t : Sp) : List Sp := if 0 < (meet0 s t).2 then [meet0 s t] else []
def rboth (a b : List Sp) : List Sp := a.flatMap fun s => b.flatMap fun t => one s t
theorem one_in (s t : Sp) (x : Int) : In (one s t) x ↔ (s.1 ≤ x ∧ x < s.1 + s.2) ∧ (t.1 ≤ x ∧ x < t.1 + t.2) := by
  unfold one
  split
  · rename_i h
    rw [in_one]
    exact in_meet0 s t x h
  · rename_i h
    exact ⟨fun k => absurd k (in_nil x), fun k => absurd k (no_meet0 s t x h)⟩
theorem one_sub {s t u : Sp} (h : u ∈ one s t) : 0 < u.2 ∧ s.1 ≤ u.1 ∧ t.1 ≤ u.1 ∧ u.1 + u.2 ≤ s.1 + s.2 ∧ u.1 + u.2 ≤ t.1 + t.2 := by
  unfold one at h
  split at h
  · rename_i h0
    simp only [List.mem_singleton] at h
    subst h
    have := meet0_sub h0
    exact ⟨h0, this⟩
  · cases h
theorem one_may {s t u : Sp} (hs : may s) (ht : may t) (h : u ∈ one s t) : may u := by
  unfold one at h
  split at h
  · simp only [List.mem_singleton] at h
    subst h
    exact meet0_may hs ht
  · cases h
theorem one_pair (s t : Sp) : (one s t).Pairwise (fun a b => a.1 + a.2 < b.1) := by
  unfold one
  split <;> simp
theorem row_ris {s : Sp} {b : List Sp} (hs : may s) (hb : Ris b) : Ris (b.flatMap fun t => one s t) := by
  refine ⟨?_, fun u hu => ?_⟩
  · rw [List.pairwise_flatMap]
    refine ⟨fun t _ => one_pair s t, hb.1.imp_of_mem ?_⟩
    intro t t' _ _ htt x hx y hy
    have h1 := one_sub hx
    have h2 := one_sub hy
    omega
  · obtain ⟨t, ht, hu⟩ := List.mem_flatMap.1 hu
    exact ⟨one_may hs (hb.2 t ht).1 hu, (one_sub hu).1⟩
theorem row_sub {s u : Sp} {b : List Sp} (h : u ∈ b.flatMap fun t => one s t) : s.1 ≤ u.1 ∧ u.1 + u.2 ≤ s.1 + s.2 := by
  obtain ⟨t, _, hu⟩ := List.mem_flatMap.1 h
  have := one_sub hu
  omega
theorem rboth_ris {a b : List Sp} (ha : Ris a) (hb : Ris b) : Ris (rboth a b) := by
  refine ⟨?_, fun u hu => ?_⟩
  · unfold rboth
    rw [List.pairwise_flatMap]
    refine ⟨fun s hs => (row_ris (ha.2 s hs).1 hb).1, ha.1.imp_of_mem ?_⟩
    intro s s' _ _ hss x hx y hy
    have h1 := row_sub hx
    have h2 := row_sub hy
    omega
  · obtain ⟨s, hs, hu⟩ := List.mem_flatMap.1 hu
    exact (row_ris (ha.2 s hs).1 hb).2 u hu
theorem rboth_in (a b : List Sp) (x : Int) : In (rboth a b) x ↔ In a x ∧ In b x := by
  unfold rboth
  rw [in_flat]
  constructor
  · rintro ⟨s, hs, h⟩
    rw [in_flat] at h
    obtain ⟨t, ht, h⟩ := h
    rw [one_in] at h
    exact ⟨⟨s, hs, h.1⟩, ⟨t, ht, h.2⟩⟩
  · rintro ⟨⟨s, hs, h1⟩, ⟨t, ht, h2⟩⟩
    refine ⟨s, hs, ?_⟩
    rw [in_flat]
    exact ⟨t, ht, (one_in s t x).2 ⟨h1, h2⟩⟩

/- The same with a place in each set. -/
def com : List Sp → List Sp → List Sp
  | [], _ => []
  | _ :: _, [] => []
  | s :: a, t :: b => one s t ++ (if s.1 + s.2 < t.1 + t.2 then com a (t :: b) else com (s :: a) b)
termination_by a b => a.length + b.length
theorem com_nil (b : List Sp) : com [] b = [] := by rw [com]
theorem com_nil2 (a : List Sp) : com a [] = [] := by cases a <;> rw [com]
theorem com_cons (s t : Sp) (a b : List Sp) : com (s :: a) (t :: b) = one s t ++ (if s.1 + s.2 < t.1 + t.2 then com a (t :: b) else com (s :: a) b) := by rw [com]
theorem com_ok : ∀ (n : Nat) (a b : List Sp), a.length + b.length ≤ n → Ris a → Ris b → Ris (com a b) ∧ (∀ x, In (com a b) x ↔ In a x ∧ In b x) ∧ (com a b).length ≤ a.length + b.length
  | _, [], b, _, _, _ => by
    rw [com_nil]
    exact ⟨ris_nil, fun x => ⟨fun h => absurd h (in_nil x), fun h => absurd h.1 (in_nil x)⟩, by simp⟩
  | _, s :: a, [], _, _, _ => by
    rw [com_nil2]
    exact ⟨ris_nil, fun x => ⟨fun h => absurd h (in_nil x), fun h => absurd h.2 (in_nil x)⟩, by simp⟩
  | 0, s :: a, t :: b, hn, _, _ => by simp at hn
  | n + 1, s :: a, t :: b, hn, ha, hb => by
    obtain ⟨⟨hs, hs0⟩, hsa, ha'⟩ := ris_cons.1 ha
    obtain ⟨⟨ht, ht0⟩, htb, hb'⟩ := ris_cons.1 hb
    have ho : Ris (one s t) := ⟨one_pair s t, fun u hu => ⟨one_may hs ht hu, (one_sub hu).1⟩⟩
    have hol : (one s t).length ≤ 1 := by unfold one; split <;> simp
    simp only [List.length_cons] at hn
    rw [com_cons]
    by_cases h : s.1 + s.2 < t.1 + t.2
    · rw [if_pos h]
      obtain ⟨r1, r2, r3⟩ := com_ok n a (t :: b) (by simp; omega) ha' hb
      refine ⟨ris_append.2 ⟨ho, r1, ?_⟩, fun x => ?_, ?_⟩
      · intro u hu v hv
        have h1 := one_sub hu
        have hv0 := (r1.2 v hv).2
        obtain ⟨⟨w, hw, hw1⟩, _⟩ := (r2 v.1).1 ⟨v, hv, Int.le_refl _, by omega⟩
        have := hsa w hw
        omega
      · rw [in_append, one_in, r2, in_cons, in_cons]
        constructor
        · rintro (⟨h1, h2⟩ | ⟨h1, h2⟩)
          · exact ⟨.inl h1, .inl h2⟩
          · exact ⟨.inr h1, h2⟩
        · rintro ⟨h1 | h1, h2⟩
          · rcases h2 with h2 | h2
            · exact .inl ⟨h1, h2⟩
            · obtain ⟨w, hw, hw1⟩ := h2
              have := htb w hw
              omega
          · exact .inr ⟨h1, h2⟩
      · simp only [List.length_append, List.length_cons] at *
        omega
    · rw [if_neg h]
      obtain ⟨r1, r2, r3⟩ := com_ok n (s :: a) b (by simp; omega) ha hb'
      refine ⟨ris_append.2 ⟨ho, r1, ?_⟩, fun x => ?_, ?_⟩
      · intro u hu v hv
        have h1 := one_sub hu
        have hv0 := (r1.2 v hv).2
        obtain ⟨_, ⟨w, hw, hw1⟩⟩ := (r2 v.1).1 ⟨v, hv, Int.le_refl _, by omega⟩
        have := htb w hw
        omega
      · rw [in_append, one_in, r2, in_cons, in_cons]
        constructor
        · rintro (⟨h1, h2⟩ | ⟨h1, h2⟩)
          · exact ⟨.inl h1, .inl h2⟩
          · exact ⟨h1, .inr h2⟩
        · rintro ⟨h1, h2 | h2⟩
          · rcases h1 with h1 | h1
            · exact .inl ⟨h1, h2⟩
            · obtain ⟨w, hw, hw1⟩ := h1
              have := hsa w hw
              omega
          · exact .inr ⟨h1, h2⟩
      · simp only [List.length_append, List.length_cons] at *
        omega
theorem com_rboth {a b : List Sp} (ha : Ris a) (hb : Ris b) : com a b = rboth a b :=
  ext _ _ (com_ok _ a b (Nat.le_refl _) ha hb).1 (rboth_ris ha hb) fun x => by rw [(com_ok _ a b (Nat.le_refl _) ha hb).2.1, rboth_in]

/- What a set has not. -/
def rgaps (l : List Sp) (w : Sp) : List Sp := l.foldl drop (if 0 < w.2 then [w] else [])
theorem rgaps_go : ∀ (l o : List Sp), Ris o → Ris (l.foldl drop o) ∧ ∀ x, In (l.foldl drop o) x ↔ In o x ∧ ¬ In l x
  | [], o, ho => ⟨ho, fun x => ⟨fun h => ⟨h, in_nil x⟩, fun h => h.1⟩⟩
  | s :: l, o, ho => by
    have r := rgaps_go l (drop o s) (drop_ris ho s)
    rw [List.foldl_cons]
    refine ⟨r.1, fun x => ?_⟩
    rw [r.2 x, drop_in, in_cons]
    constructor
    · rintro ⟨⟨h1, h2⟩, h3⟩
      exact ⟨h1, fun h => h.elim h2 h3⟩
    · rintro ⟨h1, h2⟩
      exact ⟨⟨h1, fun h => h2 (.inl h)⟩, fun h => h2 (.inr h)⟩
theorem rgaps_ok (l : List Sp) {w : Sp} (hw : may w) : Ris (rgaps l w) ∧ ∀ x, In (rgaps l w) x ↔ (w.1 ≤ x ∧ x < w.1 + w.2) ∧ ¬ In l x := by
  unfold rgaps
  have h0 : Ris (if 0 < w.2 then [w] else []) := by
    split
    · rename_i h
      exact ris_one hw h
    · exact ris_nil
  have r := rgaps_go l _ h0
  refine ⟨r.1, fun x => ?_⟩
  rw [r.2 x]
  have : In (if 0 < w.2 then [w] else []) x ↔ (w.1 ≤ x ∧ x < w.1 + w.2) := by
    split
    · rw [in_one]
    · simp only [in_nil, false_iff]
      omega
  rw [this]
/-- One round: where the next gap may begin, and the gaps so far. -/
def gStep (w : Sp) (st : Int × List Sp) (s : Sp) : Int × List Sp :=
  if (meet0 s w).2 = 0 then st
  else ((meet0 s w).1 + (meet0 s w).2, if st.1 < (meet0 s w).1 then st.2 ++ [(st.1, (meet0 s w).1 - st.1)] else st.2)
def gEnd (w : Sp) (st : Int × List Sp) : List Sp := if st.1 < w.1 + w.2 then st.2 ++ [(st.1, w.1 + w.2 - st.1)] else st.2
def pgaps (l : List Sp) (w : Sp) : List Sp := gEnd w (l.foldl (gStep w) (w.1, []))
theorem pgaps_go {w : Sp} (hw : may w) : ∀ (l p : List Sp) (from_ : Int) (out : List Sp), Ris (p ++ l) → w.1 ≤ from_ → from_ ≤ w.1 + w.2 ∨ w.2 = 0 ∧ from_ = w.1 → Ris out → (∀ g ∈ out, g.1 + g.2 < from_) →
    (∀ x, In out x ↔ (w.1 ≤ x ∧ x < w.1 + w.2) ∧ x < from_ ∧ ¬ In p x) → (∀ x, from_ ≤ x → x < w.1 + w.2 → ¬ In p x) → (from_ = w.1 ∨ ∃ s ∈ p, from_ ≤ s.1 + s.2) →
    Ris (gEnd w (l.foldl (gStep w) (from_, out))) ∧ ∀ x, In (gEnd w (l.foldl (gStep w) (from_, out))) x ↔ (w.1 ≤ x ∧ x < w.1 + w.2) ∧ ¬ In (p ++ l) x
  | [], p, from_, out, _, h1, _, h3, h4, h5, h6, _ => by
    unfold may at hw
    rw [List.foldl_nil, List.append_nil, gEnd]
    simp only []
    split
    · rename_i h
      refine ⟨ris_append.2 ⟨h3, ris_one (by unfold may; simp only []; omega) (by simp only []; omega), fun g hg u hu => ?_⟩, fun x => ?_⟩
      · simp only [List.mem_singleton] at hu
        subst hu
        exact h4 g hg
      · rw [in_append, h5, in_one]
        simp only []
        constructor
        · rintro (⟨k1, k2, k3⟩ | k)
          · exact ⟨k1, k3⟩
          · exact ⟨by omega, h6 x (by omega) (by omega)⟩
        · rintro ⟨k1, k2⟩
          by_cases hx : x < from_
          · exact .inl ⟨k1, hx, k2⟩
          · exact .inr (by omega)
    · refine ⟨h3, fun x => ?_⟩
      rw [h5]
      constructor
      · rintro ⟨k1, _, k3⟩
        exact ⟨k1, k3⟩
      · rintro ⟨k1, k2⟩
        exact ⟨k1, by omega, k2⟩
  | s :: l, p, from_, out, hr, h1, h2, h3, h4, h5, h6, h7 => by
    have hr2 := hr
    rw [show p ++ s :: l = (p ++ [s]) ++ l by simp] at hr2
    have hps := (ris_append.1 hr2).1
    obtain ⟨_, hs1, hpst⟩ := ris_append.1 hps
    have hs := hs1.2 s (by simp)
    have hm := hs.1
    rw [List.foldl_cons, show p ++ s :: l = (p ++ [s]) ++ l by simp]
    have hfs : from_ ≤ s.1 ∨ from_ = w.1 := by
      rcases h7 with h7 | ⟨u, hu, hu1⟩
      · exact .inr h7
      · have := hpst u hu s (by simp)
        exact .inl (by omega)
    by_cases c : (meet0 s w).2 = 0
    · have e : gStep w (from_, out) s = (from_, out) := by unfold gStep; rw [if_pos c]
      rw [e]
      have hno := fun x => no_meet0 s w x (by omega)
      refine pgaps_go hw l (p ++ [s]) from_ out hr2 h1 h2 h3 h4 (fun x => ?_) (fun x hx hx2 => ?_) ?_
      · rw [h5, in_append, in_one]
        constructor
        · rintro ⟨k1, k2, k3⟩
          exact ⟨k1, k2, fun h => h.elim k3 (fun h => hno x ⟨h, k1⟩)⟩
        · rintro ⟨k1, k2, k3⟩
          exact ⟨k1, k2, fun h => k3 (.inl h)⟩
      · rw [in_append, in_one]
        exact fun h => h.elim (h6 x hx hx2) (fun h => hno x ⟨h, by omega⟩)
      · rcases h7 with h7 | ⟨u, hu, hu1⟩
        · exact .inl h7
        · exact .inr ⟨u, by simp [hu], hu1⟩
    · have hpos : 0 < (meet0 s w).2 := by have := meet0_nonneg s w; omega
      have hsub := meet0_sub hpos
      have hin := fun x => in_meet0 s w x hpos
      have hmm := meet0_may hm hw
      have e : gStep w (from_, out) s = ((meet0 s w).1 + (meet0 s w).2, if from_ < (meet0 s w).1 then out ++ [(from_, (meet0 s w).1 - from_)] else out) := by unfold gStep; rw [if_neg c]
      rw [e]
      have hge : from_ ≤ (meet0 s w).1 := by
        rcases hfs with h | h <;> omega
      generalize meet0 s w = q at *
      unfold may at hmm hm hw
      refine pgaps_go (w := w) (by unfold may; exact hw) l (p ++ [s]) (q.1 + q.2) _ hr2 (by omega) (.inl (by omega)) ?_ ?_ (fun x => ?_) (fun x hx hx2 => ?_) (.inr ⟨s, by simp, by omega⟩)
      · split
        · refine ris_append.2 ⟨h3, ris_one (by unfold may; simp only []; omega) (by simp only []; omega), fun g hg u hu => ?_⟩
          simp only [List.mem_singleton] at hu
          subst hu
          exact h4 g hg
        · exact h3
      · intro g hg
        split at hg
        · rcases List.mem_append.1 hg with k | k
          · have := h4 g k
            omega
          · simp only [List.mem_singleton] at k
            subst k
            simp only []
            omega
        · have := h4 g hg
          omega
      · have hx := hin x
        have e2 : In (if from_ < q.1 then out ++ [(from_, q.1 - from_)] else out) x ↔ In out x ∨ (from_ ≤ x ∧ x < q.1) := by
          split
          · rw [in_append, in_one]
            simp only []
            constructor
            · rintro (k | k)
              · exact .inl k
              · exact .inr (by omega)
            · rintro (k | k)
              · exact .inl k
              · exact .inr (by omega)
          · constructor
            · exact .inl
            · rintro (k | k)
              · exact k
              · omega
        rw [e2, h5, in_append, in_one]
        constructor
        · rintro (⟨k1, k2, k3⟩ | k)
          · refine ⟨k1, by omega, fun h => h.elim k3 (fun h => ?_)⟩
            rcases hfs with h' | h'
            · omega
            · omega
          · refine ⟨by omega, by omega, fun h => h.elim (h6 x k.1 (by omega)) (fun h => ?_)⟩
            have := hx.2 ⟨h, by omega⟩
            omega
        · rintro ⟨k1, k2, k3⟩
          by_cases hxf : x < from_
          · exact .inl ⟨k1, hxf, fun h => k3 (.inl h)⟩
          · refine .inr ⟨by omega, ?_⟩
            by_cases hq : x < q.1
            · exact hq
            · exact absurd (hx.1 ⟨by omega, k2⟩).1 (fun h => k3 (.inr h))
      · rw [in_append, in_one]
        refine fun h => h.elim (h6 x (by omega) hx2) (fun h => ?_)
        have := (hin x).2 ⟨h, by omega⟩
        omega
theorem pgaps_ok {l : List Sp} {w : Sp} (hl : Ris l) (hw : may w) : Ris (pgaps l w) ∧ ∀ x, In (pgaps l w) x ↔ (w.1 ≤ x ∧ x < w.1 + w.2) ∧ ¬ In l x := by
  have h := pgaps_go hw l [] w.1 [] (by simpa using hl) (Int.le_refl _) (.inl (by unfold may at hw; omega)) ris_nil (by simp) (fun x => by simp only [in_nil, false_iff]; omega) (fun x _ _ => in_nil x) (.inl rfl)
  simpa [pgaps] using h
theorem pgaps_rgaps {l : List Sp} {w : Sp} (hl : Ris l) (hw : may w) : pgaps l w = rgaps l w :=
  ext _ _ (pgaps_ok hl hw).1 (rgaps_ok l hw).1 fun x => by rw [(pgaps_ok hl hw).2, (rgaps_ok l hw).2]
theorem gStep_len (w : Sp) : ∀ (l : List Sp) (st : Int × List Sp), (l.foldl (gStep w) st).2.length ≤ st.2.length + l.length
  | [], _ => by simp
  | s :: l, st => by
    have h := gStep_len w l (gStep w st s)
    have h2 : (gStep w st s).2.length ≤ st.2.length + 1 := by
      unfold gStep
      split
      · omega
      · simp only []
        split <;> simp
    rw [List.foldl_cons, List.length_cons]
    omega
theorem pgaps_len (l : List Sp) (w : Sp) : (pgaps l w).length ≤ l.length + 1 := by
  have h := gStep_len w l (w.1, [])
  unfold pgaps gEnd
  split <;> simp at * <;> omega
end Go.Proofs.Ythldppgbopiaiaa.MSpN
