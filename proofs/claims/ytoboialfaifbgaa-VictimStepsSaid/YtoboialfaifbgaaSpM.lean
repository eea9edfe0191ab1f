/- Plain facts on spans of whole numbers and sets of them, of no program: sets that have the same sectors are the same list; what each way of reckoning a set has. -/
namespace Go.Proofs.Ytoboialfaifbgaa.MSpM

abbrev Sp := Int × Int
def may (s : Sp) : Prop := 0 ≤ s.1 ∧ 0 ≤ s.2 ∧ s.1 + s.2 ≤ 1099511627776
instance (s : Sp) : Decidable (may s) := by unfold may; exact inferInstance
def fin (s : Sp) : Int := if may s then s.1 + s.2 else 0
def has (s : Sp) (x : Int) : Bool := decide (may s ∧ s.1 ≤ x ∧ x < s.1 + s.2)
def meet0 (a b : Sp) : Sp := if min (a.1 + a.2) (b.1 + b.2) ≤ max a.1 b.1 then (0, 0) else (max a.1 b.1, min (a.1 + a.2) (b.1 + b.2) - max a.1 b.1)
def meet (a b : Sp) : Sp := if may a ∧ may b then meet0 a b else (0, 0)
def cut0 (a b : Sp) : List Sp :=
  if (meet0 a b).2 = 0 then (if a.2 = 0 then [] else [a])
  else (if a.1 < (meet0 a b).1 then [(a.1, (meet0 a b).1 - a.1)] else []) ++ (if (meet0 a b).1 + (meet0 a b).2 < a.1 + a.2 then [((meet0 a b).1 + (meet0 a b).2, a.1 + a.2 - ((meet0 a b).1 + (meet0 a b).2))] else [])
def cut (a b : Sp) : List Sp := if may a ∧ may b then cut0 a b else []

/-- Sector x is in one of the spans. -/
def In (l : List Sp) (x : Int) : Prop := ∃ s ∈ l, s.1 ≤ x ∧ x < s.1 + s.2
/-- The spans rise, with a gap between any two, and none is empty. -/
def Ris (l : List Sp) : Prop := l.Pairwise (fun a b => a.1 + a.2 < b.1) ∧ ∀ s ∈ l, may s ∧ 0 < s.2
instance (l : List Sp) : Decidable (Ris l) := by unfold Ris; exact inferInstance
def isSet (l : List Sp) : Bool := decide (l.length ≤ 4096 ∧ Ris l)

theorem in_nil (x : Int) : ¬ In [] x := by rintro ⟨s, h, _⟩; cases h
theorem in_cons (s : Sp) (l : List Sp) (x : Int) : In (s :: l) x ↔ (s.1 ≤ x ∧ x < s.1 + s.2) ∨ In l x := by
  simp [In]
theorem in_append (a b : List Sp) (x : Int) : In (a ++ b) x ↔ In a x ∨ In b x := by
  simp only [In, List.mem_append]
  constructor
  · rintro ⟨s, h | h, k⟩
    · exact .inl ⟨s, h, k⟩
    · exact .inr ⟨s, h, k⟩
  · rintro (⟨s, h, k⟩ | ⟨s, h, k⟩)
    · exact ⟨s, .inl h, k⟩
    · exact ⟨s, .inr h, k⟩
theorem in_one (s : Sp) (x : Int) : In [s] x ↔ (s.1 ≤ x ∧ x < s.1 + s.2) := by simp [In]
theorem in_flat {α : Type} (l : List α) (f : α → List Sp) (x : Int) : In (l.flatMap f) x ↔ ∃ s ∈ l, In (f s) x := by
  simp only [In, List.mem_flatMap]
  constructor
  · rintro ⟨s, ⟨a, h, k⟩, j⟩
    exact ⟨a, h, s, k, j⟩
  · rintro ⟨a, h, s, k, j⟩
    exact ⟨s, ⟨a, h, k⟩, j⟩
theorem in_perm {a b : List Sp} (h : a.Perm b) (x : Int) : In a x ↔ In b x := by
  simp only [In, h.mem_iff]

theorem ris_nil : Ris [] := ⟨.nil, by simp⟩
theorem ris_cons {s : Sp} {l : List Sp} : Ris (s :: l) ↔ (may s ∧ 0 < s.2) ∧ (∀ t ∈ l, s.1 + s.2 < t.1) ∧ Ris l := by
  unfold Ris
  rw [List.pairwise_cons]
  constructor
  · rintro ⟨⟨h1, h2⟩, h3⟩
    exact ⟨h3 s (by simp), h1, h2, fun t ht => h3 t (by simp [ht])⟩
  · rintro ⟨h1, h2, h3, h4⟩
    refine ⟨⟨h2, h3⟩, fun t ht => ?_⟩
    rcases List.mem_cons.1 ht with rfl | ht
    · exact h1
    · exact h4 t ht
theorem ris_append {a b : List Sp} : Ris (a ++ b) ↔ Ris a ∧ Ris b ∧ ∀ s ∈ a, ∀ t ∈ b, s.1 + s.2 < t.1 := by
  unfold Ris
  rw [List.pairwise_append]
  constructor
  · rintro ⟨⟨h1, h2, h3⟩, h4⟩
    exact ⟨⟨h1, fun s hs => h4 s (by simp [hs])⟩, ⟨h2, fun s hs => h4 s (by simp [hs])⟩, h3⟩
  · rintro ⟨⟨h1, h2⟩, ⟨h3, h4⟩, h5⟩
    refine ⟨⟨h1, h3, h5⟩, fun s hs => ?_⟩
    rcases List.mem_append.1 hs with hs | hs
    · exact h2 s hs
    · exact h4 s hs
theorem ris_one {s : Sp} (h : may s) (h0 : 0 < s.2) : Ris [s] := ris_cons.2 ⟨⟨h, h0⟩, by simp, ris_nil⟩

/-- Sets that have the same sectors are the same list. -/
theorem ext : ∀ (a b : List Sp), Ris a → Ris b → (∀ x, In a x ↔ In b x) → a = b
  | [], [], _, _, _ => rfl
  | [], t :: b, _, hb, h => by
    have hb := (ris_cons.1 hb).1
    have := (h t.1).2 ((in_cons t b t.1).2 (.inl ⟨Int.le_refl _, by have := hb.2; omega⟩))
    exact absurd this (in_nil _)
  | s :: a, [], ha, _, h => by
    have ha := (ris_cons.1 ha).1
    have := (h s.1).1 ((in_cons s a s.1).2 (.inl ⟨Int.le_refl _, by have := ha.2; omega⟩))
    exact absurd this (in_nil _)
  | s :: a, t :: b, ha, hb, h => by
    obtain ⟨⟨_, ha0⟩, hag, har⟩ := ris_cons.1 ha
    obtain ⟨⟨_, hb0⟩, hbg, hbr⟩ := ris_cons.1 hb
    have la : ∀ x, In a x → s.1 + s.2 < x := by
      rintro x ⟨u, hu, hx, _⟩
      have := hag u hu
      omega
    have lb : ∀ x, In b x → t.1 + t.2 < x := by
      rintro x ⟨u, hu, hx, _⟩
      have := hbg u hu
      omega
    have h1 : t.1 ≤ s.1 := by
      rcases (in_cons t b _).1 ((h s.1).1 ((in_cons s a s.1).2 (.inl ⟨Int.le_refl _, by omega⟩))) with h1 | h1
      · exact h1.1
      · have := lb _ h1; omega
    have h2 : s.1 ≤ t.1 := by
      rcases (in_cons s a _).1 ((h t.1).2 ((in_cons t b t.1).2 (.inl ⟨Int.le_refl _, by omega⟩))) with h1 | h1
      · exact h1.1
      · have := la _ h1; omega
    have h3 : ¬ s.1 + s.2 < t.1 + t.2 := by
      intro hlt
      rcases (in_cons s a _).1 ((h (s.1 + s.2)).2 ((in_cons t b _).2 (.inl ⟨by omega, hlt⟩))) with h1 | h1
      · omega
      · have := la _ h1; omega
    have h4 : ¬ t.1 + t.2 < s.1 + s.2 := by
      intro hlt
      rcases (in_cons t b _).1 ((h (t.1 + t.2)).1 ((in_cons s a _).2 (.inl ⟨by omega, hlt⟩))) with h1 | h1
      · omega
      · have := lb _ h1; omega
    have e : s = t := Prod.ext (by omega) (by omega)
    subst e
    congr 1
    refine ext a b har hbr fun x => ⟨fun hx => ?_, fun hx => ?_⟩
    · have := la x hx
      rcases (in_cons s b _).1 ((h x).1 ((in_cons s a _).2 (.inr hx))) with h1 | h1
      · omega
      · exact h1
    · have := lb x hx
      rcases (in_cons s a _).1 ((h x).2 ((in_cons s b _).2 (.inr hx))) with h1 | h1
      · omega
      · exact h1

theorem empty_of {l : List Sp} (h : Ris l) (hn : ∀ x, ¬ In l x) : l = [] := ext l [] h ris_nil fun x => ⟨fun k => absurd k (hn x), fun k => absurd k (in_nil x)⟩

/- What two spans have in common, and what is left of one. -/
theorem in_meet0 (a b : Sp) (x : Int) (h : 0 < (meet0 a b).2) : ((meet0 a b).1 ≤ x ∧ x < (meet0 a b).1 + (meet0 a b).2) ↔ (a.1 ≤ x ∧ x < a.1 + a.2) ∧ (b.1 ≤ x ∧ x < b.1 + b.2) := by
  unfold meet0 at *
  split at h
  · simp at h
  · rename_i hn
    rw [if_neg hn]
    omega
theorem no_meet0 (a b : Sp) (x : Int) (h : ¬ 0 < (meet0 a b).2) : ¬ ((a.1 ≤ x ∧ x < a.1 + a.2) ∧ (b.1 ≤ x ∧ x < b.1 + b.2)) := by
  unfold meet0 at h
  split at h
  · omega
  · simp only [] at h
    omega
theorem meet0_nonneg (a b : Sp) : 0 ≤ (meet0 a b).2 := by
  unfold meet0
  split
  · simp
  · simp only []; omega
theorem meet0_may {a b : Sp} (ha : may a) (hb : may b) : may (meet0 a b) := by
  unfold meet0
  unfold may at *
  split
  · simp
  · simp only []; omega
theorem meet0_sub {a b : Sp} (h : 0 < (meet0 a b).2) : a.1 ≤ (meet0 a b).1 ∧ b.1 ≤ (meet0 a b).1 ∧ (meet0 a b).1 + (meet0 a b).2 ≤ a.1 + a.2 ∧ (meet0 a b).1 + (meet0 a b).2 ≤ b.1 + b.2 := by
  unfold meet0 at *
  split at h
  · simp at h
  · rename_i hn
    rw [if_neg hn]
    omega

theorem cut0_ris {a b : Sp} (ha : may a) : Ris (cut0 a b) := by
  unfold cut0
  split
  · split
    · exact ris_nil
    · exact ris_one ha (by unfold may at ha; omega)
  · rename_i h
    have h0 := meet0_nonneg a b
    have hs := @meet0_sub a b (by omega)
    generalize meet0 a b = m at *
    unfold may at ha
    refine ris_append.2 ⟨?_, ?_, ?_⟩
    · split
      · exact ris_one (by unfold may; simp only []; omega) (by simp only []; omega)
      · exact ris_nil
    · split
      · exact ris_one (by unfold may; simp only []; omega) (by simp only []; omega)
      · exact ris_nil
    · split
      · split
        · simp only [List.mem_singleton]
          rintro s rfl t rfl
          simp only []
          omega
        · simp
      · simp
theorem cut0_in {a b : Sp} (x : Int) : In (cut0 a b) x ↔ (a.1 ≤ x ∧ x < a.1 + a.2) ∧ ¬ (b.1 ≤ x ∧ x < b.1 + b.2) := by
  unfold cut0
  split
  · rename_i h
    have h1 := no_meet0 a b x (by omega)
    split
    · simp only [in_nil, false_iff]
      omega
    · rw [in_one]
      exact ⟨fun k => ⟨k, fun k' => h1 ⟨k, k'⟩⟩, fun k => k.1⟩
  · rename_i h
    have h0 := meet0_nonneg a b
    have hs := @meet0_sub a b (by omega)
    have hi := in_meet0 a b x (by omega)
    generalize meet0 a b = m at *
    rw [in_append]
    have p1 : In (if a.1 < m.1 then [(a.1, m.1 - a.1)] else []) x ↔ (a.1 ≤ x ∧ x < m.1) := by
      split
      · rw [in_one]; simp only []; omega
      · simp only [in_nil, false_iff]; omega
    have p2 : In (if m.1 + m.2 < a.1 + a.2 then [(m.1 + m.2, a.1 + a.2 - (m.1 + m.2))] else []) x ↔ (m.1 + m.2 ≤ x ∧ x < a.1 + a.2) := by
      split
      · rw [in_one]; simp only []; omega
      · simp only [in_nil, false_iff]; omega
    rw [p1, p2]
    omega
theorem cut0_sub {a b : Sp} : ∀ s ∈ cut0 a b, a.1 ≤ s.1 ∧ s.1 + s.2 ≤ a.1 + a.2 := by
  unfold cut0
  split
  · split <;> simp
  · rename_i h
    have h0 := meet0_nonneg a b
    have hs := @meet0_sub a b (by omega)
    generalize meet0 a b = m at *
    intro s hs'
    rcases List.mem_append.1 hs' with k | k
    · split at k
      · simp at k; subst k; simp only []; omega
      · simp at k
    · split at k
      · simp at k; subst k; simp only []; omega
      · simp at k
theorem cut0_len (a b : Sp) : (cut0 a b).length ≤ 2 := by
  unfold cut0
  split
  · split <;> simp
  · split <;> split <;> simp

/- The set without a span. -/
def drop (l : List Sp) (s : Sp) : List Sp := l.flatMap (fun t => cut0 t s)
theorem drop_ris {l : List Sp} (h : Ris l) (s : Sp) : Ris (drop l s) := by
  unfold drop
  refine ⟨?_, ?_⟩
  · rw [List.pairwise_flatMap]
    refine ⟨fun a ha => (cut0_ris (h.2 a ha).1).1, ?_⟩
    refine (h.1.imp_of_mem (S := fun a b => ∀ x ∈ cut0 a s, ∀ y ∈ cut0 b s, x.1 + x.2 < y.1) ?_)
    intro a b ha hb hab x hx y hy
    have h1 := cut0_sub x hx
    have h2 := cut0_sub y hy
    omega
  · intro x hx
    obtain ⟨a, ha, hx⟩ := List.mem_flatMap.1 hx
    exact (cut0_ris (h.2 a ha).1).2 x hx
theorem drop_in {l : List Sp} (s : Sp) (x : Int) : In (drop l s) x ↔ In l x ∧ ¬ (s.1 ≤ x ∧ x < s.1 + s.2) := by
  unfold drop
  rw [in_flat]
  constructor
  · rintro ⟨a, ha, k⟩
    rw [cut0_in] at k
    exact ⟨⟨a, ha, k.1⟩, k.2⟩
  · rintro ⟨⟨a, ha, k⟩, k2⟩
    exact ⟨a, ha, (cut0_in x).2 ⟨k, k2⟩⟩
theorem drop_len (l : List Sp) (s : Sp) : (drop l s).length ≤ 2 * l.length := by
  unfold drop
  induction l with
  | nil => simp
  | cons a l ih =>
    have := cut0_len a s
    simp only [List.flatMap_cons, List.length_append, List.length_cons]
    omega

/- The span round two. -/
def around (a b : Sp) : Sp := (min a.1 b.1, max (a.1 + a.2) (b.1 + b.2) - min a.1 b.1)

/- The set with a span, as the document's answer reckons it. -/
def raStep (st : (Int × Int) × List Sp × Bool) (t : Sp) : (Int × Int) × List Sp × Bool :=
  if t.1 + t.2 < st.1.1 then (st.1, st.2.1 ++ [t], st.2.2)
  else if st.1.2 < t.1 then (st.1, (if st.2.2 then st.2.1 else st.2.1 ++ [(st.1.1, st.1.2 - st.1.1)]) ++ [t], true)
  else ((min st.1.1 t.1, max st.1.2 (t.1 + t.2)), st.2)
def raEnd (st : (Int × Int) × List Sp × Bool) : List Sp := if st.2.2 then st.2.1 else st.2.1 ++ [(st.1.1, st.1.2 - st.1.1)]
def radd (l : List Sp) (s : Sp) : List Sp := if s.2 = 0 then l else raEnd (l.foldl raStep ((s.1, s.1 + s.2), [], false))

theorem radd_done : ∀ (l : List Sp) (f : Int × Int) (out : List Sp), (∀ t ∈ l, f.2 < t.1 ∧ f.1 ≤ f.2) → (∀ t ∈ l, 0 < t.2) → l.foldl raStep (f, out, true) = (f, out ++ l, true)
  | [], _, _, _, _ => by simp
  | t :: l, f, out, h, h0 => by
    have ht := h t (by simp)
    have ht0 := h0 t (by simp)
    have e : raStep (f, out, true) t = (f, out ++ [t], true) := by
      unfold raStep
      simp only []
      rw [if_neg (by omega), if_pos ht.1]
      simp
    rw [List.foldl_cons, e, radd_done l f (out ++ [t]) (fun u hu => h u (by simp [hu])) (fun u hu => h0 u (by simp [hu]))]
    simp
theorem radd_go : ∀ (l : List Sp) (f : Int × Int) (out : List Sp), Ris l → 0 ≤ f.1 → f.1 < f.2 → f.2 ≤ 1099511627776 → Ris out → (∀ s ∈ out, s.1 + s.2 < f.1) → (∀ s ∈ out, ∀ t ∈ l, s.1 + s.2 < t.1) →
    Ris (raEnd (l.foldl raStep (f, out, false))) ∧ (∀ x, In (raEnd (l.foldl raStep (f, out, false))) x ↔ In out x ∨ (f.1 ≤ x ∧ x < f.2) ∨ In l x) ∧ (raEnd (l.foldl raStep (f, out, false))).length ≤ out.length + l.length + 1
  | [], f, out, _, h0, h1, h2, ho, hof, _ => by
    have e0 : raEnd ([].foldl raStep (f, out, false)) = out ++ [(f.1, f.2 - f.1)] := rfl
    rw [e0]
    refine ⟨ris_append.2 ⟨ho, ris_one (by unfold may; simp only []; omega) (by simp only []; omega), ?_⟩, fun x => ?_, by simp⟩
    · intro s hs t ht
      simp only [List.mem_singleton] at ht
      subst ht
      exact hof s hs
    · rw [in_append, in_one]
      have : f.1 + (f.2 - f.1) = f.2 := by omega
      simp only [in_nil, or_false, this]
  | t :: l, f, out, hl, h0, h1, h2, ho, hof, hol => by
    obtain ⟨⟨ht, ht0⟩, htl, hl'⟩ := ris_cons.1 hl
    rw [List.foldl_cons]
    by_cases c1 : t.1 + t.2 < f.1
    · have e : raStep (f, out, false) t = (f, out ++ [t], false) := by
        unfold raStep
        simp only []
        rw [if_pos c1]
      rw [e]
      have := radd_go l f (out ++ [t]) hl' h0 h1 h2 (ris_append.2 ⟨ho, ris_one ht ht0, fun s hs u hu => by simp at hu; subst hu; exact hol s hs _ (by simp)⟩)
        (fun s hs => by rcases List.mem_append.1 hs with k | k; exact hof s k; simp at k; subst k; exact c1)
        (fun s hs u hu => by rcases List.mem_append.1 hs with k | k; exact hol s k u (by simp [hu]); simp at k; subst k; exact htl u hu)
      refine ⟨this.1, fun x => ?_, by have := this.2.2; simp at this ⊢; omega⟩
      rw [this.2.1 x, in_append, in_one, in_cons]
      constructor
      · rintro ((a | a) | a | a)
        · exact .inl a
        · exact .inr (.inr (.inl a))
        · exact .inr (.inl a)
        · exact .inr (.inr (.inr a))
      · rintro (a | a | a | a)
        · exact .inl (.inl a)
        · exact .inr (.inl a)
        · exact .inl (.inr a)
        · exact .inr (.inr a)
    · by_cases c2 : f.2 < t.1
      · have e : raStep (f, out, false) t = (f, (out ++ [(f.1, f.2 - f.1)]) ++ [t], true) := by
          unfold raStep
          simp only []
          rw [if_neg c1, if_pos c2]
          simp
        rw [e, radd_done l f _ (fun u hu => ⟨by have := htl u hu; omega, by omega⟩) (fun u hu => (hl'.2 u hu).2)]
        simp only [raEnd, if_true]
        have hf : Ris [((f.1, f.2 - f.1) : Sp)] := ris_one (by unfold may; simp only []; omega) (by simp only []; omega)
        refine ⟨?_, fun x => ?_, by simp; omega⟩
        · rw [List.append_assoc, List.append_assoc]
          refine ris_append.2 ⟨ho, ris_append.2 ⟨hf, by simpa using hl, ?_⟩, ?_⟩
          · intro s hs u hu
            simp only [List.mem_singleton] at hs
            subst hs
            simp only []
            rcases List.mem_append.1 hu with k | k
            · simp at k; subst k; omega
            · have := htl u k; omega
          · intro s hs u hu
            rcases List.mem_append.1 hu with k | k
            · simp only [List.mem_singleton] at k
              subst k
              exact hof s hs
            · exact hol s hs u (by simpa using k)
        · simp only [in_append, in_cons, in_nil, or_false]
          have : f.1 + (f.2 - f.1) = f.2 := by omega
          rw [this]
          constructor
          · rintro (((a | a) | a) | a)
            · exact .inl a
            · exact .inr (.inl a)
            · exact .inr (.inr (.inl a))
            · exact .inr (.inr (.inr a))
          · rintro (a | a | a | a)
            · exact .inl (.inl (.inl a))
            · exact .inl (.inl (.inr a))
            · exact .inl (.inr a)
            · exact .inr a
      · have e : raStep (f, out, false) t = ((min f.1 t.1, max f.2 (t.1 + t.2)), out, false) := by
          unfold raStep
          simp only []
          rw [if_neg c1, if_neg c2]
        rw [e]
        unfold may at ht
        have := radd_go l (min f.1 t.1, max f.2 (t.1 + t.2)) out hl' (by simp only []; omega) (by simp only []; omega) (by simp only []; omega) ho
          (fun s hs => by have a := hof s hs; have b := hol s hs t (by simp); simp only []; omega) (fun s hs u hu => hol s hs u (by simp [hu]))
        refine ⟨this.1, fun x => ?_, by have := this.2.2; simp at this ⊢; omega⟩
        rw [this.2.1 x, in_cons]
        simp only []
        constructor
        · rintro (a | a | a)
          · exact .inl a
          · by_cases hx : f.1 ≤ x ∧ x < f.2
            · exact .inr (.inl hx)
            · exact .inr (.inr (.inl (by omega)))
          · exact .inr (.inr (.inr a))
        · rintro (a | a | a | a)
          · exact .inl a
          · exact .inr (.inl (by omega))
          · exact .inr (.inl (by omega))
          · exact .inr (.inr a)
theorem radd_ok {l : List Sp} {s : Sp} (h : Ris l) (hs : may s) : Ris (radd l s) ∧ (∀ x, In (radd l s) x ↔ In l x ∨ (s.1 ≤ x ∧ x < s.1 + s.2)) ∧ (radd l s).length ≤ l.length + 1 := by
  unfold radd
  split
  · rename_i h0
    refine ⟨h, fun x => ?_, by omega⟩
    rw [h0]
    constructor
    · exact .inl
    · rintro (a | a)
      · exact a
      · omega
  · rename_i h0
    unfold may at hs
    have := radd_go l (s.1, s.1 + s.2) [] h (by simp only []; omega) (by simp only []; omega) (by simp only []; omega) ris_nil (by simp) (by simp)
    refine ⟨this.1, fun x => ?_, by have := this.2.2; simp at this; omega⟩
    rw [this.2.1 x]
    simp only [in_nil, false_or]
    exact Or.comm

/- The set of any spans, as the document's answer reckons it. -/
def rset (l : List Sp) : List Sp := l.foldl radd []
theorem rset_go : ∀ (l : List Sp) (o : List Sp), (∀ s ∈ l, may s) → Ris o → Ris (l.foldl radd o) ∧ (∀ x, In (l.foldl radd o) x ↔ In o x ∨ In l x) ∧ (l.foldl radd o).length ≤ o.length + l.length
  | [], o, _, ho => ⟨ho, fun x => by simp [in_nil], by simp⟩
  | s :: l, o, h, ho => by
    have r := radd_ok ho (h s (by simp))
    have := rset_go l (radd o s) (fun t ht => h t (by simp [ht])) r.1
    rw [List.foldl_cons]
    refine ⟨this.1, fun x => ?_, by have a := this.2.2; have b := r.2.2; simp; omega⟩
    rw [this.2.1 x, r.2.1 x, in_cons]
    constructor
    · rintro ((a | a) | a)
      · exact .inl a
      · exact .inr (.inl a)
      · exact .inr (.inr a)
    · rintro (a | a | a)
      · exact .inl (.inl a)
      · exact .inl (.inr a)
      · exact .inr a
theorem rset_ok {l : List Sp} (h : ∀ s ∈ l, may s) : Ris (rset l) ∧ (∀ x, In (rset l) x ↔ In l x) ∧ (rset l).length ≤ l.length := by
  have := rset_go l [] h ris_nil
  refine ⟨this.1, fun x => ?_, by have := this.2.2; rw [List.length_nil, Nat.zero_add] at this; exact this⟩
  rw [show rset l = l.foldl radd [] from rfl, this.2.1 x]
  simp [in_nil]

/- The set with a span, as the program goes: those ahead, then all that touch it taken in. -/
def absorb (s : Sp) : List Sp → Sp × List Sp
  | [] => (s, [])
  | t :: l => if t.1 ≤ s.1 + s.2 then absorb (around s t) l else (s, t :: l)
def padd (l : List Sp) (s : Sp) : List Sp :=
  if s.2 = 0 then l else l.takeWhile (fun t => decide (t.1 + t.2 < s.1)) ++ [(absorb s (l.dropWhile (fun t => decide (t.1 + t.2 < s.1)))).1] ++ (absorb s (l.dropWhile (fun t => decide (t.1 + t.2 < s.1)))).2
theorem absorb_ok : ∀ (l : List Sp) (s : Sp), Ris l → may s → 0 < s.2 → (∀ t ∈ l, s.1 ≤ t.1 + t.2) → Ris ([(absorb s l).1] ++ (absorb s l).2) ∧ (∀ x, In ([(absorb s l).1] ++ (absorb s l).2) x ↔ (s.1 ≤ x ∧ x < s.1 + s.2) ∨ In l x) ∧ may (absorb s l).1 ∧ 0 < (absorb s l).1.2 ∧ (∀ t, (∀ u ∈ l, t < u.1) → t < s.1 → t < (absorb s l).1.1) ∧ (absorb s l).2.length ≤ l.length ∧ (∀ t ∈ (absorb s l).2, t ∈ l)
  | [], s, _, hs, h0, _ => ⟨by simpa [absorb] using ris_one hs h0, fun x => by simp [absorb, in_one, in_nil], hs, h0, fun t _ h => h, by simp [absorb], by simp [absorb]⟩
  | t :: l, s, hl, hs, h0, hge => by
    obtain ⟨⟨ht, ht0⟩, htl, hl'⟩ := ris_cons.1 hl
    have hst := hge t (by simp)
    unfold absorb
    split
    · rename_i c
      unfold may at hs ht
      have := absorb_ok l (around s t) hl' (by unfold around may; simp only []; omega) (by unfold around; simp only []; omega)
        (fun u hu => by have := htl u hu; have := (hl'.2 u hu).2; unfold around; simp only []; omega)
      refine ⟨this.1, fun x => ?_, this.2.2.1, this.2.2.2.1, ?_, by have := this.2.2.2.2.2.1; simp; omega, fun u hu => by simp [this.2.2.2.2.2.2 u hu]⟩
      · rw [this.2.1 x, in_cons]
        unfold around
        simp only []
        constructor
        · rintro (a | a)
          · by_cases hx : s.1 ≤ x ∧ x < s.1 + s.2
            · exact .inl hx
            · exact .inr (.inl (by omega))
          · exact .inr (.inr a)
        · rintro (a | a | a)
          · exact .inl (by omega)
          · exact .inl (by omega)
          · exact .inr a
      · intro v hv hvs
        refine this.2.2.2.2.1 v (fun u hu => hv u (by simp [hu])) ?_
        have := hv t (by simp)
        unfold around
        simp only []
        omega
    · rename_i c
      refine ⟨?_, fun x => ?_, hs, h0, fun v _ h => h, by simp, fun u hu => hu⟩
      · refine ris_append.2 ⟨ris_one hs h0, hl, ?_⟩
        intro a ha b hb
        simp only [List.mem_singleton] at ha
        subst ha
        rcases List.mem_cons.1 hb with rfl | hb
        · omega
        · have := htl b hb; omega
      · rw [in_append, in_one]
theorem tw_split {α : Type} (p : α → Bool) (l : List α) : l.takeWhile p ++ l.dropWhile p = l := List.takeWhile_append_dropWhile
theorem padd_ok {l : List Sp} {s : Sp} (h : Ris l) (hs : may s) : Ris (padd l s) ∧ (∀ x, In (padd l s) x ↔ In l x ∨ (s.1 ≤ x ∧ x < s.1 + s.2)) ∧ (padd l s).length ≤ l.length + 1 := by
  unfold padd
  split
  · rename_i h0
    refine ⟨h, fun x => ?_, by omega⟩
    rw [h0]
    constructor
    · exact .inl
    · rintro (a | a)
      · exact a
      · omega
  · rename_i h0
    have hs0 : 0 < s.2 := by unfold may at hs; omega
    have e := tw_split (fun t : Sp => decide (t.1 + t.2 < s.1)) l
    have htw : ∀ t ∈ l.takeWhile (fun t : Sp => decide (t.1 + t.2 < s.1)), t.1 + t.2 < s.1 := by
      intro t ht
      have := List.all_takeWhile (p := fun t : Sp => decide (t.1 + t.2 < s.1)) (l := l)
      simpa using (List.all_eq_true.1 this) t ht
    have hdw : ∀ u r, l.dropWhile (fun t : Sp => decide (t.1 + t.2 < s.1)) = u :: r → s.1 ≤ u.1 + u.2 := by
      intro u r hu
      have := List.head?_dropWhile_not (fun t : Sp => decide (t.1 + t.2 < s.1)) l
      rw [hu] at this
      simpa using this
    generalize l.takeWhile (fun t : Sp => decide (t.1 + t.2 < s.1)) = p at *
    generalize l.dropWhile (fun t : Sp => decide (t.1 + t.2 < s.1)) = q at *
    subst e
    obtain ⟨hp, hq, hpq⟩ := ris_append.1 h
    have hge : ∀ t ∈ q, s.1 ≤ t.1 + t.2 := by
      intro t ht
      match q, hq, hdw, ht with
      | u :: r, hq, hdw, ht =>
        have hu := hdw u r rfl
        obtain ⟨⟨_, _⟩, hur, hr⟩ := ris_cons.1 hq
        rcases List.mem_cons.1 ht with rfl | ht
        · exact hu
        · have := hur t ht
          have := (hr.2 t ht).2
          omega
    obtain ⟨a1, a2, a3, a4, a5, a6, a7⟩ := absorb_ok q s hq hs hs0 hge
    refine ⟨?_, fun x => ?_, ?_⟩
    · rw [List.append_assoc]
      refine ris_append.2 ⟨hp, a1, ?_⟩
      intro u hu t ht
      rcases List.mem_append.1 ht with k | k
      · simp only [List.mem_singleton] at k
        subst k
        exact a5 (u.1 + u.2) (fun v hv => hpq u hu v hv) (htw u hu)
      · exact hpq u hu t (a7 t k)
    · rw [List.append_assoc, in_append, a2 x, in_append]
      constructor
      · rintro (a | a | a)
        · exact .inl (.inl a)
        · exact .inr a
        · exact .inl (.inr a)
      · rintro ((a | a) | a)
        · exact .inl a
        · exact .inr (.inr a)
        · exact .inr (.inl a)
    · simp only [List.length_append, List.length_singleton] at *
      omega
theorem padd_radd {l : List Sp} {s : Sp} (h : Ris l) (hs : may s) : padd l s = radd l s :=
  ext _ _ (padd_ok h hs).1 (radd_ok h hs).1 fun x => by rw [(padd_ok h hs).2.1, (radd_ok h hs).2.1]
theorem drop_radd {l : List Sp} {s : Sp} (h : Ris l) (hs : may s) : drop (radd l s) s = drop l s :=
  ext _ _ (drop_ris (radd_ok h hs).1 s) (drop_ris h s) fun x => by
    rw [drop_in, drop_in, (radd_ok h hs).2.1]
    constructor
    · rintro ⟨a | a, b⟩
      · exact ⟨a, b⟩
      · exact absurd a b
    · rintro ⟨a, b⟩
      exact ⟨.inl a, b⟩
end Go.Proofs.Ytoboialfaifbgaa.MSpM
