/- Plain facts on what zones are for, of no program: how many have a role, which, the lowest, what may be taken, what may follow. -/
namespace Go.Proofs.Ytoboialfaifbgaa.PlM

/-- Which places, counted from c, have the role r. -/
def lst : Int → List Int → Int → List Int
  | _, [], _ => []
  | c, x :: xs, r => if x = r then c :: lst (c + 1) xs r else lst (c + 1) xs r
/-- How many have the role r. -/
def cnt : List Int → Int → Nat
  | [], _ => 0
  | x :: xs, r => (if x = r then 1 else 0) + cnt xs r
theorem lst_len (c : Int) (R : List Int) (r : Int) : (lst c R r).length = cnt R r := by
  induction R generalizing c with
  | nil => rfl
  | cons x xs ih =>
    unfold lst cnt
    split
    · simp [ih]; omega
    · simp [ih]
theorem cnt_append (a b : List Int) (r : Int) : cnt (a ++ b) r = cnt a r + cnt b r := by
  induction a with
  | nil => simp [cnt]
  | cons x xs ih => simp only [List.cons_append, cnt, ih]; omega
theorem lst_append (c : Int) (a b : List Int) (r : Int) : lst c (a ++ b) r = lst c a r ++ lst (c + a.length) b r := by
  induction a generalizing c with
  | nil => simp [lst]
  | cons x xs ih =>
    have e : c + 1 + (xs.length : Int) = c + ((x :: xs).length : Int) := by simp; omega
    simp only [List.cons_append, lst, ih, e]
    split <;> simp
theorem take_succ_of {R : List Int} {i : Nat} {x : Int} (h : R[i]? = some x) : R.take (i + 1) = R.take i ++ [x] := by
  rw [List.take_add_one, h]; rfl
theorem cnt_take {R : List Int} {i : Nat} {x : Int} (h : R[i]? = some x) (r : Int) : cnt (R.take (i + 1)) r = cnt (R.take i) r + (if x = r then 1 else 0) := by
  rw [take_succ_of h, cnt_append]; simp [cnt]
theorem lst_get {c : Int} {R : List Int} {i : Nat} {x r : Int} (h : R[i]? = some x) (hx : x = r) : (lst c R r)[cnt (R.take i) r]? = some (c + i) := by
  have hi : i < R.length := (List.getElem?_eq_some_iff.1 h).1
  have e : R = R.take i ++ (x :: R.drop (i + 1)) := by
    have h2 : R[i] = x := (List.getElem?_eq_some_iff.1 h).2
    rw [← h2, ← List.drop_eq_getElem_cons hi, List.take_append_drop]
  rw [e, lst_append]
  have e2 : (List.take i R ++ x :: List.drop (i + 1) R).take i = R.take i := by
    rw [List.take_append_of_le_length (by simp; omega), List.take_of_length_le (by simp; omega)]
  rw [e2, List.getElem?_append_right (by rw [lst_len]; exact Nat.le_refl _), lst_len, Nat.sub_self]
  simp only [lst, hx, if_true, List.length_take]
  simp
  omega
theorem cnt_le (R : List Int) (r : Int) : cnt R r ≤ R.length := by
  induction R with
  | nil => simp [cnt]
  | cons x xs ih => simp only [cnt, List.length_cons]; split <;> omega
theorem cnt_take_le (R : List Int) (r : Int) (i : Nat) : cnt (R.take i) r ≤ cnt R r := by
  have h := cnt_append (R.take i) (R.drop i) r
  rw [List.take_append_drop] at h
  omega
theorem cnt_set {R : List Int} {i : Nat} {a : Int} (h : R[i]? = some a) (b r : Int) : cnt (R.set i b) r + (if a = r then 1 else 0) = cnt R r + (if b = r then 1 else 0) := by
  induction R generalizing i with
  | nil => simp at h
  | cons x xs ih =>
    cases i with
    | zero =>
      simp at h
      subst h
      simp only [List.set_cons_zero, cnt]
      omega
    | succ i =>
      simp only [List.set_cons_succ, cnt]
      have := ih (by simpa using h)
      omega
theorem cnt_rep (n : Nat) (r : Int) : cnt (List.replicate n 0) r = if r = 0 then n else 0 := by
  induction n with
  | zero => simp [cnt]
  | succ n ih =>
    rw [List.replicate_succ]
    simp only [cnt, ih]
    by_cases h : r = 0
    · simp [h]; omega
    · rw [if_neg h, if_neg (fun e => h e.symm), if_neg h]
/-- All are roles. -/
def ok (R : List Int) : Prop := ∀ x ∈ R, 0 ≤ x ∧ x ≤ 5
theorem ok_rep (n : Nat) : ok (List.replicate n 0) := by
  intro x hx
  have := List.eq_of_mem_replicate hx
  omega
theorem ok_set {R : List Int} (h : ok R) {b : Int} (hb : 0 ≤ b ∧ b ≤ 5) (i : Nat) : ok (R.set i b) := by
  intro x hx
  rcases List.mem_or_eq_of_mem_set hx with h1 | h1
  · exact h x h1
  · subst h1; exact hb
theorem cnt_all {R : List Int} (h : ok R) : cnt R 0 + cnt R 1 + cnt R 2 + cnt R 3 + cnt R 4 + cnt R 5 = R.length := by
  induction R with
  | nil => rfl
  | cons x xs ih =>
    have h1 := h x (by simp)
    have h2 := ih (fun y hy => h y (by simp [hy]))
    simp only [cnt, List.length_cons]
    split <;> split <;> split <;> split <;> split <;> split <;> omega
/-- How many are the cache's. -/
def cac (R : List Int) : Nat := cnt R 2 + cnt R 3
def sound (k b : Int) (R : List Int) : Prop := (cac R : Int) ≤ k ∧ cnt R 2 ≤ 1 ∧ cnt R 4 ≤ 1 ∧ (cnt R 1 : Int) ≤ b
instance (k b : Int) (R : List Int) : Decidable (sound k b R) := by unfold sound; exact inferInstance
/-- The lowest place that has the role r; how many there are, if none has. -/
def low : List Int → Int → Nat
  | [], _ => 0
  | x :: xs, r => if x = r then 0 else low xs r + 1
theorem low_get {R : List Int} {r : Int} (h : 0 < cnt R r) : R[low R r]? = some r := by
  induction R with
  | nil => simp [cnt] at h
  | cons x xs ih =>
    unfold low
    split
    · rename_i h1; simp [h1]
    · rename_i h1
      simp only [cnt, if_neg h1] at h
      simpa using ih (by omega)
theorem low_before {R : List Int} {r : Int} {i : Nat} (h : i < low R r) : ∃ x, R[i]? = some x ∧ x ≠ r := by
  induction R generalizing i with
  | nil => simp [low] at h
  | cons x xs ih =>
    unfold low at h
    split at h
    · omega
    · rename_i h1
      cases i with
      | zero => exact ⟨x, by simp, h1⟩
      | succ i =>
        obtain ⟨y, h2, h3⟩ := ih (i := i) (by omega)
        exact ⟨y, by simpa using h2, h3⟩
theorem low_le (R : List Int) (r : Int) : low R r ≤ R.length := by
  induction R with
  | nil => simp [low]
  | cons x xs ih => unfold low; split <;> simp; omega
theorem low_of {R : List Int} {r : Int} {i : Nat} (h : ∀ j, j < i → ∃ x, R[j]? = some x ∧ x ≠ r) (h2 : R[i]? = some r) : low R r = i := by
  have h3 : ¬ low R r < i := by
    intro hl
    obtain ⟨x, h4, h5⟩ := h _ hl
    have h6 : 0 < cnt R r := by
      have := cnt_take h2 r
      have := cnt_take_le R r (i + 1)
      simp at *
      omega
    rw [low_get h6] at h4
    exact h5 (by injection h4 with h4; exact h4.symm)
  have h4 : ¬ i < low R r := by
    intro hl
    obtain ⟨x, h5, h6⟩ := low_before hl
    rw [h2] at h5
    exact h6 (by injection h5 with h5; exact h5.symm)
  omega

/-- What is told of Take. -/
def tkE (k : Int) (R : List Int) (r : Int) : Int := if r = 2 then (if cnt R 2 = 0 ∧ (cac R : Int) < k ∧ 2 ≤ cnt R 0 then 0 else 140) else if r = 4 then (if cnt R 4 = 0 ∧ 1 ≤ cnt R 0 then 0 else 140) else 141
def tkR (k : Int) (R : List Int) (r : Int) : List Int := if tkE k R r = 0 then R.set (low R 0) r else R
def tkZ (c k : Int) (R : List Int) (r : Int) : Int := if tkE k R r = 0 then c + low R 0 else 0
/-- May b follow a? -/
def fol (a b : Int) : Prop := (b = 5 ∧ a ≠ 5) ∨ (b = 0 ∧ (a = 3 ∨ a = 1 ∨ a = 4)) ∨ (b = 1 ∧ a = 4) ∨ (b = 3 ∧ a = 2)
instance (a b : Int) : Decidable (fol a b) := by unfold fol; exact inferInstance
/-- What is told of Set. -/
def stE (c s b : Int) (R : List Int) (z r : Int) : Int := if c ≤ z ∧ z < c + s then (if fol (R.getD (z - c).toNat 0) r ∧ ¬ (r = 1 ∧ b ≤ (cnt R 1 : Int)) then 0 else 141) else 1
def stR (c s b : Int) (R : List Int) (z r : Int) : List Int := if stE c s b R z r = 0 then R.set (z - c).toNat r else R

theorem tk_len (k : Int) (R : List Int) (r : Int) : (tkR k R r).length = R.length := by unfold tkR; split <;> simp
theorem st_len (c s b : Int) (R : List Int) (z r : Int) : (stR c s b R z r).length = R.length := by unfold stR; split <;> simp
theorem tk_cases {k : Int} {R : List Int} {r : Int} (h : tkE k R r = 0) : (r = 2 ∧ cnt R 2 = 0 ∧ (cac R : Int) < k ∧ 2 ≤ cnt R 0) ∨ (r = 4 ∧ cnt R 4 = 0 ∧ 1 ≤ cnt R 0) := by
  unfold tkE at h
  split at h
  · split at h
    · rename_i h1 h2; exact .inl ⟨h1, h2⟩
    · omega
  · split at h
    · split at h
      · rename_i h1 h2; exact .inr ⟨h1, h2⟩
      · omega
    · omega
theorem st_cases {c s b : Int} {R : List Int} {z r : Int} (h : stE c s b R z r = 0) : (c ≤ z ∧ z < c + s) ∧ fol (R.getD (z - c).toNat 0) r ∧ ¬ (r = 1 ∧ b ≤ (cnt R 1 : Int)) := by
  unfold stE at h
  split at h
  · split at h
    · rename_i h1 h2; exact ⟨h1, h2⟩
    · omega
  · omega
theorem tk_ok {k : Int} {R : List Int} {r : Int} (h : ok R) : ok (tkR k R r) := by
  unfold tkR
  split
  · rename_i h1
    rcases tk_cases h1 with ⟨rfl, _⟩ | ⟨rfl, _⟩ <;> exact ok_set h (by omega) _
  · exact h
theorem st_ok {c s b : Int} {R : List Int} {z r : Int} (h : ok R) : ok (stR c s b R z r) := by
  unfold stR
  split
  · rename_i h1
    obtain ⟨_, h2, _⟩ := st_cases h1
    refine ok_set h ?_ _
    unfold fol at h2
    omega
  · exact h
theorem tk_sound {k b : Int} {R : List Int} {r : Int} (h : sound k b R) : sound k b (tkR k R r) := by
  unfold tkR
  split
  · rename_i h1
    have hc := tk_cases h1
    have h0 : 0 < cnt R 0 := by omega
    have hg := low_get h0
    have e := fun q => cnt_set hg r q
    have e1 := e 1
    have e2 := e 2
    have e3 := e 3
    have e4 := e 4
    unfold sound cac at *
    rcases hc with ⟨rfl, hc⟩ | ⟨rfl, hc⟩ <;> simp at e1 e2 e3 e4 <;> omega
  · exact h
theorem st_sound {c s b k : Int} {R : List Int} {z r : Int} (hl : (R.length : Int) = s) (h : sound k b R) : sound k b (stR c s b R z r) := by
  unfold stR
  split
  · rename_i h1
    obtain ⟨h2, h3, h4⟩ := st_cases h1
    have hlt : (z - c).toNat < R.length := by omega
    have hg : R[(z - c).toNat]? = some (R.getD (z - c).toNat 0) := by
      rw [List.getD_eq_getElem?_getD, List.getElem?_eq_getElem hlt]; rfl
    generalize R.getD (z - c).toNat 0 = a at h3 hg
    have e := fun q => cnt_set hg r q
    have e1 := e 1
    have e2 := e 2
    have e3 := e 3
    have e4 := e 4
    unfold sound cac at *
    unfold fol at h3
    rcases h3 with ⟨rfl, h3⟩ | ⟨rfl, rfl | rfl | rfl⟩ | ⟨rfl, rfl⟩ | ⟨rfl, rfl⟩
    · simp at e1 e2 e3 e4
      split at e1 <;> split at e2 <;> split at e3 <;> split at e4 <;> omega
    all_goals simp at e1 e2 e3 e4
    all_goals omega
  · exact h
/-- No zone is bad. -/
theorem st_bad {c s b : Int} {R : List Int} {z r : Int} (hl : (R.length : Int) = s) (hr : r ≠ 5) (h : cnt R 5 = 0) : cnt (stR c s b R z r) 5 = 0 := by
  unfold stR
  split
  · rename_i h1
    obtain ⟨h2, h3, h4⟩ := st_cases h1
    have hlt : (z - c).toNat < R.length := by omega
    have hg : R[(z - c).toNat]? = some (R.getD (z - c).toNat 0) := by
      rw [List.getD_eq_getElem?_getD, List.getElem?_eq_getElem hlt]; rfl
    have e := cnt_set hg r 5
    rw [if_neg hr] at e
    omega
  · exact h
theorem tk_bad {k : Int} {R : List Int} {r : Int} (h : cnt R 5 = 0) : cnt (tkR k R r) 5 = 0 := by
  unfold tkR
  split
  · rename_i h1
    have hc := tk_cases h1
    have h0 : 0 < cnt R 0 := by omega
    have e := cnt_set (low_get h0) r 5
    have : r ≠ 5 := by omega
    rw [if_neg this] at e
    omega
  · exact h
/-- There is a free zone, or a spare one. -/
theorem spare {k b : Int} {R : List Int} (ho : ok R) (h : sound k b R) (hb : cnt R 5 = 0) (hl : (R.length : Int) = b + k + 1) : 1 ≤ cnt R 0 + cnt R 4 := by
  have := cnt_all ho
  unfold sound cac at h
  omega
end Go.Proofs.Ytoboialfaifbgaa.PlM
