import Derived.Test.YtoboialfaifbgaaVaB
import Derived.Test.YtoboialfaifbgaaHvA
import Derived.Test.YtoboialfaifbgaaVaG
import Derived.Test.YtoboialfaifbgaaSpJ
/- Contract: whether extents' sectors are apart, by the document. Conditions: the extents read as a list of at most 1000 structs of whole numbers of 64 bits; the geometry's Seq has 64 bits. -/
namespace Go.Proofs.Ytoboialfaifbgaa.VaH
open Go.RowKit MSep MGeM GeA PgA PgB VaA VaB VaC VaF VaG

/-- Two extents have a zone's sector in common. -/
def clash (x y : Ex) : Prop := x.z ≠ 255 ∧ x.z = y.z ∧ x.o < y.o + y.m ∧ y.o < x.o + x.m
instance (x y : Ex) : Decidable (clash x y) := by unfold clash; exact inferInstance
def apL (xs : List Ex) : Prop := xs.Pairwise (fun y x => ¬ clash x y)
instance (xs : List Ex) : Decidable (apL xs) := by unfold apL; exact inferInstance
def apB (g : Ge) (xs : List Ex) : Bool := vM g xs && decide (apL xs)
theorem apL_snoc {xs : List Ex} {i : Nat} {x : Ex} (h : xs[i]? = some x) (h1 : apL (xs.take i)) (h2 : ∀ y ∈ xs.take i, ¬ clash x y) : apL (xs.take (i + 1)) := by
  unfold apL at *
  rw [take_snoc h, List.pairwise_append]
  exact ⟨h1, List.pairwise_singleton _ _, fun a ha b hb => by simp only [List.mem_singleton] at hb; subst hb; exact h2 a ha⟩
theorem apL_no {xs : List Ex} {i k : Nat} {x y : Ex} (hx : xs[i]? = some x) (hy : xs[k]? = some y) (hk : k < i) (hc : clash x y) : ¬ apL xs := by
  intro h
  obtain ⟨h1, rfl⟩ := List.getElem?_eq_some_iff.1 hx
  obtain ⟨h2, rfl⟩ := List.getElem?_eq_some_iff.1 hy
  exact List.pairwise_iff_getElem.1 h k i h2 h1 hk hc
theorem okX_in {g : Ge} {x : Ex} (h : okX g x) : (0 ≤ x.m ∧ x.m ≤ 1099511627776) ∧ 0 ≤ x.o ∧ x.o ≤ 1099511627776 := by
  obtain ⟨h1, _, h3⟩ := h
  obtain ⟨h4, h5, _⟩ := cko0 h1
  obtain ⟨_, _, h6⟩ := inG h4
  refine ⟨by omega, ?_⟩
  rcases h3 with ⟨_, h3⟩ | ⟨_, _, h3⟩ <;> omega
end Go.Proofs.Ytoboialfaifbgaa.VaH
/- Plain facts, of no program: the live sectors of a zone as a set, made extent by extent or place by place; as many of them as lie there, where no two extents have one in common. -/
namespace Go.Proofs.Ytoboialfaifbgaa.VaN
open MGeM PgA PgB VaC VaD VaG VaH MSpM SpJ


/-- The sectors of an extent, within its zone. -/
def sx (x : Ex) : Sp := (x.o, x.m)
/-- The set of all of them, one by one. -/
def pl (L : List Ex) : List Sp := L.foldl (fun S x => padd S (sx x)) []
theorem pl_snoc (L : List Ex) (x : Ex) : pl (L ++ [x]) = padd (pl L) (sx x) := by simp [pl, List.foldl_append]
theorem pl_go : ∀ (L : List Ex) (S : List Sp), Ris S → (∀ x ∈ L, may (sx x)) → Ris (L.foldl (fun S x => padd S (sx x)) S) ∧ (∀ k, In (L.foldl (fun S x => padd S (sx x)) S) k ↔ In S k ∨ ∃ x ∈ L, x.o ≤ k ∧ k < x.o + x.m) ∧ (L.foldl (fun S x => padd S (sx x)) S).length ≤ S.length + L.length
  | [], S, hS, _ => ⟨hS, fun k => by simp, by simp⟩
  | x :: L, S, hS, hm => by
    obtain ⟨h1, h2, h3⟩ := padd_ok hS (hm x (by simp))
    obtain ⟨i1, i2, i3⟩ := pl_go L (padd S (sx x)) h1 (fun y hy => hm y (List.mem_cons_of_mem _ hy))
    refine ⟨i1, fun k => ?_, ?_⟩
    · rw [List.foldl_cons, i2, h2]
      simp only [List.mem_cons, exists_eq_or_imp, sx, or_assoc]
    · rw [List.foldl_cons, List.length_cons]
      omega
theorem pl_ok {L : List Ex} (h : ∀ x ∈ L, may (sx x)) : Ris (pl L) ∧ (∀ k, In (pl L) k ↔ ∃ x ∈ L, x.o ≤ k ∧ k < x.o + x.m) ∧ (pl L).length ≤ L.length := by
  obtain ⟨h1, h2, h3⟩ := pl_go L [] ris_nil h
  refine ⟨h1, fun k => ?_, by simpa [pl] using h3⟩
  rw [pl, h2]
  simp [in_nil]
theorem lv_pos {L : List Ex} {z k : Int} : 0 < lv L z k ↔ ∃ x ∈ L, x.z = z ∧ x.o ≤ k ∧ k < x.o + x.m := by
  induction L with
  | nil => simp [lv]
  | cons y l ih =>
    simp only [lv, List.mem_cons, exists_eq_or_imp, ← ih]
    split <;> rename_i h <;> omega
theorem pl_lv {L : List Ex} {z : Int} (h : ∀ x ∈ L, may (sx x)) (k : Int) : In (pl (L.filter (inZ z))) k ↔ 0 < lv L z k := by
  rw [(pl_ok (fun x hx => h x (List.mem_filter.1 hx).1)).2.1, lv_pos]
  constructor
  · rintro ⟨x, hx, h1⟩
    obtain ⟨h2, h3⟩ := List.mem_filter.1 hx
    exact ⟨x, h2, by simpa [inZ] using h3, h1⟩
  · rintro ⟨x, h2, h3, h1⟩
    exact ⟨x, List.mem_filter.2 ⟨h2, by simpa [inZ] using h3⟩, h1⟩
/-- The last span, one longer. -/
def bump (l : List Sp) : List Sp := match l.getLast? with | none => [] | some s => l.dropLast ++ [(s.1, s.2 + 1)]
theorem bump_snoc (l : List Sp) (s : Sp) : bump (l ++ [s]) = l ++ [(s.1, s.2 + 1)] := by simp [bump]
/-- The set of the first n places that are so, place by place. -/
def rl (f : Nat → Bool) : Nat → List Sp
  | 0 => []
  | n + 1 => if f n = false then rl f n else if 0 < n ∧ f (n - 1) = true then bump (rl f n) else rl f n ++ [((n : Int), 1)]
theorem rl_inv (f : Nat → Bool) : ∀ n : Nat, n ≤ 1000000 → Ris (rl f n) ∧ (∀ x, In (rl f n) x ↔ ∃ k : Nat, k < n ∧ x = k ∧ f k = true) ∧ (rl f n).length ≤ n ∧ (∀ s ∈ rl f n, s.1 + s.2 ≤ n) ∧
      (if 0 < n ∧ f (n - 1) = true then ∃ l a m, rl f n = l ++ [(a, m)] ∧ a + m = (n : Int) else ∀ s ∈ rl f n, s.1 + s.2 < n)
  | 0, _ => ⟨ris_nil, fun x => by simp [rl, in_nil], by simp [rl], by simp [rl], by simp [rl]⟩
  | n + 1, hn => by
    obtain ⟨h1, h2, h3, h4, h5⟩ := rl_inv f n (by omega)
    unfold rl
    cases hf : f n with
    | false =>
      rw [if_pos rfl, if_neg (by simp [hf])]
      refine ⟨h1, fun x => ?_, by omega, fun s hs => by have := h4 s hs; omega, fun s hs => by have := h4 s hs; omega⟩
      rw [h2]
      constructor
      · rintro ⟨k, hk, e⟩; exact ⟨k, by omega, e⟩
      · rintro ⟨k, hk, e, e2⟩
        rcases Nat.lt_or_eq_of_le (Nat.le_of_lt_succ hk) with h | h
        · exact ⟨k, h, e, e2⟩
        · subst h; rw [hf] at e2; cases e2
    | true =>
      rw [if_neg (by decide)]
      have hmem : ∀ x : Int, (∃ k : Nat, k < n + 1 ∧ x = k ∧ f k = true) ↔ (∃ k : Nat, k < n ∧ x = k ∧ f k = true) ∨ x = n := by
        intro x
        constructor
        · rintro ⟨k, hk, e, e2⟩
          rcases Nat.lt_or_eq_of_le (Nat.le_of_lt_succ hk) with h | h
          · exact .inl ⟨k, h, e, e2⟩
          · subst h; exact .inr e
        · rintro (⟨k, hk, e⟩ | e)
          · exact ⟨k, by omega, e⟩
          · exact ⟨n, by omega, e, hf⟩
      by_cases hp : 0 < n ∧ f (n - 1) = true
      · rw [if_pos hp]
        rw [if_pos hp] at h5
        obtain ⟨l, a, m, e, ea⟩ := h5
        rw [e] at h1 h2 h3 h4 ⊢
        rw [bump_snoc]
        dsimp only
        obtain ⟨r1, r2, r3⟩ := ris_append.1 h1
        have hm := (r2.2 (a, m) (by simp)).1
        have hm0 := (r2.2 (a, m) (by simp)).2
        unfold may at hm
        dsimp only at hm hm0
        refine ⟨ris_append.2 ⟨r1, ris_one (by unfold may; dsimp only; omega) (by dsimp only; omega), fun s hs t ht => ?_⟩, fun x => ?_, ?_, ?_, ?_⟩
        · have := r3 s hs (a, m) (by simp)
          simp only [List.mem_singleton] at ht
          subst ht
          exact this
        · rw [in_append, in_one, hmem, ← h2, in_append, in_one]
          dsimp only
          rcases Classical.em (In l x) with hP | hP
          · exact ⟨fun _ => .inl (.inl hP), fun _ => .inl hP⟩
          · simp only [hP, false_or]
            omega
        · rw [List.length_append] at h3 ⊢
          simp at h3 ⊢
          omega
        · intro s hs
          rcases List.mem_append.1 hs with hs | hs
          · have := h4 s (List.mem_append_left _ hs); omega
          · simp only [List.mem_singleton] at hs
            subst hs
            dsimp only
            omega
        · rw [if_pos ⟨by omega, by simpa using hf⟩]
          exact ⟨l, a, m + 1, rfl, by omega⟩
      · rw [if_neg hp]
        rw [if_neg hp] at h5
        refine ⟨ris_append.2 ⟨h1, ris_one (by unfold may; dsimp only; omega) (by dsimp only; omega), fun s hs t ht => ?_⟩, fun x => ?_, ?_, ?_, ?_⟩
        · simp only [List.mem_singleton] at ht
          subst ht
          exact h5 s hs
        · rw [in_append, in_one, hmem, ← h2]
          dsimp only
          rcases Classical.em (In (rl f n) x) with hP | hP
          · exact ⟨fun _ => .inl hP, fun _ => .inl hP⟩
          · simp only [hP, false_or]
            omega
        · rw [List.length_append]
          simp
          omega
        · intro s hs
          rcases List.mem_append.1 hs with hs | hs
          · have := h4 s hs; omega
          · simp only [List.mem_singleton] at hs
            subst hs
            dsimp only
            omega
        · rw [if_pos ⟨by omega, by simpa using hf⟩]
          exact ⟨rl f n, n, 1, rfl, by omega⟩
/-- The live sectors of a zone: set by extents, or place by place. -/
def lvB (L : List Ex) (z : Int) (k : Nat) : Bool := decide (0 < lv L z k)
theorem pl_rl {L : List Ex} {z : Int} {n : Nat} (hn : n ≤ 1000000) (h : ∀ x ∈ L, may (sx x)) (hb : ∀ x ∈ L, x.z = z → x.o + x.m ≤ n) : pl (L.filter (inZ z)) = rl (lvB L z) n := by
  obtain ⟨r1, r2, _⟩ := rl_inv (lvB L z) n hn
  refine ext _ _ (pl_ok (fun x hx => h x (List.mem_filter.1 hx).1)).1 r1 (fun k => ?_)
  rw [pl_lv h, r2]
  constructor
  · intro hk
    obtain ⟨x, hx, hz, h1, h2⟩ := lv_pos.1 hk
    have h3 := h x hx
    unfold may sx at h3
    dsimp only at h3
    have h4 := hb x hx hz
    refine ⟨k.toNat, by omega, by omega, ?_⟩
    unfold lvB
    rw [show ((k.toNat : Nat) : Int) = k by omega]
    exact decide_eq_true hk
  · rintro ⟨j, _, rfl, h1⟩
    exact of_decide_eq_true h1
/-- The sum of the first n. -/
def sm (f : Nat → Nat) : Nat → Nat
  | 0 => 0
  | n + 1 => sm f n + f n
theorem sm_zero : ∀ n, sm (fun _ => 0) n = 0
  | 0 => rfl
  | n + 1 => by simp only [sm, sm_zero n]
theorem sm_add (f g : Nat → Nat) : ∀ n, sm (fun k => f k + g k) n = sm f n + sm g n
  | 0 => rfl
  | n + 1 => by simp only [sm, sm_add f g n]; omega
theorem sm_congr {f g : Nat → Nat} : ∀ {n : Nat}, (∀ k, k < n → f k = g k) → sm f n = sm g n
  | 0, _ => rfl
  | n + 1, h => by simp only [sm]; rw [sm_congr (fun k hk => h k (by omega)), h n (by omega)]
theorem sm_le {f g : Nat → Nat} : ∀ {n : Nat}, (∀ k, k < n → f k ≤ g k) → sm f n ≤ sm g n ∧ (sm f n = sm g n → ∀ k, k < n → f k = g k)
  | 0, _ => ⟨Nat.le_refl _, fun _ k hk => by omega⟩
  | n + 1, h => by
    obtain ⟨h1, h2⟩ := sm_le (f := f) (g := g) (n := n) (fun k hk => h k (by omega))
    have h3 := h n (by omega)
    simp only [sm]
    refine ⟨by omega, fun e k hk => ?_⟩
    rcases Nat.lt_or_eq_of_le (Nat.le_of_lt_succ hk) with hk | rfl
    · exact h2 (by omega) k hk
    · omega
theorem sm_ind (a m : Int) (ha : 0 ≤ a) (hm : 0 ≤ m) : ∀ n : Nat, (sm (fun k => if a ≤ (k : Int) ∧ (k : Int) < a + m then 1 else 0) n : Int) = max 0 (min (n : Int) (a + m) - a)
  | 0 => by simp only [sm]; omega
  | n + 1 => by
    have ih := sm_ind a m ha hm n
    simp only [sm]
    split <;> rename_i h <;> omega
theorem cz_sm {L : List Ex} {z : Int} {n : Nat} (h : ∀ x ∈ L, x.z = z → 0 ≤ x.o ∧ 0 ≤ x.m ∧ x.o + x.m ≤ n) : cz L z = (sm (fun k => lv L z k) n : Int) := by
  induction L with
  | nil =>
    rw [sm_congr (f := fun k => lv [] z k) (g := fun _ => 0) (n := n) (fun k _ => rfl), sm_zero]
    rfl
  | cons y l ih =>
    have ih := ih (fun x hx => h x (List.mem_cons_of_mem _ hx))
    have e : sm (fun k => lv (y :: l) z k) n = sm (fun k => if y.z = z ∧ y.o ≤ (k : Int) ∧ (k : Int) < y.o + y.m then 1 else 0) n + sm (fun k => lv l z k) n := sm_add _ _ n
    rw [e]
    simp only [cz]
    by_cases hz : y.z = z
    · obtain ⟨h1, h2, h3⟩ := h y (by simp) hz
      have := sm_ind y.o y.m h1 h2 n
      simp only [hz, true_and, if_true]
      rw [ih]
      omega
    · have e0 : sm (fun k => if y.z = z ∧ y.o ≤ (k : Int) ∧ (k : Int) < y.o + y.m then 1 else 0) n = 0 := by
        rw [sm_congr (f := fun k => if y.z = z ∧ y.o ≤ (k : Int) ∧ (k : Int) < y.o + y.m then 1 else 0) (g := fun _ => 0) (n := n) (fun k _ => if_neg (fun c => hz c.1)), sm_zero]
      rw [e0, ih, if_neg hz]
      omega
def inb (S : List Sp) (k : Nat) : Nat := if S.any (fun s => decide (s.1 ≤ (k : Int)) && decide ((k : Int) < s.1 + s.2)) = true then 1 else 0
theorem inb_in (S : List Sp) (k : Nat) : inb S k = 1 ↔ In S k := by
  have e : (S.any (fun s => decide (s.1 ≤ (k : Int)) && decide ((k : Int) < s.1 + s.2)) = true) ↔ In S k := by simp [In, List.any_eq_true, Bool.and_eq_true]
  unfold inb
  split
  · rename_i h
    exact ⟨fun _ => e.1 h, fun _ => rfl⟩
  · rename_i h
    exact ⟨fun h2 => absurd h2 (by decide), fun h2 => absurd (e.2 h2) h⟩
theorem inb_le (S : List Sp) (k : Nat) : inb S k ≤ 1 := by unfold inb; split <;> omega
theorem tot_sm : ∀ {S : List Sp} {n : Nat}, Ris S → (∀ s ∈ S, s.1 + s.2 ≤ n) → tot S = (sm (inb S) n : Int)
  | [], n, _, _ => by
    rw [sm_congr (f := inb []) (g := fun _ => 0) (n := n) (fun k _ => rfl), sm_zero]
    rfl
  | s :: l, n, h, hb => by
    obtain ⟨⟨hm, hp⟩, h1, h2⟩ := ris_cons.1 h
    have ih := tot_sm (S := l) (n := n) h2 (fun t ht => hb t (List.mem_cons_of_mem _ ht))
    have hs := hb s (by simp)
    unfold may at hm
    have e : ∀ k, k < n → inb (s :: l) k = (if s.1 ≤ (k : Int) ∧ (k : Int) < s.1 + s.2 then 1 else 0) + inb l k := by
      intro k _
      have h3 := inb_in (s :: l) k
      have h4 := inb_in l k
      have h5 := inb_le (s :: l) k
      have h6 := inb_le l k
      rw [in_cons] at h3
      by_cases hk : s.1 ≤ (k : Int) ∧ (k : Int) < s.1 + s.2
      · rw [if_pos hk]
        have : ¬ In l k := by
          rintro ⟨t, ht, h7, _⟩
          have := h1 t ht
          omega
        have h8 : inb l k = 0 := by
          have : ¬ inb l k = 1 := fun e => this (h4.1 e)
          omega
        rw [h8, h3.2 (.inl hk)]
      · rw [if_neg hk]
        by_cases hl : In l k
        · rw [h4.2 hl, h3.2 (.inr hl)]
        · have : ¬ inb l k = 1 := fun e => hl (h4.1 e)
          have : ¬ inb (s :: l) k = 1 := fun e => (h3.1 e).elim hk hl
          omega
    rw [sm_congr e, sm_add, show tot (s :: l) = s.2 + tot l by simp [tot], ih]
    have := sm_ind s.1 s.2 (by omega) (by omega) n
    omega
/-- As many sectors are live as lie in a zone just where no two of its extents have one in common. -/
theorem tot_iff {L : List Ex} {z : Int} {n : Nat} (hn : n ≤ 1000000) (h : ∀ x ∈ L, may (sx x)) (hb : ∀ x ∈ L, x.z = z → x.o + x.m ≤ n) : tot (pl (L.filter (inZ z))) = cz L z ↔ ∀ k : Nat, k < n → lv L z k ≤ 1 := by
  have e := pl_rl hn h hb
  obtain ⟨r1, _, _, r4, _⟩ := rl_inv (lvB L z) n hn
  rw [tot_sm (pl_ok (fun x hx => h x (List.mem_filter.1 hx).1)).1 (by rw [e]; exact r4), cz_sm (n := n) (fun x hx hz => by have := h x hx; unfold may sx at this; dsimp only at this; have := hb x hx hz; omega)]
  have hi : ∀ k, inb (pl (L.filter (inZ z))) k = if 0 < lv L z k then 1 else 0 := fun k => by
    have h1 := inb_in (pl (L.filter (inZ z))) k
    rw [pl_lv h] at h1
    have h2 := inb_le (pl (L.filter (inZ z))) k
    split <;> rename_i h3
    · exact h1.2 h3
    · have : ¬ inb (pl (L.filter (inZ z))) k = 1 := fun e => h3 (h1.1 e)
      omega
  have hle : ∀ k, k < n → inb (pl (L.filter (inZ z))) k ≤ lv L z k := fun k _ => by rw [hi]; split <;> omega
  obtain ⟨s1, s2⟩ := sm_le hle
  constructor
  · intro e2 k hk
    have := s2 (by omega) k hk
    have h6 := inb_le (pl (L.filter (inZ z))) k
    omega
  · intro h2
    have := sm_congr (f := inb (pl (L.filter (inZ z)))) (g := fun k => lv L z k) (n := n) (fun k hk => by
      have := h2 k hk
      rw [hi]
      split <;> omega)
    rw [this]
theorem ap_cons (y : Ex) (l : List Ex) : apL (y :: l) ↔ (∀ x ∈ l, ¬ clash x y) ∧ apL l := by unfold apL; rw [List.pairwise_cons]
theorem ap_lv {n : Nat} : ∀ {L : List Ex}, (∀ x ∈ L, 1 ≤ x.m ∧ 0 ≤ x.o ∧ (x.z ≠ 255 → x.o + x.m ≤ n)) → (apL L ↔ ∀ z : Int, z ≠ 255 → ∀ k : Nat, k < n → lv L z k ≤ 1)
  | [], _ => ⟨fun _ z _ k _ => by simp [lv], fun _ => by unfold apL; exact List.Pairwise.nil⟩
  | y :: l, h => by
    have ih := ap_lv (L := l) (fun x hx => h x (List.mem_cons_of_mem _ hx))
    rw [ap_cons, ih]
    obtain ⟨y1, y2, y3⟩ := h y (by simp)
    constructor
    · rintro ⟨h1, h2⟩ z hz k hk
      simp only [lv]
      have := h2 z hz k hk
      split
      · rename_i hc
        by_cases hp : 0 < lv l z k
        · obtain ⟨x, hx, hxz, h3, h4⟩ := lv_pos.1 hp
          exact absurd (show clash x y from ⟨by rw [hxz]; exact hz, by rw [hxz, hc.1], by omega, by omega⟩) (h1 x hx)
        · omega
      · omega
    · intro h1
      refine ⟨fun x hx hc => ?_, fun z hz k hk => by have := h1 z hz k hk; simp only [lv] at this; omega⟩
      obtain ⟨c1, c2, c3, c4⟩ := hc
      obtain ⟨x1, x2, x3⟩ := h x (List.mem_cons_of_mem _ hx)
      have x3 := x3 c1
      have y3 := y3 (by rw [← c2]; exact c1)
      have h5 := h1 x.z c1 (max x.o y.o).toNat (by omega)
      have e : (((max x.o y.o).toNat : Nat) : Int) = max x.o y.o := by omega
      rw [e] at h5
      simp only [lv] at h5
      rw [if_pos ⟨c2.symm, by omega, by omega⟩] at h5
      have : 0 < lv l x.z (max x.o y.o) := lv_pos.2 ⟨x, hx, rfl, by omega, by omega⟩
      omega
end Go.Proofs.Ytoboialfaifbgaa.VaN
/- Plain facts, of no program: extents that are apart, by the live sectors of each zone. -/
namespace Go.Proofs.Ytoboialfaifbgaa.VaP
open MGeM PgA PgB VaC VaD VaG VaH MSpM SpJ VaN


theorem okX_zone {g : Ge} {x : Ex} (h : okX g x) : (1 ≤ x.m ∧ may (sx x)) ∧ (x.z ≠ 255 → x.o + x.m ≤ g.n) := by
  obtain ⟨h1, _, h3⟩ := h
  obtain ⟨h4, h5, _⟩ := cko0 h1
  have h6 : 8 ≤ g.n ∧ g.n ≤ 1024 := h4.1.2.2.1
  unfold may sx
  dsimp only
  rcases h3 with ⟨hz, h3⟩ | ⟨hz, _, h3⟩
  · exact ⟨⟨h5.2.1, by omega, by omega, by omega⟩, fun h => absurd hz h⟩
  · exact ⟨⟨h5.2.1, by omega, by omega, by omega⟩, fun _ => by omega⟩
/-- Extents are apart just where in each zone as many sectors are live as lie there. -/
theorem ap_tot {g : Ge} {xs : List Ex} (hg : mayG g) (h : ∀ x ∈ xs, okX g x) : apL xs ↔ ∀ z : Int, z ≠ 255 → tot (pl (xs.filter (inZ z))) = cz xs z := by
  have h6 : 8 ≤ g.n ∧ g.n ≤ 1024 := hg.1.2.2.1
  obtain ⟨N, hN⟩ : ∃ N : Nat, g.n = (N : Int) := ⟨g.n.toNat, by omega⟩
  have h1 : ∀ x ∈ xs, may (sx x) := fun x hx => (okX_zone (h x hx)).1.2
  have h2 : ∀ x ∈ xs, x.z ≠ 255 → x.o + x.m ≤ N := fun x hx hz => by have := (okX_zone (h x hx)).2 hz; omega
  rw [ap_lv (n := N) (fun x hx => ⟨(okX_zone (h x hx)).1.1, by have := h1 x hx; unfold may sx at this; exact this.1, h2 x hx⟩)]
  constructor
  · intro ha z hz
    exact (tot_iff (by omega) h1 (fun x hx e => h2 x hx (by rw [e]; exact hz))).2 (ha z hz)
  · intro ha z hz
    exact (tot_iff (by omega) h1 (fun x hx e => h2 x hx (by rw [e]; exact hz))).1 (ha z hz)
theorem cz_no {xs : List Ex} {z : Int} (h : xs.any (inZ z) = false) : cz xs z = 0 ∧ xs.filter (inZ z) = [] := by
  have h1 : ∀ x ∈ xs, inZ z x = false := by simpa [List.any_eq_false] using h
  refine ⟨?_, List.filter_eq_nil_iff.2 (fun x hx => by rw [h1 x hx]; decide)⟩
  clear h
  induction xs with
  | nil => rfl
  | cons y l ih =>
    have h2 := h1 y (by simp)
    simp only [cz]
    rw [ih (fun x hx => h1 x (List.mem_cons_of_mem _ hx)), if_neg (fun e => by simp [inZ, e] at h2)]
    rfl
theorem any_put {xs : List Ex} {z : Int} (hz : z ≠ 255) : (xs.filter put).any (inZ z) = xs.any (inZ z) := by
  rw [List.any_filter]
  congr 1
  funext x
  by_cases e : x.z = z
  · have h1 : put x = true := by simp [put, e, hz]
    rw [h1, Bool.true_and]
  · have : inZ z x = false := by simpa [inZ] using e
    rw [this, Bool.and_false]
theorem put_255 {xs : List Ex} : (xs.filter put).any (inZ 255) = false := by
  rw [List.any_eq_false]
  intro x hx
  have := (List.mem_filter.1 hx).2
  simp [put] at this
  simp [inZ, this]
end Go.Proofs.Ytoboialfaifbgaa.VaP
