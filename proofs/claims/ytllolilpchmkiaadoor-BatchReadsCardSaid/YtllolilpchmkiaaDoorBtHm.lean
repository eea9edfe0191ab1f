/- Plain facts: how the groups of pieces grow piece by piece; rows of batches of nothing. Nothing here walks a program. -/
import Derived.Test.YtllolilpchmkiaaDoorBtS
namespace Go.Proofs.YtllolilpchmkiaaDoor.BtHm
open Go.RowKit MSep MSepC MSpM Kit BtA SpO BtQ BtS

theorem gclose_fit {st : GS} {p : Sp} (h2 : ¬ st.2.length = 8) (h3 : hitB p st.2 = false) : gclose (gstep st p) = st.1 ++ [st.2 ++ [p]] := by
  unfold gstep
  rw [if_neg (fun h => by rcases h with h | h; exact h2 h; (rw [h3] at h; cases h))]
  unfold gclose
  rw [if_neg (by simp)]
theorem gclose_new {st : GS} {p : Sp} (h : st.2 = [] ∨ st.2.length = 8 ∨ hitB p st.2 = true) : gclose (gstep st p) = gclose st ++ [[p]] := by
  by_cases h0 : st.2 = []
  · unfold gstep
    rw [if_neg (fun h => by rw [h0] at h; rcases h with h | h <;> cases h), h0]
    unfold gclose
    rw [if_neg (by simp), if_pos h0]
    rfl
  · unfold gstep
    rw [if_pos (by rcases h with h | h; exact absurd h h0; exact h)]
    unfold gclose
    rw [if_neg (by simp), if_neg h0]
theorem gclose_open {st : GS} (h : st.2 ≠ []) : gclose st = st.1 ++ [st.2] := if_neg h
theorem meet_comm (a b : Sp) : meet a b = meet b a := by
  unfold meet
  by_cases h : may a ∧ may b
  · rw [if_pos h, if_pos ⟨h.2, h.1⟩]
    unfold meet0
    rw [Int.min_comm, Int.max_comm]
  · rw [if_neg h, if_neg (fun q => h ⟨q.2, q.1⟩)]
theorem meet_nonneg (a b : Sp) : 0 ≤ (meet a b).2 := by
  unfold meet
  split
  · exact meet0_nonneg a b
  · exact Int.le_refl 0
/-- The last group behind one that was not empty. -/
theorem gfold_last {ps : List Sp} {i : Nat} (h : 0 < i) (hi : i ≤ ps.length) : (gfold ([], []) (ps.take i)).2 ≠ [] := by
  obtain ⟨j, rfl⟩ : ∃ j, i = j + 1 := ⟨i - 1, by omega⟩
  obtain ⟨p, hp⟩ : ∃ p, ps[j]? = some p := ⟨_, List.getElem?_eq_getElem (by omega)⟩
  rw [BtA.take_snoc hp, gfold_snoc]
  unfold gstep
  split <;> simp
theorem gclose_len (ps : List Sp) : (gclose (gfold ([], []) ps)).length ≤ ps.length := by
  suffices h : ∀ (ps : List Sp) (st : GS), (gclose (gfold st ps)).length ≤ (gclose st).length + ps.length by
    have := h ps ([], [])
    simpa [gclose] using this
  intro ps
  induction ps with
  | nil => intro st; exact Nat.le_refl _
  | cons p ps ih =>
    intro st
    have h1 := ih (gstep st p)
    have h2 : (gclose (gstep st p)).length ≤ (gclose st).length + 1 := by
      by_cases hc : st.2 = [] ∨ st.2.length = 8 ∨ hitB p st.2 = true
      · rw [gclose_new hc]; simp
      · have e1 : ¬ st.2 = [] := fun h => hc (Or.inl h)
        have e2 : ¬ st.2.length = 8 := fun h => hc (Or.inr (Or.inl h))
        have e3 : hitB p st.2 = false := by
          cases hb : hitB p st.2 with
          | false => rfl
          | true => exact absurd (Or.inr (Or.inr hb)) hc
        rw [gclose_fit e2 e3, gclose_open e1]
        simp
    show (gclose (gfold (gstep st p) ps)).length ≤ _
    rw [List.length_cons]
    omega
/-- The cells behind a change of the k-th batch's spans. -/
theorem hbs_set (seq : Int) (v : SV) : ∀ (vs : List SV) (i k : Nat), k < vs.length → hbs seq i (vs.set k v) = (hbs seq i vs).set (k * 3 + 2) v.v
  | [], _, _, h => by simp at h
  | u :: vs, i, 0, _ => by simp [hbs, hb]
  | u :: vs, i, k + 1, h => by
    have ih := hbs_set seq v vs (i + 1) k (by simpa using h)
    rw [List.set_cons_succ, hbs, hbs, ih, show (k + 1) * 3 + 2 = (k * 3 + 2) + 3 by omega]
    simp [hb]
theorem hbs_len (seq : Int) : ∀ (vs : List SV) (i : Nat), (hbs seq i vs).length = vs.length * 3
  | [], _ => rfl
  | u :: vs, i => by
    rw [hbs, List.length_append, hbs_len seq vs (i + 1), List.length_cons]
    show 3 + _ = _
    omega
/-- The k-th batch of a row: where its cells stand, and what a store into its spans makes. -/
theorem RowB.at_ {B : Nat} {w : World} {A : Option Addr} {n c : Nat} {seq : Int} {vs : List SV} (h : RowB B w (.slice A n c) seq vs) {k : Nat} {u : SV} (hk : vs[k]? = some u) :
    ∃ g, A = some ⟨g, 0, none⟩ ∧ B ≤ g ∧ g < w.heap.size ∧ n ≤ c ∧ (∃ cs, Blk w g 26 cs) ∧ w.cell? ⟨g, k * 3 + 2, none⟩ = some u.v ∧ w.frozen? ⟨g, k * 3 + 2, none⟩ = false ∧
      ∀ v : SV, RowB B (w.setCell ⟨g, k * 3 + 2, none⟩ v.v) (.slice A n c) seq (vs.set k v) ∧ Fr (fun q => (Value.slice A n c).ownBlock = some q) w (w.setCell ⟨g, k * 3 + 2, none⟩ v.v) := by
  have hkl := (List.getElem?_eq_some_iff.1 hk).1
  rcases h.2 with ⟨_, h0⟩ | ⟨g, cap, cur, hv, hb, hg, hnc, hcm, hcs, htake⟩
  · omega
  · injection hv with h1 h2 h3
    subst h1 h2 h3
    have hl := hbs_len seq vs 0
    have hget := (hbs_get seq vs 0 k u hk).2.2
    have hcell : w.cell? ⟨g, k * 3 + 2, none⟩ = some u.v := by
      rw [cell_of_row w g _ cur 26 (0, 0) hg]
      rw [← htake, List.getElem?_take] at hget
      split at hget
      · simpa using hget
      · cases hget
    refine ⟨g, rfl, hb, (Array.getElem?_eq_some_iff.1 hg).1, hnc, ⟨cur, hg⟩, hcell, Blk.frozen (w := w) (g := g) (t := 26) (cs := cur) hg _, fun v => ⟨⟨?_, .inr ⟨g, c, cur.setIfInBounds (k * 3 + 2) v.v, ?_, hb, Blk.set_ (w := w) (g := g) (t := 26) (cs := cur) hg _ _, ?_, hcm, ?_, ?_⟩⟩, ?_⟩⟩
    · rw [hbs_len, List.length_set]
    · rw [List.length_set]
    · rw [List.length_set]; exact hnc
    · rw [Array.size_setIfInBounds]; exact hcs
    · rw [List.length_set, Array.toList_setIfInBounds, List.take_set, htake, hbs_set seq v vs 0 k hkl]
    · exact Fr.setCell (S := fun q => (Value.slice (some ⟨g, 0, none⟩) vs.length c).ownBlock = some q) (p := ⟨g, k * 3 + 2, none⟩) (Fr.refl _ w) (fun _ => rfl) _
/-- Batches of nothing in memory: the row, and each one's spans. -/
structure HR (B : Nat) (w : World) (gs : List (List Sp)) (va : Value) (seq : Int) (vs : List SV) : Prop where
  row : RowB B w va seq vs
  len : vs.length = gs.length
  cl : ∀ (i : Nat) v g, vs[i]? = some v → gs[i]? = some g → Out B w v.v g ∧ v.n = g.length
theorem ne_b : (26 : TypeId) ≠ 57 := by decide
theorem HR.fr {B : Nat} {w w' : World} {gs : List (List Sp)} {va : Value} {seq : Int} {vs : List SV} (h : HR B w gs va seq vs) (f : Fr No w w') : HR B w' gs va seq vs :=
  ⟨own_fr h.row f (fun _ _ h => h), h.len, fun i v g h1 h2 => ⟨(h.cl i v g h1 h2).1.fr f, (h.cl i v g h1 h2).2⟩⟩
theorem HR.nil (B : Nat) (w : World) (seq : Int) : HR B w [] (.slice none 0 0) seq [] := ⟨World.ownsRow_nil w _ _ 3, rfl, fun i v g h => by simp at h⟩
/-- One more batch. -/
theorem HR.push {B : Nat} {w w' : World} {gs : List (List Sp)} {va va' : Value} {seq : Int} {vs : List SV} (h : HR B w gs va seq vs) (f : Fr (fun q => va.ownBlock = some q) w w') (hr : RowB B w' va' seq (vs ++ [⟨none, 0, 0⟩])) : HR B w' (gs ++ [[]]) va' seq (vs ++ [⟨none, 0, 0⟩]) := by
  refine ⟨hr, by simp [h.len], fun i v g h1 h2 => ?_⟩
  by_cases hi : i < vs.length
  · rw [List.getElem?_append_left hi] at h1
    rw [List.getElem?_append_left (by rw [← h.len]; exact hi)] at h2
    obtain ⟨a, b⟩ := h.cl i v g h1 h2
    exact ⟨own_fr a f (fun k hk hk' => own_apart h.row a ne_b k hk' hk), b⟩
  · rw [List.getElem?_append_right (by omega)] at h1
    rw [List.getElem?_append_right (by rw [← h.len]; omega)] at h2
    have hi0 : i - vs.length = 0 := by
      have := (List.getElem?_eq_some_iff.1 h1).1
      simp at this
      omega
    rw [hi0] at h1
    rw [← h.len, hi0] at h2
    simp at h1 h2
    subst h1 h2
    exact ⟨Out.nil _ _, rfl⟩
/-- Other spans of the last batch. -/
theorem HR.put {B : Nat} {w w' : World} {gs : List (List Sp)} {g0 g1 : List Sp} {va : Value} {seq : Int} {vs : List SV} {v : SV} (h : HR B w (gs ++ [g0]) va seq vs) (f : Fr (fun q => va.ownBlock = some q) w w') (hr : RowB B w' va seq (vs.set gs.length v)) (ho : Out B w v.v g1) (hn : v.n = g1.length) : HR B w' (gs ++ [g1]) va seq (vs.set gs.length v) := by
  have hl : vs.length = gs.length + 1 := by rw [h.len]; simp
  refine ⟨hr, by rw [List.length_set, hl]; simp, fun i u g h1 h2 => ?_⟩
  by_cases hi : i = gs.length
  · subst hi
    rw [List.getElem?_set_self (by omega)] at h1
    rw [List.getElem?_append_right (Nat.le_refl _)] at h2
    simp at h1 h2
    subst h1 h2
    exact ⟨own_fr ho f (fun k hk hk' => own_apart h.row ho ne_b k hk' hk), hn⟩
  · rw [List.getElem?_set_ne (fun e => hi e.symm)] at h1
    have hi2 : i < gs.length := by
      have := (List.getElem?_eq_some_iff.1 h1).1
      omega
    rw [List.getElem?_append_left hi2] at h2
    obtain ⟨a, b⟩ := h.cl i u g h1 (by rw [List.getElem?_append_left hi2]; exact h2)
    exact ⟨own_fr a f (fun k hk hk' => own_apart h.row a ne_b k hk' hk), b⟩
end Go.Proofs.YtllolilpchmkiaaDoor.BtHm
