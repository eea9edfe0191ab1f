/- What the rows over spans take: a span that came in, a slice of spans that came in. -/
import Derived.Test.YthldppgbopiaiaaFrameB
import Derived.Test.YthldppgbopiaiaaSpO
namespace Go.Proofs.Ythldppgbopiaiaa.MSpRow
open Go.Joins Go.ChangeShapes Go.WideShapes Go.RowKit Go.Deep MFrame MSep MSepC MSpM SpA

theorem list_of {α : Type} {Q : Nat → α → Prop} : ∀ l : Nat, (∀ i, i < l → ∃ v, Q i v) → ∃ vs : List α, vs.length = l ∧ ∀ i v, vs[i]? = some v → Q i v
  | 0, _ => ⟨[], rfl, fun i v h => by simp at h⟩
  | l + 1, h => by
    obtain ⟨vs, hl, hv⟩ := list_of l (fun i hi => h i (by omega))
    obtain ⟨v, hq⟩ := h l (by omega)
    refine ⟨vs ++ [v], by simp [hl], fun i u hu => ?_⟩
    rcases Nat.lt_or_ge i l with hi | hi
    · rw [List.getElem?_append_left (by omega)] at hu
      exact hv i u hu
    · rw [List.getElem?_append_right (by omega)] at hu
      by_cases hil : i = l
      · subst hil
        simp [hl] at hu
        subst hu
        exact hq
      · rw [List.getElem?_eq_none (by simp; omega)] at hu
        cases hu

set_option maxRecDepth 100000 in
theorem span_open {H : Type} {enc : TypeId × Value → H} {w : World} {base b0 : Nat} {r : Reach} {spare : Nat → Bool} {held : Bool} {v : Value} {d : DataW H} {p : List MemPlace}
    (hv : Value.okWide Try.prog w r b0 23 v) (h : DataW.Trod enc Try.prog w base spare held 23 v d p) : ∃ a n : Int, v = .agg #[.int .i64 a, .int .i64 n] ∧ wf (a, n) := by
  obtain ⟨v0, v1, y0, y1, n, rfl, _, _, h0, h1⟩ := open_agg2 Try.underlying23 (by kernel_rfl) (by kernel_rfl) hv h
  obtain ⟨a0, e0, _, w0⟩ := DataW.trod_int Try.underlying3 h0
  obtain ⟨a1, e1, _, w1⟩ := DataW.trod_int Try.underlying3 h1
  simp at e0 e1
  subst e0 e1
  exact ⟨a0, a1, rfl, bounds_i64 w0, bounds_i64 w1⟩

/-- The spans' cells, read one by one, are the slice's. -/
theorem rds_of {w : World} {g o l : Nat} {xs : List Sp} (hl : xs.length = l) (hg : 0 < l → g < w.heap.size) (h : ∀ i s, xs[i]? = some s → w.cell? ⟨g, o + i * 2, none⟩ = some (.int .i64 s.1) ∧ w.cell? ⟨g, o + (i * 2 + 1), none⟩ = some (.int .i64 s.2)) : RdS w (some ⟨g, o, none⟩) l xs := by
  refine ⟨hl, by rw [cs2_len, hl], fun hn => ⟨g, o, rfl, hg (by omega), fun j u hu => ?_⟩⟩
  have hj : j < (cs2 xs).length := (List.getElem?_eq_some_iff.1 hu).1
  rw [cs2_len] at hj
  have hi : j / 2 < xs.length := by omega
  have hx : xs[j / 2]? = some xs[j / 2] := List.getElem?_eq_getElem hi
  obtain ⟨h0, h1⟩ := h _ _ hx
  obtain ⟨c0, c1⟩ := cs2_get0 hx
  rcases Nat.mod_two_eq_zero_or_one j with e | e
  · have ej : j = j / 2 * 2 := by omega
    rw [← ej] at h0 c0
    rw [hu] at c0
    injection c0 with c0
    rw [h0, c0]
  · have ej : j = j / 2 * 2 + 1 := by omega
    rw [← ej] at h1 c1
    rw [hu] at c1
    injection c1 with c1
    rw [h1, c1]

set_option maxRecDepth 100000 in
theorem spans_open {H : Type} {enc : TypeId × Value → H} {w : World} {base : Nat} {spare : Nat → Bool} {held : Bool} {A : Option Addr} {l c : Nat} {d : DataW H} {p : List MemPlace} (hsp : ∀ b, spare b = true)
    (h : DataW.Trod enc Try.prog w base spare held 25 (.slice A l c) d p) : ∃ xs, RdS w A l xs ∧ (∀ s ∈ xs, wf s) ∧ l ≤ c ∧ c ≤ maxLen := by
  obtain ⟨fuel, hf⟩ := h
  rcases open_slice_fields Try.underlying25 Try.underlying23 (by kernel_rfl) (by kernel_rfl) hf with ⟨hcs, _⟩ | ⟨a, l', c', m, D, Pl, hcs, _, hl, hm, hmm, _, hfi⟩
  · simp [Value.cells] at hcs
    obtain ⟨rfl, rfl, rfl⟩ := hcs
    exact ⟨[], RdS.nil _ _, by simp, Nat.le_refl _, by simp [maxLen]⟩
  · simp [Value.cells] at hcs
    obtain ⟨rfl, rfl, rfl⟩ := hcs
    have hmc : m = c := by simpa [hsp] using hmm
    subst hmc
    rcases Nat.eq_zero_or_pos l with h0 | h0
    · subst h0
      exact ⟨[], RdS.nil _ _, by simp, hl, hm⟩
    · have hspot : a.spot = none := by
        obtain ⟨ys, n, _, _, _, hfs⟩ := hfi 0 (by omega)
        obtain ⟨v0, y0, c0, _, t0⟩ := hfs 0 _ rfl
        have := World.cell?_spot c0
        simpa [Addr.add] using this
      have ha : a = ⟨a.block, a.off, none⟩ := by rw [← hspot]
      have hadd : ∀ k, a.add k = ⟨a.block, a.off + k, none⟩ := fun k => by
        rw [ha]
        exact add_off _ _ k
      obtain ⟨xs, hlen, hxs⟩ := list_of (Q := fun i (s : Sp) => wf s ∧ a.block < w.heap.size ∧ w.cell? ⟨a.block, a.off + i * 2, none⟩ = some (.int .i64 s.1) ∧ w.cell? ⟨a.block, a.off + (i * 2 + 1), none⟩ = some (.int .i64 s.2)) l (fun i hi => by
        obtain ⟨ys, n, _, _, _, hfs⟩ := hfi i (by omega)
        obtain ⟨v0, y0, c0, _, t0⟩ := hfs 0 _ rfl
        obtain ⟨v1, y1, c1, _, t1⟩ := hfs 1 _ rfl
        obtain ⟨a0, e0, _, w0⟩ := DataW.trod_int Try.underlying3 t0
        obtain ⟨a1, e1, _, w1⟩ := DataW.trod_int Try.underlying3 t1
        simp at e0 e1
        subst e0 e1
        have hb := World.block_lt_of_cell? w _ c0
        simp only [hadd] at c0 c1
        refine ⟨(a0, a1), ⟨bounds_i64 w0, bounds_i64 w1⟩, by simpa [block_of_add] using hb, c0, c1⟩)
      refine ⟨xs, ?_, fun s hs => ?_, hl, hm⟩
      · rw [ha]
        refine rds_of hlen (fun _ => ?_) (fun i s hs => (hxs i s hs).2.2)
        have h1 : xs[0]? = some xs[0] := List.getElem?_eq_getElem (by omega)
        exact (hxs 0 _ h1).2.1
      · obtain ⟨i, hi⟩ := List.getElem?_of_mem hs
        exact (hxs i s hi).1
end Go.Proofs.Ythldppgbopiaiaa.MSpRow
