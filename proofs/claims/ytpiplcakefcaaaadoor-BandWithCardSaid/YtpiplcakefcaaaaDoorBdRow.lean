/- What the rows over bands take: a label, pieces that came in. -/
import Derived.Test.YtpiplcakefcaaaaDoorFrameB
import Derived.Test.YtpiplcakefcaaaaDoorBdD
namespace Go.Proofs.YtpiplcakefcaaaaDoor.BdRow
open Go.Joins Go.ChangeShapes Go.WideShapes Go.RowKit Go.Deep MFrame MSep BdM BdA BdD

theorem list_of {α : Type} {Q : Nat → α → Prop} : ∀ l : Nat, (∀ i, i < l → ∃ v, Q i v) → ∃ vs : List α, vs.length = l ∧ ∀ i v, vs[i]? = some v → Q i v
  | 0, _ => ⟨[], rfl, fun i v h => by simp at h⟩
  | l + 1, h => by
    obtain ⟨vs, hl, hv⟩ := list_of l (fun i hi => h i (by omega))
    obtain ⟨v, hq⟩ := h l (by omega)
    refine ⟨vs ++ [v], by simp [hl], fun i u hu => ?_⟩
    rcases Nat.lt_or_ge i l with hi | hi
    · rw [List.getElem?_append_left (by omega)] at hu
      exact hv i u hu
    · rw [List.getElem?_append_right (by omega)] at hu
      by_cases hil : i = l
      · subst hil
        simp [hl] at hu
        subst hu
        exact hq
      · rw [List.getElem?_eq_none (by simp; omega)] at hu
        cases hu
section
variable {H : Type} {enc : TypeId × Value → H} {P : Program} {w : World} {base : Nat} {spare : Nat → Bool} {held : Bool}
theorem open_agg3 {r : Reach} {b0 : Nat} {t : TypeId} {f0 f1 f2 : Field} {v : Value} {d : DataW H} {p : List MemPlace} (hs : P.underlying t = some (.struct #[f0, f1, f2])) (hone : oneCellFields P #[f0, f1, f2] = true) (hC : P.cellsOf t = 3)
    (hv : Value.okWide P w r b0 t v) (h : DataW.Trod enc P w base spare held t v d p) :
    ∃ (v0 v1 v2 : Value) (y0 y1 y2 : DataW H × List MemPlace) (n : Nat), v = .agg #[v0, v1, v2] ∧
      DataW.trod enc P w base spare held n f0.type [v0] = some y0 ∧ DataW.trod enc P w base spare held n f1.type [v1] = some y1 ∧ DataW.trod enc P w base spare held n f2.type [v2] = some y2 := by
  obtain ⟨cs, rfl, hsz⟩ := okWide_struct hs hv
  obtain ⟨l⟩ := cs
  match l, hsz.trans hC with
  | [c0, c1, c2], _ =>
    obtain ⟨fuel, hf⟩ := h
    obtain ⟨xs, n, _, hx, _, hlen, hg⟩ := DataW.trod_struct hs hf
    obtain ⟨o0, k0⟩ := hone_of hone 0 f0 rfl
    obtain ⟨o1, k1⟩ := hone_of hone 1 f1 rfl
    obtain ⟨o2, k2⟩ := hone_of hone 2 f2 rfl
    match xs, hlen with
    | [y0, y1, y2], _ =>
      exact ⟨c0, c1, c2, y0, y1, y2, n, rfl, by simpa [Value.cells, o0, k0] using hg 0 f0 rfl, by simpa [Value.cells, o1, k1] using hg 1 f1 rfl, by simpa [Value.cells, o2, k2] using hg 2 f2 rfl⟩
end
set_option maxRecDepth 100000 in
theorem label_open {H : Type} {enc : TypeId × Value → H} {w : World} {base b0 : Nat} {r : Reach} {spare : Nat → Bool} {held : Bool} {v : Value} {d : DataW H} {p : List MemPlace}
    (hv : Value.okWide Tryd.prog w r b0 76 v) (h : DataW.Trod enc Tryd.prog w base spare held 76 v d p) : ∃ b u s : Int, v = lv b u s := by
  obtain ⟨v0, v1, v2, y0, y1, y2, n, rfl, h0, h1, h2⟩ := open_agg3 Tryd.underlying76 (by kernel_rfl) (by kernel_rfl) hv h
  obtain ⟨a0, e0, _, _⟩ := DataW.trod_int Tryd.underlying3 h0
  obtain ⟨a1, e1, _, _⟩ := DataW.trod_int Tryd.underlying3 h1
  obtain ⟨a2, e2, _, _⟩ := DataW.trod_int Tryd.underlying3 h2
  simp at e0 e1 e2
  subst e0 e1 e2
  exact ⟨a0, a1, a2, rfl⟩
set_option maxRecDepth 100000 in
theorem pieces_open {H : Type} {enc : TypeId × Value → H} {w : World} {base : Nat} {spare : Nat → Bool} {held : Bool} {A : Option Addr} {l c : Nat} {d : DataW H} {p : List MemPlace} (hsp : ∀ b, spare b = true)
    (h : DataW.Trod enc Tryd.prog w base spare held 64 (.slice A l c) d p) : ∃ L, RdP w A l L ∧ l ≤ c ∧ c ≤ maxLen := by
  obtain ⟨fuel, hf⟩ := h
  rcases open_slice_fields Tryd.underlying64 Tryd.underlying73 (by kernel_rfl) (by kernel_rfl) hf with ⟨hcs, _⟩ | ⟨a, l', c', m, D, Pl, hcs, _, hl, hm, hmm, _, hfi⟩
  · simp [Value.cells] at hcs
    obtain ⟨rfl, rfl, rfl⟩ := hcs
    exact ⟨[], ⟨rfl, fun h => absurd h (by omega), by simp⟩, Nat.le_refl _, by simp [maxLen]⟩
  · simp [Value.cells] at hcs
    obtain ⟨rfl, rfl, rfl⟩ := hcs
    have hmc : m = c := by simpa [hsp] using hmm
    subst hmc
    rcases Nat.eq_zero_or_pos l with h0 | h0
    · subst h0
      exact ⟨[], ⟨rfl, fun h => absurd h (by omega), by simp⟩, hl, hm⟩
    · have hspot : a.spot = none := by
        obtain ⟨ys, n, _, _, _, hfs⟩ := hfi 0 (by omega)
        obtain ⟨v0, y0, c0, _, t0⟩ := hfs 0 _ rfl
        have := World.cell?_spot c0
        simpa [Addr.add] using this
      have ha : a = ⟨a.block, a.off, none⟩ := by rw [← hspot]
      have hadd : ∀ k, a.add k = ⟨a.block, a.off + k, none⟩ := fun k => by
        rw [ha]
        exact add_off _ _ k
      obtain ⟨xs, hlen, hxs⟩ := list_of (Q := fun i (t : Pc) => (IsB w t.A t.l t.c t.z ∧ a.block < w.heap.size) ∧ w.cell? ⟨a.block, a.off + (i * 4), none⟩ = some (.int .i64 t.a) ∧ w.cell? ⟨a.block, a.off + (i * 4 + 1), none⟩ = some (.int .i64 t.n) ∧ w.cell? ⟨a.block, a.off + (i * 4 + 2), none⟩ = some (.bool t.h) ∧ w.cell? ⟨a.block, a.off + (i * 4 + 3), none⟩ = some (.slice t.A t.l t.c)) l (fun i hi => by
        obtain ⟨ys, n, _, _, _, hfs⟩ := hfi i (by omega)
        obtain ⟨v0, y0, c0, _, t0⟩ := hfs 0 _ rfl
        obtain ⟨v1, y1, c1, _, t1⟩ := hfs 1 _ rfl
        obtain ⟨v2, y2, c2, _, t2⟩ := hfs 2 _ rfl
        obtain ⟨v3, y3, c3, _, t3⟩ := hfs 3 _ rfl
        obtain ⟨a0, e0, _, _⟩ := DataW.trod_int Tryd.underlying3 t0
        obtain ⟨a1, e1, _, _⟩ := DataW.trod_int Tryd.underlying3 t1
        obtain ⟨a2, e2, _⟩ := DataW.trod_bool Tryd.underlying4 t2
        obtain ⟨pA, pl, pcc, pz, e3, hib⟩ := isB_open Tryd.underlying27 Tryd.underlying5 (by kernel_rfl) hsp t3
        simp at e0 e1 e2
        subst e0 e1 e2 e3
        have hb := World.block_lt_of_cell? w _ c0
        simp only [hadd] at c0 c1 c2 c3
        exact ⟨⟨a0, a1, a2, pA, pl, pcc, pz⟩, ⟨hib, by simpa [block_of_add] using hb⟩, c0, c1, c2, c3⟩)
      refine ⟨xs, ⟨hlen, fun _ => ⟨a.block, a.off, by rw [← ha], ?_, fun i t hi => ?_⟩, fun t ht => ?_⟩, hl, hm⟩
      · have h1 : xs[0]? = some xs[0] := List.getElem?_eq_getElem (by omega)
        exact (hxs 0 _ h1).1.2
      · obtain ⟨_, c0, c1, c2, c3⟩ := hxs i t hi
        exact ⟨c0, by rw [Nat.add_assoc]; exact c1, by rw [Nat.add_assoc]; exact c2, by rw [Nat.add_assoc]; exact c3⟩
      · obtain ⟨i, hi⟩ := List.mem_iff_getElem?.1 ht
        exact (hxs i t hi).1.1
end Go.Proofs.YtpiplcakefcaaaaDoor.BdRow
