/- What the rows over deltas and records take: a delta, a slice of deltas, a record that came in. -/
import Derived.Test.YtdepkpdolkipcaaDoorFrameB
import Derived.Test.YtdepkpdolkipcaaDoorRcC
namespace Go.Proofs.YtdepkpdolkipcaaDoor.RcRow
open Go.Joins Go.ChangeShapes Go.WideShapes Go.RowKit Go.Deep MFrame MSep RcM RcA RcB RcC

section
variable {H : Type} {enc : TypeId × Value → H} {P : Program} {w : World} {base : Nat} {spare : Nat → Bool} {held : Bool}
theorem open_agg5 {r : Reach} {b0 : Nat} {t : TypeId} {f0 f1 f2 f3 f4 : Field} {v : Value} {d : DataW H} {p : List MemPlace} (hs : P.underlying t = some (.struct #[f0, f1, f2, f3, f4])) (hone : oneCellFields P #[f0, f1, f2, f3, f4] = true) (hC : P.cellsOf t = 5)
    (hv : Value.okWide P w r b0 t v) (h : DataW.Trod enc P w base spare held t v d p) :
    ∃ (v0 v1 v2 v3 v4 : Value) (y0 y1 y2 y3 y4 : DataW H × List MemPlace) (n : Nat), v = .agg #[v0, v1, v2, v3, v4] ∧
      DataW.trod enc P w base spare held n f0.type [v0] = some y0 ∧ DataW.trod enc P w base spare held n f1.type [v1] = some y1 ∧ DataW.trod enc P w base spare held n f2.type [v2] = some y2 ∧ DataW.trod enc P w base spare held n f3.type [v3] = some y3 ∧ DataW.trod enc P w base spare held n f4.type [v4] = some y4 := by
  obtain ⟨cs, rfl, hsz⟩ := okWide_struct hs hv
  obtain ⟨l⟩ := cs
  match l, hsz.trans hC with
  | [c0, c1, c2, c3, c4], _ =>
    obtain ⟨fuel, hf⟩ := h
    obtain ⟨xs, n, _, hx, _, hlen, hg⟩ := DataW.trod_struct hs hf
    obtain ⟨o0, k0⟩ := hone_of hone 0 f0 rfl
    obtain ⟨o1, k1⟩ := hone_of hone 1 f1 rfl
    obtain ⟨o2, k2⟩ := hone_of hone 2 f2 rfl
    obtain ⟨o3, k3⟩ := hone_of hone 3 f3 rfl
    obtain ⟨o4, k4⟩ := hone_of hone 4 f4 rfl
    match xs, hlen with
    | [y0, y1, y2, y3, y4], _ =>
      exact ⟨c0, c1, c2, c3, c4, y0, y1, y2, y3, y4, n, rfl, by simpa [Value.cells, o0, k0] using hg 0 f0 rfl, by simpa [Value.cells, o1, k1] using hg 1 f1 rfl, by simpa [Value.cells, o2, k2] using hg 2 f2 rfl, by simpa [Value.cells, o3, k3] using hg 3 f3 rfl, by simpa [Value.cells, o4, k4] using hg 4 f4 rfl⟩
end

theorem list_of {α : Type} {Q : Nat → α → Prop} : ∀ l : Nat, (∀ i, i < l → ∃ v, Q i v) → ∃ vs : List α, vs.length = l ∧ ∀ i v, vs[i]? = some v → Q i v
  | 0, _ => ⟨[], rfl, fun i v h => by simp at h⟩
  | l + 1, h => by
    obtain ⟨vs, hl, hv⟩ := list_of l (fun i hi => h i (by omega))
    obtain ⟨v, hq⟩ := h l (by omega)
    refine ⟨vs ++ [v], by simp [hl], fun i u hu => ?_⟩
    rcases Nat.lt_or_ge i l with hi | hi
    · rw [List.getElem?_append_left (by omega)] at hu
      exact hv i u hu
    · rw [List.getElem?_append_right (by omega)] at hu
      by_cases hil : i = l
      · subst hil
        simp [hl] at hu
        subst hu
        exact hq
      · rw [List.getElem?_eq_none (by simp; omega)] at hu
        cases hu

theorem rdd_of {w : World} {g o l : Nat} {xs : List De} (hl : xs.length = l) (hg : 0 < l → g < w.heap.size)
    (h : ∀ i s, xs[i]? = some s → w.cell? ⟨g, o + i * 5, none⟩ = some (.int .i64 s.k) ∧ w.cell? ⟨g, o + (i * 5 + 1), none⟩ = some (.int .i64 s.a) ∧ w.cell? ⟨g, o + (i * 5 + 2), none⟩ = some (.int .i64 s.n) ∧ w.cell? ⟨g, o + (i * 5 + 3), none⟩ = some (.int .i64 s.z) ∧ w.cell? ⟨g, o + (i * 5 + 4), none⟩ = some (.int .i64 s.o)) : RdD w (some ⟨g, o, none⟩) l xs := by
  have hcl : (cs5 xs).length = l * 5 := by rw [cs5_len, hl]
  refine ⟨hl, hcl, fun hn => ⟨g, o, rfl, hg (by omega), fun j u hu => ?_⟩⟩
  have hj : j < (cs5 xs).length := (List.getElem?_eq_some_iff.1 hu).1
  rw [hcl] at hj
  have hi : j / 5 < xs.length := by omega
  have hx : xs[j / 5]? = some xs[j / 5] := List.getElem?_eq_getElem hi
  obtain ⟨h0, h1, h2, h3, h4⟩ := h _ _ hx
  obtain ⟨c0, c1, c2, c3, c4⟩ := cs5_get hx
  have key : ∀ (m : Nat) (v : Value), j = m → w.cell? ⟨g, o + m, none⟩ = some v → (cs5 xs)[m]? = some v → w.cell? ⟨g, o + j, none⟩ = some u := by
    rintro m v rfl a b
    rw [hu] at b
    injection b with b
    rw [a, b]
  rcases (show j = j / 5 * 5 ∨ j = j / 5 * 5 + 1 ∨ j = j / 5 * 5 + 2 ∨ j = j / 5 * 5 + 3 ∨ j = j / 5 * 5 + 4 by omega) with e | e | e | e | e
  · exact key _ _ e h0 c0
  · exact key _ _ e h1 c1
  · exact key _ _ e h2 c2
  · exact key _ _ e h3 c3
  · exact key _ _ e h4 c4

set_option maxRecDepth 100000 in
theorem delta_open {H : Type} {enc : TypeId × Value → H} {w : World} {base b0 : Nat} {r : Reach} {spare : Nat → Bool} {held : Bool} {v : Value} {d : DataW H} {p : List MemPlace}
    (hv : Value.okWide Tryd.prog w r b0 58 v) (h : DataW.Trod enc Tryd.prog w base spare held 58 v d p) : ∃ k a n z o : Int, v = dv k a n z o := by
  obtain ⟨v0, v1, v2, v3, v4, y0, y1, y2, y3, y4, n, rfl, h0, h1, h2, h3, h4⟩ := open_agg5 Tryd.underlying58 (by kernel_rfl) (by kernel_rfl) hv h
  obtain ⟨a0, e0, _, _⟩ := DataW.trod_int Tryd.underlying3 h0
  obtain ⟨a1, e1, _, _⟩ := DataW.trod_int Tryd.underlying3 h1
  obtain ⟨a2, e2, _, _⟩ := DataW.trod_int Tryd.underlying3 h2
  obtain ⟨a3, e3, _, _⟩ := DataW.trod_int Tryd.underlying3 h3
  obtain ⟨a4, e4, _, _⟩ := DataW.trod_int Tryd.underlying3 h4
  simp at e0 e1 e2 e3 e4
  subst e0 e1 e2 e3 e4
  exact ⟨a0, a1, a2, a3, a4, rfl⟩

set_option maxRecDepth 100000 in
theorem deltas_open {H : Type} {enc : TypeId × Value → H} {w : World} {base fuel : Nat} {spare : Nat → Bool} {held : Bool} {u : Value} {y : DataW H × List MemPlace} (hsp : ∀ b, spare b = true)
    (hf : DataW.trod enc Tryd.prog w base spare held fuel 46 [u] = some y) : ∃ A l c xs, u = .slice A l c ∧ RdD w A l xs ∧ l ≤ c ∧ c ≤ maxLen := by
  rcases open_slice_fields Tryd.underlying46 Tryd.underlying58 (by kernel_rfl) (by kernel_rfl) hf with ⟨hcs, _⟩ | ⟨a, l, c, m, D, Pl, hcs, _, hl, hm, hmm, _, hfi⟩
  · exact ⟨none, 0, 0, [], by simpa using hcs, RdD.nil _ _, Nat.le_refl _, by simp [maxLen]⟩
  · have hmc : m = c := by simpa [hsp] using hmm
    subst hmc
    refine ⟨some a, l, m, ?_⟩
    rcases Nat.eq_zero_or_pos l with h0 | h0
    · subst h0
      exact ⟨[], by simpa using hcs, RdD.nil _ _, hl, hm⟩
    · have hspot : a.spot = none := by
        obtain ⟨ys, n, _, _, _, hfs⟩ := hfi 0 (by omega)
        obtain ⟨v0, y0, c0, _, t0⟩ := hfs 0 _ rfl
        have := World.cell?_spot c0
        simpa [Addr.add] using this
      have ha : a = ⟨a.block, a.off, none⟩ := by rw [← hspot]
      have hadd : ∀ k, a.add k = ⟨a.block, a.off + k, none⟩ := fun k => by
        rw [ha]
        exact add_off _ _ k
      obtain ⟨xs, hlen, hxs⟩ := list_of (Q := fun i (s : De) => a.block < w.heap.size ∧ w.cell? ⟨a.block, a.off + i * 5, none⟩ = some (.int .i64 s.k) ∧ w.cell? ⟨a.block, a.off + (i * 5 + 1), none⟩ = some (.int .i64 s.a) ∧ w.cell? ⟨a.block, a.off + (i * 5 + 2), none⟩ = some (.int .i64 s.n) ∧ w.cell? ⟨a.block, a.off + (i * 5 + 3), none⟩ = some (.int .i64 s.z) ∧ w.cell? ⟨a.block, a.off + (i * 5 + 4), none⟩ = some (.int .i64 s.o)) l (fun i hi => by
        obtain ⟨ys, n, _, _, _, hfs⟩ := hfi i (by omega)
        obtain ⟨v0, y0, c0, _, t0⟩ := hfs 0 _ rfl
        obtain ⟨v1, y1, c1, _, t1⟩ := hfs 1 _ rfl
        obtain ⟨v2, y2, c2, _, t2⟩ := hfs 2 _ rfl
        obtain ⟨v3, y3, c3, _, t3⟩ := hfs 3 _ rfl
        obtain ⟨v4, y4, c4, _, t4⟩ := hfs 4 _ rfl
        obtain ⟨a0, e0, _, _⟩ := DataW.trod_int Tryd.underlying3 t0
        obtain ⟨a1, e1, _, _⟩ := DataW.trod_int Tryd.underlying3 t1
        obtain ⟨a2, e2, _, _⟩ := DataW.trod_int Tryd.underlying3 t2
        obtain ⟨a3, e3, _, _⟩ := DataW.trod_int Tryd.underlying3 t3
        obtain ⟨a4, e4, _, _⟩ := DataW.trod_int Tryd.underlying3 t4
        simp at e0 e1 e2 e3 e4
        subst e0 e1 e2 e3 e4
        have hb := World.block_lt_of_cell? w _ c0
        simp only [hadd] at c0 c1 c2 c3 c4
        exact ⟨⟨a0, a1, a2, a3, a4⟩, by simpa [block_of_add] using hb, c0, c1, c2, c3, c4⟩)
      refine ⟨xs, by simpa using hcs, ?_, hl, hm⟩
      rw [ha]
      refine rdd_of hlen (fun _ => ?_) (fun i s hs => (hxs i s hs).2)
      have h1 : xs[0]? = some xs[0] := List.getElem?_eq_getElem (by omega)
      exact (hxs 0 _ h1).1

set_option maxRecDepth 100000 in
theorem record_open {H : Type} {enc : TypeId × Value → H} {w : World} {base b0 : Nat} {r : Reach} {spare : Nat → Bool} {held : Bool} {v : Value} {d : DataW H} {p : List MemPlace} (hsp : ∀ b, spare b = true)
    (hv : Value.okWide Tryd.prog w r b0 48 v) (h : DataW.Trod enc Tryd.prog w base spare held 48 v d p) : ∃ e s b u A l c xs, v = rv e s b u A l c ∧ RdD w A l xs ∧ l ≤ c ∧ c ≤ maxLen := by
  obtain ⟨v0, v1, v2, v3, v4, y0, y1, y2, y3, y4, n, rfl, h0, h1, h2, h3, h4⟩ := open_agg5 Tryd.underlying48 (by kernel_rfl) (by kernel_rfl) hv h
  obtain ⟨a0, e0, _, _⟩ := DataW.trod_int Tryd.underlying3 h0
  obtain ⟨a1, e1, _, _⟩ := DataW.trod_int Tryd.underlying3 h1
  obtain ⟨a2, e2, _⟩ := DataW.trod_bool Tryd.underlying4 h2
  obtain ⟨a3, e3, _, _⟩ := DataW.trod_int Tryd.underlying3 h3
  obtain ⟨A, l, c, xs, rfl, hx, hl, hc⟩ := deltas_open hsp h4
  simp at e0 e1 e2 e3
  subst e0 e1 e2 e3
  exact ⟨a0, a1, a2, a3, A, l, c, xs, rfl, hx, hl, hc⟩
end Go.Proofs.YtdepkpdolkipcaaDoor.RcRow
