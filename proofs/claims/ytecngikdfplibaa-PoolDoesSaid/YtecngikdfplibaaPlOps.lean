/- A slice of calls on a pool that came in reads as a list; one call that came in. -/
import Derived.Test.YtecngikdfplibaaFrameB
import Derived.Test.YtecngikdfplibaaPlB
namespace Go.Proofs.Ytecngikdfplibaa.PlOps
open Go.Joins Go.ChangeShapes Go.WideShapes Go.RowKit Go.Deep MFrame MSep MSepC PlA PlB

theorem list_of {α : Type} {Q : Nat → α → Prop} : ∀ l : Nat, (∀ i, i < l → ∃ v, Q i v) → ∃ vs : List α, vs.length = l ∧ ∀ i v, vs[i]? = some v → Q i v
  | 0, _ => ⟨[], rfl, fun i v h => by simp at h⟩
  | l + 1, h => by
    obtain ⟨vs, hl, hv⟩ := list_of l (fun i hi => h i (by omega))
    obtain ⟨v, hq⟩ := h l (by omega)
    refine ⟨vs ++ [v], by simp [hl], fun i u hu => ?_⟩
    rcases Nat.lt_or_ge i l with hi | hi
    · rw [List.getElem?_append_left (by omega)] at hu
      exact hv i u hu
    · rw [List.getElem?_append_right (by omega)] at hu
      by_cases hil : i = l
      · subst hil
        simp [hl] at hu
        subst hu
        exact hq
      · rw [List.getElem?_eq_none (by simp; omega)] at hu
        cases hu

/-- The slice at A of l calls reads as xs. -/
def RdO (w : World) (A : Option Addr) (l : Nat) (xs : List (Int × Int × Int)) : Prop :=
  xs.length = l ∧ (0 < l → ∃ g o, A = some ⟨g, o, none⟩ ∧ g < w.heap.size ∧ ∀ i t, xs[i]? = some t → w.cell? ⟨g, o + i * 3, none⟩ = some (.int .i64 t.1) ∧ w.cell? ⟨g, o + i * 3 + 1, none⟩ = some (.int .i64 t.2.1) ∧ w.cell? ⟨g, o + i * 3 + 2, none⟩ = some (.int .i64 t.2.2))
theorem RdO.fr {w w' : World} {A : Option Addr} {l : Nat} {xs : List (Int × Int × Int)} (h : RdO w A l xs) (f : Fr No w w') : RdO w' A l xs :=
  ⟨h.1, fun h0 => by
    obtain ⟨g, o, e, hg, hc⟩ := h.2 h0
    refine ⟨g, o, e, Nat.lt_of_lt_of_le hg f.size, fun i t hi => ?_⟩
    obtain ⟨c0, c1, c2⟩ := hc i t hi
    exact ⟨f.cell_some c0 (fun h => h), f.cell_some c1 (fun h => h), f.cell_some c2 (fun h => h)⟩⟩

set_option maxRecDepth 100000 in
theorem ops_open {H : Type} {enc : TypeId × Value → H} {w : World} {base : Nat} {spare : Nat → Bool} {held : Bool} {A : Option Addr} {l c : Nat} {d : DataW H} {p : List MemPlace} (hsp : ∀ b, spare b = true)
    (h : DataW.Trod enc Try.prog w base spare held 50 (.slice A l c) d p) : ∃ xs, RdO w A l xs ∧ (∀ t ∈ xs, inI t.2.1) ∧ l ≤ c ∧ c ≤ maxLen := by
  obtain ⟨fuel, hf⟩ := h
  rcases open_slice_fields Try.underlying50 Try.underlying59 (by kernel_rfl) (by kernel_rfl) hf with ⟨hcs, _⟩ | ⟨a, l', c', m, D, Pl, hcs, _, hl, hm, hmm, _, hfi⟩
  · simp [Value.cells] at hcs
    obtain ⟨rfl, rfl, rfl⟩ := hcs
    exact ⟨[], ⟨rfl, fun h => absurd h (by omega)⟩, by simp, Nat.le_refl _, by simp [maxLen]⟩
  · simp [Value.cells] at hcs
    obtain ⟨rfl, rfl, rfl⟩ := hcs
    have hmc : m = c := by simpa [hsp] using hmm
    subst hmc
    rcases Nat.eq_zero_or_pos l with h0 | h0
    · subst h0
      exact ⟨[], ⟨rfl, fun h => absurd h (by omega)⟩, by simp, hl, hm⟩
    · have hspot : a.spot = none := by
        obtain ⟨ys, n, _, _, _, hfs⟩ := hfi 0 (by omega)
        obtain ⟨v0, y0, c0, _, t0⟩ := hfs 0 _ rfl
        have := World.cell?_spot c0
        simpa [Addr.add] using this
      have ha : a = ⟨a.block, a.off, none⟩ := by rw [← hspot]
      have hadd : ∀ k, a.add k = ⟨a.block, a.off + k, none⟩ := fun k => by
        rw [ha]
        exact add_off _ _ k
      obtain ⟨xs, hlen, hxs⟩ := list_of (Q := fun i (t : Int × Int × Int) => (inI t.2.1 ∧ a.block < w.heap.size) ∧ w.cell? ⟨a.block, a.off + (i * 3), none⟩ = some (.int .i64 t.1) ∧ w.cell? ⟨a.block, a.off + (i * 3 + 1), none⟩ = some (.int .i64 t.2.1) ∧ w.cell? ⟨a.block, a.off + (i * 3 + 2), none⟩ = some (.int .i64 t.2.2)) l (fun i hi => by
        obtain ⟨ys, n, _, _, _, hfs⟩ := hfi i (by omega)
        obtain ⟨v0, y0, c0, _, t0⟩ := hfs 0 _ rfl
        obtain ⟨v1, y1, c1, _, t1⟩ := hfs 1 _ rfl
        obtain ⟨v2, y2, c2, _, t2⟩ := hfs 2 _ rfl
        obtain ⟨a0, e0, _, _⟩ := DataW.trod_int Try.underlying3 t0
        obtain ⟨a1, e1, _, w1⟩ := DataW.trod_int Try.underlying3 t1
        obtain ⟨a2, e2, _, _⟩ := DataW.trod_int Try.underlying3 t2
        simp at e0 e1 e2
        subst e0 e1 e2
        have hb := World.block_lt_of_cell? w _ c0
        simp only [hadd] at c0 c1 c2
        exact ⟨(a0, a1, a2), ⟨bounds_i64 w1, by simpa [block_of_add] using hb⟩, c0, c1, c2⟩)
      refine ⟨xs, ⟨hlen, fun _ => ⟨a.block, a.off, by rw [← ha], ?_, fun i t hi => ?_⟩⟩, fun t ht => ?_, hl, hm⟩
      · have h1 : xs[0]? = some xs[0] := List.getElem?_eq_getElem (by omega)
        exact (hxs 0 _ h1).1.2
      · obtain ⟨_, c0, c1, c2⟩ := hxs i t hi
        exact ⟨c0, by rw [Nat.add_assoc]; exact c1, by rw [Nat.add_assoc]; exact c2⟩
      · obtain ⟨i, hi⟩ := List.mem_iff_getElem?.1 ht
        exact (hxs i t hi).1.1
set_option maxRecDepth 100000 in
theorem op_open {H : Type} {enc : TypeId × Value → H} {w : World} {base b0 : Nat} {r : Reach} {spare : Nat → Bool} {held : Bool} {v : Value} {d : DataW H} {p : List MemPlace}
    (hv : Value.okWide Try.prog w r b0 59 v) (h : DataW.Trod enc Try.prog w base spare held 59 v d p) : ∃ j x m : Int, v = .agg #[.int .i64 j, .int .i64 x, .int .i64 m] := by
  obtain ⟨v0, v1, v2, y0, y1, y2, n, rfl, _, _, h0, h1, h2⟩ := open_agg3 Try.underlying59 (by kernel_rfl) (by kernel_rfl) hv h
  obtain ⟨a0, e0, _, _⟩ := DataW.trod_int Try.underlying3 h0
  obtain ⟨a1, e1, _, _⟩ := DataW.trod_int Try.underlying3 h1
  obtain ⟨a2, e2, _, _⟩ := DataW.trod_int Try.underlying3 h2
  simp at e0 e1 e2
  subst e0 e1 e2
  exact ⟨a0, a1, a2, rfl⟩
theorem isI_sized {H : Type} {enc : TypeId × Value → H} {w : World} {base : Nat} {spare : Nat → Bool} {held : Bool} {t e : TypeId} {A : Option Addr} {l c : Nat} {d : DataW H} {p : List MemPlace} {P : Program} {ts : List TypeId} {ds : List (DataW H)} {j : Nat} (ht : P.underlying t = some (.slice e)) (he : P.underlying e = some (.int .i64)) (hc : P.cellsOf e = 1) (hb : P.bytesOf e = 8)
    (hsp : ∀ b, spare b = true) (h : DataW.Trod enc P w base spare held t (.slice A l c) d p) (hsz : (DataW.weightsEach P ts ds).all (· ≤ reachBytes) = true) (htj : ts[j]? = some t) (hdj : ds[j]? = some d) : ∃ zs, RdI w A l zs ∧ l * 8 ≤ 140737488355328 := by
  obtain ⟨fuel, hf⟩ := h
  rcases open_ints ht he hc hf with ⟨hcs, _⟩ | ⟨x, l', c', zs, hcs, _, hl, hm, hz, hx, hcell, hwz⟩
  · simp [Value.cells] at hcs
    obtain ⟨rfl, rfl, rfl⟩ := hcs
    exact ⟨[], ⟨rfl, Rd.nil _ _⟩, by omega⟩
  · simp [Value.cells] at hcs
    obtain ⟨rfl, rfl, rfl⟩ := hcs
    have hz' : zs.length = c := by simpa [hsp] using hz
    simp only [Prod.mk.injEq] at hx
    have hr : Rd w (some x) l ((zs.take l).map en) := rd_of_ints (k := .i64) hl hz' hcell
    refine ⟨zs.take l, ⟨by simp; omega, hr⟩, ?_⟩
    have := sized_slice hsz htj (hdj.trans (congrArg some hx.1)) ht
    rw [hb] at this
    simp [lits, reachBytes] at this
    omega
end Go.Proofs.Ytecngikdfplibaa.PlOps
