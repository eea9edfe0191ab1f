import Derived.Test.YtkkbgbpmpcoffaaPgB
import Derived.Test.YtkkbgbpmpcoffaaFrameB
import Derived.Test.YtkkbgbpmpcoffaaHvP
import Derived.Test.YtkkbgbpmpcoffaaHvM
import Derived.Test.YtkkbgbpmpcoffaaGeRow
/- Extents that came in, as a list in memory. -/
namespace Go.Proofs.Ytkkbgbpmpcoffaa.VaRow
open Go.Joins Go.ChangeShapes Go.WideShapes Go.RowKit Go.Deep MFrame MSep MSepC MGeM GeA PgA PgB

theorem cs4_at {l : List Ex} {j : Nat} {u : Value} (h : (cs4 l)[j]? = some u) : ∃ i d, l[i]? = some d ∧ ((j = i * 4 ∧ u = .int .i64 d.a) ∨ (j = i * 4 + 1 ∧ u = .int .i64 d.m) ∨ (j = i * 4 + 2 ∧ u = .int .i64 d.z) ∨ (j = i * 4 + 3 ∧ u = .int .i64 d.o)) := by
  have hj := (List.getElem?_eq_some_iff.1 h).1
  rw [cs4_len] at hj
  obtain ⟨d, hd⟩ : ∃ d, l[j / 4]? = some d := ⟨_, List.getElem?_eq_getElem (by omega)⟩
  obtain ⟨h0, h1, h2, h3⟩ := cs4_get hd
  refine ⟨j / 4, d, hd, ?_⟩
  rcases (by omega : j = j / 4 * 4 ∨ j = j / 4 * 4 + 1 ∨ j = j / 4 * 4 + 2 ∨ j = j / 4 * 4 + 3) with e | e | e | e
  · rw [e, h0] at h; exact .inl ⟨e, by injection h with h; exact h.symm⟩
  · rw [e, h1] at h; exact .inr (.inl ⟨e, by injection h with h; exact h.symm⟩)
  · rw [e, h2] at h; exact .inr (.inr (.inl ⟨e, by injection h with h; exact h.symm⟩))
  · rw [e, h3] at h; exact .inr (.inr (.inr ⟨e, by injection h with h; exact h.symm⟩))
theorem rdX_of {w : World} {A : Option Addr} {l : Nat} {xs : List Ex} (hl : xs.length = l) (h : 0 < l → ∃ g o, A = some ⟨g, o, none⟩ ∧ g < w.heap.size ∧ ∀ i d, xs[i]? = some d →
    w.cell? ⟨g, o + i * 4, none⟩ = some (.int .i64 d.a) ∧ w.cell? ⟨g, o + i * 4 + 1, none⟩ = some (.int .i64 d.m) ∧ w.cell? ⟨g, o + i * 4 + 2, none⟩ = some (.int .i64 d.z) ∧ w.cell? ⟨g, o + i * 4 + 3, none⟩ = some (.int .i64 d.o)) : RdX w A l xs := by
  refine ⟨hl, by rw [cs4_len, hl], fun hp => ?_⟩
  obtain ⟨g, o, hA, hg, hc⟩ := h (by omega)
  refine ⟨g, o, hA, hg, fun j u hu => ?_⟩
  obtain ⟨i, d, hi, hh⟩ := cs4_at hu
  obtain ⟨c0, c1, c2, c3⟩ := hc i d hi
  rcases hh with ⟨rfl, rfl⟩ | ⟨rfl, rfl⟩ | ⟨rfl, rfl⟩ | ⟨rfl, rfl⟩
  · exact c0
  · rw [← Nat.add_assoc]; exact c1
  · rw [← Nat.add_assoc]; exact c2
  · rw [← Nat.add_assoc]; exact c3
set_option maxRecDepth 100000 in
theorem exts_open {H : Type} {enc : TypeId × Value → H} {w : World} {base : Nat} {spare : Nat → Bool} {held : Bool} {A : Option Addr} {l c : Nat} {d : DataW H} {p : List MemPlace} (hsp : ∀ b, spare b = true)
    (h : DataW.Trod enc Try.prog w base spare held 24 (.slice A l c) d p) : ∃ xs, RdX w A l xs ∧ (∀ t ∈ xs, exW t) ∧ l ≤ c ∧ c ≤ maxLen := by
  obtain ⟨fuel, hf⟩ := h
  rcases open_slice_fields Try.underlying24 Try.underlying95 (by kernel_rfl) (by kernel_rfl) hf with ⟨hcs, _⟩ | ⟨a, l', c', m, D, Pl, hcs, _, hl, hm, hmm, _, hfi⟩
  · simp [Value.cells] at hcs
    obtain ⟨rfl, rfl, rfl⟩ := hcs
    exact ⟨[], RdX.nil _ _, by simp, Nat.le_refl _, by simp [maxLen]⟩
  · simp [Value.cells] at hcs
    obtain ⟨rfl, rfl, rfl⟩ := hcs
    have hmc : m = c := by simpa [hsp] using hmm
    subst hmc
    rcases Nat.eq_zero_or_pos l with h0 | h0
    · subst h0
      exact ⟨[], RdX.nil _ _, by simp, hl, hm⟩
    · have hspot : a.spot = none := by
        obtain ⟨ys, n, _, _, _, hfs⟩ := hfi 0 (by omega)
        obtain ⟨v0, y0, c0, _, t0⟩ := hfs 0 _ rfl
        have := World.cell?_spot c0
        simpa [Addr.add] using this
      have ha : a = ⟨a.block, a.off, none⟩ := by rw [← hspot]
      have hadd : ∀ k, a.add k = ⟨a.block, a.off + k, none⟩ := fun k => by
        rw [ha]
        exact add_off _ _ k
      obtain ⟨xs, hlen, hxs⟩ := PlOps.list_of (Q := fun i (t : Ex) => (exW t ∧ a.block < w.heap.size) ∧ w.cell? ⟨a.block, a.off + (i * 4), none⟩ = some (.int .i64 t.a) ∧ w.cell? ⟨a.block, a.off + (i * 4 + 1), none⟩ = some (.int .i64 t.m) ∧ w.cell? ⟨a.block, a.off + (i * 4 + 2), none⟩ = some (.int .i64 t.z) ∧ w.cell? ⟨a.block, a.off + (i * 4 + 3), none⟩ = some (.int .i64 t.o)) l (fun i hi => by
        obtain ⟨ys, n, _, _, _, hfs⟩ := hfi i (by omega)
        obtain ⟨v0, y0, c0, _, t0⟩ := hfs 0 _ rfl
        obtain ⟨v1, y1, c1, _, t1⟩ := hfs 1 _ rfl
        obtain ⟨v2, y2, c2, _, t2⟩ := hfs 2 _ rfl
        obtain ⟨v3, y3, c3, _, t3⟩ := hfs 3 _ rfl
        obtain ⟨a0, e0, _, w0⟩ := DataW.trod_int Try.underlying3 t0
        obtain ⟨a1, e1, _, w1⟩ := DataW.trod_int Try.underlying3 t1
        obtain ⟨a2, e2, _, w2⟩ := DataW.trod_int Try.underlying3 t2
        obtain ⟨a3, e3, _, w3⟩ := DataW.trod_int Try.underlying3 t3
        simp at e0 e1 e2 e3
        subst e0 e1 e2 e3
        have hb := World.block_lt_of_cell? w _ c0
        simp only [hadd] at c0 c1 c2 c3
        exact ⟨⟨a0, a1, a2, a3⟩, ⟨⟨bounds_i64 w0, bounds_i64 w1, bounds_i64 w2, bounds_i64 w3⟩, by simpa [block_of_add] using hb⟩, c0, c1, c2, c3⟩)
      refine ⟨xs, rdX_of hlen (fun h1 => ⟨a.block, a.off, by rw [← ha], ?_, fun i t hi => ?_⟩), fun t ht => ?_, hl, hm⟩
      · have h1 : xs[0]? = some xs[0] := List.getElem?_eq_getElem (by omega)
        exact (hxs 0 _ h1).1.2
      · obtain ⟨_, c0, c1, c2, c3⟩ := hxs i t hi
        exact ⟨c0, by rw [Nat.add_assoc]; exact c1, by rw [Nat.add_assoc]; exact c2, by rw [Nat.add_assoc]; exact c3⟩
      · obtain ⟨i, hi⟩ := List.mem_iff_getElem?.1 ht
        exact (hxs i t hi).1.1
end Go.Proofs.Ytkkbgbpmpcoffaa.VaRow
/- ValidCounts, as the row asks it. Conditions: none but the statement's own. -/
namespace Go.Proofs.Ytkkbgbpmpcoffaa.ValidCountsP
open Go.ChangeShapes Go.WideShapes Go.ChangeAt Go.RowKit MFrame

set_option maxRecDepth 100000 in
theorem lifted (os : Os) (started : os.Started) (H : Type) (enc : TypeId × Value → H) :
    ReturnsInHanded {} Try.checked os 3 .any (Rows.validCountsSpec.pre6 enc Try.prog Try.f3 Rows.validCountsRow.domain false) (Rows.validCountsSpec.post enc Try.prog Try.f3 false true false false) := by
  refine returnsInHanded_of_change_sized (C := Try.checked) own started (by kernel_rfl) Try.func3
    (ChangeSpec.witness6 (enc := enc) (C := Try.checked) false ⟨#[], #[.agg #[.int .i64 0, .int .i64 0, .int .i64 0, .int .i64 0, .int .i64 0], .slice none 0 0], []⟩ 8 (by kernel_rfl) (by kernel_rfl) (by kernel_rfl) (by kernel_rfl)) ?_
  intro W base args ds gs before hval0 hW hcnd hsz0 _
  have hval : ∀ (j : Nat) t v, Try.f3.params[j]? = some t → args[j]? = some v → Value.okWide Try.prog W .any base t v := hval0
  have hW' := hW
  obtain ⟨p, q, hA0, hV, rfl, hfz, hnd⟩ := hW
  have hA : DataW.TrodAll enc Try.prog W 0 (fun _ => true) true Try.f3.params.toList args.toList ds p := hA0
  have hsz : (DataW.weightsEach Try.prog (Try.f3.params.toList ++ Rows.validCountsSpec.plain.varTypes Try.prog) (ds ++ gs)).all (· ≤ reachBytes) = true := hsz0
  rw [Try.params3] at hA hval hsz
  obtain ⟨v0, vs0, d0, ds0, p0, q0, hargs, rfl, rfl, h0, r0⟩ := trodAll_cons hA
  obtain ⟨v1, vs1, d1, ds1, p1, q1, rfl, rfl, rfl, h1, r1⟩ := trodAll_cons r0
  obtain ⟨rfl, rfl, rfl⟩ := trodAll_nil r1
  obtain rfl : args = #[v0, v1] := by cases args; simp_all
  obtain ⟨rfl, rfl⟩ := trodVars_none hV
  have k0 := h0
  have lt0 : ∀ x ∈ p0, x.block < W.heap.size := by obtain ⟨m, hm⟩ := k0; exact DataW.trod_lt m _ _ _ hm
  obtain ⟨gc0, gs0, gn0, gl0, gk0, rfl, f0⟩ := MGeRow.geom_open (hval 0 23 v0 rfl rfl) h0
  have k1 := h1
  have lt1 : ∀ x ∈ p1, x.block < W.heap.size := by obtain ⟨m, hm⟩ := k1; exact DataW.trod_lt m _ _ _ hm
  obtain ⟨A1, l1, c1, rfl⟩ := okWide_slice Try.underlying24 (hval 1 24 v1 rfl rfl)
  obtain ⟨z1, r1_, i1_, lc1, cm1⟩ := VaRow.exts_open (fun _ => rfl) h1
  clear hA0 hval0
  refine (VaY.counts_w gc0 gs0 gn0 gl0 gk0 A1 l1 c1 z1 W f0 r1_ i1_ lc1 cm1).mono fun e W' ⟨he, fr⟩ => ?_
  have bel : Below W.heap.size W W' := fr.below (Nat.le_refl _) (fun _ h => h.elim)
  subst he
  exact ⟨_, rfl, _, _, _, [], _, [], hW', trodAll_mk1 (shut_bool Try.underlying4 _), (trodAll_cons_mk (Below.trod laidOut (by kernel_rfl) (of_decide_eq_true (by kernel_rfl)) k0 bel lt0) (trodAll_cons_mk (Below.trod laidOut (by kernel_rfl) (of_decide_eq_true (by kernel_rfl)) k1 bel lt1) trodAll_mk0)), rfl, bel.frame _, fun h => by cases h⟩

theorem over : Rows.validCountsRow.holds Try.pinned (OpenSpec.ofChange Rows.validCountsSpec) :=
  OpenClaim.holds_of_wide 3 Try.f3 rfl rfl rfl rfl rfl rfl rfl ⟨rfl, rfl, rfl, rfl, rfl⟩ rfl rfl rfl rfl rfl (by kernel_rfl) Try.func3 (by kernel_rfl)
    (of_decide_eq_true (by kernel_rfl)) (by unfold Func.isWrapper; first | (rw [if_pos (by decide +kernel)]; kernel_rfl) | (rw [if_neg (by decide +kernel)]; exact ⟨rfl, rfl⟩))
    (fun os started H enc _ => lifted os started H enc)

theorem proved : Rows.ValidCountsSaid := over
#print axioms proved
end Go.Proofs.Ytkkbgbpmpcoffaa.ValidCountsP
