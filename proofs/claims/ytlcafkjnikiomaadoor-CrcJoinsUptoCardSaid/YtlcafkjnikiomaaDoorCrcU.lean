/- The frame of the second forms' rows of package crc's laws: what the bound gives, and a world for the witness. -/
import Derived.Test.YtlcafkjnikiomaaDoorCrcK
import Derived.Test.YtlcafkjnikiomaaDoorCrcP
import Derived.Deep.DeepHandedRow
import Derived.Deep.Matrix
namespace Go.Proofs.YtlcafkjnikiomaaDoor.CrcU
open Go.Joins Go.ChangeShapes Go.WideShapes Go.ChangeAt Go.RowKit Go.Deep MSep MFrame CrcM CrcA CrcK CrcP

theorem one_le {H : Type} (d : DataW H) : 1 ≤ Rows.uptoBulk d := by
  cases d with
  | lit l => cases l <;> simp [Rows.uptoBulk]
  | nil => simp [Rows.uptoBulk]
  | ptr d => simp [Rows.uptoBulk]
  | slice elems spare => simp [Rows.uptoBulk]
  | agg parts => simp [Rows.uptoBulk]
  | iface t d => simp [Rows.uptoBulk]
  | map entries => simp [Rows.uptoBulk]
  | held h => simp [Rows.uptoBulk]
theorem length_le {H : Type} (l : List (DataW H)) : l.length ≤ Rows.uptoBulkAll l := by
  induction l with
  | nil => simp [Rows.uptoBulkAll]
  | cons x r ih => have := one_le x; simp only [Rows.uptoBulkAll, List.length_cons]; omega
theorem bulk_append {H : Type} (l r : List (DataW H)) : Rows.uptoBulkAll (l ++ r) = Rows.uptoBulkAll l + Rows.uptoBulkAll r := by
  induction l with
  | nil => simp [Rows.uptoBulkAll]
  | cons x l ih => simp only [List.cons_append, Rows.uptoBulkAll, ih]; omega
theorem bulk_bound {H : Type} {l r : List (DataW H)} (hk : Rows.uptoSmall H (l ++ r) = true) : Rows.uptoBulkAll l ≤ 1048576 := by
  have h := of_decide_eq_true hk
  rw [bulk_append] at h
  omega

/-- A slice of bytes that came in, with the bound that its reading gives. -/
theorem isB_bulk {H : Type} {enc : TypeId × Value → H} {w : World} {base : Nat} {spare : Nat → Bool} {held : Bool} {t e : TypeId} {A : Option Addr} {l c : Nat} {d : DataW H} {p : List MemPlace} {P : Program} (ht : P.underlying t = some (.slice e)) (he : P.underlying e = some (.int .u8)) (hc : P.cellsOf e = 1)
    (hsp : ∀ b, spare b = true) (h : DataW.Trod enc P w base spare held t (.slice A l c) d p) : ∃ zs, IsB w A l c zs ∧ l ≤ Rows.uptoBulk d := by
  obtain ⟨fuel, hf⟩ := h
  rcases open_ints ht he hc hf with ⟨hcs, _⟩ | ⟨x, l', c', zs, hcs, _, hl, hm, hz, hx, hcell, hwz⟩
  · simp [Value.cells] at hcs
    obtain ⟨rfl, rfl, rfl⟩ := hcs
    exact ⟨[], ⟨Rd.nil _ _, Nat.le_refl _, by simp [maxLen], by simp⟩, by omega⟩
  · simp [Value.cells] at hcs
    obtain ⟨rfl, rfl, rfl⟩ := hcs
    have hz' : zs.length = c := by simpa [hsp] using hz
    simp only [Prod.mk.injEq] at hx
    refine ⟨zs.take l, ⟨rd_of_ints hl hz' hcell, hl, hm, fun y hy => bounds_u8 (hwz y (List.mem_of_mem_take hy))⟩, ?_⟩
    rw [hx.1]
    have := length_le (lits (H := H) .u8 (zs.take l))
    simp only [Rows.uptoBulk]
    simp [lits] at this ⊢
    omega

theorem bulkAll_map {H : Type} (D : Nat → DataW H) (L : Nat → List Int) (h : ∀ r, (L r).length ≤ Rows.uptoBulk (D r)) : ∀ (l : List Nat), (l.flatMap L).length ≤ Rows.uptoBulkAll (l.map D) := by
  intro l
  induction l with
  | nil => simp
  | cons x l ih =>
    have := h x
    simp only [List.flatMap_cons, List.length_append, List.map_cons, Rows.uptoBulkAll]
    omega

/-- A slice of slices of bytes that came in. -/
theorem open_rows {H : Type} {enc : TypeId × Value → H} {w : World} {base : Nat} {held : Bool} {A : Option Addr} {l c : Nat} {d : DataW H} {p : List MemPlace}
    (h : DataW.Trod enc Tryd.prog w base (fun _ => true) held 35 (.slice A l c) d p) : ∃ rows, RowsAt w A l rows ∧ (rows.flatMap (·.zs)).length ≤ Rows.uptoBulk d := by
  obtain ⟨fuel, hf⟩ := h
  rcases open_int_rows Tryd.underlying35 Tryd.underlying23 Tryd.underlying5 (by kernel_rfl) (by kernel_rfl) hf with ⟨hcs, _⟩ | ⟨a, len, cap, AA, L, C, Z, hcs, _, hl, hm, hx, hrow⟩
  · simp [Value.cells] at hcs
    obtain ⟨rfl, rfl, rfl⟩ := hcs
    exact ⟨[], ⟨rfl, fun k r hk => by simp at hk⟩, by simp⟩
  · simp [Value.cells] at hcs
    obtain ⟨rfl, rfl, rfl⟩ := hcs
    simp only [Prod.mk.injEq] at hx
    have hB : ∀ r, r < c → IsB w (AA r) (L r) (C r) ((Z r).take (L r)) := fun r hr => by
      obtain ⟨_, h2, h3, h4, h5, h6, h7⟩ := hrow r hr
      refine ⟨?_, h2, h3, fun y hy => bounds_u8 (h5 y (List.mem_of_mem_take hy))⟩
      cases hA : AA r with
      | none =>
        have := h6 hA
        have : L r = 0 := by omega
        rw [this]
        simpa using Rd.nil w none
      | some x => exact rd_of_ints h2 h4 (fun i hi => (h7 x hA).2 i (by omega))
    refine ⟨(List.range l).map fun r => ⟨AA r, L r, C r, (Z r).take (L r)⟩, ⟨by simp, fun k r hk => ?_⟩, ?_⟩
    · rw [List.getElem?_map] at hk
      have hkl : k < l := by
        rcases Nat.lt_or_ge k l with h | h
        · exact h
        · rw [List.getElem?_eq_none (by simpa using h)] at hk
          cases hk
      rw [List.getElem?_range hkl] at hk
      simp at hk
      subst hk
      have hc := (hrow k (by omega)).1
      obtain ⟨g, o, s⟩ := a
      have hs : s = none := by simpa [Addr.add] using World.cell?_spot (hrow 0 (by omega)).1
      subst hs
      rw [add_off] at hc
      exact ⟨g, o, rfl, hc, hB k (by omega)⟩
    · rw [hx.1]
      simp only [Rows.uptoBulk, List.flatMap_map]
      have := bulkAll_map (H := H) (fun r => intRow .u8 (AA r) (L r) (Z r)) (fun r => if r < l then (Z r).take (L r) else []) (fun r => by
        by_cases hr : r < l
        · rw [if_pos hr]
          obtain ⟨_, h2, _, h4, _, h6, _⟩ := hrow r (by omega)
          cases hA : AA r with
          | none =>
            have := h6 hA
            rw [List.length_take]
            omega
          | some x =>
            have hl := length_le (lits (H := H) .u8 ((Z r).take (L r)))
            simp only [intRow, Rows.uptoBulk]
            simp [lits] at hl ⊢
            omega
        · rw [if_neg hr]
          simp) (List.range l)
      have e : (List.range l).flatMap (fun r => if r < l then (Z r).take (L r) else []) = (List.range l).flatMap (fun r => (Z r).take (L r)) := by
        simp only [List.flatMap_def]
        congr 1
        apply List.map_congr_left
        intro r hr
        rw [if_pos (List.mem_range.1 hr)]
      rw [e] at this
      omega

noncomputable def laidWorld (os : Os) : World :=
  { World.holding Tryd.prog os ⟨#[], #[], []⟩ with heap := (World.holding Tryd.prog os ⟨#[], #[], []⟩).heap.modify 0 fun
      | .cells _ t frozen => .cells (tab.map fun (x : Nat) => Value.int .u32 x).toArray t frozen
      | o => o }
theorem laid_met (os : Os) (args : Array Value) : laidMet Tryd.prog LD ((laidWorld os).forCall (fun _ _ => 0) ⟨#[], args, []⟩).memory :=
  laidMet_of_run' 8 (by kernel_rfl) (by kernel_rfl)
end Go.Proofs.YtlcafkjnikiomaaDoor.CrcU
