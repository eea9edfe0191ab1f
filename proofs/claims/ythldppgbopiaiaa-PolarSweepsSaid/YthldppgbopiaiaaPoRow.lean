/- What the row over whole numbers takes: a slice of them that came in, no longer than the form's own reach. -/
import Derived.Test.YthldppgbopiaiaaPoD
import Derived.Test.YthldppgbopiaiaaFrameB
namespace Go.Proofs.Ythldppgbopiaiaa.MPoRow
open Go.Joins Go.ChangeShapes Go.WideShapes Go.RowKit Go.Deep MFrame MSep PoC PoD

theorem isI_sized {H : Type} {enc : TypeId × Value → H} {w : World} {base : Nat} {spare : Nat → Bool} {held : Bool} {t e : TypeId} {A : Option Addr} {l c : Nat} {d : DataW H} {p : List MemPlace} {P : Program} {ts : List TypeId} {ds : List (DataW H)} {j : Nat} (ht : P.underlying t = some (.slice e)) (he : P.underlying e = some (.int .i64)) (hc : P.cellsOf e = 1) (hb : P.bytesOf e = 8)
    (hsp : ∀ b, spare b = true) (h : DataW.Trod enc P w base spare held t (.slice A l c) d p) (hsz : (DataW.weightsEach P ts ds).all (· ≤ reachBytes) = true) (htj : ts[j]? = some t) (hdj : ds[j]? = some d) : ∃ zs, RdI w A l zs ∧ l * 8 ≤ 140737488355328 := by
  obtain ⟨fuel, hf⟩ := h
  rcases open_ints ht he hc hf with ⟨hcs, _⟩ | ⟨x, l', c', zs, hcs, _, hl, hm, hz, hx, hcell, hwz⟩
  · simp [Value.cells] at hcs
    obtain ⟨rfl, rfl, rfl⟩ := hcs
    exact ⟨[], ⟨rfl, Rd.nil _ _⟩, by omega⟩
  · simp [Value.cells] at hcs
    obtain ⟨rfl, rfl, rfl⟩ := hcs
    have hz' : zs.length = c := by simpa [hsp] using hz
    simp only [Prod.mk.injEq] at hx
    have hr : Rd w (some x) l ((zs.take l).map en) := rd_of_ints (k := .i64) hl hz' hcell
    refine ⟨zs.take l, ⟨by simp; omega, hr⟩, ?_⟩
    have := sized_slice hsz htj (hdj.trans (congrArg some hx.1)) ht
    rw [hb] at this
    simp [lits, reachBytes] at this
    omega
end Go.Proofs.Ythldppgbopiaiaa.MPoRow
