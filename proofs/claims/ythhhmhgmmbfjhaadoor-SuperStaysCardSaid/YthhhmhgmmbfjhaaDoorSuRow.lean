/- What the rows over superblocks take: a superblock that came in. -/
import Derived.Test.YthhhmhgmmbfjhaaDoorFrameB
import Derived.Test.YthhhmhgmmbfjhaaDoorSuA
namespace Go.Proofs.YthhhmhgmmbfjhaaDoor.SuRow
open Go.Joins Go.ChangeShapes Go.WideShapes Go.RowKit Go.Deep MFrame MSep SuA

theorem ci : Tryd.prog.cellsOf 3 = 1 := by kernel_rfl
theorem cb : Tryd.prog.cellsOf 4 = 1 := by kernel_rfl
theorem cg : Tryd.prog.cellsOf 23 = 5 := by kernel_rfl
theorem cs10 : Tryd.prog.cellsOf 25 = 10 := by kernel_rfl
set_option maxRecDepth 100000 in
set_option maxHeartbeats 1000000 in
theorem super_open {H : Type} {enc : TypeId × Value → H} {w : World} {base b0 : Nat} {r : Reach} {spare : Nat → Bool} {held : Bool} {v : Value} {d : DataW H} {p : List MemPlace}
    (hv : Value.okWide Tryd.prog w r b0 25 v) (h : DataW.Trod enc Tryd.prog w base spare held 25 v d p) : ∃ (g c s n l k t e f : Int) (b : Bool), v = sv g c s n l k t e f b ∧ (-9223372036854775808 ≤ s ∧ s ≤ 9223372036854775807) ∧ (-9223372036854775808 ≤ g ∧ g ≤ 9223372036854775807) := by
  obtain ⟨cs, rfl, hsz⟩ := okWide_struct Tryd.underlying25 hv
  obtain ⟨l⟩ := cs
  match l, hsz.trans cs10 with
  | [c0, c1, c2, c3, c4, c5, c6, c7, c8, c9], _ =>
    obtain ⟨fuel, hf⟩ := h
    obtain ⟨xs, n, _, _, _, hlen, hg⟩ := DataW.trod_struct Tryd.underlying25 hf
    match xs, hlen with
    | [y0, y1, y2, y3, y4, y5], _ =>
      have g0 := hg 0 _ rfl
      have g1 := hg 1 _ rfl
      have g2 := hg 2 _ rfl
      have g3 := hg 3 _ rfl
      have g4 := hg 4 _ rfl
      have g5 := hg 5 _ rfl
      simp only [List.getElem_toArray, List.getElem_cons_zero, List.getElem_cons_succ, ci, cb, cg, Value.cells, List.drop_succ_cons, List.drop_zero, List.take_succ_cons, List.take_zero, List.getElem?_cons_zero, List.getElem?_cons_succ] at g0 g1 g2 g3 g4 g5
      obtain ⟨zs, m, _, _, _, hlen2, hg2⟩ := DataW.trod_struct Tryd.underlying23 g1
      match zs, hlen2 with
      | [z0, z1, z2, z3, z4], _ =>
        have k0 := hg2 0 _ rfl
        have k1 := hg2 1 _ rfl
        have k2 := hg2 2 _ rfl
        have k3 := hg2 3 _ rfl
        have k4 := hg2 4 _ rfl
        simp only [List.getElem_toArray, List.getElem_cons_zero, List.getElem_cons_succ, ci, List.drop_succ_cons, List.drop_zero, List.take_succ_cons, List.take_zero, List.getElem?_cons_zero, List.getElem?_cons_succ] at k0 k1 k2 k3 k4
        obtain ⟨a0, e0, _, w0⟩ := DataW.trod_int Tryd.underlying3 g0
        obtain ⟨a1, e1, _, _⟩ := DataW.trod_int Tryd.underlying3 k0
        obtain ⟨a2, e2, _, w2⟩ := DataW.trod_int Tryd.underlying3 k1
        obtain ⟨a3, e3, _, _⟩ := DataW.trod_int Tryd.underlying3 k2
        obtain ⟨a4, e4, _, _⟩ := DataW.trod_int Tryd.underlying3 k3
        obtain ⟨a5, e5, _, _⟩ := DataW.trod_int Tryd.underlying3 k4
        obtain ⟨a6, e6, _, _⟩ := DataW.trod_int Tryd.underlying3 g2
        obtain ⟨a7, e7, _, _⟩ := DataW.trod_int Tryd.underlying3 g3
        obtain ⟨a8, e8, _, _⟩ := DataW.trod_int Tryd.underlying3 g4
        obtain ⟨a9, e9, _⟩ := DataW.trod_bool Tryd.underlying4 g5
        simp at e0 e1 e2 e3 e4 e5 e6 e7 e8 e9
        subst e0 e1 e2 e3 e4 e5 e6 e7 e8 e9
        exact ⟨a0, a1, a2, a3, a4, a5, a6, a7, a8, a9, rfl, bounds_i64 w2, bounds_i64 w0⟩
end Go.Proofs.YthhhmhgmmbfjhaaDoor.SuRow
