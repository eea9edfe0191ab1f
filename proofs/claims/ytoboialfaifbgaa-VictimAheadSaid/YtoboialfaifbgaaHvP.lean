import Derived.Test.YtoboialfaifbgaaPlC
import Derived.BigQuiet
import Derived.Deep.DeepCutAuto
import Derived.Test.YtoboialfaifbgaaFrameB
import Derived.Test.YtoboialfaifbgaaPlB
import Derived.Test.YtoboialfaifbgaaGeEk
import Derived.Laws.OwnMore
/- Contracts: which numbers are no role; the lowest free zone; who may follow whom; Role, Roles. Conditions: the pool lies in memory as PlB says; a zone's number has 64 bits. -/
namespace Go.Proofs.Ytoboialfaifbgaa.PlD
open Go.RowKit MSep MSepC MGeM GeA PlM PlA PlB PlC

theorem isseq_v (c s n l k z : Int) (v : Bool) (w : World) (hm : mayG ⟨c, s, n, l, k⟩) (hz : inI z) (hv : v = decide (c ≤ z ∧ z < c + s)) : Calls Try.prog 73 #[.agg #[.int .i64 c, .int .i64 s, .int .i64 n, .int .i64 l, .int .i64 k], .int .i64 z] w fun e w' => e = .returned (.bool v) ∧ Fr No w w' := by
  obtain ⟨_, ⟨h4, h128⟩, _⟩ := may_in hm
  have e : decide (sqo ⟨c, s, n, l, k⟩ z) = v := by
    rw [hv]
    exact decide_eq_decide.2 ⟨fun h => h.2, fun h => ⟨hm, h⟩⟩
  rw [← e]
  exact GeD.isseq_ok c s n l k z w (by omega) hz
def rol (c s : Int) (R : List Int) (z : Int) : Int := if c ≤ z ∧ z < c + s then R.getD (z - c).toNat 0 else -1
theorem getD_of {R : List Int} {c s z : Int} (hl : (R.length : Int) = s) (h : c ≤ z ∧ z < c + s) : ∃ (i : Nat) (x : Int), z - c = i ∧ R[i]? = some x ∧ R.getD (z - c).toNat 0 = x := by
  have hlt : (z - c).toNat < R.length := by omega
  refine ⟨(z - c).toNat, R[(z - c).toNat], by omega, List.getElem?_eq_getElem hlt, ?_⟩
  rw [List.getD_eq_getElem?_getD, List.getElem?_eq_getElem hlt]; rfl
end Go.Proofs.Ytoboialfaifbgaa.PlD
/- Contracts: New, Sound, Take, Set, Load. Conditions: the pool lies in memory as PlB says; the geometry's Seq and a zone's number have 64 bits. -/
namespace Go.Proofs.Ytoboialfaifbgaa.PlE
open Go.RowKit MSep MSepC MGeM GeA PlM PlA PlB PlC PlD

theorem infoZ : ∃ i, Try.prog.info? 3 = some i ∧ i.zero = some (.int .i64 0) ∧ i.size = 1 ∧ i.bytes = 8 := by
  have h := info3a
  cases hi : Try.prog.info? 3 with
  | none => rw [hi] at h; cases h
  | some i =>
    rw [hi] at h
    simp only [Option.map_some, Option.some.injEq, Prod.mk.injEq] at h
    exact ⟨i, rfl, h.1, h.2.1, h.2.2⟩
/-- Of a geometry that may be. -/
theorem layout_y (c s n l k : Int) (w : World) (hm : mayG ⟨c, s, n, l, k⟩) : Calls Try.prog 54 #[.agg #[.int .i64 c, .int .i64 s, .int .i64 n, .int .i64 l, .int .i64 k]] w fun e w' => (∃ a r q d t x u : Int, e = .returned (.tuple #[.agg #[.int .i64 a, .int .i64 r, .int .i64 q, .int .i64 (s - k - 1), .int .i64 d, .int .i64 t, .int .i64 x, .int .i64 u], .int .i64 0])) ∧ Fr No w w' := by
  obtain ⟨_, ⟨h4, h128⟩, _⟩ := may_in hm
  refine (GeC.layout_ok c s n l k w (by omega)).mono ?_
  rintro e w' ⟨rfl, f⟩
  rw [show lyo ⟨c, s, n, l, k⟩ = (lay ⟨c, s, n, l, k⟩, 0) by unfold lyo; rw [if_pos hm]]
  exact ⟨⟨_, _, _, _, _, _, _, rfl⟩, f⟩
theorem layout_n (c s n l k : Int) (w : World) (hs : inI s) (hm : ¬ mayG ⟨c, s, n, l, k⟩) : Calls Try.prog 54 #[.agg #[.int .i64 c, .int .i64 s, .int .i64 n, .int .i64 l, .int .i64 k]] w fun e w' => e = .returned (.tuple #[.agg #[.int .i64 0, .int .i64 0, .int .i64 0, .int .i64 0, .int .i64 0, .int .i64 0, .int .i64 0, .int .i64 0], .int .i64 70]) ∧ Fr No w w' := by
  refine (GeC.layout_ok c s n l k w hs).mono ?_
  rintro e w' ⟨rfl, f⟩
  rw [show lyo ⟨c, s, n, l, k⟩ = (z8, 70) by unfold lyo; rw [if_neg hm]]
  exact ⟨rfl, f⟩
end Go.Proofs.Ytoboialfaifbgaa.PlE
/- Contracts: Take, Set, Load. Conditions: the pool lies in memory as PlB says; the geometry's Seq and a zone's number have 64 bits. -/
namespace Go.Proofs.Ytoboialfaifbgaa.PlF
open Go.RowKit MSep MSepC MGeM GeA PlM PlA PlB PlC PlD PlE

theorem tk_busy {k : Int} {R : List Int} {r : Int} (hr : r = 2 ∨ r = 4) (h : ¬ tkE k R r = 0) : tkE k R r = 140 := by
  unfold tkE at *
  rcases hr with rfl | rfl
  · rw [if_pos rfl] at *
    split at h
    · exact absurd rfl h
    · rename_i h1; rw [if_neg h1]
  · rw [if_neg (by decide), if_pos rfl] at *
    split at h
    · exact absurd rfl h
    · rename_i h1; rw [if_neg h1]
end Go.Proofs.Ytoboialfaifbgaa.PlF
/- Contracts: Load; the calls of a nil pool. Conditions: the roles read as a list of numbers; the geometry's Seq has 64 bits. -/
namespace Go.Proofs.Ytoboialfaifbgaa.PlG
open Go.RowKit MSep MSepC MGeM GeA PlM PlA PlB PlC PlD PlE PlF

/-! A nil pool. -/
end Go.Proofs.Ytoboialfaifbgaa.PlG
/- What must come of every program of layer 14; PoolNobody's walk. -/
namespace Go.Proofs.Ytoboialfaifbgaa.PlH
open Go.RowKit MSep MSepC MGeM GeA PlM PlA PlB PlC PlD PlE PlF PlG

theorem OutI.get {B : Nat} {w : World} {g n c : Nat} {L : List Int} (hn : n = L.length) (h : OutI B w (.slice (some ⟨g, 0, none⟩) n c) L) {i : Nat} {x : Int} (hi : L[i]? = some x) : w.cell? ⟨g, i, none⟩ = some (.int .i64 x) := by
  have hr := OutI.rd hn h
  have hlt := (List.getElem?_eq_some_iff.1 hi).1
  obtain ⟨g', o, e, _, hc⟩ := hr.at_ (by omega)
  cases e
  have := hc i x hi
  rwa [Nat.zero_add] at this
theorem outI_at {B : Nat} {w : World} {A : Option Addr} {k c : Nat} {L : List Int} (h : OutI B w (.slice A k c) L) (hk : 0 < L.length) : ∃ g, A = some ⟨g, 0, none⟩ ∧ B ≤ g ∧ g < w.heap.size := by
  obtain ⟨_, ⟨_, h2⟩ | ⟨g, cap, cur, hv, hb, hh, _⟩⟩ := h
  · omega
  · injection hv with e1 e2 e3
    exact ⟨g, e1, hb, (Array.getElem?_eq_some_iff.1 hh).1⟩
theorem m6 : mayG ⟨2, 6, 16, 3, 2⟩ := by decide
theorem m0 : ¬ mayG ⟨0, 0, 0, 0, 0⟩ := by decide
theorem r0 : List.replicate (6 : Int).toNat (0 : Int) = [0, 0, 0, 0, 0, 0] := rfl
end Go.Proofs.Ytoboialfaifbgaa.PlH
/- A slice of calls on a pool that came in reads as a list; one call that came in. -/
namespace Go.Proofs.Ytoboialfaifbgaa.PlOps
open Go.Joins Go.ChangeShapes Go.WideShapes Go.RowKit Go.Deep MFrame MSep MSepC PlA PlB

theorem list_of {α : Type} {Q : Nat → α → Prop} : ∀ l : Nat, (∀ i, i < l → ∃ v, Q i v) → ∃ vs : List α, vs.length = l ∧ ∀ i v, vs[i]? = some v → Q i v
  | 0, _ => ⟨[], rfl, fun i v h => by simp at h⟩
  | l + 1, h => by
    obtain ⟨vs, hl, hv⟩ := list_of l (fun i hi => h i (by omega))
    obtain ⟨v, hq⟩ := h l (by omega)
    refine ⟨vs ++ [v], by simp [hl], fun i u hu => ?_⟩
    rcases Nat.lt_or_ge i l with hi | hi
    · rw [List.getElem?_append_left (by omega)] at hu
      exact hv i u hu
    · rw [List.getElem?_append_right (by omega)] at hu
      by_cases hil : i = l
      · subst hil
        simp [hl] at hu
        subst hu
        exact hq
      · rw [List.getElem?_eq_none (by simp; omega)] at hu
        cases hu

/-- The slice at A of l calls reads as xs. -/
def RdO (w : World) (A : Option Addr) (l : Nat) (xs : List (Int × Int × Int)) : Prop :=
  xs.length = l ∧ (0 < l → ∃ g o, A = some ⟨g, o, none⟩ ∧ g < w.heap.size ∧ ∀ i t, xs[i]? = some t → w.cell? ⟨g, o + i * 3, none⟩ = some (.int .i64 t.1) ∧ w.cell? ⟨g, o + i * 3 + 1, none⟩ = some (.int .i64 t.2.1) ∧ w.cell? ⟨g, o + i * 3 + 2, none⟩ = some (.int .i64 t.2.2))
theorem RdO.fr {w w' : World} {A : Option Addr} {l : Nat} {xs : List (Int × Int × Int)} (h : RdO w A l xs) (f : Fr No w w') : RdO w' A l xs :=
  ⟨h.1, fun h0 => by
    obtain ⟨g, o, e, hg, hc⟩ := h.2 h0
    refine ⟨g, o, e, Nat.lt_of_lt_of_le hg f.size, fun i t hi => ?_⟩
    obtain ⟨c0, c1, c2⟩ := hc i t hi
    exact ⟨f.cell_some c0 (fun h => h), f.cell_some c1 (fun h => h), f.cell_some c2 (fun h => h)⟩⟩

theorem isI_sized {H : Type} {enc : TypeId × Value → H} {w : World} {base : Nat} {spare : Nat → Bool} {held : Bool} {t e : TypeId} {A : Option Addr} {l c : Nat} {d : DataW H} {p : List MemPlace} {P : Program} {ts : List TypeId} {ds : List (DataW H)} {j : Nat} (ht : P.underlying t = some (.slice e)) (he : P.underlying e = some (.int .i64)) (hc : P.cellsOf e = 1) (hb : P.bytesOf e = 8)
    (hsp : ∀ b, spare b = true) (h : DataW.Trod enc P w base spare held t (.slice A l c) d p) (hsz : (DataW.weightsEach P ts ds).all (· ≤ reachBytes) = true) (htj : ts[j]? = some t) (hdj : ds[j]? = some d) : ∃ zs, RdI w A l zs ∧ l * 8 ≤ 140737488355328 := by
  obtain ⟨fuel, hf⟩ := h
  rcases open_ints ht he hc hf with ⟨hcs, _⟩ | ⟨x, l', c', zs, hcs, _, hl, hm, hz, hx, hcell, hwz⟩
  · simp [Value.cells] at hcs
    obtain ⟨rfl, rfl, rfl⟩ := hcs
    exact ⟨[], ⟨rfl, Rd.nil _ _⟩, by omega⟩
  · simp [Value.cells] at hcs
    obtain ⟨rfl, rfl, rfl⟩ := hcs
    have hz' : zs.length = c := by simpa [hsp] using hz
    simp only [Prod.mk.injEq] at hx
    have hr : Rd w (some x) l ((zs.take l).map en) := rd_of_ints (k := .i64) hl hz' hcell
    refine ⟨zs.take l, ⟨by simp; omega, hr⟩, ?_⟩
    have := sized_slice hsz htj (hdj.trans (congrArg some hx.1)) ht
    rw [hb] at this
    simp [lits, reachBytes] at this
    omega
end Go.Proofs.Ytoboialfaifbgaa.PlOps
/- PoolSpares' walk. Conditions: the geometry's Seq has 64 bits; the calls read as a list. -/
namespace Go.Proofs.Ytoboialfaifbgaa.PlI
open Go.RowKit MSep MSepC MGeM GeA PlM PlA PlB PlC PlD PlE PlF PlG PlH

theorem rl_y (c s n l k : Int) (w : World) (hm : mayG ⟨c, s, n, l, k⟩) : Calls Try.prog 22 #[.agg #[.int .i64 c, .int .i64 s, .int .i64 n, .int .i64 l, .int .i64 k]] w fun e w' => (∃ a r q d t x u : Int, e = .returned (.tuple #[.agg #[.int .i64 a, .int .i64 r, .int .i64 q, .int .i64 (s - k - 1), .int .i64 d, .int .i64 t, .int .i64 x, .int .i64 u], .bool true])) ∧ Fr No w w' := by
  obtain ⟨_, ⟨h4, h128⟩, _⟩ := may_in hm
  refine (GeEk.rlayout_ok c s n l k w (by omega)).mono ?_
  rintro e w' ⟨rfl, f⟩
  rw [show GeE.rlo ⟨c, s, n, l, k⟩ = (lay ⟨c, s, n, l, k⟩, true) by unfold GeE.rlo; rw [if_pos hm]]
  exact ⟨⟨_, _, _, _, _, _, _, rfl⟩, f⟩
theorem rl_n (c s n l k : Int) (w : World) (hs : inI s) (hm : ¬ mayG ⟨c, s, n, l, k⟩) : Calls Try.prog 22 #[.agg #[.int .i64 c, .int .i64 s, .int .i64 n, .int .i64 l, .int .i64 k]] w fun e w' => e = .returned (.tuple #[.agg #[.int .i64 0, .int .i64 0, .int .i64 0, .int .i64 0, .int .i64 0, .int .i64 0, .int .i64 0, .int .i64 0], .bool false]) ∧ Fr No w w' := by
  refine (GeEk.rlayout_ok c s n l k w hs).mono ?_
  rintro e w' ⟨rfl, f⟩
  rw [show GeE.rlo ⟨c, s, n, l, k⟩ = (z8, false) by unfold GeE.rlo; rw [if_neg hm]]
  exact ⟨rfl, f⟩
end Go.Proofs.Ytoboialfaifbgaa.PlI
/- Contracts: the document's own pool: Count, Cached, Sound, May, Take, Set, Load. Conditions: it lies in memory as PlB says; numbers of zones and the geometry's Seq have 64 bits. -/
namespace Go.Proofs.Ytoboialfaifbgaa.PlJ
open Go.RowKit MSep MSepC MGeM GeA PlM PlA PlB PlC PlD PlE PlH PlI

end Go.Proofs.Ytoboialfaifbgaa.PlJ
/- Contracts: the document's own pool: May, Take, Set, Load. Conditions: it lies in memory as PlB says; numbers of zones and the geometry's Seq have 64 bits. -/
namespace Go.Proofs.Ytoboialfaifbgaa.PlK
open Go.RowKit MSep MSepC MGeM GeA PlM PlA PlB PlC PlD PlE PlH PlI PlJ

theorem OutI.set_ {B : Nat} {w : World} {g n c : Nat} {L : List Int} (h : OutI B w (.slice (some ⟨g, 0, none⟩) n c) L) (i : Nat) (y : Int) : OutI B (w.setCell ⟨g, i, none⟩ (.int .i64 y)) (.slice (some ⟨g, 0, none⟩) n c) (L.set i y) := by
  obtain ⟨A, c', he⟩ := OutI.form h
  cases he
  have h1 := (World.ownsRow.stored h i (.int .i64 y)).1
  unfold OutI
  rw [List.length_set, List.map_set]
  exact h1
theorem OutI.frozen {B : Nat} {w : World} {g n c : Nat} {L : List Int} (h : OutI B w (.slice (some ⟨g, 0, none⟩) n c) L) (i : Nat) : w.frozen? ⟨g, i, none⟩ = false := by
  obtain ⟨A, c', he⟩ := OutI.form h
  cases he
  exact World.ownsRow.frozenAt h i
end Go.Proofs.Ytoboialfaifbgaa.PlK
