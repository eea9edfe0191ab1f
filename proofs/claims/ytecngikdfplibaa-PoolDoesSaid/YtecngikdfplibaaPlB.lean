/- A pool of zones as it lies in memory, and the document's own pool. -/
import Derived.Test.YtecngikdfplibaaPlA
import Derived.Deep.MidRow
namespace Go.Proofs.Ytecngikdfplibaa.PlB
open Go.RowKit MSep MSepC MGeM GeA PlM PlA

/-- A number of 64 bits. -/
def inI (x : Int) : Prop := -9223372036854775808 ≤ x ∧ x ≤ 9223372036854775807
/-- The pool of a geometry that may be lies in block p, the roles of its zones in block q. -/
structure PA (w : World) (p q : Nat) (c s n l k b : Int) (R : List Int) : Prop where
  may : mayG ⟨c, s, n, l, k⟩
  len : (R.length : Int) = s
  hb : b = s - k - 1
  hp : Blk w p 99 #[.int .i64 c, .int .i64 s, .int .i64 n, .int .i64 l, .int .i64 k, .int .i64 b, .slice (some ⟨q, 0, none⟩) R.length R.length]
  hq : Blk w q 3 (R.map en).toArray
/-- The document's pool lies in block x, its roles in a row of the call's own. -/
structure QA (w : World) (x : Nat) (A : Option Addr) (cp : Nat) (c s n l k : Int) (R : List Int) : Prop where
  hx : Blk w x 101 #[.int .i64 c, .int .i64 s, .int .i64 n, .int .i64 l, .int .i64 k, .slice A R.length cp]
  ho : OutI 0 w (.slice A R.length cp) R
section
variable {w w' : World} {p q x : Nat} {A : Option Addr} {cp : Nat} {c s n l k b : Int} {R : List Int}
theorem may_in (h : mayG ⟨c, s, n, l, k⟩) : (2 ≤ c ∧ c ≤ 16) ∧ (4 ≤ s ∧ s ≤ 128) ∧ (1 ≤ k ∧ k ≤ s - 2) := by
  obtain ⟨h1, h2, h3, h4, h5⟩ := h.1
  exact ⟨h1, h2, h5⟩
theorem PA.ne (h : PA w p q c s n l k b R) : p ≠ q := Blk.ne_ h.hp h.hq (by decide)
theorem PA.fr {S : Nat → Prop} (h : PA w p q c s n l k b R) (f : Fr S w w') (hp : ¬ S p) (hq : ¬ S q) : PA w' p q c s n l k b R := ⟨h.may, h.len, h.hb, h.hp.fr f hp, h.hq.fr f hq⟩
theorem PA.fr0 (h : PA w p q c s n l k b R) (f : Fr No w w') : PA w' p q c s n l k b R := h.fr f (fun h => h) (fun h => h)
theorem PA.cells (h : PA w p q c s n l k b R) : w.cell? ⟨p, 0, none⟩ = some (.int .i64 c) ∧ w.cell? ⟨p, 1, none⟩ = some (.int .i64 s) ∧ w.cell? ⟨p, 2, none⟩ = some (.int .i64 n) ∧ w.cell? ⟨p, 3, none⟩ = some (.int .i64 l) ∧ w.cell? ⟨p, 4, none⟩ = some (.int .i64 k) ∧ w.cell? ⟨p, 5, none⟩ = some (.int .i64 b) ∧ w.cell? ⟨p, 6, none⟩ = some (.slice (some ⟨q, 0, none⟩) R.length R.length) :=
  ⟨h.hp.cell 0, h.hp.cell 1, h.hp.cell 2, h.hp.cell 3, h.hp.cell 4, h.hp.cell 5, h.hp.cell 6⟩
theorem PA.get (h : PA w p q c s n l k b R) {i : Nat} {y : Int} (hi : R[i]? = some y) : w.cell? ⟨q, i, none⟩ = some (.int .i64 y) := by
  rw [h.hq.cell]
  simp [hi, en]
theorem PA.range (h : PA w p q c s n l k b R) : w.rangeAt p 0 [.int .i64 c, .int .i64 s, .int .i64 n, .int .i64 l, .int .i64 k] := by
  intro j v hj
  obtain ⟨h0, h1, h2, h3, h4, _⟩ := h.cells
  match j, hj with
  | 0, hj => simp at hj; subst hj; exact h0
  | 1, hj => simp at hj; subst hj; exact h1
  | 2, hj => simp at hj; subst hj; exact h2
  | 3, hj => simp at hj; subst hj; exact h3
  | 4, hj => simp at hj; subst hj; exact h4
  | j + 5, hj => simp at hj
theorem PA.rd (h : PA w p q c s n l k b R) : RdI w (some ⟨q, 0, none⟩) R.length R := by
  refine ⟨rfl, ?_⟩
  have := Rd.blk (off := 0) (n := R.length) h.hq (by simp)
  simpa [List.take_of_length_le] using this
theorem PA.set_ (h : PA w p q c s n l k b R) (i : Nat) (y : Int) : PA (w.setCell ⟨q, i, none⟩ (.int .i64 y)) p q c s n l k b (R.set i y) := by
  refine ⟨h.may, by simpa using h.len, h.hb, ?_, ?_⟩
  · rw [List.length_set]
    exact h.hp.far h.ne _
  · have := h.hq.set_ i (.int .i64 y)
    simpa [List.map_set, en] using this
theorem QA.blk (h : QA w x A cp c s n l k R) (g : Nat) (hg : (Value.slice A R.length cp).ownBlock = some g) : g ≠ x := by
  obtain ⟨_, cs, hb⟩ := own_blk h.ho g hg
  exact Blk.ne_ hb h.hx (by decide)
theorem QA.fr {S : Nat → Prop} (h : QA w x A cp c s n l k R) (f : Fr S w w') (hx : ¬ S x) (hA : ∀ g, (Value.slice A R.length cp).ownBlock = some g → ¬ S g) : QA w' x A cp c s n l k R := ⟨h.hx.fr f hx, h.ho.fr f hA⟩
theorem QA.fr0 (h : QA w x A cp c s n l k R) (f : Fr No w w') : QA w' x A cp c s n l k R := h.fr f (fun h => h) (fun _ _ h => h)
theorem QA.cells (h : QA w x A cp c s n l k R) : w.cell? ⟨x, 0, none⟩ = some (.int .i64 c) ∧ w.cell? ⟨x, 1, none⟩ = some (.int .i64 s) ∧ w.cell? ⟨x, 2, none⟩ = some (.int .i64 n) ∧ w.cell? ⟨x, 3, none⟩ = some (.int .i64 l) ∧ w.cell? ⟨x, 4, none⟩ = some (.int .i64 k) ∧ w.cell? ⟨x, 5, none⟩ = some (.slice A R.length cp) :=
  ⟨h.hx.cell 0, h.hx.cell 1, h.hx.cell 2, h.hx.cell 3, h.hx.cell 4, h.hx.cell 5⟩
theorem QA.rd (h : QA w x A cp c s n l k R) : RdI w A R.length R := OutI.rd rfl h.ho
theorem QA.range (h : QA w x A cp c s n l k R) : w.rangeAt x 0 [.int .i64 c, .int .i64 s, .int .i64 n, .int .i64 l, .int .i64 k] := by
  intro j v hj
  obtain ⟨h0, h1, h2, h3, h4, _⟩ := h.cells
  match j, hj with
  | 0, hj => simp at hj; subst hj; exact h0
  | 1, hj => simp at hj; subst hj; exact h1
  | 2, hj => simp at hj; subst hj; exact h2
  | 3, hj => simp at hj; subst hj; exact h3
  | 4, hj => simp at hj; subst hj; exact h4
  | j + 5, hj => simp at hj
end
/-- 'p.geom', whole. -/
theorem ld_pg {ops : Array Oper} {rest : List Oper} {o : Oper} {ac : Act} {w : World} {Q : Exit → Act → World → Prop} (hgd : o.guard = none) (y : Operand) (ho : o.op = .load 23 y) (g : Nat) (hx : ac.eval y = .pointer (some ⟨g, 0, none⟩)) {c s n l k : Int} (hg : w.rangeAt g 0 [.int .i64 c, .int .i64 s, .int .i64 n, .int .i64 l, .int .i64 k])
    (h : wpList Try.prog ops Q rest (ac.put o.dst (.agg #[.int .i64 c, .int .i64 s, .int .i64 n, .int .i64 l, .int .i64 k])) w) : wpList Try.prog ops Q (o :: rest) ac w :=
  wpList_load_mid hgd 23 y ho g 0 hx [.int .i64 c, .int .i64 s, .int .i64 n, .int .i64 l, .int .i64 k] _ hg Try.underlying23 rfl infoG h
end Go.Proofs.Ytecngikdfplibaa.PlB
