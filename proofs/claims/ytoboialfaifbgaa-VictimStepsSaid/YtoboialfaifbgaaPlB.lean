/- A pool of zones as it lies in memory, and the document's own pool. -/
import Derived.Test.YtoboialfaifbgaaPlA
import Derived.Deep.MidRow
namespace Go.Proofs.Ytoboialfaifbgaa.PlB
open Go.RowKit MSep MSepC MGeM GeA PlM PlA

/-- A number of 64 bits. -/
def inI (x : Int) : Prop := -9223372036854775808 ≤ x ∧ x ≤ 9223372036854775807
section
variable {w w' : World} {p q x : Nat} {A : Option Addr} {cp : Nat} {c s n l k b : Int} {R : List Int}
theorem may_in (h : mayG ⟨c, s, n, l, k⟩) : (2 ≤ c ∧ c ≤ 16) ∧ (4 ≤ s ∧ s ≤ 128) ∧ (1 ≤ k ∧ k ≤ s - 2) := by
  obtain ⟨h1, h2, h3, h4, h5⟩ := h.1
  exact ⟨h1, h2, h5⟩
end
/-- 'p.geom', whole. -/
theorem ld_pg {ops : Array Oper} {rest : List Oper} {o : Oper} {ac : Act} {w : World} {Q : Exit → Act → World → Prop} (hgd : o.guard = none) (y : Operand) (ho : o.op = .load 23 y) (g : Nat) (hx : ac.eval y = .pointer (some ⟨g, 0, none⟩)) {c s n l k : Int} (hg : w.rangeAt g 0 [.int .i64 c, .int .i64 s, .int .i64 n, .int .i64 l, .int .i64 k])
    (h : wpList Try.prog ops Q rest (ac.put o.dst (.agg #[.int .i64 c, .int .i64 s, .int .i64 n, .int .i64 l, .int .i64 k])) w) : wpList Try.prog ops Q (o :: rest) ac w :=
  wpList_load_mid hgd 23 y ho g 0 hx [.int .i64 c, .int .i64 s, .int .i64 n, .int .i64 l, .int .i64 k] _ hg Try.underlying23 rfl infoG h
end Go.Proofs.Ytoboialfaifbgaa.PlB
