/- Contracts: a list that is limited; a copy of a list; a set without a span. Condition: the slices read as lists, all numbers are 64 bits. -/
import Derived.Test.YtllolilpchmkiaaDoorSpG
namespace Go.Proofs.YtllolilpchmkiaaDoor.SpH
open Go.RowKit MSep MSepC MSpM SpA SpB SpO SpE SpF SpG

/-- The call has returned a slice that reads as L, and an error's number. -/
def RetP (w w' : World) (e : Ending) (L : List Sp) (n : Int) : Prop := ∃ A k c, e = .returned (.tuple #[.slice A k c, .int .i64 n]) ∧ RdS w' A k L ∧ Fr No w w'
theorem RetP.mk {w w' : World} {L : List Sp} {A : Option Addr} {k c : Nat} {n : Int} (h : RdS w' A k L) (f : Fr No w w') : RetP w w' (.returned (.tuple #[.slice A k c, .int .i64 n])) L n := ⟨A, k, c, rfl, h, f⟩
theorem kco {B : Nat} {W w' : World} {v : Value} {l : List Sp} {p : Addr} {u : Value} (f : Fr (fun q => v.ownBlock = some q) W w') (o : Out B W v l) (hb : p.block < B) (h : W.cell? p = some u) : w'.cell? p = some u :=
  Fr.cell_some f h (fun he => by have := (o.ge _ he).1; omega)

theorem eqnil (a : Option Addr) (l c : Nat) (w : World) : (binOp .eql 24 (.slice a l c) (.slice none 0 0)).run Tryd.prog w = .ok (.bool a.isNone) w := by
  have h := run_equal_slice_nil (P := Tryd.prog) w 24 _ a l c Tryd.underlying24
  simp [binOp, h]
/-- Behind k rounds of Drop. -/
def DrI (w : World) (xs : List Sp) (s : Sp) (l : Nat) (v i : Value) (wr : World) : Prop := ∃ (k : Nat) (A : Option Addr) (c : Nat), k ≤ l ∧ i = .int .i64 k ∧ v = .slice A (drop (xs.take k) s).length c ∧ Out (w.heap.size + 1) wr v (drop (xs.take k) s) ∧ Fr No w wr ∧ Blk wr w.heap.size 57 #[.int .i64 s.1, .int .i64 s.2]
theorem drI_start {w w1 : World} {xs : List Sp} {s : Sp} {l : Nat} (f : Hid (Fr No w w1)) (b : Hid (Blk w1 w.heap.size 57 #[.int .i64 s.1, .int .i64 s.2])) : DrI w xs s l (.slice none 0 0) (.int .i64 0) w1 :=
  ⟨0, none, 0, by omega, rfl, rfl, Out.nil _ _, f.out, b.out⟩
theorem drop_snoc {xs : List Sp} {k : Nat} {t s : Sp} (h : xs[k]? = some t) : drop (xs.take (k + 1)) s = drop (xs.take k) s ++ cut0 t s := by
  rw [take_snoc h, drop, List.flatMap_append]
  simp [drop]
theorem drop_len2 {xs : List Sp} {k l : Nat} (s : Sp) (h : xs.length = l) : (drop (xs.take k) s).length ≤ 2 * l := by
  have := drop_len (xs.take k) s
  have : (xs.take k).length ≤ xs.length := by simp; omega
  omega

end Go.Proofs.YtllolilpchmkiaaDoor.SpH
