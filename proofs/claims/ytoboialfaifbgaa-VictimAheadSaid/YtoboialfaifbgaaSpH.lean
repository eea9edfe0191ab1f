/- Contracts: a list that is limited; a copy of a list; a set without a span. Condition: the slices read as lists, all numbers are 64 bits. -/
import Derived.Test.YtoboialfaifbgaaSpG
namespace Go.Proofs.Ytoboialfaifbgaa.SpH
open Go.RowKit MSep MSepC MSpM SpA SpB SpO SpE SpF SpG

/-- The call has returned a slice that reads as L, and an error's number. -/
def RetP (w w' : World) (e : Ending) (L : List Sp) (n : Int) : Prop := ∃ A k c, e = .returned (.tuple #[.slice A k c, .int .i64 n]) ∧ RdS w' A k L ∧ Fr No w w'
theorem RetP.mk {w w' : World} {L : List Sp} {A : Option Addr} {k c : Nat} {n : Int} (h : RdS w' A k L) (f : Fr No w w') : RetP w w' (.returned (.tuple #[.slice A k c, .int .i64 n])) L n := ⟨A, k, c, rfl, h, f⟩
theorem kco {B : Nat} {W w' : World} {v : Value} {l : List Sp} {p : Addr} {u : Value} (f : Fr (fun q => v.ownBlock = some q) W w') (o : Out B W v l) (hb : p.block < B) (h : W.cell? p = some u) : w'.cell? p = some u :=
  Fr.cell_some f h (fun he => by have := (o.ge _ he).1; omega)

set_option maxRecDepth 100000 in
theorem limited2_ok (A : Option Addr) (l c : Nat) (w : World) (hl : l ≤ 4096) : Calls Try.prog 103 #[.slice A l c] w fun e w' => e = .returned (.tuple #[.slice A l c, .int .i64 0]) ∧ Fr No w w' := by
  have h : ¬ (4096 : Int) < (l : Int) := by omega
  go_enter Try.func103, Try.ntmps103
  go_wp2
  go_ret2
  exact ⟨rfl, Fr.refl _ _⟩
theorem eqnil (a : Option Addr) (l c : Nat) (w : World) : (binOp .eql 64 (.slice a l c) (.slice none 0 0)).run Try.prog w = .ok (.bool a.isNone) w := by
  have h := run_equal_slice_nil (P := Try.prog) w 64 _ a l c Try.underlying64
  simp [binOp, h]
set_option maxRecDepth 100000 in
theorem limited_ok (A : Option Addr) (l c : Nat) (w : World) (hl : l ≤ 4096) : Calls Try.prog 103 #[.slice A l c] w fun e w' => e = .returned (.tuple #[.slice A l c, .int .i64 0]) ∧ w = w' := by
  have h : ¬ (4096 : Int) < (l : Int) := by omega
  go_enter Try.func103, Try.ntmps103
  go_wp2
  go_ret2
  exact ⟨rfl, rfl⟩

set_option maxRecDepth 100000 in
theorem clone_ok (A : Option Addr) (l c : Nat) (xs : List Sp) (w : World) (hl : l ≤ 1000000) (hx : RdS w A l xs) : Calls Try.prog 100 #[.slice A l c] w fun e w' => RetS w w' e xs := by
  cases hA : A with
  | none =>
    subst hA
    have hl0 : l = 0 := by
      rcases Nat.eq_zero_or_pos l with h | h
      · exact h
      · obtain ⟨g, o, h, _⟩ := hx.at_ h
        cases h
    subst hl0
    have hx0 : xs = [] := List.eq_nil_of_length_eq_zero hx.1
    subst hx0
    have hnil := fun w => eqnil none 0 c w
    clear hx
    go_enter Try.func100, Try.ntmps100
    go_wp2
    go_ret
    exact .mk (RdS.nil _ _) (Fr.refl _ _)
  | some a =>
    subst hA
    have HX := hid (hx.fr (fr1 w (.cells #[] 68)))
    have O0 := hid (World.ownsRow_lit (base := w.heap.size) (e := 68) (size := 2) w #[] 0 (Nat.le_refl _) (by simp [maxLen]) rfl)
    have hnil := fun w => eqnil (some a) l c w
    clear hx
    go_enter Try.func100, Try.ntmps100
    go_wp2_with (at_builtin; refine app_sp rfl (.tmp 5) (.tmp 6) rfl w.heap.size _ [] rfl O0.out _ l _ xs rfl HX.out (by simp; omega) (by simp) ?_)
    intro A1 c1 w1 o1 f1
    have F1 := hid (fr_own (fr1 w (.cells #[] 68)) (show Out w.heap.size _ _ [] from O0.out) (Nat.le_refl _) f1)
    have O1 := hid o1
    clear o1 f1
    go_wp2
    go_ret
    exact .mk (by simpa using O1.out.rd) F1.out

/-- Behind k rounds of Drop. -/
def DrI (w : World) (xs : List Sp) (s : Sp) (l : Nat) (v i : Value) (wr : World) : Prop := ∃ (k : Nat) (A : Option Addr) (c : Nat), k ≤ l ∧ i = .int .i64 k ∧ v = .slice A (drop (xs.take k) s).length c ∧ Out (w.heap.size + 1) wr v (drop (xs.take k) s) ∧ Fr No w wr ∧ Blk wr w.heap.size 68 #[.int .i64 s.1, .int .i64 s.2]
theorem drI_start {w w1 : World} {xs : List Sp} {s : Sp} {l : Nat} (f : Hid (Fr No w w1)) (b : Hid (Blk w1 w.heap.size 68 #[.int .i64 s.1, .int .i64 s.2])) : DrI w xs s l (.slice none 0 0) (.int .i64 0) w1 :=
  ⟨0, none, 0, by omega, rfl, rfl, Out.nil _ _, f.out, b.out⟩
theorem drop_snoc {xs : List Sp} {k : Nat} {t s : Sp} (h : xs[k]? = some t) : drop (xs.take (k + 1)) s = drop (xs.take k) s ++ cut0 t s := by
  rw [take_snoc h, drop, List.flatMap_append]
  simp [drop]
theorem drop_len2 {xs : List Sp} {k l : Nat} (s : Sp) (h : xs.length = l) : (drop (xs.take k) s).length ≤ 2 * l := by
  have := drop_len (xs.take k) s
  have : (xs.take k).length ≤ xs.length := by simp; omega
  omega

end Go.Proofs.Ytoboialfaifbgaa.SpH
