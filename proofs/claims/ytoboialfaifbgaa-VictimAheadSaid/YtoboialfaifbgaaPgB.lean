/- Lists of extents as slices (plain); contract: whether extents may be beside one another, by the program. Conditions: the extents read as a list; all numbers are 64 bits. -/
import Derived.Test.YtoboialfaifbgaaPgA
import Derived.Test.YtoboialfaifbgaaSepC
import Derived.Test.YtoboialfaifbgaaKit
namespace Go.Proofs.Ytoboialfaifbgaa.PgB
open Go.RowKit MSep MSepC MGeM GeA PgA Kit

structure Ex where
  a : Int
  m : Int
  z : Int
  o : Int
deriving DecidableEq
def r64 (n : Int) : Prop := -9223372036854775808 ≤ n ∧ n ≤ 9223372036854775807
def exW (x : Ex) : Prop := r64 x.a ∧ r64 x.m ∧ r64 x.z ∧ r64 x.o
def cs4 (l : List Ex) : List Value := l.flatMap fun d => [.int .i64 d.a, .int .i64 d.m, .int .i64 d.z, .int .i64 d.o]
theorem cs4_nil : cs4 [] = [] := rfl
theorem cs4_cons (d : Ex) (l : List Ex) : cs4 (d :: l) = .int .i64 d.a :: .int .i64 d.m :: .int .i64 d.z :: .int .i64 d.o :: cs4 l := rfl
theorem cs4_append (a b : List Ex) : cs4 (a ++ b) = cs4 a ++ cs4 b := by simp [cs4]
theorem cs4_len (l : List Ex) : (cs4 l).length = l.length * 4 := by
  induction l with
  | nil => rfl
  | cons s l ih => rw [cs4_cons]; simp [ih]; omega
theorem cs4_one {l : List Ex} : ∀ u ∈ cs4 l, u.oneCell' = true := by
  intro u hu
  obtain ⟨s, _, h⟩ := List.mem_flatMap.1 hu
  simp at h
  rcases h with rfl | rfl | rfl | rfl <;> rfl
theorem cs4_get {l : List Ex} {i : Nat} {d : Ex} (h : l[i]? = some d) : (cs4 l)[i * 4]? = some (.int .i64 d.a) ∧ (cs4 l)[i * 4 + 1]? = some (.int .i64 d.m) ∧ (cs4 l)[i * 4 + 2]? = some (.int .i64 d.z) ∧ (cs4 l)[i * 4 + 3]? = some (.int .i64 d.o) := by
  induction l generalizing i with
  | nil => simp at h
  | cons t l ih =>
    cases i with
    | zero => simp at h; subst h; simp [cs4_cons]
    | succ i =>
      have := ih (by simpa using h)
      rw [cs4_cons]
      rw [show (i + 1) * 4 = i * 4 + 1 + 1 + 1 + 1 by omega]
      simpa using this
def RdX (w : World) (A : Option Addr) (n : Nat) (l : List Ex) : Prop := l.length = n ∧ Rd w A (n * 4) (cs4 l)
theorem RdX.nil (w : World) (A : Option Addr) : RdX w A 0 [] := ⟨rfl, Rd.nil w A⟩
theorem RdX.fr {w w' : World} {A : Option Addr} {n : Nat} {l : List Ex} (h : RdX w A n l) (hf : Fr No w w') : RdX w' A n l := ⟨h.1, h.2.fr hf (fun _ _ _ h => h)⟩
theorem RdX.at_ {w : World} {A : Option Addr} {n : Nat} {l : List Ex} (h : RdX w A n l) (hn : 0 < n) : ∃ g o, A = some ⟨g, o, none⟩ ∧ g < w.heap.size ∧ ∀ i d, l[i]? = some d →
    w.cell? ⟨g, o + i * 4, none⟩ = some (.int .i64 d.a) ∧ w.cell? ⟨g, o + i * 4 + 1, none⟩ = some (.int .i64 d.m) ∧ w.cell? ⟨g, o + i * 4 + 2, none⟩ = some (.int .i64 d.z) ∧ w.cell? ⟨g, o + i * 4 + 3, none⟩ = some (.int .i64 d.o) := by
  obtain ⟨g, o, rfl, hg, hc⟩ := h.2.2 (by omega)
  refine ⟨g, o, rfl, hg, fun i s hs => ?_⟩
  obtain ⟨h0, h1, h2, h3⟩ := cs4_get hs
  exact ⟨hc _ _ h0, by rw [Nat.add_assoc]; exact hc _ _ h1, by rw [Nat.add_assoc]; exact hc _ _ h2, by rw [Nat.add_assoc]; exact hc _ _ h3⟩
theorem take_snoc {α : Type} {xs : List α} {k : Nat} {s : α} (h : xs[k]? = some s) : xs.take (k + 1) = xs.take k ++ [s] := by
  rw [List.take_add_one, h]
  rfl

def okX (g : Ge) (x : Ex) : Prop := mayX g x.a x.m x.z x.o
instance (g : Ge) (x : Ex) : Decidable (okX g x) := by unfold okX; exact inferInstance
/-- All of them may be, none begins ahead of 'from', nor ahead of where the one ahead of it ends. -/
def mayL (g : Ge) : Int → List Ex → Bool
  | _, [] => true
  | f, x :: l => decide (okX g x) && decide (f ≤ x.a) && mayL g (x.a + x.m) l
/-- Where the last one ends. -/
def endL (f : Int) (l : List Ex) : Int := l.foldl (fun _ x => x.a + x.m) f
theorem mayL_snoc (g : Ge) (x : Ex) : ∀ (l : List Ex) (f : Int), mayL g f (l ++ [x]) = (mayL g f l && (decide (okX g x) && decide (endL f l ≤ x.a)))
  | [], f => by
    show (decide (okX g x) && decide (f ≤ x.a) && true) = (true && (decide (okX g x) && decide (f ≤ x.a)))
    rw [Bool.and_true, Bool.true_and]
  | y :: l, f => by
    show (decide (okX g y) && decide (f ≤ y.a) && mayL g (y.a + y.m) (l ++ [x])) = _
    rw [mayL_snoc g x l, ← Bool.and_assoc]
    rfl
theorem mayL_no {g : Ge} : ∀ {l r : List Ex} {f : Int}, mayL g f l = false → mayL g f (l ++ r) = false
  | [], _, _, h => by cases h
  | y :: l, r, f, h => by
    show (decide (okX g y) && decide (f ≤ y.a) && mayL g (y.a + y.m) (l ++ r)) = false
    have h' : (decide (okX g y) && decide (f ≤ y.a) && mayL g (y.a + y.m) l) = false := h
    cases hb : (decide (okX g y) && decide (f ≤ y.a)) with
    | false => rfl
    | true =>
      rw [hb] at h'
      exact mayL_no (l := l) h'
theorem endL_in {g : Ge} {l : List Ex} {f : Int} (hf : 0 ≤ f ∧ f ≤ 1099511627776) (h : mayL g f l = true) : 0 ≤ endL f l ∧ endL f l ≤ 1099511627776 := by
  induction l generalizing f with
  | nil => exact hf
  | cons x l ih =>
    have h' : (decide (okX g x) && decide (f ≤ x.a) && mayL g (x.a + x.m) l) = true := h
    simp only [Bool.and_eq_true, decide_eq_true_eq] at h'
    obtain ⟨⟨h1, _⟩, h3⟩ := h'
    have := cko0 h1.1
    exact ih (f := x.a + x.m) (by omega) h3
theorem infoX : (Try.prog.info? 62).map (·.size) = some 4 := by kernel_rfl
theorem st_X {ops : Array Oper} {rest : List Oper} {o : Oper} {ac : Act} {w : World} {Q : Exit → Act → World → Prop} (hgd : o.guard = none) (p y : Operand) (ho : o.op = .store 62 p y) (g : Nat) (hx : ac.eval p = .pointer (some ⟨g, 0, none⟩)) {a0 a1 a2 a3 : Value}
    (hy : ac.eval y = .agg #[a0, a1, a2, a3]) (h1 : (#[a0, a1, a2, a3] : Array Value).all (·.oneCell') = true) {cs : Array Value} (hg : Blk w g 62 cs) (hsz : cs.size = 4)
    (h : ∀ W', Blk W' g 62 #[a0, a1, a2, a3] → Fr (fun q => q = g) w W' → wpList Try.prog ops Q rest (ac.put o.dst undef) W') : wpList Try.prog ops Q (o :: rest) ac w :=
  wpList_store_row hgd 62 p y ho g _ hx hy 62 _ hg infoX (hsz.trans rfl) h1 (h _ (Blk.setRow hg _) (Fr.setRow (S := fun q => q = g) (Fr.refl _ _) (fun _ => rfl) _))
end Go.Proofs.Ytoboialfaifbgaa.PgB
