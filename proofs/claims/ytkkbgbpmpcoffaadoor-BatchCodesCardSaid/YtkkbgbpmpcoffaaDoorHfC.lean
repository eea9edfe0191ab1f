import Derived.Test.YtkkbgbpmpcoffaaDoorHfB
import Derived.Deep.DeepCutAuto
import Derived.Deep.RegionHeld3
import Derived.Test.YtkkbgbpmpcoffaaDoorSepC
import Derived.Test.YtkkbgbpmpcoffaaDoorBtA
import Derived.Test.YtkkbgbpmpcoffaaDoorGeC
import Derived.Test.YtkkbgbpmpcoffaaDoorHgC
/- Contracts: which deltas may be, by the program and by the document; how many records so many deltas need. No condition. -/
namespace Go.Proofs.YtkkbgbpmpcoffaaDoor.RcA
open Go.RowKit MSep RcM

abbrev dv (k a n z o : Int) : Value := .agg #[.int .i64 k, .int .i64 a, .int .i64 n, .int .i64 z, .int .i64 o]
abbrev dx (k a n z o : Int) : Obj := .cells #[.int .i64 k, .int .i64 a, .int .i64 n, .int .i64 z, .int .i64 o] 58
theorem rF {p : Prop} [Decidable p] (h : ¬ p) : Ending.returned (.bool false) = Ending.returned (.bool (decide p)) := by rw [decide_eq_false h]
theorem rT {p : Prop} [Decidable p] (h : p) : Ending.returned (.bool true) = Ending.returned (.bool (decide p)) := by rw [decide_eq_true h]
theorem m1 (a n z o : Int) : mayD ⟨1, a, n, z, o⟩ ↔ (0 ≤ a ∧ a ≤ 4294967295) ∧ (1 ≤ n ∧ n ≤ 65535) ∧ (0 ≤ z ∧ z ≤ 143) ∧ 0 ≤ o ∧ o ≤ 1024 := by simp [mayD, ata, mny, zn]
theorem m2 (a n z o : Int) : mayD ⟨2, a, n, z, o⟩ ↔ (0 ≤ a ∧ a ≤ 4294967295) ∧ (1 ≤ n ∧ n ≤ 65535) ∧ z = 0 ∧ o = 0 := by simp [mayD, ata, mny, zn]
theorem m3 (a n z o : Int) : mayD ⟨3, a, n, z, o⟩ ↔ (0 ≤ a ∧ a ≤ 4294967295) ∧ n = 0 ∧ ((0 ≤ z ∧ z ≤ 143) ∨ z = 255) ∧ o = 0 := by simp [mayD, ata, mny, zn]
theorem m4 (a n z o : Int) : mayD ⟨4, a, n, z, o⟩ ↔ a = 0 ∧ n = 0 ∧ (0 ≤ z ∧ z ≤ 143) ∧ o = 0 := by simp [mayD, ata, mny, zn]
theorem m0 {k : Int} (a n z o : Int) (h1 : ¬ k = 1) (h2 : ¬ k = 2) (h3 : ¬ k = 3) (h4 : ¬ k = 4) : ¬ mayD ⟨k, a, n, z, o⟩ := by simp [mayD, h1, h2, h3, h4]
/-- How many records n deltas need. -/
def need (n : Int) : Int := if n < 0 then 0 else if n = 0 then 1 else (n - 1) / 6 + 1
end Go.Proofs.YtkkbgbpmpcoffaaDoor.RcA
/- Contracts: lists of deltas, whether two are the same, and which records may be, by the program and by the document. Condition: the slices read as lists. -/
namespace Go.Proofs.YtkkbgbpmpcoffaaDoor.RcB
open Go.RowKit MSep RcM RcA

instance : DecidableEq De := fun x y => decidable_of_iff (x.k = y.k ∧ x.a = y.a ∧ x.n = y.n ∧ x.z = y.z ∧ x.o = y.o) (by cases x; cases y; simp)
def cs5 (l : List De) : List Value := l.flatMap fun d => [.int .i64 d.k, .int .i64 d.a, .int .i64 d.n, .int .i64 d.z, .int .i64 d.o]
theorem cs5_nil : cs5 [] = [] := rfl
theorem cs5_cons (d : De) (l : List De) : cs5 (d :: l) = .int .i64 d.k :: .int .i64 d.a :: .int .i64 d.n :: .int .i64 d.z :: .int .i64 d.o :: cs5 l := rfl
theorem cs5_append (a b : List De) : cs5 (a ++ b) = cs5 a ++ cs5 b := by simp [cs5]
theorem cs5_len (l : List De) : (cs5 l).length = l.length * 5 := by
  induction l with
  | nil => rfl
  | cons s l ih => rw [cs5_cons]; simp [ih]; omega
theorem cs5_one {l : List De} : ∀ u ∈ cs5 l, u.oneCell' = true := by
  intro u hu
  obtain ⟨s, _, h⟩ := List.mem_flatMap.1 hu
  simp at h
  rcases h with rfl | rfl | rfl | rfl | rfl <;> rfl
theorem cs5_get {l : List De} {i : Nat} {d : De} (h : l[i]? = some d) : (cs5 l)[i * 5]? = some (.int .i64 d.k) ∧ (cs5 l)[i * 5 + 1]? = some (.int .i64 d.a) ∧ (cs5 l)[i * 5 + 2]? = some (.int .i64 d.n) ∧ (cs5 l)[i * 5 + 3]? = some (.int .i64 d.z) ∧ (cs5 l)[i * 5 + 4]? = some (.int .i64 d.o) := by
  induction l generalizing i with
  | nil => simp at h
  | cons t l ih =>
    cases i with
    | zero => simp at h; subst h; simp [cs5_cons]
    | succ i =>
      have := ih (by simpa using h)
      rw [cs5_cons]
      rw [show (i + 1) * 5 = i * 5 + 1 + 1 + 1 + 1 + 1 by omega]
      simpa using this
theorem cs5_take (l : List De) (k : Nat) : (cs5 l).take (k * 5) = cs5 (l.take k) := by
  induction l generalizing k with
  | nil => simp [cs5_nil]
  | cons s l ih =>
    cases k with
    | zero => simp [cs5_nil]
    | succ k => rw [show (k + 1) * 5 = k * 5 + 1 + 1 + 1 + 1 + 1 by omega, cs5_cons, List.take_succ_cons, List.take_succ_cons, List.take_succ_cons, List.take_succ_cons, List.take_succ_cons, ih, List.take_succ_cons, cs5_cons]
theorem cs5_drop (l : List De) (k : Nat) : (cs5 l).drop (k * 5) = cs5 (l.drop k) := by
  induction l generalizing k with
  | nil => simp [cs5_nil]
  | cons s l ih =>
    cases k with
    | zero => simp
    | succ k => rw [show (k + 1) * 5 = k * 5 + 1 + 1 + 1 + 1 + 1 by omega, cs5_cons, List.drop_succ_cons, List.drop_succ_cons, List.drop_succ_cons, List.drop_succ_cons, List.drop_succ_cons, ih, List.drop_succ_cons]
/-- The slice at A of n deltas reads as l. -/
def RdD (w : World) (A : Option Addr) (n : Nat) (l : List De) : Prop := l.length = n ∧ Rd w A (n * 5) (cs5 l)
theorem RdD.nil (w : World) (A : Option Addr) : RdD w A 0 [] := ⟨rfl, Rd.nil w A⟩
theorem RdD.fr {w w' : World} {A : Option Addr} {n : Nat} {l : List De} (h : RdD w A n l) (hf : Fr No w w') : RdD w' A n l := ⟨h.1, h.2.fr hf (fun _ _ _ h => h)⟩
theorem RdD.at_ {w : World} {A : Option Addr} {n : Nat} {l : List De} (h : RdD w A n l) (hn : 0 < n) : ∃ g o, A = some ⟨g, o, none⟩ ∧ g < w.heap.size ∧ ∀ i d, l[i]? = some d →
    w.cell? ⟨g, o + i * 5, none⟩ = some (.int .i64 d.k) ∧ w.cell? ⟨g, o + i * 5 + 1, none⟩ = some (.int .i64 d.a) ∧ w.cell? ⟨g, o + i * 5 + 2, none⟩ = some (.int .i64 d.n) ∧ w.cell? ⟨g, o + i * 5 + 3, none⟩ = some (.int .i64 d.z) ∧ w.cell? ⟨g, o + i * 5 + 4, none⟩ = some (.int .i64 d.o) := by
  obtain ⟨g, o, rfl, hg, hc⟩ := h.2.2 (by omega)
  refine ⟨g, o, rfl, hg, fun i s hs => ?_⟩
  obtain ⟨h0, h1, h2, h3, h4⟩ := cs5_get hs
  exact ⟨hc _ _ h0, by rw [Nat.add_assoc]; exact hc _ _ h1, by rw [Nat.add_assoc]; exact hc _ _ h2, by rw [Nat.add_assoc]; exact hc _ _ h3, by rw [Nat.add_assoc]; exact hc _ _ h4⟩
theorem ne_at {xs ys : List De} {k : Nat} {x y : De} (hx : xs[k]? = some x) (hy : ys[k]? = some y) (h : x ≠ y) : xs ≠ ys := by
  rintro rfl
  rw [hx] at hy
  exact h (Option.some.inj hy)
theorem retF {p : Prop} [Decidable p] {R : Bool} (h : Hid (decide p = R)) (n : ¬ p) : Ending.returned (.bool false) = Ending.returned (.bool R) := by rw [← h.out, decide_eq_false n]
theorem retT {p : Prop} [Decidable p] {R : Bool} (h : Hid (decide p = R)) (n : p) : Ending.returned (.bool true) = Ending.returned (.bool R) := by rw [← h.out, decide_eq_true n]
theorem take_snoc {xs : List De} {k : Nat} {s : De} (h : xs[k]? = some s) : xs.take (k + 1) = xs.take k ++ [s] := by
  rw [List.take_add_one, h]
  rfl
end Go.Proofs.YtkkbgbpmpcoffaaDoor.RcB
/- Contracts: which records may be, whether two are the same, by the program and by the document. Condition: their deltas read as lists. -/
namespace Go.Proofs.YtkkbgbpmpcoffaaDoor.RcC
open Go.RowKit MSep RcM RcA RcB

abbrev rv (e s : Int) (b : Bool) (u : Int) (A : Option Addr) (l c : Nat) : Value := .agg #[.int .i64 e, .int .i64 s, .bool b, .int .i64 u, .slice A l c]
theorem all_snoc {xs : List De} {k : Nat} {d : De} (h : xs[k]? = some d) (h1 : ∀ x ∈ xs.take k, mayD x) (h2 : mayD d) : ∀ x ∈ xs.take (k + 1), mayD x := by
  rw [take_snoc h]
  intro x hx
  rcases List.mem_append.1 hx with hx | hx
  · exact h1 x hx
  · rw [List.mem_singleton.1 hx]; exact h2
theorem no_at {xs : List De} {k : Nat} {d : De} (h : xs[k]? = some d) (h2 : ¬ mayD d) : ¬ ∀ x ∈ xs, mayD x := fun k1 => h2 (k1 d (List.mem_of_getElem? h))
end Go.Proofs.YtkkbgbpmpcoffaaDoor.RcC
/- Rows of deltas and of records of the call's own, and how one goes on appending to them. Condition: no more than some millions of them. -/
namespace Go.Proofs.YtkkbgbpmpcoffaaDoor.DlO
open Go.RowKit MSep MSepC RcM RcA RcB RcC

theorem infoDa : (Tryd.prog.info? 58).map (fun i => (i.zero, i.size, i.bytes)) = some (some (.agg #[.int .i64 0, .int .i64 0, .int .i64 0, .int .i64 0, .int .i64 0]), 5, 40) := by kernel_rfl
theorem infoD : ∃ i z, Tryd.prog.info? 58 = some i ∧ i.zero = some z ∧ i.size = 5 ∧ i.bytes = 40 ∧ z.cells.size = 5 := by
  have h := infoDa
  cases hi : Tryd.prog.info? 58 with
  | none => rw [hi] at h; cases h
  | some i =>
    rw [hi] at h
    simp only [Option.map_some, Option.some.injEq, Prod.mk.injEq] at h
    exact ⟨i, _, rfl, h.1, h.2.1, h.2.2, rfl⟩
/-- A row of deltas of the call's own. -/
def DOut (B : Nat) (w : World) (v : Value) (l : List De) : Prop := w.ownsRow B 58 5 v l.length (cs5 l)
theorem DOut.nil (B : Nat) (w : World) : DOut B w (.slice none 0 0) [] := World.ownsRow_nil w B 58 5
theorem DOut.fr {B : Nat} {w w' : World} {v : Value} {l : List De} {S : Nat → Prop} (h : DOut B w v l) (hf : Fr S w w') (hn : ∀ k, v.ownBlock = some k → ¬ S k) : DOut B w' v l := own_fr h hf hn
theorem own_ge {B : Nat} {w : World} {e : TypeId} {n m : Nat} {v : Value} {xs : List Value} (h : w.ownsRow B e n v m xs) (k : Nat) (hk : v.ownBlock = some k) : B ≤ k ∧ k < w.heap.size := by
  rcases h.2 with ⟨rfl, _⟩ | ⟨g, cap, cur, rfl, hb, hh, _⟩
  · simp [Value.ownBlock] at hk
  · simp [Value.ownBlock] at hk
    subst hk
    exact ⟨hb, (Array.getElem?_eq_some_iff.1 hh).1⟩
theorem own_blk {B : Nat} {w : World} {e : TypeId} {n m : Nat} {v : Value} {xs : List Value} (h : w.ownsRow B e n v m xs) (k : Nat) (hk : v.ownBlock = some k) : B ≤ k ∧ ∃ cs, Blk w k e cs := by
  rcases h.2 with ⟨rfl, _⟩ | ⟨g, cap, cur, rfl, hb, hh, _⟩
  · simp [Value.ownBlock] at hk
  · simp [Value.ownBlock] at hk
    subst hk
    exact ⟨hb, cur, hh⟩
theorem own_rdk {B : Nat} {w : World} {e : TypeId} {k : Nat} {A : Option Addr} {n c : Nat} {xs : List Value} (h : w.ownsRow B e k (.slice A n c) n xs) : Rd w A (n * k) xs := by
  refine ⟨by simpa using h.1, fun hn => ?_⟩
  rcases h.2 with ⟨_, h0⟩ | ⟨g, cap, cur, hv, hb, hg, hnc, hcm, hcs, htake⟩
  · subst h0
    simp at hn
  · injection hv with h1 h2 h3
    subst h1
    refine ⟨g, 0, rfl, (Array.getElem?_eq_some_iff.1 hg).1, fun j u hu => ?_⟩
    rw [Nat.zero_add, cell_of_row w g j cur e (0, 0) hg]
    rw [← htake, List.getElem?_take] at hu
    split at hu
    · simpa using hu
    · cases hu
theorem DOut.rd {B : Nat} {w : World} {A : Option Addr} {n c : Nat} {l : List De} (hn : n = l.length) (h : DOut B w (.slice A n c) l) : RdD w A n l := by
  subst hn
  exact ⟨rfl, own_rdk h⟩
theorem DOut.form {B : Nat} {w : World} {v : Value} {l : List De} (h : DOut B w v l) : ∃ A c, v = .slice A l.length c := own_form h
theorem own_lim {B : Nat} {w : World} {e : TypeId} {k : Nat} {A : Option Addr} {n c : Nat} {xs : List Value} (h : w.ownsRow B e k (.slice A n c) n xs) : n ≤ c ∧ c ≤ maxLen := by
  rcases h.2 with ⟨hv, h0⟩ | ⟨g, cap, cur, hv, hb, hg, hnc, hcm, hcs, htake⟩
  · injection hv with h1 h2 h3
    subst h3
    exact ⟨by omega, by simp [maxLen]⟩
  · injection hv with h1 h2 h3
    subst h3
    exact ⟨hnc, hcm⟩

/-- 'v = append(v, x...)', v a row of the call's own. -/
theorem app_d {w : World} {ops : Array Oper} {rest : List Oper} {o : Oper} {a : Act} {Q : Exit → Act → World → Prop} (hgd : o.guard = none) (s x : Operand)
    (ho : o.op = .call { callee := .builtin .append, args := #[s, x], argTypes := #[52, 52] })
    (B : Nat) (v : Value) (l : List De) (hs : a.eval s = v) (hown : DOut B w v l)
    (A : Option Addr) (m c : Nat) (news : List De) (hx : a.eval x = .slice A m c) (hr : RdD w A m news)
    (hlim : l.length + m ≤ 2000000000000) (hbase : B ≤ w.heap.size)
    (h : ∀ A' c' w', DOut B w' (.slice A' (l.length + m) c') (l ++ news) → Fr (fun q => v.ownBlock = some q) w w' → wpList Tryd.prog ops Q rest (a.put o.dst (.slice A' (l.length + m) c')) w') :
    wpList Tryd.prog ops Q (o :: rest) a w := by
  obtain ⟨i0, z0, hi, hz0, hz1, hz2, hz3⟩ := infoD
  refine wpList_appk 5 (by omega) hgd s x 52 ho B 58 i0 z0 40 Tryd.underlying52 hi hz0 hz1 hz2 hz3 v l.length (cs5 l) hs hown A m c (cs5 news) hx hr.2 cs5_one (by simp only [maxLen]; omega) (by omega) hbase ?_
  intro A' c' w' o1 f1 _
  refine h A' c' w' ?_ f1
  have e : (l ++ news).length = l.length + m := by rw [List.length_append, hr.1]
  unfold DOut
  rw [cs5_append, e]
  exact o1
theorem app_d_step {w : World} {ops : Array Oper} {o : Oper} {a : Act} {K : Act → World → Prop} {Q : Exit → Act → World → Prop} {E : Prop} (hgd : o.guard = none) (s x : Operand)
    (ho : o.op = .call { callee := .builtin .append, args := #[s, x], argTypes := #[52, 52] })
    (B : Nat) (v : Value) (l : List De) (hs : a.eval s = v) (hown : DOut B w v l)
    (A : Option Addr) (m c : Nat) (news : List De) (hx : a.eval x = .slice A m c) (hr : RdD w A m news)
    (hlim : l.length + m ≤ 2000000000000) (hbase : B ≤ w.heap.size)
    (h : ∀ A' c' w', DOut B w' (.slice A' (l.length + m) c') (l ++ news) → Fr (fun q => v.ownBlock = some q) w w' → K (a.put o.dst (.slice A' (l.length + m) c')) w') :
    if Region.wanted o (yielded ops a.tmps) = true then Oper.wp Tryd.prog o a w K Q else E := by
  obtain ⟨i0, z0, hi, hz0, hz1, hz2, hz3⟩ := infoD
  refine step_appk 5 (by omega) hgd s x 52 ho B 58 i0 z0 40 Tryd.underlying52 hi hz0 hz1 hz2 hz3 v l.length (cs5 l) hs hown A m c (cs5 news) hx hr.2 cs5_one (by simp only [maxLen]; omega) (by omega) hbase ?_
  intro A' c' w' o1 f1 _
  refine h A' c' w' ?_ f1
  have e : (l ++ news).length = l.length + m := by rw [List.length_append, hr.1]
  unfold DOut
  rw [cs5_append, e]
  exact o1
theorem lit_d (w : World) (d : De) : RdD (w.alloc (.cells #[.int .i64 d.k, .int .i64 d.a, .int .i64 d.n, .int .i64 d.z, .int .i64 d.o] 58)) (some ⟨w.heap.size, 0, none⟩) 1 [d] :=
  ⟨rfl, Rd.lit w [.int .i64 d.k, .int .i64 d.a, .int .i64 d.n, .int .i64 d.z, .int .i64 d.o] 58⟩

/-- A record as it lies in memory: its deltas are a slice. -/
structure RV where
  e : Int
  s : Int
  b : Bool
  u : Int
  A : Option Addr
  n : Nat
  c : Nat
def csR (l : List RV) : List Value := l.flatMap fun r => [.int .i64 r.e, .int .i64 r.s, .bool r.b, .int .i64 r.u, .slice r.A r.n r.c]
theorem csR_nil : csR [] = [] := rfl
theorem csR_cons (r : RV) (l : List RV) : csR (r :: l) = .int .i64 r.e :: .int .i64 r.s :: .bool r.b :: .int .i64 r.u :: .slice r.A r.n r.c :: csR l := rfl
theorem csR_append (a b : List RV) : csR (a ++ b) = csR a ++ csR b := by simp [csR]
theorem csR_one {l : List RV} : ∀ u ∈ csR l, u.oneCell' = true := by
  intro u hu
  obtain ⟨s, _, h⟩ := List.mem_flatMap.1 hu
  simp at h
  rcases h with rfl | rfl | rfl | rfl | rfl <;> rfl
theorem csR_get {l : List RV} {i : Nat} {r : RV} (h : l[i]? = some r) : (csR l)[i * 5]? = some (.int .i64 r.e) ∧ (csR l)[i * 5 + 1]? = some (.int .i64 r.s) ∧ (csR l)[i * 5 + 2]? = some (.bool r.b) ∧ (csR l)[i * 5 + 3]? = some (.int .i64 r.u) ∧ (csR l)[i * 5 + 4]? = some (.slice r.A r.n r.c) := by
  induction l generalizing i with
  | nil => simp at h
  | cons t l ih =>
    cases i with
    | zero => simp at h; subst h; simp [csR_cons]
    | succ i =>
      have := ih (by simpa using h)
      rw [csR_cons]
      rw [show (i + 1) * 5 = i * 5 + 1 + 1 + 1 + 1 + 1 by omega]
      simpa using this
/-- The slice at A of n records lies so. -/
def RdV (w : World) (A : Option Addr) (n : Nat) (l : List RV) : Prop := l.length = n ∧ Rd w A (n * 5) (csR l)
theorem RdV.fr {S : Nat → Prop} {w w' : World} {A : Option Addr} {n : Nat} {l : List RV} (h : RdV w A n l) (hf : Fr S w w') (hn : ∀ g o, A = some ⟨g, o, none⟩ → ¬ S g) : RdV w' A n l := ⟨h.1, h.2.fr hf hn⟩
theorem RdV.at_ {w : World} {A : Option Addr} {n : Nat} {l : List RV} (h : RdV w A n l) (hn : 0 < n) : ∃ g o, A = some ⟨g, o, none⟩ ∧ g < w.heap.size ∧ ∀ i r, l[i]? = some r →
    w.cell? ⟨g, o + i * 5, none⟩ = some (.int .i64 r.e) ∧ w.cell? ⟨g, o + i * 5 + 1, none⟩ = some (.int .i64 r.s) ∧ w.cell? ⟨g, o + i * 5 + 2, none⟩ = some (.bool r.b) ∧ w.cell? ⟨g, o + i * 5 + 3, none⟩ = some (.int .i64 r.u) ∧ w.cell? ⟨g, o + i * 5 + 4, none⟩ = some (.slice r.A r.n r.c) := by
  obtain ⟨g, o, rfl, hg, hc⟩ := h.2.2 (by omega)
  refine ⟨g, o, rfl, hg, fun i s hs => ?_⟩
  obtain ⟨h0, h1, h2, h3, h4⟩ := csR_get hs
  exact ⟨hc _ _ h0, by rw [Nat.add_assoc]; exact hc _ _ h1, by rw [Nat.add_assoc]; exact hc _ _ h2, by rw [Nat.add_assoc]; exact hc _ _ h3, by rw [Nat.add_assoc]; exact hc _ _ h4⟩
/-- What lies so means the record r; its deltas lie below M and from L on. -/
structure Means (w : World) (v : RV) (r : Rc) : Prop where
  e : v.e = r.e
  s : v.s = r.s
  b : v.b = r.c
  u : v.u = r.u
  n : v.n ≤ maxLen
  rd : RdD w v.A v.n r.l
theorem Means.fr {S : Nat → Prop} {w w' : World} {v : RV} {r : Rc} (h : Means w v r) (hf : Fr S w w') (hn : ∀ g o, v.A = some ⟨g, o, none⟩ → ¬ S g) : Means w' v r :=
  ⟨h.e, h.s, h.b, h.u, h.n, h.rd.1, h.rd.2.fr hf hn⟩
/-- The slice at A of n records reads as rs. -/
def RdG (w : World) (A : Option Addr) (n : Nat) (rs : List Rc) : Prop := ∃ vs : List RV, RdV w A n vs ∧ rs.length = n ∧ ∀ (i : Nat) v r, vs[i]? = some v → rs[i]? = some r → Means w v r
theorem RdG.fr {w w' : World} {A : Option Addr} {n : Nat} {rs : List Rc} (h : RdG w A n rs) (hf : Fr No w w') : RdG w' A n rs := by
  obtain ⟨vs, h1, h2, h3⟩ := h
  exact ⟨vs, h1.fr hf (fun _ _ _ h => h), h2, fun i v r hv hr => (h3 i v r hv hr).fr hf (fun _ _ _ h => h)⟩
theorem RdG.nil (w : World) (A : Option Addr) : RdG w A 0 [] := ⟨[], ⟨rfl, Rd.nil w A⟩, rfl, fun i v r h => by simp at h⟩

end Go.Proofs.YtkkbgbpmpcoffaaDoor.DlO
/- Contracts: whether two batches are the same; what a batch means; by the program and by the document. Conditions: the slices read as spans; where a batch means something no span is below 0, or beyond 2^20 sectors. -/
namespace Go.Proofs.YtkkbgbpmpcoffaaDoor.BtC
open Go.RowKit MSep MSepC MSpM Kit SpD BtM BtA RcB DlO
open RcM (De)
open SpA (wf w64 retF retT)

set_option maxRecDepth 100000 in
set_option maxHeartbeats 2000000 in
theorem equal_ok (A : Option Addr) (l c : Nat) (xs : List Sp) (B : Option Addr) (m d : Nat) (ys : List Sp) (v : Bool) (w : World) (hl : l ≤ 140737488355328) (hm : m ≤ 140737488355328) (hx : RdS w A l xs) (hy : RdS w B m ys) (hv : v = true ↔ xs = ys) :
    Calls Tryd.prog 49 #[.slice A l c, .slice B m d] w fun e w' => e = .returned (.bool v) ∧ Fr No w w' := by
  have HV := hid hv
  clear hv
  by_cases hlm : l = m
  · subst hlm
    have HX := hid hx
    have HY := hid hy
    have HL := hid hl
    clear hx hy hm hl
    go_enter Tryd.func49, Tryd.ntmps49
    go_wp2
    go_loopw [13] (fun i wr => ∃ k : Nat, k ≤ l ∧ i = .int .i64 k ∧ Hid (xs.take k = ys.take k) ∧ Fr No w wr) (fun i _ => l - (intOf i).toNat)
    case atStart => exact ⟨0, by omega, rfl, hid rfl, Fr.refl _ _⟩
    case round =>
      obtain ⟨k, hk, rfl, HE, hf⟩ := hrel
      by_cases hlt : k < l
      · have hk1 : k < xs.length := by rw [HX.out.1]; exact hlt
        have hk2 : k < ys.length := by rw [HY.out.1]; exact hlt
        obtain ⟨x, hx⟩ : ∃ x, xs[k]? = some x := ⟨_, List.getElem?_eq_getElem hk1⟩
        obtain ⟨y, hy⟩ : ∃ y, ys[k]? = some y := ⟨_, List.getElem?_eq_getElem hk2⟩
        obtain ⟨g, o, rfl, hg, hc⟩ := (HX.out.fr hf).at_ (by omega)
        obtain ⟨g', o', rfl, hg', hc'⟩ := (HY.out.fr hf).at_ (by omega)
        obtain ⟨c0, c1⟩ := hc k x hx
        obtain ⟨d0, d1⟩ := hc' k y hy
        have hlt3 : (k : Int) < l := by omega
        have h0 : (0 : Int) ≤ k := by omega
        have hw1 : wrap64 ((k : Int) + 1) = (k : Int) + 1 := by have := HL.out; exact w64 _ (by omega)
        have HXk := hid hx
        have HYk := hid hy
        have HF := hid hf
        clear hc hc' hg hg' hk1 hk2 hx hy hf
        obtain ⟨a, n⟩ := x
        obtain ⟨b, q⟩ := y
        simp only [] at c0 c1 d0 d1
        by_cases e1 : a = b
        · subst e1
          by_cases e2 : n = q
          · subst e2
            go_wp2_with fail
            go_region_held3 (fun W' => W'.cell? ⟨g, o + k * 2, none⟩ = some (.int .i64 a) ∧ W'.cell? ⟨g, o + k * 2 + 1, none⟩ = some (.int .i64 n) ∧ W'.cell? ⟨g', o' + k * 2, none⟩ = some (.int .i64 a) ∧ W'.cell? ⟨g', o' + k * 2 + 1, none⟩ = some (.int .i64 n)) (go_keep) (fail)
            go_wp2
            go_roundw
            case rel => exact ⟨k + 1, by omega, by go_num, hid (by rw [List.take_add_one, List.take_add_one, HXk.out, HYk.out, HE.out]), HF.out.drew⟩
            case measure => exact next_m _ _ hlt hw1
          · have hN := hid (ne_at HXk.out HYk.out (fun e => e2 (congrArg Prod.snd e)))
            have HVF := hid (show v = false by cases v with
              | false => rfl
              | true => exact absurd (HV.out.1 rfl) hN.out)
            go_wp2_with fail
            go_region_held3 (fun W' => W'.cell? ⟨g, o + k * 2, none⟩ = some (.int .i64 a) ∧ W'.cell? ⟨g, o + k * 2 + 1, none⟩ = some (.int .i64 n) ∧ W'.cell? ⟨g', o' + k * 2, none⟩ = some (.int .i64 a) ∧ W'.cell? ⟨g', o' + k * 2 + 1, none⟩ = some (.int .i64 q)) (go_keep) (fail)
            go_wp2
            go_ret
            exact ⟨congrArg (fun b => Ending.returned (.bool b)) HVF.out.symm, HF.out.drew⟩
        · have hN := hid (ne_at HXk.out HYk.out (fun e => e1 (congrArg Prod.fst e)))
          have HVF := hid (show v = false by cases v with
            | false => rfl
            | true => exact absurd (HV.out.1 rfl) hN.out)
          go_wp2_with fail
          go_region_held3 (fun W' => W'.cell? ⟨g, o + k * 2, none⟩ = some (.int .i64 a) ∧ W'.cell? ⟨g, o + k * 2 + 1, none⟩ = some (.int .i64 n) ∧ W'.cell? ⟨g', o' + k * 2, none⟩ = some (.int .i64 b) ∧ W'.cell? ⟨g', o' + k * 2 + 1, none⟩ = some (.int .i64 q)) (go_keep) (fail)
          go_wp2
          go_ret
          exact ⟨congrArg (fun b => Ending.returned (.bool b)) HVF.out.symm, HF.out.drew⟩
      · obtain rfl : k = l := by omega
        have hE : xs = ys := by
          have := HE.out
          rwa [List.take_of_length_le (by rw [HX.out.1]; exact Nat.le_refl _), List.take_of_length_le (by rw [HY.out.1]; exact Nat.le_refl _)] at this
        have HF := hid hf
        have HVT := hid (HV.out.2 hE)
        clear hf hE
        go_wp2
        go_ret
        exact ⟨congrArg (fun b => Ending.returned (.bool b)) HVT.out.symm, HF.out⟩
  · have hE2 : xs ≠ ys := fun e => hlm (by rw [← hx.1, ← hy.1, e])
    have HVF := hid (show v = false by cases v with
      | false => rfl
      | true => exact absurd (HV.out.1 rfl) hE2)
    have hne : ¬ (l : Int) = m := by omega
    clear hx hy hE2
    go_enter Tryd.func49, Tryd.ntmps49
    go_wp2
    go_ret
    exact ⟨congrArg (fun b => Ending.returned (.bool b)) HVF.out.symm, Fr.refl _ _⟩
set_option maxRecDepth 100000 in
set_option maxHeartbeats 2000000 in
theorem bsame_ok (q k : Int) (A : Option Addr) (l c : Nat) (xs : List Sp) (q' k' : Int) (B : Option Addr) (m d : Nat) (ys : List Sp) (v : Bool) (w : World) (hl : l ≤ 140737488355328) (hm : m ≤ 140737488355328) (hx : RdS w A l xs) (hy : RdS w B m ys) (hv : v = true ↔ (⟨q, k, xs⟩ : Ba) = ⟨q', k', ys⟩) :
    Calls Tryd.prog 21 #[bv q k A l c, bv q' k' B m d] w fun e w' => e = .returned (.bool v) ∧ Fr No w w' := by
  obtain ⟨w1, hw1⟩ : ∃ w1, (w.alloc (.cells (bcs q k A l c) 26)).alloc (.cells (bcs q' k' B m d) 26) = w1 := ⟨_, rfl⟩
  have f0 : Fr No w w1 := by rw [← hw1]; exact (fr1 _ _).alloc _
  obtain ⟨X, hX⟩ : ∃ X, w.heap.size = X := ⟨_, rfl⟩
  obtain ⟨a0, a1, a2⟩ := (show BB w1 X q k A l c by rw [← hw1, ← hX]; exact (BB.new w q k A l c : Blk _ _ _ _).alloc _).cells
  obtain ⟨b0, b1, b2⟩ := (show BB w1 (X + 1) q' k' B m d by
    rw [← hw1, ← hX]
    have := BB.new (w.alloc (.cells (bcs q k A l c) 26)) q' k' B m d
    rwa [World.size_alloc] at this).cells
  have HX := hid (hx.fr f0)
  have HY := hid (hy.fr f0)
  have FW := hid f0
  have HW1 := hid hw1
  have HL := hid (And.intro hl hm)
  have HV := hid hv
  clear hx hy f0 hw1 hl hm hv
  go_enter Tryd.func21, Tryd.ntmps21
  go_upto_region 1 with fail
  try rw [show (w.alloc (Obj.cells #[Value.int IntKind.i64 q, Value.int IntKind.i64 k, Value.slice A l c] 26)).alloc (Obj.cells #[Value.int IntKind.i64 q', Value.int IntKind.i64 k', Value.slice B m d] 26) = w1 from HW1.out]
  try rw [hX]
  by_cases e1 : q = q'
  · by_cases e2 : k = k'
    · subst e1 e2
      have HV2 := hid (show v = true ↔ xs = ys from HV.out.trans ⟨fun h => (Ba.mk.inj h).2.2, fun h => by rw [h]⟩)
      go_wp2_with (go_at_call 49; refine (equal_ok A l c xs B m d ys v _ HL.out.1 HL.out.2 HX.out HY.out HV2.out).mono ?_; rintro e w2 ⟨rfl, f2⟩; replace FW := hid (FW.out.trans f2); clear f2)
      go_ret
      exact ⟨rfl, FW.out⟩
    · have HVF := hid (show v = false by cases v with
        | false => rfl
        | true => exact absurd (Ba.mk.inj (HV.out.1 rfl)).2.1 e2)
      have e2b : (k == k') = false := by simpa using e2
      subst e1
      go_wp2
      go_ret
      exact ⟨congrArg (fun b => Ending.returned (.bool b)) HVF.out.symm, FW.out⟩
  · have HVF := hid (show v = false by cases v with
      | false => rfl
      | true => exact absurd (Ba.mk.inj (HV.out.1 rfl)).1 e1)
    have e1b : (q == q') = false := by simpa using e1
    go_wp2
    go_ret
    exact ⟨congrArg (fun b => Ending.returned (.bool b)) HVF.out.symm, FW.out⟩
theorem rsameS_ok (A : Option Addr) (l c : Nat) (xs : List Sp) (B : Option Addr) (m d : Nat) (ys : List Sp) (v : Bool) (w : World) (hl : l ≤ 140737488355328) (hm : m ≤ 140737488355328) (hx : RdS w A l xs) (hy : RdS w B m ys) (hv : v = true ↔ xs = ys) :
    Calls Tryd.prog 44 #[.slice A l c, .slice B m d] w fun e w' => e = .returned (.bool v) ∧ Fr No w w' := by
  have e : v = decide (xs = ys) := by
    cases v with
    | true => exact (decide_eq_true (hv.1 rfl)).symm
    | false => exact (decide_eq_false (fun h => by have := hv.2 h; cases this)).symm
  rw [e]
  exact same_ok A l c xs B m d ys w (by simp only [maxLen]; omega) (by simp only [maxLen]; omega) hx hy
set_option maxRecDepth 100000 in
set_option maxHeartbeats 2000000 in
theorem brsame_ok (q k : Int) (A : Option Addr) (l c : Nat) (xs : List Sp) (q' k' : Int) (B : Option Addr) (m d : Nat) (ys : List Sp) (v : Bool) (w : World) (hl : l ≤ 140737488355328) (hm : m ≤ 140737488355328) (hx : RdS w A l xs) (hy : RdS w B m ys) (hv : v = true ↔ (⟨q, k, xs⟩ : Ba) = ⟨q', k', ys⟩) :
    Calls Tryd.prog 16 #[bv q k A l c, bv q' k' B m d] w fun e w' => e = .returned (.bool v) ∧ Fr No w w' := by
  obtain ⟨w1, hw1⟩ : ∃ w1, (w.alloc (.cells (bcs q k A l c) 26)).alloc (.cells (bcs q' k' B m d) 26) = w1 := ⟨_, rfl⟩
  have f0 : Fr No w w1 := by rw [← hw1]; exact (fr1 _ _).alloc _
  obtain ⟨X, hX⟩ : ∃ X, w.heap.size = X := ⟨_, rfl⟩
  obtain ⟨a0, a1, a2⟩ := (show BB w1 X q k A l c by rw [← hw1, ← hX]; exact (BB.new w q k A l c : Blk _ _ _ _).alloc _).cells
  obtain ⟨b0, b1, b2⟩ := (show BB w1 (X + 1) q' k' B m d by
    rw [← hw1, ← hX]
    have := BB.new (w.alloc (.cells (bcs q k A l c) 26)) q' k' B m d
    rwa [World.size_alloc] at this).cells
  have HX := hid (hx.fr f0)
  have HY := hid (hy.fr f0)
  have FW := hid f0
  have HW1 := hid hw1
  have HL := hid (And.intro hl hm)
  have HV := hid hv
  clear hx hy f0 hw1 hl hm hv
  go_enter Tryd.func16, Tryd.ntmps16
  go_upto_region 1 with fail
  try rw [show (w.alloc (Obj.cells #[Value.int IntKind.i64 q, Value.int IntKind.i64 k, Value.slice A l c] 26)).alloc (Obj.cells #[Value.int IntKind.i64 q', Value.int IntKind.i64 k', Value.slice B m d] 26) = w1 from HW1.out]
  try rw [hX]
  by_cases e1 : q = q'
  · by_cases e2 : k = k'
    · subst e1 e2
      have HV2 := hid (show v = true ↔ xs = ys from HV.out.trans ⟨fun h => (Ba.mk.inj h).2.2, fun h => by rw [h]⟩)
      go_wp2_with (go_at_call 44; refine (rsameS_ok A l c xs B m d ys v _ HL.out.1 HL.out.2 HX.out HY.out HV2.out).mono ?_; rintro e w2 ⟨rfl, f2⟩; replace FW := hid (FW.out.trans f2); clear f2)
      go_ret
      exact ⟨rfl, FW.out⟩
    · have HVF := hid (show v = false by cases v with
        | false => rfl
        | true => exact absurd (Ba.mk.inj (HV.out.1 rfl)).2.1 e2)
      have e2b : (k == k') = false := by simpa using e2
      subst e1
      go_wp2
      go_ret
      exact ⟨congrArg (fun b => Ending.returned (.bool b)) HVF.out.symm, FW.out⟩
  · have HVF := hid (show v = false by cases v with
      | false => rfl
      | true => exact absurd (Ba.mk.inj (HV.out.1 rfl)).1 e1)
    have e1b : (q == q') = false := by simpa using e1
    go_wp2
    go_ret
    exact ⟨congrArg (fun b => Ending.returned (.bool b)) HVF.out.symm, FW.out⟩
/-- What span s, the k-th one, of a batch means. -/
def del (K z off : Int) (xs : List Sp) (k : Nat) (s : Sp) : De := if K = 2 then ⟨2, s.1, s.2, 0, 0⟩ else ⟨1, s.1, s.2, z, off + 1 + tn (xs.take k)⟩
def dls (K z off : Int) (xs : List Sp) : Nat → List De
  | 0 => []
  | k + 1 => dls K z off xs k ++ (match xs[k]? with | some s => [del K z off xs k s] | none => [])
theorem dls_succ {K z off : Int} {xs : List Sp} {k : Nat} {s : Sp} (h : xs[k]? = some s) : dls K z off xs (k + 1) = dls K z off xs k ++ [del K z off xs k s] := by
  rw [dls, h]
theorem dls_len (K z off : Int) (xs : List Sp) : ∀ k, k ≤ xs.length → (dls K z off xs k).length = k
  | 0, _ => rfl
  | k + 1, h => by
    rw [dls_succ (List.getElem?_eq_getElem (show k < xs.length by omega)), List.length_append, dls_len K z off xs k (by omega)]
    rfl
def RetD (w w' : World) (e : Ending) (L : List De) : Prop := ∃ A c, e = .returned (.slice A L.length c) ∧ RdD w' A L.length L ∧ Fr No w w'
theorem tn_pos {xs : List Sp} {k : Nat} (h : ∀ s ∈ xs, 0 ≤ s.2 ∧ s.2 ≤ 1048576) (hl : xs.length ≤ 50) : 0 ≤ tn (xs.take k) ∧ tn (xs.take k) ≤ 52428800 := by
  have h1 : ∀ (l : List Sp) (n : Int), (∀ s ∈ l, 0 ≤ s.2 ∧ s.2 ≤ 1048576) → n ≤ l.foldl (fun n s => n + s.2) n ∧ l.foldl (fun n s => n + s.2) n ≤ n + 1048576 * l.length := by
    intro l
    induction l with
    | nil => intro n _; simp
    | cons s l ih =>
      intro n h
      have h1 := ih (n + s.2) (fun t ht => h t (by simp [ht]))
      have h2 := h s (by simp)
      show n ≤ l.foldl (fun n s => n + s.2) (n + s.2) ∧ l.foldl (fun n s => n + s.2) (n + s.2) ≤ _
      rw [List.length_cons]
      push_cast
      omega
  have h2 := h1 (xs.take k) 0 (fun s hs => h s (List.mem_of_mem_take hs))
  have h3 : (xs.take k).length ≤ 50 := by rw [List.length_take]; omega
  unfold tn
  omega
def DI (w1 : World) (K z off : Int) (xs : List Sp) (l : Nat) (st : Nat → Int) (vl nx i : Value) (wr : World) : Prop := ∃ (k : Nat) (AV : Option Addr) (cv : Nat), k ≤ l ∧ (vl = .slice AV k cv ∧ nx = .int .i64 (st k) ∧ i = .int .i64 k) ∧ DOut w1.heap.size wr (.slice AV k cv) (dls K z off xs k) ∧ Fr No w1 wr
set_option maxRecDepth 100000 in
set_option maxHeartbeats 4000000 in
theorem holes_ok (A : Option Addr) (l c : Nat) (xs : List Sp) (z off : Int) (w : World) (hl : l ≤ 50) (hx : RdS w A l xs) (hn : ∀ s ∈ xs, 0 ≤ s.2 ∧ s.2 ≤ 1048576) (ho : 0 ≤ off ∧ off ≤ 1048576) :
    Calls Tryd.prog 45 #[.slice A l c] w fun e w' => RetD w w' e (dls 2 z off xs l) := by
  have HX := hid hx
  have HN := hid hn
  have HL := hid hl
  have HO := hid ho
  have HXL := hid hx.1
  have HTN := hid (fun k => tn_pos (k := k) hn (by rw [hx.1]; exact hl))
  obtain ⟨w1, hw1⟩ : ∃ w1, w1 = w := ⟨_, rfl⟩
  have FG := hid (show Fr No w w1 by rw [hw1]; exact Fr.refl _ _)
  clear hx hn hl ho
  subst hw1
  go_enter Tryd.func45, Tryd.ntmps45
  go_wp2
  go_loopw [3, 8] (fun vl i wr => ∃ (k : Nat) (AV : Option Addr) (cv : Nat), k ≤ l ∧ (vl = .slice AV k cv ∧ i = .int .i64 k) ∧ DOut w1.heap.size wr (.slice AV k cv) (dls 2 z off xs k) ∧ Fr No w1 wr) (fun _ i _ => l - (intOf i).toNat)
  case atStart => exact ⟨0, none, 0, by omega, ⟨rfl, rfl⟩, DOut.nil _ _, Fr.refl _ _⟩
  case round =>
    obtain ⟨k, AV, cv, hk, ⟨rfl, rfl⟩, hown, hf⟩ := hrel
    by_cases hlt : k < l
    · have hk1 : k < xs.length := by rw [HXL.out]; exact hlt
      obtain ⟨⟨a, n⟩, hxk⟩ : ∃ x, xs[k]? = some x := ⟨_, List.getElem?_eq_getElem hk1⟩
      have hnk := HN.out _ (List.mem_of_getElem? hxk)
      simp only [] at hnk
      obtain ⟨g, o, rfl, hg, hc⟩ := (HX.out.fr (FG.out.trans hf)).at_ (by omega)
      obtain ⟨e0, e1⟩ := hc k _ hxk
      simp only [] at e0 e1
      have hlt3 : (k : Int) < l := by omega
      have h0k : (0 : Int) ≤ k := by omega
      have hw1 : wrap64 ((k : Int) + 1) = (k : Int) + 1 := by have := HL.out; exact w64 _ (by omega)
      obtain ⟨w3, hw3⟩ : ∃ w3, wr.alloc (.cells #[.int .i64 a, .int .i64 n] 51) = w3 := ⟨_, rfl⟩
      obtain ⟨D, hD⟩ : ∃ D, wr.heap.size = D := ⟨_, rfl⟩
      have HDD := hid (show Blk w3 D 51 #[.int .i64 a, .int .i64 n] by rw [← hw3, ← hD]; exact Blk.new _ _ _)
      have d0 : w3.cell? ⟨D, 0, none⟩ = some (.int .i64 a) := HDD.out.cell 0
      have d1 : w3.cell? ⟨D, 1, none⟩ = some (.int .i64 n) := HDD.out.cell 1
      have HFR := hid (show Fr No w1 w3 by rw [← hw3]; exact hf.alloc _)
      have HOW := hid (show DOut w1.heap.size w3 (.slice AV k cv) (dls 2 z off xs k) by rw [← hw3]; exact DOut.fr hown ((Fr.refl No _).alloc _) (fun _ _ h => h))
      have HGE := hid (show ∀ q, (Value.slice AV k cv).ownBlock = some q → w1.heap.size ≤ q ∧ q < D by rw [← hD]; exact fun q h => own_ge hown q h)
      have HLK := hid (dls_len 2 z off xs k (by rw [HXL.out]; exact hk))
      have HSN := hid (dls_succ (K := 2) (z := z) (off := off) hxk)
      have HTS := hid (tn_snoc hxk)
      have htp := HTN.out k
      obtain ⟨t, ht⟩ : ∃ t, tn (xs.take k) = t := ⟨_, rfl⟩
      have HDE := hid (show del 2 z off xs k (a, n) = (⟨2, a, n, 0, 0⟩ : De) by unfold del; rw [if_pos rfl ])
      rw [ht] at htp HTS
      have HW3 := hid hw3
      have HO' := HO.out
      have hnn : ¬ n < 0 := by omega
      have HLIT := hid (lit_d w3 ⟨2, a, n, 0, 0⟩)
      have HOA := hid (DOut.fr HOW.out (fr1 w3 (.cells #[.int .i64 2, .int .i64 a, .int .i64 n, .int .i64 0, .int .i64 0] 58)) (fun _ _ h => h))
      have HFA := hid (HFR.out.alloc (.cells #[.int .i64 2, .int .i64 a, .int .i64 n, .int .i64 0, .int .i64 0] 58))
      have HDA := hid (Blk.alloc HDD.out (.cells #[.int .i64 2, .int .i64 a, .int .i64 n, .int .i64 0, .int .i64 0] 58))
      clear hc hg hxk hk1 hf hw3 hown ht
      go_upto_region 5 with fail
      try rw [HW3.out]
      try rw [hD]
      clear e0 e1
      go_wp2_with (refine app_d rfl (.tmp 12) (.tmp 18) rfl w1.heap.size (.slice AV k cv) (dls 2 z off xs k) rfl HOA.out (some ⟨w3.heap.size, 0, none⟩) 1 1 [⟨2, a, n, 0, 0⟩] rfl HLIT.out (by rw [HLK.out]; have := HL.out; omega) HFA.out.size ?_; intro A' c' w4 ho4 f4; rw [HLK.out] at ho4 ⊢; have HO4 := hid ho4; have HF4 := hid (HFA.out.step f4 (fun i hi h => by have := (HGE.out i h).1; omega)); have HD4 := hid (Blk.fr HDA.out f4 (fun h => absurd (HGE.out _ h).2 (Nat.lt_irrefl _))); clear ho4 f4 d0 d1; have d0 : w4.cell? ⟨D, 0, none⟩ = some (.int .i64 a) := HD4.out.cell 0; have d1 : w4.cell? ⟨D, 1, none⟩ = some (.int .i64 n) := HD4.out.cell 1)
      go_roundw
      case rel => (try first | refine ⟨_, _, _, ?_, rfl, rfl, rfl⟩ | refine ⟨_, _, _, _, ?_, rfl, rfl, rfl, rfl⟩); exact ⟨k + 1, A', c', by omega, ⟨rfl, by go_num⟩, by rw [HSN.out, HDE.out]; exact HO4.out, HF4.out⟩
      case measure => first | exact next_m _ _ hlt hw1 | (simp [intOf]; omega)
    · obtain rfl : k = l := by omega
      have HFR := hid hf
      have HOW := hid hown
      have HLK := hid (dls_len 2 z off xs k (by rw [HXL.out]; exact Nat.le_refl _))
      clear hf hown
      go_wp2
      go_ret
      exact ⟨AV, cv, (by rw [HLK.out]; rfl), by rw [HLK.out]; exact DOut.rd HLK.out.symm HOW.out, FG.out.trans HFR.out⟩
set_option maxRecDepth 100000 in
set_option maxHeartbeats 4000000 in
theorem deltas_ok (q K : Int) (A : Option Addr) (l c : Nat) (xs : List Sp) (z off : Int) (w : World) (hl : l ≤ 50) (hx : RdS w A l xs) (hn : ∀ s ∈ xs, 0 ≤ s.2 ∧ s.2 ≤ 1048576) (ho : 0 ≤ off ∧ off ≤ 1048576) :
    Calls Tryd.prog 18 #[bv q K A l c, .int .i64 z, .int .i64 off] w fun e w' => RetD w w' e (dls K z off xs l) := by
  have HX := hid hx
  have HN := hid hn
  have HL := hid hl
  have HO := hid ho
  have HXL := hid hx.1
  have HTN := hid (fun k => tn_pos (k := k) hn (by rw [hx.1]; exact hl))
  obtain ⟨G, hG⟩ : ∃ G, w.heap.size = G := ⟨_, rfl⟩
  obtain ⟨w1, hw1⟩ : ∃ w1, w.alloc (.cells (bcs q K A l c) 26) = w1 := ⟨_, rfl⟩
  have FG := hid (show Fr No w w1 by rw [← hw1]; exact fr1 _ _)
  have HB := hid (show BB w1 G q K A l c by rw [← hw1, ← hG]; exact BB.new _ _ _ _ _ _)
  have HW1 := hid hw1
  obtain ⟨b0, b1, b2⟩ := HB.out.cells
  by_cases hk2 : K = 2
  · subst hk2
    have HH := hid (holes_ok A l c xs z off w1 hl (hx.fr FG.out) hn ho)
    clear hx hn hl ho hw1
    go_enter Tryd.func18, Tryd.ntmps18
    go_upto_region 1 with fail
    try rw [HW1.out]
    try rw [hG]
    go_wp2_with (go_at_call 45; refine HH.out.mono ?_; rintro e w2 ⟨A2, c2, rfl, hr2, f2⟩; have HR2 := hid hr2; have HF2 := hid (FG.out.trans f2); clear hr2 f2)
    go_ret
    exact ⟨A2, c2, rfl, HR2.out, HF2.out⟩
  have HK := hid hk2
  have hkb : (K == 2) = false := by simpa using hk2
  have hof : wrap64 (off + 1) = off + 1 := w64 _ (by omega)
  clear hx hn hl hw1 ho
  go_enter Tryd.func18, Tryd.ntmps18
  go_upto_region 1 with fail
  try rw [HW1.out]
  try rw [hG]
  go_wp2
  clear b0 b1 b2
  go_loopw [7, 8, 22] (fun vl nx i wr => DI w1 K z off xs l (fun k => off + 1 + tn (xs.take k)) vl nx i wr) (fun _ _ i _ => l - (intOf i).toNat)
  case atStart => exact ⟨0, none, 0, by omega, ⟨rfl, by simp [tn, hof], rfl⟩, DOut.nil _ _, Fr.refl _ _⟩
  case round =>
    obtain ⟨k, AV, cv, hk, ⟨rfl, rfl, rfl⟩, hown, hf⟩ := hrel
    by_cases hlt : k < l
    · have hk1 : k < xs.length := by rw [HXL.out]; exact hlt
      obtain ⟨⟨a, n⟩, hxk⟩ : ∃ x, xs[k]? = some x := ⟨_, List.getElem?_eq_getElem hk1⟩
      have hnk := HN.out _ (List.mem_of_getElem? hxk)
      simp only [] at hnk
      obtain ⟨g, o, rfl, hg, hc⟩ := (HX.out.fr (FG.out.trans hf)).at_ (by omega)
      obtain ⟨e0, e1⟩ := hc k _ hxk
      simp only [] at e0 e1
      have hlt3 : (k : Int) < l := by omega
      have h0k : (0 : Int) ≤ k := by omega
      have hw1 : wrap64 ((k : Int) + 1) = (k : Int) + 1 := by have := HL.out; exact w64 _ (by omega)
      obtain ⟨w3, hw3⟩ : ∃ w3, wr.alloc (.cells #[.int .i64 a, .int .i64 n] 51) = w3 := ⟨_, rfl⟩
      obtain ⟨D, hD⟩ : ∃ D, wr.heap.size = D := ⟨_, rfl⟩
      have HDD := hid (show Blk w3 D 51 #[.int .i64 a, .int .i64 n] by rw [← hw3, ← hD]; exact Blk.new _ _ _)
      have d0 : w3.cell? ⟨D, 0, none⟩ = some (.int .i64 a) := HDD.out.cell 0
      have d1 : w3.cell? ⟨D, 1, none⟩ = some (.int .i64 n) := HDD.out.cell 1
      have HFR := hid (show Fr No w1 w3 by rw [← hw3]; exact hf.alloc _)
      have HOW := hid (show DOut w1.heap.size w3 (.slice AV k cv) (dls K z off xs k) by rw [← hw3]; exact DOut.fr hown ((Fr.refl No _).alloc _) (fun _ _ h => h))
      have HGE := hid (show ∀ q, (Value.slice AV k cv).ownBlock = some q → w1.heap.size ≤ q ∧ q < D by rw [← hD]; exact fun q h => own_ge hown q h)
      have HLK := hid (dls_len K z off xs k (by rw [HXL.out]; exact hk))
      have HSN := hid (dls_succ (K := K) (z := z) (off := off) hxk)
      have HTS := hid (tn_snoc hxk)
      have htp := HTN.out k
      obtain ⟨t, ht⟩ : ∃ t, tn (xs.take k) = t := ⟨_, rfl⟩
      have HDE := hid (show del K z off xs k (a, n) = (⟨1, a, n, z, off + 1 + t⟩ : De) by unfold del; rw [if_neg HK.out , ht])
      rw [ht] at htp HTS; (try dsimp only); rw [ht]
      have HW3 := hid hw3
      have HO' := HO.out
      have hnn : ¬ n < 0 := by omega
      have hwp : wrap64 (off + 1 + t + n) = off + 1 + t + n := w64 _ (by omega)
      have hwk : IntKind.i64.wrap (off + 1 + t) = off + 1 + t := by rw [IntKind.wrap_i64]; omega
      have HLIT := hid (lit_d w3 ⟨1, a, n, z, off + 1 + t⟩)
      have HOA := hid (DOut.fr HOW.out (fr1 w3 (.cells #[.int .i64 1, .int .i64 a, .int .i64 n, .int .i64 z, .int .i64 (off + 1 + t)] 58)) (fun _ _ h => h))
      have HFA := hid (HFR.out.alloc (.cells #[.int .i64 1, .int .i64 a, .int .i64 n, .int .i64 z, .int .i64 (off + 1 + t)] 58))
      have HDA := hid (Blk.alloc HDD.out (.cells #[.int .i64 1, .int .i64 a, .int .i64 n, .int .i64 z, .int .i64 (off + 1 + t)] 58))
      clear hc hg hxk hk1 hf hw3 hown ht
      go_upto_region 8 with fail
      try rw [HW3.out]
      try rw [hD]
      clear e0 e1
      go_wp2_with (refine app_d rfl (.tmp 26) (.tmp 34) rfl w1.heap.size (.slice AV k cv) (dls K z off xs k) rfl HOA.out (some ⟨w3.heap.size, 0, none⟩) 1 1 [⟨1, a, n, z, off + 1 + t⟩] rfl HLIT.out (by rw [HLK.out]; have := HL.out; omega) HFA.out.size ?_; intro A' c' w4 ho4 f4; rw [HLK.out] at ho4 ⊢; have HO4 := hid ho4; have HF4 := hid (HFA.out.step f4 (fun i hi h => by have := (HGE.out i h).1; omega)); have HD4 := hid (Blk.fr HDA.out f4 (fun h => absurd (HGE.out _ h).2 (Nat.lt_irrefl _))); clear ho4 f4 d0 d1; have d0 : w4.cell? ⟨D, 0, none⟩ = some (.int .i64 a) := HD4.out.cell 0; have d1 : w4.cell? ⟨D, 1, none⟩ = some (.int .i64 n) := HD4.out.cell 1)
      go_roundw
      case rel => (try first | refine ⟨_, _, _, ?_, rfl, rfl, rfl⟩ | refine ⟨_, _, _, _, ?_, rfl, rfl, rfl, rfl⟩); exact ⟨k + 1, A', c', by omega, ⟨rfl, by dsimp only; rw [HTS.out]; simp only [Value.int.injEq, true_and]; omega, by go_num⟩, by rw [HSN.out, HDE.out]; exact HO4.out, HF4.out⟩
      case measure => first | exact next_m _ _ hlt hw1 | (simp [intOf]; omega)
    · obtain rfl : k = l := by omega
      have HFR := hid hf
      have HOW := hid hown
      have HLK := hid (dls_len K z off xs k (by rw [HXL.out]; exact Nat.le_refl _))
      clear hf hown
      go_wp2
      go_ret
      exact ⟨AV, cv, (by rw [HLK.out]; rfl), by rw [HLK.out]; exact DOut.rd HLK.out.symm HOW.out, FG.out.trans HFR.out⟩
end Go.Proofs.YtkkbgbpmpcoffaaDoor.BtC
/- Contracts: how many sectors of data a batch has, by the document; so many sectors that are told apart; the geometry of the statements of layer 16. Conditions: the slice reads as spans that are not below 0; no more than some thousands of sectors. -/
namespace Go.Proofs.YtkkbgbpmpcoffaaDoor.BtN
open Go.RowKit MSep MSepC MSpM MFrame Kit BtM BtA BtF CrcE
open BtC (tn_pos)
open SpA (wf w64)

set_option maxRecDepth 100000 in
set_option maxHeartbeats 2000000 in
theorem rsize_ok (q K : Int) (A : Option Addr) (l c : Nat) (xs : List Sp) (w : World) (hl : l ≤ 50) (hx : RdS w A l xs) (hn : ∀ s ∈ xs, 0 ≤ s.2 ∧ s.2 ≤ 1048576) :
    Calls Tryd.prog 9 #[bv q K A l c] w fun e w' => e = .returned (.int .i64 (size_ K xs)) ∧ Fr No w w' := by
  obtain ⟨G, hG⟩ : ∃ G, w.heap.size = G := ⟨_, rfl⟩
  obtain ⟨w1, hw1⟩ : ∃ w1, w.alloc (.cells (bcs q K A l c) 26) = w1 := ⟨_, rfl⟩
  have FG := hid (show Fr No w w1 by rw [← hw1]; exact fr1 _ _)
  have HB := hid (show BB w1 G q K A l c by rw [← hw1, ← hG]; exact BB.new _ _ _ _ _ _)
  have HW1 := hid hw1
  have HX := hid (hx.fr FG.out)
  have HN := hid hn
  have HL := hid hl
  have HXL := hid hx.1
  have HTN := hid (fun k => tn_pos (k := k) hn (by rw [hx.1]; exact hl))
  clear hx hn hl hw1
  by_cases hk : K = 1
  · subst hk
    rw [show size_ 1 xs = tn xs from if_pos rfl]
    go_enter Tryd.func9, Tryd.ntmps9
    go_upto_region 1 with fail
    try rw [HW1.out]
    try rw [hG]
    go_wp2
    go_loopw [3, 4] (fun v i wr => ∃ k : Nat, k ≤ l ∧ i = .int .i64 k ∧ v = .int .i64 (tn (xs.take k)) ∧ Fr No w1 wr) (fun _ i _ => l - (intOf i).toNat)
    case atStart => exact ⟨0, by omega, rfl, rfl, Fr.refl _ _⟩
    case round =>
      obtain ⟨k, hk, rfl, rfl, hf⟩ := hrel
      obtain ⟨b0, b1, b2⟩ := (HB.out.fr hf).cells
      by_cases hlt : k < l
      · have hk1 : k < xs.length := by rw [HXL.out]; exact hlt
        obtain ⟨⟨a, n⟩, hxk⟩ : ∃ x, xs[k]? = some x := ⟨_, List.getElem?_eq_getElem hk1⟩
        have hnk := HN.out _ (List.mem_of_getElem? hxk)
        simp only [] at hnk
        obtain ⟨g, o, rfl, hg, hc⟩ := (HX.out.fr hf).at_ (by omega)
        obtain ⟨e0, e1⟩ := hc k _ hxk
        simp only [] at e0 e1
        have hlt3 : (k : Int) < l := by omega
        have hltb : decide ((k : Int) < (l : Int)) = true := decide_eq_true hlt3
        have h0k : (0 : Int) ≤ k := by omega
        have hw1 : wrap64 ((k : Int) + 1) = (k : Int) + 1 := by have := HL.out; exact w64 _ (by omega)
        have htp := HTN.out k
        have HTS := hid (tn_snoc hxk)
        obtain ⟨t, ht⟩ : ∃ t, tn (xs.take k) = t := ⟨_, rfl⟩
        rw [ht] at htp HTS ⊢
        have hwt : wrap64 (t + n) = t + n := w64 _ (by omega)
        have HF := hid hf
        clear hc hg hxk hk1 hf ht
        go_wp2
        go_roundw
        case rel => exact ⟨k + 1, by omega, by go_num, by rw [HTS.out], HF.out⟩
        case measure => first | exact next_m _ _ hlt hw1 | (simp [intOf]; omega)
      · obtain rfl : k = l := by omega
        have hltc : ¬ (k : Int) < k := by omega
        have hltb : decide ((k : Int) < (k : Int)) = false := decide_eq_false hltc
        have HF := hid hf
        have HE := hid (show tn (xs.take k) = tn xs by rw [List.take_of_length_le (by rw [HXL.out]; exact Nat.le_refl _)])
        clear hf
        go_wp2
        go_ret
        exact ⟨congrArg (fun z => Ending.returned (.int .i64 z)) HE.out, FG.out.trans HF.out⟩
  · rw [show size_ K xs = 0 from if_neg hk]
    have hkb : (K == 1) = false := by simpa using hk
    go_enter Tryd.func9, Tryd.ntmps9
    go_upto_region 1 with fail
    try rw [HW1.out]
    try rw [hG]
    go_wp2
    go_loopw [3, 4] (fun v i wr => i = .int .i64 0 ∧ v = .int .i64 0 ∧ Fr No w1 wr) (fun _ i _ => l - (intOf i).toNat)
    case atStart => exact ⟨rfl, rfl, Fr.refl _ _⟩
    case round =>
      obtain ⟨rfl, rfl, hf⟩ := hrel
      obtain ⟨b0, b1, b2⟩ := (HB.out.fr hf).cells
      have HF := hid hf
      clear hf
      by_cases hl0 : (0 : Int) < l
      · have hltb : decide ((0 : Int) < (l : Int)) = true := decide_eq_true hl0
        go_wp2
        go_ret
        exact ⟨rfl, FG.out.trans HF.out⟩
      · have hltb : decide ((0 : Int) < (l : Int)) = false := decide_eq_false hl0
        go_wp2
        go_ret
        exact ⟨rfl, FG.out.trans HF.out⟩
set_option maxRecDepth 100000 in
theorem geometry_ok (w : World) : Calls Tryd.prog 17 #[] w fun e w' => e = .returned (.agg #[.int .i64 2, .int .i64 6, .int .i64 16, .int .i64 3, .int .i64 2]) ∧ Fr No w w' := by
  have HF := hid (fun o => fr1 w o)
  go_enter Tryd.func17, Tryd.ntmps17
  go_wp2
  exact bodyPost_ret (v := .agg #[.int .i64 2, .int .i64 6, .int .i64 16, .int .i64 3, .int .i64 2]) (by simp [results, Tryd.results17, go_sem]) rfl ⟨rfl, HF.out _⟩
/-- The bytes of so many sectors that are told apart. -/
def fs (b : Int) (i : Nat) : List Int := b :: (i : Int) % 256 :: (List.replicate 125 0 ++ [bits BinOp.xor IntKind.u8 b 255])
def fill (b : Int) : Nat → List Int
  | 0 => []
  | n + 1 => fill b n ++ fs b n
theorem fs_len (b : Int) (i : Nat) : (fs b i).length = 128 := by simp [fs]
theorem xor_all : ∀ n : Fin 256, 0 ≤ bits BinOp.xor IntKind.u8 (n.val : Int) 255 ∧ bits BinOp.xor IntKind.u8 (n.val : Int) 255 ≤ 255 := by decide +kernel
theorem xor_in {b : Int} (hb : 0 ≤ b ∧ b ≤ 255) : 0 ≤ bits BinOp.xor IntKind.u8 b 255 ∧ bits BinOp.xor IntKind.u8 b 255 ≤ 255 := by
  have := xor_all ⟨b.toNat, by omega⟩
  rwa [show ((b.toNat : Nat) : Int) = b by omega] at this
theorem fs_u8 {b : Int} (hb : 0 ≤ b ∧ b ≤ 255) (i : Nat) : ∀ x ∈ fs b i, 0 ≤ x ∧ x ≤ 255 := by
  intro x hx
  unfold fs at hx
  simp only [List.mem_cons, List.mem_append, List.not_mem_nil, or_false] at hx
  rcases hx with rfl | rfl | hx | rfl
  · exact hb
  · omega
  · rw [List.eq_of_mem_replicate hx]; decide
  · exact xor_in hb
theorem fill_u8 {b : Int} (hb : 0 ≤ b ∧ b ≤ 255) : ∀ n, ∀ x ∈ fill b n, 0 ≤ x ∧ x ≤ 255
  | 0 => fun x hx => by cases hx
  | n + 1 => fun x hx => by
    rw [fill, List.mem_append] at hx
    rcases hx with hx | hx
    · exact fill_u8 hb n x hx
    · exact fs_u8 hb n x hx
theorem fs_set (b : Int) (k : Nat) : (((CrcE.cells z128).toArray.setIfInBounds 0 (.int .u8 b)).setIfInBounds 1 (.int .u8 ((k : Int) % 256))).setIfInBounds 127 (.int .u8 (bits BinOp.xor IntKind.u8 b 255)) = (CrcE.cells (fs b k)).toArray := by
  simp only [CrcE.cells, z128, fs, List.setIfInBounds_toArray]
  rfl
theorem fill_len (b : Int) : ∀ n, (fill b n).length = 128 * n
  | 0 => rfl
  | n + 1 => by rw [fill, List.length_append, fill_len b n, fs_len]; omega
set_option maxRecDepth 100000 in
set_option maxHeartbeats 4000000 in
theorem fill_ok (b : Int) (n : Nat) (w : World) (_hb : 0 ≤ b ∧ b ≤ 255) (hn : n ≤ 2000) :
    Calls Tryd.prog 13 #[.int .u8 b, .int .i64 n] w fun e w' => RetB w w' e (fill b n) := by
  obtain ⟨i0, hi, hz0, hz1, hz2⟩ := info_parts u8_info
  have HI := hid (And.intro hi (And.intro hz0 (And.intro hz1 hz2)))
  have HN := hid hn
  clear hn
  go_enter Tryd.func13, Tryd.ntmps13
  go_wp2
  go_loopw [5, 6] (fun v i wr => ∃ (k : Nat) (A' : Option Addr) (c' : Nat), k ≤ n ∧ i = .int .i64 k ∧ v = .slice A' (fill b k).length c' ∧ OB w.heap.size wr v (fill b k) ∧ Fr No w wr) (fun _ i _ => n - (intOf i).toNat)
  case atStart => exact ⟨0, none, 0, by omega, rfl, rfl, OB.nil _ _, Fr.refl _ _⟩
  case round =>
    obtain ⟨k, A', c', hk, rfl, rfl, ho, hf⟩ := hrel
    by_cases hlt : k < n
    · have hlt3 : (k : Int) < n := by omega
      have h0k : (0 : Int) ≤ k := by omega
      have hw1 : wrap64 ((k : Int) + 1) = (k : Int) + 1 := by have := HN.out; exact w64 _ (by omega)
      have HO := hid ho
      have HF := hid hf
      have HSZ := hid hf.size
      clear ho hf
      go_upto_region 6 with (first | (at_make; go_must (refine wpList_make_full _ rfl _ _ 27 rfl wr.heap.size 5 i0 (.int .u8 0) 1 Tryd.underlying27 hi hz0 hz1 .i64 .i64 _ _ 128 rfl rfl rfl rfl (by rw [hz2]; omega) (by simp only [maxLen]; omega) (Nat.le_refl _) ?_)))
      intro w1 hown1 hg1
      have hF1 : Fr No wr w1 := (Fr.refl _ _).grown hg1 (fun k hk => by cases hk)
      rw [toList_madeCells_one] at hown1
      have B1 := hid (show Blk w1 wr.heap.size 5 (CrcE.cells z128).toArray by rw [CrcE.cells, z128, List.map_replicate]; exact Blk.of_own hown1)
      obtain ⟨g, hg⟩ : ∃ g, wr.heap.size = g := ⟨_, rfl⟩
      rw [hg] at B1
      try rw [hg]
      have HGG := hid hg
      have c0 : w1.cell? ⟨g, 0, none⟩ = some (.int .u8 0) := B1.out.cell 0
      have c1 : w1.cell? ⟨g, 1, none⟩ = some (.int .u8 0) := B1.out.cell 1
      have c127 : w1.cell? ⟨g, 127, none⟩ = some (.int .u8 0) := B1.out.cell 127
      have z0 : w1.frozen? ⟨g, 0, none⟩ = false := B1.out.frozen 0
      have z1 : w1.frozen? ⟨g, 1, none⟩ = false := B1.out.frozen 1
      have z127 : w1.frozen? ⟨g, 127, none⟩ = false := B1.out.frozen 127
      have HF1 := hid hF1
      clear hown1 hg1 hF1 hg HI hi hz0 hz1 hz2
      go_upto_region 7 with fail
      obtain ⟨w4, hw4⟩ : ∃ w4, (((w1.setCell ⟨g, 0, none⟩ (.int .u8 b)).setCell ⟨g, 1, none⟩ (.int .u8 ((k : Int) % 256))).setCell ⟨g, 127, none⟩ (.int .u8 (bits BinOp.xor IntKind.u8 b 255))) = w4 := ⟨_, rfl⟩
      have B4 := hid (show Blk w4 g 5 (CrcE.cells (fs b k)).toArray by
        rw [← hw4, ← fs_set]
        exact ((B1.out.set_ 0 _).set_ 1 _).set_ 127 _)
      have F4 := hid (show Fr No wr w4 by
        rw [← hw4]
        have q := (((Fr.set1 w1 g 0 (.int .u8 b)).trans (Fr.set1 _ g 1 (.int .u8 ((k : Int) % 256)))).trans (Fr.set1 _ g 127 (.int .u8 (bits BinOp.xor IntKind.u8 b 255))))
        exact HF1.out.step q (fun i hi e => by have := HGG.out; omega))
      rw [hw4]
      clear c0 c1 c127 z0 z1 z127 hw4
      have HO4 := hid (HO.out.fr F4.out)
      have HF4 := hid (HF.out.trans F4.out)
      have HR4 := hid (by have := blk_rd B4.out; rwa [cells_len, fs_len] at this)
      have HLIM := hid (show (fill b k).length + 128 ≤ 100000000000000 by rw [fill_len]; have := HN.out; omega)
      have HLN := hid (show (fill b k).length + 128 = (fill b (k + 1)).length by rw [fill_len, fill_len]; omega)
      go_wp2_with (at_builtin; go_loud (refine app_b rfl (.tmp 25) (.tmp 26) rfl w.heap.size (.slice A' (fill b k).length c') (fill b k) rfl HO4.out (some ⟨g, 0, none⟩) 128 128 (fs b k) rfl HR4.out HLIM.out HF4.out.size ?_; intro A7 c7 w7 ho7 f7; have HO7 := hid ho7; have HF7 := hid (HF4.out.step f7 (fun i hi h => by have := HO4.out.ge i h; omega)); clear ho7 f7))
      go_roundw
      case rel => exact ⟨k + 1, A7, c7, by omega, by go_num, by rw [HLN.out], by rw [HLN.out]; have := HO7.out; rw [HLN.out] at this; exact this, HF7.out⟩
      case measure => first | exact next_m _ _ hlt hw1 | (simp [intOf]; omega)
    · obtain rfl : k = n := by omega
      have HO := hid ho
      have HF := hid hf
      clear ho hf
      go_wp2
      go_ret
      exact ⟨A', c', rfl, OB.rd rfl HO.out, HO.out.lim, HF.out⟩
end Go.Proofs.YtkkbgbpmpcoffaaDoor.BtN
/- What comes of the calls of lives, at its own inputs. -/
namespace Go.Proofs.YtkkbgbpmpcoffaaDoor.BtT0
open Go.RowKit MSep MSepC MSpM MGeM MFrame Kit BtA BtF BtH BtK BtL CrcA CrcM CrcE BtC BtO
open BtM (Ba mayB mayB_dsec dsec size_ spsOk tn)
open BtN (fill fill_len fill_u8)
open BtG (bts)
open SpA (wf)
open RcM (De)
open RcB (RdD)

abbrev g0v : Value := .agg #[.int .i64 2, .int .i64 6, .int .i64 16, .int .i64 3, .int .i64 2]
def F0 : List Int := fill 1 3
theorem F0_len : F0.length = 384 := fill_len 1 3
theorem F0_u8 : ∀ x ∈ F0, 0 ≤ x ∧ x ≤ 255 := fill_u8 (by decide) 3
def Z0 : List Int := bts 3 1 [(5, 3)] F0
theorem Z0_len : Z0.length = 512 := by rw [Z0, BtP.bts_len (by decide), F0_len]
theorem may0 : mayG ⟨2, 6, 16, 3, 2⟩ := by decide
theorem mb0 : mayB ⟨2, 6, 16, 3, 2⟩ ⟨3, 1, [(5, 3)]⟩ := by
  refine ⟨may0, by decide, ⟨by decide, by decide, ?_⟩, Or.inl ⟨rfl, by decide⟩⟩
  intro i s hi hs
  obtain rfl : i = 0 := by simp at hi; omega
  simp at hs
  subst hs
  exact ⟨by decide, by decide, fun t ht => by cases ht⟩
theorem sz0 : (F0.length : Int) = size_ 1 [(5, 3)] * 128 := by rw [F0_len]; decide
theorem beg0 : beginG ⟨2, 6, 16, 3, 2⟩ Z0 = some (⟨3, 1, [(5, 3)]⟩, F0) := by
  have := BtP.beginG_bts (ys := []) mb0 sz0 rfl
  rw [List.append_nil] at this
  exact this
theorem hd0 : headG ⟨2, 6, 16, 3, 2⟩ z128 = none := by
  have : headP z128 = none := by
    unfold headP
    split
    · unfold hP
      rw [if_neg (by decide)]
    · rfl
  unfold headG
  rw [this]
theorem dl0 : dls 1 4 2 [(5, 3)] 1 = [⟨1, 5, 3, 4, 3⟩] := by decide
theorem gp0 : BtQ.gps [(1, 2)] = [[(1, 2)]] := by decide
theorem wf0 : ∀ s ∈ [((5 : Int), (3 : Int))], wf s := by intro s hs; simp at hs; subst hs; unfold wf; decide
theorem wf1 : ∀ s ∈ [((1 : Int), (2 : Int))], wf s := by intro s hs; simp at hs; subst hs; unfold wf; decide
theorem r6 : r64 6 := by unfold r64; decide
theorem r9 : r64 9 := by unfold r64; decide
set_option maxRecDepth 100000
theorem fil0 (w : World) : Calls Tryd.prog 13 #[.int .u8 1, .int .i64 3] w fun e w' => (∃ A c, e = .returned (.slice A 384 c) ∧ IsB w' A 384 c F0) ∧ Fr No w w' := by
  refine (BtN.fill_ok 1 3 w (by decide) (by decide)).mono ?_
  rintro e w' ⟨A, c, rfl, h, hl, f⟩
  rw [show (fill 1 3).length = 384 from F0_len] at h hl ⊢
  exact ⟨⟨A, c, rfl, h, hl.1, hl.2, F0_u8⟩, f⟩
theorem enc0 (R : Nat) (dA : Option Addr) (dc : Nat) (w : World) (hx : RdS w (some ⟨R, 0, none⟩) 1 [(5, 3)]) (hz : IsB w dA 384 dc F0) (hT : TabAt w) :
    Calls Tryd.prog 5 #[g0v, bv 3 1 (some ⟨R, 0, none⟩) 1 1, .slice dA 384 dc] w fun e w' => (∃ A c, e = .returned (.tuple #[.slice A 512 c, .int .i64 0]) ∧ IsB w' A 512 c Z0) ∧ Fr No w w' := by
  refine (BtG.encode_yes 2 6 16 3 2 3 1 _ 1 [(5, 3)] dA 384 dc F0 w r6 (by decide) hx wf0 hz mb0 (by decide) hT).mono ?_
  rintro e w' ⟨⟨A, c, rfl, h⟩, f⟩
  rw [show (bts 3 1 [(5, 3)] F0).length = 512 from Z0_len] at h ⊢
  exact ⟨⟨A, c, rfl, h⟩, f⟩
theorem dec0 (A : Option Addr) (c : Nat) (w : World) (hb : IsB w A 512 c Z0) (hT : TabAt w) :
    Calls Tryd.prog 12 #[g0v, .slice A 512 c] w fun E w' => (∃ A c A2 c2, E = .returned (.tuple #[bv 3 1 A 1 c, .slice A2 384 c2, .int .i64 0]) ∧ RdS w' A 1 [(5, 3)] ∧ (1 ≤ c ∧ c ≤ maxLen) ∧ Rd w' A2 384 (F0.map (Value.int .u8))) ∧ Fr No w w' := by
  refine (decode_ok 2 6 16 3 2 A 512 c Z0 w r6 may0 hb hT).mono ?_
  rintro E w' ⟨h, f⟩
  rw [beg0] at h
  obtain ⟨A1, c1, A2, c2, rfl, h1, h2, h3⟩ := h
  dsimp only at h1 h2 h3 ⊢
  rw [F0_len] at h3 ⊢
  exact ⟨⟨A1, c1, A2, c2, rfl, h1, h2.1, h3⟩, f⟩
theorem hea0 (A : Option Addr) (c : Nat) (w : World) (hb : IsB w A 128 c z128) (hT : TabAt w) :
    Calls Tryd.prog 14 #[g0v, .slice A 128 c] w fun E w' => E = .returned (.tuple #[bv 0 0 none 0 0, .int .u32 0, .int .i64 10]) ∧ Fr No w w' := by
  refine (head_ok 2 6 16 3 2 A 128 c z128 w r6 may0 hb hT).mono ?_
  rintro E w' ⟨h, f⟩
  rw [hd0] at h
  exact ⟨h, f⟩
theorem del0 (A : Option Addr) (c : Nat) (w : World) (hx : RdS w A 1 [(5, 3)]) :
    Calls Tryd.prog 18 #[bv 3 1 A 1 c, .int .i64 4, .int .i64 2] w fun e w' => (∃ A c, e = .returned (.slice A 1 c) ∧ RdD w' A 1 [⟨1, 5, 3, 4, 3⟩]) ∧ Fr No w w' := by
  refine (deltas_ok 3 1 A 1 c [(5, 3)] 4 2 w (by decide) hx (by decide) (by decide)).mono ?_
  rintro e w' ⟨A, c, rfl, h, f⟩
  rw [dl0] at h ⊢
  exact ⟨⟨A, c, rfl, h⟩, f⟩
theorem hol0 (A : Option Addr) (c : Nat) (w : World) (hx : RdS w A 1 [(1, 2)]) :
    Calls Tryd.prog 19 #[g0v, .int .i64 9, .slice A 1 c] w fun e w' => (∃ A c, e = .returned (.tuple #[.slice A 1 c, .int .i64 0])) ∧ Fr No w w' := by
  refine (BtS.holes_ok 2 6 16 3 2 9 A 1 c [(1, 2)] w r6 may0 (by decide) hx wf1 r9 (by decide)).mono ?_
  rintro e w' ⟨h, f⟩
  rw [gp0] at h
  rcases h with ⟨h, _⟩ | ⟨_, A, c, vs, rfl, _⟩
  · exact absurd h (by unfold BtS.badS; decide)
  · exact ⟨⟨A, c, rfl⟩, f⟩
theorem rsa0 (A B : Option Addr) (c d : Nat) (w : World) (hx : RdS w A 1 [(5, 3)]) (hy : RdS w B 1 [(5, 3)]) :
    Calls Tryd.prog 16 #[bv 3 1 A 1 c, bv 3 1 B 1 d] w fun e w' => e = .returned (.bool true) ∧ Fr No w w' :=
  brsame_ok 3 1 A 1 c _ 3 1 B 1 d _ true w (by decide) (by decide) hx hy (by simp)
theorem rsz0 (w : World) :
    Calls Tryd.prog 16 #[bv 0 0 none 0 0, bv 0 0 none 0 0] w fun e w' => e = .returned (.bool true) ∧ Fr No w w' :=
  brsame_ok 0 0 none 0 0 [] 0 0 none 0 0 [] true w (by decide) (by decide) (RdS.nil _ _) (RdS.nil _ _) (by simp)
theorem bsa0 (A B : Option Addr) (c d : Nat) (w : World) (hx : RdS w A 1 [(5, 3)]) (hy : RdS w B 1 [(5, 3)]) :
    Calls Tryd.prog 21 #[bv 3 1 A 1 c, bv 3 1 B 1 d] w fun e w' => e = .returned (.bool true) ∧ Fr No w w' :=
  bsame_ok 3 1 A 1 c _ 3 1 B 1 d _ true w (by decide) (by decide) hx hy (by simp)
theorem sec0 (A : Option Addr) (c : Nat) (w : World) (hx : RdS w A 1 [(5, 3)]) :
    Calls Tryd.prog 11 #[bv 3 1 A 1 c] w fun e w' => e = .returned (.int .i64 4) ∧ Fr No w w' := by
  refine (sectors_ok 3 1 A 1 c [(5, 3)] w (by decide) hx wf0).mono ?_
  rintro e w' ⟨rfl, f⟩
  exact ⟨by rw [show (1 : Int) + dsec 1 [(5, 3)] = 4 by decide], f⟩
theorem mas0 (A : Option Addr) (w : World) (hx : RdS w A 1 [(5, 3)]) :
    Calls Tryd.prog 6 #[g0v, bv 3 1 A 1 1] w fun e w' => e = .returned (.bool true) ∧ Fr No w w' :=
  BtD.may_ok 2 6 16 3 2 3 1 A 1 1 [(5, 3)] true w r6 (by decide) (by decide) hx wf0 (by simp [mb0])
set_option maxRecDepth 100000 in
set_option maxHeartbeats 4000000 in
theorem sca0 (A : Option Addr) (c : Nat) (w : World) (hb : IsB w A 512 c Z0) :
    Calls Tryd.prog 20 #[g0v, .slice A 512 c] w fun e w' => (∃ vs, e = .returned (.func (.func 48) #[] vs)) ∧ Fr No w w' := by
  have HB := hid hb
  clear hb
  have HF0 := hid (fun o => fr1 w o)
  go_enter Tryd.func20, Tryd.ntmps20
  go_wp2_with (first | (go_at_call 37; refine (BtF.clone_ok A 512 c Z0 _ (by decide) (HB.out.fr (HF0.out _)).1).mono ?_; rintro e w2 ⟨A2, c2, rfl, _, _, _, f⟩; have HF1 := hid ((HF0.out _).trans f); clear f))
  go_ret
  exact ⟨⟨_, rfl⟩, HF1.out.alloc _⟩
end Go.Proofs.YtkkbgbpmpcoffaaDoor.BtT0
