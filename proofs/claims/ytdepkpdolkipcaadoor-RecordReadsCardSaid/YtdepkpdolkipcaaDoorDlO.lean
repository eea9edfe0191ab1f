/- Rows of deltas and of records of the call's own, and how one goes on appending to them. Condition: no more than some millions of them. -/
import Derived.Test.YtdepkpdolkipcaaDoorRcC
import Derived.Test.YtdepkpdolkipcaaDoorSepC
namespace Go.Proofs.YtdepkpdolkipcaaDoor.DlO
open Go.RowKit MSep MSepC RcM RcA RcB RcC

theorem infoDa : (Tryd.prog.info? 58).map (fun i => (i.zero, i.size, i.bytes)) = some (some (.agg #[.int .i64 0, .int .i64 0, .int .i64 0, .int .i64 0, .int .i64 0]), 5, 40) := by kernel_rfl
theorem infoD : ∃ i z, Tryd.prog.info? 58 = some i ∧ i.zero = some z ∧ i.size = 5 ∧ i.bytes = 40 ∧ z.cells.size = 5 := by
  have h := infoDa
  cases hi : Tryd.prog.info? 58 with
  | none => rw [hi] at h; cases h
  | some i =>
    rw [hi] at h
    simp only [Option.map_some, Option.some.injEq, Prod.mk.injEq] at h
    exact ⟨i, _, rfl, h.1, h.2.1, h.2.2, rfl⟩
theorem infoRa : (Tryd.prog.info? 48).map (fun i => (i.zero, i.size, i.bytes)) = some (some (.agg #[.int .i64 0, .int .i64 0, .bool false, .int .i64 0, .slice none 0 0]), 5, 56) := by kernel_rfl
theorem infoR : ∃ i z, Tryd.prog.info? 48 = some i ∧ i.zero = some z ∧ i.size = 5 ∧ i.bytes = 56 ∧ z.cells.size = 5 := by
  have h := infoRa
  cases hi : Tryd.prog.info? 48 with
  | none => rw [hi] at h; cases h
  | some i =>
    rw [hi] at h
    simp only [Option.map_some, Option.some.injEq, Prod.mk.injEq] at h
    exact ⟨i, _, rfl, h.1, h.2.1, h.2.2, rfl⟩

/-- A row of deltas of the call's own. -/
def DOut (B : Nat) (w : World) (v : Value) (l : List De) : Prop := w.ownsRow B 58 5 v l.length (cs5 l)
theorem DOut.nil (B : Nat) (w : World) : DOut B w (.slice none 0 0) [] := World.ownsRow_nil w B 58 5
theorem DOut.fr {B : Nat} {w w' : World} {v : Value} {l : List De} {S : Nat → Prop} (h : DOut B w v l) (hf : Fr S w w') (hn : ∀ k, v.ownBlock = some k → ¬ S k) : DOut B w' v l := own_fr h hf hn
theorem own_ge {B : Nat} {w : World} {e : TypeId} {n m : Nat} {v : Value} {xs : List Value} (h : w.ownsRow B e n v m xs) (k : Nat) (hk : v.ownBlock = some k) : B ≤ k ∧ k < w.heap.size := by
  rcases h.2 with ⟨rfl, _⟩ | ⟨g, cap, cur, rfl, hb, hh, _⟩
  · simp [Value.ownBlock] at hk
  · simp [Value.ownBlock] at hk
    subst hk
    exact ⟨hb, (Array.getElem?_eq_some_iff.1 hh).1⟩
theorem own_blk {B : Nat} {w : World} {e : TypeId} {n m : Nat} {v : Value} {xs : List Value} (h : w.ownsRow B e n v m xs) (k : Nat) (hk : v.ownBlock = some k) : B ≤ k ∧ ∃ cs, Blk w k e cs := by
  rcases h.2 with ⟨rfl, _⟩ | ⟨g, cap, cur, rfl, hb, hh, _⟩
  · simp [Value.ownBlock] at hk
  · simp [Value.ownBlock] at hk
    subst hk
    exact ⟨hb, cur, hh⟩
theorem own_rdk {B : Nat} {w : World} {e : TypeId} {k : Nat} {A : Option Addr} {n c : Nat} {xs : List Value} (h : w.ownsRow B e k (.slice A n c) n xs) : Rd w A (n * k) xs := by
  refine ⟨by simpa using h.1, fun hn => ?_⟩
  rcases h.2 with ⟨_, h0⟩ | ⟨g, cap, cur, hv, hb, hg, hnc, hcm, hcs, htake⟩
  · subst h0
    simp at hn
  · injection hv with h1 h2 h3
    subst h1
    refine ⟨g, 0, rfl, (Array.getElem?_eq_some_iff.1 hg).1, fun j u hu => ?_⟩
    rw [Nat.zero_add, cell_of_row w g j cur e (0, 0) hg]
    rw [← htake, List.getElem?_take] at hu
    split at hu
    · simpa using hu
    · cases hu
theorem DOut.rd {B : Nat} {w : World} {A : Option Addr} {n c : Nat} {l : List De} (hn : n = l.length) (h : DOut B w (.slice A n c) l) : RdD w A n l := by
  subst hn
  exact ⟨rfl, own_rdk h⟩
theorem DOut.form {B : Nat} {w : World} {v : Value} {l : List De} (h : DOut B w v l) : ∃ A c, v = .slice A l.length c := own_form h
theorem own_lim {B : Nat} {w : World} {e : TypeId} {k : Nat} {A : Option Addr} {n c : Nat} {xs : List Value} (h : w.ownsRow B e k (.slice A n c) n xs) : n ≤ c ∧ c ≤ maxLen := by
  rcases h.2 with ⟨hv, h0⟩ | ⟨g, cap, cur, hv, hb, hg, hnc, hcm, hcs, htake⟩
  · injection hv with h1 h2 h3
    subst h3
    exact ⟨by omega, by simp [maxLen]⟩
  · injection hv with h1 h2 h3
    subst h3
    exact ⟨hnc, hcm⟩

/-- 'v = append(v, x...)', v a row of the call's own. -/
theorem app_d {w : World} {ops : Array Oper} {rest : List Oper} {o : Oper} {a : Act} {Q : Exit → Act → World → Prop} (hgd : o.guard = none) (s x : Operand)
    (ho : o.op = .call { callee := .builtin .append, args := #[s, x], argTypes := #[46, 46] })
    (B : Nat) (v : Value) (l : List De) (hs : a.eval s = v) (hown : DOut B w v l)
    (A : Option Addr) (m c : Nat) (news : List De) (hx : a.eval x = .slice A m c) (hr : RdD w A m news)
    (hlim : l.length + m ≤ 2000000000000) (hbase : B ≤ w.heap.size)
    (h : ∀ A' c' w', DOut B w' (.slice A' (l.length + m) c') (l ++ news) → Fr (fun q => v.ownBlock = some q) w w' → wpList Tryd.prog ops Q rest (a.put o.dst (.slice A' (l.length + m) c')) w') :
    wpList Tryd.prog ops Q (o :: rest) a w := by
  obtain ⟨i0, z0, hi, hz0, hz1, hz2, hz3⟩ := infoD
  refine wpList_appk 5 (by omega) hgd s x 46 ho B 58 i0 z0 40 Tryd.underlying46 hi hz0 hz1 hz2 hz3 v l.length (cs5 l) hs hown A m c (cs5 news) hx hr.2 cs5_one (by simp only [maxLen]; omega) (by omega) hbase ?_
  intro A' c' w' o1 f1 _
  refine h A' c' w' ?_ f1
  have e : (l ++ news).length = l.length + m := by rw [List.length_append, hr.1]
  unfold DOut
  rw [cs5_append, e]
  exact o1
theorem app_d_step {w : World} {ops : Array Oper} {o : Oper} {a : Act} {K : Act → World → Prop} {Q : Exit → Act → World → Prop} {E : Prop} (hgd : o.guard = none) (s x : Operand)
    (ho : o.op = .call { callee := .builtin .append, args := #[s, x], argTypes := #[46, 46] })
    (B : Nat) (v : Value) (l : List De) (hs : a.eval s = v) (hown : DOut B w v l)
    (A : Option Addr) (m c : Nat) (news : List De) (hx : a.eval x = .slice A m c) (hr : RdD w A m news)
    (hlim : l.length + m ≤ 2000000000000) (hbase : B ≤ w.heap.size)
    (h : ∀ A' c' w', DOut B w' (.slice A' (l.length + m) c') (l ++ news) → Fr (fun q => v.ownBlock = some q) w w' → K (a.put o.dst (.slice A' (l.length + m) c')) w') :
    if Region.wanted o (yielded ops a.tmps) = true then Oper.wp Tryd.prog o a w K Q else E := by
  obtain ⟨i0, z0, hi, hz0, hz1, hz2, hz3⟩ := infoD
  refine step_appk 5 (by omega) hgd s x 46 ho B 58 i0 z0 40 Tryd.underlying46 hi hz0 hz1 hz2 hz3 v l.length (cs5 l) hs hown A m c (cs5 news) hx hr.2 cs5_one (by simp only [maxLen]; omega) (by omega) hbase ?_
  intro A' c' w' o1 f1 _
  refine h A' c' w' ?_ f1
  have e : (l ++ news).length = l.length + m := by rw [List.length_append, hr.1]
  unfold DOut
  rw [cs5_append, e]
  exact o1
theorem lit_d (w : World) (d : De) : RdD (w.alloc (.cells #[.int .i64 d.k, .int .i64 d.a, .int .i64 d.n, .int .i64 d.z, .int .i64 d.o] 58)) (some ⟨w.heap.size, 0, none⟩) 1 [d] :=
  ⟨rfl, Rd.lit w [.int .i64 d.k, .int .i64 d.a, .int .i64 d.n, .int .i64 d.z, .int .i64 d.o] 58⟩

/-- A record as it lies in memory: its deltas are a slice. -/
structure RV where
  e : Int
  s : Int
  b : Bool
  u : Int
  A : Option Addr
  n : Nat
  c : Nat
def csR (l : List RV) : List Value := l.flatMap fun r => [.int .i64 r.e, .int .i64 r.s, .bool r.b, .int .i64 r.u, .slice r.A r.n r.c]
theorem csR_nil : csR [] = [] := rfl
theorem csR_cons (r : RV) (l : List RV) : csR (r :: l) = .int .i64 r.e :: .int .i64 r.s :: .bool r.b :: .int .i64 r.u :: .slice r.A r.n r.c :: csR l := rfl
theorem csR_append (a b : List RV) : csR (a ++ b) = csR a ++ csR b := by simp [csR]
theorem csR_one {l : List RV} : ∀ u ∈ csR l, u.oneCell' = true := by
  intro u hu
  obtain ⟨s, _, h⟩ := List.mem_flatMap.1 hu
  simp at h
  rcases h with rfl | rfl | rfl | rfl | rfl <;> rfl
theorem csR_get {l : List RV} {i : Nat} {r : RV} (h : l[i]? = some r) : (csR l)[i * 5]? = some (.int .i64 r.e) ∧ (csR l)[i * 5 + 1]? = some (.int .i64 r.s) ∧ (csR l)[i * 5 + 2]? = some (.bool r.b) ∧ (csR l)[i * 5 + 3]? = some (.int .i64 r.u) ∧ (csR l)[i * 5 + 4]? = some (.slice r.A r.n r.c) := by
  induction l generalizing i with
  | nil => simp at h
  | cons t l ih =>
    cases i with
    | zero => simp at h; subst h; simp [csR_cons]
    | succ i =>
      have := ih (by simpa using h)
      rw [csR_cons]
      rw [show (i + 1) * 5 = i * 5 + 1 + 1 + 1 + 1 + 1 by omega]
      simpa using this
/-- The slice at A of n records lies so. -/
def RdV (w : World) (A : Option Addr) (n : Nat) (l : List RV) : Prop := l.length = n ∧ Rd w A (n * 5) (csR l)
theorem RdV.fr {S : Nat → Prop} {w w' : World} {A : Option Addr} {n : Nat} {l : List RV} (h : RdV w A n l) (hf : Fr S w w') (hn : ∀ g o, A = some ⟨g, o, none⟩ → ¬ S g) : RdV w' A n l := ⟨h.1, h.2.fr hf hn⟩
theorem RdV.at_ {w : World} {A : Option Addr} {n : Nat} {l : List RV} (h : RdV w A n l) (hn : 0 < n) : ∃ g o, A = some ⟨g, o, none⟩ ∧ g < w.heap.size ∧ ∀ i r, l[i]? = some r →
    w.cell? ⟨g, o + i * 5, none⟩ = some (.int .i64 r.e) ∧ w.cell? ⟨g, o + i * 5 + 1, none⟩ = some (.int .i64 r.s) ∧ w.cell? ⟨g, o + i * 5 + 2, none⟩ = some (.bool r.b) ∧ w.cell? ⟨g, o + i * 5 + 3, none⟩ = some (.int .i64 r.u) ∧ w.cell? ⟨g, o + i * 5 + 4, none⟩ = some (.slice r.A r.n r.c) := by
  obtain ⟨g, o, rfl, hg, hc⟩ := h.2.2 (by omega)
  refine ⟨g, o, rfl, hg, fun i s hs => ?_⟩
  obtain ⟨h0, h1, h2, h3, h4⟩ := csR_get hs
  exact ⟨hc _ _ h0, by rw [Nat.add_assoc]; exact hc _ _ h1, by rw [Nat.add_assoc]; exact hc _ _ h2, by rw [Nat.add_assoc]; exact hc _ _ h3, by rw [Nat.add_assoc]; exact hc _ _ h4⟩
/-- What lies so means the record r; its deltas lie below M and from L on. -/
structure Means (w : World) (v : RV) (r : Rc) : Prop where
  e : v.e = r.e
  s : v.s = r.s
  b : v.b = r.c
  u : v.u = r.u
  n : v.n ≤ maxLen
  rd : RdD w v.A v.n r.l
theorem Means.fr {S : Nat → Prop} {w w' : World} {v : RV} {r : Rc} (h : Means w v r) (hf : Fr S w w') (hn : ∀ g o, v.A = some ⟨g, o, none⟩ → ¬ S g) : Means w' v r :=
  ⟨h.e, h.s, h.b, h.u, h.n, h.rd.1, h.rd.2.fr hf hn⟩
/-- The slice at A of n records reads as rs. -/
def RdG (w : World) (A : Option Addr) (n : Nat) (rs : List Rc) : Prop := ∃ vs : List RV, RdV w A n vs ∧ rs.length = n ∧ ∀ (i : Nat) v r, vs[i]? = some v → rs[i]? = some r → Means w v r
theorem RdG.fr {w w' : World} {A : Option Addr} {n : Nat} {rs : List Rc} (h : RdG w A n rs) (hf : Fr No w w') : RdG w' A n rs := by
  obtain ⟨vs, h1, h2, h3⟩ := h
  exact ⟨vs, h1.fr hf (fun _ _ _ h => h), h2, fun i v r hv hr => (h3 i v r hv hr).fr hf (fun _ _ _ h => h)⟩
theorem RdG.nil (w : World) (A : Option Addr) : RdG w A 0 [] := ⟨[], ⟨rfl, Rd.nil w A⟩, rfl, fun i v r h => by simp at h⟩

/-- A row of records of the call's own. -/
def VOut (B : Nat) (w : World) (v : Value) (l : List RV) : Prop := w.ownsRow B 48 5 v l.length (csR l)
theorem VOut.nil (B : Nat) (w : World) : VOut B w (.slice none 0 0) [] := World.ownsRow_nil w B 48 5
theorem VOut.fr {B : Nat} {w w' : World} {v : Value} {l : List RV} {S : Nat → Prop} (h : VOut B w v l) (hf : Fr S w w') (hn : ∀ k, v.ownBlock = some k → ¬ S k) : VOut B w' v l := own_fr h hf hn
theorem VOut.rd {B : Nat} {w : World} {A : Option Addr} {n c : Nat} {l : List RV} (hn : n = l.length) (h : VOut B w (.slice A n c) l) : RdV w A n l := by
  subst hn
  exact ⟨rfl, own_rdk h⟩
theorem lit_v (w : World) (r : RV) : RdV (w.alloc (.cells #[.int .i64 r.e, .int .i64 r.s, .bool r.b, .int .i64 r.u, .slice r.A r.n r.c] 48)) (some ⟨w.heap.size, 0, none⟩) 1 [r] :=
  ⟨rfl, Rd.lit w [.int .i64 r.e, .int .i64 r.s, .bool r.b, .int .i64 r.u, .slice r.A r.n r.c] 48⟩
theorem run_app_v {w : World} {ty : TypeId} (B : Nat) (v : Value) (l : List RV) (hown : VOut B w v l) (A : Option Addr) (m c : Nat) (news : List RV) (hr : RdV w A m news) (hlim : l.length + m ≤ 1000000000000) (hbase : B ≤ w.heap.size) :
    ∃ A' c' w', (Builtin.append_ #[61, 61] ty #[v, .slice A m c]).run Tryd.prog w = .ok (.slice A' (l.length + m) c') w' ∧ VOut B w' (.slice A' (l.length + m) c') (l ++ news) ∧ Fr (fun q => v.ownBlock = some q) w w' := by
  obtain ⟨i0, z0, hi, hz0, hz1, hz2, hz3⟩ := infoR
  obtain ⟨v', w', hrun, h2, h3, _⟩ := run_appk (P := Tryd.prog) 5 (by omega) w B 61 ty 48 i0 z0 56 Tryd.underlying61 hi hz0 hz1 hz2 hz3 v l.length (csR l) hown A m c (csR news) hr.2 csR_one (by simp only [maxLen]; omega) (by omega) hbase
  obtain ⟨A', c', rfl⟩ := own_form h2
  refine ⟨A', c', w', hrun, ?_, h3⟩
  have e : (l ++ news).length = l.length + m := by rw [List.length_append, hr.1]
  unfold VOut
  rw [csR_append, e]
  exact h2
theorem app_v {w : World} {ops : Array Oper} {rest : List Oper} {o : Oper} {a : Act} {Q : Exit → Act → World → Prop} (hgd : o.guard = none) (s x : Operand)
    (ho : o.op = .call { callee := .builtin .append, args := #[s, x], argTypes := #[61, 61] })
    (B : Nat) (v : Value) (l : List RV) (hs : a.eval s = v) (hown : VOut B w v l)
    (A : Option Addr) (m c : Nat) (news : List RV) (hx : a.eval x = .slice A m c) (hr : RdV w A m news)
    (hlim : l.length + m ≤ 1000000000000) (hbase : B ≤ w.heap.size)
    (h : ∀ A' c' w', VOut B w' (.slice A' (l.length + m) c') (l ++ news) → Fr (fun q => v.ownBlock = some q) w w' → wpList Tryd.prog ops Q rest (a.put o.dst (.slice A' (l.length + m) c')) w') :
    wpList Tryd.prog ops Q (o :: rest) a w := by
  refine wpList_plain hgd fun K hK => ?_
  obtain ⟨A', c', w', hrun, h2, h3⟩ := run_app_v (ty := o.type) B v l hown A m c news hr hlim hbase
  unfold Oper.wp execOp
  simp only [ho, resolve, invoke, builtin, Sem.run_bind, Sem.run_pure, Result.andThen_ok, List.map_toArray, List.map_cons, List.map_nil, hs, hx, hrun]
  exact hK _ _ (h A' c' w' h2 h3)
end Go.Proofs.YtdepkpdolkipcaaDoor.DlO
