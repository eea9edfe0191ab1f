/- Plain facts on worlds, of whatever program: append onto rows whose elements have k cells each; rows of pairs of whole numbers. -/
import Derived.Test.YtoboialfaifbgaaSep
namespace Go.Proofs.Ytoboialfaifbgaa.MSepC
open Go.RowKit MSep

/-- 'append(v, x...)': v a row of the call's own (or nil), x any slice that reads as 'news', nil let in. -/
theorem run_appk {P : Program} (k : Nat) (hk : 0 < k) (w : World) (base : Nat) (t ty e : TypeId) (i : TypeInfo) (z : Value) (bytes : Nat) (ht : P.underlying t = some (.slice e)) (hi : P.info? e = some i) (hz : i.zero = some z)
    (hsize : i.size = k) (hby : i.bytes = bytes) (hzs : z.cells.size = k)
    (v : Value) (n : Nat) (xs : List Value) (hown : w.ownsRow base e k v n xs)
    (A : Option Addr) (m c : Nat) (news : List Value) (hr : Rd w A (m * k) news) (h1 : ∀ u ∈ news, u.oneCell' = true)
    (h63 : n + m ≤ maxLen) (hbytes : (n + m) * bytes ≤ 140737488355328) (hbase : base ≤ w.heap.size) :
    ∃ v' w', (Builtin.append_ #[t, t] ty #[v, .slice A m c]).run P w = .ok v' w' ∧ w'.ownsRow base e k v' (n + m) (xs ++ news) ∧ Fr (fun q => v.ownBlock = some q) w w' ∧
      (∀ q, v'.ownBlock = some q → v.ownBlock = some q ∨ w.heap.size ≤ q) := by
  by_cases h0 : m = 0 ∧ A = none
  · obtain ⟨rfl, rfl⟩ := h0
    have hn : news = [] := List.eq_nil_of_length_eq_zero (by simpa using hr.1)
    subst hn
    refine ⟨v, w, ?_, by simpa using hown, Fr.refl _ _, fun _ hq => .inl hq⟩
    rcases hown.2 with ⟨rfl, rfl⟩ | ⟨g, cap, cur, rfl, _, _, hnc, _⟩
    · simp [Builtin.append_, run_underlying ht, sizeOf, typeInfo, hi, Builtin.lenOf, Builtin.firstCells]
    · simp [Builtin.append_, run_underlying ht, sizeOf, typeInfo, hi, Builtin.lenOf, Builtin.firstCells, hnc, storeCells]
  · obtain ⟨ad, rfl, hc⟩ : ∃ ad, A = some ad ∧ ∀ j u, news[j]? = some u → w.cell? (ad.add j) = some u := by
      by_cases hm : 0 < m * k
      · obtain ⟨g, o, rfl, _, hc⟩ := hr.2 hm
        refine ⟨_, rfl, fun j u hu => ?_⟩
        have : (⟨g, o, none⟩ : Addr).add j = ⟨g, o + j, none⟩ := by unfold Addr.add; split <;> simp_all
        rw [this]
        exact hc j u hu
      · have hm0 : m = 0 := by
          rcases Nat.eq_zero_or_pos m with h | h
          · exact h
          · exact absurd (Nat.mul_pos h hk) hm
        subst hm0
        have hn : news = [] := List.eq_nil_of_length_eq_zero (by simpa using hr.1)
        subst hn
        cases A with
        | none => exact absurd ⟨rfl, rfl⟩ h0
        | some ad => exact ⟨ad, rfl, fun j u hu => by simp at hu⟩
    obtain ⟨v', w', hrun, h2, h3, _, h5⟩ := run_append_own_at (P := P) w base t ty e i z k bytes ht hi hz hsize hby hzs hk v n xs hown ad m c news hr.1 hc h1 h63 hbytes hbase
    refine ⟨v', w', hrun, h2, (Fr.refl _ _).grown h3 (fun _ hq _ => hq), fun q hq => ?_⟩
    rcases h5 with h5 | h5
    · exact .inl (h5 ▸ hq)
    · rw [h5] at hq
      simp at hq
      exact .inr (by omega)

theorem wpList_appk {P : Program} {w : World} {ops : Array Oper} {rest : List Oper} {o : Oper} {a : Act} {Q : Exit → Act → World → Prop} (k : Nat) (hk : 0 < k) (hgd : o.guard = none) (s x : Operand) (t : TypeId)
    (ho : o.op = .call { callee := .builtin .append, args := #[s, x], argTypes := #[t, t] })
    (base : Nat) (e : TypeId) (i : TypeInfo) (z : Value) (bytes : Nat) (ht : P.underlying t = some (.slice e)) (hi : P.info? e = some i) (hz : i.zero = some z)
    (hsize : i.size = k) (hby : i.bytes = bytes) (hzs : z.cells.size = k)
    (v : Value) (n : Nat) (xs : List Value) (hs : a.eval s = v) (hown : w.ownsRow base e k v n xs)
    (A : Option Addr) (m c : Nat) (news : List Value) (hx : a.eval x = .slice A m c) (hr : Rd w A (m * k) news) (h1 : ∀ u ∈ news, u.oneCell' = true)
    (h63 : n + m ≤ maxLen) (hbytes : (n + m) * bytes ≤ 140737488355328) (hbase : base ≤ w.heap.size)
    (h : ∀ A' c' w', w'.ownsRow base e k (.slice A' (n + m) c') (n + m) (xs ++ news) → Fr (fun q => v.ownBlock = some q) w w' → (∀ q, (Value.slice A' (n + m) c').ownBlock = some q → v.ownBlock = some q ∨ w.heap.size ≤ q) → wpList P ops Q rest (a.put o.dst (.slice A' (n + m) c')) w') :
    wpList P ops Q (o :: rest) a w := by
  refine wpList_plain hgd fun K hK => ?_
  obtain ⟨v', w', hrun, h2, h3, h4⟩ := run_appk (P := P) k hk w base t o.type e i z bytes ht hi hz hsize hby hzs v n xs hown A m c news hr h1 h63 hbytes hbase
  unfold Oper.wp execOp
  simp only [ho, resolve, invoke, builtin, Sem.run_bind, Sem.run_pure, Result.andThen_ok, List.map_toArray, List.map_cons, List.map_nil, hs, hx, hrun]
  obtain ⟨A', c', rfl⟩ := own_form h2
  exact hK _ _ (h A' c' w' h2 h3 h4)

/-- The same, as one step of a region that draws its order. -/
theorem step_appk {P : Program} {w : World} {ops : Array Oper} {o : Oper} {a : Act} {K : Act → World → Prop} {Q : Exit → Act → World → Prop} {E : Prop} (k : Nat) (hk : 0 < k) (hgd : o.guard = none) (s x : Operand) (t : TypeId)
    (ho : o.op = .call { callee := .builtin .append, args := #[s, x], argTypes := #[t, t] })
    (base : Nat) (e : TypeId) (i : TypeInfo) (z : Value) (bytes : Nat) (ht : P.underlying t = some (.slice e)) (hi : P.info? e = some i) (hz : i.zero = some z)
    (hsize : i.size = k) (hby : i.bytes = bytes) (hzs : z.cells.size = k)
    (v : Value) (n : Nat) (xs : List Value) (hs : a.eval s = v) (hown : w.ownsRow base e k v n xs)
    (A : Option Addr) (m c : Nat) (news : List Value) (hx : a.eval x = .slice A m c) (hr : Rd w A (m * k) news) (h1 : ∀ u ∈ news, u.oneCell' = true)
    (h63 : n + m ≤ maxLen) (hbytes : (n + m) * bytes ≤ 140737488355328) (hbase : base ≤ w.heap.size)
    (h : ∀ A' c' w', w'.ownsRow base e k (.slice A' (n + m) c') (n + m) (xs ++ news) → Fr (fun q => v.ownBlock = some q) w w' → (∀ q, (Value.slice A' (n + m) c').ownBlock = some q → v.ownBlock = some q ∨ w.heap.size ≤ q) → K (a.put o.dst (.slice A' (n + m) c')) w') :
    if Region.wanted o (yielded ops a.tmps) = true then Oper.wp P o a w K Q else E := by
  have hw : Region.wanted o (yielded ops a.tmps) = true := by simp [Region.wanted, hgd]
  rw [if_pos hw]
  obtain ⟨v', w', hrun, h2, h3, h4⟩ := run_appk (P := P) k hk w base t o.type e i z bytes ht hi hz hsize hby hzs v n xs hown A m c news hr h1 h63 hbytes hbase
  unfold Oper.wp execOp
  simp only [ho, resolve, invoke, builtin, Sem.run_bind, Sem.run_pure, Result.andThen_ok, List.map_toArray, List.map_cons, List.map_nil, hs, hx, hrun]
  obtain ⟨A', c', rfl⟩ := own_form h2
  exact h A' c' w' h2 h3 h4


/-- Pairs of 64-bit numbers as cells. -/
def cs2 (l : List (Int × Int)) : List Value := l.flatMap fun s => [.int .i64 s.1, .int .i64 s.2]
theorem cs2_nil : cs2 [] = [] := rfl
theorem cs2_cons (s : Int × Int) (l : List (Int × Int)) : cs2 (s :: l) = .int .i64 s.1 :: .int .i64 s.2 :: cs2 l := rfl
theorem cs2_append (a b : List (Int × Int)) : cs2 (a ++ b) = cs2 a ++ cs2 b := by simp [cs2]
theorem cs2_len (l : List (Int × Int)) : (cs2 l).length = l.length * 2 := by
  induction l with
  | nil => rfl
  | cons s l ih => rw [cs2_cons]; simp [ih]; omega
theorem cs2_one {l : List (Int × Int)} : ∀ u ∈ cs2 l, u.oneCell' = true := by
  intro u hu
  obtain ⟨s, _, h⟩ := List.mem_flatMap.1 hu
  simp at h
  rcases h with rfl | rfl <;> rfl
theorem cs2_get0 {l : List (Int × Int)} {i : Nat} {s : Int × Int} (h : l[i]? = some s) : (cs2 l)[i * 2]? = some (.int .i64 s.1) ∧ (cs2 l)[i * 2 + 1]? = some (.int .i64 s.2) := by
  induction l generalizing i with
  | nil => simp at h
  | cons t l ih =>
    cases i with
    | zero => simp at h; subst h; simp [cs2_cons]
    | succ i =>
      have := ih (by simpa using h)
      rw [cs2_cons]
      rw [show (i + 1) * 2 = i * 2 + 1 + 1 by omega]
      simpa using this
theorem cs2_take (l : List (Int × Int)) (k : Nat) : (cs2 l).take (k * 2) = cs2 (l.take k) := by
  induction l generalizing k with
  | nil => simp [cs2_nil]
  | cons s l ih =>
    cases k with
    | zero => simp [cs2_nil]
    | succ k => rw [show (k + 1) * 2 = k * 2 + 1 + 1 by omega, cs2_cons, List.take_succ_cons, List.take_succ_cons, ih, List.take_succ_cons, cs2_cons]
theorem cs2_drop (l : List (Int × Int)) (k : Nat) : (cs2 l).drop (k * 2) = cs2 (l.drop k) := by
  induction l generalizing k with
  | nil => simp [cs2_nil]
  | cons s l ih =>
    cases k with
    | zero => simp
    | succ k => rw [show (k + 1) * 2 = k * 2 + 1 + 1 by omega, cs2_cons, List.drop_succ_cons, List.drop_succ_cons, ih, List.drop_succ_cons]
/-- The slice at A of n pairs reads as l. -/
def RdS (w : World) (A : Option Addr) (n : Nat) (l : List (Int × Int)) : Prop := l.length = n ∧ Rd w A (n * 2) (cs2 l)
theorem RdS.nil (w : World) (A : Option Addr) : RdS w A 0 [] := ⟨rfl, Rd.nil w A⟩
theorem RdS.fr {w w' : World} {A : Option Addr} {n : Nat} {l : List (Int × Int)} (h : RdS w A n l) (hf : Fr No w w') : RdS w' A n l := ⟨h.1, h.2.fr hf (fun _ _ _ h => h)⟩
theorem RdS.at_ {w : World} {A : Option Addr} {n : Nat} {l : List (Int × Int)} (h : RdS w A n l) (hn : 0 < n) : ∃ g o, A = some ⟨g, o, none⟩ ∧ g < w.heap.size ∧ ∀ i s, l[i]? = some s → w.cell? ⟨g, o + i * 2, none⟩ = some (.int .i64 s.1) ∧ w.cell? ⟨g, o + i * 2 + 1, none⟩ = some (.int .i64 s.2) := by
  obtain ⟨g, o, rfl, hg, hc⟩ := h.2.2 (by omega)
  refine ⟨g, o, rfl, hg, fun i s hs => ?_⟩
  obtain ⟨h0, h1⟩ := cs2_get0 hs
  exact ⟨hc _ _ h0, by rw [Nat.add_assoc]; exact hc _ _ h1⟩
end Go.Proofs.Ytoboialfaifbgaa.MSepC
