/- Rows of whole numbers of the call's own; slices of whole numbers that came in. Condition: no more than some millions of them. -/
import Derived.Test.YtoboialfaifbgaaGeD
import Derived.Test.YtoboialfaifbgaaSepC
import Derived.Test.YtoboialfaifbgaaPlM
namespace Go.Proofs.Ytoboialfaifbgaa.PlA
open Go.RowKit MSep MSepC MGeM GeA PlM

def en (x : Int) : Value := .int .i64 x
theorem own_ge {B : Nat} {w : World} {e : TypeId} {n m : Nat} {v : Value} {xs : List Value} (h : w.ownsRow B e n v m xs) (k : Nat) (hk : v.ownBlock = some k) : B ≤ k ∧ k < w.heap.size := by
  rcases h.2 with ⟨rfl, _⟩ | ⟨g, cap, cur, rfl, hb, hh, _⟩
  · simp [Value.ownBlock] at hk
  · simp [Value.ownBlock] at hk
    subst hk
    exact ⟨hb, (Array.getElem?_eq_some_iff.1 hh).1⟩
theorem own_blk {B : Nat} {w : World} {e : TypeId} {n m : Nat} {v : Value} {xs : List Value} (h : w.ownsRow B e n v m xs) (k : Nat) (hk : v.ownBlock = some k) : B ≤ k ∧ ∃ cs, Blk w k e cs := by
  rcases h.2 with ⟨rfl, _⟩ | ⟨g, cap, cur, rfl, hb, hh, _⟩
  · simp [Value.ownBlock] at hk
  · simp [Value.ownBlock] at hk
    subst hk
    exact ⟨hb, cur, hh⟩
theorem own_rdk {B : Nat} {w : World} {e : TypeId} {k : Nat} {A : Option Addr} {n c : Nat} {xs : List Value} (h : w.ownsRow B e k (.slice A n c) n xs) : Rd w A (n * k) xs := by
  refine ⟨by simpa using h.1, fun hn => ?_⟩
  rcases h.2 with ⟨_, h0⟩ | ⟨g, cap, cur, hv, hb, hg, hnc, hcm, hcs, htake⟩
  · subst h0
    simp at hn
  · injection hv with h1 h2 h3
    subst h1
    refine ⟨g, 0, rfl, (Array.getElem?_eq_some_iff.1 hg).1, fun j u hu => ?_⟩
    rw [Nat.zero_add, cell_of_row w g j cur e (0, 0) hg]
    rw [← htake, List.getElem?_take] at hu
    split at hu
    · simpa using hu
    · cases hu
theorem own_lim {B : Nat} {w : World} {e : TypeId} {k : Nat} {A : Option Addr} {n c : Nat} {xs : List Value} (h : w.ownsRow B e k (.slice A n c) n xs) : n ≤ c ∧ c ≤ maxLen := by
  rcases h.2 with ⟨hv, h0⟩ | ⟨g, cap, cur, hv, hb, hg, hnc, hcm, hcs, htake⟩
  · injection hv with h1 h2 h3
    subst h3
    exact ⟨by omega, by simp [maxLen]⟩
  · injection hv with h1 h2 h3
    subst h3
    exact ⟨hnc, hcm⟩
/-- A row of numbers of the call's own. -/
def OutI (B : Nat) (w : World) (v : Value) (l : List Int) : Prop := w.ownsRow B 3 1 v l.length (l.map en)
theorem info3a : (Try.prog.info? 3).map (fun i => (i.zero, i.size, i.bytes)) = some (some (.int .i64 0), 1, 8) := by kernel_rfl
theorem info3 : ∃ i z, Try.prog.info? 3 = some i ∧ i.zero = some z ∧ i.size = 1 ∧ i.bytes = 8 ∧ z.cells.size = 1 := by
  have h := info3a
  cases hi : Try.prog.info? 3 with
  | none => rw [hi] at h; cases h
  | some i =>
    rw [hi] at h
    simp only [Option.map_some, Option.some.injEq, Prod.mk.injEq] at h
    exact ⟨i, _, rfl, h.1, h.2.1, h.2.2, rfl⟩
theorem en_one {l : List Int} : ∀ u ∈ l.map en, u.oneCell' = true := by
  intro u hu
  obtain ⟨x, _, rfl⟩ := List.mem_map.1 hu
  rfl
/-- The slice at A of l numbers reads as xs. -/
def RdI (w : World) (A : Option Addr) (l : Nat) (xs : List Int) : Prop := xs.length = l ∧ Rd w A l (xs.map en)
theorem RdI.fr {w w' : World} {A : Option Addr} {l : Nat} {xs : List Int} (h : RdI w A l xs) (f : Fr No w w') : RdI w' A l xs := ⟨h.1, h.2.fr f (fun _ _ _ h => h)⟩
theorem RdI.frS {S : Nat → Prop} {w w' : World} {A : Option Addr} {l : Nat} {xs : List Int} (h : RdI w A l xs) (f : Fr S w w') (hn : ∀ g o, A = some ⟨g, o, none⟩ → ¬ S g) : RdI w' A l xs := ⟨h.1, h.2.fr f hn⟩
theorem RdI.at_ {w : World} {A : Option Addr} {l : Nat} {xs : List Int} (h : RdI w A l xs) (hl : 0 < l) : ∃ g o, A = some ⟨g, o, none⟩ ∧ g < w.heap.size ∧ ∀ j x, xs[j]? = some x → w.cell? ⟨g, o + j, none⟩ = some (.int .i64 x) := by
  obtain ⟨g, o, e, hg, hc⟩ := h.2.2 hl
  exact ⟨g, o, e, hg, fun j x hx => hc j _ (by rw [List.getElem?_map, hx]; rfl)⟩
theorem OutI.rd {B : Nat} {w : World} {A : Option Addr} {n c : Nat} {l : List Int} (hn : n = l.length) (h : OutI B w (.slice A n c) l) : RdI w A n l := by
  subst hn
  have := own_rdk h
  rw [Nat.mul_one] at this
  exact ⟨rfl, this⟩
theorem OutI.fr {B : Nat} {w w' : World} {v : Value} {l : List Int} {S : Nat → Prop} (h : OutI B w v l) (hf : Fr S w w') (hn : ∀ k, v.ownBlock = some k → ¬ S k) : OutI B w' v l := own_fr h hf hn
theorem OutI.fr0 {B : Nat} {w w' : World} {v : Value} {l : List Int} (h : OutI B w v l) (hf : Fr No w w') : OutI B w' v l := own_fr h hf (fun _ _ h => h)
theorem OutI.form {B : Nat} {w : World} {v : Value} {l : List Int} (h : OutI B w v l) : ∃ A c, v = .slice A l.length c := own_form h
theorem own_none (B : Nat) (w : World) : OutI B w (.slice none 0 0) [] := World.ownsRow_nil w B 3 1
theorem own_lit (w : World) : OutI w.heap.size (w.alloc (.cells #[] 3)) (.slice (some ⟨w.heap.size, 0, none⟩) 0 0) [] := World.ownsRow_lit (base := w.heap.size) (e := 3) (size := 1) w #[] 0 (Nat.le_refl _) (by simp [maxLen]) rfl
theorem lit_i (w : World) (x : Int) : RdI (w.alloc (.cells #[.int .i64 x] 3)) (some ⟨w.heap.size, 0, none⟩) 1 [x] := ⟨rfl, Rd.lit w [.int .i64 x] 3⟩
theorem run_app_i {w : World} {ty : TypeId} (B : Nat) (v : Value) (l : List Int) (hown : OutI B w v l) (A : Option Addr) (m c : Nat) (news : List Int) (hr : RdI w A m news) (hlim : l.length + m ≤ 17592186044416) (hbase : B ≤ w.heap.size) :
    ∃ A' c' w', (Builtin.append_ #[47, 47] ty #[v, .slice A m c]).run Try.prog w = .ok (.slice A' (l.length + m) c') w' ∧ OutI B w' (.slice A' (l.length + m) c') (l ++ news) ∧ Fr (fun q => v.ownBlock = some q) w w' := by
  obtain ⟨i0, z0, hi, hz0, hz1, hz2, hz3⟩ := info3
  obtain ⟨v', w', hrun, h2, h3, _⟩ := run_app (P := Try.prog) w B 47 ty 3 i0 z0 8 Try.underlying47 hi hz0 hz1 hz2 hz3 v l.length (l.map en) hown A m c (news.map en) hr.2 en_one (by simp only [maxLen]; omega) (by omega) hbase
  obtain ⟨A', c', rfl⟩ := own_form h2
  refine ⟨A', c', w', hrun, ?_, h3⟩
  have e : (l ++ news).length = l.length + m := by rw [List.length_append, hr.1]
  unfold OutI
  rw [List.map_append, e]
  exact h2
/-- 'v = append(v, x...)', v a row of the call's own. -/
theorem app_i {w : World} {ops : Array Oper} {rest : List Oper} {o : Oper} {a : Act} {Q : Exit → Act → World → Prop} (hgd : o.guard = none) (s x : Operand)
    (ho : o.op = .call { callee := .builtin .append, args := #[s, x], argTypes := #[47, 47] })
    (B : Nat) (v : Value) (l : List Int) (hs : a.eval s = v) (hown : OutI B w v l)
    (A : Option Addr) (m c : Nat) (news : List Int) (hx : a.eval x = .slice A m c) (hr : RdI w A m news)
    (hlim : l.length + m ≤ 17592186044416) (hbase : B ≤ w.heap.size)
    (h : ∀ A' c' w', OutI B w' (.slice A' (l.length + m) c') (l ++ news) → Fr (fun q => v.ownBlock = some q) w w' → wpList Try.prog ops Q rest (a.put o.dst (.slice A' (l.length + m) c')) w') :
    wpList Try.prog ops Q (o :: rest) a w := by
  refine wpList_plain hgd fun K hK => ?_
  obtain ⟨A', c', w', hrun, h2, h3⟩ := run_app_i (ty := o.type) B v l hown A m c news hr hlim hbase
  unfold Oper.wp execOp
  simp only [ho, resolve, invoke, builtin, Sem.run_bind, Sem.run_pure, Result.andThen_ok, List.map_toArray, List.map_cons, List.map_nil, hs, hx, hrun]
  exact hK _ _ (h A' c' w' h2 h3)
theorem app_i_step {w : World} {ops : Array Oper} {o : Oper} {a : Act} {K : Act → World → Prop} {Q : Exit → Act → World → Prop} {E : Prop} (hgd : o.guard = none) (s x : Operand)
    (ho : o.op = .call { callee := .builtin .append, args := #[s, x], argTypes := #[47, 47] })
    (B : Nat) (v : Value) (l : List Int) (hs : a.eval s = v) (hown : OutI B w v l)
    (A : Option Addr) (m c : Nat) (news : List Int) (hx : a.eval x = .slice A m c) (hr : RdI w A m news)
    (hlim : l.length + m ≤ 17592186044416) (hbase : B ≤ w.heap.size)
    (h : ∀ A' c' w', OutI B w' (.slice A' (l.length + m) c') (l ++ news) → Fr (fun q => v.ownBlock = some q) w w' → K (a.put o.dst (.slice A' (l.length + m) c')) w') :
    if Region.wanted o (yielded ops a.tmps) = true then Oper.wp Try.prog o a w K Q else E := by
  have hw : Region.wanted o (yielded ops a.tmps) = true := by simp [Region.wanted, hgd]
  rw [if_pos hw]
  obtain ⟨A', c', w', hrun, h2, h3⟩ := run_app_i (ty := o.type) B v l hown A m c news hr hlim hbase
  unfold Oper.wp execOp
  simp only [ho, resolve, invoke, builtin, Sem.run_bind, Sem.run_pure, Result.andThen_ok, List.map_toArray, List.map_cons, List.map_nil, hs, hx, hrun]
  exact h A' c' w' h2 h3
theorem eqnil1 (a : Option Addr) (l c : Nat) (w : World) : (binOp .eql 47 (.slice a l c) (.slice none 0 0)).run Try.prog w = .ok (.bool a.isNone) w := by
  have h := run_equal_slice_nil (P := Try.prog) w 47 _ a l c Try.underlying47
  simp [binOp, h]
theorem RdI.none {w : World} {l : Nat} {xs : List Int} (h : RdI w none l xs) : l = 0 ∧ xs = [] := by
  have h0 : l = 0 := by
    rcases Nat.eq_zero_or_pos l with h0 | h0
    · exact h0
    · obtain ⟨g, o, e, _⟩ := h.2.2 h0
      cases e
  exact ⟨h0, List.eq_nil_of_length_eq_zero (h.1.trans h0)⟩
theorem fr_ownI {B : Nat} {w0 w w' : World} {v : Value} (h : Fr No w0 w) (hge : ∀ q, v.ownBlock = some q → B ≤ q) (hB : w0.heap.size ≤ B) (f : Fr (fun q => v.ownBlock = some q) w w') : Fr No w0 w' :=
  h.step f (fun i hi he => absurd hi (by have := hge i he; omega))
theorem lit_ge (w : World) : ∀ q, (Value.slice (some ⟨w.heap.size, 0, none⟩) 0 0).ownBlock = some q → w.heap.size ≤ q := by
  intro q hq
  have : w.heap.size = q := by simpa [Value.ownBlock] using hq
  omega
end Go.Proofs.Ytoboialfaifbgaa.PlA
