/- A map that the call owns, with whole numbers for keys, told as a function: what lies at a key, of whatever type its elements are. Of whatever program: nothing here speaks of one program's functions. -/
import Derived.Test.YtoboialfaifbgaaChecked
import Derived.Test.YtoboialfaifbgaaSep
import Derived.Maps.OwnIn
import Derived.Maps.OwnSet
import Derived.Maps.Views
import Derived.Sort.KeysCollected
import Derived.Lib.SlKeysI
namespace Go.Proofs.Ytoboialfaifbgaa.RmA
open Go.RowKit MSep

/-- An element reads as itself. -/
def rawR : Value → Option (DataW Value × List MemPlace) := fun v => some (.held v, [])
abbrev kz (z : Int) : Lit := .int .i64 z
theorem kz_lit (z : Int) : WideAt.IsKeyLit (kz z) := trivial
theorem kz_ne {a b : Int} (h : a ≠ b) : kz a ≠ kz b := fun e => h (by injection e)
theorem keyed : Maps.Keyed Try.prog 3 := Maps.int_keyed Try.underlying3
theorem key_of {z : Int} (hw : (Lit.int .i64 z).wf = true) : keyOf Try.prog 3 (.int .i64 z) = some (kz z) := Maps.keyOf_int_mk Try.underlying3 hw
/-- Block b is a map, in which at z lies what f says. -/
def RM (w : World) (b : Nat) (f : Int → Option Value) : Prop := ∃ D : DataW Value, w.ownsMap Try.prog 3 rawR b (Maps.size D) D ∧ (∀ z v0, D.atKey (kz z) (.held v0) = .held ((f z).getD v0)) ∧ (∀ z, Maps.has D (kz z) = (f z).isSome)
def put (f : Int → Option Value) (z : Int) (v : Value) : Int → Option Value := fun y => if y = z then some v else f y
def del (f : Int → Option Value) (z : Int) : Int → Option Value := fun y => if y = z then none else f y
/-- All keys are among these, fewer than a slice has room for. -/
def Few (f : Int → Option Value) : Prop := ∃ Ks : List Int, Ks.length < maxLen ∧ ∀ z, (f z).isSome = true → z ∈ Ks
theorem own_size {w : World} {b n : Nat} {D : DataW Value} (h : w.ownsMap Try.prog 3 rawR b n D) : w.ownsMap Try.prog 3 rawR b (Maps.size D) D := by
  obtain ⟨es, clock, hb, F, hs, rfl⟩ := h
  exact ⟨es, clock, hb, F, by simp [Maps.size, length_sorted], rfl⟩
theorem nodup_sub : ∀ {l m : List Int}, l.Nodup → (∀ x ∈ l, x ∈ m) → l.length ≤ m.length
  | [], _, _, _ => by simp
  | a :: l, m, hn, hs => by
    have h1 := List.nodup_cons.1 hn
    have ha := hs a (by simp)
    have := nodup_sub (l := l) (m := m.erase a) h1.2 (fun x hx => by
      have hx' := hs x (by simp [hx])
      exact (List.mem_erase_of_ne (fun e => h1.1 (by rw [← e]; exact hx))).2 hx')
    have e := List.length_erase_of_mem ha
    have hpos : 0 < m.length := List.length_pos_of_mem ha
    simp only [List.length_cons]
    omega
/-- The keys, each once. -/
theorem RM.keys {w : World} {b : Nat} {D : DataW Value} (hown : w.ownsMap Try.prog 3 rawR b (Maps.size D) D) : ∃ L : List Int, L.Nodup ∧ L.length = Maps.size D ∧ ∀ z, z ∈ L ↔ Maps.has D (kz z) = true := by
  obtain ⟨es, hD, hpw, _⟩ := hown.entries keyed
  obtain ⟨es', hD', hko⟩ := hown.keysOf
  obtain rfl : es = es' := by rw [hD] at hD'; simpa using hD'
  subst hD
  have hk : ∀ p ∈ es, ∃ x, p.1 = .int .i64 x := fun p hp => by
    obtain ⟨v, hv⟩ := hko p hp
    obtain ⟨x, _, hx, _⟩ := Maps.keyOf_i64 Try.underlying3 hv
    exact ⟨x, hx⟩
  refine ⟨es.map fun p => Go.intOf p.1, ?_, by simp [Maps.size_eq], fun z => ?_⟩
  · refine List.pairwise_map.2 (hpw.imp_of_mem fun {p q} hp' hq' hne e => hne ?_)
    obtain ⟨a, ha⟩ := hk p hp'
    obtain ⟨c, hc⟩ := hk q hq'
    rw [ha, hc] at e ⊢
    exact congrArg _ e
  · rw [Maps.has_eq, List.any_eq_true, List.mem_map]
    constructor
    · rintro ⟨p, hp', rfl⟩
      obtain ⟨a, ha⟩ := hk p hp'
      exact ⟨p, hp', by rw [ha]; simp [Lit.sameKey, Go.intOf]⟩
    · rintro ⟨p, hp', hs⟩
      obtain ⟨a, ha⟩ := hk p hp'
      rw [ha] at hs
      exact ⟨p, hp', by rw [ha]; simpa [Lit.sameKey, Go.intOf] using hs⟩
section
variable {w w' : World} {b : Nat} {f : Int → Option Value}
theorem RM.made (w : World) : RM (w.alloc (.map #[] 0)) w.heap.size (fun _ => none) := ⟨.map [], World.ownsMap_made w _ _ _, fun _ _ => rfl, fun _ => rfl⟩
theorem RM.lt (h : RM w b f) : b < w.heap.size := by
  obtain ⟨D, h1, _⟩ := h
  exact h1.lt
theorem RM.fr {S : Nat → Prop} (h : RM w b f) (k : Fr S w w') (hb : ¬ S b) : RM w' b f := by
  obtain ⟨D, ⟨es, clock, hb1, r⟩, h2⟩ := h
  exact ⟨D, ⟨es, clock, (k.block b (Array.getElem?_eq_some_iff.1 hb1).1 hb).trans hb1, r⟩, h2⟩
theorem RM.drewN (h : RM w b f) (n : Nat) : RM (w.drewN n) b f := h
theorem RM.ne_ {g : Nat} {t : TypeId} {cs : Array Value} (h : RM w b f) (hg : Blk w g t cs) : b ≠ g := by
  rintro rfl
  obtain ⟨D, ⟨es, clock, hb, _⟩, _⟩ := h
  unfold Blk at hg
  rw [hb] at hg
  injection hg with hg
  cases hg
theorem RM.look {t e : TypeId} (h : RM w b f) (ht : Try.prog.underlying t = some (.map 3 e)) {zv : Value} (hz : (zeroValue e).run Try.prog w = .ok zv w) {z : Int} (hw : (Lit.int .i64 z).wf = true) :
    (Instr.lookup t (.map (some b)) (.int .i64 z) false).run Try.prog w = .ok ((f z).getD zv) w := by
  obtain ⟨D, hown, hat, _⟩ := h
  obtain ⟨v, ps, hrun, hv⟩ := hown.lookup keyed ht hz (show rawR zv = some (.held zv, []) from rfl) (key_of hw)
  rw [hat] at hv
  simp only [rawR, Option.some.injEq, Prod.mk.injEq, DataW.held.injEq] at hv
  rw [← hv.1]
  exact hrun
theorem RM.look_ok {t e : TypeId} (h : RM w b f) (ht : Try.prog.underlying t = some (.map 3 e)) {zv : Value} (hz : (zeroValue e).run Try.prog w = .ok zv w) {z : Int} (hw : (Lit.int .i64 z).wf = true) :
    (Instr.lookup t (.map (some b)) (.int .i64 z) true).run Try.prog w = .ok (.tuple #[(f z).getD zv, .bool (f z).isSome]) w := by
  obtain ⟨D, hown, hat, hhas⟩ := h
  obtain ⟨v, ps, hrun, hv⟩ := hown.look_ok keyed ht hz (show rawR zv = some (.held zv, []) from rfl) (key_of hw)
  rw [hat] at hv
  simp only [rawR, Option.some.injEq, Prod.mk.injEq, DataW.held.injEq] at hv
  rw [← hv.1, ← hhas]
  exact hrun
theorem fr_turned (h : w.mapTurned w' b) : Fr (fun q => q = b) w w' := Fr.grown (Fr.refl _ w) h.grown (fun k hk _ => by injection hk with hk; exact hk.symm)
theorem RM.room {D : DataW Value} (hown : w.ownsMap Try.prog 3 rawR b (Maps.size D) D) (hhas : ∀ z, Maps.has D (kz z) = (f z).isSome) (hf : Few f) : Maps.size D < maxLen := by
  obtain ⟨Ks, h1, h2⟩ := hf
  obtain ⟨L, h3, h4, h5⟩ := RM.keys hown
  have := nodup_sub h3 (fun x hx => h2 x (by rw [← hhas]; exact (h5 x).1 hx))
  omega
theorem RM.upd {t e : TypeId} (h : RM w b f) (ht : Try.prog.underlying t = some (.map 3 e)) (hf : Few f) {z : Int} (hw : (Lit.int .i64 z).wf = true) (v : Value) :
    ∃ w', (Instr.mapUpdate t (.map (some b)) (.int .i64 z) v).run Try.prog w = .ok () w' ∧ RM w' b (put f z v) ∧ Fr (fun q => q = b) w w' := by
  obtain ⟨D, hown, hat, hhas⟩ := h
  have hti := hown.tidy keyed
  obtain ⟨w', hrun, hown', htu⟩ := hown.store keyed ht (RM.room hown hhas hf) (key_of hw) (show rawR v = some (.held v, []) from rfl)
  refine ⟨w', hrun, ⟨_, own_size hown', fun y v0 => ?_, fun y => ?_⟩, fr_turned htu⟩
  · unfold put
    by_cases e : y = z
    · subst e
      rw [Maps.atKey_put_same hti.isMap (kz_lit _), if_pos rfl]; rfl
    · rw [Maps.atKey_put_other (kz_ne e), if_neg e]; exact hat y v0
  · unfold put
    by_cases e : y = z
    · subst e
      rw [Maps.has_put_same hti.isMap (kz_lit _), if_pos rfl]; rfl
    · rw [Maps.has_put_other (kz_ne e), if_neg e]; exact hhas y
theorem RM.drop {t e : TypeId} (h : RM w b f) (ht : Try.prog.underlying t = some (.map 3 e)) {z : Int} (hw : (Lit.int .i64 z).wf = true) (ty : TypeId) :
    ∃ w', (Builtin.delete_ #[t, 3] ty #[.map (some b), .int .i64 z]).run Try.prog w = .ok (.tuple #[]) w' ∧ RM w' b (del f z) ∧ Fr (fun q => q = b) w w' := by
  obtain ⟨D, hown, hat, hhas⟩ := h
  obtain ⟨w', hrun, hown', htu⟩ := hown.drop keyed ht (key_of hw) ty
  refine ⟨w', hrun, ⟨_, own_size hown', fun y v0 => ?_, fun y => ?_⟩, fr_turned htu⟩
  · unfold del
    by_cases e : y = z
    · subst e
      rw [Maps.atKey_del_same, if_pos rfl]; rfl
    · rw [Maps.atKey_del_other (kz_ne e), if_neg e]; exact hat y v0
  · unfold del
    by_cases e : y = z
    · subst e
      rw [Maps.has_del_same, if_pos rfl]; rfl
    · rw [Maps.has_del_other (kz_ne e), if_neg e]; exact hhas y
/-- As many keys as there are. -/
theorem RM.len {t e : TypeId} (h : RM w b f) (ht : Try.prog.underlying t = some (.map 3 e)) (ty : TypeId) :
    ∃ N : Nat, (Builtin.len_ #[t] ty #[.map (some b)]).run Try.prog w = .ok (.int .i64 N) w ∧ ∀ Ks : List Int, Ks.Nodup → (∀ z, z ∈ Ks ↔ (f z).isSome = true) → N = Ks.length := by
  obtain ⟨D, hown, hat, hhas⟩ := h
  obtain ⟨L, h3, h4, h5⟩ := RM.keys hown
  refine ⟨_, hown.len ht ty, fun Ks hn hk => ?_⟩
  have h6 := nodup_sub h3 (fun x hx => (hk x).2 (by rw [← hhas]; exact (h5 x).1 hx))
  have h7 := nodup_sub hn (fun x hx => (h5 x).2 (by rw [hhas]; exact (hk x).1 hx))
  omega
end
section
variable {ops : Array Oper} {rest : List Oper} {o : Oper} {a : Act} {w : World} {Q : Exit → Act → World → Prop} {b : Nat} {f : Int → Option Value}
/-- At the operation 'm[k] = v'. -/
theorem wp_upd (hg : o.guard = none) (m x v : Operand) (t e : TypeId) (hop : o.op = Op.mapUpdate t m x v) (ht : Try.prog.underlying t = some (.map 3 e)) (hm : a.eval m = .map (some b)) (h : RM w b f) (hf : Few f) (z : Int) (hx : a.eval x = .int .i64 z) (hw : (Lit.int .i64 z).wf = true) (u : Value) (hv : a.eval v = u)
    (hK : ∀ w', RM w' b (put f z u) → Fr (fun q => q = b) w w' → wpList Try.prog ops Q rest (a.put o.dst undef) w') : wpList Try.prog ops Q (o :: rest) a w := by
  refine wpList_plain hg fun K' hK' => ?_
  obtain ⟨w', hrun, r1, r2⟩ := h.upd ht hf hw u
  unfold Oper.wp
  simp [execOp, hop, hm, hx, hv, hrun, Result.andThen]
  exact hK' _ _ (hK w' r1 r2)
theorem step_upd {K : Act → World → Prop} {E : Prop} (hg : o.guard = none) (m x v : Operand) (t e : TypeId) (hop : o.op = Op.mapUpdate t m x v) (ht : Try.prog.underlying t = some (.map 3 e)) (hm : a.eval m = .map (some b)) (h : RM w b f) (hf : Few f) (z : Int) (hx : a.eval x = .int .i64 z) (hw : (Lit.int .i64 z).wf = true) (u : Value) (hv : a.eval v = u)
    (hK : ∀ w', RM w' b (put f z u) → Fr (fun q => q = b) w w' → K (a.put o.dst undef) w') : if Region.wanted o (yielded ops a.tmps) = true then Oper.wp Try.prog o a w K Q else E := by
  have hwt : Region.wanted o (yielded ops a.tmps) = true := by simp [Region.wanted, hg]
  rw [if_pos hwt]
  obtain ⟨w', hrun, r1, r2⟩ := h.upd ht hf hw u
  unfold Oper.wp
  simp [execOp, hop, hm, hx, hv, hrun, Result.andThen]
  exact hK w' r1 r2
theorem wp_del (hg : o.guard = none) (m x : Operand) (t e : TypeId) (hop : o.op = Op.call { callee := Callee.builtin Builtin.delete, args := #[m, x], argTypes := #[t, 3] }) (ht : Try.prog.underlying t = some (.map 3 e)) (hm : a.eval m = .map (some b)) (h : RM w b f) (z : Int) (hx : a.eval x = .int .i64 z) (hw : (Lit.int .i64 z).wf = true)
    (hK : ∀ w', RM w' b (del f z) → Fr (fun q => q = b) w w' → wpList Try.prog ops Q rest (a.put o.dst (.tuple #[])) w') : wpList Try.prog ops Q (o :: rest) a w := by
  refine wpList_plain hg fun K' hK' => ?_
  obtain ⟨w', hrun, r1, r2⟩ := h.drop ht hw o.type
  unfold Oper.wp
  simp [execOp, hop, resolve, invoke, builtin, hm, hx, hrun, Result.andThen]
  exact hK' _ _ (hK w' r1 r2)
theorem wp_len (hg : o.guard = none) (m : Operand) (t e : TypeId) (hop : o.op = Op.call { callee := Callee.builtin Builtin.len, args := #[m], argTypes := #[t] }) (ht : Try.prog.underlying t = some (.map 3 e)) (hm : a.eval m = .map (some b)) (h : RM w b f)
    (hK : ∀ N : Nat, (∀ Ks : List Int, Ks.Nodup → (∀ z, z ∈ Ks ↔ (f z).isSome = true) → N = Ks.length) → wpList Try.prog ops Q rest (a.put o.dst (.int .i64 N)) w) : wpList Try.prog ops Q (o :: rest) a w := by
  refine wpList_plain hg fun K' hK' => ?_
  obtain ⟨N, hrun, hN⟩ := h.len ht o.type
  unfold Oper.wp
  simp [execOp, hop, resolve, invoke, builtin, hm, hrun, Result.andThen]
  exact hK' _ _ (hK N hN)
end
end Go.Proofs.Ytoboialfaifbgaa.RmA
