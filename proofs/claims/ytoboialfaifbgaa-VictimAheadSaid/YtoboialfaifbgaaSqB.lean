/- Spans in memory, whatever calls a program has: rows of spans of the call's own, and how one goes on appending to them. Condition: no more than some millions of spans. -/
import Derived.Test.YtoboialfaifbgaaSpA
import Derived.Test.YtoboialfaifbgaaSepC
namespace Go.Proofs.Ytoboialfaifbgaa.SqB
open Go.RowKit MSep MSepC MSpM SpA

theorem blk2 (w : World) (A : Obj) (t : TypeId) (cs : Array Value) : Blk ((w.alloc A).alloc (.cells cs t)) (w.heap.size + 1) t cs := by
  have := Blk.new (w.alloc A) t cs
  simpa using this
theorem blk3 (w : World) (A B : Obj) (t : TypeId) (cs : Array Value) : Blk (((w.alloc A).alloc B).alloc (.cells cs t)) (w.heap.size + 1 + 1) t cs := by
  have := Blk.new ((w.alloc A).alloc B) t cs
  simpa using this
theorem fr1 (w : World) (A : Obj) : Fr No w (w.alloc A) := (Fr.refl No w).alloc A
theorem fr2 (w : World) (A B : Obj) : Fr No w ((w.alloc A).alloc B) := (fr1 w A).alloc B
theorem fr3 (w : World) (A B C : Obj) : Fr No w (((w.alloc A).alloc B).alloc C) := (fr2 w A B).alloc C
theorem ret_sp {x y x' y' : Int} (h1 : x = x') (h2 : y = y') : Ending.returned (.agg #[.int .i64 x, .int .i64 y]) = Ending.returned (.agg #[.int .i64 x', .int .i64 y']) := by rw [h1, h2]

theorem end_may (a n : Int) (w : World) (h : may (a, n)) : Calls Try.prog 101 #[.agg #[.int .i64 a, .int .i64 n]] w fun e w' => e = .returned (.int .i64 (a + n)) ∧ Fr No w w' := by
  have := end_ok a n w (wf_may h)
  rw [fin_may h] at this
  exact this
theorem info23a : (Try.prog.info? 68).map (fun i => (i.zero, i.size, i.bytes)) = some (some (.agg #[.int .i64 0, .int .i64 0]), 2, 16) := by kernel_rfl
theorem info23 : ∃ i z, Try.prog.info? 68 = some i ∧ i.zero = some z ∧ i.size = 2 ∧ i.bytes = 16 ∧ z.cells.size = 2 := by
  have h := info23a
  cases hi : Try.prog.info? 68 with
  | none => rw [hi] at h; cases h
  | some i =>
    rw [hi] at h
    simp only [Option.map_some, Option.some.injEq, Prod.mk.injEq] at h
    exact ⟨i, _, rfl, h.1, h.2.1, h.2.2, rfl⟩

def RetS (w w' : World) (e : Ending) (L : List Sp) : Prop := ∃ A k c, e = .returned (.slice A k c) ∧ RdS w' A k L ∧ Fr No w w'
theorem RetS.mk {w w' : World} {L : List Sp} {A : Option Addr} {k c : Nat} (h : RdS w' A k L) (f : Fr No w w') : RetS w w' (.returned (.slice A k c)) L := ⟨A, k, c, rfl, h, f⟩
def Out (B : Nat) (w : World) (v : Value) (l : List Sp) : Prop := w.ownsRow B 68 2 v l.length (cs2 l)
theorem Out.nil (B : Nat) (w : World) : Out B w (.slice none 0 0) [] := World.ownsRow_nil w B 68 2
theorem Out.ge {B : Nat} {w : World} {v : Value} {l : List Sp} (h : Out B w v l) : ∀ q, v.ownBlock = some q → B ≤ q ∧ q < w.heap.size := by
  intro q hq
  rcases h.2 with ⟨rfl, _⟩ | ⟨g, cap, cur, rfl, hb, hh, _⟩
  · simp [Value.ownBlock] at hq
  · have : g = q := by simpa [Value.ownBlock] using hq
    subst this
    exact ⟨hb, (Array.getElem?_eq_some_iff.1 hh).1⟩
theorem Out.fr {B : Nat} {w w' : World} {v : Value} {l : List Sp} (h : Out B w v l) (f : Fr No w w') : Out B w' v l := own_fr h f (fun _ _ h => h)
theorem Out.drew {B : Nat} {w : World} {v : Value} {l : List Sp} (h : Out B w v l) : Out B w.drew v l := h
theorem Out.form {B : Nat} {w : World} {v : Value} {l : List Sp} (h : Out B w v l) : ∃ A c, v = .slice A l.length c := own_form h
theorem Out.rd {B : Nat} {w : World} {A : Option Addr} {n c : Nat} {l : List Sp} (h : Out B w (.slice A n c) l) : RdS w A n l := by
  rcases h.2 with ⟨e, hn⟩ | ⟨g, cap, cur, e, hb, hh, hnc, hr⟩
  · injection e with e1 e2 e3
    subst e1 e2 e3
    have : l = [] := List.eq_nil_of_length_eq_zero hn
    subst this
    exact RdS.nil _ _
  · injection e with e1 e2 e3
    subst e1 e2 e3
    refine ⟨rfl, ⟨cs2_len l, fun _ => ⟨g, 0, rfl, (Array.getElem?_eq_some_iff.1 hh).1, fun j u hu => ?_⟩⟩⟩
    rw [Nat.zero_add, cell_of_row w g j cur 68 (0, 0) hh]
    have ht := hr.2.2
    rw [← ht, List.getElem?_take] at hu
    split at hu
    · simpa using hu
    · cases hu
theorem fr_own {B : Nat} {w0 w w' : World} {v : Value} {l : List Sp} (h : Fr No w0 w) (o : Out B w v l) (hB : w0.heap.size ≤ B) (f : Fr (fun q => v.ownBlock = some q) w w') : Fr No w0 w' :=
  h.step f (fun i hi he => absurd hi (by have := (o.ge i he).1; omega))
theorem kbo {B : Nat} {w w' : World} {v : Value} {l : List Sp} {g : Nat} {t : TypeId} {cs : Array Value} (hb : Blk w g t cs) (o : Out B w v l) (hg : g < B) (f : Fr (fun q => v.ownBlock = some q) w w') : Blk w' g t cs :=
  hb.fr f (fun he => by have := (o.ge g he).1; omega)
theorem rdo {B : Nat} {w w' : World} {v : Value} {l : List Sp} {A : Option Addr} {n : Nat} {xs : List Sp} {w0 : World} (h : RdS w0 A n xs) (hf : Fr No w0 w) (o : Out B w v l) (hB : w0.heap.size ≤ B) (f : Fr (fun q => v.ownBlock = some q) w w') : RdS w' A n xs :=
  h.fr (fr_own hf o hB f)
theorem lit_rd (w : World) (x y : Int) : RdS (w.alloc (.cells #[.int .i64 x, .int .i64 y] 68)) (some ⟨w.heap.size, 0, none⟩) 1 [(x, y)] := ⟨rfl, Rd.lit w [.int .i64 x, .int .i64 y] 68⟩

theorem app_sp {w : World} {ops : Array Oper} {rest : List Oper} {o : Oper} {a : Act} {Q : Exit → Act → World → Prop} (hgd : o.guard = none) (s x : Operand)
    (ho : o.op = .call { callee := .builtin .append, args := #[s, x], argTypes := #[64, 64] })
    (B : Nat) (v : Value) (l : List Sp) (hs : a.eval s = v) (hown : Out B w v l)
    (A : Option Addr) (m c : Nat) (news : List Sp) (hx : a.eval x = .slice A m c) (hr : RdS w A m news)
    (hlim : l.length + m ≤ 4000000000000) (hbase : B ≤ w.heap.size)
    (h : ∀ A' c' w', Out B w' (.slice A' (l.length + m) c') (l ++ news) → Fr (fun q => v.ownBlock = some q) w w' → wpList Try.prog ops Q rest (a.put o.dst (.slice A' (l.length + m) c')) w') :
    wpList Try.prog ops Q (o :: rest) a w := by
  obtain ⟨i0, z0, hi, hz0, hz1, hz2, hz3⟩ := info23
  refine wpList_appk 2 (by omega) hgd s x 64 ho B 68 i0 z0 16 Try.underlying64 hi hz0 hz1 hz2 hz3 v l.length (cs2 l) hs hown A m c (cs2 news) hx hr.2 cs2_one (by simp only [maxLen]; omega) (by omega) hbase ?_
  intro A' c' w' o1 f1 _
  refine h A' c' w' ?_ f1
  have e : (l ++ news).length = l.length + m := by rw [List.length_append, hr.1]
  unfold Out
  rw [cs2_append, e]
  exact o1
theorem app_sp_step {w : World} {ops : Array Oper} {o : Oper} {a : Act} {K : Act → World → Prop} {Q : Exit → Act → World → Prop} {E : Prop} (hgd : o.guard = none) (s x : Operand)
    (ho : o.op = .call { callee := .builtin .append, args := #[s, x], argTypes := #[64, 64] })
    (B : Nat) (v : Value) (l : List Sp) (hs : a.eval s = v) (hown : Out B w v l)
    (A : Option Addr) (m c : Nat) (news : List Sp) (hx : a.eval x = .slice A m c) (hr : RdS w A m news)
    (hlim : l.length + m ≤ 4000000000000) (hbase : B ≤ w.heap.size)
    (h : ∀ A' c' w', Out B w' (.slice A' (l.length + m) c') (l ++ news) → Fr (fun q => v.ownBlock = some q) w w' → K (a.put o.dst (.slice A' (l.length + m) c')) w') :
    if Region.wanted o (yielded ops a.tmps) = true then Oper.wp Try.prog o a w K Q else E := by
  obtain ⟨i0, z0, hi, hz0, hz1, hz2, hz3⟩ := info23
  refine step_appk 2 (by omega) hgd s x 64 ho B 68 i0 z0 16 Try.underlying64 hi hz0 hz1 hz2 hz3 v l.length (cs2 l) hs hown A m c (cs2 news) hx hr.2 cs2_one (by simp only [maxLen]; omega) (by omega) hbase ?_
  intro A' c' w' o1 f1 _
  refine h A' c' w' ?_ f1
  have e : (l ++ news).length = l.length + m := by rw [List.length_append, hr.1]
  unfold Out
  rw [cs2_append, e]
  exact o1
theorem lit_rd2 (W : World) (x y : Int) (g : Nat) (hg : g = W.heap.size) : RdS (W.alloc (.cells #[.int .i64 x, .int .i64 y] 68)) (some ⟨g, 0, none⟩) 1 [(x, y)] := by
  subst hg
  exact lit_rd W x y
theorem ko {b c : World} {B : Nat} {v : Value} {l : List Sp} (k : Fr No b c) (h : Hid (Out B b v l)) : Hid (Out B c v l) := hid (h.out.fr k)
end Go.Proofs.Ytoboialfaifbgaa.SqB
