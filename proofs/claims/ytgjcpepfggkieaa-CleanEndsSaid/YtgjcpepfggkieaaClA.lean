/- Jobs, what they want, what was done for them, and the cleaner's way, as they lie in memory. -/
import Derived.Test.YtgjcpepfggkieaaPlA
import Derived.Test.YtgjcpepfggkieaaPlB
import Derived.Test.YtgjcpepfggkieaaClM
import Derived.Deep.DeepCutAuto
namespace Go.Proofs.Ytgjcpepfggkieaa.ClA
open Go.RowKit MSep MSepC MGeM GeA GeC GeD PlM PlA PlB ClM

theorem blk_at {W : World} {t : TypeId} {cs : Array Value} {k : Nat} (h : W.heap.size = k) : Blk (W.alloc (.cells cs t)) k t cs := h ▸ Blk.new W t cs
theorem blk_up {W : World} {g : Nat} {t : TypeId} {cs : Array Value} (o : Obj) (h : Blk W g t cs) : Blk (W.alloc o) g t cs := h.alloc o
theorem RdI.len {w : World} {A : Option Addr} {l : Nat} {xs : List Int} (h : RdI w A l xs) : xs.length = l := h.1
theorem rd_none (w : World) : RdI w none 0 [] := ⟨rfl, Rd.nil w none⟩
/-- A list of numbers: how it reads, and its capacity. -/
structure InI (w : World) (A : Option Addr) (l c : Nat) (xs : List Int) : Prop where
  rd : RdI w A l xs
  lc : l ≤ c
  cm : c ≤ maxLen
theorem InI.fr {w w' : World} {A : Option Addr} {l c : Nat} {xs : List Int} (h : InI w A l c xs) (f : Fr No w w') : InI w' A l c xs := ⟨h.rd.fr f, h.lc, h.cm⟩
theorem InI.nil (w : World) : InI w none 0 0 [] := ⟨rd_none w, Nat.le_refl _, by simp [maxLen]⟩
theorem InI.len {w : World} {A : Option Addr} {l c : Nat} {xs : List Int} (h : InI w A l c xs) : xs.length = l := h.rd.1
theorem InI.lm {w : World} {A : Option Addr} {l c : Nat} {xs : List Int} (h : InI w A l c xs) : l ≤ maxLen := Nat.le_trans h.lc h.cm
/-- The first of a list that is not empty. -/
theorem InI.head {w : World} {A : Option Addr} {l c : Nat} {xs : List Int} (h : InI w A l c xs) (hx : xs ≠ []) : ∃ g o, A = some ⟨g, o, none⟩ ∧ 0 < l ∧ w.cell? ⟨g, o, none⟩ = some (.int .i64 (xs.headD 0)) := by
  obtain ⟨x, t, rfl⟩ := List.exists_cons_of_ne_nil hx
  have hl : 0 < l := by have := h.len; simp at this; omega
  obtain ⟨g, o, e, _, hc⟩ := h.rd.at_ hl
  exact ⟨g, o, e, hl, by have := hc 0 x rfl; simpa using this⟩
/-- All but the first. -/
theorem InI.tail {w : World} {A : Option Addr} {l c : Nat} {xs : List Int} (h : InI w A l c xs) (hl : 1 ≤ l) : InI w (cutA A c 1) (l - 1) (c - 1) xs.tail := by
  refine ⟨⟨by rw [List.length_tail, h.len], ?_⟩, by have := h.lc; omega, by have := h.cm; omega⟩
  have := h.rd.2.cut (k := 1) (c := c) hl h.lc
  rw [show xs.tail.map en = (xs.map en).drop 1 by cases xs <;> simp]
  exact this
theorem ne_of_len {w : World} {A : Option Addr} {l c : Nat} {xs : List Int} (h : InI w A l c xs) : (xs = [] ↔ l = 0) := by
  rw [← h.len]; exact List.length_eq_zero_iff.symm

abbrev oJ (st : Int) (z : Int) (A : Option Addr) (l c : Nat) (sp : Int) (nx : Int) : Obj := .cells #[.int .i64 st, .int .i64 z, .slice A l c, .int .i64 sp, .int .i64 nx] 58
def BJ (w : World) (g : Nat) (st : Int) (z : Int) (A : Option Addr) (l c : Nat) (sp : Int) (nx : Int) : Prop := Blk w g 58 #[.int .i64 st, .int .i64 z, .slice A l c, .int .i64 sp, .int .i64 nx]
section
variable {w w' : World} {g : Nat} {st : Int} {z : Int} {A : Option Addr} {l c : Nat} {sp : Int} {nx : Int}
theorem BJ.fr (h : BJ w g st z A l c sp nx) (f : Fr No w w') : BJ w' g st z A l c sp nx := Blk.fr h f (fun h => h)
theorem BJ.far {g' : Nat} (h : BJ w g st z A l c sp nx) (f : Fr (fun q => q = g') w w') (hn : g ≠ g') : BJ w' g st z A l c sp nx := Blk.fr h f hn
theorem BJ.up (o : Obj) (h : BJ w g st z A l c sp nx) : BJ (w.alloc o) g st z A l c sp nx := Blk.alloc h o
theorem BJ.at_ (st : Int) (z : Int) (A : Option Addr) (l c : Nat) (sp : Int) (nx : Int) (h : w.heap.size = g) : BJ (w.alloc (oJ st z A l c sp nx)) g st z A l c sp nx := blk_at h
theorem BJ.cells (h : BJ w g st z A l c sp nx) : w.cell? ⟨g, 0, none⟩ = some (.int .i64 st) ∧ w.cell? ⟨g, 1, none⟩ = some (.int .i64 z) ∧ w.cell? ⟨g, 2, none⟩ = some (.slice A l c) ∧ w.cell? ⟨g, 3, none⟩ = some (.int .i64 sp) ∧ w.cell? ⟨g, 4, none⟩ = some (.int .i64 nx) :=
  ⟨Blk.cell h 0, Blk.cell h 1, Blk.cell h 2, Blk.cell h 3, Blk.cell h 4⟩
theorem BJ.frozens (h : BJ w g st z A l c sp nx) : w.frozen? ⟨g, 0, none⟩ = false ∧ w.frozen? ⟨g, 1, none⟩ = false ∧ w.frozen? ⟨g, 2, none⟩ = false ∧ w.frozen? ⟨g, 3, none⟩ = false ∧ w.frozen? ⟨g, 4, none⟩ = false :=
  ⟨Blk.frozen h 0, Blk.frozen h 1, Blk.frozen h 2, Blk.frozen h 3, Blk.frozen h 4⟩
end
theorem infoJ : (Try.prog.info? 58).map (·.size) = some 5 := by kernel_rfl
section
variable {ops : Array Oper} {rest : List Oper} {o : Oper} {ac : Act} {w : World} {Q : Exit → Act → World → Prop}
theorem ldJ (hgd : o.guard = none) (p : Operand) (ho : o.op = .load 58 p) (g : Nat) (hx : ac.eval p = .pointer (some ⟨g, 0, none⟩)) {st : Int} {z : Int} {A : Option Addr} {l c : Nat} {sp : Int} {nx : Int} (hg : BJ w g st z A l c sp nx)
    (h : wpList Try.prog ops Q rest (ac.put o.dst (.agg #[.int .i64 st, .int .i64 z, .slice A l c, .int .i64 sp, .int .i64 nx])) w) : wpList Try.prog ops Q (o :: rest) ac w :=
  wpList_load_row hgd 58 p ho g hx 58 _ (0, 0) _ hg Try.underlying58 rfl infoJ h
theorem stJ (hgd : o.guard = none) (p y : Operand) (ho : o.op = .store 58 p y) (g : Nat) (hx : ac.eval p = .pointer (some ⟨g, 0, none⟩)) {st : Int} {z : Int} {A : Option Addr} {l c : Nat} {sp : Int} {nx : Int} {st' : Int} {z' : Int} {A' : Option Addr} {l' c' : Nat} {sp' : Int} {nx' : Int}
    (hy : ac.eval y = .agg #[.int .i64 st', .int .i64 z', .slice A' l' c', .int .i64 sp', .int .i64 nx']) (hg : BJ w g st z A l c sp nx)
    (h : ∀ W', BJ W' g st' z' A' l' c' sp' nx' → Fr (fun q => q = g) w W' → wpList Try.prog ops Q rest (ac.put o.dst undef) W') : wpList Try.prog ops Q (o :: rest) ac w :=
  wpList_store_row hgd 58 p y ho g _ hx hy 58 _ hg infoJ rfl (by simp [Value.oneCell']) (h _ (Blk.setRow hg _) (Fr.setRow (S := fun q => q = g) (Fr.refl _ _) (fun _ => rfl) _))
end
theorem resJ {fn : Func} {p : Tmp} (h : fn.results = #[.cell p 58]) (tmps : Array Value) (w : World) (g : Nat) (st : Int) (z : Int) (A : Option Addr) (l c : Nat) (sp : Int) (nx : Int) (hp : tmps.getD p undef = .pointer (some ⟨g, 0, none⟩)) (hg : BJ w g st z A l c sp nx) :
    (results fn tmps).run Try.prog w = .ok (.agg #[.int .i64 st, .int .i64 z, .slice A l c, .int .i64 sp, .int .i64 nx]) w :=
  results_cell_row h tmps w g 58 _ (0, 0) _ hp hg Try.underlying58 rfl (by kernel_rfl)
theorem resJ2 {fn : Func} {p q' : Tmp} (h : fn.results = #[.cell p 58, .tmp q']) (tmps : Array Value) (w : World) (g : Nat) (st : Int) (z : Int) (A : Option Addr) (l c : Nat) (sp : Int) (nx : Int) (e : Int) (hp : tmps.getD p undef = .pointer (some ⟨g, 0, none⟩)) (hq : tmps.getD q' undef = .int .i64 e) (hg : BJ w g st z A l c sp nx) :
    (results fn tmps).run Try.prog w = .ok (.tuple #[.agg #[.int .i64 st, .int .i64 z, .slice A l c, .int .i64 sp, .int .i64 nx], .int .i64 e]) w := by
  have hp' : tmps[p]?.getD undef = .pointer (some ⟨g, 0, none⟩) := by simpa using hp
  have hq' : tmps[q']?.getD undef = .int .i64 e := by simpa using hq
  have hl := run_loadVar_row (P := Try.prog) w g 58 58 _ (0, 0) _ hg Try.underlying58 rfl (by kernel_rfl)
  simp [results, h, hp', hq', asAddr, hl]

abbrev oT (k : Int) (b : Int) (z : Int) (a : Int) (n : Int) : Obj := .cells #[.int .i64 k, .int .i64 b, .int .i64 z, .int .i64 a, .int .i64 n] 63
def BT (w : World) (g : Nat) (k : Int) (b : Int) (z : Int) (a : Int) (n : Int) : Prop := Blk w g 63 #[.int .i64 k, .int .i64 b, .int .i64 z, .int .i64 a, .int .i64 n]
section
variable {w w' : World} {g : Nat} {k : Int} {b : Int} {z : Int} {a : Int} {n : Int}
theorem BT.fr (h : BT w g k b z a n) (f : Fr No w w') : BT w' g k b z a n := Blk.fr h f (fun h => h)
theorem BT.far {g' : Nat} (h : BT w g k b z a n) (f : Fr (fun q => q = g') w w') (hn : g ≠ g') : BT w' g k b z a n := Blk.fr h f hn
theorem BT.up (o : Obj) (h : BT w g k b z a n) : BT (w.alloc o) g k b z a n := Blk.alloc h o
theorem BT.at_ (k : Int) (b : Int) (z : Int) (a : Int) (n : Int) (h : w.heap.size = g) : BT (w.alloc (oT k b z a n)) g k b z a n := blk_at h
theorem BT.cells (h : BT w g k b z a n) : w.cell? ⟨g, 0, none⟩ = some (.int .i64 k) ∧ w.cell? ⟨g, 1, none⟩ = some (.int .i64 b) ∧ w.cell? ⟨g, 2, none⟩ = some (.int .i64 z) ∧ w.cell? ⟨g, 3, none⟩ = some (.int .i64 a) ∧ w.cell? ⟨g, 4, none⟩ = some (.int .i64 n) :=
  ⟨Blk.cell h 0, Blk.cell h 1, Blk.cell h 2, Blk.cell h 3, Blk.cell h 4⟩
theorem BT.frozens (h : BT w g k b z a n) : w.frozen? ⟨g, 0, none⟩ = false ∧ w.frozen? ⟨g, 1, none⟩ = false ∧ w.frozen? ⟨g, 2, none⟩ = false ∧ w.frozen? ⟨g, 3, none⟩ = false ∧ w.frozen? ⟨g, 4, none⟩ = false :=
  ⟨Blk.frozen h 0, Blk.frozen h 1, Blk.frozen h 2, Blk.frozen h 3, Blk.frozen h 4⟩
end
theorem infoT : (Try.prog.info? 63).map (·.size) = some 5 := by kernel_rfl
section
variable {ops : Array Oper} {rest : List Oper} {o : Oper} {ac : Act} {w : World} {Q : Exit → Act → World → Prop}
theorem ldT (hgd : o.guard = none) (p : Operand) (ho : o.op = .load 63 p) (g : Nat) (hx : ac.eval p = .pointer (some ⟨g, 0, none⟩)) {k : Int} {b : Int} {z : Int} {a : Int} {n : Int} (hg : BT w g k b z a n)
    (h : wpList Try.prog ops Q rest (ac.put o.dst (.agg #[.int .i64 k, .int .i64 b, .int .i64 z, .int .i64 a, .int .i64 n])) w) : wpList Try.prog ops Q (o :: rest) ac w :=
  wpList_load_row hgd 63 p ho g hx 63 _ (0, 0) _ hg Try.underlying63 rfl infoT h
theorem stT (hgd : o.guard = none) (p y : Operand) (ho : o.op = .store 63 p y) (g : Nat) (hx : ac.eval p = .pointer (some ⟨g, 0, none⟩)) {k : Int} {b : Int} {z : Int} {a : Int} {n : Int} {k' : Int} {b' : Int} {z' : Int} {a' : Int} {n' : Int}
    (hy : ac.eval y = .agg #[.int .i64 k', .int .i64 b', .int .i64 z', .int .i64 a', .int .i64 n']) (hg : BT w g k b z a n)
    (h : ∀ W', BT W' g k' b' z' a' n' → Fr (fun q => q = g) w W' → wpList Try.prog ops Q rest (ac.put o.dst undef) W') : wpList Try.prog ops Q (o :: rest) ac w :=
  wpList_store_row hgd 63 p y ho g _ hx hy 63 _ hg infoT rfl (by simp [Value.oneCell']) (h _ (Blk.setRow hg _) (Fr.setRow (S := fun q => q = g) (Fr.refl _ _) (fun _ => rfl) _))
end
theorem resT {fn : Func} {p : Tmp} (h : fn.results = #[.cell p 63]) (tmps : Array Value) (w : World) (g : Nat) (k : Int) (b : Int) (z : Int) (a : Int) (n : Int) (hp : tmps.getD p undef = .pointer (some ⟨g, 0, none⟩)) (hg : BT w g k b z a n) :
    (results fn tmps).run Try.prog w = .ok (.agg #[.int .i64 k, .int .i64 b, .int .i64 z, .int .i64 a, .int .i64 n]) w :=
  results_cell_row h tmps w g 63 _ (0, 0) _ hp hg Try.underlying63 rfl (by kernel_rfl)
theorem resT2 {fn : Func} {p q' : Tmp} (h : fn.results = #[.cell p 63, .tmp q']) (tmps : Array Value) (w : World) (g : Nat) (k : Int) (b : Int) (z : Int) (a : Int) (n : Int) (e : Int) (hp : tmps.getD p undef = .pointer (some ⟨g, 0, none⟩)) (hq : tmps.getD q' undef = .int .i64 e) (hg : BT w g k b z a n) :
    (results fn tmps).run Try.prog w = .ok (.tuple #[.agg #[.int .i64 k, .int .i64 b, .int .i64 z, .int .i64 a, .int .i64 n], .int .i64 e]) w := by
  have hp' : tmps[p]?.getD undef = .pointer (some ⟨g, 0, none⟩) := by simpa using hp
  have hq' : tmps[q']?.getD undef = .int .i64 e := by simpa using hq
  have hl := run_loadVar_row (P := Try.prog) w g 63 63 _ (0, 0) _ hg Try.underlying63 rfl (by kernel_rfl)
  simp [results, h, hp', hq', asAddr, hl]

abbrev oD (k : Int) (z : Int) (b : Int) (A : Option Addr) (l c : Nat) : Obj := .cells #[.int .i64 k, .int .i64 z, .int .i64 b, .slice A l c] 61
def BD (w : World) (g : Nat) (k : Int) (z : Int) (b : Int) (A : Option Addr) (l c : Nat) : Prop := Blk w g 61 #[.int .i64 k, .int .i64 z, .int .i64 b, .slice A l c]
section
variable {w w' : World} {g : Nat} {k : Int} {z : Int} {b : Int} {A : Option Addr} {l c : Nat}
theorem BD.fr (h : BD w g k z b A l c) (f : Fr No w w') : BD w' g k z b A l c := Blk.fr h f (fun h => h)
theorem BD.far {g' : Nat} (h : BD w g k z b A l c) (f : Fr (fun q => q = g') w w') (hn : g ≠ g') : BD w' g k z b A l c := Blk.fr h f hn
theorem BD.up (o : Obj) (h : BD w g k z b A l c) : BD (w.alloc o) g k z b A l c := Blk.alloc h o
theorem BD.at_ (k : Int) (z : Int) (b : Int) (A : Option Addr) (l c : Nat) (h : w.heap.size = g) : BD (w.alloc (oD k z b A l c)) g k z b A l c := blk_at h
theorem BD.cells (h : BD w g k z b A l c) : w.cell? ⟨g, 0, none⟩ = some (.int .i64 k) ∧ w.cell? ⟨g, 1, none⟩ = some (.int .i64 z) ∧ w.cell? ⟨g, 2, none⟩ = some (.int .i64 b) ∧ w.cell? ⟨g, 3, none⟩ = some (.slice A l c) :=
  ⟨Blk.cell h 0, Blk.cell h 1, Blk.cell h 2, Blk.cell h 3⟩
theorem BD.frozens (h : BD w g k z b A l c) : w.frozen? ⟨g, 0, none⟩ = false ∧ w.frozen? ⟨g, 1, none⟩ = false ∧ w.frozen? ⟨g, 2, none⟩ = false ∧ w.frozen? ⟨g, 3, none⟩ = false :=
  ⟨Blk.frozen h 0, Blk.frozen h 1, Blk.frozen h 2, Blk.frozen h 3⟩
end
theorem infoD : (Try.prog.info? 61).map (·.size) = some 4 := by kernel_rfl
section
variable {ops : Array Oper} {rest : List Oper} {o : Oper} {ac : Act} {w : World} {Q : Exit → Act → World → Prop}
theorem ldD (hgd : o.guard = none) (p : Operand) (ho : o.op = .load 61 p) (g : Nat) (hx : ac.eval p = .pointer (some ⟨g, 0, none⟩)) {k : Int} {z : Int} {b : Int} {A : Option Addr} {l c : Nat} (hg : BD w g k z b A l c)
    (h : wpList Try.prog ops Q rest (ac.put o.dst (.agg #[.int .i64 k, .int .i64 z, .int .i64 b, .slice A l c])) w) : wpList Try.prog ops Q (o :: rest) ac w :=
  wpList_load_row hgd 61 p ho g hx 61 _ (0, 0) _ hg Try.underlying61 rfl infoD h
theorem stD (hgd : o.guard = none) (p y : Operand) (ho : o.op = .store 61 p y) (g : Nat) (hx : ac.eval p = .pointer (some ⟨g, 0, none⟩)) {k : Int} {z : Int} {b : Int} {A : Option Addr} {l c : Nat} {k' : Int} {z' : Int} {b' : Int} {A' : Option Addr} {l' c' : Nat}
    (hy : ac.eval y = .agg #[.int .i64 k', .int .i64 z', .int .i64 b', .slice A' l' c']) (hg : BD w g k z b A l c)
    (h : ∀ W', BD W' g k' z' b' A' l' c' → Fr (fun q => q = g) w W' → wpList Try.prog ops Q rest (ac.put o.dst undef) W') : wpList Try.prog ops Q (o :: rest) ac w :=
  wpList_store_row hgd 61 p y ho g _ hx hy 61 _ hg infoD rfl (by simp [Value.oneCell']) (h _ (Blk.setRow hg _) (Fr.setRow (S := fun q => q = g) (Fr.refl _ _) (fun _ => rfl) _))
end
theorem resD {fn : Func} {p : Tmp} (h : fn.results = #[.cell p 61]) (tmps : Array Value) (w : World) (g : Nat) (k : Int) (z : Int) (b : Int) (A : Option Addr) (l c : Nat) (hp : tmps.getD p undef = .pointer (some ⟨g, 0, none⟩)) (hg : BD w g k z b A l c) :
    (results fn tmps).run Try.prog w = .ok (.agg #[.int .i64 k, .int .i64 z, .int .i64 b, .slice A l c]) w :=
  results_cell_row h tmps w g 61 _ (0, 0) _ hp hg Try.underlying61 rfl (by kernel_rfl)
theorem resD2 {fn : Func} {p q' : Tmp} (h : fn.results = #[.cell p 61, .tmp q']) (tmps : Array Value) (w : World) (g : Nat) (k : Int) (z : Int) (b : Int) (A : Option Addr) (l c : Nat) (e : Int) (hp : tmps.getD p undef = .pointer (some ⟨g, 0, none⟩)) (hq : tmps.getD q' undef = .int .i64 e) (hg : BD w g k z b A l c) :
    (results fn tmps).run Try.prog w = .ok (.tuple #[.agg #[.int .i64 k, .int .i64 z, .int .i64 b, .slice A l c], .int .i64 e]) w := by
  have hp' : tmps[p]?.getD undef = .pointer (some ⟨g, 0, none⟩) := by simpa using hp
  have hq' : tmps[q']?.getD undef = .int .i64 e := by simpa using hq
  have hl := run_loadVar_row (P := Try.prog) w g 61 61 _ (0, 0) _ hg Try.underlying61 rfl (by kernel_rfl)
  simp [results, h, hp', hq', asAddr, hl]

abbrev oW (gc : Int) (gs : Int) (gn : Int) (gl : Int) (gk : Int) (b : Int) (d : Int) (ch : Int) : Obj := .cells #[.int .i64 gc, .int .i64 gs, .int .i64 gn, .int .i64 gl, .int .i64 gk, .int .i64 b, .int .i64 d, .int .i64 ch] 108
def BW (w : World) (g : Nat) (gc : Int) (gs : Int) (gn : Int) (gl : Int) (gk : Int) (b : Int) (d : Int) (ch : Int) : Prop := Blk w g 108 #[.int .i64 gc, .int .i64 gs, .int .i64 gn, .int .i64 gl, .int .i64 gk, .int .i64 b, .int .i64 d, .int .i64 ch]
section
variable {w w' : World} {g : Nat} {gc : Int} {gs : Int} {gn : Int} {gl : Int} {gk : Int} {b : Int} {d : Int} {ch : Int}
theorem BW.fr (h : BW w g gc gs gn gl gk b d ch) (f : Fr No w w') : BW w' g gc gs gn gl gk b d ch := Blk.fr h f (fun h => h)
theorem BW.far {g' : Nat} (h : BW w g gc gs gn gl gk b d ch) (f : Fr (fun q => q = g') w w') (hn : g ≠ g') : BW w' g gc gs gn gl gk b d ch := Blk.fr h f hn
theorem BW.up (o : Obj) (h : BW w g gc gs gn gl gk b d ch) : BW (w.alloc o) g gc gs gn gl gk b d ch := Blk.alloc h o
theorem BW.at_ (gc : Int) (gs : Int) (gn : Int) (gl : Int) (gk : Int) (b : Int) (d : Int) (ch : Int) (h : w.heap.size = g) : BW (w.alloc (oW gc gs gn gl gk b d ch)) g gc gs gn gl gk b d ch := blk_at h
theorem BW.cells (h : BW w g gc gs gn gl gk b d ch) : w.cell? ⟨g, 0, none⟩ = some (.int .i64 gc) ∧ w.cell? ⟨g, 1, none⟩ = some (.int .i64 gs) ∧ w.cell? ⟨g, 2, none⟩ = some (.int .i64 gn) ∧ w.cell? ⟨g, 3, none⟩ = some (.int .i64 gl) ∧ w.cell? ⟨g, 4, none⟩ = some (.int .i64 gk) ∧ w.cell? ⟨g, 5, none⟩ = some (.int .i64 b) ∧ w.cell? ⟨g, 6, none⟩ = some (.int .i64 d) ∧ w.cell? ⟨g, 7, none⟩ = some (.int .i64 ch) :=
  ⟨Blk.cell h 0, Blk.cell h 1, Blk.cell h 2, Blk.cell h 3, Blk.cell h 4, Blk.cell h 5, Blk.cell h 6, Blk.cell h 7⟩
theorem BW.frozens (h : BW w g gc gs gn gl gk b d ch) : w.frozen? ⟨g, 0, none⟩ = false ∧ w.frozen? ⟨g, 1, none⟩ = false ∧ w.frozen? ⟨g, 2, none⟩ = false ∧ w.frozen? ⟨g, 3, none⟩ = false ∧ w.frozen? ⟨g, 4, none⟩ = false ∧ w.frozen? ⟨g, 5, none⟩ = false ∧ w.frozen? ⟨g, 6, none⟩ = false ∧ w.frozen? ⟨g, 7, none⟩ = false :=
  ⟨Blk.frozen h 0, Blk.frozen h 1, Blk.frozen h 2, Blk.frozen h 3, Blk.frozen h 4, Blk.frozen h 5, Blk.frozen h 6, Blk.frozen h 7⟩
end
theorem infoW : (Try.prog.info? 108).map (·.size) = some 8 := by kernel_rfl
section
variable {ops : Array Oper} {rest : List Oper} {o : Oper} {ac : Act} {w : World} {Q : Exit → Act → World → Prop}
theorem ldW (hgd : o.guard = none) (p : Operand) (ho : o.op = .load 108 p) (g : Nat) (hx : ac.eval p = .pointer (some ⟨g, 0, none⟩)) {gc : Int} {gs : Int} {gn : Int} {gl : Int} {gk : Int} {b : Int} {d : Int} {ch : Int} (hg : BW w g gc gs gn gl gk b d ch)
    (h : wpList Try.prog ops Q rest (ac.put o.dst (.agg #[.int .i64 gc, .int .i64 gs, .int .i64 gn, .int .i64 gl, .int .i64 gk, .int .i64 b, .int .i64 d, .int .i64 ch])) w) : wpList Try.prog ops Q (o :: rest) ac w :=
  wpList_load_row hgd 108 p ho g hx 108 _ (0, 0) _ hg Try.underlying108 rfl infoW h
theorem stW (hgd : o.guard = none) (p y : Operand) (ho : o.op = .store 108 p y) (g : Nat) (hx : ac.eval p = .pointer (some ⟨g, 0, none⟩)) {gc : Int} {gs : Int} {gn : Int} {gl : Int} {gk : Int} {b : Int} {d : Int} {ch : Int} {gc' : Int} {gs' : Int} {gn' : Int} {gl' : Int} {gk' : Int} {b' : Int} {d' : Int} {ch' : Int}
    (hy : ac.eval y = .agg #[.int .i64 gc', .int .i64 gs', .int .i64 gn', .int .i64 gl', .int .i64 gk', .int .i64 b', .int .i64 d', .int .i64 ch']) (hg : BW w g gc gs gn gl gk b d ch)
    (h : ∀ W', BW W' g gc' gs' gn' gl' gk' b' d' ch' → Fr (fun q => q = g) w W' → wpList Try.prog ops Q rest (ac.put o.dst undef) W') : wpList Try.prog ops Q (o :: rest) ac w :=
  wpList_store_row hgd 108 p y ho g _ hx hy 108 _ hg infoW rfl (by simp [Value.oneCell']) (h _ (Blk.setRow hg _) (Fr.setRow (S := fun q => q = g) (Fr.refl _ _) (fun _ => rfl) _))
end
theorem resW {fn : Func} {p : Tmp} (h : fn.results = #[.cell p 108]) (tmps : Array Value) (w : World) (g : Nat) (gc : Int) (gs : Int) (gn : Int) (gl : Int) (gk : Int) (b : Int) (d : Int) (ch : Int) (hp : tmps.getD p undef = .pointer (some ⟨g, 0, none⟩)) (hg : BW w g gc gs gn gl gk b d ch) :
    (results fn tmps).run Try.prog w = .ok (.agg #[.int .i64 gc, .int .i64 gs, .int .i64 gn, .int .i64 gl, .int .i64 gk, .int .i64 b, .int .i64 d, .int .i64 ch]) w :=
  results_cell_row h tmps w g 108 _ (0, 0) _ hp hg Try.underlying108 rfl (by kernel_rfl)
theorem resW2 {fn : Func} {p q' : Tmp} (h : fn.results = #[.cell p 108, .tmp q']) (tmps : Array Value) (w : World) (g : Nat) (gc : Int) (gs : Int) (gn : Int) (gl : Int) (gk : Int) (b : Int) (d : Int) (ch : Int) (e : Int) (hp : tmps.getD p undef = .pointer (some ⟨g, 0, none⟩)) (hq : tmps.getD q' undef = .int .i64 e) (hg : BW w g gc gs gn gl gk b d ch) :
    (results fn tmps).run Try.prog w = .ok (.tuple #[.agg #[.int .i64 gc, .int .i64 gs, .int .i64 gn, .int .i64 gl, .int .i64 gk, .int .i64 b, .int .i64 d, .int .i64 ch], .int .i64 e]) w := by
  have hp' : tmps[p]?.getD undef = .pointer (some ⟨g, 0, none⟩) := by simpa using hp
  have hq' : tmps[q']?.getD undef = .int .i64 e := by simpa using hq
  have hl := run_loadVar_row (P := Try.prog) w g 108 108 _ (0, 0) _ hg Try.underlying108 rfl (by kernel_rfl)
  simp [results, h, hp', hq', asAddr, hl]

end Go.Proofs.Ytgjcpepfggkieaa.ClA
