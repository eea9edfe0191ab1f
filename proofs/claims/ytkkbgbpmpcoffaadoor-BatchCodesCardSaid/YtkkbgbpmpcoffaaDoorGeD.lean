/- Contracts: where slots, records, zones and bands lie, by the program. Condition: all numbers are 64 bits. -/
import Derived.Test.YtkkbgbpmpcoffaaDoorGeC
namespace Go.Proofs.YtkkbgbpmpcoffaaDoor.GeD
open Go.RowKit MSep MGeM GeA GeB GeC

abbrev bs_ (a n : Int) : Obj := .cells #[.int .i64 a, .int .i64 n] 51
def BS (w : World) (g : Nat) (a n : Int) : Prop := Blk w g 51 #[.int .i64 a, .int .i64 n]
theorem BS.new (w : World) (a n : Int) : BS (w.alloc (bs_ a n)) w.heap.size a n := Blk.new w _ _
theorem BS.new2 (w : World) (o : Obj) (a n : Int) : BS ((w.alloc o).alloc (bs_ a n)) (w.heap.size + 1) a n := by
  have := BS.new (w.alloc o) a n
  simpa using this
theorem BS.fr {w w' : World} {g : Nat} {a n : Int} (h : BS w g a n) (f : Fr No w w') : BS w' g a n := Blk.fr h f (fun h => h)
theorem BS.cells {w : World} {g : Nat} {a n : Int} (h : BS w g a n) : w.cell? ⟨g, 0, none⟩ = some (.int .i64 a) ∧ w.cell? ⟨g, 1, none⟩ = some (.int .i64 n) := ⟨Blk.cell h 0, Blk.cell h 1⟩
theorem infoS : (Tryd.prog.info? 51).map (·.size) = some 2 := by kernel_rfl
theorem resS {fn : Func} {p : Tmp} (h : fn.results = #[.cell p 51]) (tmps : Array Value) (w : World) (g : Nat) (x y : Int) (hp : tmps.getD p undef = .pointer (some ⟨g, 0, none⟩)) (hg : BS w g x y) :
    (results fn tmps).run Tryd.prog w = .ok (.agg #[.int .i64 x, .int .i64 y]) w :=
  results_cell_row h tmps w g 51 _ (0, 0) _ hp hg Tryd.underlying51 rfl (by kernel_rfl)
abbrev bh (c s n l : Int) : Obj := .cells #[.int .i64 c, .int .i64 s, .int .i64 n, .int .i64 l] 73
def BH (w : World) (g : Nat) (c s n l : Int) : Prop := Blk w g 73 #[.int .i64 c, .int .i64 s, .int .i64 n, .int .i64 l]
theorem BH.new2 (w : World) (o : Obj) (c s n l : Int) : BH ((w.alloc o).alloc (bh c s n l)) (w.heap.size + 1) c s n l := by
  have := Blk.new (w.alloc o) 73 #[.int .i64 c, .int .i64 s, .int .i64 n, .int .i64 l]
  unfold BH
  simpa using this
theorem BH.fr {w w' : World} {g : Nat} {c s n l : Int} (h : BH w g c s n l) (f : Fr No w w') : BH w' g c s n l := Blk.fr h f (fun h => h)
theorem infoH : (Tryd.prog.info? 73).map (·.size) = some 4 := by kernel_rfl
theorem resH {fn : Func} {p : Tmp} (h : fn.results = #[.cell p 73]) (tmps : Array Value) (w : World) (g : Nat) (c s n l : Int) (hp : tmps.getD p undef = .pointer (some ⟨g, 0, none⟩)) (hg : BH w g c s n l) :
    (results fn tmps).run Tryd.prog w = .ok (.agg #[.int .i64 c, .int .i64 s, .int .i64 n, .int .i64 l]) w :=
  results_cell_row h tmps w g 73 _ (0, 0) _ hp hg Tryd.underlying73 rfl (by kernel_rfl)
section
variable {ops : Array Oper} {rest : List Oper} {o : Oper} {ac : Act} {w : World} {Q : Exit → Act → World → Prop}
theorem st_span (hgd : o.guard = none) (p y : Operand) (ho : o.op = .store 51 p y) (g : Nat) (hx : ac.eval p = .pointer (some ⟨g, 0, none⟩)) {a n a' n' : Int}
    (hy : ac.eval y = .agg #[.int .i64 a', .int .i64 n']) (hg : BS w g a n)
    (h : ∀ W', BS W' g a' n' → Fr (fun q => q = g) w W' → wpList Tryd.prog ops Q rest (ac.put o.dst undef) W') : wpList Tryd.prog ops Q (o :: rest) ac w :=
  wpList_store_row hgd 51 p y ho g _ hx hy 51 _ hg infoS rfl (by simp [Value.oneCell']) (h _ (Blk.setRow hg _) (Fr.setRow (S := fun q => q = g) (Fr.refl _ _) (fun _ => rfl) _))
theorem st_shape (hgd : o.guard = none) (p y : Operand) (ho : o.op = .store 73 p y) (g : Nat) (hx : ac.eval p = .pointer (some ⟨g, 0, none⟩)) {c s n l c' s' n' l' : Int}
    (hy : ac.eval y = .agg #[.int .i64 c', .int .i64 s', .int .i64 n', .int .i64 l']) (hg : BH w g c s n l)
    (h : ∀ W', BH W' g c' s' n' l' → Fr (fun q => q = g) w W' → wpList Tryd.prog ops Q rest (ac.put o.dst undef) W') : wpList Tryd.prog ops Q (o :: rest) ac w :=
  wpList_store_row hgd 73 p y ho g _ hx hy 73 _ hg infoH rfl (by simp [Value.oneCell']) (h _ (Blk.setRow hg _) (Fr.setRow (S := fun q => q = g) (Fr.refl _ _) (fun _ => rfl) _))
end
theorem far_fr {w w' : World} {g g' : Nat} {t : TypeId} {cs : Array Value} (h : Blk w g t cs) (f : Fr (fun q => q = g') w w') (hn : g ≠ g') : Blk w' g t cs := h.fr f hn

end Go.Proofs.YtkkbgbpmpcoffaaDoor.GeD
