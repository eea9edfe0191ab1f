/- Contracts: what follows from a geometry, by the program: extents, follows. Condition: the numbers are within their bounds. -/
import Derived.Test.YtoboialfaifbgaaChecked
import Derived.Test.YtoboialfaifbgaaGeM
import Derived.Test.YtoboialfaifbgaaSepB
import Derived.WalkLawsBesides
import Derived.Deep.RegionHeld3
import Derived.Deep.QuietTactic
import Derived.BigQuiet
namespace Go.Proofs.Ytoboialfaifbgaa.GeA
open Go.RowKit MSep MGeM

theorem w64 (n : Int) (h : -9223372036854775808 ≤ n ∧ n ≤ 9223372036854775807) : wrap64 n = n := by unfold wrap64; omega
theorem retb {b R : Bool} (h : b = R) : Ending.returned (.bool b) = Ending.returned (.bool R) := by rw [h]
theorem reti {a b : Int} (h : a = b) : Ending.returned (.int .i64 a) = Ending.returned (.int .i64 b) := by rw [h]
theorem kf {a b c : World} (k : Fr No b c) (h : Hid (Fr No a b)) : Hid (Fr No a c) := hid (h.out.trans k)
theorem kb {b c : World} {g : Nat} {t : TypeId} {cs : Array Value} (k : Fr No b c) (h : Hid (Blk b g t cs)) : Hid (Blk c g t cs) := hid (h.out.fr k (fun h => h))
theorem kc {b c : World} {p : Addr} {v : Value} (k : Fr No b c) (h : b.cell? p = some v) : c.cell? p = some v := k.cell_some h (fun h => h)
theorem kd {a b : World} (h : Hid (Fr No a b)) : Hid (Fr No a b.drew) := hid h.out.drew
theorem kfa {a b : World} {o : Obj} (h : Hid (Fr No a b)) : Hid (Fr No a (b.alloc o)) := hid (h.out.alloc o)
theorem fr1 (w : World) (A : Obj) : Fr No w (w.alloc A) := (Fr.refl No w).alloc A
theorem kfg {w W W' : World} {g : Nat} (hg : w.heap.size ≤ g) (h : Hid (Fr No w W)) (f : Fr (fun q => q = g) W W') : Hid (Fr No w W') := hid (h.out.step f (fun _ hi e => absurd hi (Nat.not_lt.2 (e ▸ hg))))
theorem kf1 {w W : World} {p : Addr} {a : Value} (hg : w.heap.size ≤ p.block) (h : Hid (Fr No w W)) : Hid (Fr No w (W.setCell p a)) := hid (h.out.setCell (fun h => absurd h (Nat.not_lt.2 hg)) _)

abbrev bg (c s n l k : Int) : Obj := .cells #[.int .i64 c, .int .i64 s, .int .i64 n, .int .i64 l, .int .i64 k] 23
abbrev by_ (a r q b d t x u : Int) : Obj := .cells #[.int .i64 a, .int .i64 r, .int .i64 q, .int .i64 b, .int .i64 d, .int .i64 t, .int .i64 x, .int .i64 u] 50
/-- Block g holds a geometry; a layout. -/
def BG (w : World) (g : Nat) (c s n l k : Int) : Prop := Blk w g 23 #[.int .i64 c, .int .i64 s, .int .i64 n, .int .i64 l, .int .i64 k]
def BL (w : World) (g : Nat) (a r q b d t x u : Int) : Prop := Blk w g 50 #[.int .i64 a, .int .i64 r, .int .i64 q, .int .i64 b, .int .i64 d, .int .i64 t, .int .i64 x, .int .i64 u]
theorem BG.new (w : World) (c s n l k : Int) : BG (w.alloc (bg c s n l k)) w.heap.size c s n l k := Blk.new w _ _
theorem BL.new (w : World) (a r q b d t x u : Int) : BL (w.alloc (by_ a r q b d t x u)) w.heap.size a r q b d t x u := Blk.new w _ _
theorem BL.new2 (w : World) (o : Obj) (a r q b d t x u : Int) : BL ((w.alloc o).alloc (by_ a r q b d t x u)) (w.heap.size + 1) a r q b d t x u := by
  have := BL.new (w.alloc o) a r q b d t x u
  simpa using this
theorem BL.new3 (w : World) (o o' : Obj) (a r q b d t x u : Int) : BL (((w.alloc o).alloc o').alloc (by_ a r q b d t x u)) (w.heap.size + 2) a r q b d t x u := by
  have := BL.new ((w.alloc o).alloc o') a r q b d t x u
  simpa using this
section
variable {w w' : World} {g : Nat} {c s n l k : Int} {a r q b d t x u : Int}
theorem BG.fr (h : BG w g c s n l k) (f : Fr No w w') : BG w' g c s n l k := Blk.fr h f (fun h => h)
theorem BL.fr (h : BL w g a r q b d t x u) (f : Fr No w w') : BL w' g a r q b d t x u := Blk.fr h f (fun h => h)
theorem BG.cells (h : BG w g c s n l k) : w.cell? ⟨g, 0, none⟩ = some (.int .i64 c) ∧ w.cell? ⟨g, 1, none⟩ = some (.int .i64 s) ∧ w.cell? ⟨g, 2, none⟩ = some (.int .i64 n) ∧ w.cell? ⟨g, 3, none⟩ = some (.int .i64 l) ∧ w.cell? ⟨g, 4, none⟩ = some (.int .i64 k) :=
  ⟨Blk.cell h 0, Blk.cell h 1, Blk.cell h 2, Blk.cell h 3, Blk.cell h 4⟩
theorem BL.cells (h : BL w g a r q b d t x u) : w.cell? ⟨g, 0, none⟩ = some (.int .i64 a) ∧ w.cell? ⟨g, 1, none⟩ = some (.int .i64 r) ∧ w.cell? ⟨g, 2, none⟩ = some (.int .i64 q) ∧ w.cell? ⟨g, 3, none⟩ = some (.int .i64 b) ∧ w.cell? ⟨g, 4, none⟩ = some (.int .i64 d) ∧ w.cell? ⟨g, 5, none⟩ = some (.int .i64 t) ∧ w.cell? ⟨g, 6, none⟩ = some (.int .i64 x) ∧ w.cell? ⟨g, 7, none⟩ = some (.int .i64 u) :=
  ⟨Blk.cell h 0, Blk.cell h 1, Blk.cell h 2, Blk.cell h 3, Blk.cell h 4, Blk.cell h 5, Blk.cell h 6, Blk.cell h 7⟩
theorem BL.frozens (h : BL w g a r q b d t x u) : w.frozen? ⟨g, 0, none⟩ = false ∧ w.frozen? ⟨g, 1, none⟩ = false ∧ w.frozen? ⟨g, 2, none⟩ = false ∧ w.frozen? ⟨g, 3, none⟩ = false ∧ w.frozen? ⟨g, 4, none⟩ = false ∧ w.frozen? ⟨g, 5, none⟩ = false ∧ w.frozen? ⟨g, 6, none⟩ = false ∧ w.frozen? ⟨g, 7, none⟩ = false :=
  ⟨Blk.frozen h 0, Blk.frozen h 1, Blk.frozen h 2, Blk.frozen h 3, Blk.frozen h 4, Blk.frozen h 5, Blk.frozen h 6, Blk.frozen h 7⟩
theorem BL.set0 (h : BL w g a r q b d t x u) (v : Int) : BL (w.setCell ⟨g, 0, none⟩ (.int .i64 v)) g v r q b d t x u := Blk.set_ h 0 _
theorem BL.set1 (h : BL w g a r q b d t x u) (v : Int) : BL (w.setCell ⟨g, 1, none⟩ (.int .i64 v)) g a v q b d t x u := Blk.set_ h 1 _
theorem BL.set2 (h : BL w g a r q b d t x u) (v : Int) : BL (w.setCell ⟨g, 2, none⟩ (.int .i64 v)) g a r v b d t x u := Blk.set_ h 2 _
theorem BL.set3 (h : BL w g a r q b d t x u) (v : Int) : BL (w.setCell ⟨g, 3, none⟩ (.int .i64 v)) g a r q v d t x u := Blk.set_ h 3 _
theorem BL.set4 (h : BL w g a r q b d t x u) (v : Int) : BL (w.setCell ⟨g, 4, none⟩ (.int .i64 v)) g a r q b v t x u := Blk.set_ h 4 _
theorem BL.set5 (h : BL w g a r q b d t x u) (v : Int) : BL (w.setCell ⟨g, 5, none⟩ (.int .i64 v)) g a r q b d v x u := Blk.set_ h 5 _
theorem BL.set6 (h : BL w g a r q b d t x u) (v : Int) : BL (w.setCell ⟨g, 6, none⟩ (.int .i64 v)) g a r q b d t v u := Blk.set_ h 6 _
theorem BL.set7 (h : BL w g a r q b d t x u) (v : Int) : BL (w.setCell ⟨g, 7, none⟩ (.int .i64 v)) g a r q b d t x v := Blk.set_ h 7 _
theorem BL.far (h : BL w g a r q b d t x u) {p : Addr} (hp : g ≠ p.block) (v : Value) : BL (w.setCell p v) g a r q b d t x u := Blk.far h hp v
theorem BG.far (h : BG w g c s n l k) {p : Addr} (hp : g ≠ p.block) (v : Value) : BG (w.setCell p v) g c s n l k := Blk.far h hp v
end
theorem infoG : (Try.prog.info? 23).map (·.size) = some 5 := by kernel_rfl
theorem infoL : (Try.prog.info? 50).map (·.size) = some 8 := by kernel_rfl
section
variable {ops : Array Oper} {rest : List Oper} {o : Oper} {ac : Act} {w : World} {Q : Exit → Act → World → Prop}
theorem ld_geom (hgd : o.guard = none) (p : Operand) (ho : o.op = .load 23 p) (g : Nat) (hx : ac.eval p = .pointer (some ⟨g, 0, none⟩)) {c s n l k : Int} (hg : BG w g c s n l k)
    (h : wpList Try.prog ops Q rest (ac.put o.dst (.agg #[.int .i64 c, .int .i64 s, .int .i64 n, .int .i64 l, .int .i64 k])) w) : wpList Try.prog ops Q (o :: rest) ac w :=
  wpList_load_row hgd 23 p ho g hx 23 _ (0, 0) _ hg Try.underlying23 rfl infoG h
theorem ld_lay (hgd : o.guard = none) (p : Operand) (ho : o.op = .load 50 p) (g : Nat) (hx : ac.eval p = .pointer (some ⟨g, 0, none⟩)) {a r q b d t x u : Int} (hg : BL w g a r q b d t x u)
    (h : wpList Try.prog ops Q rest (ac.put o.dst (.agg #[.int .i64 a, .int .i64 r, .int .i64 q, .int .i64 b, .int .i64 d, .int .i64 t, .int .i64 x, .int .i64 u])) w) : wpList Try.prog ops Q (o :: rest) ac w :=
  wpList_load_row hgd 50 p ho g hx 50 _ (0, 0) _ hg Try.underlying50 rfl infoL h
theorem st_lay (hgd : o.guard = none) (p y : Operand) (ho : o.op = .store 50 p y) (g : Nat) (hx : ac.eval p = .pointer (some ⟨g, 0, none⟩)) {a r q b d t x u a' r' q' b' d' t' x' u' : Int}
    (hy : ac.eval y = .agg #[.int .i64 a', .int .i64 r', .int .i64 q', .int .i64 b', .int .i64 d', .int .i64 t', .int .i64 x', .int .i64 u']) (hg : BL w g a r q b d t x u)
    (h : ∀ W', BL W' g a' r' q' b' d' t' x' u' → Fr (fun q => q = g) w W' → wpList Try.prog ops Q rest (ac.put o.dst undef) W') : wpList Try.prog ops Q (o :: rest) ac w :=
  wpList_store_row hgd 50 p y ho g _ hx hy 50 _ hg infoL rfl (by simp [Value.oneCell']) (h _ (Blk.setRow hg _) (Fr.setRow (S := fun q => q = g) (Fr.refl _ _) (fun _ => rfl) _))
end

set_option maxRecDepth 100000 in
set_option maxHeartbeats 1000000 in
theorem extents_ok (a r q b d t x u s : Int) (w : World) (ha : 0 ≤ a ∧ a ≤ 4095) (hb : 0 ≤ b ∧ b ≤ 126) (hs : 4 ≤ s ∧ s ≤ 128) :
    Calls Try.prog 98 #[.agg #[.int .i64 a, .int .i64 r, .int .i64 q, .int .i64 b, .int .i64 d, .int .i64 t, .int .i64 x, .int .i64 u], .int .i64 s] w fun e w' => e = .returned (.int .i64 (min (max (a * 96 - 40 - b * 2 - (s + 7) / 8) 0 / 16) 2048)) ∧ Fr No w w' := by
  have HF := hid (fr1 w (by_ a r q b d t x u))
  obtain ⟨c0, _, _, c3, _⟩ := (BL.new w a r q b d t x u).cells
  have h1 : wrap64 (a * 96) = a * 96 := w64 _ (by omega)
  have h2 : wrap64 (a * 96 - 40) = a * 96 - 40 := w64 _ (by omega)
  have h3 : wrap64 (b * 2) = b * 2 := w64 _ (by omega)
  have h4 : wrap64 (a * 96 - 40 - b * 2) = a * 96 - 40 - b * 2 := w64 _ (by omega)
  have h5 : wrap64 (s + 7) = s + 7 := w64 _ (by omega)
  obtain ⟨E, hE⟩ : ∃ E, (s + 7) / 8 = E := ⟨_, rfl⟩
  have h6 : wrap64 ((s + 7).tdiv 8) = E := by rw [← hE, Int.tdiv_eq_ediv_of_nonneg (by omega)]; exact w64 _ (by omega)
  rw [hE]
  have h7 : wrap64 (a * 96 - 40 - b * 2 - E) = a * 96 - 40 - b * 2 - E := w64 _ (by omega)
  have h8 : wrap64 ((max (a * 96 - 40 - b * 2 - E) 0).tdiv 16) = max (a * 96 - 40 - b * 2 - E) 0 / 16 := by rw [Int.tdiv_eq_ediv_of_nonneg (by omega)]; exact w64 _ (by omega)
  go_enter Try.func98, Try.ntmps98
  go_wp2_with fail
  all_goals (go_ret; exact ⟨reti (by omega), HF.out⟩)
end Go.Proofs.Ytoboialfaifbgaa.GeA
