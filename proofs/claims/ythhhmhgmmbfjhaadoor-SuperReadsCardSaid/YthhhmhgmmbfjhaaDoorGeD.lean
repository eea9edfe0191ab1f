/- Contracts: where slots, records, zones and bands lie, by the program. Condition: all numbers are 64 bits. -/
import Derived.Test.YthhhmhgmmbfjhaaDoorGeC
namespace Go.Proofs.YthhhmhgmmbfjhaaDoor.GeD
open Go.RowKit MSep MGeM GeA GeB GeC

abbrev bs_ (a n : Int) : Obj := .cells #[.int .i64 a, .int .i64 n] 137
def BS (w : World) (g : Nat) (a n : Int) : Prop := Blk w g 137 #[.int .i64 a, .int .i64 n]
theorem BS.new (w : World) (a n : Int) : BS (w.alloc (bs_ a n)) w.heap.size a n := Blk.new w _ _
theorem BS.new2 (w : World) (o : Obj) (a n : Int) : BS ((w.alloc o).alloc (bs_ a n)) (w.heap.size + 1) a n := by
  have := BS.new (w.alloc o) a n
  simpa using this
theorem BS.fr {w w' : World} {g : Nat} {a n : Int} (h : BS w g a n) (f : Fr No w w') : BS w' g a n := Blk.fr h f (fun h => h)
theorem BS.cells {w : World} {g : Nat} {a n : Int} (h : BS w g a n) : w.cell? ⟨g, 0, none⟩ = some (.int .i64 a) ∧ w.cell? ⟨g, 1, none⟩ = some (.int .i64 n) := ⟨Blk.cell h 0, Blk.cell h 1⟩
theorem infoS : (Tryd.prog.info? 137).map (·.size) = some 2 := by kernel_rfl
theorem resS {fn : Func} {p : Tmp} (h : fn.results = #[.cell p 137]) (tmps : Array Value) (w : World) (g : Nat) (x y : Int) (hp : tmps.getD p undef = .pointer (some ⟨g, 0, none⟩)) (hg : BS w g x y) :
    (results fn tmps).run Tryd.prog w = .ok (.agg #[.int .i64 x, .int .i64 y]) w :=
  results_cell_row h tmps w g 137 _ (0, 0) _ hp hg Tryd.underlying137 rfl (by kernel_rfl)
abbrev bh (c s n l : Int) : Obj := .cells #[.int .i64 c, .int .i64 s, .int .i64 n, .int .i64 l] 120
def BH (w : World) (g : Nat) (c s n l : Int) : Prop := Blk w g 120 #[.int .i64 c, .int .i64 s, .int .i64 n, .int .i64 l]
theorem BH.new2 (w : World) (o : Obj) (c s n l : Int) : BH ((w.alloc o).alloc (bh c s n l)) (w.heap.size + 1) c s n l := by
  have := Blk.new (w.alloc o) 120 #[.int .i64 c, .int .i64 s, .int .i64 n, .int .i64 l]
  unfold BH
  simpa using this
theorem BH.fr {w w' : World} {g : Nat} {c s n l : Int} (h : BH w g c s n l) (f : Fr No w w') : BH w' g c s n l := Blk.fr h f (fun h => h)
theorem infoH : (Tryd.prog.info? 120).map (·.size) = some 4 := by kernel_rfl
theorem resH {fn : Func} {p : Tmp} (h : fn.results = #[.cell p 120]) (tmps : Array Value) (w : World) (g : Nat) (c s n l : Int) (hp : tmps.getD p undef = .pointer (some ⟨g, 0, none⟩)) (hg : BH w g c s n l) :
    (results fn tmps).run Tryd.prog w = .ok (.agg #[.int .i64 c, .int .i64 s, .int .i64 n, .int .i64 l]) w :=
  results_cell_row h tmps w g 120 _ (0, 0) _ hp hg Tryd.underlying120 rfl (by kernel_rfl)
section
variable {ops : Array Oper} {rest : List Oper} {o : Oper} {ac : Act} {w : World} {Q : Exit → Act → World → Prop}
theorem st_span (hgd : o.guard = none) (p y : Operand) (ho : o.op = .store 137 p y) (g : Nat) (hx : ac.eval p = .pointer (some ⟨g, 0, none⟩)) {a n a' n' : Int}
    (hy : ac.eval y = .agg #[.int .i64 a', .int .i64 n']) (hg : BS w g a n)
    (h : ∀ W', BS W' g a' n' → Fr (fun q => q = g) w W' → wpList Tryd.prog ops Q rest (ac.put o.dst undef) W') : wpList Tryd.prog ops Q (o :: rest) ac w :=
  wpList_store_row hgd 137 p y ho g _ hx hy 137 _ hg infoS rfl (by simp [Value.oneCell']) (h _ (Blk.setRow hg _) (Fr.setRow (S := fun q => q = g) (Fr.refl _ _) (fun _ => rfl) _))
theorem st_shape (hgd : o.guard = none) (p y : Operand) (ho : o.op = .store 120 p y) (g : Nat) (hx : ac.eval p = .pointer (some ⟨g, 0, none⟩)) {c s n l c' s' n' l' : Int}
    (hy : ac.eval y = .agg #[.int .i64 c', .int .i64 s', .int .i64 n', .int .i64 l']) (hg : BH w g c s n l)
    (h : ∀ W', BH W' g c' s' n' l' → Fr (fun q => q = g) w W' → wpList Tryd.prog ops Q rest (ac.put o.dst undef) W') : wpList Tryd.prog ops Q (o :: rest) ac w :=
  wpList_store_row hgd 120 p y ho g _ hx hy 120 _ hg infoH rfl (by simp [Value.oneCell']) (h _ (Blk.setRow hg _) (Fr.setRow (S := fun q => q = g) (Fr.refl _ _) (fun _ => rfl) _))
end
theorem far_fr {w w' : World} {g g' : Nat} {t : TypeId} {cs : Array Value} (h : Blk w g t cs) (f : Fr (fun q => q = g') w w') (hn : g ≠ g') : Blk w' g t cs := h.fr f hn

set_option maxRecDepth 100000 in
set_option maxHeartbeats 2000000 in
theorem isseq_ok (c s n l k i : Int) (w : World) (hs : -9223372036854775808 ≤ s ∧ s ≤ 9223372036854775807) (hi : -9223372036854775808 ≤ i ∧ i ≤ 9223372036854775807) : Calls Tryd.prog 73 #[.agg #[.int .i64 c, .int .i64 s, .int .i64 n, .int .i64 l, .int .i64 k], .int .i64 i] w fun e w' => e = .returned (.bool (decide (sqo ⟨c, s, n, l, k⟩ i))) ∧ Fr No w w' := by
  have HM := hid (fun W => may_ok c s n l k W hs)
  have HF := hid (fr1 w (bg c s n l k))
  have P0 := hid (BG.new w c s n l k)
  by_cases hm : mayG ⟨c, s, n, l, k⟩
  · rw [decide_eq_true hm] at HM
    obtain ⟨⟨B1, B2⟩, ⟨B3, B4⟩, ⟨B5, B6⟩, ⟨B7, B8⟩, B9, B10⟩ := hm.1
    dsimp only at B1 B2 B3 B4 B5 B6 B7 B8 B9 B10
    by_cases h1 : i < c
    · rw [show decide (sqo ⟨c, s, n, l, k⟩ i) = false by exact decide_eq_false (fun h => by have := h.2.1; dsimp only at this; omega)]
      clear hm
      go_enter Tryd.func73, Tryd.ntmps73
      go_wp2_with ((with_reducible refine ld_geom rfl (.tmp 2) rfl w.heap.size ?_ P0.out ?_); · rfl)
      refine (HM.out _).mono ?_
      rintro e w1 ⟨rfl, f1⟩
      have HF := kf f1 HF
      have P0 := hid (P0.out.fr f1)
      clear f1 HM
      obtain ⟨c0, c1, c2, c3, c4⟩ := P0.out.cells
      go_wp2_with fail
      go_ret
      exact ⟨by first | rfl | exact retb (by simp; omega), by first | exact HF.out | exact HF.out.drewN _ | exact HF.out.drew⟩
    by_cases h2 : c + s ≤ i
    · rw [show decide (sqo ⟨c, s, n, l, k⟩ i) = false by exact decide_eq_false (fun h => by have := h.2.2; dsimp only at this; omega)]
      clear hm
      go_enter Tryd.func73, Tryd.ntmps73
      go_wp2_with ((with_reducible refine ld_geom rfl (.tmp 2) rfl w.heap.size ?_ P0.out ?_); · rfl)
      refine (HM.out _).mono ?_
      rintro e w1 ⟨rfl, f1⟩
      have HF := kf f1 HF
      have P0 := hid (P0.out.fr f1)
      clear f1 HM
      obtain ⟨c0, c1, c2, c3, c4⟩ := P0.out.cells
      go_wp2_with fail
      go_ret
      exact ⟨by first | rfl | exact retb (by simp; omega), by first | exact HF.out | exact HF.out.drewN _ | exact HF.out.drew⟩
    rw [show decide (sqo ⟨c, s, n, l, k⟩ i) = true by exact decide_eq_true ⟨hm, by dsimp only; omega, by dsimp only; omega⟩]
    clear hm
    go_enter Tryd.func73, Tryd.ntmps73
    go_wp2_with ((with_reducible refine ld_geom rfl (.tmp 2) rfl w.heap.size ?_ P0.out ?_); · rfl)
    refine (HM.out _).mono ?_
    rintro e w1 ⟨rfl, f1⟩
    have HF := kf f1 HF
    have P0 := hid (P0.out.fr f1)
    clear f1 HM
    obtain ⟨c0, c1, c2, c3, c4⟩ := P0.out.cells
    go_wp2_with fail
    go_ret
    exact ⟨by first | rfl | exact retb (by simp; omega), by first | exact HF.out | exact HF.out.drewN _ | exact HF.out.drew⟩
  · rw [decide_eq_false hm] at HM
    rw [show decide (sqo ⟨c, s, n, l, k⟩ i) = false by exact decide_eq_false (fun h => hm h.1)]
    clear hm
    go_enter Tryd.func73, Tryd.ntmps73
    go_wp2_with ((with_reducible refine ld_geom rfl (.tmp 2) rfl w.heap.size ?_ P0.out ?_); · rfl)
    refine (HM.out _).mono ?_
    rintro e w1 ⟨rfl, f1⟩
    have HF := kf f1 HF
    have P0 := hid (P0.out.fr f1)
    clear f1 HM
    obtain ⟨c0, c1, c2, c3, c4⟩ := P0.out.cells
    go_wp2_with fail
    go_ret
    exact ⟨by first | rfl | exact retb (by simp; omega), by first | exact HF.out | exact HF.out.drewN _ | exact HF.out.drew⟩
end Go.Proofs.YthhhmhgmmbfjhaaDoor.GeD
