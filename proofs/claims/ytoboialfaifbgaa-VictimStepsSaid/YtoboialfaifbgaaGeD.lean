/- Contracts: where slots, records, zones and bands lie, by the program. Condition: all numbers are 64 bits. -/
import Derived.Test.YtoboialfaifbgaaGeC
namespace Go.Proofs.Ytoboialfaifbgaa.GeD
open Go.RowKit MSep MGeM GeA GeB GeC

abbrev bs_ (a n : Int) : Obj := .cells #[.int .i64 a, .int .i64 n] 68
def BS (w : World) (g : Nat) (a n : Int) : Prop := Blk w g 68 #[.int .i64 a, .int .i64 n]
theorem BS.new (w : World) (a n : Int) : BS (w.alloc (bs_ a n)) w.heap.size a n := Blk.new w _ _
theorem BS.new2 (w : World) (o : Obj) (a n : Int) : BS ((w.alloc o).alloc (bs_ a n)) (w.heap.size + 1) a n := by
  have := BS.new (w.alloc o) a n
  simpa using this
theorem BS.fr {w w' : World} {g : Nat} {a n : Int} (h : BS w g a n) (f : Fr No w w') : BS w' g a n := Blk.fr h f (fun h => h)
theorem BS.cells {w : World} {g : Nat} {a n : Int} (h : BS w g a n) : w.cell? ⟨g, 0, none⟩ = some (.int .i64 a) ∧ w.cell? ⟨g, 1, none⟩ = some (.int .i64 n) := ⟨Blk.cell h 0, Blk.cell h 1⟩
theorem infoS : (Try.prog.info? 68).map (·.size) = some 2 := by kernel_rfl
theorem resS {fn : Func} {p : Tmp} (h : fn.results = #[.cell p 68]) (tmps : Array Value) (w : World) (g : Nat) (x y : Int) (hp : tmps.getD p undef = .pointer (some ⟨g, 0, none⟩)) (hg : BS w g x y) :
    (results fn tmps).run Try.prog w = .ok (.agg #[.int .i64 x, .int .i64 y]) w :=
  results_cell_row h tmps w g 68 _ (0, 0) _ hp hg Try.underlying68 rfl (by kernel_rfl)
abbrev bh (c s n l : Int) : Obj := .cells #[.int .i64 c, .int .i64 s, .int .i64 n, .int .i64 l] 88
def BH (w : World) (g : Nat) (c s n l : Int) : Prop := Blk w g 88 #[.int .i64 c, .int .i64 s, .int .i64 n, .int .i64 l]
theorem BH.new2 (w : World) (o : Obj) (c s n l : Int) : BH ((w.alloc o).alloc (bh c s n l)) (w.heap.size + 1) c s n l := by
  have := Blk.new (w.alloc o) 88 #[.int .i64 c, .int .i64 s, .int .i64 n, .int .i64 l]
  unfold BH
  simpa using this
theorem BH.fr {w w' : World} {g : Nat} {c s n l : Int} (h : BH w g c s n l) (f : Fr No w w') : BH w' g c s n l := Blk.fr h f (fun h => h)
theorem infoH : (Try.prog.info? 88).map (·.size) = some 4 := by kernel_rfl
theorem resH {fn : Func} {p : Tmp} (h : fn.results = #[.cell p 88]) (tmps : Array Value) (w : World) (g : Nat) (c s n l : Int) (hp : tmps.getD p undef = .pointer (some ⟨g, 0, none⟩)) (hg : BH w g c s n l) :
    (results fn tmps).run Try.prog w = .ok (.agg #[.int .i64 c, .int .i64 s, .int .i64 n, .int .i64 l]) w :=
  results_cell_row h tmps w g 88 _ (0, 0) _ hp hg Try.underlying88 rfl (by kernel_rfl)
section
variable {ops : Array Oper} {rest : List Oper} {o : Oper} {ac : Act} {w : World} {Q : Exit → Act → World → Prop}
theorem st_span (hgd : o.guard = none) (p y : Operand) (ho : o.op = .store 68 p y) (g : Nat) (hx : ac.eval p = .pointer (some ⟨g, 0, none⟩)) {a n a' n' : Int}
    (hy : ac.eval y = .agg #[.int .i64 a', .int .i64 n']) (hg : BS w g a n)
    (h : ∀ W', BS W' g a' n' → Fr (fun q => q = g) w W' → wpList Try.prog ops Q rest (ac.put o.dst undef) W') : wpList Try.prog ops Q (o :: rest) ac w :=
  wpList_store_row hgd 68 p y ho g _ hx hy 68 _ hg infoS rfl (by simp [Value.oneCell']) (h _ (Blk.setRow hg _) (Fr.setRow (S := fun q => q = g) (Fr.refl _ _) (fun _ => rfl) _))
theorem st_shape (hgd : o.guard = none) (p y : Operand) (ho : o.op = .store 88 p y) (g : Nat) (hx : ac.eval p = .pointer (some ⟨g, 0, none⟩)) {c s n l c' s' n' l' : Int}
    (hy : ac.eval y = .agg #[.int .i64 c', .int .i64 s', .int .i64 n', .int .i64 l']) (hg : BH w g c s n l)
    (h : ∀ W', BH W' g c' s' n' l' → Fr (fun q => q = g) w W' → wpList Try.prog ops Q rest (ac.put o.dst undef) W') : wpList Try.prog ops Q (o :: rest) ac w :=
  wpList_store_row hgd 88 p y ho g _ hx hy 88 _ hg infoH rfl (by simp [Value.oneCell']) (h _ (Blk.setRow hg _) (Fr.setRow (S := fun q => q = g) (Fr.refl _ _) (fun _ => rfl) _))
end
theorem far_fr {w w' : World} {g g' : Nat} {t : TypeId} {cs : Array Value} (h : Blk w g t cs) (f : Fr (fun q => q = g') w w') (hn : g ≠ g') : Blk w' g t cs := h.fr f hn

set_option maxRecDepth 100000 in
set_option maxHeartbeats 2000000 in
theorem band_ok (c s n l k i : Int) (w : World) (hs : -9223372036854775808 ≤ s ∧ s ≤ 9223372036854775807) (hi : -9223372036854775808 ≤ i ∧ i ≤ 9223372036854775807) : Calls Try.prog 74 #[.agg #[.int .i64 c, .int .i64 s, .int .i64 n, .int .i64 l, .int .i64 k], .int .i64 i] w fun e w' => e = .returned (.tuple #[.int .i64 (bno ⟨c, s, n, l, k⟩ i).1, .int .i64 (bno ⟨c, s, n, l, k⟩ i).2]) ∧ Fr No w w' := by
  have HL := hid (fun W => layout_ok c s n l k W hs)
  have HF := hid (fr1 w (bg c s n l k))
  have P0 := hid (BG.new w c s n l k)
  by_cases hm : mayG ⟨c, s, n, l, k⟩
  · have hg := good hm.1
    rw [show lyo ⟨c, s, n, l, k⟩ = (lay ⟨c, s, n, l, k⟩, 0) by unfold lyo; rw [if_pos hm]] at HL
    obtain ⟨y, hy⟩ : ∃ y, lay ⟨c, s, n, l, k⟩ = y := ⟨_, rfl⟩
    by_cases h1 : i < 0
    · rw [show bno ⟨c, s, n, l, k⟩ i = (-1, -1) by unfold bno; rw [if_neg (by omega)]]
      rw [hy] at HL hg
      try rw [hy]
      obtain ⟨a, r, q, b, d, t, x, u⟩ := y
      obtain ⟨hC, C0, C1, a0, a1, a2, a3, r0, q0, b0, b1, b2, d0, d1, d2, t0, t1, t2, x0, x1, u0, u1, u2, u3⟩ := hg
      dsimp only at hC C0 C1 a0 a1 a2 a3 r0 q0 b0 b1 b2 d0 d1 d2 t0 t1 t2 x0 x1 u0 u1 u2 u3 HL ⊢
      try rw [hy] at h2
      try dsimp only at h2
      clear hC C0 C1 a0 a1 a2 a3 r0 q0 b0 b1 b2 d0 d1 d2 t0 t1 t2 x0 x1 u0 u1 u2 u3 hy hm
      go_enter Try.func74, Try.ntmps74
      go_wp2_with ((with_reducible refine ld_geom rfl (.tmp 2) rfl w.heap.size ?_ P0.out ?_); · rfl)
      refine (HL.out _).mono ?_
      rintro e w1 ⟨rfl, f1⟩
      have S1 : w.heap.size + 1 ≤ w1.heap.size := by have := f1.size; simp at this; omega
      have HF := hid ((HF.out.trans f1).alloc (by_ a r q b d t x u))
      clear f1 HL P0
      go_wp2_with fail
      go_ret2
      exact ⟨rfl, by first | exact HF.out | exact HF.out.drewN _ | exact HF.out.drew⟩
    by_cases h2 : (lay ⟨c, s, n, l, k⟩).t ≤ i
    · rw [show bno ⟨c, s, n, l, k⟩ i = (-1, -1) by unfold bno; rw [if_neg (by omega)]]
      rw [hy] at HL hg
      try rw [hy]
      obtain ⟨a, r, q, b, d, t, x, u⟩ := y
      obtain ⟨hC, C0, C1, a0, a1, a2, a3, r0, q0, b0, b1, b2, d0, d1, d2, t0, t1, t2, x0, x1, u0, u1, u2, u3⟩ := hg
      dsimp only at hC C0 C1 a0 a1 a2 a3 r0 q0 b0 b1 b2 d0 d1 d2 t0 t1 t2 x0 x1 u0 u1 u2 u3 HL ⊢
      try rw [hy] at h2
      try dsimp only at h2
      clear hC C0 C1 a0 a1 a2 a3 r0 q0 b0 b1 b2 d0 d1 d2 t0 t1 t2 x0 x1 u0 u1 u2 u3 hy hm
      go_enter Try.func74, Try.ntmps74
      go_wp2_with ((with_reducible refine ld_geom rfl (.tmp 2) rfl w.heap.size ?_ P0.out ?_); · rfl)
      refine (HL.out _).mono ?_
      rintro e w1 ⟨rfl, f1⟩
      have S1 : w.heap.size + 1 ≤ w1.heap.size := by have := f1.size; simp at this; omega
      have HF := hid ((HF.out.trans f1).alloc (by_ a r q b d t x u))
      clear f1 HL P0
      go_wp2_with fail
      go_ret2
      exact ⟨rfl, by first | exact HF.out | exact HF.out.drewN _ | exact HF.out.drew⟩
    rw [show bno ⟨c, s, n, l, k⟩ i = (i / (lay ⟨c, s, n, l, k⟩).d, i % (lay ⟨c, s, n, l, k⟩).d) by unfold bno; rw [if_pos ⟨hm, by omega, by omega⟩]]
    rw [hy] at HL hg
    try rw [hy]
    obtain ⟨a, r, q, b, d, t, x, u⟩ := y
    obtain ⟨hC, C0, C1, a0, a1, a2, a3, r0, q0, b0, b1, b2, d0, d1, d2, t0, t1, t2, x0, x1, u0, u1, u2, u3⟩ := hg
    dsimp only at hC C0 C1 a0 a1 a2 a3 r0 q0 b0 b1 b2 d0 d1 d2 t0 t1 t2 x0 x1 u0 u1 u2 u3 HL ⊢
    rw [hy] at h2
    dsimp only at h2
    have hdn : ¬ d = 0 := by omega
    have m1 : IntKind.i64.wrap (i.tdiv d) = i / d := Go.IntWalk.i64_quo i d ⟨by omega, by omega, by omega⟩
    have hq1 := Int.emod_nonneg i (b := d) (by omega)
    have hq2 := Int.emod_lt_of_pos i (b := d) (by omega)
    have m2 : IntKind.i64.wrap (i.tmod d) = i % d := by rw [Int.tmod_eq_emod_of_nonneg (by omega), IntKind.wrap_i64]; omega
    clear hq1 hq2
    clear hC C0 C1 a0 a1 a2 a3 r0 q0 b0 b1 b2 d0 d1 d2 t0 t1 t2 x0 x1 u0 u1 u2 u3 hy hm
    go_enter Try.func74, Try.ntmps74
    go_wp2_with ((with_reducible refine ld_geom rfl (.tmp 2) rfl w.heap.size ?_ P0.out ?_); · rfl)
    refine (HL.out _).mono ?_
    rintro e w1 ⟨rfl, f1⟩
    have S1 : w.heap.size + 1 ≤ w1.heap.size := by have := f1.size; simp at this; omega
    have HF := hid ((HF.out.trans f1).alloc (by_ a r q b d t x u))
    clear f1 HL P0
    go_wp2_with fail
    go_quiet (fail)
    go_wp2
    go_ret2
    exact ⟨rfl, by first | exact HF.out | exact HF.out.drewN _ | exact HF.out.drew⟩
  · rw [show lyo ⟨c, s, n, l, k⟩ = (z8, 70) by unfold lyo; rw [if_neg hm]] at HL
    rw [show bno ⟨c, s, n, l, k⟩ i = (-1, -1) by unfold bno; rw [if_neg (fun h => hm h.1)]]
    unfold z8 at HL
    dsimp only at HL
    clear hm
    go_enter Try.func74, Try.ntmps74
    go_wp2_with ((with_reducible refine ld_geom rfl (.tmp 2) rfl w.heap.size ?_ P0.out ?_); · rfl)
    refine (HL.out _).mono ?_
    rintro e w1 ⟨rfl, f1⟩
    have S1 : w.heap.size + 1 ≤ w1.heap.size := by have := f1.size; simp at this; omega
    have HF := hid ((HF.out.trans f1).alloc (by_ 0 0 0 0 0 0 0 0))
    clear f1 HL P0
    go_wp2_with fail
    go_ret2
    exact ⟨rfl, by first | exact HF.out | exact HF.out.drewN _ | exact HF.out.drew⟩
set_option maxRecDepth 100000 in
set_option maxHeartbeats 2000000 in
theorem isseq_ok (c s n l k i : Int) (w : World) (hs : -9223372036854775808 ≤ s ∧ s ≤ 9223372036854775807) (hi : -9223372036854775808 ≤ i ∧ i ≤ 9223372036854775807) : Calls Try.prog 73 #[.agg #[.int .i64 c, .int .i64 s, .int .i64 n, .int .i64 l, .int .i64 k], .int .i64 i] w fun e w' => e = .returned (.bool (decide (sqo ⟨c, s, n, l, k⟩ i))) ∧ Fr No w w' := by
  have HM := hid (fun W => may_ok c s n l k W hs)
  have HF := hid (fr1 w (bg c s n l k))
  have P0 := hid (BG.new w c s n l k)
  by_cases hm : mayG ⟨c, s, n, l, k⟩
  · rw [decide_eq_true hm] at HM
    obtain ⟨⟨B1, B2⟩, ⟨B3, B4⟩, ⟨B5, B6⟩, ⟨B7, B8⟩, B9, B10⟩ := hm.1
    dsimp only at B1 B2 B3 B4 B5 B6 B7 B8 B9 B10
    by_cases h1 : i < c
    · rw [show decide (sqo ⟨c, s, n, l, k⟩ i) = false by exact decide_eq_false (fun h => by have := h.2.1; dsimp only at this; omega)]
      clear hm
      go_enter Try.func73, Try.ntmps73
      go_wp2_with ((with_reducible refine ld_geom rfl (.tmp 2) rfl w.heap.size ?_ P0.out ?_); · rfl)
      refine (HM.out _).mono ?_
      rintro e w1 ⟨rfl, f1⟩
      have HF := kf f1 HF
      have P0 := hid (P0.out.fr f1)
      clear f1 HM
      obtain ⟨c0, c1, c2, c3, c4⟩ := P0.out.cells
      go_wp2_with fail
      go_ret
      exact ⟨by first | rfl | exact retb (by simp; omega), by first | exact HF.out | exact HF.out.drewN _ | exact HF.out.drew⟩
    by_cases h2 : c + s ≤ i
    · rw [show decide (sqo ⟨c, s, n, l, k⟩ i) = false by exact decide_eq_false (fun h => by have := h.2.2; dsimp only at this; omega)]
      clear hm
      go_enter Try.func73, Try.ntmps73
      go_wp2_with ((with_reducible refine ld_geom rfl (.tmp 2) rfl w.heap.size ?_ P0.out ?_); · rfl)
      refine (HM.out _).mono ?_
      rintro e w1 ⟨rfl, f1⟩
      have HF := kf f1 HF
      have P0 := hid (P0.out.fr f1)
      clear f1 HM
      obtain ⟨c0, c1, c2, c3, c4⟩ := P0.out.cells
      go_wp2_with fail
      go_ret
      exact ⟨by first | rfl | exact retb (by simp; omega), by first | exact HF.out | exact HF.out.drewN _ | exact HF.out.drew⟩
    rw [show decide (sqo ⟨c, s, n, l, k⟩ i) = true by exact decide_eq_true ⟨hm, by dsimp only; omega, by dsimp only; omega⟩]
    clear hm
    go_enter Try.func73, Try.ntmps73
    go_wp2_with ((with_reducible refine ld_geom rfl (.tmp 2) rfl w.heap.size ?_ P0.out ?_); · rfl)
    refine (HM.out _).mono ?_
    rintro e w1 ⟨rfl, f1⟩
    have HF := kf f1 HF
    have P0 := hid (P0.out.fr f1)
    clear f1 HM
    obtain ⟨c0, c1, c2, c3, c4⟩ := P0.out.cells
    go_wp2_with fail
    go_ret
    exact ⟨by first | rfl | exact retb (by simp; omega), by first | exact HF.out | exact HF.out.drewN _ | exact HF.out.drew⟩
  · rw [decide_eq_false hm] at HM
    rw [show decide (sqo ⟨c, s, n, l, k⟩ i) = false by exact decide_eq_false (fun h => hm h.1)]
    clear hm
    go_enter Try.func73, Try.ntmps73
    go_wp2_with ((with_reducible refine ld_geom rfl (.tmp 2) rfl w.heap.size ?_ P0.out ?_); · rfl)
    refine (HM.out _).mono ?_
    rintro e w1 ⟨rfl, f1⟩
    have HF := kf f1 HF
    have P0 := hid (P0.out.fr f1)
    clear f1 HM
    obtain ⟨c0, c1, c2, c3, c4⟩ := P0.out.cells
    go_wp2_with fail
    go_ret
    exact ⟨by first | rfl | exact retb (by simp; omega), by first | exact HF.out | exact HF.out.drewN _ | exact HF.out.drew⟩
end Go.Proofs.Ytoboialfaifbgaa.GeD
