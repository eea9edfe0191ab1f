/- Contracts: where slots, records, zones and bands lie, by the program. Condition: all numbers are 64 bits. -/
import Derived.Test.YtkjebdojcnpjlaaGeC
namespace Go.Proofs.Ytkjebdojcnpjlaa.GeD
open Go.RowKit MSep MGeM GeA GeB GeC

abbrev bs_ (a n : Int) : Obj := .cells #[.int .i64 a, .int .i64 n] 31
def BS (w : World) (g : Nat) (a n : Int) : Prop := Blk w g 31 #[.int .i64 a, .int .i64 n]
theorem BS.new (w : World) (a n : Int) : BS (w.alloc (bs_ a n)) w.heap.size a n := Blk.new w _ _
theorem BS.new2 (w : World) (o : Obj) (a n : Int) : BS ((w.alloc o).alloc (bs_ a n)) (w.heap.size + 1) a n := by
  have := BS.new (w.alloc o) a n
  simpa using this
theorem BS.fr {w w' : World} {g : Nat} {a n : Int} (h : BS w g a n) (f : Fr No w w') : BS w' g a n := Blk.fr h f (fun h => h)
theorem BS.cells {w : World} {g : Nat} {a n : Int} (h : BS w g a n) : w.cell? ⟨g, 0, none⟩ = some (.int .i64 a) ∧ w.cell? ⟨g, 1, none⟩ = some (.int .i64 n) := ⟨Blk.cell h 0, Blk.cell h 1⟩
theorem infoS : (Try.prog.info? 31).map (·.size) = some 2 := by kernel_rfl
theorem resS {fn : Func} {p : Tmp} (h : fn.results = #[.cell p 31]) (tmps : Array Value) (w : World) (g : Nat) (x y : Int) (hp : tmps.getD p undef = .pointer (some ⟨g, 0, none⟩)) (hg : BS w g x y) :
    (results fn tmps).run Try.prog w = .ok (.agg #[.int .i64 x, .int .i64 y]) w :=
  results_cell_row h tmps w g 31 _ (0, 0) _ hp hg Try.underlying31 rfl (by kernel_rfl)
abbrev bh (c s n l : Int) : Obj := .cells #[.int .i64 c, .int .i64 s, .int .i64 n, .int .i64 l] 38
def BH (w : World) (g : Nat) (c s n l : Int) : Prop := Blk w g 38 #[.int .i64 c, .int .i64 s, .int .i64 n, .int .i64 l]
theorem BH.new2 (w : World) (o : Obj) (c s n l : Int) : BH ((w.alloc o).alloc (bh c s n l)) (w.heap.size + 1) c s n l := by
  have := Blk.new (w.alloc o) 38 #[.int .i64 c, .int .i64 s, .int .i64 n, .int .i64 l]
  unfold BH
  simpa using this
theorem BH.fr {w w' : World} {g : Nat} {c s n l : Int} (h : BH w g c s n l) (f : Fr No w w') : BH w' g c s n l := Blk.fr h f (fun h => h)
theorem infoH : (Try.prog.info? 38).map (·.size) = some 4 := by kernel_rfl
theorem resH {fn : Func} {p : Tmp} (h : fn.results = #[.cell p 38]) (tmps : Array Value) (w : World) (g : Nat) (c s n l : Int) (hp : tmps.getD p undef = .pointer (some ⟨g, 0, none⟩)) (hg : BH w g c s n l) :
    (results fn tmps).run Try.prog w = .ok (.agg #[.int .i64 c, .int .i64 s, .int .i64 n, .int .i64 l]) w :=
  results_cell_row h tmps w g 38 _ (0, 0) _ hp hg Try.underlying38 rfl (by kernel_rfl)
section
variable {ops : Array Oper} {rest : List Oper} {o : Oper} {ac : Act} {w : World} {Q : Exit → Act → World → Prop}
theorem st_span (hgd : o.guard = none) (p y : Operand) (ho : o.op = .store 31 p y) (g : Nat) (hx : ac.eval p = .pointer (some ⟨g, 0, none⟩)) {a n a' n' : Int}
    (hy : ac.eval y = .agg #[.int .i64 a', .int .i64 n']) (hg : BS w g a n)
    (h : ∀ W', BS W' g a' n' → Fr (fun q => q = g) w W' → wpList Try.prog ops Q rest (ac.put o.dst undef) W') : wpList Try.prog ops Q (o :: rest) ac w :=
  wpList_store_row hgd 31 p y ho g _ hx hy 31 _ hg infoS rfl (by simp [Value.oneCell']) (h _ (Blk.setRow hg _) (Fr.setRow (S := fun q => q = g) (Fr.refl _ _) (fun _ => rfl) _))
theorem st_shape (hgd : o.guard = none) (p y : Operand) (ho : o.op = .store 38 p y) (g : Nat) (hx : ac.eval p = .pointer (some ⟨g, 0, none⟩)) {c s n l c' s' n' l' : Int}
    (hy : ac.eval y = .agg #[.int .i64 c', .int .i64 s', .int .i64 n', .int .i64 l']) (hg : BH w g c s n l)
    (h : ∀ W', BH W' g c' s' n' l' → Fr (fun q => q = g) w W' → wpList Try.prog ops Q rest (ac.put o.dst undef) W') : wpList Try.prog ops Q (o :: rest) ac w :=
  wpList_store_row hgd 38 p y ho g _ hx hy 38 _ hg infoH rfl (by simp [Value.oneCell']) (h _ (Blk.setRow hg _) (Fr.setRow (S := fun q => q = g) (Fr.refl _ _) (fun _ => rfl) _))
end
theorem far_fr {w w' : World} {g g' : Nat} {t : TypeId} {cs : Array Value} (h : Blk w g t cs) (f : Fr (fun q => q = g') w w') (hn : g ≠ g') : Blk w' g t cs := h.fr f hn

set_option maxRecDepth 100000 in
set_option maxHeartbeats 2000000 in
theorem slot_ok (c s n l k i : Int) (w : World) (hs : -9223372036854775808 ≤ s ∧ s ≤ 9223372036854775807) (hi : -9223372036854775808 ≤ i ∧ i ≤ 9223372036854775807) : Calls Try.prog 7 #[.agg #[.int .i64 c, .int .i64 s, .int .i64 n, .int .i64 l, .int .i64 k], .int .i64 i] w fun e w' => e = .returned (.agg #[.int .i64 (slo ⟨c, s, n, l, k⟩ i).1, .int .i64 (slo ⟨c, s, n, l, k⟩ i).2]) ∧ Fr No w w' := by
  have HL := hid (fun W => layout_ok c s n l k W hs)
  have HF := hid ((fr1 w (bg c s n l k)).alloc (bs_ 0 0))
  have P0 := hid (BG2 w c s n l k (bs_ 0 0))
  have P1 := hid (BS.new2 w (bg c s n l k) 0 0)
  by_cases hm : mayG ⟨c, s, n, l, k⟩
  · have hg := good hm.1
    rw [show lyo ⟨c, s, n, l, k⟩ = (lay ⟨c, s, n, l, k⟩, 0) by unfold lyo; rw [if_pos hm]] at HL
    obtain ⟨y, hy⟩ : ∃ y, lay ⟨c, s, n, l, k⟩ = y := ⟨_, rfl⟩
    by_cases h1 : i < 0
    · rw [show slo ⟨c, s, n, l, k⟩ i = (0, 0) by unfold slo; rw [if_neg (by omega)]]
      rw [hy] at HL hg
      try rw [hy]
      obtain ⟨a, r, q, b, d, t, x, u⟩ := y
      obtain ⟨hC, C0, C1, a0, a1, a2, a3, r0, q0, b0, b1, b2, d0, d1, d2, t0, t1, t2, x0, x1, u0, u1, u2, u3⟩ := hg
      dsimp only at hC C0 C1 a0 a1 a2 a3 r0 q0 b0 b1 b2 d0 d1 d2 t0 t1 t2 x0 x1 u0 u1 u2 u3 HL ⊢
      clear hC C0 C1 a0 a1 a2 a3 r0 q0 b0 b1 b2 d0 d1 d2 t0 t1 t2 x0 x1 u0 u1 u2 u3 hy hm
      go_enter Try.func7, Try.ntmps7
      go_wp2_with ((with_reducible refine ld_geom rfl (.tmp 2) rfl w.heap.size ?_ P0.out ?_); · rfl)
      refine (HL.out _).mono ?_
      rintro e w1 ⟨rfl, f1⟩
      have S1 : w.heap.size + 2 ≤ w1.heap.size := by have := f1.size; simp at this; omega
      have HF := hid ((HF.out.trans f1).alloc (by_ a r q b d t x u))
      have P1 := hid (show BS (w1.alloc (by_ a r q b d t x u)) (w.heap.size + 1) 0 0 from (P1.out.fr f1 : Blk _ _ _ _).alloc _)
      clear f1 HL P0
      go_wp2_with ((with_reducible refine st_span rfl (.tmp 4) (.tmp 22) rfl (w.heap.size + 1) ?_ (a' := 0) (n' := 0) ?_ P1.out ?_); (· rfl); (· rfl); intro W2 hb hf; have HB := hid hb; have HF := kfg (by omega) HF hf; clear hb hf)
      exact bodyPost_ret (v := .agg #[.int .i64 (0), .int .i64 (0)]) (resS rfl _ _ (w.heap.size + 1) (0) (0) rfl HB.out) rfl ⟨rfl, HF.out⟩
    by_cases h2 : 2 ≤ i
    · rw [show slo ⟨c, s, n, l, k⟩ i = (0, 0) by unfold slo; rw [if_neg (by omega)]]
      rw [hy] at HL hg
      try rw [hy]
      obtain ⟨a, r, q, b, d, t, x, u⟩ := y
      obtain ⟨hC, C0, C1, a0, a1, a2, a3, r0, q0, b0, b1, b2, d0, d1, d2, t0, t1, t2, x0, x1, u0, u1, u2, u3⟩ := hg
      dsimp only at hC C0 C1 a0 a1 a2 a3 r0 q0 b0 b1 b2 d0 d1 d2 t0 t1 t2 x0 x1 u0 u1 u2 u3 HL ⊢
      clear hC C0 C1 a0 a1 a2 a3 r0 q0 b0 b1 b2 d0 d1 d2 t0 t1 t2 x0 x1 u0 u1 u2 u3 hy hm
      go_enter Try.func7, Try.ntmps7
      go_wp2_with ((with_reducible refine ld_geom rfl (.tmp 2) rfl w.heap.size ?_ P0.out ?_); · rfl)
      refine (HL.out _).mono ?_
      rintro e w1 ⟨rfl, f1⟩
      have S1 : w.heap.size + 2 ≤ w1.heap.size := by have := f1.size; simp at this; omega
      have HF := hid ((HF.out.trans f1).alloc (by_ a r q b d t x u))
      have P1 := hid (show BS (w1.alloc (by_ a r q b d t x u)) (w.heap.size + 1) 0 0 from (P1.out.fr f1 : Blk _ _ _ _).alloc _)
      clear f1 HL P0
      go_wp2_with ((with_reducible refine st_span rfl (.tmp 4) (.tmp 22) rfl (w.heap.size + 1) ?_ (a' := 0) (n' := 0) ?_ P1.out ?_); (· rfl); (· rfl); intro W2 hb hf; have HB := hid hb; have HF := kfg (by omega) HF hf; clear hb hf)
      exact bodyPost_ret (v := .agg #[.int .i64 (0), .int .i64 (0)]) (resS rfl _ _ (w.heap.size + 1) (0) (0) rfl HB.out) rfl ⟨rfl, HF.out⟩
    rw [show slo ⟨c, s, n, l, k⟩ i = (2 + i * (lay ⟨c, s, n, l, k⟩).a, (lay ⟨c, s, n, l, k⟩).a) by unfold slo; rw [if_pos ⟨hm, by omega, by omega⟩]]
    rw [hy] at HL hg
    try rw [hy]
    obtain ⟨a, r, q, b, d, t, x, u⟩ := y
    obtain ⟨hC, C0, C1, a0, a1, a2, a3, r0, q0, b0, b1, b2, d0, d1, d2, t0, t1, t2, x0, x1, u0, u1, u2, u3⟩ := hg
    dsimp only at hC C0 C1 a0 a1 a2 a3 r0 q0 b0 b1 b2 d0 d1 d2 t0 t1 t2 x0 x1 u0 u1 u2 u3 HL ⊢
    have m1 : wrap64 (i * a) = i * a := w64 _ (by rcases (show i = 0 ∨ i = 1 by omega) with rfl | rfl <;> omega)
    have m2 : wrap64 (2 + i * a) = 2 + i * a := w64 _ (by rcases (show i = 0 ∨ i = 1 by omega) with rfl | rfl <;> omega)
    clear hC C0 C1 a0 a1 a2 a3 r0 q0 b0 b1 b2 d0 d1 d2 t0 t1 t2 x0 x1 u0 u1 u2 u3 hy hm
    go_enter Try.func7, Try.ntmps7
    go_wp2_with ((with_reducible refine ld_geom rfl (.tmp 2) rfl w.heap.size ?_ P0.out ?_); · rfl)
    refine (HL.out _).mono ?_
    rintro e w1 ⟨rfl, f1⟩
    have S1 : w.heap.size + 2 ≤ w1.heap.size := by have := f1.size; simp at this; omega
    have HF := hid ((HF.out.trans f1).alloc (by_ a r q b d t x u))
    have P1 := hid (show BS (w1.alloc (by_ a r q b d t x u)) (w.heap.size + 1) 0 0 from (P1.out.fr f1 : Blk _ _ _ _).alloc _)
    clear f1 HL P0
    go_wp2_with ((with_reducible refine st_span rfl (.tmp 4) (.tmp 30) rfl (w.heap.size + 1) ?_ (a' := 2 + i * a) (n' := a) ?_ P1.out ?_); (· rfl); (· rfl); intro W2 hb hf; have HB := hid hb; have HF := kfg (by omega) HF hf; clear hb hf)
    exact bodyPost_ret (v := .agg #[.int .i64 (2 + i * a), .int .i64 (a)]) (resS rfl _ _ (w.heap.size + 1) (2 + i * a) (a) rfl HB.out) rfl ⟨rfl, HF.out⟩
  · rw [show lyo ⟨c, s, n, l, k⟩ = (z8, 70) by unfold lyo; rw [if_neg hm]] at HL
    rw [show slo ⟨c, s, n, l, k⟩ i = (0, 0) by unfold slo; rw [if_neg (fun h => hm h.1)]]
    unfold z8 at HL
    dsimp only at HL
    clear hm
    go_enter Try.func7, Try.ntmps7
    go_wp2_with ((with_reducible refine ld_geom rfl (.tmp 2) rfl w.heap.size ?_ P0.out ?_); · rfl)
    refine (HL.out _).mono ?_
    rintro e w1 ⟨rfl, f1⟩
    have S1 : w.heap.size + 2 ≤ w1.heap.size := by have := f1.size; simp at this; omega
    have HF := hid ((HF.out.trans f1).alloc (by_ 0 0 0 0 0 0 0 0))
    have P1 := hid (show BS (w1.alloc (by_ 0 0 0 0 0 0 0 0)) (w.heap.size + 1) 0 0 from (P1.out.fr f1 : Blk _ _ _ _).alloc _)
    clear f1 HL P0
    go_wp2_with ((with_reducible refine st_span rfl (.tmp 4) (.tmp 22) rfl (w.heap.size + 1) ?_ (a' := 0) (n' := 0) ?_ P1.out ?_); (· rfl); (· rfl); intro W2 hb hf; have HB := hid hb; have HF := kfg (by omega) HF hf; clear hb hf)
    exact bodyPost_ret (v := .agg #[.int .i64 (0), .int .i64 (0)]) (resS rfl _ _ (w.heap.size + 1) (0) (0) rfl HB.out) rfl ⟨rfl, HF.out⟩
set_option maxRecDepth 100000 in
set_option maxHeartbeats 2000000 in
theorem ring_ok (c s n l k i : Int) (w : World) (hs : -9223372036854775808 ≤ s ∧ s ≤ 9223372036854775807) (hi : -9223372036854775808 ≤ i ∧ i ≤ 9223372036854775807) : Calls Try.prog 9 #[.agg #[.int .i64 c, .int .i64 s, .int .i64 n, .int .i64 l, .int .i64 k], .int .i64 i] w fun e w' => e = .returned (.int .i64 (rio ⟨c, s, n, l, k⟩ i)) ∧ Fr No w w' := by
  have HL := hid (fun W => layout_ok c s n l k W hs)
  have HF := hid (fr1 w (bg c s n l k))
  have P0 := hid (BG.new w c s n l k)
  by_cases hm : mayG ⟨c, s, n, l, k⟩
  · have hg := good hm.1
    rw [show lyo ⟨c, s, n, l, k⟩ = (lay ⟨c, s, n, l, k⟩, 0) by unfold lyo; rw [if_pos hm]] at HL
    obtain ⟨y, hy⟩ : ∃ y, lay ⟨c, s, n, l, k⟩ = y := ⟨_, rfl⟩
    by_cases h1 : i < 0
    · rw [show rio ⟨c, s, n, l, k⟩ i = -1 by unfold rio; rw [if_neg (by omega)]]
      rw [hy] at HL hg
      try rw [hy]
      obtain ⟨a, r, q, b, d, t, x, u⟩ := y
      obtain ⟨hC, C0, C1, a0, a1, a2, a3, r0, q0, b0, b1, b2, d0, d1, d2, t0, t1, t2, x0, x1, u0, u1, u2, u3⟩ := hg
      dsimp only at hC C0 C1 a0 a1 a2 a3 r0 q0 b0 b1 b2 d0 d1 d2 t0 t1 t2 x0 x1 u0 u1 u2 u3 HL ⊢
      clear hC C0 C1 a0 a1 a2 a3 r0 q0 b0 b1 b2 d0 d1 d2 t0 t1 t2 x0 x1 u0 u1 u2 u3 hy hm
      go_enter Try.func9, Try.ntmps9
      go_wp2_with ((with_reducible refine ld_geom rfl (.tmp 2) rfl w.heap.size ?_ P0.out ?_); · rfl)
      refine (HL.out _).mono ?_
      rintro e w1 ⟨rfl, f1⟩
      have S1 : w.heap.size + 1 ≤ w1.heap.size := by have := f1.size; simp at this; omega
      have HF := hid ((HF.out.trans f1).alloc (by_ a r q b d t x u))
      clear f1 HL P0
      go_wp2_with fail
      go_ret
      exact ⟨by first | rfl | exact retb (by simp; omega), by first | exact HF.out | exact HF.out.drewN _ | exact HF.out.drew⟩
    rw [show rio ⟨c, s, n, l, k⟩ i = (lay ⟨c, s, n, l, k⟩).r + i % (lay ⟨c, s, n, l, k⟩).q by unfold rio; rw [if_pos ⟨hm, by omega⟩]]
    rw [hy] at HL hg
    try rw [hy]
    obtain ⟨a, r, q, b, d, t, x, u⟩ := y
    obtain ⟨hC, C0, C1, a0, a1, a2, a3, r0, q0, b0, b1, b2, d0, d1, d2, t0, t1, t2, x0, x1, u0, u1, u2, u3⟩ := hg
    dsimp only at hC C0 C1 a0 a1 a2 a3 r0 q0 b0 b1 b2 d0 d1 d2 t0 t1 t2 x0 x1 u0 u1 u2 u3 HL ⊢
    have hqn : ¬ q = 0 := by omega
    have hq1 := Int.emod_nonneg i (b := q) (by omega)
    have hq2 := Int.emod_lt_of_pos i (b := q) (by omega)
    have m1 : IntKind.i64.wrap (i.tmod q) = i % q := by rw [Int.tmod_eq_emod_of_nonneg (by omega), IntKind.wrap_i64]; omega
    have m2 : IntKind.i64.wrap (r + i % q) = r + i % q := by rw [IntKind.wrap_i64]; omega
    have m3 : wrap64 (r + i % q) = r + i % q := w64 _ (by omega)
    have hr := hid r0
    clear hq1 hq2
    clear hC C0 C1 a0 a1 a2 a3 r0 q0 b0 b1 b2 d0 d1 d2 t0 t1 t2 x0 x1 u0 u1 u2 u3 hy hm
    go_enter Try.func9, Try.ntmps9
    go_wp2_with ((with_reducible refine ld_geom rfl (.tmp 2) rfl w.heap.size ?_ P0.out ?_); · rfl)
    refine (HL.out _).mono ?_
    rintro e w1 ⟨rfl, f1⟩
    have S1 : w.heap.size + 1 ≤ w1.heap.size := by have := f1.size; simp at this; omega
    have HF := hid ((HF.out.trans f1).alloc (by_ a r q b d t x u))
    clear f1 HL P0
    go_wp2_with fail
    go_quiet (fail)
    go_wp2
    go_ret
    exact ⟨by first | rfl | exact retb (by simp; omega), by first | exact HF.out | exact HF.out.drewN _ | exact HF.out.drew⟩
  · rw [show lyo ⟨c, s, n, l, k⟩ = (z8, 70) by unfold lyo; rw [if_neg hm]] at HL
    rw [show rio ⟨c, s, n, l, k⟩ i = -1 by unfold rio; rw [if_neg (fun h => hm h.1)]]
    unfold z8 at HL
    dsimp only at HL
    clear hm
    go_enter Try.func9, Try.ntmps9
    go_wp2_with ((with_reducible refine ld_geom rfl (.tmp 2) rfl w.heap.size ?_ P0.out ?_); · rfl)
    refine (HL.out _).mono ?_
    rintro e w1 ⟨rfl, f1⟩
    have S1 : w.heap.size + 1 ≤ w1.heap.size := by have := f1.size; simp at this; omega
    have HF := hid ((HF.out.trans f1).alloc (by_ 0 0 0 0 0 0 0 0))
    clear f1 HL P0
    go_wp2_with fail
    go_ret
    exact ⟨by first | rfl | exact retb (by simp; omega), by first | exact HF.out | exact HF.out.drewN _ | exact HF.out.drew⟩
set_option maxRecDepth 100000 in
set_option maxHeartbeats 2000000 in
theorem band_ok (c s n l k i : Int) (w : World) (hs : -9223372036854775808 ≤ s ∧ s ≤ 9223372036854775807) (hi : -9223372036854775808 ≤ i ∧ i ≤ 9223372036854775807) : Calls Try.prog 12 #[.agg #[.int .i64 c, .int .i64 s, .int .i64 n, .int .i64 l, .int .i64 k], .int .i64 i] w fun e w' => e = .returned (.tuple #[.int .i64 (bno ⟨c, s, n, l, k⟩ i).1, .int .i64 (bno ⟨c, s, n, l, k⟩ i).2]) ∧ Fr No w w' := by
  have HL := hid (fun W => layout_ok c s n l k W hs)
  have HF := hid (fr1 w (bg c s n l k))
  have P0 := hid (BG.new w c s n l k)
  by_cases hm : mayG ⟨c, s, n, l, k⟩
  · have hg := good hm.1
    rw [show lyo ⟨c, s, n, l, k⟩ = (lay ⟨c, s, n, l, k⟩, 0) by unfold lyo; rw [if_pos hm]] at HL
    obtain ⟨y, hy⟩ : ∃ y, lay ⟨c, s, n, l, k⟩ = y := ⟨_, rfl⟩
    by_cases h1 : i < 0
    · rw [show bno ⟨c, s, n, l, k⟩ i = (-1, -1) by unfold bno; rw [if_neg (by omega)]]
      rw [hy] at HL hg
      try rw [hy]
      obtain ⟨a, r, q, b, d, t, x, u⟩ := y
      obtain ⟨hC, C0, C1, a0, a1, a2, a3, r0, q0, b0, b1, b2, d0, d1, d2, t0, t1, t2, x0, x1, u0, u1, u2, u3⟩ := hg
      dsimp only at hC C0 C1 a0 a1 a2 a3 r0 q0 b0 b1 b2 d0 d1 d2 t0 t1 t2 x0 x1 u0 u1 u2 u3 HL ⊢
      try rw [hy] at h2
      try dsimp only at h2
      clear hC C0 C1 a0 a1 a2 a3 r0 q0 b0 b1 b2 d0 d1 d2 t0 t1 t2 x0 x1 u0 u1 u2 u3 hy hm
      go_enter Try.func12, Try.ntmps12
      go_wp2_with ((with_reducible refine ld_geom rfl (.tmp 2) rfl w.heap.size ?_ P0.out ?_); · rfl)
      refine (HL.out _).mono ?_
      rintro e w1 ⟨rfl, f1⟩
      have S1 : w.heap.size + 1 ≤ w1.heap.size := by have := f1.size; simp at this; omega
      have HF := hid ((HF.out.trans f1).alloc (by_ a r q b d t x u))
      clear f1 HL P0
      go_wp2_with fail
      go_ret2
      exact ⟨rfl, by first | exact HF.out | exact HF.out.drewN _ | exact HF.out.drew⟩
    by_cases h2 : (lay ⟨c, s, n, l, k⟩).t ≤ i
    · rw [show bno ⟨c, s, n, l, k⟩ i = (-1, -1) by unfold bno; rw [if_neg (by omega)]]
      rw [hy] at HL hg
      try rw [hy]
      obtain ⟨a, r, q, b, d, t, x, u⟩ := y
      obtain ⟨hC, C0, C1, a0, a1, a2, a3, r0, q0, b0, b1, b2, d0, d1, d2, t0, t1, t2, x0, x1, u0, u1, u2, u3⟩ := hg
      dsimp only at hC C0 C1 a0 a1 a2 a3 r0 q0 b0 b1 b2 d0 d1 d2 t0 t1 t2 x0 x1 u0 u1 u2 u3 HL ⊢
      try rw [hy] at h2
      try dsimp only at h2
      clear hC C0 C1 a0 a1 a2 a3 r0 q0 b0 b1 b2 d0 d1 d2 t0 t1 t2 x0 x1 u0 u1 u2 u3 hy hm
      go_enter Try.func12, Try.ntmps12
      go_wp2_with ((with_reducible refine ld_geom rfl (.tmp 2) rfl w.heap.size ?_ P0.out ?_); · rfl)
      refine (HL.out _).mono ?_
      rintro e w1 ⟨rfl, f1⟩
      have S1 : w.heap.size + 1 ≤ w1.heap.size := by have := f1.size; simp at this; omega
      have HF := hid ((HF.out.trans f1).alloc (by_ a r q b d t x u))
      clear f1 HL P0
      go_wp2_with fail
      go_ret2
      exact ⟨rfl, by first | exact HF.out | exact HF.out.drewN _ | exact HF.out.drew⟩
    rw [show bno ⟨c, s, n, l, k⟩ i = (i / (lay ⟨c, s, n, l, k⟩).d, i % (lay ⟨c, s, n, l, k⟩).d) by unfold bno; rw [if_pos ⟨hm, by omega, by omega⟩]]
    rw [hy] at HL hg
    try rw [hy]
    obtain ⟨a, r, q, b, d, t, x, u⟩ := y
    obtain ⟨hC, C0, C1, a0, a1, a2, a3, r0, q0, b0, b1, b2, d0, d1, d2, t0, t1, t2, x0, x1, u0, u1, u2, u3⟩ := hg
    dsimp only at hC C0 C1 a0 a1 a2 a3 r0 q0 b0 b1 b2 d0 d1 d2 t0 t1 t2 x0 x1 u0 u1 u2 u3 HL ⊢
    rw [hy] at h2
    dsimp only at h2
    have hdn : ¬ d = 0 := by omega
    have m1 : IntKind.i64.wrap (i.tdiv d) = i / d := Go.IntWalk.i64_quo i d ⟨by omega, by omega, by omega⟩
    have hq1 := Int.emod_nonneg i (b := d) (by omega)
    have hq2 := Int.emod_lt_of_pos i (b := d) (by omega)
    have m2 : IntKind.i64.wrap (i.tmod d) = i % d := by rw [Int.tmod_eq_emod_of_nonneg (by omega), IntKind.wrap_i64]; omega
    clear hq1 hq2
    clear hC C0 C1 a0 a1 a2 a3 r0 q0 b0 b1 b2 d0 d1 d2 t0 t1 t2 x0 x1 u0 u1 u2 u3 hy hm
    go_enter Try.func12, Try.ntmps12
    go_wp2_with ((with_reducible refine ld_geom rfl (.tmp 2) rfl w.heap.size ?_ P0.out ?_); · rfl)
    refine (HL.out _).mono ?_
    rintro e w1 ⟨rfl, f1⟩
    have S1 : w.heap.size + 1 ≤ w1.heap.size := by have := f1.size; simp at this; omega
    have HF := hid ((HF.out.trans f1).alloc (by_ a r q b d t x u))
    clear f1 HL P0
    go_wp2_with fail
    go_quiet (fail)
    go_wp2
    go_ret2
    exact ⟨rfl, by first | exact HF.out | exact HF.out.drewN _ | exact HF.out.drew⟩
  · rw [show lyo ⟨c, s, n, l, k⟩ = (z8, 70) by unfold lyo; rw [if_neg hm]] at HL
    rw [show bno ⟨c, s, n, l, k⟩ i = (-1, -1) by unfold bno; rw [if_neg (fun h => hm h.1)]]
    unfold z8 at HL
    dsimp only at HL
    clear hm
    go_enter Try.func12, Try.ntmps12
    go_wp2_with ((with_reducible refine ld_geom rfl (.tmp 2) rfl w.heap.size ?_ P0.out ?_); · rfl)
    refine (HL.out _).mono ?_
    rintro e w1 ⟨rfl, f1⟩
    have S1 : w.heap.size + 1 ≤ w1.heap.size := by have := f1.size; simp at this; omega
    have HF := hid ((HF.out.trans f1).alloc (by_ 0 0 0 0 0 0 0 0))
    clear f1 HL P0
    go_wp2_with fail
    go_ret2
    exact ⟨rfl, by first | exact HF.out | exact HF.out.drewN _ | exact HF.out.drew⟩
end Go.Proofs.Ytkjebdojcnpjlaa.GeD
