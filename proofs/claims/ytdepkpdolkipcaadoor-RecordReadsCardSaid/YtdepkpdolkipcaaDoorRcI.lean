/- Contracts: what is got of one delta, of a record behind its mark, by the program. Condition: the reader's own block is known whole, and what is left reads as bytes. -/
import Derived.Test.YtdepkpdolkipcaaDoorRcH
namespace Go.Proofs.YtdepkpdolkipcaaDoor.RcI
open Go.RowKit MSep MSepC LeW LeR RdA RcM RcA RcB RcC DlO Kit

theorem RdO.ap {w : World} {B g : Nat} {U : Nat → Prop} {st : Option (List Int)} (h : RdO w B U g st) (D i : Nat) (v : Value) (hD : ¬ U D) : RdO (w.setCell ⟨D, i, none⟩ v) B U g st := h.fr (Fr.set1 w D i v) (fun k hk e => hD (e ▸ hk))
theorem d5 {w : World} {D : Nat} {a b c d e : Value} (h : Blk w D 58 #[a, b, c, d, e]) : (w.cell? ⟨D, 0, none⟩ = some a ∧ w.frozen? ⟨D, 0, none⟩ = false) ∧ (w.cell? ⟨D, 1, none⟩ = some b ∧ w.frozen? ⟨D, 1, none⟩ = false) ∧ (w.cell? ⟨D, 2, none⟩ = some c ∧ w.frozen? ⟨D, 2, none⟩ = false) ∧ (w.cell? ⟨D, 3, none⟩ = some d ∧ w.frozen? ⟨D, 3, none⟩ = false) ∧ (w.cell? ⟨D, 4, none⟩ = some e ∧ w.frozen? ⟨D, 4, none⟩ = false) :=
  ⟨⟨h.cell 0, h.frozen 0⟩, ⟨h.cell 1, h.frozen 1⟩, ⟨h.cell 2, h.frozen 2⟩, ⟨h.cell 3, h.frozen 3⟩, ⟨h.cell 4, h.frozen 4⟩⟩
theorem info5d : (Tryd.prog.info? 58).map (·.size) = some 5 := by kernel_rfl
theorem info5r : (Tryd.prog.info? 48).map (·.size) = some 5 := by kernel_rfl
/-- A struct of five cells is stored whole. -/
theorem st_5 {t : TypeId} {ops : Array Oper} {rest : List Oper} {o : Oper} {ac : Act} {w : World} {Q : Exit → Act → World → Prop} (hi : (Tryd.prog.info? t).map (·.size) = some 5) (hgd : o.guard = none) (p y : Operand) (ho : o.op = .store t p y) (g : Nat) (hx : ac.eval p = .pointer (some ⟨g, 0, none⟩)) {a b c d e : Value}
    (hy : ac.eval y = .agg #[a, b, c, d, e]) (h1 : (#[a, b, c, d, e] : Array Value).all (·.oneCell') = true) {cs : Array Value} (hg : Blk w g t cs) (hsz : cs.size = 5)
    (h : ∀ W', Blk W' g t #[a, b, c, d, e] → Fr (fun q => q = g) w W' → wpList Tryd.prog ops Q rest (ac.put o.dst undef) W') : wpList Tryd.prog ops Q (o :: rest) ac w :=
  wpList_store_row hgd t p y ho g _ hx hy t _ hg hi (hsz.trans rfl) h1 (h _ (Blk.setRow hg _) (Fr.setRow (S := fun q => q = g) (Fr.refl _ _) (fun _ => rfl) _))
set_option maxRecDepth 100000 in
set_option maxHeartbeats 2000000 in
theorem takeDelta_ok (g B : Nat) (U : Nat → Prop) (st : Option (List Int)) (w : World) (h : RdO w B U g st) (hU : ∀ k, U k → k < w.heap.size) :
    Calls Tryd.prog 84 #[.pointer (some ⟨g, 0, none⟩)] w fun e w' => e = .returned (dv (pD st).1.k (pD st).1.a (pD st).1.n (pD st).1.z (pD st).1.o) ∧ RdO w' B U g (pD st).2 ∧ Fr (fun k => k = g) w w' := by
  obtain ⟨P, hP⟩ : ∃ P, pD st = P := ⟨_, rfl⟩
  rw [hP]
  unfold pD at hP
  have HP := hid hP
  clear hP
  have hg := h.lt
  obtain ⟨R, hR⟩ : ∃ R, w.heap.size = R := ⟨_, rfl⟩
  obtain ⟨D, hD⟩ : ∃ D, R + 1 = D := ⟨_, rfl⟩
  have hUD : ¬ U D := fun h => by have := hU _ h; omega
  obtain ⟨w1, hw1⟩ : ∃ w1, (w.alloc (dx 0 0 0 0 0)).alloc (dx 0 0 0 0 0) = w1 := ⟨_, rfl⟩
  have HS := h.fr (S := No) (show Fr No w w1 by rw [← hw1]; exact ((Fr.refl No w).alloc _).alloc _) (fun _ _ h => h)
  have FW := hid (show Fr (fun k => k = g) w w1 by rw [← hw1]; exact ((Fr.refl _ w).alloc _).alloc _)
  have HB : Blk w1 D 58 #[.int .i64 0, .int .i64 0, .int .i64 0, .int .i64 0, .int .i64 0] := by
    rw [← hw1, ← hD, ← hR]
    have := Blk.new (w.alloc (dx 0 0 0 0 0)) 58 #[.int .i64 0, .int .i64 0, .int .i64 0, .int .i64 0, .int .i64 0]
    rwa [World.size_alloc] at this
  have HQ : Blk w1 R 58 #[.int .i64 0, .int .i64 0, .int .i64 0, .int .i64 0, .int .i64 0] := by
    rw [← hw1, ← hR]
    exact (Blk.new w _ _).alloc _
  have HW1 := hid hw1
  have HG := hid (show g ≠ D ∧ g ≠ R by omega)
  have HN := hid (show D ≠ R by omega)
  have HUD := hid hUD
  have HUR := hid (show ¬ U R from fun h => by have := hU _ h; omega)
  clear h hU hw1 hg hUD
  go_enter Tryd.func84, Tryd.ntmps84
  go_upto_region 2 with fail
  rw [show (w.alloc (Obj.cells #[Value.int IntKind.i64 0, Value.int IntKind.i64 0, Value.int IntKind.i64 0, Value.int IntKind.i64 0, Value.int IntKind.i64 0] 58)).alloc (Obj.cells #[Value.int IntKind.i64 0, Value.int IntKind.i64 0, Value.int IntKind.i64 0, Value.int IntKind.i64 0, Value.int IntKind.i64 0] 58) = w1 from HW1.out]
  try rw [hR]
  try rw [hD]
  clear HW1
  obtain ⟨⟨v0, s0⟩, h0⟩ : ∃ v, gi 1 1 4 st = v := ⟨_, rfl⟩
  go_upto_region 3 with (go_at_call 57; refine (int_rd g 1 1 4 B U st _ (by decide) HS).mono ?_; rintro e' w2 ⟨rfl, HS, f⟩; rw [h0] at HS ⊢; dsimp only at HS; replace HB := Blk.fr HB f (fun h => HG.out.1 h.symm); replace HQ := Blk.fr HQ f (fun h => HG.out.2 h.symm); replace FW := hid (FW.out.trans f); obtain ⟨⟨c0, z0⟩, ⟨c1, z1⟩, ⟨c2, z2⟩, ⟨c3, z3⟩, ⟨c4, z4⟩⟩ := d5 HB; clear f; dsimp only)
  clear c0 c1 c2 c3 c4 z0 z1 z2 z3 z4
  replace HS := RdO.ap HS D 0 (.int .i64 v0) HUD.out
  replace HB := show Blk _ D 58 #[.int .i64 v0, .int .i64 0, .int .i64 0, .int .i64 0, .int .i64 0] from Blk.set_ HB 0 (.int .i64 v0)
  replace HQ := Blk.far HQ (p := ⟨D, 0, none⟩) (fun h => HN.out h.symm) (.int .i64 v0)
  replace FW := hid (FW.out.setCell (p := ⟨D, 0, none⟩) (fun h => absurd h (by simp only []; omega)) (.int .i64 v0))
  generalize World.setCell _ ⟨D, 0, none⟩ (.int .i64 v0) = w2 at HS HB HQ FW ⊢
  obtain ⟨⟨v1, s1⟩, h1⟩ : ∃ v, gi 1 0 255 s0 = v := ⟨_, rfl⟩
  go_upto_region 4 with (go_at_call 57; refine (int_rd g 1 0 255 B U s0 _ (by decide) HS).mono ?_; rintro e' w2 ⟨rfl, HS, f⟩; rw [h1] at HS ⊢; dsimp only at HS; replace HB := Blk.fr HB f (fun h => HG.out.1 h.symm); replace HQ := Blk.fr HQ f (fun h => HG.out.2 h.symm); replace FW := hid (FW.out.trans f); obtain ⟨⟨c0, z0⟩, ⟨c1, z1⟩, ⟨c2, z2⟩, ⟨c3, z3⟩, ⟨c4, z4⟩⟩ := d5 HB; clear f; dsimp only)
  clear c0 c1 c2 c3 c4 z0 z1 z2 z3 z4
  replace HS := RdO.ap HS D 3 (.int .i64 v1) HUD.out
  replace HB := show Blk _ D 58 #[.int .i64 v0, .int .i64 0, .int .i64 0, .int .i64 v1, .int .i64 0] from Blk.set_ HB 3 (.int .i64 v1)
  replace HQ := Blk.far HQ (p := ⟨D, 3, none⟩) (fun h => HN.out h.symm) (.int .i64 v1)
  replace FW := hid (FW.out.setCell (p := ⟨D, 3, none⟩) (fun h => absurd h (by simp only []; omega)) (.int .i64 v1))
  generalize World.setCell _ ⟨D, 3, none⟩ (.int .i64 v1) = w2 at HS HB HQ FW ⊢
  obtain ⟨⟨v2, s2⟩, h2⟩ : ∃ v, gi 2 0 65535 s1 = v := ⟨_, rfl⟩
  go_upto_region 5 with (go_at_call 57; refine (int_rd g 2 0 65535 B U s1 _ (by decide) HS).mono ?_; rintro e' w2 ⟨rfl, HS, f⟩; rw [h2] at HS ⊢; dsimp only at HS; replace HB := Blk.fr HB f (fun h => HG.out.1 h.symm); replace HQ := Blk.fr HQ f (fun h => HG.out.2 h.symm); replace FW := hid (FW.out.trans f); obtain ⟨⟨c0, z0⟩, ⟨c1, z1⟩, ⟨c2, z2⟩, ⟨c3, z3⟩, ⟨c4, z4⟩⟩ := d5 HB; clear f; dsimp only)
  clear c0 c1 c2 c3 c4 z0 z1 z2 z3 z4
  replace HS := RdO.ap HS D 2 (.int .i64 v2) HUD.out
  replace HB := show Blk _ D 58 #[.int .i64 v0, .int .i64 0, .int .i64 v2, .int .i64 v1, .int .i64 0] from Blk.set_ HB 2 (.int .i64 v2)
  replace HQ := Blk.far HQ (p := ⟨D, 2, none⟩) (fun h => HN.out h.symm) (.int .i64 v2)
  replace FW := hid (FW.out.setCell (p := ⟨D, 2, none⟩) (fun h => absurd h (by simp only []; omega)) (.int .i64 v2))
  generalize World.setCell _ ⟨D, 2, none⟩ (.int .i64 v2) = w2 at HS HB HQ FW ⊢
  obtain ⟨⟨v3, s3⟩, h3⟩ : ∃ v, gi 4 0 4294967295 s2 = v := ⟨_, rfl⟩
  go_upto_region 6 with (go_at_call 57; refine (int_rd g 4 0 4294967295 B U s2 _ (by decide) HS).mono ?_; rintro e' w2 ⟨rfl, HS, f⟩; rw [h3] at HS ⊢; dsimp only at HS; replace HB := Blk.fr HB f (fun h => HG.out.1 h.symm); replace HQ := Blk.fr HQ f (fun h => HG.out.2 h.symm); replace FW := hid (FW.out.trans f); obtain ⟨⟨c0, z0⟩, ⟨c1, z1⟩, ⟨c2, z2⟩, ⟨c3, z3⟩, ⟨c4, z4⟩⟩ := d5 HB; clear f; dsimp only)
  clear c0 c1 c2 c3 c4 z0 z1 z2 z3 z4
  replace HS := RdO.ap HS D 1 (.int .i64 v3) HUD.out
  replace HB := show Blk _ D 58 #[.int .i64 v0, .int .i64 v3, .int .i64 v2, .int .i64 v1, .int .i64 0] from Blk.set_ HB 1 (.int .i64 v3)
  replace HQ := Blk.far HQ (p := ⟨D, 1, none⟩) (fun h => HN.out h.symm) (.int .i64 v3)
  replace FW := hid (FW.out.setCell (p := ⟨D, 1, none⟩) (fun h => absurd h (by simp only []; omega)) (.int .i64 v3))
  generalize World.setCell _ ⟨D, 1, none⟩ (.int .i64 v3) = w2 at HS HB HQ FW ⊢
  obtain ⟨⟨v4, s4⟩, h4⟩ : ∃ v, gi 4 0 1024 s3 = v := ⟨_, rfl⟩
  go_upto_region 7 with (go_at_call 57; refine (int_rd g 4 0 1024 B U s3 _ (by decide) HS).mono ?_; rintro e' w2 ⟨rfl, HS, f⟩; rw [h4] at HS ⊢; dsimp only at HS; replace HB := Blk.fr HB f (fun h => HG.out.1 h.symm); replace HQ := Blk.fr HQ f (fun h => HG.out.2 h.symm); replace FW := hid (FW.out.trans f); obtain ⟨⟨c0, z0⟩, ⟨c1, z1⟩, ⟨c2, z2⟩, ⟨c3, z3⟩, ⟨c4, z4⟩⟩ := d5 HB; clear f; dsimp only)
  clear c0 c1 c2 c3 c4 z0 z1 z2 z3 z4
  replace HS := RdO.ap HS D 4 (.int .i64 v4) HUD.out
  replace HB := show Blk _ D 58 #[.int .i64 v0, .int .i64 v3, .int .i64 v2, .int .i64 v1, .int .i64 v4] from Blk.set_ HB 4 (.int .i64 v4)
  replace HQ := Blk.far HQ (p := ⟨D, 4, none⟩) (fun h => HN.out h.symm) (.int .i64 v4)
  replace FW := hid (FW.out.setCell (p := ⟨D, 4, none⟩) (fun h => absurd h (by simp only []; omega)) (.int .i64 v4))
  generalize World.setCell _ ⟨D, 4, none⟩ (.int .i64 v4) = w2 at HS HB HQ FW ⊢
  obtain ⟨⟨v5, s5⟩, h5⟩ : ∃ v, gi 4 0 0 s4 = v := ⟨_, rfl⟩
  obtain rfl : P = (⟨v0, v3, v2, v1, v4⟩, s5) := by rw [← HP.out]; simp only [h0, h1, h2, h3, h4, h5]
  go_upto_region 8 with (go_at_call 57; refine (int_rd g 4 0 0 B U s4 _ (by decide) HS).mono ?_; rintro e' w3 ⟨rfl, HS, f⟩; rw [h5] at HS ⊢; dsimp only at HS; replace HB := Blk.fr HB f (fun h => HG.out.1 h.symm); replace HQ := Blk.fr HQ f (fun h => HG.out.2 h.symm); replace FW := hid (FW.out.trans f); clear f; dsimp only)
  obtain ⟨⟨c0, z0⟩, ⟨c1, z1⟩, ⟨c2, z2⟩, ⟨c3, z3⟩, ⟨c4, z4⟩⟩ := d5 HB
  go_wp2_with (refine st_5 info5d rfl (.tmp 2) (.tmp 21) rfl R rfl rfl (by simp [Value.oneCell']) HQ rfl ?_; intro w4 HQ4 f4; replace HS := HS.fr f4 (fun k hk e => HUR.out (e ▸ hk)); have FW4 := hid (FW.out.step f4 (fun i hi e => absurd hi (by omega))); clear f4)
  exact bodyPost_ret (v := dv v0 v3 v2 v1 v4) (results_cell_row rfl _ _ R 58 _ (0, 0) _ rfl HQ4 Tryd.underlying58 rfl info5d) rfl ⟨rfl, HS, FW4.out⟩
end Go.Proofs.YtdepkpdolkipcaaDoor.RcI
