/- Contract: what is got of a record behind its mark, by the program. Condition: the reader's own block is known whole, and what is left reads as bytes. -/
import Derived.Test.YtdepkpdolkipcaaDoorRcI
namespace Go.Proofs.YtdepkpdolkipcaaDoor.RcJ
open Go.RowKit MSep MSepC LeW LeR RdA RcM RcA RcB RcC DlO Kit RcI

theorem r5 {w : World} {D : Nat} {a b c d e : Value} (h : Blk w D 48 #[a, b, c, d, e]) : (w.cell? ⟨D, 0, none⟩ = some a ∧ w.frozen? ⟨D, 0, none⟩ = false) ∧ (w.cell? ⟨D, 1, none⟩ = some b ∧ w.frozen? ⟨D, 1, none⟩ = false) ∧ (w.cell? ⟨D, 2, none⟩ = some c ∧ w.frozen? ⟨D, 2, none⟩ = false) ∧ (w.cell? ⟨D, 3, none⟩ = some d ∧ w.frozen? ⟨D, 3, none⟩ = false) ∧ (w.cell? ⟨D, 4, none⟩ = some e ∧ w.frozen? ⟨D, 4, none⟩ = false) :=
  ⟨⟨h.cell 0, h.frozen 0⟩, ⟨h.cell 1, h.frozen 1⟩, ⟨h.cell 2, h.frozen 2⟩, ⟨h.cell 3, h.frozen 3⟩, ⟨h.cell 4, h.frozen 4⟩⟩
theorem pDs_len : ∀ (n : Nat) (st : Option (List Int)), (pDs n st).1.length = n
  | 0, st => rfl
  | n + 1, st => by rw [pDs, List.length_cons, pDs_len n]
set_option maxRecDepth 100000 in
set_option maxHeartbeats 4000000 in
theorem take_ok (g B : Nat) (U : Nat → Prop) (st : Option (List Int)) (w : World) (h : RdO w B U g st) (hU : ∀ k, U k → k < w.heap.size) (hn : 0 ≤ (hd st).1.n ∧ (hd st).1.n ≤ 6) :
    Calls Tryd.prog 68 #[.pointer (some ⟨g, 0, none⟩)] w fun e w' => ∃ A c, e = .returned (rv (tk st).1.e (tk st).1.s (tk st).1.c (tk st).1.u A (tk st).1.l.length c) ∧ (tk st).1.l.length ≤ 6 ∧ RdD w' A (tk st).1.l.length (tk st).1.l ∧ RdO w' B U g (tk st).2 ∧ Fr (fun k => k = g) w w' ∧ ∀ q o, A = some ⟨q, o, none⟩ → w.heap.size ≤ q := by
  obtain ⟨P, hP⟩ : ∃ P, tk st = P := ⟨_, rfl⟩
  rw [hP]
  unfold tk at hP
  unfold hd at hP hn
  have HP := hid hP
  have HNN := hid hn
  clear hP hn
  have hg := h.lt
  obtain ⟨R, hR⟩ : ∃ R, w.heap.size = R := ⟨_, rfl⟩
  obtain ⟨D, hD⟩ : ∃ D, R + 1 = D := ⟨_, rfl⟩
  have hUD : ¬ U D := fun h => by have := hU _ h; omega
  obtain ⟨w1, hw1⟩ : ∃ w1, (w.alloc (rx 0 0 false 0 none 0 0)).alloc (rx 0 0 false 0 none 0 0) = w1 := ⟨_, rfl⟩
  have HS := h.fr (S := No) (show Fr No w w1 by rw [← hw1]; exact ((Fr.refl No w).alloc _).alloc _) (fun _ _ h => h)
  have FW := hid (show Fr (fun k => k = g) w w1 by rw [← hw1]; exact ((Fr.refl _ w).alloc _).alloc _)
  have HB : Blk w1 D 48 #[.int .i64 0, .int .i64 0, .bool false, .int .i64 0, .slice none 0 0] := by
    rw [← hw1, ← hD, ← hR]
    have := Blk.new (w.alloc (rx 0 0 false 0 none 0 0)) 48 #[.int .i64 0, .int .i64 0, .bool false, .int .i64 0, .slice none 0 0]
    rwa [World.size_alloc] at this
  have HQ : Blk w1 R 48 #[.int .i64 0, .int .i64 0, .bool false, .int .i64 0, .slice none 0 0] := by
    rw [← hw1, ← hR]
    exact (Blk.new w _ _).alloc _
  have HW1 := hid hw1
  have HG := hid (show g ≠ D ∧ g ≠ R by omega)
  have HN := hid (show D ≠ R by omega)
  have HUD := hid hUD
  have HUR := hid (show ¬ U R from fun h => by have := hU _ h; omega)
  have HU := hid hU
  have HGD := hid (show g < D by omega)
  clear h hU hw1 hg hUD
  go_enter Tryd.func68, Tryd.ntmps68
  go_upto_region 2 with fail
  rw [show (w.alloc (Obj.cells #[Value.int IntKind.i64 0, Value.int IntKind.i64 0, Value.bool false, Value.int IntKind.i64 0, Value.slice none 0 0] 48)).alloc (Obj.cells #[Value.int IntKind.i64 0, Value.int IntKind.i64 0, Value.bool false, Value.int IntKind.i64 0, Value.slice none 0 0] 48) = w1 from HW1.out]
  try rw [hR]
  try rw [hD]
  clear HW1
  obtain ⟨⟨v0, s0⟩, h0⟩ : ∃ v, gi 1 0 1 st = v := ⟨_, rfl⟩
  obtain ⟨b, hb⟩ : ∃ b, (v0 == 1) = b := ⟨_, rfl⟩
  go_upto_region 3 with (go_at_call 57; refine (int_rd g 1 0 1 B U st _ (by decide) HS).mono ?_; rintro e' w2 ⟨rfl, HS, f⟩; rw [h0] at HS ⊢; dsimp only at HS; replace HB := Blk.fr HB f (fun h => HG.out.1 h.symm); replace HQ := Blk.fr HQ f (fun h => HG.out.2 h.symm); replace FW := hid (FW.out.trans f); obtain ⟨⟨c0, z0⟩, ⟨c1, z1⟩, ⟨c2, z2⟩, ⟨c3, z3⟩, ⟨c4, z4⟩⟩ := r5 HB; clear f; dsimp only)
  clear c0 c1 c2 c3 c4 z0 z1 z2 z3 z4
  replace HS := RdO.ap HS D 2 (.bool b) HUD.out
  replace HB := show Blk _ D 48 #[.int .i64 0, .int .i64 0, .bool b, .int .i64 0, .slice none 0 0] from Blk.set_ HB 2 (.bool b)
  replace HQ := Blk.far HQ (p := ⟨D, 2, none⟩) (fun h => HN.out h.symm) (.bool b)
  replace FW := hid (FW.out.setCell (p := ⟨D, 2, none⟩) (fun h => absurd h (by simp only []; omega)) (.bool b))
  generalize World.setCell _ ⟨D, 2, none⟩ (.bool b) = w2 at HS HB HQ FW ⊢
  obtain ⟨⟨v1, s1⟩, h1⟩ : ∃ v, gi 1 0 6 s0 = v := ⟨_, rfl⟩
  go_upto_region 4 with (go_at_call 57; refine (int_rd g 1 0 6 B U s0 _ (by decide) HS).mono ?_; rintro e' w2 ⟨rfl, HS, f⟩; rw [h1] at HS ⊢; dsimp only at HS; replace HB := Blk.fr HB f (fun h => HG.out.1 h.symm); replace HQ := Blk.fr HQ f (fun h => HG.out.2 h.symm); replace FW := hid (FW.out.trans f); obtain ⟨⟨c0, z0⟩, ⟨c1, z1⟩, ⟨c2, z2⟩, ⟨c3, z3⟩, ⟨c4, z4⟩⟩ := r5 HB; clear f; dsimp only)
  clear c0 c1 c2 c3 c4 z0 z1 z2 z3 z4
  obtain ⟨⟨v2, s2⟩, h2⟩ : ∃ v, gi 4 1 2147483648 s1 = v := ⟨_, rfl⟩
  go_upto_region 5 with (go_at_call 57; refine (int_rd g 4 1 2147483648 B U s1 _ (by decide) HS).mono ?_; rintro e' w2 ⟨rfl, HS, f⟩; rw [h2] at HS ⊢; dsimp only at HS; replace HB := Blk.fr HB f (fun h => HG.out.1 h.symm); replace HQ := Blk.fr HQ f (fun h => HG.out.2 h.symm); replace FW := hid (FW.out.trans f); obtain ⟨⟨c0, z0⟩, ⟨c1, z1⟩, ⟨c2, z2⟩, ⟨c3, z3⟩, ⟨c4, z4⟩⟩ := r5 HB; clear f; dsimp only)
  clear c0 c1 c2 c3 c4 z0 z1 z2 z3 z4
  replace HS := RdO.ap HS D 0 (.int .i64 v2) HUD.out
  replace HB := show Blk _ D 48 #[.int .i64 v2, .int .i64 0, .bool b, .int .i64 0, .slice none 0 0] from Blk.set_ HB 0 (.int .i64 v2)
  replace HQ := Blk.far HQ (p := ⟨D, 0, none⟩) (fun h => HN.out h.symm) (.int .i64 v2)
  replace FW := hid (FW.out.setCell (p := ⟨D, 0, none⟩) (fun h => absurd h (by simp only []; omega)) (.int .i64 v2))
  generalize World.setCell _ ⟨D, 0, none⟩ (.int .i64 v2) = w2 at HS HB HQ FW ⊢
  obtain ⟨⟨v3, s3⟩, h3⟩ : ∃ v, gi 8 0 1099511627776 s2 = v := ⟨_, rfl⟩
  go_upto_region 6 with (go_at_call 57; refine (int_rd g 8 0 1099511627776 B U s2 _ (by decide) HS).mono ?_; rintro e' w2 ⟨rfl, HS, f⟩; rw [h3] at HS ⊢; dsimp only at HS; replace HB := Blk.fr HB f (fun h => HG.out.1 h.symm); replace HQ := Blk.fr HQ f (fun h => HG.out.2 h.symm); replace FW := hid (FW.out.trans f); obtain ⟨⟨c0, z0⟩, ⟨c1, z1⟩, ⟨c2, z2⟩, ⟨c3, z3⟩, ⟨c4, z4⟩⟩ := r5 HB; clear f; dsimp only)
  clear c0 c1 c2 c3 c4 z0 z1 z2 z3 z4
  replace HS := RdO.ap HS D 1 (.int .i64 v3) HUD.out
  replace HB := show Blk _ D 48 #[.int .i64 v2, .int .i64 v3, .bool b, .int .i64 0, .slice none 0 0] from Blk.set_ HB 1 (.int .i64 v3)
  replace HQ := Blk.far HQ (p := ⟨D, 1, none⟩) (fun h => HN.out h.symm) (.int .i64 v3)
  replace FW := hid (FW.out.setCell (p := ⟨D, 1, none⟩) (fun h => absurd h (by simp only []; omega)) (.int .i64 v3))
  generalize World.setCell _ ⟨D, 1, none⟩ (.int .i64 v3) = w2 at HS HB HQ FW ⊢
  obtain ⟨⟨v4, s4⟩, h4⟩ : ∃ v, gi 8 0 1099511627776 s3 = v := ⟨_, rfl⟩
  go_upto_region 7 with (go_at_call 57; refine (int_rd g 8 0 1099511627776 B U s3 _ (by decide) HS).mono ?_; rintro e' w2 ⟨rfl, HS, f⟩; rw [h4] at HS ⊢; dsimp only at HS; replace HB := Blk.fr HB f (fun h => HG.out.1 h.symm); replace HQ := Blk.fr HQ f (fun h => HG.out.2 h.symm); replace FW := hid (FW.out.trans f); obtain ⟨⟨c0, z0⟩, ⟨c1, z1⟩, ⟨c2, z2⟩, ⟨c3, z3⟩, ⟨c4, z4⟩⟩ := r5 HB; clear f; dsimp only)
  clear c0 c1 c2 c3 c4 z0 z1 z2 z3 z4
  replace HS := RdO.ap HS D 3 (.int .i64 v4) HUD.out
  replace HB := show Blk _ D 48 #[.int .i64 v2, .int .i64 v3, .bool b, .int .i64 v4, .slice none 0 0] from Blk.set_ HB 3 (.int .i64 v4)
  replace HQ := Blk.far HQ (p := ⟨D, 3, none⟩) (fun h => HN.out h.symm) (.int .i64 v4)
  replace FW := hid (FW.out.setCell (p := ⟨D, 3, none⟩) (fun h => absurd h (by simp only []; omega)) (.int .i64 v4))
  generalize World.setCell _ ⟨D, 3, none⟩ (.int .i64 v4) = w2 at HS HB HQ FW ⊢
  have HNv : Hid (0 ≤ v1 ∧ v1 ≤ 6) := hid (by have := HNN.out; simp only [h0, h1] at this; exact this)
  obtain ⟨N, hN⟩ : ∃ N : Nat, v1 = N := ⟨v1.toNat, by have := HNv.out; omega⟩
  subst hN
  have HN6 := hid (show N ≤ 6 by have := HNv.out; omega)
  obtain rfl : P = (⟨v2, v3, b, v4, (pDs N s4).1⟩, (pDs N s4).2) := by rw [← HP.out]; simp only [h0, h1, h2, h3, h4, Int.toNat_natCast, ← hb]; rfl
  clear hb HNN HP
  go_wp2_with fail
  go_loopw [21] (fun i wr => ∃ k : Nat, k ≤ N ∧ i = .int .i64 k ∧ RdO wr B U g (pDs k s4).2 ∧ Blk wr R 48 #[.int .i64 0, .int .i64 0, .bool false, .int .i64 0, .slice none 0 0] ∧ (∃ A c, Blk wr D 48 #[.int .i64 v2, .int .i64 v3, .bool b, .int .i64 v4, .slice A k c] ∧ DOut (D + 1) wr (.slice A k c) (pDs k s4).1) ∧ Fr (fun k => k = g) w wr) (fun i _ => N - (intOf i).toNat)
  case atStart => exact ⟨0, by omega, rfl, HS, HQ, ⟨none, 0, HB, DOut.nil _ _⟩, FW.out⟩
  case round =>
    clear HS HQ HB FW
    obtain ⟨k, hk, rfl, HS, HQ, ⟨A, c, HB, HD⟩, hf⟩ := hrel
    have FW := hid hf
    clear hf
    by_cases hlt : k < N
    · have hlt3 : (k : Int) < (N : Int) := by omega
      have h0k : (0 : Int) ≤ k := by omega
      obtain ⟨⟨c0, z0⟩, ⟨c1, z1⟩, ⟨c2, z2⟩, ⟨c3, z3⟩, ⟨c4, z4⟩⟩ := r5 HB
      have HPD := hid (pDs_snoc k s4)
      obtain ⟨⟨ds0, sk⟩, hsk⟩ : ∃ v, pDs k s4 = v := ⟨_, rfl⟩
      have hdl : ds0.length = k := by have := pDs_len k s4; rw [hsk] at this; exact this
      rw [hsk] at HS HD HPD
      dsimp only at HS HD HPD
      obtain ⟨⟨d, sn⟩, hsn⟩ : ∃ v, pD sk = v := ⟨_, rfl⟩
      rw [hsn] at HPD
      obtain ⟨dk, da, dn, dz, dq⟩ := d
      have HS := HS.drew
      have HDD := hid HD
      have HBB := hid HB
      have HQQ := hid HQ
      have HDL := hid hdl
      clear hdl HD HB HQ hsk
      go_wp2_with fail
      have HUw := hid (show ∀ k, U k → k < wr.heap.size from fun k h => by have := HU.out k h; have := FW.out.size; omega)
      go_region_law (first | (refine step_wanted rfl ?_; go_simp; go_at_call 84; (refine (takeDelta_ok g B U sk _ HS HUw.out).mono ?_; rintro e' w5 ⟨rfl, HS, f⟩; rw [hsn] at HS ⊢; dsimp only at HS; have HB5 := hid (Blk.fr (Blk.drew HBB.out) f (fun h => HG.out.1 h.symm)); have HQ5 := hid (Blk.fr (Blk.drew HQQ.out) f (fun h => HG.out.2 h.symm)); have HD5 := hid (HDD.out.fr ((Fr.refl (fun k => k = g) wr).drew.trans f) (fun k hk e => by have := (own_ge HDD.out k hk).1; have := HGD.out; omega)); have FW5 := hid (FW.out.drew.trans f); obtain ⟨_, _, _, _, ⟨g4, x4⟩⟩ := r5 HB5.out; have ga : ∀ o, (w5.alloc o).cell? ⟨D, 4, none⟩ = some (.slice A k c) := (fun o => (HB5.out.alloc o).cell 4); clear f; dsimp only)) | (refine app_d_step rfl (.tmp 24) (.tmp 27) rfl (D + 1) (.slice A k c) ds0 (by simp [Act.eval, Act.put]) (HD5.out.fr ((Fr.refl No w5).alloc _) (fun _ _ h => h)) (some ⟨w5.heap.size, 0, none⟩) 1 1 [⟨dk, da, dn, dz, dq⟩] (by simp [Act.eval, Act.put]) (lit_d w5 _) (by have := HDL.out; have := HN6.out; omega) (by have := Blk.lt HB5.out; simp; omega) ?_; intro A1 k1 w6 hown6 hf6; have hb6 := Blk.fr (HB5.out.alloc (dx dk da dn dz dq)) hf6 (fun h => by have := (own_ge HD5.out _ h).1; omega); obtain ⟨_, _, _, _, ⟨e4, y4⟩⟩ := r5 hb6; have HB6 := hid hb6; have HO6 := hid hown6; have HF6 := hid hf6; clear hown6 hf6 hb6))
      all_goals
        obtain ⟨W7, hW7⟩ : ∃ W7, w6.setCell ⟨D, 4, none⟩ (.slice A1 (ds0.length + 1) k1) = W7 := ⟨_, rfl⟩
        have HS7 : RdO W7 B U g sn := by rw [← hW7]; exact RdO.ap ((HS.fr (S := No) ((Fr.refl No w5).alloc _) (fun _ _ h => h)).fr HF6.out (fun q hq h => by have := (own_ge HD5.out q h).1; have := HU.out q hq; omega)) D 4 _ HUD.out
        have HQ7 : Blk W7 R 48 #[.int .i64 0, .int .i64 0, .bool false, .int .i64 0, .slice none 0 0] := by rw [← hW7]; exact Blk.far (Blk.fr (HQ5.out.alloc _) HF6.out (fun h => by have := (own_ge HD5.out _ h).1; omega)) (p := ⟨D, 4, none⟩) (fun h => HN.out h.symm) _
        have HB7 : Blk W7 D 48 #[.int .i64 v2, .int .i64 v3, .bool b, .int .i64 v4, .slice A1 (ds0.length + 1) k1] := by rw [← hW7]; exact HB6.out.set_ 4 _
        have HO7 : DOut (D + 1) W7 (.slice A1 (ds0.length + 1) k1) (ds0 ++ [⟨dk, da, dn, dz, dq⟩]) := by rw [← hW7]; exact HO6.out.fr (Fr.set1 w6 D 4 _) (fun q hq h => by have := (own_ge HO6.out q hq).1; omega)
        have HF7 : Fr (fun k => k = g) w W7 := by rw [← hW7]; exact ((FW5.out.alloc _).step HF6.out (fun i hi h => by have := (own_ge HD5.out i h).1; omega)).setCell (p := ⟨D, 4, none⟩) (fun h => absurd h (by simp only []; omega)) _
        have HDL2 := HDL.out
        subst HDL2
        have hN6 := HN6.out
        rw [hW7]
        clear hW7
        go_wp2
        go_roundw
        case rel => exact ⟨ds0.length + 1, by omega, by go_num, by rw [HPD.out]; exact HS7, HQ7, ⟨A1, k1, HB7, by rw [HPD.out]; exact HO7⟩, HF7⟩
        case measure => simp [intOf]; omega
    · obtain rfl : k = N := by omega
      obtain ⟨⟨c0, z0⟩, ⟨c1, z1⟩, ⟨c2, z2⟩, ⟨c3, z3⟩, ⟨c4, z4⟩⟩ := r5 HB
      have HLEN := hid (pDs_len k s4)
      go_wp2_with (refine st_5 info5r rfl (.tmp 2) (.tmp 31) rfl R rfl rfl (by simp [Value.oneCell']) HQ rfl ?_; intro w4 HQ4 f4; replace HS := HS.fr f4 (fun k hk e => HUR.out (e ▸ hk)); have HD4 := hid (HD.fr f4 (fun k hk e => by have := (own_ge HD k hk).1; omega)); have FW4 := hid (FW.out.step f4 (fun i hi e => absurd hi (by omega))); clear f4)
      refine bodyPost_ret (v := rv v2 v3 b v4 A k c) (results_cell_row rfl _ _ R 48 _ (0, 0) _ rfl HQ4 Tryd.underlying48 rfl info5r) rfl ?_
      rw [HLEN.out]
      exact ⟨A, ⟨c, rfl⟩, HN6.out, DOut.rd HLEN.out.symm HD4.out, HS, FW4.out, fun q o h => by subst h; have := (own_ge HD4.out q rfl).1; omega⟩
end Go.Proofs.YtdepkpdolkipcaaDoor.RcJ
