/- Contracts: the document's own pool: Set. Conditions: it lies in memory as PlB says; numbers of zones and the geometry's Seq have 64 bits. -/
import Derived.Test.YtecngikdfplibaaPlN
namespace Go.Proofs.Ytecngikdfplibaa.PlS
open Go.RowKit MSep MSepC MGeM GeA PlM PlA PlB PlC PlD PlE PlH PlI PlJ PlK PlN

set_option maxRecDepth 100000 in
set_option maxHeartbeats 4000000 in
theorem rset_lo (x : Nat) (A : Option Addr) (cp : Nat) (c s n l k : Int) (R : List Int) (z r : Int) (w : World) (hX : QA w x A cp c s n l k R) (hm : mayG ⟨c, s, n, l, k⟩) (h : z < c) : Calls Try.prog 35 #[.pointer (some ⟨x, 0, none⟩), .int .i64 z, .int .i64 r] w fun e w' => e = .returned (.int .i64 1) ∧ Fr No w w' := by
  obtain ⟨⟨m1, m2⟩, ⟨m3, m4⟩, _⟩ := may_in hm
  obtain ⟨d0, d1, d2, d3, d4, d5⟩ := hX.cells
  have hd : decide (z < c) = true := decide_eq_true h
  clear hX hm m1 m2 m3 m4
  go_enter Try.func35, Try.ntmps35
  go_upto_region 1 with fail
  go_quiet (fail)
  go_wp2
  go_ret
  exact ⟨rfl, (Fr.refl No w).drewN _⟩
set_option maxRecDepth 100000 in
set_option maxHeartbeats 4000000 in
theorem rset_hi (x : Nat) (A : Option Addr) (cp : Nat) (c s n l k : Int) (R : List Int) (z r : Int) (w : World) (hX : QA w x A cp c s n l k R) (hm : mayG ⟨c, s, n, l, k⟩) (h : ¬ z < c) (h2 : c + s ≤ z) : Calls Try.prog 35 #[.pointer (some ⟨x, 0, none⟩), .int .i64 z, .int .i64 r] w fun e w' => e = .returned (.int .i64 1) ∧ Fr No w w' := by
  obtain ⟨⟨m1, m2⟩, ⟨m3, m4⟩, _⟩ := may_in hm
  obtain ⟨d0, d1, d2, d3, d4, d5⟩ := hX.cells
  have hd := gtf h
  have hw : wrap64 (c + s) = c + s := w64 _ (by omega)
  have hd2 : decide (c + s ≤ z) = true := decide_eq_true h2
  clear hX hm m1 m2 m3 m4
  go_enter Try.func35, Try.ntmps35
  go_upto_region 1 with fail
  go_quiet (fail)
  go_wp2
  go_ret
  exact ⟨rfl, (Fr.refl No w).drewN _⟩
set_option maxRecDepth 100000 in
set_option maxHeartbeats 4000000 in
theorem rset_nf (x : Nat) (A : Option Addr) (cp : Nat) (c s n l k : Int) (R : List Int) (b z r : Int) (i : Nat) (y : Int) (w : World) (hX : QA w x A cp c s n l k R) (hm : mayG ⟨c, s, n, l, k⟩) (hb : s - k - 1 = b) (hl : (R.length : Int) = s) (h : ¬ z < c) (h2 : ¬ c + s ≤ z) (hi : z - c = i) (hg : R[i]? = some y) (hf : ¬ fol y r) : Calls Try.prog 35 #[.pointer (some ⟨x, 0, none⟩), .int .i64 z, .int .i64 r] w fun e w' => e = .returned (.int .i64 141) ∧ Fr No w w' := by
  obtain ⟨⟨m1, m2⟩, ⟨m3, m4⟩, _⟩ := may_in hm
  have hlt := (List.getElem?_eq_some_iff.1 hg).1
  obtain ⟨g, oo, hA, _, hc⟩ := hX.rd.at_ (by omega)
  subst hA
  have hy := hc i y hg
  clear hc
  have HL := hid (fun w => rl_y c s n l k w hm)
  rw [hb] at HL
  obtain ⟨d0, d1, d2, d3, d4, d5⟩ := hX.cells
  have hd := gtf h
  have hw : wrap64 (c + s) = c + s := w64 _ (by omega)
  have hd2 : decide (c + s ≤ z) = false := decide_eq_false h2
  have hw2 : wrap64 (z - c) = i := by rw [hi]; exact w64 _ (by omega)
  have HM := hid (fun W => rmay_ok y r false W (by simp [hf]))
  have HX := hid hX
  have HLN := hid (show R.length ≤ 1000000 by omega)
  have HLT := hid hlt
  have HLO := hid hg
  have hi2 : (i : Int) < (R.length : Int) := by omega
  clear hX hm hb hl h h2 hi hg hlt hf m1 m2 m3 m4
  go_enter Try.func35, Try.ntmps35
  go_upto_region 1 with fail
  go_quiet (fail)
  obtain ⟨V, hV, HF⟩ : ∃ V, w.drewN _ = V ∧ Hid (Fr No w V) := ⟨_, rfl, hid ((Fr.refl No w).drewN _)⟩
  rw [hV]
  replace HX := hid (HX.out.fr0 HF.out)
  clear d0 d1 d2 d3 d4 d5 hV hy
  obtain ⟨d0, d1, d2, d3, d4, d5⟩ := HX.out.cells
  go_upto_region 5 with (first | ((with_reducible refine ld_pg rfl (.tmp 43) rfl x ?_ HX.out.range ?_); · rfl) | (go_at_call 16; refine (HL.out _).mono ?_; rintro e w1 ⟨⟨la, lr, lq, ld, lt, lx, lu, rfl⟩, f⟩; replace HX := hid (HX.out.fr0 f); replace HF := hid (HF.out.trans f); clear f d0 d1 d2 d3 d4 d5))
  obtain ⟨V1, hW⟩ : ∃ W, w1.alloc (.cells #[.int .i64 la, .int .i64 lr, .int .i64 lq, .int .i64 b, .int .i64 ld, .int .i64 lt, .int .i64 lx, .int .i64 lu] 32) = W := ⟨_, rfl⟩
  have m3 : V1.cell? ⟨w1.heap.size, 3, none⟩ = some (.int .i64 b) := by rw [← hW]; exact Blk.cell (Blk.new w1 _ _) 3
  have fw1 : Fr No w1 V1 := by rw [← hW]; exact (Fr.refl No w1).alloc _
  replace HX := hid (HX.out.fr0 fw1)
  replace HF := hid (HF.out.trans fw1)
  obtain ⟨d0, d1, d2, d3, d4, d5⟩ := HX.out.cells
  obtain ⟨M, hM⟩ : ∃ M, w1.heap.size = M := ⟨_, rfl⟩
  rw [hW]
  try rw [hM] at m3 ⊢
  have hyc : V1.cell? ⟨g, oo + i, none⟩ = some (.int .i64 y) := by
    obtain ⟨g2, oo2, h1, _, h2⟩ := HX.out.rd.at_ (by have := HLT.out; omega)
    cases h1
    exact h2 i y HLO.out
  clear hW hM fw1
  go_quiet (first | (go_at_call 69; exact Calls.quiet_of_same (HM.out _)) | (go_at_call 66; exact Calls.quiet_of_same (rcount_ok x _ cp c s n l k R _ _ (HX.out.fr0 ((Fr.refl _ _).drewN _)) HLN.out)))
  go_wp2
  go_ret
  exact ⟨rfl, HF.out.drewN _⟩
set_option maxRecDepth 100000 in
set_option maxHeartbeats 4000000 in
theorem rset_ok_ (x : Nat) (A : Option Addr) (cp : Nat) (c s n l k : Int) (R : List Int) (b z r : Int) (i : Nat) (y : Int) (w : World) (hX : QA w x A cp c s n l k R) (hm : mayG ⟨c, s, n, l, k⟩) (hb : s - k - 1 = b) (hl : (R.length : Int) = s) (h : ¬ z < c) (h2 : ¬ c + s ≤ z) (hi : z - c = i) (hg : R[i]? = some y) (hf : fol y r) (hr : (r == 1) = false) : Calls Try.prog 35 #[.pointer (some ⟨x, 0, none⟩), .int .i64 z, .int .i64 r] w fun e w' => ∃ A' cp', e = .returned (.int .i64 0) ∧ QA w' x A' cp' c s n l k (R.set i r) ∧ Nw w A A' R.length cp cp' ∧ Fr (fun g => g = x) w w' := by
  obtain ⟨⟨m1, m2⟩, ⟨m3, m4⟩, _⟩ := may_in hm
  have hlt := (List.getElem?_eq_some_iff.1 hg).1
  obtain ⟨g, oo, hA, _, hc⟩ := hX.rd.at_ (by omega)
  subst hA
  have hy := hc i y hg
  clear hc
  have HL := hid (fun w => rl_y c s n l k w hm)
  rw [hb] at HL
  obtain ⟨d0, d1, d2, d3, d4, d5⟩ := hX.cells
  have hd := gtf h
  have hw : wrap64 (c + s) = c + s := w64 _ (by omega)
  have hd2 : decide (c + s ≤ z) = false := decide_eq_false h2
  have hw2 : wrap64 (z - c) = i := by rw [hi]; exact w64 _ (by omega)
  have HM := hid (fun W => rmay_ok y r true W (by simp [hf]))
  have HX := hid hX
  have HLN := hid (show R.length ≤ 1000000 by omega)
  have HLT := hid hlt
  have HLO := hid hg
  have hi2 : (i : Int) < (R.length : Int) := by omega
  clear hX hm hb hl h h2 hi hg hlt hf m1 m2 m3 m4
  go_enter Try.func35, Try.ntmps35
  go_upto_region 1 with fail
  go_quiet (fail)
  obtain ⟨V, hV, HF⟩ : ∃ V, w.drewN _ = V ∧ Hid (Fr No w V) := ⟨_, rfl, hid ((Fr.refl No w).drewN _)⟩
  rw [hV]
  replace HX := hid (HX.out.fr0 HF.out)
  clear d0 d1 d2 d3 d4 d5 hV hy
  obtain ⟨d0, d1, d2, d3, d4, d5⟩ := HX.out.cells
  go_upto_region 5 with (first | ((with_reducible refine ld_pg rfl (.tmp 43) rfl x ?_ HX.out.range ?_); · rfl) | (go_at_call 16; refine (HL.out _).mono ?_; rintro e w1 ⟨⟨la, lr, lq, ld, lt, lx, lu, rfl⟩, f⟩; replace HX := hid (HX.out.fr0 f); replace HF := hid (HF.out.trans f); clear f d0 d1 d2 d3 d4 d5))
  obtain ⟨V1, hW⟩ : ∃ W, w1.alloc (.cells #[.int .i64 la, .int .i64 lr, .int .i64 lq, .int .i64 b, .int .i64 ld, .int .i64 lt, .int .i64 lx, .int .i64 lu] 32) = W := ⟨_, rfl⟩
  have m3 : V1.cell? ⟨w1.heap.size, 3, none⟩ = some (.int .i64 b) := by rw [← hW]; exact Blk.cell (Blk.new w1 _ _) 3
  have fw1 : Fr No w1 V1 := by rw [← hW]; exact (Fr.refl No w1).alloc _
  replace HX := hid (HX.out.fr0 fw1)
  replace HF := hid (HF.out.trans fw1)
  obtain ⟨d0, d1, d2, d3, d4, d5⟩ := HX.out.cells
  obtain ⟨M, hM⟩ : ∃ M, w1.heap.size = M := ⟨_, rfl⟩
  rw [hW]
  try rw [hM] at m3 ⊢
  have hyc : V1.cell? ⟨g, oo + i, none⟩ = some (.int .i64 y) := by
    obtain ⟨g2, oo2, h1, _, h2⟩ := HX.out.rd.at_ (by have := HLT.out; omega)
    cases h1
    exact h2 i y HLO.out
  clear hW hM fw1
  go_quiet (first | (go_at_call 69; exact Calls.quiet_of_same (HM.out _)) | (go_at_call 66; exact Calls.quiet_of_same (rcount_ok x _ cp c s n l k R _ _ (HX.out.fr0 ((Fr.refl _ _).drewN _)) HLN.out)))
  obtain ⟨W, hV2, HF2⟩ : ∃ V, V1.drewN _ = V ∧ Hid (Fr No V1 V) := ⟨_, rfl, hid ((Fr.refl No V1).drewN _)⟩
  rw [hV2]
  replace HX := hid (HX.out.fr0 HF2.out)
  replace HF := hid (HF.out.trans HF2.out)
  clear d0 d1 d2 d3 d4 d5 hV2 hyc HF2 m3
  obtain ⟨d0, d1, d2, d3, d4, d5⟩ := HX.out.cells
  have O0 := hid (own_lit W)
  have q5 := fun o => kc (fr1 W o) d5
  have HXR := hid (HX.out.rd.fr ((Fr.refl No W).alloc (.cells #[] 3)))
  go_wp2_with (at_builtin; refine app_i rfl (.tmp 69) (.tmp 73) rfl W.heap.size _ [] rfl O0.out _ R.length _ R rfl HXR.out (by have := HLN.out; simp; omega) (by simp) ?_)
  intro A1 c1 w1 o1 f1
  try simp only [List.length_nil, Nat.zero_add, List.nil_append] at o1
  try simp only [List.length_nil, Nat.zero_add, List.nil_append]
  obtain ⟨g1, rfl, hg1, hg2⟩ := outI_at o1 (by have := HLT.out; omega)
  have F1 := hid (fr_ownI ((Fr.refl No W).alloc (.cells #[] 3)) (lit_ge W) (Nat.le_refl _) f1)
  have hq1 := HX.out.fr0 F1.out
  obtain ⟨e0, e1, e2, e3, e4, e5⟩ := hq1.cells
  have fx := hq1.hx.frozen 5
  have hxg : x ≠ g1 := by have := HX.out.hx.lt; omega
  have hgx := hxg.symm
  have ci := OutI.get rfl o1 HLO.out
  have fi := OutI.frozen o1 i
  have HS := hid (QA.store (i := i) (r := r) hq1 o1 hxg)
  have HF2 := hid (store_fr (i := i) (x := x) (u := .int .i64 r) (v := .slice (some ⟨g1, 0, none⟩) R.length c1) (HF.out.trans F1.out) (Nat.le_trans HF.out.size hg1))
  have HN := hid (Nw.new (Nat.le_trans HF.out.size hg1) (some ⟨g, oo, none⟩) R.length cp c1)
  clear o1 f1 hq1 q5 d0 d1 d2 d3 d4 d5
  go_wp2
  go_ret
  exact ⟨some ⟨g1, 0, none⟩, c1, rfl, HS.out, HN.out, HF2.out⟩
set_option maxRecDepth 100000 in
set_option maxHeartbeats 4000000 in
theorem rset_h1 (x : Nat) (A : Option Addr) (cp : Nat) (c s n l k : Int) (R : List Int) (b z : Int) (i : Nat) (y : Int) (w : World) (hX : QA w x A cp c s n l k R) (hm : mayG ⟨c, s, n, l, k⟩) (hb : s - k - 1 = b) (hl : (R.length : Int) = s) (h : ¬ z < c) (h2 : ¬ c + s ≤ z) (hi : z - c = i) (hg : R[i]? = some y) (hf : fol y 1) (hk : b ≤ (cnt R 1 : Int)) : Calls Try.prog 35 #[.pointer (some ⟨x, 0, none⟩), .int .i64 z, .int .i64 1] w fun e w' => e = .returned (.int .i64 141) ∧ Fr No w w' := by
  obtain ⟨⟨m1, m2⟩, ⟨m3, m4⟩, _⟩ := may_in hm
  have hlt := (List.getElem?_eq_some_iff.1 hg).1
  obtain ⟨g, oo, hA, _, hc⟩ := hX.rd.at_ (by omega)
  subst hA
  have hy := hc i y hg
  clear hc
  have HL := hid (fun w => rl_y c s n l k w hm)
  rw [hb] at HL
  obtain ⟨d0, d1, d2, d3, d4, d5⟩ := hX.cells
  have hd := gtf h
  have hw : wrap64 (c + s) = c + s := w64 _ (by omega)
  have hd2 : decide (c + s ≤ z) = false := decide_eq_false h2
  have hw2 : wrap64 (z - c) = i := by rw [hi]; exact w64 _ (by omega)
  have HM := hid (fun W => rmay_ok y 1 true W (by simp [hf]))
  have HX := hid hX
  have HLN := hid (show R.length ≤ 1000000 by omega)
  have HLT := hid hlt
  have HLO := hid hg
  have hi2 : (i : Int) < (R.length : Int) := by omega
  clear hX hm hb hl h h2 hi hg hlt hf m1 m2 m3 m4
  have hd3 : decide (b ≤ (cnt R 1 : Int)) = true := decide_eq_true hk
  go_enter Try.func35, Try.ntmps35
  go_upto_region 1 with fail
  go_quiet (fail)
  obtain ⟨V, hV, HF⟩ : ∃ V, w.drewN _ = V ∧ Hid (Fr No w V) := ⟨_, rfl, hid ((Fr.refl No w).drewN _)⟩
  rw [hV]
  replace HX := hid (HX.out.fr0 HF.out)
  clear d0 d1 d2 d3 d4 d5 hV hy
  obtain ⟨d0, d1, d2, d3, d4, d5⟩ := HX.out.cells
  go_upto_region 5 with (first | ((with_reducible refine ld_pg rfl (.tmp 43) rfl x ?_ HX.out.range ?_); · rfl) | (go_at_call 16; refine (HL.out _).mono ?_; rintro e w1 ⟨⟨la, lr, lq, ld, lt, lx, lu, rfl⟩, f⟩; replace HX := hid (HX.out.fr0 f); replace HF := hid (HF.out.trans f); clear f d0 d1 d2 d3 d4 d5))
  obtain ⟨V1, hW⟩ : ∃ W, w1.alloc (.cells #[.int .i64 la, .int .i64 lr, .int .i64 lq, .int .i64 b, .int .i64 ld, .int .i64 lt, .int .i64 lx, .int .i64 lu] 32) = W := ⟨_, rfl⟩
  have m3 : V1.cell? ⟨w1.heap.size, 3, none⟩ = some (.int .i64 b) := by rw [← hW]; exact Blk.cell (Blk.new w1 _ _) 3
  have fw1 : Fr No w1 V1 := by rw [← hW]; exact (Fr.refl No w1).alloc _
  replace HX := hid (HX.out.fr0 fw1)
  replace HF := hid (HF.out.trans fw1)
  obtain ⟨d0, d1, d2, d3, d4, d5⟩ := HX.out.cells
  obtain ⟨M, hM⟩ : ∃ M, w1.heap.size = M := ⟨_, rfl⟩
  rw [hW]
  try rw [hM] at m3 ⊢
  have hyc : V1.cell? ⟨g, oo + i, none⟩ = some (.int .i64 y) := by
    obtain ⟨g2, oo2, h1, _, h2⟩ := HX.out.rd.at_ (by have := HLT.out; omega)
    cases h1
    exact h2 i y HLO.out
  clear hW hM fw1
  go_quiet (first | (go_at_call 69; exact Calls.quiet_of_same (HM.out _)) | (go_at_call 66; exact Calls.quiet_of_same (rcount_ok x _ cp c s n l k R _ _ (HX.out.fr0 ((Fr.refl _ _).drewN _)) HLN.out)))
  go_wp2
  go_ret
  exact ⟨rfl, HF.out.drewN _⟩
set_option maxRecDepth 100000 in
set_option maxHeartbeats 4000000 in
theorem rset_h0 (x : Nat) (A : Option Addr) (cp : Nat) (c s n l k : Int) (R : List Int) (b z : Int) (i : Nat) (y : Int) (w : World) (hX : QA w x A cp c s n l k R) (hm : mayG ⟨c, s, n, l, k⟩) (hb : s - k - 1 = b) (hl : (R.length : Int) = s) (h : ¬ z < c) (h2 : ¬ c + s ≤ z) (hi : z - c = i) (hg : R[i]? = some y) (hf : fol y 1) (hk : ¬ b ≤ (cnt R 1 : Int)) : Calls Try.prog 35 #[.pointer (some ⟨x, 0, none⟩), .int .i64 z, .int .i64 1] w fun e w' => ∃ A' cp', e = .returned (.int .i64 0) ∧ QA w' x A' cp' c s n l k (R.set i 1) ∧ Nw w A A' R.length cp cp' ∧ Fr (fun g => g = x) w w' := by
  obtain ⟨⟨m1, m2⟩, ⟨m3, m4⟩, _⟩ := may_in hm
  have hlt := (List.getElem?_eq_some_iff.1 hg).1
  obtain ⟨g, oo, hA, _, hc⟩ := hX.rd.at_ (by omega)
  subst hA
  have hy := hc i y hg
  clear hc
  have HL := hid (fun w => rl_y c s n l k w hm)
  rw [hb] at HL
  obtain ⟨d0, d1, d2, d3, d4, d5⟩ := hX.cells
  have hd := gtf h
  have hw : wrap64 (c + s) = c + s := w64 _ (by omega)
  have hd2 : decide (c + s ≤ z) = false := decide_eq_false h2
  have hw2 : wrap64 (z - c) = i := by rw [hi]; exact w64 _ (by omega)
  have HM := hid (fun W => rmay_ok y 1 true W (by simp [hf]))
  have HX := hid hX
  have HLN := hid (show R.length ≤ 1000000 by omega)
  have HLT := hid hlt
  have HLO := hid hg
  have hi2 : (i : Int) < (R.length : Int) := by omega
  clear hX hm hb hl h h2 hi hg hlt hf m1 m2 m3 m4
  have hd3 : decide (b ≤ (cnt R 1 : Int)) = false := decide_eq_false hk
  go_enter Try.func35, Try.ntmps35
  go_upto_region 1 with fail
  go_quiet (fail)
  obtain ⟨V, hV, HF⟩ : ∃ V, w.drewN _ = V ∧ Hid (Fr No w V) := ⟨_, rfl, hid ((Fr.refl No w).drewN _)⟩
  rw [hV]
  replace HX := hid (HX.out.fr0 HF.out)
  clear d0 d1 d2 d3 d4 d5 hV hy
  obtain ⟨d0, d1, d2, d3, d4, d5⟩ := HX.out.cells
  go_upto_region 5 with (first | ((with_reducible refine ld_pg rfl (.tmp 43) rfl x ?_ HX.out.range ?_); · rfl) | (go_at_call 16; refine (HL.out _).mono ?_; rintro e w1 ⟨⟨la, lr, lq, ld, lt, lx, lu, rfl⟩, f⟩; replace HX := hid (HX.out.fr0 f); replace HF := hid (HF.out.trans f); clear f d0 d1 d2 d3 d4 d5))
  obtain ⟨V1, hW⟩ : ∃ W, w1.alloc (.cells #[.int .i64 la, .int .i64 lr, .int .i64 lq, .int .i64 b, .int .i64 ld, .int .i64 lt, .int .i64 lx, .int .i64 lu] 32) = W := ⟨_, rfl⟩
  have m3 : V1.cell? ⟨w1.heap.size, 3, none⟩ = some (.int .i64 b) := by rw [← hW]; exact Blk.cell (Blk.new w1 _ _) 3
  have fw1 : Fr No w1 V1 := by rw [← hW]; exact (Fr.refl No w1).alloc _
  replace HX := hid (HX.out.fr0 fw1)
  replace HF := hid (HF.out.trans fw1)
  obtain ⟨d0, d1, d2, d3, d4, d5⟩ := HX.out.cells
  obtain ⟨M, hM⟩ : ∃ M, w1.heap.size = M := ⟨_, rfl⟩
  rw [hW]
  try rw [hM] at m3 ⊢
  have hyc : V1.cell? ⟨g, oo + i, none⟩ = some (.int .i64 y) := by
    obtain ⟨g2, oo2, h1, _, h2⟩ := HX.out.rd.at_ (by have := HLT.out; omega)
    cases h1
    exact h2 i y HLO.out
  clear hW hM fw1
  go_quiet (first | (go_at_call 69; exact Calls.quiet_of_same (HM.out _)) | (go_at_call 66; exact Calls.quiet_of_same (rcount_ok x _ cp c s n l k R _ _ (HX.out.fr0 ((Fr.refl _ _).drewN _)) HLN.out)))
  obtain ⟨W, hV2, HF2⟩ : ∃ V, V1.drewN _ = V ∧ Hid (Fr No V1 V) := ⟨_, rfl, hid ((Fr.refl No V1).drewN _)⟩
  rw [hV2]
  replace HX := hid (HX.out.fr0 HF2.out)
  replace HF := hid (HF.out.trans HF2.out)
  clear d0 d1 d2 d3 d4 d5 hV2 hyc HF2 m3
  obtain ⟨d0, d1, d2, d3, d4, d5⟩ := HX.out.cells
  have O0 := hid (own_lit W)
  have q5 := fun o => kc (fr1 W o) d5
  have HXR := hid (HX.out.rd.fr ((Fr.refl No W).alloc (.cells #[] 3)))
  go_wp2_with (at_builtin; refine app_i rfl (.tmp 69) (.tmp 73) rfl W.heap.size _ [] rfl O0.out _ R.length _ R rfl HXR.out (by have := HLN.out; simp; omega) (by simp) ?_)
  intro A1 c1 w1 o1 f1
  try simp only [List.length_nil, Nat.zero_add, List.nil_append] at o1
  try simp only [List.length_nil, Nat.zero_add, List.nil_append]
  obtain ⟨g1, rfl, hg1, hg2⟩ := outI_at o1 (by have := HLT.out; omega)
  have F1 := hid (fr_ownI ((Fr.refl No W).alloc (.cells #[] 3)) (lit_ge W) (Nat.le_refl _) f1)
  have hq1 := HX.out.fr0 F1.out
  obtain ⟨e0, e1, e2, e3, e4, e5⟩ := hq1.cells
  have fx := hq1.hx.frozen 5
  have hxg : x ≠ g1 := by have := HX.out.hx.lt; omega
  have hgx := hxg.symm
  have ci := OutI.get rfl o1 HLO.out
  have fi := OutI.frozen o1 i
  have HS := hid (QA.store (i := i) (r := 1) hq1 o1 hxg)
  have HF2 := hid (store_fr (i := i) (x := x) (u := .int .i64 1) (v := .slice (some ⟨g1, 0, none⟩) R.length c1) (HF.out.trans F1.out) (Nat.le_trans HF.out.size hg1))
  have HN := hid (Nw.new (Nat.le_trans HF.out.size hg1) (some ⟨g, oo, none⟩) R.length cp c1)
  clear o1 f1 hq1 q5 d0 d1 d2 d3 d4 d5
  go_wp2
  go_ret
  exact ⟨some ⟨g1, 0, none⟩, c1, rfl, HS.out, HN.out, HF2.out⟩
theorem st_no {c s b : Int} {R : List Int} {z r v : Int} (h : stE c s b R z r = v) (hv : v ≠ 0) : stE c s b R z r = v ∧ stR c s b R z r = R := by
  have h0 : ¬ stE c s b R z r = 0 := by omega
  unfold stR
  exact ⟨h, if_neg h0⟩
theorem st_yes {c s b : Int} {R : List Int} {z r : Int} {i : Nat} (h : stE c s b R z r = 0) (hi : z - c = i) : stR c s b R z r = R.set i r := by
  unfold stR
  rw [if_pos h, hi, Int.toNat_natCast]
theorem rset_ok (x : Nat) (A : Option Addr) (cp : Nat) (c s n l k : Int) (R : List Int) (b z r : Int) (w : World) (hX : QA w x A cp c s n l k R) (hm : mayG ⟨c, s, n, l, k⟩) (hb : s - k - 1 = b) (hl : (R.length : Int) = s) : Calls Try.prog 35 #[.pointer (some ⟨x, 0, none⟩), .int .i64 z, .int .i64 r] w fun e w' => ∃ A' cp', e = .returned (.int .i64 (stE c s b R z r)) ∧ QA w' x A' cp' c s n l k (stR c s b R z r) ∧ Nw w A A' R.length cp cp' ∧ Fr (fun g => g = x) w w' := by
  have no : ∀ v : Int, stE c s b R z r = v → v ≠ 0 → (Calls Try.prog 35 #[.pointer (some ⟨x, 0, none⟩), .int .i64 z, .int .i64 r] w fun e w' => e = .returned (.int .i64 v) ∧ Fr No w w') → Calls Try.prog 35 #[.pointer (some ⟨x, 0, none⟩), .int .i64 z, .int .i64 r] w fun e w' => ∃ A' cp', e = .returned (.int .i64 (stE c s b R z r)) ∧ QA w' x A' cp' c s n l k (stR c s b R z r) ∧ Nw w A A' R.length cp cp' ∧ Fr (fun g => g = x) w w' := by
    intro v h hv hcall
    obtain ⟨t2, t3⟩ := st_no h hv
    rw [t2, t3]
    exact hcall.mono fun e w' h => ⟨A, cp, h.1, hX.fr0 h.2, Nw.refl _ _ _ _, h.2.mono fun _ _ h => h.elim⟩
  by_cases h : z < c
  · exact no 1 (by unfold stE; rw [if_neg (by omega)]) (by decide) (rset_lo x A cp c s n l k R z r w hX hm h)
  by_cases h2 : c + s ≤ z
  · exact no 1 (by unfold stE; rw [if_neg (by omega)]) (by decide) (rset_hi x A cp c s n l k R z r w hX hm h h2)
  obtain ⟨i, y, hi, hg, hd⟩ := getD_of hl (show c ≤ z ∧ z < c + s by omega)
  by_cases hf : fol y r
  · by_cases hr : r = 1
    · subst hr
      by_cases hk : b ≤ (cnt R 1 : Int)
      · exact no 141 (by unfold stE; rw [if_pos (by omega), hd, if_neg (fun h => h.2 ⟨rfl, hk⟩)]) (by decide) (rset_h1 x A cp c s n l k R b z i y w hX hm hb hl h h2 hi hg hf hk)
      · have e : stE c s b R z 1 = 0 := by unfold stE; rw [if_pos (by omega), hd, if_pos ⟨hf, fun h => hk h.2⟩]
        rw [e, st_yes e hi]
        exact rset_h0 x A cp c s n l k R b z i y w hX hm hb hl h h2 hi hg hf hk
    · have e : stE c s b R z r = 0 := by unfold stE; rw [if_pos (by omega), hd, if_pos ⟨hf, fun h => hr h.1⟩]
      rw [e, st_yes e hi]
      exact rset_ok_ x A cp c s n l k R b z r i y w hX hm hb hl h h2 hi hg hf (by simpa using hr)
  · exact no 141 (by unfold stE; rw [if_pos (by omega), hd, if_neg (fun h => hf h.1)]) (by decide) (rset_nf x A cp c s n l k R b z r i y w hX hm hb hl h h2 hi hg hf)
end Go.Proofs.Ytecngikdfplibaa.PlS
