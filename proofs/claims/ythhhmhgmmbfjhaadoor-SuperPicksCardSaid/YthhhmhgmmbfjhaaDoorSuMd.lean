/- Contract: what any bytes are as a superblock, by the document. Condition: they read as bytes. -/
import Derived.Test.YthhhmhgmmbfjhaaDoorSuM
namespace Go.Proofs.YthhhmhgmmbfjhaaDoor.SuMd
open Go.RowKit MSep MFrame MGeM GeA GeE LeW LeR LeY RdA SuA SuB SuD SuJ SuK SuM CrcA CrcM CrcE

set_option maxRecDepth 100000 in
set_option maxHeartbeats 8000000 in
theorem rdecS_ok (A : Option Addr) (l c : Nat) (zs : List Int) (w : World) (hb : IsB w A l c zs) :
    Calls Tryd.prog 21 #[.slice A l c] w fun E w' => E = .returned (.tuple #[spv (outS (decR zs)), .bool (decR zs).isSome]) ∧ Fr No w w' := by
  have hlen : zs.length = l := by simpa using hb.1.1
  obtain ⟨R, hR⟩ : ∃ R, w.heap.size = R := ⟨_, rfl⟩
  obtain ⟨w1, hw1⟩ : ∃ w1, w.alloc (.cells #[.int .i64 0, .int .i64 0, .int .i64 0, .int .i64 0, .int .i64 0, .int .i64 0, .int .i64 0, .int .i64 0, .int .i64 0, .bool false] 25) = w1 := ⟨_, rfl⟩
  have FW := hid (show Fr No w w1 by rw [← hw1]; exact (Fr.refl _ w).alloc _)
  have HQ : Blk w1 R 25 #[.int .i64 0, .int .i64 0, .int .i64 0, .int .i64 0, .int .i64 0, .int .i64 0, .int .i64 0, .int .i64 0, .int .i64 0, .bool false] := by
    rw [← hw1, ← hR]
    exact Blk.new w _ _
  have HS1 := hid (show w1.heap.size = R + 1 by rw [← hw1]; simp; omega)
  have HW1 := hid hw1
  have HI := hid (hb.fr FW.out)
  have HI0 := hid hb
  have HLEN := hid hlen
  clear hb hw1 hlen
  obtain ⟨V, hV⟩ : ∃ V, decR zs = V := ⟨_, rfl⟩
  rw [hV]
  by_cases hs : secOk zs = true
  · have HC : Hid ((l == 128 && ld zs 4 == onN 0 (zs.drop 4)) = true) := hid (by rw [← HLEN.out]; exact hs)
    have hl : l = 128 := by have := HC.out; simp only [Bool.and_eq_true, beq_iff_eq] at this; exact this.1
    subst hl
    have HVD := hid (show dR (zs.drop 4) = V by rw [← hV, decR, if_pos hs])
    clear hV hs
    obtain ⟨ga, oa, rfl, hga, _⟩ := HI0.out.1.2 (by omega)
    have hc4 : ¬ c = 4 := by have := HI.out.2.1; omega
    have HGA := hid (show ga < R by omega)
    have HR4 : Hid (Rd w1 (some ⟨ga, oa + 4, none⟩) 124 ((zs.drop 4).map (Value.int .u8))) := hid (by
      have := HI.out.1.cut (k := 4) (c := c) (by omega) HI.out.2.1
      unfold cutA at this
      rw [if_neg hc4] at this
      simpa [add_off, List.map_drop] using this)
    have HU8 := hid (show ∀ x ∈ zs.drop 4, 0 ≤ x ∧ x ≤ 255 from fun x hx => HI.out.2.2.2 x (List.mem_of_mem_drop hx))
    have HCC := hid HI.out.2
    have HD4 := hid (show (zs.drop 4).length = 124 by rw [List.length_drop, HLEN.out])
    obtain ⟨X, hX⟩ : ∃ X, zs.drop 4 = X := ⟨_, rfl⟩
    rw [hX] at HR4 HU8 HVD HD4
    clear hX hga
    have hc4l : (4 : Int) ≤ (128 : Nat) := by decide
    go_enter Tryd.func21, Tryd.ntmps21
    go_upto_region 1 with fail
    rw [show w.alloc (Obj.cells #[Value.int IntKind.i64 0, Value.int IntKind.i64 0, Value.int IntKind.i64 0, Value.int IntKind.i64 0, Value.int IntKind.i64 0, Value.int IntKind.i64 0, Value.int IntKind.i64 0, Value.int IntKind.i64 0, Value.int IntKind.i64 0, Value.bool false] 25) = w1 from HW1.out]
    try rw [hR]
    go_upto_region 3 with (go_at_call 63; refine (CrcF.refCheck_any _ _ _ zs _ HI.out).mono ?_; rintro e' w2 ⟨rfl, f2⟩; rw [HC.out]; replace FW := hid (FW.out.trans f2); replace HQ := Blk.fr HQ f2 (fun h => h); replace HR4 := hid (HR4.out.fr f2 (fun _ _ _ h => h)); clear f2)
    obtain ⟨g, hg⟩ : ∃ g, w2.heap.size = g := ⟨_, rfl⟩
    have HGR := hid (show R < g by have := Blk.lt HQ; omega)
    have HY := YdO.new (U := fun k => k = g ∨ k = ga) (g := g) (c := c - 4) (xs := X) (A := some ⟨ga, oa + 4, none⟩) (w := w2.alloc (.cells #[.slice (some ⟨ga, oa + 4, none⟩) 124 (c - 4), .bool false] 109)) (by rw [HD4.out, ← hg]; exact Blk.new w2 _ _) (by rw [HD4.out]; exact HR4.out.fr ((Fr.refl No w2).alloc _) (fun _ _ _ h => h)) (by have := HCC.out.1; have := HD4.out; omega) HU8.out (by have := HD4.out; omega) (fun a h => by cases h; exact ⟨by have := HGA.out; have := HGR.out; simp only []; omega, .inr rfl⟩) (.inl rfl)
    replace FW := hid (FW.out.alloc (.cells #[.slice (some ⟨ga, oa + 4, none⟩) 124 (c - 4), .bool false] 109))
    replace HQ := Blk.alloc HQ (.cells #[.slice (some ⟨ga, oa + 4, none⟩) 124 (c - 4), .bool false] 109)
    have HSZ := hid (show g < (w2.alloc (.cells #[.slice (some ⟨ga, oa + 4, none⟩) 124 (c - 4), .bool false] 109)).heap.size by simp; omega)
    go_upto_region 4 with fail
    try rw [hg]
    generalize w2.alloc (Obj.cells #[Value.slice (some ⟨ga, oa + 4, none⟩) 124 (c - 4), Value.bool false] 109) = w3 at HY FW HQ HSZ ⊢
    clear HR4 HI HI0 hg
    have hmk := mark_eq (ys := X.take 8) (fun x hx => HU8.out x (List.mem_of_mem_take hx))
    by_cases hm : X.take 8 = mk8
    · rw [decide_eq_true hm] at hmk
      have HVM := hid (show dR1 (some (X.drop 8)) = V by rw [← HVD.out, dR, if_pos hm])
      have hby : by8 (some (X.drop 8)) := fun ys hy x hx => by cases hy; exact HU8.out x (List.mem_of_mem_drop hx)
      obtain ⟨st, hst⟩ : ∃ st, some (X.drop 8) = st := ⟨_, rfl⟩
      rw [hst] at HVM hby
      have HST := hid hst
      clear HVD hm hst
      obtain ⟨⟨v0, s1⟩, h0⟩ : ∃ v, gt 2 st = v := ⟨_, rfl⟩
      have e1 : rst st 1 = s1 := by show (gt 2 st).2 = s1; rw [h0]
      obtain ⟨⟨v1, s2⟩, h1⟩ : ∃ v, gi 8 1 1099511627776 s1 = v := ⟨_, rfl⟩
      have e2 : rst st 2 = s2 := by show (gi 8 1 1099511627776 (rst st 1)).2 = s2; rw [e1, h1]
      obtain ⟨⟨v2, s3⟩, h2⟩ : ∃ v, gt 2 s2 = v := ⟨_, rfl⟩
      have e3 : rst st 3 = s3 := by show (gt 2 (rst st 2)).2 = s3; rw [e2, h2]
      obtain ⟨⟨v3, s4⟩, h3⟩ : ∃ v, gt 2 s3 = v := ⟨_, rfl⟩
      have e4 : rst st 4 = s4 := by show (gt 2 (rst st 3)).2 = s4; rw [e3, h3]
      obtain ⟨⟨v4, s5⟩, h4⟩ : ∃ v, gt 2 s4 = v := ⟨_, rfl⟩
      have e5 : rst st 5 = s5 := by show (gt 2 (rst st 4)).2 = s5; rw [e4, h4]
      obtain ⟨⟨v5, s6⟩, h5⟩ : ∃ v, gt 2 s5 = v := ⟨_, rfl⟩
      have e6 : rst st 6 = s6 := by show (gt 2 (rst st 5)).2 = s6; rw [e5, h5]
      obtain ⟨⟨v6, s7⟩, h6⟩ : ∃ v, gt 2 s6 = v := ⟨_, rfl⟩
      have e7 : rst st 7 = s7 := by show (gt 2 (rst st 6)).2 = s7; rw [e6, h6]
      obtain ⟨⟨v7, s8⟩, h7⟩ : ∃ v, gi 1 0 1 s7 = v := ⟨_, rfl⟩
      have e8 : rst st 8 = s8 := by show (gi 1 0 1 (rst st 7)).2 = s8; rw [e7, h7]
      obtain ⟨⟨v8, s9⟩, h8⟩ : ∃ v, gi 4 1 2147483648 s8 = v := ⟨_, rfl⟩
      have e9 : rst st 9 = s9 := by show (gi 4 1 2147483648 (rst st 8)).2 = s9; rw [e8, h8]
      obtain ⟨⟨v9, s10⟩, h9⟩ : ∃ v, gi 8 0 1099511627776 s9 = v := ⟨_, rfl⟩
      have e10 : rst st 10 = s10 := by show (gi 8 0 1099511627776 (rst st 9)).2 = s10; rw [e9, h9]
      obtain ⟨⟨v10, s11⟩, h10⟩ : ∃ v, gi 1 0 1 s10 = v := ⟨_, rfl⟩
      have e11 : rst st 11 = s11 := by show (gi 1 0 1 (rst st 10)).2 = s11; rw [e10, h10]
      have HE11 := hid e11
      have HV0 := hid (show rvl st 0 = v0 from congrArg Prod.fst h0)
      have HSP := hid (show spR st = ⟨v1, v2, v3, v4, v5, v6, v7, v8, v9, decide (v10 = 1)⟩ by
        unfold spR
        rw [show rvl st 1 = v1 by show (gi 8 1 1099511627776 (rst st 1)).1 = v1; rw [e1, h1], show rvl st 2 = v2 by show (gt 2 (rst st 2)).1 = v2; rw [e2, h2], show rvl st 3 = v3 by show (gt 2 (rst st 3)).1 = v3; rw [e3, h3], show rvl st 4 = v4 by show (gt 2 (rst st 4)).1 = v4; rw [e4, h4], show rvl st 5 = v5 by show (gt 2 (rst st 5)).1 = v5; rw [e5, h5], show rvl st 6 = v6 by show (gt 2 (rst st 6)).1 = v6; rw [e6, h6], show rvl st 7 = v7 by show (gi 1 0 1 (rst st 7)).1 = v7; rw [e7, h7], show rvl st 8 = v8 by show (gi 4 1 2147483648 (rst st 8)).1 = v8; rw [e8, h8], show rvl st 9 = v9 by show (gi 8 0 1099511627776 (rst st 9)).1 = v9; rw [e9, h9], show rvl st 10 = v10 by show (gi 1 0 1 (rst st 10)).1 = v10; rw [e10, h10]])
      have hr3 := rvl3 hby
      rw [show rvl st 3 = v3 by show (gt 2 (rst st 3)).1 = v3; rw [e3, h3]] at hr3
      have HR3 := hid hr3
      have b0 : 0 ≤ v0 ∧ v0 ≤ 65535 := by have q := gt2 (rst_by8 hby 0); rw [show rst st 0 = st from rfl, h0] at q; exact q
      obtain ⟨b0a, b0b⟩ := b0
      have b2 : 0 ≤ v2 ∧ v2 ≤ 65535 := by have q := gt2 (rst_by8 hby 2); rw [show rst st 2 = s2 from e2, h2] at q; exact q
      obtain ⟨b2a, b2b⟩ := b2
      have b3 : 0 ≤ v3 ∧ v3 ≤ 65535 := by have q := gt2 (rst_by8 hby 3); rw [show rst st 3 = s3 from e3, h3] at q; exact q
      obtain ⟨b3a, b3b⟩ := b3
      have b4 : 0 ≤ v4 ∧ v4 ≤ 65535 := by have q := gt2 (rst_by8 hby 4); rw [show rst st 4 = s4 from e4, h4] at q; exact q
      obtain ⟨b4a, b4b⟩ := b4
      have b5 : 0 ≤ v5 ∧ v5 ≤ 65535 := by have q := gt2 (rst_by8 hby 5); rw [show rst st 5 = s5 from e5, h5] at q; exact q
      obtain ⟨b5a, b5b⟩ := b5
      have b6 : 0 ≤ v6 ∧ v6 ≤ 65535 := by have q := gt2 (rst_by8 hby 6); rw [show rst st 6 = s6 from e6, h6] at q; exact q
      obtain ⟨b6a, b6b⟩ := b6
      clear hr3 hby e1 e2 e3 e4 e5 e6 e7 e8 e9 e10 e11
      have H0 := hid h0
      clear h0
      have H1 := hid h1
      clear h1
      have H2 := hid h2
      clear h2
      have H3 := hid h3
      clear h3
      have H4 := hid h4
      clear h4
      have H5 := hid h5
      clear h5
      have H6 := hid h6
      clear h6
      have H7 := hid h7
      clear h7
      have H8 := hid h8
      clear h8
      have H9 := hid h9
      clear h9
      have H10 := hid h10
      clear h10
      by_cases hone : v0 = 1
      · have honeb : (v0 == 1) = true := by simpa using hone
        have HV1 := hid (show (if dy s11 = true ∧ mayP ⟨v1, v2, v3, v4, v5, v6, v7, v8, v9, decide (v10 = 1)⟩ then some (⟨v1, v2, v3, v4, v5, v6, v7, v8, v9, decide (v10 = 1)⟩ : Sp) else none) = V by rw [← HVM.out, dR1, HV0.out, if_pos hone, HE11.out, HSP.out])
        subst hone
        clear HVM HV0 HE11 HSP
        go_upto_region 6 with (first | (go_at_call 64; refine (bytes_yd g 8 _ X _ (by have := HD4.out; omega) HY).mono ?_; rintro e' w4 ⟨A4, c4, rfl, hr4, HY, f4⟩; rw [HST.out] at HY; have hcv := run_str (P := Tryd.prog) w4 26 9 5 Tryd.underlying26 Tryd.underlying5 Tryd.underlying9 A4 8 c4 (X.take 8) (by simpa [List.map_take] using hr4); replace HSZ := hid (Nat.lt_of_lt_of_le HSZ.out f4.size); replace FW := hid (FW.out.step f4 (fun i hi h => by have := HGR.out; omega)); replace HQ := Blk.fr HQ f4 (fun h => by have := HGR.out; omega); clear f4 hr4) | (go_at_call 65; refine (get_yd g 2 _ st _ (by decide) HY).mono ?_; rintro e' w5 ⟨rfl, HY, f⟩; rw [H0.out] at HY ⊢; dsimp only at HY; replace HSZ := hid (Nat.lt_of_lt_of_le HSZ.out f.size); replace FW := hid (FW.out.step f (fun i hi h => by have := HGR.out; omega)); replace HQ := Blk.fr HQ f (fun h => by have := HGR.out; omega); clear f; dsimp only))
        obtain ⟨x, hx⟩ : ∃ x, decide (v10 = 1) = x := ⟨_, rfl⟩
        rw [hx] at HV1
        have hx2 : (v10 == 1) = x := by rw [← hx]; rfl
        have HX2 := hid hx2
        clear hx hx2
        go_upto_region 7 with (go_at_call 66; refine (int_yd g 8 1 1099511627776 _ s1 _ (by decide) HY).mono ?_; rintro e' w5 ⟨rfl, HY, f⟩; rw [H1.out] at HY ⊢; dsimp only at HY; replace HSZ := hid (Nat.lt_of_lt_of_le HSZ.out f.size); replace FW := hid (FW.out.step f (fun i hi h => by have := HGR.out; omega)); replace HQ := Blk.fr HQ f (fun h => by have := HGR.out; omega); clear f; dsimp only)
        obtain ⟨D, hD⟩ : ∃ D, w5.heap.size = D := ⟨_, rfl⟩
        have HB : Blk (w5.alloc (.cells #[.int .i64 v1, .int .i64 0, .int .i64 0, .int .i64 0, .int .i64 0, .int .i64 0, .int .i64 0, .int .i64 0, .int .i64 0, .bool false] 25)) D 25 #[.int .i64 v1, .int .i64 0, .int .i64 0, .int .i64 0, .int .i64 0, .int .i64 0, .int .i64 0, .int .i64 0, .int .i64 0, .bool false] := by rw [← hD]; exact Blk.new w5 _ _
        replace HY := HY.fr (S := No) ((Fr.refl No w5).alloc (.cells #[.int .i64 v1, .int .i64 0, .int .i64 0, .int .i64 0, .int .i64 0, .int .i64 0, .int .i64 0, .int .i64 0, .int .i64 0, .bool false] 25)) (fun _ _ h => h)
        replace FW := hid (FW.out.alloc (.cells #[.int .i64 v1, .int .i64 0, .int .i64 0, .int .i64 0, .int .i64 0, .int .i64 0, .int .i64 0, .int .i64 0, .int .i64 0, .bool false] 25))
        replace HQ := Blk.alloc HQ (.cells #[.int .i64 v1, .int .i64 0, .int .i64 0, .int .i64 0, .int .i64 0, .int .i64 0, .int .i64 0, .int .i64 0, .int .i64 0, .bool false] 25)
        have HGD := hid (show g < D by have := HSZ.out; omega)
        have HUD := hid (show ¬ (D = g ∨ D = ga) by have := HGA.out; have := HGR.out; have := HGD.out; omega)
        replace HSZ := hid (show g < (w5.alloc (.cells #[.int .i64 v1, .int .i64 0, .int .i64 0, .int .i64 0, .int .i64 0, .int .i64 0, .int .i64 0, .int .i64 0, .int .i64 0, .bool false] 25)).heap.size by have := HSZ.out; simp; omega)
        try rw [hD]
        generalize w5.alloc (Obj.cells #[.int .i64 v1, .int .i64 0, .int .i64 0, .int .i64 0, .int .i64 0, .int .i64 0, .int .i64 0, .int .i64 0, .int .i64 0, .bool false] 25) = w5 at HB HY FW HQ HSZ ⊢
        clear hD
        go_upto_region 8 with (go_at_call 65; refine (get_yd g 2 _ s2 _ (by decide) HY).mono ?_; rintro e' w5 ⟨rfl, HY, f⟩; rw [H2.out] at HY ⊢; dsimp only at HY; replace HSZ := hid (Nat.lt_of_lt_of_le HSZ.out f.size); replace FW := hid (FW.out.step f (fun i hi h => by have := HGR.out; omega)); replace HQ := Blk.fr HQ f (fun h => by have := HGR.out; omega); replace HB := Blk.fr HB f (fun h => by have := HGD.out; omega); clear f; have cc : w5.cell? ⟨D, 1, none⟩ = some (.int .i64 0) := Blk.cell HB 1; have zz : w5.frozen? ⟨D, 1, none⟩ = false := Blk.frozen HB 1; dsimp only)
        clear cc zz
        replace HY := HY.fr (Fr.set1 _ D 1 (.int .i64 v2)) (fun k hk e => HUD.out (e ▸ hk))
        replace HB := show Blk _ D 25 #[.int .i64 v1, .int .i64 v2, .int .i64 0, .int .i64 0, .int .i64 0, .int .i64 0, .int .i64 0, .int .i64 0, .int .i64 0, .bool false] from Blk.set_ HB 1 (.int .i64 v2)
        replace HQ := Blk.far HQ (p := ⟨D, 1, none⟩) (fun h => by have := HGD.out; have := HGR.out; simp only [] at h; omega) (.int .i64 v2)
        replace FW := hid (FW.out.setCell (p := ⟨D, 1, none⟩) (fun h => absurd h (by have := HGD.out; have := HGR.out; simp only []; omega)) (.int .i64 v2))
        replace HSZ := hid (show g < (World.setCell _ ⟨D, 1, none⟩ (.int .i64 v2)).heap.size from by simpa [World.setCell] using HSZ.out)
        generalize World.setCell _ ⟨D, 1, none⟩ (.int .i64 v2) = w5 at HY HB HQ FW HSZ ⊢
        go_upto_region 9 with (go_at_call 65; refine (get_yd g 2 _ s3 _ (by decide) HY).mono ?_; rintro e' w5 ⟨rfl, HY, f⟩; rw [H3.out] at HY ⊢; dsimp only at HY; replace HSZ := hid (Nat.lt_of_lt_of_le HSZ.out f.size); replace FW := hid (FW.out.step f (fun i hi h => by have := HGR.out; omega)); replace HQ := Blk.fr HQ f (fun h => by have := HGR.out; omega); replace HB := Blk.fr HB f (fun h => by have := HGD.out; omega); clear f; have cc : w5.cell? ⟨D, 2, none⟩ = some (.int .i64 0) := Blk.cell HB 2; have zz : w5.frozen? ⟨D, 2, none⟩ = false := Blk.frozen HB 2; dsimp only)
        clear cc zz
        replace HY := HY.fr (Fr.set1 _ D 2 (.int .i64 v3)) (fun k hk e => HUD.out (e ▸ hk))
        replace HB := show Blk _ D 25 #[.int .i64 v1, .int .i64 v2, .int .i64 v3, .int .i64 0, .int .i64 0, .int .i64 0, .int .i64 0, .int .i64 0, .int .i64 0, .bool false] from Blk.set_ HB 2 (.int .i64 v3)
        replace HQ := Blk.far HQ (p := ⟨D, 2, none⟩) (fun h => by have := HGD.out; have := HGR.out; simp only [] at h; omega) (.int .i64 v3)
        replace FW := hid (FW.out.setCell (p := ⟨D, 2, none⟩) (fun h => absurd h (by have := HGD.out; have := HGR.out; simp only []; omega)) (.int .i64 v3))
        replace HSZ := hid (show g < (World.setCell _ ⟨D, 2, none⟩ (.int .i64 v3)).heap.size from by simpa [World.setCell] using HSZ.out)
        generalize World.setCell _ ⟨D, 2, none⟩ (.int .i64 v3) = w5 at HY HB HQ FW HSZ ⊢
        go_upto_region 10 with (go_at_call 65; refine (get_yd g 2 _ s4 _ (by decide) HY).mono ?_; rintro e' w5 ⟨rfl, HY, f⟩; rw [H4.out] at HY ⊢; dsimp only at HY; replace HSZ := hid (Nat.lt_of_lt_of_le HSZ.out f.size); replace FW := hid (FW.out.step f (fun i hi h => by have := HGR.out; omega)); replace HQ := Blk.fr HQ f (fun h => by have := HGR.out; omega); replace HB := Blk.fr HB f (fun h => by have := HGD.out; omega); clear f; have cc : w5.cell? ⟨D, 3, none⟩ = some (.int .i64 0) := Blk.cell HB 3; have zz : w5.frozen? ⟨D, 3, none⟩ = false := Blk.frozen HB 3; dsimp only)
        clear cc zz
        replace HY := HY.fr (Fr.set1 _ D 3 (.int .i64 v4)) (fun k hk e => HUD.out (e ▸ hk))
        replace HB := show Blk _ D 25 #[.int .i64 v1, .int .i64 v2, .int .i64 v3, .int .i64 v4, .int .i64 0, .int .i64 0, .int .i64 0, .int .i64 0, .int .i64 0, .bool false] from Blk.set_ HB 3 (.int .i64 v4)
        replace HQ := Blk.far HQ (p := ⟨D, 3, none⟩) (fun h => by have := HGD.out; have := HGR.out; simp only [] at h; omega) (.int .i64 v4)
        replace FW := hid (FW.out.setCell (p := ⟨D, 3, none⟩) (fun h => absurd h (by have := HGD.out; have := HGR.out; simp only []; omega)) (.int .i64 v4))
        replace HSZ := hid (show g < (World.setCell _ ⟨D, 3, none⟩ (.int .i64 v4)).heap.size from by simpa [World.setCell] using HSZ.out)
        generalize World.setCell _ ⟨D, 3, none⟩ (.int .i64 v4) = w5 at HY HB HQ FW HSZ ⊢
        go_upto_region 11 with (go_at_call 65; refine (get_yd g 2 _ s5 _ (by decide) HY).mono ?_; rintro e' w5 ⟨rfl, HY, f⟩; rw [H5.out] at HY ⊢; dsimp only at HY; replace HSZ := hid (Nat.lt_of_lt_of_le HSZ.out f.size); replace FW := hid (FW.out.step f (fun i hi h => by have := HGR.out; omega)); replace HQ := Blk.fr HQ f (fun h => by have := HGR.out; omega); replace HB := Blk.fr HB f (fun h => by have := HGD.out; omega); clear f; have cc : w5.cell? ⟨D, 4, none⟩ = some (.int .i64 0) := Blk.cell HB 4; have zz : w5.frozen? ⟨D, 4, none⟩ = false := Blk.frozen HB 4; dsimp only)
        clear cc zz
        replace HY := HY.fr (Fr.set1 _ D 4 (.int .i64 v5)) (fun k hk e => HUD.out (e ▸ hk))
        replace HB := show Blk _ D 25 #[.int .i64 v1, .int .i64 v2, .int .i64 v3, .int .i64 v4, .int .i64 v5, .int .i64 0, .int .i64 0, .int .i64 0, .int .i64 0, .bool false] from Blk.set_ HB 4 (.int .i64 v5)
        replace HQ := Blk.far HQ (p := ⟨D, 4, none⟩) (fun h => by have := HGD.out; have := HGR.out; simp only [] at h; omega) (.int .i64 v5)
        replace FW := hid (FW.out.setCell (p := ⟨D, 4, none⟩) (fun h => absurd h (by have := HGD.out; have := HGR.out; simp only []; omega)) (.int .i64 v5))
        replace HSZ := hid (show g < (World.setCell _ ⟨D, 4, none⟩ (.int .i64 v5)).heap.size from by simpa [World.setCell] using HSZ.out)
        generalize World.setCell _ ⟨D, 4, none⟩ (.int .i64 v5) = w5 at HY HB HQ FW HSZ ⊢
        go_upto_region 12 with (go_at_call 65; refine (get_yd g 2 _ s6 _ (by decide) HY).mono ?_; rintro e' w5 ⟨rfl, HY, f⟩; rw [H6.out] at HY ⊢; dsimp only at HY; replace HSZ := hid (Nat.lt_of_lt_of_le HSZ.out f.size); replace FW := hid (FW.out.step f (fun i hi h => by have := HGR.out; omega)); replace HQ := Blk.fr HQ f (fun h => by have := HGR.out; omega); replace HB := Blk.fr HB f (fun h => by have := HGD.out; omega); clear f; have cc : w5.cell? ⟨D, 5, none⟩ = some (.int .i64 0) := Blk.cell HB 5; have zz : w5.frozen? ⟨D, 5, none⟩ = false := Blk.frozen HB 5; dsimp only)
        clear cc zz
        replace HY := HY.fr (Fr.set1 _ D 5 (.int .i64 v6)) (fun k hk e => HUD.out (e ▸ hk))
        replace HB := show Blk _ D 25 #[.int .i64 v1, .int .i64 v2, .int .i64 v3, .int .i64 v4, .int .i64 v5, .int .i64 v6, .int .i64 0, .int .i64 0, .int .i64 0, .bool false] from Blk.set_ HB 5 (.int .i64 v6)
        replace HQ := Blk.far HQ (p := ⟨D, 5, none⟩) (fun h => by have := HGD.out; have := HGR.out; simp only [] at h; omega) (.int .i64 v6)
        replace FW := hid (FW.out.setCell (p := ⟨D, 5, none⟩) (fun h => absurd h (by have := HGD.out; have := HGR.out; simp only []; omega)) (.int .i64 v6))
        replace HSZ := hid (show g < (World.setCell _ ⟨D, 5, none⟩ (.int .i64 v6)).heap.size from by simpa [World.setCell] using HSZ.out)
        generalize World.setCell _ ⟨D, 5, none⟩ (.int .i64 v6) = w5 at HY HB HQ FW HSZ ⊢
        go_upto_region 13 with (go_at_call 66; refine (int_yd g 1 0 1 _ s7 _ (by decide) HY).mono ?_; rintro e' w5 ⟨rfl, HY, f⟩; rw [H7.out] at HY ⊢; dsimp only at HY; replace HSZ := hid (Nat.lt_of_lt_of_le HSZ.out f.size); replace FW := hid (FW.out.step f (fun i hi h => by have := HGR.out; omega)); replace HQ := Blk.fr HQ f (fun h => by have := HGR.out; omega); replace HB := Blk.fr HB f (fun h => by have := HGD.out; omega); clear f; have cc : w5.cell? ⟨D, 6, none⟩ = some (.int .i64 0) := Blk.cell HB 6; have zz : w5.frozen? ⟨D, 6, none⟩ = false := Blk.frozen HB 6; dsimp only)
        clear cc zz
        replace HY := HY.fr (Fr.set1 _ D 6 (.int .i64 v7)) (fun k hk e => HUD.out (e ▸ hk))
        replace HB := show Blk _ D 25 #[.int .i64 v1, .int .i64 v2, .int .i64 v3, .int .i64 v4, .int .i64 v5, .int .i64 v6, .int .i64 v7, .int .i64 0, .int .i64 0, .bool false] from Blk.set_ HB 6 (.int .i64 v7)
        replace HQ := Blk.far HQ (p := ⟨D, 6, none⟩) (fun h => by have := HGD.out; have := HGR.out; simp only [] at h; omega) (.int .i64 v7)
        replace FW := hid (FW.out.setCell (p := ⟨D, 6, none⟩) (fun h => absurd h (by have := HGD.out; have := HGR.out; simp only []; omega)) (.int .i64 v7))
        replace HSZ := hid (show g < (World.setCell _ ⟨D, 6, none⟩ (.int .i64 v7)).heap.size from by simpa [World.setCell] using HSZ.out)
        generalize World.setCell _ ⟨D, 6, none⟩ (.int .i64 v7) = w5 at HY HB HQ FW HSZ ⊢
        go_upto_region 14 with (go_at_call 66; refine (int_yd g 4 1 2147483648 _ s8 _ (by decide) HY).mono ?_; rintro e' w5 ⟨rfl, HY, f⟩; rw [H8.out] at HY ⊢; dsimp only at HY; replace HSZ := hid (Nat.lt_of_lt_of_le HSZ.out f.size); replace FW := hid (FW.out.step f (fun i hi h => by have := HGR.out; omega)); replace HQ := Blk.fr HQ f (fun h => by have := HGR.out; omega); replace HB := Blk.fr HB f (fun h => by have := HGD.out; omega); clear f; have cc : w5.cell? ⟨D, 7, none⟩ = some (.int .i64 0) := Blk.cell HB 7; have zz : w5.frozen? ⟨D, 7, none⟩ = false := Blk.frozen HB 7; dsimp only)
        clear cc zz
        replace HY := HY.fr (Fr.set1 _ D 7 (.int .i64 v8)) (fun k hk e => HUD.out (e ▸ hk))
        replace HB := show Blk _ D 25 #[.int .i64 v1, .int .i64 v2, .int .i64 v3, .int .i64 v4, .int .i64 v5, .int .i64 v6, .int .i64 v7, .int .i64 v8, .int .i64 0, .bool false] from Blk.set_ HB 7 (.int .i64 v8)
        replace HQ := Blk.far HQ (p := ⟨D, 7, none⟩) (fun h => by have := HGD.out; have := HGR.out; simp only [] at h; omega) (.int .i64 v8)
        replace FW := hid (FW.out.setCell (p := ⟨D, 7, none⟩) (fun h => absurd h (by have := HGD.out; have := HGR.out; simp only []; omega)) (.int .i64 v8))
        replace HSZ := hid (show g < (World.setCell _ ⟨D, 7, none⟩ (.int .i64 v8)).heap.size from by simpa [World.setCell] using HSZ.out)
        generalize World.setCell _ ⟨D, 7, none⟩ (.int .i64 v8) = w5 at HY HB HQ FW HSZ ⊢
        go_upto_region 15 with (go_at_call 66; refine (int_yd g 8 0 1099511627776 _ s9 _ (by decide) HY).mono ?_; rintro e' w5 ⟨rfl, HY, f⟩; rw [H9.out] at HY ⊢; dsimp only at HY; replace HSZ := hid (Nat.lt_of_lt_of_le HSZ.out f.size); replace FW := hid (FW.out.step f (fun i hi h => by have := HGR.out; omega)); replace HQ := Blk.fr HQ f (fun h => by have := HGR.out; omega); replace HB := Blk.fr HB f (fun h => by have := HGD.out; omega); clear f; have cc : w5.cell? ⟨D, 8, none⟩ = some (.int .i64 0) := Blk.cell HB 8; have zz : w5.frozen? ⟨D, 8, none⟩ = false := Blk.frozen HB 8; dsimp only)
        clear cc zz
        replace HY := HY.fr (Fr.set1 _ D 8 (.int .i64 v9)) (fun k hk e => HUD.out (e ▸ hk))
        replace HB := show Blk _ D 25 #[.int .i64 v1, .int .i64 v2, .int .i64 v3, .int .i64 v4, .int .i64 v5, .int .i64 v6, .int .i64 v7, .int .i64 v8, .int .i64 v9, .bool false] from Blk.set_ HB 8 (.int .i64 v9)
        replace HQ := Blk.far HQ (p := ⟨D, 8, none⟩) (fun h => by have := HGD.out; have := HGR.out; simp only [] at h; omega) (.int .i64 v9)
        replace FW := hid (FW.out.setCell (p := ⟨D, 8, none⟩) (fun h => absurd h (by have := HGD.out; have := HGR.out; simp only []; omega)) (.int .i64 v9))
        replace HSZ := hid (show g < (World.setCell _ ⟨D, 8, none⟩ (.int .i64 v9)).heap.size from by simpa [World.setCell] using HSZ.out)
        generalize World.setCell _ ⟨D, 8, none⟩ (.int .i64 v9) = w5 at HY HB HQ FW HSZ ⊢
        go_upto_region 16 with (go_at_call 66; refine (int_yd g 1 0 1 _ s10 _ (by decide) HY).mono ?_; rintro e' w5 ⟨rfl, HY, f⟩; rw [H10.out] at HY ⊢; dsimp only at HY; replace HSZ := hid (Nat.lt_of_lt_of_le HSZ.out f.size); replace FW := hid (FW.out.step f (fun i hi h => by have := HGR.out; omega)); replace HQ := Blk.fr HQ f (fun h => by have := HGR.out; omega); replace HB := Blk.fr HB f (fun h => by have := HGD.out; omega); clear f; have cc : w5.cell? ⟨D, 9, none⟩ = some (.bool false) := Blk.cell HB 9; have zz : w5.frozen? ⟨D, 9, none⟩ = false := Blk.frozen HB 9; dsimp only; have hx2 := HX2.out)
        clear cc zz hx2
        replace HY := HY.fr (Fr.set1 _ D 9 (.bool x)) (fun k hk e => HUD.out (e ▸ hk))
        replace HB := show Blk _ D 25 #[.int .i64 v1, .int .i64 v2, .int .i64 v3, .int .i64 v4, .int .i64 v5, .int .i64 v6, .int .i64 v7, .int .i64 v8, .int .i64 v9, .bool x] from Blk.set_ HB 9 (.bool x)
        replace HQ := Blk.far HQ (p := ⟨D, 9, none⟩) (fun h => by have := HGD.out; have := HGR.out; simp only [] at h; omega) (.bool x)
        replace FW := hid (FW.out.setCell (p := ⟨D, 9, none⟩) (fun h => absurd h (by have := HGD.out; have := HGR.out; simp only []; omega)) (.bool x))
        replace HSZ := hid (show g < (World.setCell _ ⟨D, 9, none⟩ (.bool x)).heap.size from by simpa [World.setCell] using HSZ.out)
        generalize World.setCell _ ⟨D, 9, none⟩ (.bool x) = w5 at HY HB HQ FW HSZ ⊢
        have HQ0 := hid HQ
        have HY0 := hid HY
        clear HQ HY
        have y0 : w5.cell? ⟨D, 0, none⟩ = some (.int .i64 v1) := HB.cell 0
        have y1 : w5.cell? ⟨D, 1, none⟩ = some (.int .i64 v2) := HB.cell 1
        have y2 : w5.cell? ⟨D, 2, none⟩ = some (.int .i64 v3) := HB.cell 2
        have y3 : w5.cell? ⟨D, 3, none⟩ = some (.int .i64 v4) := HB.cell 3
        have y4 : w5.cell? ⟨D, 4, none⟩ = some (.int .i64 v5) := HB.cell 4
        have y5 : w5.cell? ⟨D, 5, none⟩ = some (.int .i64 v6) := HB.cell 5
        have y6 : w5.cell? ⟨D, 6, none⟩ = some (.int .i64 v7) := HB.cell 6
        have y7 : w5.cell? ⟨D, 7, none⟩ = some (.int .i64 v8) := HB.cell 7
        have y8 : w5.cell? ⟨D, 8, none⟩ = some (.int .i64 v9) := HB.cell 8
        have y9 : w5.cell? ⟨D, 9, none⟩ = some (.bool x) := HB.cell 9
        have HB0 := hid HB
        clear HB
        by_cases h0 : dy s11 = true
        · by_cases hmy : mayS v1 v2 v3 v4 v5 v6 v7 v8 v9
          · obtain rfl : V = some ⟨v1, v2, v3, v4, v5, v6, v7, v8, v9, x⟩ := by rw [← HV1.out, if_pos ⟨h0, hmy⟩]
            have HMY := hid hmy
            have HH0 := hid h0
            clear HV1 hmy h0
            go_wp2_with (first | (go_at_call 67; refine (done_yd g _ s11 _ HY0.out).mono ?_; rintro e' w9 ⟨rfl, rfl⟩; rw [HH0.out]) | (go_at_call 17; go_loud (refine (rmayS_ok v1 v2 v3 v4 v5 v6 v7 v8 v9 x _ HR3.out).mono ?_; rintro e' w10 ⟨rfl, f10⟩; rw [decide_eq_true HMY.out]; have HF10 := hid (FW.out.trans f10); replace HQ0 := hid (Blk.fr HQ0.out f10 (fun h => h)); replace HB0 := hid (Blk.fr HB0.out f10 (fun h => h)); clear f10 y0 y1 y2 y3 y4 y5 y6 y7 y8 y9; have y0 : w10.cell? ⟨D, 0, none⟩ = some (.int .i64 v1) := HB0.out.cell 0; have y1 : w10.cell? ⟨D, 1, none⟩ = some (.int .i64 v2) := HB0.out.cell 1; have y2 : w10.cell? ⟨D, 2, none⟩ = some (.int .i64 v3) := HB0.out.cell 2; have y3 : w10.cell? ⟨D, 3, none⟩ = some (.int .i64 v4) := HB0.out.cell 3; have y4 : w10.cell? ⟨D, 4, none⟩ = some (.int .i64 v5) := HB0.out.cell 4; have y5 : w10.cell? ⟨D, 5, none⟩ = some (.int .i64 v6) := HB0.out.cell 5; have y6 : w10.cell? ⟨D, 6, none⟩ = some (.int .i64 v7) := HB0.out.cell 6; have y7 : w10.cell? ⟨D, 7, none⟩ = some (.int .i64 v8) := HB0.out.cell 7; have y8 : w10.cell? ⟨D, 8, none⟩ = some (.int .i64 v9) := HB0.out.cell 8; have y9 : w10.cell? ⟨D, 9, none⟩ = some (.bool x) := HB0.out.cell 9)) | (refine st_S rfl (.tmp 2) (.tmp 74) rfl R rfl rfl (by simp [Value.oneCell']) HQ0.out rfl ?_; intro w11 HQ11 f11; have HF11 := hid (HF10.out.step f11 (fun i hi e => absurd hi (by omega))); clear f11))
            exact bodyPost_ret (v := .tuple #[spv ⟨v1, v2, v3, v4, v5, v6, v7, v8, v9, x⟩, .bool true]) (resS rfl _ _ R ⟨v1, v2, v3, v4, v5, v6, v7, v8, v9, x⟩ (.bool true) rfl rfl HQ11) rfl ⟨rfl, HF11.out⟩
          · obtain rfl : V = none := by rw [← HV1.out, if_neg (fun h => hmy h.2)]
            have HMY := hid hmy
            have HH0 := hid h0
            clear HV1 hmy h0
            go_wp2_with (first | (go_at_call 67; refine (done_yd g _ s11 _ HY0.out).mono ?_; rintro e' w9 ⟨rfl, rfl⟩; rw [HH0.out]) | (go_at_call 17; go_loud (refine (rmayS_ok v1 v2 v3 v4 v5 v6 v7 v8 v9 x _ HR3.out).mono ?_; rintro e' w10 ⟨rfl, f10⟩; rw [decide_eq_false HMY.out]; have HF10 := hid (FW.out.trans f10); replace HQ0 := hid (Blk.fr HQ0.out f10 (fun h => h)); clear f10)) | (refine st_S rfl (.tmp 2) (.tmp 73) rfl R rfl rfl (by simp [Value.oneCell']) HQ0.out rfl ?_; intro w11 HQ11 f11; have HF11 := hid (HF10.out.step f11 (fun i hi e => absurd hi (by omega))); clear f11))
            exact bodyPost_ret (v := .tuple #[spv rz, .bool false]) (resS rfl _ _ R rz (.bool false) rfl rfl HQ11) rfl ⟨rfl, HF11.out⟩
        · obtain rfl : V = none := by rw [← HV1.out, if_neg (fun h => h0 h.1)]
          have h0f : dy s11 = false := by simpa using h0
          have HH0 := hid h0f
          clear HV1 h0 h0f
          go_wp2_with (first | (go_at_call 67; refine (done_yd g _ s11 _ HY0.out).mono ?_; rintro e' w9 ⟨rfl, rfl⟩; rw [HH0.out]) | (refine st_S rfl (.tmp 2) (.tmp 73) rfl R rfl rfl (by simp [Value.oneCell']) HQ0.out rfl ?_; intro w11 HQ11 f11; have HF11 := hid (FW.out.step f11 (fun i hi e => absurd hi (by omega))); clear f11))
          exact bodyPost_ret (v := .tuple #[spv rz, .bool false]) (resS rfl _ _ R rz (.bool false) rfl rfl HQ11) rfl ⟨rfl, HF11.out⟩
      · have honeb : (v0 == 1) = false := by simpa using hone
        obtain rfl : V = none := by rw [← HVM.out, dR1, HV0.out, if_neg hone]
        clear HVM HV0 HE11 HSP hone
        go_wp2_with (first | (go_at_call 64; refine (bytes_yd g 8 _ X _ (by have := HD4.out; omega) HY).mono ?_; rintro e' w4 ⟨A4, c4, rfl, hr4, HY, f4⟩; rw [HST.out] at HY; have hcv := run_str (P := Tryd.prog) w4 26 9 5 Tryd.underlying26 Tryd.underlying5 Tryd.underlying9 A4 8 c4 (X.take 8) (by simpa [List.map_take] using hr4); replace HSZ := hid (Nat.lt_of_lt_of_le HSZ.out f4.size); replace FW := hid (FW.out.step f4 (fun i hi h => by have := HGR.out; omega)); replace HQ := Blk.fr HQ f4 (fun h => by have := HGR.out; omega); clear f4 hr4) | (go_at_call 65; refine (get_yd g 2 _ st _ (by decide) HY).mono ?_; rintro e' w5 ⟨rfl, HY, f⟩; rw [H0.out] at HY ⊢; dsimp only at HY; replace HSZ := hid (Nat.lt_of_lt_of_le HSZ.out f.size); replace FW := hid (FW.out.step f (fun i hi h => by have := HGR.out; omega)); replace HQ := Blk.fr HQ f (fun h => by have := HGR.out; omega); clear f; dsimp only) | (refine st_S rfl (.tmp 2) (.tmp 23) rfl R rfl rfl (by simp [Value.oneCell']) HQ rfl ?_; intro w11 HQ11 f11; have HF11 := hid (FW.out.step f11 (fun i hi e => absurd hi (by omega))); clear f11))
        exact bodyPost_ret (v := .tuple #[spv rz, .bool false]) (resS rfl _ _ R rz (.bool false) rfl rfl HQ11) rfl ⟨rfl, HF11.out⟩
    · rw [decide_eq_false hm] at hmk
      obtain rfl : V = none := by rw [← HVD.out, dR, if_neg hm]
      clear hm HVD
      go_wp2_with (first | (go_at_call 64; refine (bytes_yd g 8 _ X _ (by have := HD4.out; omega) HY).mono ?_; rintro e' w4 ⟨A4, c4, rfl, hr4, HY, f4⟩;  have hcv := run_str (P := Tryd.prog) w4 26 9 5 Tryd.underlying26 Tryd.underlying5 Tryd.underlying9 A4 8 c4 (X.take 8) (by simpa [List.map_take] using hr4); replace HSZ := hid (Nat.lt_of_lt_of_le HSZ.out f4.size); replace FW := hid (FW.out.step f4 (fun i hi h => by have := HGR.out; omega)); replace HQ := Blk.fr HQ f4 (fun h => by have := HGR.out; omega); clear f4 hr4) | (refine st_S rfl (.tmp 2) (.tmp 23) rfl R rfl rfl (by simp [Value.oneCell']) HQ rfl ?_; intro w11 HQ11 f11; have HF11 := hid (FW.out.step f11 (fun i hi e => absurd hi (by omega))); clear f11))
      exact bodyPost_ret (v := .tuple #[spv rz, .bool false]) (resS rfl _ _ R rz (.bool false) rfl rfl HQ11) rfl ⟨rfl, HF11.out⟩
  · obtain rfl : V = none := by rw [← hV, decR, if_neg hs]
    have HC : Hid ((l == 128 && ld zs 4 == onN 0 (zs.drop 4)) = false) := hid (by rw [← HLEN.out]; simpa [secOk] using hs)
    clear hV hs
    go_enter Tryd.func21, Tryd.ntmps21
    go_upto_region 1 with fail
    rw [show w.alloc (Obj.cells #[Value.int IntKind.i64 0, Value.int IntKind.i64 0, Value.int IntKind.i64 0, Value.int IntKind.i64 0, Value.int IntKind.i64 0, Value.int IntKind.i64 0, Value.int IntKind.i64 0, Value.int IntKind.i64 0, Value.int IntKind.i64 0, Value.bool false] 25) = w1 from HW1.out]
    try rw [hR]
    go_wp2_with (first | (go_at_call 63; refine (CrcF.refCheck_any _ _ _ zs _ HI.out).mono ?_; rintro e' w2 ⟨rfl, f2⟩; rw [HC.out]; replace FW := hid (FW.out.trans f2); replace HQ := Blk.fr HQ f2 (fun h => h); clear f2) | (refine st_S rfl (.tmp 2) (.tmp 9) rfl R rfl rfl (by simp [Value.oneCell']) HQ rfl ?_; intro w11 HQ11 f11; have HF11 := hid (FW.out.step f11 (fun i hi e => absurd hi (by omega))); clear f11))
    exact bodyPost_ret (v := .tuple #[spv rz, .bool false]) (resS rfl _ _ R rz (.bool false) rfl rfl HQ11) rfl ⟨rfl, HF11.out⟩
end Go.Proofs.YthhhmhgmmbfjhaaDoor.SuMd
