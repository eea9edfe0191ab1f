/- Contracts: the program's Encode of a record that may not be; the sector of a record that may be, by the document. Conditions: its deltas read as a list. -/
import Derived.Test.YtdepkpdolkipcaaDoorRcG
namespace Go.Proofs.YtdepkpdolkipcaaDoor.RcH
open Go.RowKit MSep MSepC LeW LeR RcM RcA RcB RcC DlO Kit WrB CrcM CrcA CrcE RcG

set_option maxRecDepth 100000 in
theorem encode_no (e s : Int) (b : Bool) (u : Int) (A : Option Addr) (l c : Nat) (xs : List De) (w : World) (hl : l ≤ maxLen) (hx : RdD w A l xs) (hm : ¬ mayR ⟨e, s, b, u, xs⟩) :
    Calls Tryd.prog 25 #[rv e s b u A l c] w fun E w' => E = .returned (.tuple #[.slice none 0 0, .int .i64 1]) ∧ Fr No w w' := by
  have HF0 := hid ((Fr.refl No w).alloc (rx e s b u A l c))
  have HMay := hid (may_ok e s b u A l c xs _ hl (hx.fr HF0.out))
  clear hx
  go_enter Tryd.func25, Tryd.ntmps25
  go_wp2_with (go_at_call 26; refine HMay.out.mono ?_; rintro e' w1 ⟨rfl, f1⟩; rw [decide_eq_false hm]; have HF1 := hid (HF0.out.trans f1); clear f1 hm)
  go_ret2
  exact ⟨rfl, HF1.out⟩

set_option maxRecDepth 100000 in
set_option maxHeartbeats 4000000 in
theorem renc_ok (e s : Int) (b : Bool) (u : Int) (A : Option Addr) (l c : Nat) (xs : List De) (w : World) (hx : RdD w A l xs) (hm : mayR ⟨e, s, b, u, xs⟩) :
    Calls Tryd.prog 29 #[rv e s b u A l c] w fun E w' => ∃ A' c', E = .returned (.slice A' 128 c') ∧ Rd w' A' 128 (cells (seal_ (eR ⟨e, s, b, u, xs⟩))) ∧ Fr No w w' := by
  have h6 : l ≤ 6 := by rw [← hx.1]; exact hm.2.1
  have hlx := hx.1
  subst hlx
  have HE := hid hm.1
  have HAll := hid hm.2.2
  have HR0 := hid (show RB (w.alloc (rx e s b u A xs.length c)) w.heap.size e s b u A xs.length c from Blk.new w _ _)
  have HX := hid hx
  clear hx
  have u1 : IntKind.u64.wrap e = e := u64w e (by have := HE.out; unfold mayH at this; simp only [] at this; omega)
  have u2 : IntKind.u64.wrap s = s := u64w s (by have := HE.out; unfold mayH at this; simp only [] at this; omega)
  have u3 : IntKind.u64.wrap u = u := u64w u (by have := HE.out; unfold mayH at this; simp only [] at this; omega)
  have u4 : IntKind.u64.wrap (xs.length : Int) = (xs.length : Int) := u64w _ (by omega)
  have kcv := fun w C n c => Lib.run_convert_bytes_const (P := Tryd.prog) w 26 5 C n c Tryd.underlying26 Tryd.underlying5
  obtain ⟨w2, hw2⟩ : ∃ w2, (w.alloc (rx e s b u A xs.length c)).alloc (.cells #[.int .i64 124, .slice none 0 0, .bool false] 101) = w2 := ⟨_, rfl⟩
  have HF2 := hid (show Fr No w w2 by rw [← hw2]; exact ((Fr.refl No w).alloc _).alloc _)
  have HR2 := hid (show RB w2 w.heap.size e s b u A xs.length c by rw [← hw2]; exact Blk.alloc HR0.out _)
  obtain ⟨B, hB⟩ : ∃ B, w.heap.size + 1 = B := ⟨_, rfl⟩
  have hGB : w.heap.size < B := by omega
  have HW : XrP w2 B w.heap.size B [] := by
    have := new_xp w.heap.size (w.alloc (rx e s b u A xs.length c)) (by simp)
    rw [hw2, World.size_alloc, hB] at this
    exact this
  have HS2 := hid hw2
  clear hw2 HR0
  cases b
  · go_enter Tryd.func29, Tryd.ntmps29
    go_upto_region 2 with fail
    rw [show (w.alloc (rx e s false u A xs.length c)).alloc (Obj.cells #[Value.int IntKind.i64 124, Value.slice none 0 0, Value.bool false] 101) = w2 from HS2.out]
    try rw [hB]
    go_wp2_with (first | (go_at_call 59; refine (bytes_xp B _ 2 2 [74, 82] B w.heap.size [] _ (by decide) (CrcG.lit_rd w2 [74, 82] (2, 3)) (HW.fr ((Fr.refl No _).alloc _))).mono ?_; rintro e' w3 ⟨rfl, HW, f3⟩; have FW : Hid (Fr (NP B w.heap.size) w w3) := hid (((HF2.out.alloc _).mono fun _ _ h => h.elim).trans f3); obtain ⟨r0, r1, r2, r3, r4⟩ := RB.cells (RB.fr (Blk.alloc HR2.out (.cells #[.int .u8 74, .int .u8 82] 5 (2, 3))) f3 (by unfold NP; omega)); clear f3) | (go_at_call 60; refine (put_xp B _ _ B w.heap.size _ _ (by decide) (by first | (simp [low_len]; done) | (simp [low_len]; omega) | omega) (by first | decide | omega | (have := HE.out; unfold mayH at this; omega)) HW).mono ?_; rintro e' w3 ⟨rfl, HW, f⟩; replace r0 := kcN f r0; replace r1 := kcN f r1; replace r2 := kcN f r2; replace r3 := kcN f r3; replace r4 := kcN f r4; replace FW := kfN f FW; clear f))
    go_loopw [5] (fun i wr => ∃ k : Nat, k ≤ xs.length ∧ i = .int .i64 k ∧ XrP wr B w.heap.size B (eH ⟨e, s, false, u, xs⟩ ++ (xs.take k).flatMap eD) ∧ Fr (NP B w.heap.size) w wr ∧ wr.cell? ⟨w.heap.size, 4, none⟩ = some (.slice A xs.length c)) (fun i _ => xs.length - (intOf i).toNat)
    case atStart => exact ⟨0, by omega, rfl, by simpa [eH, b01, List.append_assoc] using HW, FW.out, r4⟩
    case round =>
      clear FW HW r0 r1 r2 r3 r4 u1 u2 u3 u4
      obtain ⟨k, hk, rfl, HW, hf, r4⟩ := hrel
      have HXk := rdD_fr2 HX.out hf hGB
      by_cases hlt : k < xs.length
      · obtain ⟨d, hd⟩ : ∃ d, xs[k]? = some d := ⟨_, List.getElem?_eq_getElem hlt⟩
        obtain ⟨g, o, rfl, hg, hc⟩ := HXk.at_ (by omega)
        obtain ⟨c0, c1, c2, c3, c4⟩ := hc k d hd
        have hmd := mayD_in (HAll.out d (List.mem_of_getElem? hd))
        have hlt3 : (k : Int) < xs.length := by omega
        have h0 : (0 : Int) ≤ k := by omega
        have HD := hid hd
        have HFk := hid hf
        have hle := ds6 (fl_len (xs.take k)) (by rw [List.length_take]; omega) (eH_len ⟨e, s, false, u, xs⟩)
        obtain ⟨X, hX⟩ : ∃ X, eH ⟨e, s, false, u, xs⟩ ++ (xs.take k).flatMap eD = X := ⟨_, rfl⟩
        rw [hX] at HW hle
        have HX2 := hid hX
        obtain ⟨dk, da, dn, dz, dq⟩ := d
        simp only [] at c0 c1 c2 c3 c4 hmd
        obtain ⟨m1, m2, m3, m4, m5⟩ := hmd
        have v1 := u64w dk (by omega)
        have v2 := u64w da (by omega)
        have v3 := u64w dn (by omega)
        have v4 := u64w dz (by omega)
        have v5 := u64w dq (by omega)
        clear hX hd hf hc HXk
        go_upto_region 15 with fail
        have HW := HW.box (dx dk da dn dz dq)
        obtain ⟨T, hT⟩ : ∃ T, wr.heap.size = T := ⟨_, rfl⟩
        have HBk := hid (show Blk (wr.alloc (dx dk da dn dz dq)) T 58 #[.int .i64 dk, .int .i64 da, .int .i64 dn, .int .i64 dz, .int .i64 dq] by rw [← hT]; exact Blk.new wr _ _)
        have FW : Hid (Fr (NP B w.heap.size) w (wr.alloc (dx dk da dn dz dq))) := hid (HFk.out.alloc _)
        have r4 : (wr.alloc (dx dk da dn dz dq)).cell? ⟨w.heap.size, 4, none⟩ = some (.slice (some ⟨g, o, none⟩) xs.length c) := kc (fr1 _ _) r4
        obtain ⟨W2, hW2⟩ : ∃ W2, wr.alloc (dx dk da dn dz dq) = W2 := ⟨_, rfl⟩
        rw [hT, hW2] at HW
        rw [hW2] at HBk FW r4
        rw [hT, show wr.alloc (Obj.cells #[Value.int IntKind.i64 dk, Value.int IntKind.i64 da, Value.int IntKind.i64 dn, Value.int IntKind.i64 dz, Value.int IntKind.i64 dq] 58) = W2 from hW2]
        clear hW2
        obtain ⟨d0, d1, d2, d3, d4⟩ : W2.cell? ⟨T, 0, none⟩ = some (.int .i64 dk) ∧ W2.cell? ⟨T, 1, none⟩ = some (.int .i64 da) ∧ W2.cell? ⟨T, 2, none⟩ = some (.int .i64 dn) ∧ W2.cell? ⟨T, 3, none⟩ = some (.int .i64 dz) ∧ W2.cell? ⟨T, 4, none⟩ = some (.int .i64 dq) := ⟨HBk.out.cell 0, HBk.out.cell 1, HBk.out.cell 2, HBk.out.cell 3, HBk.out.cell 4⟩
        have FK := FW
        have FW : Hid (Fr (NP B T) W2 W2) := hid (Fr.refl _ _)
        clear c0 c1 c2 c3 c4
        go_wp2_with (go_at_call 60; refine (put_xp B _ _ B T _ _ (by decide) (by first | (simp [low_len]; done) | (simp [low_len]; omega) | omega) (by first | decide | omega) HW).mono ?_; rintro e' w3 ⟨rfl, HW, f⟩; replace d0 := kcN f d0; replace d1 := kcN f d1; replace d2 := kcN f d2; replace d3 := kcN f d3; replace d4 := kcN f d4; replace r4 := kcN f r4; replace FW := kfN f FW; clear f)
        go_roundw
        case rel =>
          refine ⟨k + 1, by omega, by go_num, ?_, FK.out.trans (np_mono hGB FW.out), r4⟩
          rw [fl_snoc HD.out, ← List.append_assoc, HX2.out]
          have := HW.un hGB
          simpa [eD, List.append_assoc] using this
        case measure => simp [intOf]; omega
      · obtain rfl : k = xs.length := by omega
        rw [List.take_length] at HW
        obtain ⟨Y, hY⟩ : ∃ Y, eR ⟨e, s, false, u, xs⟩ = Y := ⟨_, rfl⟩
        have hYl : Y.length ≤ 124 := by rw [← hY, eR_len]; simp only []; omega
        have hYu : ∀ x ∈ Y, 0 ≤ x ∧ x ≤ 255 := by rw [← hY]; exact eR_u8 _
        rw [show eH ⟨e, s, false, u, xs⟩ ++ xs.flatMap eD = Y from hY] at HW
        have HYE := hid hY
        have HFk := hid hf
        obtain ⟨A4, c4, z1, HD4⟩ := HW.rd
        have HD5 := hid HD4
        have HYL := hid hYl
        have HYU := hid hYu
        clear hf HXk HW HD4 hY hYl hYu
        go_wp2_with (go_at_call 61; refine (CrcF.refSeal_ok _ _ _ Y _ HYL.out HD5.out HYU.out).mono ?_; rintro e' w5 ⟨A6, c6, rfl, hb5, f5⟩; have HB5 := hid hb5; have HF5 := hid (HFk.out.trans (f5.mono fun _ _ h => h.elim)); clear f5 hb5)
        go_ret
        exact ⟨_, _, rfl, by rw [HYE.out]; exact Rd.own HB5.out, HF5.out.mono fun k hk h => by unfold NP at h; omega⟩
  · go_enter Tryd.func29, Tryd.ntmps29
    go_upto_region 2 with fail
    rw [show (w.alloc (rx e s true u A xs.length c)).alloc (Obj.cells #[Value.int IntKind.i64 124, Value.slice none 0 0, Value.bool false] 101) = w2 from HS2.out]
    try rw [hB]
    go_wp2_with (first | (go_at_call 59; refine (bytes_xp B _ 2 2 [74, 82] B w.heap.size [] _ (by decide) (CrcG.lit_rd w2 [74, 82] (2, 3)) (HW.fr ((Fr.refl No _).alloc _))).mono ?_; rintro e' w3 ⟨rfl, HW, f3⟩; have FW : Hid (Fr (NP B w.heap.size) w w3) := hid (((HF2.out.alloc _).mono fun _ _ h => h.elim).trans f3); obtain ⟨r0, r1, r2, r3, r4⟩ := RB.cells (RB.fr (Blk.alloc HR2.out (.cells #[.int .u8 74, .int .u8 82] 5 (2, 3))) f3 (by unfold NP; omega)); clear f3) | (go_at_call 60; refine (put_xp B _ _ B w.heap.size _ _ (by decide) (by first | (simp [low_len]; done) | (simp [low_len]; omega) | omega) (by first | decide | omega | (have := HE.out; unfold mayH at this; omega)) HW).mono ?_; rintro e' w3 ⟨rfl, HW, f⟩; replace r0 := kcN f r0; replace r1 := kcN f r1; replace r2 := kcN f r2; replace r3 := kcN f r3; replace r4 := kcN f r4; replace FW := kfN f FW; clear f))
    go_loopw [5] (fun i wr => ∃ k : Nat, k ≤ xs.length ∧ i = .int .i64 k ∧ XrP wr B w.heap.size B (eH ⟨e, s, true, u, xs⟩ ++ (xs.take k).flatMap eD) ∧ Fr (NP B w.heap.size) w wr ∧ wr.cell? ⟨w.heap.size, 4, none⟩ = some (.slice A xs.length c)) (fun i _ => xs.length - (intOf i).toNat)
    case atStart => exact ⟨0, by omega, rfl, by simpa [eH, b01, List.append_assoc] using HW, FW.out, r4⟩
    case round =>
      clear FW HW r0 r1 r2 r3 r4 u1 u2 u3 u4
      obtain ⟨k, hk, rfl, HW, hf, r4⟩ := hrel
      have HXk := rdD_fr2 HX.out hf hGB
      by_cases hlt : k < xs.length
      · obtain ⟨d, hd⟩ : ∃ d, xs[k]? = some d := ⟨_, List.getElem?_eq_getElem hlt⟩
        obtain ⟨g, o, rfl, hg, hc⟩ := HXk.at_ (by omega)
        obtain ⟨c0, c1, c2, c3, c4⟩ := hc k d hd
        have hmd := mayD_in (HAll.out d (List.mem_of_getElem? hd))
        have hlt3 : (k : Int) < xs.length := by omega
        have h0 : (0 : Int) ≤ k := by omega
        have HD := hid hd
        have HFk := hid hf
        have hle := ds6 (fl_len (xs.take k)) (by rw [List.length_take]; omega) (eH_len ⟨e, s, true, u, xs⟩)
        obtain ⟨X, hX⟩ : ∃ X, eH ⟨e, s, true, u, xs⟩ ++ (xs.take k).flatMap eD = X := ⟨_, rfl⟩
        rw [hX] at HW hle
        have HX2 := hid hX
        obtain ⟨dk, da, dn, dz, dq⟩ := d
        simp only [] at c0 c1 c2 c3 c4 hmd
        obtain ⟨m1, m2, m3, m4, m5⟩ := hmd
        have v1 := u64w dk (by omega)
        have v2 := u64w da (by omega)
        have v3 := u64w dn (by omega)
        have v4 := u64w dz (by omega)
        have v5 := u64w dq (by omega)
        clear hX hd hf hc HXk
        go_upto_region 15 with fail
        have HW := HW.box (dx dk da dn dz dq)
        obtain ⟨T, hT⟩ : ∃ T, wr.heap.size = T := ⟨_, rfl⟩
        have HBk := hid (show Blk (wr.alloc (dx dk da dn dz dq)) T 58 #[.int .i64 dk, .int .i64 da, .int .i64 dn, .int .i64 dz, .int .i64 dq] by rw [← hT]; exact Blk.new wr _ _)
        have FW : Hid (Fr (NP B w.heap.size) w (wr.alloc (dx dk da dn dz dq))) := hid (HFk.out.alloc _)
        have r4 : (wr.alloc (dx dk da dn dz dq)).cell? ⟨w.heap.size, 4, none⟩ = some (.slice (some ⟨g, o, none⟩) xs.length c) := kc (fr1 _ _) r4
        obtain ⟨W2, hW2⟩ : ∃ W2, wr.alloc (dx dk da dn dz dq) = W2 := ⟨_, rfl⟩
        rw [hT, hW2] at HW
        rw [hW2] at HBk FW r4
        rw [hT, show wr.alloc (Obj.cells #[Value.int IntKind.i64 dk, Value.int IntKind.i64 da, Value.int IntKind.i64 dn, Value.int IntKind.i64 dz, Value.int IntKind.i64 dq] 58) = W2 from hW2]
        clear hW2
        obtain ⟨d0, d1, d2, d3, d4⟩ : W2.cell? ⟨T, 0, none⟩ = some (.int .i64 dk) ∧ W2.cell? ⟨T, 1, none⟩ = some (.int .i64 da) ∧ W2.cell? ⟨T, 2, none⟩ = some (.int .i64 dn) ∧ W2.cell? ⟨T, 3, none⟩ = some (.int .i64 dz) ∧ W2.cell? ⟨T, 4, none⟩ = some (.int .i64 dq) := ⟨HBk.out.cell 0, HBk.out.cell 1, HBk.out.cell 2, HBk.out.cell 3, HBk.out.cell 4⟩
        have FK := FW
        have FW : Hid (Fr (NP B T) W2 W2) := hid (Fr.refl _ _)
        clear c0 c1 c2 c3 c4
        go_wp2_with (go_at_call 60; refine (put_xp B _ _ B T _ _ (by decide) (by first | (simp [low_len]; done) | (simp [low_len]; omega) | omega) (by first | decide | omega) HW).mono ?_; rintro e' w3 ⟨rfl, HW, f⟩; replace d0 := kcN f d0; replace d1 := kcN f d1; replace d2 := kcN f d2; replace d3 := kcN f d3; replace d4 := kcN f d4; replace r4 := kcN f r4; replace FW := kfN f FW; clear f)
        go_roundw
        case rel =>
          refine ⟨k + 1, by omega, by go_num, ?_, FK.out.trans (np_mono hGB FW.out), r4⟩
          rw [fl_snoc HD.out, ← List.append_assoc, HX2.out]
          have := HW.un hGB
          simpa [eD, List.append_assoc] using this
        case measure => simp [intOf]; omega
      · obtain rfl : k = xs.length := by omega
        rw [List.take_length] at HW
        obtain ⟨Y, hY⟩ : ∃ Y, eR ⟨e, s, true, u, xs⟩ = Y := ⟨_, rfl⟩
        have hYl : Y.length ≤ 124 := by rw [← hY, eR_len]; simp only []; omega
        have hYu : ∀ x ∈ Y, 0 ≤ x ∧ x ≤ 255 := by rw [← hY]; exact eR_u8 _
        rw [show eH ⟨e, s, true, u, xs⟩ ++ xs.flatMap eD = Y from hY] at HW
        have HYE := hid hY
        have HFk := hid hf
        obtain ⟨A4, c4, z1, HD4⟩ := HW.rd
        have HD5 := hid HD4
        have HYL := hid hYl
        have HYU := hid hYu
        clear hf HXk HW HD4 hY hYl hYu
        go_wp2_with (go_at_call 61; refine (CrcF.refSeal_ok _ _ _ Y _ HYL.out HD5.out HYU.out).mono ?_; rintro e' w5 ⟨A6, c6, rfl, hb5, f5⟩; have HB5 := hid hb5; have HF5 := hid (HFk.out.trans (f5.mono fun _ _ h => h.elim)); clear f5 hb5)
        go_ret
        exact ⟨_, _, rfl, by rw [HYE.out]; exact Rd.own HB5.out, HF5.out.mono fun k hk h => by unfold NP at h; omega⟩
end Go.Proofs.YtdepkpdolkipcaaDoor.RcH
