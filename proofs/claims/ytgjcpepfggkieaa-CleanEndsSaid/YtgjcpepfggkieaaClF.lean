/- Contract: whether a job may be, by the document. Condition: the list reads as a list; numbers of 64 bits. -/
import Derived.Test.YtgjcpepfggkieaaClD
import Derived.Test.YtgjcpepfggkieaaGeEk
namespace Go.Proofs.Ytgjcpepfggkieaa.ClF
open Go.RowKit MSep MGeM GeA GeC GeD GeE GeEk PlA PlB ClM ClA ClE ClB ClC ClD

theorem rlo_no {g : Ge} (h : ¬ mayG g) : rlo g = (z8, false) := by unfold rlo; rw [if_neg h]
theorem rlo_yes {g : Ge} (h : mayG g) : rlo g = (lay g, true) := by unfold rlo; rw [if_pos h]
set_option maxRecDepth 100000 in
set_option maxHeartbeats 2000000 in
theorem rseq_ok (gc gs gn gl gk : Int) (i : Int) (w : World) (hm : mayG ⟨gc, gs, gn, gl, gk⟩) : Calls Try.prog 69 #[.agg #[.int .i64 gc, .int .i64 gs, .int .i64 gn, .int .i64 gl, .int .i64 gk], .int .i64 i] w fun e w' => e = .returned (.bool (sqB ⟨gc, gs, gn, gl, gk⟩ i)) ∧ Fr No w w' := by
  obtain ⟨R, hR⟩ : ∃ R, sqB ⟨gc, gs, gn, gl, gk⟩ i = R := ⟨_, rfl⟩
  rw [hR]
  obtain ⟨⟨B1, B2⟩, ⟨B3, B4⟩, _⟩ := hm.1
  dsimp only at B1 B2 B3 B4
  have HF := hid (fr1 w (bg gc gs gn gl gk))
  by_cases h1 : i < gc
  · have HN := hid (show R = false by rw [← hR]; exact decide_eq_false (fun h => by have := h.2.1; dsimp only at this; omega))
    clear hm hR
    go_enter Try.func69, Try.ntmps69
    go_wp2
    go_ret
    exact ⟨retb HN.out.symm, HF.out⟩
  by_cases h2 : i < gc + gs
  · have HN := hid (show R = true by rw [← hR]; exact decide_eq_true ⟨hm, by dsimp only; omega, by dsimp only; omega⟩)
    clear hm hR
    go_enter Try.func69, Try.ntmps69
    go_wp2
    go_ret
    exact ⟨retb HN.out.symm, HF.out⟩
  · have HN := hid (show R = false by rw [← hR]; exact decide_eq_false (fun h => by have := h.2.2; dsimp only at this; omega))
    clear hm hR
    go_enter Try.func69, Try.ntmps69
    go_wp2
    go_ret
    exact ⟨retb HN.out.symm, HF.out⟩
set_option maxRecDepth 100000 in
set_option maxHeartbeats 2000000 in
theorem rmay_geom (gc gs gn gl gk : Int) (st z : Int) (A : Option Addr) (l c : Nat) (sp nx : Int) (bs : List Int) (w : World) (hs : -9223372036854775808 ≤ gs ∧ gs ≤ 9223372036854775807) (hm : ¬ mayG ⟨gc, gs, gn, gl, gk⟩) (_hi : InI w A l c bs) :
    Calls Try.prog 35 #[.agg #[.int .i64 gc, .int .i64 gs, .int .i64 gn, .int .i64 gl, .int .i64 gk], .agg #[.int .i64 st, .int .i64 z, .slice A l c, .int .i64 sp, .int .i64 nx]] w fun e w' => e = .returned (.bool (mayB ⟨gc, gs, gn, gl, gk⟩ ⟨st, z, bs, sp, nx⟩)) ∧ Fr No w w' := by
  rw [may_no hm]
  have HL := hid (fun W => rlayout_ok gc gs gn gl gk W hs)
  rw [rlo_no hm] at HL
  unfold z8 at HL
  dsimp only at HL
  have P0 := hid (BG2 w gc gs gn gl gk (oJ st z A l c sp nx))
  have HF := hid ((fr1 w (bg gc gs gn gl gk)).alloc (oJ st z A l c sp nx))
  clear hm _hi
  go_enter Try.func35, Try.ntmps35
  go_wp2_with (((with_reducible refine ld_geom rfl (.tmp 2) rfl w.heap.size ?_ P0.out ?_); · rfl))
  refine (HL.out _).mono ?_
  rintro e w1 ⟨rfl, f1⟩
  have HF := hid ((HF.out.trans f1).alloc (by_ 0 0 0 0 0 0 0 0))
  clear f1
  go_wp2
  go_ret
  exact ⟨rfl, HF.out⟩
set_option maxRecDepth 100000 in
set_option maxHeartbeats 2000000 in
theorem rmay_rest (gc gs gn gl gk : Int) (st z : Int) (A : Option Addr) (l c : Nat) (sp nx : Int) (bs : List Int) (w : World) (hs : -9223372036854775808 ≤ gs ∧ gs ≤ 9223372036854775807) (hm : mayG ⟨gc, gs, gn, gl, gk⟩) (hi : InI w A l c bs) :
    Calls Try.prog 35 #[.agg #[.int .i64 gc, .int .i64 gs, .int .i64 gn, .int .i64 gl, .int .i64 gk], .agg #[.int .i64 st, .int .i64 z, .slice A l c, .int .i64 sp, .int .i64 nx]] w fun e w' => e = .returned (.bool (mayB ⟨gc, gs, gn, gl, gk⟩ ⟨st, z, bs, sp, nx⟩)) ∧ Fr No w w' := by
  have HL := hid (fun W => rlayout_ok gc gs gn gl gk W hs)
  rw [rlo_yes hm] at HL
  have hg := good hm.1
  have hlm := hi.lm
  unfold maxLen at hlm
  obtain ⟨R, hR⟩ : ∃ R, mayB ⟨gc, gs, gn, gl, gk⟩ ⟨st, z, bs, sp, nx⟩ = R := ⟨_, rfl⟩
  rw [hR]
  obtain ⟨zb, hzb⟩ : ∃ b, sqB ⟨gc, gs, gn, gl, gk⟩ z = b := ⟨_, rfl⟩
  obtain ⟨pb, hpb⟩ : ∃ b, sqB ⟨gc, gs, gn, gl, gk⟩ sp = b := ⟨_, rfl⟩
  have HZ := hid (fun W => rseq_ok gc gs gn gl gk z W hm)
  have HP := hid (fun W => rseq_ok gc gs gn gl gk sp W hm)
  rw [hzb] at HZ
  rw [hpb] at HP
  have P0 := hid (BG2 w gc gs gn gl gk (oJ st z A l c sp nx))
  have P1 := hid (BJ.at_ (w := w.alloc (bg gc gs gn gl gk)) (g := w.heap.size + 1) st z A l c sp nx (by simp))
  have HF := hid ((fr1 w (bg gc gs gn gl gk)).alloc (oJ st z A l c sp nx))
  have HI := hid (hi.fr HF.out)
  have HST := hid (fun h => (may_st (j := ⟨st, z, bs, sp, nx⟩) hm h))
  obtain ⟨zv, hzv⟩ : ∃ b, (zb || z == 255) = b := ⟨_, rfl⟩
  obtain ⟨nv, hnv⟩ : ∃ b, (sp == 255 && nx == 0) = b := ⟨_, rfl⟩
  obtain ⟨pv, hpv⟩ : ∃ b, (zv && (!bs.isEmpty && (pb && sp != z))) = b := ⟨_, rfl⟩
  have HZV := hid hzv
  have HNV := hid hnv
  have HPV := hid hpv
  have HSTB := hid (show stB ⟨gc, gs, gn, gl, gk⟩ ⟨st, z, bs, sp, nx⟩ = (if st = 0 then z == 255 && (nv && bs.isEmpty) else if st = 5 then zb && (nv && bs.isEmpty) else if st = 1 then zv && (nv && !bs.isEmpty) else if st = 3 then pv && nx == 0 else if st = 2 then pv && (decide (0 ≤ nx) && decide (nx < (lay ⟨gc, gs, gn, gl, gk⟩).d)) else if st = 4 then pv && nx == (lay ⟨gc, gs, gn, gl, gk⟩).d else false) by
    rw [← hpv, ← hzv, ← hnv, ← hzb, ← hpb]
    simp only [stB, clB, hoB]
    generalize sqB ⟨gc, gs, gn, gl, gk⟩ z = a1
    generalize sqB ⟨gc, gs, gn, gl, gk⟩ sp = a2
    generalize (z == 255) = a3
    generalize (sp == 255) = a4
    generalize (nx == 0) = a5
    generalize bs.isEmpty = a6
    generalize (sp != z) = a7
    generalize (nx == (lay ⟨gc, gs, gn, gl, gk⟩).d) = a8
    generalize decide (0 ≤ nx) = a9
    generalize decide (nx < (lay ⟨gc, gs, gn, gl, gk⟩).d) = b1
    split
    · cases a3 <;> cases a4 <;> cases a5 <;> rfl
    split
    · cases a1 <;> cases a4 <;> cases a5 <;> cases a6 <;> rfl
    split
    · cases a1 <;> cases a3 <;> cases a4 <;> cases a5 <;> cases a6 <;> rfl
    split
    · cases a1 <;> cases a2 <;> cases a3 <;> cases a6 <;> cases a7 <;> rfl
    split
    · cases a1 <;> cases a2 <;> cases a3 <;> cases a6 <;> cases a7 <;> rfl
    split
    · cases a1 <;> cases a2 <;> cases a3 <;> cases a6 <;> cases a7 <;> rfl
    rfl)
  have HR := hid hR
  have HBAD := hid (fun h => may_bad (g := ⟨gc, gs, gn, gl, gk⟩) (j := ⟨st, z, bs, sp, nx⟩) h)
  have hd2 : (lay ⟨gc, gs, gn, gl, gk⟩).d ≤ 1000000 := by have := hg.d2; omega
  have hb2 : (lay ⟨gc, gs, gn, gl, gk⟩).b ≤ 1000000 := by have := hg.b2; omega
  clear hR hzb hpb hm hzv hnv hpv hi hg
  obtain ⟨y, hy⟩ : ∃ y, lay ⟨gc, gs, gn, gl, gk⟩ = y := ⟨_, rfl⟩
  rw [hy] at HL HST HSTB HBAD hd2 hb2
  obtain ⟨ya, yr, yq, yb, yd, yt, yx, yu⟩ := y
  dsimp only at HL HST HSTB HBAD hd2 hb2
  clear hy
  go_enter Try.func35, Try.ntmps35
  go_wp2_with (((with_reducible refine ld_geom rfl (.tmp 2) rfl w.heap.size ?_ P0.out ?_); · rfl))
  refine (HL.out _).mono ?_
  rintro e w1 ⟨rfl, f1⟩
  have HF := hid ((HF.out.trans f1).alloc (by_ ya yr yq yb yd yt yx yu))
  have HI := hid (HI.out.fr (f1.alloc (by_ ya yr yq yb yd yt yx yu)))
  have P0 := hid ((P0.out.fr f1 : Blk _ _ _ _).alloc (by_ ya yr yq yb yd yt yx yu))
  have P1 := hid ((P1.out.fr f1).up (by_ ya yr yq yb yd yt yx yu))
  have P2 := hid (BL.new w1 ya yr yq yb yd yt yx yu)
  clear f1 HL
  obtain ⟨wz, hwz⟩ : ∃ wz, w1.alloc (by_ ya yr yq yb yd yt yx yu) = wz := ⟨_, rfl⟩
  obtain ⟨ly, hly⟩ : ∃ ly, w1.heap.size = ly := ⟨_, rfl⟩
  rw [hwz] at HF HI P0 P1 P2
  rw [hly] at P2
  obtain ⟨jb, hjb⟩ : ∃ jb, w.heap.size + 1 = jb := ⟨_, rfl⟩
  rw [hjb] at P1
  have HJB := hid hjb
  go_wp2_with fail
  go_loopw [7] (fun i wr => ∃ k : Nat, k ≤ l ∧ i = .int .i64 k ∧ Hid (rises yb 0 (bs.take k) = true) ∧ Fr No wz wr) (fun i _ => l - (intOf i).toNat)
  case atStart => exact ⟨0, by omega, rfl, hid rfl, Fr.refl _ _⟩
  case round =>
    obtain ⟨k, hk, rfl, HK, hf⟩ := hrel
    have P0 := hid (show BG wr w.heap.size gc gs gn gl gk from Blk.fr P0.out hf (fun h => h))
    have P1 := hid (P1.out.fr hf)
    have P2 := hid (P2.out.fr hf)
    have HI := hid (HI.out.fr hf)
    have HF2 := hid hf
    have HF := hid (HF.out.trans hf)
    clear hf
    obtain ⟨c0, c1, c2, c3, c4⟩ := P1.out.cells
    obtain ⟨d0, d1, d2, d3, d4, d5, d6, d7⟩ := P2.out.cells
    clear d0 d1 d2 d5 d6 d7
    by_cases hlt : k < l
    · obtain ⟨x, hx⟩ : ∃ x, bs[k]? = some x := ⟨_, List.getElem?_eq_getElem (by rw [HI.out.len]; exact hlt)⟩
      have HX := hid hx
      have HNX := hid (fun h => (HR.out.symm.trans (HBAD.out (rises_bad (lo := 0) HX.out h)) : R = false))
      have hlt3 : (k : Int) < l := by omega
      have h0 : (0 : Int) ≤ k := by omega
      clear hx
      rcases Nat.eq_zero_or_pos k with hk0 | hk0
      · subst hk0
        have HFK := HF
        obtain ⟨g, o, rfl, hg, hc⟩ := HI.out.rd.at_ (by omega)
        have HF := HFK
        have q0 := hc 0 x HX.out
        have k1 : decide ((0 : Int) < ((0 : Nat) : Int)) = false := rfl
        have q1 : wr.cell? ⟨g, o, none⟩ = some (.int .i64 x) := by simpa using q0
        have hl0 : (0 : Int) < l := by omega
        have hl1 : 0 < l := by omega
        clear hc hg hlt3 h0
        simp only [Int.natCast_zero]
        by_cases h1 : x < 0
        · have HN := hid (HNX.out (by simp [least]; omega))
          have b1 : decide (x < 0) = true := decide_eq_true h1
          go_wp2_with fail
          go_quiet (fail)
          go_wp2
          go_ret
          exact ⟨retb HN.out.symm, HF.out.drewN _⟩
        have b1 : decide (x < 0) = false := decide_eq_false h1
        by_cases h2 : yb ≤ x
        · have HN := hid (HNX.out (by omega))
          have b2 : decide (yb ≤ x) = true := decide_eq_true h2
          go_wp2_with fail
          go_quiet (fail)
          go_wp2
          go_ret
          exact ⟨retb HN.out.symm, HF.out.drewN _⟩
        have b2 : decide (yb ≤ x) = false := decide_eq_false h2
        have HGD := hid (rises_good HX.out HK.out (by simp [least]; omega) (by omega))
        go_wp2_with fail
        go_quiet (fail)
        go_wp2
        go_roundw
        case rel => exact ⟨1, by omega, by go_num, HGD, HF2.out.drewN _⟩
        case measure => simp [intOf]; omega
      obtain ⟨j, rfl⟩ : ∃ j, k = j + 1 := ⟨k - 1, by omega⟩
      obtain ⟨y, hy⟩ : ∃ y, bs[j]? = some y := ⟨_, List.getElem?_eq_getElem (by rw [HI.out.len]; omega)⟩
      have HLE := hid (least_take hy 0)
      have HFK := HF
      obtain ⟨g, o, rfl, hg, hc⟩ := HI.out.rd.at_ (by omega)
      have HF := HFK
      have q0 := hc (j + 1) x HX.out
      have q1 := hc j y hy
      have hy0 := rises_bound HK.out y (List.mem_of_getElem? (List.getElem?_take_of_lt (l := bs) (i := j) (j := j + 1) (by omega) ▸ hy))
      have k1 : decide ((0 : Int) < ((j + 1 : Nat) : Int)) = true := decide_eq_true (by omega)
      have k2 : decide ((0 : Int) < (j : Int) + 1) = true := decide_eq_true (by omega)
      have k3 : decide (0 < j + 1) = true := decide_eq_true (by omega)
      have j0 : (0 : Int) ≤ j := by omega
      have j1 : (j : Int) < l := by omega
      have j2 : IntKind.i64.wrap (j : Int) = j := by rw [IntKind.wrap_i64]; omega
      have j3 : IntKind.i64.wrap ((j : Int) + 1 - 1) = j := by rw [IntKind.wrap_i64]; omega
      clear hc hg hy
      by_cases h1 : x < 0
      · have HN := hid (HNX.out (by rw [HLE.out]; omega))
        have b1 : decide (x < 0) = true := decide_eq_true h1
        go_wp2_with fail
        go_quiet (fail)
        go_wp2
        go_ret
        exact ⟨retb HN.out.symm, HF.out.drewN _⟩
      have b1 : decide (x < 0) = false := decide_eq_false h1
      by_cases h2 : yb ≤ x
      · have HN := hid (HNX.out (by omega))
        have b2 : decide (yb ≤ x) = true := decide_eq_true h2
        go_wp2_with fail
        go_quiet (fail)
        go_wp2
        go_ret
        exact ⟨retb HN.out.symm, HF.out.drewN _⟩
      have b2 : decide (yb ≤ x) = false := decide_eq_false h2
      by_cases h3 : x ≤ y
      · have HN := hid (HNX.out (by rw [HLE.out]; omega))
        have b3 : decide (x ≤ y) = true := decide_eq_true h3
        go_wp2_with fail
        go_quiet (fail)
        go_wp2
        go_ret
        exact ⟨retb HN.out.symm, HF.out.drewN _⟩
      have b3 : decide (x ≤ y) = false := decide_eq_false h3
      have HGD := hid (rises_good HX.out HK.out (by rw [HLE.out]; omega) (by omega))
      go_wp2_with fail
      go_quiet (fail)
      go_wp2
      go_roundw
      case rel => exact ⟨j + 2, by omega, by go_num, HGD, HF2.out.drewN _⟩
      case measure => simp [intOf]; omega
    obtain rfl : l = k := by omega
    have HRB := hid (show rises yb 0 bs = true by
      have q := HK.out
      rw [List.take_of_length_le (by rw [HI.out.len]; omega)] at q
      exact q)
    have HRS := hid (show R = _ from HR.out.symm.trans ((HST.out HRB.out).trans HSTB.out))
    clear HSTB HST HBAD HR hlt HK HRB
    obtain ⟨w3, hw3⟩ : ∃ w3, w3 = wr := ⟨_, rfl⟩
    subst hw3
    go_upto_region 9 with fail
    go_cut [8] (fun v wx => v = .bool zv ∧ Fr No w3 wx)
    case first =>
      go_wp2_with (((with_reducible refine ld_geom rfl (.tmp 2) rfl w.heap.size ?_ P0.out ?_); · rfl))
      refine (HZ.out _).mono ?_
      rintro e w4 ⟨rfl, f4⟩
      have P1 := hid (P1.out.fr f4)
      have HF4 := hid f4
      clear c0 c1 c2 c3 c4
      obtain ⟨c0, c1, c2, c3, c4⟩ := P1.out.cells
      clear f4
      cases zb
      · have HV := hid (show zv = (z == 255) by rw [← HZV.out]; simp)
        go_wp2_with fail
        go_meet
        case rel => exact ⟨congrArg Value.bool HV.out.symm, HF4.out⟩
      · have HV := hid (show zv = true by rw [← HZV.out]; simp)
        go_wp2_with fail
        go_meet
        case rel => exact ⟨congrArg Value.bool HV.out.symm, HF4.out⟩
    case rest =>
    obtain ⟨rfl, f4⟩ := hcut
    have HF := kf f4 HF
    have HI := hid (HI.out.fr f4)
    have P0 := hid (show BG wc w.heap.size gc gs gn gl gk from Blk.fr P0.out f4 (fun h => h))
    have P1 := hid (P1.out.fr f4)
    have P2 := hid (P2.out.fr f4)
    clear c0 c1 c2 c3 c4 f4 d3 d4
    obtain ⟨w5, hw5⟩ : ∃ w5, w5 = wc := ⟨_, rfl⟩
    subst hw5
    obtain ⟨c0, c1, c2, c3, c4⟩ := P1.out.cells
    go_upto_region 10 with fail
    go_cut [9] (fun v wx => v = .bool nv ∧ w5 = wx)
    case first =>
      by_cases h5 : sp = 255
      · have HV := hid (show nv = (nx == 0) by rw [← HNV.out]; simp [h5])
        have e5 : (sp == 255) = true := by simpa using h5
        clear h5
        go_wp2_with fail
        go_meet
        case rel => exact ⟨congrArg Value.bool HV.out.symm, rfl⟩
      · have HV := hid (show nv = false by rw [← HNV.out]; simp [h5])
        have e5 : (sp == 255) = false := by simpa using h5
        clear h5
        go_wp2_with fail
        go_meet
        case rel => exact ⟨congrArg Value.bool HV.out.symm, rfl⟩
    case rest =>
    obtain ⟨rfl, rfl⟩ := hcut
    go_upto_region 11 with fail
    go_cut [10] (fun v wx => v = .bool pv ∧ Fr No w5 wx)
    case first =>
      have HF5 := hid (Fr.refl No w5)
      cases zv
      · have HV := hid (show pv = false by rw [← HPV.out]; rfl)
        go_wp2_with fail
        go_meet
        case rel => exact ⟨congrArg Value.bool HV.out.symm, HF5.out⟩
      by_cases h0 : l = 0
      · have HV := hid (show pv = false by rw [← HPV.out, (ne_of_len HI.out).2 h0]; rfl)
        have h1 : decide (0 < (l : Int)) = false := decide_eq_false (by omega)
        have h1n : decide (0 < l) = false := decide_eq_false (by omega)
        clear h0
        go_wp2_with fail
        go_meet
        case rel => exact ⟨congrArg Value.bool HV.out.symm, HF5.out⟩
      have HNE := hid (show bs.isEmpty = false by
        have : bs ≠ [] := fun h => h0 ((ne_of_len HI.out).1 h)
        cases bs with
        | nil => exact absurd rfl this
        | cons a b => rfl)
      have h1 : decide (0 < (l : Int)) = true := decide_eq_true (by omega)
      have h1n : decide (0 < l) = true := decide_eq_true (by omega)
      clear h0
      obtain ⟨g0, g1, g2, g3, g4⟩ := P0.out.cells
      go_wp2_with fail
      refine (HP.out _).mono ?_
      rintro e w6 ⟨rfl, f6⟩
      have P1 := hid (P1.out.fr f6)
      have HF6 := hid f6
      clear c0 c1 c2 c3 c4 g0 g1 g2 g3 g4
      obtain ⟨c0, c1, c2, c3, c4⟩ := P1.out.cells
      clear f6
      cases pb
      · have HV := hid (show pv = false by rw [← HPV.out, HNE.out]; rfl)
        go_wp2_with fail
        go_meet
        case rel => exact ⟨congrArg Value.bool HV.out.symm, HF6.out⟩
      · have HV := hid (show pv = (sp != z) by rw [← HPV.out, HNE.out]; simp)
        go_wp2_with fail
        go_meet
        case rel => exact ⟨congrArg Value.bool HV.out.symm, HF6.out⟩
    case rest =>
    obtain ⟨rfl, f4⟩ := hcut
    have HF := kf f4 HF
    have HI := hid (HI.out.fr f4)
    have P0 := hid (show BG wc w.heap.size gc gs gn gl gk from Blk.fr P0.out f4 (fun h => h))
    have P1 := hid (P1.out.fr f4)
    have P2 := hid (P2.out.fr f4)
    clear c0 c1 c2 c3 c4 f4
    obtain ⟨c0, c1, c2, c3, c4⟩ := P1.out.cells
    obtain ⟨d0, d1, d2, d3, d4, d5, d6, d7⟩ := P2.out.cells
    clear d0 d1 d2 d3 d5 d6 d7 HZV HNV HPV
    have HFL := HF
    have HIL := HI
    have P0L := P0
    by_cases s0 : st = 0
    · subst s0
      have HF := HFL
      have HI := HIL
      have P0 := P0L
      have HT := hid (show R = (z == 255 && (nv && bs.isEmpty)) by rw [HRS.out]; simp)
      clear HRS
      by_cases hz : z = 255
      case neg =>
        have ez : (z == 255) = false := by simpa using hz
        clear hz
        go_wp2_with fail
        go_ret
        exact ⟨retb (by rw [HT.out, ez]; rfl), HF.out⟩
      have ez : (z == 255) = true := by simpa using hz
      clear hz
      cases nv
      case false =>
        go_wp2_with fail
        go_ret
        exact ⟨retb (by rw [HT.out, ez]; rfl), HF.out⟩
      by_cases h0 : l = 0
      case neg =>
        have HNE := hid (show bs.isEmpty = false by
            have : bs ≠ [] := fun h => h0 ((ne_of_len HI.out).1 h)
            cases bs with
            | nil => exact absurd rfl this
            | cons a b => rfl)
        have h1 : ((l : Int) == 0) = false := by
            have : ¬ (l : Int) = 0 := by omega
            simpa using this
        have h1n : (l == 0) = false := by simpa using h0
        have h2 : decide (0 < (l : Int)) = true := decide_eq_true (by omega)
        have h2n : decide (0 < l) = true := decide_eq_true (by omega)
        clear h0
        go_wp2_with fail
        go_ret
        exact ⟨retb (by rw [HT.out, ez, HNE.out]; rfl), HF.out⟩
      have HNE := hid (show bs.isEmpty = true by rw [(ne_of_len HI.out).2 h0]; rfl)
      have h1 : ((l : Int) == 0) = true := by
          have : (l : Int) = 0 := by omega
          simpa using this
      have h1n : (l == 0) = true := by simpa using h0
      have h2 : decide (0 < (l : Int)) = false := decide_eq_false (by omega)
      have h2n : decide (0 < l) = false := decide_eq_false (by omega)
      clear h0
      go_wp2_with fail
      go_ret
      exact ⟨retb (by rw [HT.out, ez, HNE.out]; rfl), HF.out⟩
    by_cases s5 : st = 5
    · subst s5
      have HF := HFL
      have HI := HIL
      have P0 := P0L
      have HT := hid (show R = (zb && (nv && bs.isEmpty)) by rw [HRS.out]; simp)
      clear HRS
      go_wp2_with (((with_reducible refine ld_geom rfl (.tmp 2) rfl w.heap.size ?_ P0.out ?_); · rfl))
      refine (HZ.out _).mono ?_
      rintro e w6 ⟨rfl, f6⟩
      have HF := kf f6 HF
      have P1 := hid (P1.out.fr f6)
      have HI := hid (HI.out.fr f6)
      clear c0 c1 c2 c3 c4 d4
      obtain ⟨c0, c1, c2, c3, c4⟩ := P1.out.cells
      clear f6
      cases zb
      case false =>
        go_wp2_with fail
        go_ret
        exact ⟨retb (by rw [HT.out]; rfl), HF.out⟩
      cases nv
      case false =>
        go_wp2_with fail
        go_ret
        exact ⟨retb (by rw [HT.out]; rfl), HF.out⟩
      by_cases h0 : l = 0
      case neg =>
        have HNE := hid (show bs.isEmpty = false by
            have : bs ≠ [] := fun h => h0 ((ne_of_len HI.out).1 h)
            cases bs with
            | nil => exact absurd rfl this
            | cons a b => rfl)
        have h1 : ((l : Int) == 0) = false := by
            have : ¬ (l : Int) = 0 := by omega
            simpa using this
        have h1n : (l == 0) = false := by simpa using h0
        have h2 : decide (0 < (l : Int)) = true := decide_eq_true (by omega)
        have h2n : decide (0 < l) = true := decide_eq_true (by omega)
        clear h0
        go_wp2_with fail
        go_ret
        exact ⟨retb (by rw [HT.out, HNE.out]; rfl), HF.out⟩
      have HNE := hid (show bs.isEmpty = true by rw [(ne_of_len HI.out).2 h0]; rfl)
      have h1 : ((l : Int) == 0) = true := by
          have : (l : Int) = 0 := by omega
          simpa using this
      have h1n : (l == 0) = true := by simpa using h0
      have h2 : decide (0 < (l : Int)) = false := decide_eq_false (by omega)
      have h2n : decide (0 < l) = false := decide_eq_false (by omega)
      clear h0
      go_wp2_with fail
      go_ret
      exact ⟨retb (by rw [HT.out, HNE.out]; rfl), HF.out⟩
    by_cases s1 : st = 1
    · subst s1
      have HF := HFL
      have HI := HIL
      have P0 := P0L
      have HT := hid (show R = (zv && (nv && !bs.isEmpty)) by rw [HRS.out]; simp)
      clear HRS
      cases zv
      case false =>
        go_wp2_with fail
        go_ret
        exact ⟨retb (by rw [HT.out]; rfl), HF.out⟩
      cases nv
      case false =>
        go_wp2_with fail
        go_ret
        exact ⟨retb (by rw [HT.out]; rfl), HF.out⟩
      by_cases h0 : l = 0
      case neg =>
        have HNE := hid (show bs.isEmpty = false by
            have : bs ≠ [] := fun h => h0 ((ne_of_len HI.out).1 h)
            cases bs with
            | nil => exact absurd rfl this
            | cons a b => rfl)
        have h1 : ((l : Int) == 0) = false := by
            have : ¬ (l : Int) = 0 := by omega
            simpa using this
        have h1n : (l == 0) = false := by simpa using h0
        have h2 : decide (0 < (l : Int)) = true := decide_eq_true (by omega)
        have h2n : decide (0 < l) = true := decide_eq_true (by omega)
        clear h0
        go_wp2_with fail
        go_ret
        exact ⟨retb (by rw [HT.out, HNE.out]; rfl), HF.out⟩
      have HNE := hid (show bs.isEmpty = true by rw [(ne_of_len HI.out).2 h0]; rfl)
      have h1 : ((l : Int) == 0) = true := by
          have : (l : Int) = 0 := by omega
          simpa using this
      have h1n : (l == 0) = true := by simpa using h0
      have h2 : decide (0 < (l : Int)) = false := decide_eq_false (by omega)
      have h2n : decide (0 < l) = false := decide_eq_false (by omega)
      clear h0
      go_wp2_with fail
      go_ret
      exact ⟨retb (by rw [HT.out, HNE.out]; rfl), HF.out⟩
    by_cases s2 : st = 2
    · subst s2
      have HF := HFL
      have HI := HIL
      have P0 := P0L
      have HT := hid (show R = (pv && (decide (0 ≤ nx) && decide (nx < yd))) by rw [HRS.out]; simp)
      clear HRS
      cases pv
      case false =>
        go_wp2_with fail
        go_ret
        exact ⟨retb (by rw [HT.out]; rfl), HF.out⟩
      by_cases hn : 0 ≤ nx
      case neg =>
        have en : decide (0 ≤ nx) = false := decide_eq_false hn
        go_wp2_with fail
        go_ret
        exact ⟨retb (by rw [HT.out, en]; rfl), HF.out⟩
      have en : decide (0 ≤ nx) = true := decide_eq_true hn
      go_wp2_with fail
      go_ret
      exact ⟨retb (by rw [HT.out, en]; rfl), HF.out⟩
    by_cases s3 : st = 3
    · subst s3
      have HF := HFL
      have HI := HIL
      have P0 := P0L
      have HT := hid (show R = (pv && nx == 0) by rw [HRS.out]; simp)
      clear HRS
      cases pv
      case false =>
        go_wp2_with fail
        go_ret
        exact ⟨retb (by rw [HT.out]; rfl), HF.out⟩
      go_wp2_with fail
      go_ret
      exact ⟨retb (by rw [HT.out]; rfl), HF.out⟩
    by_cases s4 : st = 4
    · subst s4
      have HF := HFL
      have HI := HIL
      have P0 := P0L
      have HT := hid (show R = (pv && nx == yd) by rw [HRS.out]; simp)
      clear HRS
      cases pv
      case false =>
        go_wp2_with fail
        go_ret
        exact ⟨retb (by rw [HT.out]; rfl), HF.out⟩
      go_wp2_with fail
      go_ret
      exact ⟨retb (by rw [HT.out]; rfl), HF.out⟩
    have HT := hid (show R = false by rw [HRS.out, if_neg s0, if_neg s5, if_neg s1, if_neg s3, if_neg s2, if_neg s4])
    have e0 : (st == 0) = false := by simpa using s0
    have e5 : (st == 5) = false := by simpa using s5
    have e1 : (st == 1) = false := by simpa using s1
    have e2 : (st == 2) = false := by simpa using s2
    have e3 : (st == 3) = false := by simpa using s3
    have e4 : (st == 4) = false := by simpa using s4
    clear HRS s0 s5 s1 s2 s3 s4
    go_wp2_with fail
    go_ret
    exact ⟨retb (by rw [HT.out]), HF.out⟩
set_option maxRecDepth 100000 in
set_option maxHeartbeats 2000000 in
theorem rmay_ok (gc gs gn gl gk : Int) (st z : Int) (A : Option Addr) (l c : Nat) (sp nx : Int) (bs : List Int) (w : World) (hs : -9223372036854775808 ≤ gs ∧ gs ≤ 9223372036854775807) (hi : InI w A l c bs) :
    Calls Try.prog 35 #[.agg #[.int .i64 gc, .int .i64 gs, .int .i64 gn, .int .i64 gl, .int .i64 gk], .agg #[.int .i64 st, .int .i64 z, .slice A l c, .int .i64 sp, .int .i64 nx]] w fun e w' => e = .returned (.bool (mayB ⟨gc, gs, gn, gl, gk⟩ ⟨st, z, bs, sp, nx⟩)) ∧ Fr No w w' := by
  by_cases hm : mayG ⟨gc, gs, gn, gl, gk⟩
  · exact rmay_rest gc gs gn gl gk st z A l c sp nx bs w hs hm hi
  · exact rmay_geom gc gs gn gl gk st z A l c sp nx bs w hs hm hi
end Go.Proofs.Ytgjcpepfggkieaa.ClF
