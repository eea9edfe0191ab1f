/- Contract: whether a job may be, by the program. Condition: the list reads as a list; numbers of 64 bits. -/
import Derived.Test.YtgjcpepfggkieaaClC
namespace Go.Proofs.Ytgjcpepfggkieaa.ClD
open Go.RowKit MSep MGeM GeA GeC GeD PlA PlB ClM ClA ClE ClB ClC

theorem sqB_no {g : Ge} {i : Int} (h : ¬ mayG g) : sqB g i = false := decide_eq_false (fun k => h k.1)
theorem may_no {g : Ge} {j : Jb} (h : ¬ mayG g) : mayB g j = false := by unfold mayB; rw [decide_eq_false h]; rfl
theorem may_bad {g : Ge} {j : Jb} (h : rises (lay g).b 0 j.bs = false) : mayB g j = false := by unfold mayB; rw [h]; simp
theorem may_st {g : Ge} {j : Jb} (h : mayG g) (hr : rises (lay g).b 0 j.bs = true) : mayB g j = stB g j := by unfold mayB; rw [hr, decide_eq_true h]; rfl
set_option maxRecDepth 100000 in
set_option maxHeartbeats 2000000 in
theorem may_geom (gc gs gn gl gk : Int) (st z : Int) (A : Option Addr) (l c : Nat) (sp nx : Int) (bs : List Int) (w : World) (hs : -9223372036854775808 ≤ gs ∧ gs ≤ 9223372036854775807) (hm : ¬ mayG ⟨gc, gs, gn, gl, gk⟩) (_hi : InI w A l c bs) :
    Calls Try.prog 34 #[.agg #[.int .i64 gc, .int .i64 gs, .int .i64 gn, .int .i64 gl, .int .i64 gk], .agg #[.int .i64 st, .int .i64 z, .slice A l c, .int .i64 sp, .int .i64 nx]] w fun e w' => e = .returned (.bool (mayB ⟨gc, gs, gn, gl, gk⟩ ⟨st, z, bs, sp, nx⟩)) ∧ Fr No w w' := by
  rw [may_no hm]
  have HL := hid (fun W => layout_ok gc gs gn gl gk W hs)
  rw [show lyo ⟨gc, gs, gn, gl, gk⟩ = (z8, 70) by unfold lyo; rw [if_neg hm]] at HL
  unfold z8 at HL
  dsimp only at HL
  have P0 := hid (BG2 w gc gs gn gl gk (oJ st z A l c sp nx))
  have HF := hid ((fr1 w (bg gc gs gn gl gk)).alloc (oJ st z A l c sp nx))
  clear hm _hi
  go_enter Try.func34, Try.ntmps34
  go_wp2_with (((with_reducible refine ld_geom rfl (.tmp 2) rfl w.heap.size ?_ P0.out ?_); · rfl))
  refine (HL.out _).mono ?_
  rintro e w1 ⟨rfl, f1⟩
  have HF := hid ((HF.out.trans f1).alloc (by_ 0 0 0 0 0 0 0 0))
  clear f1
  go_wp2
  go_ret
  exact ⟨rfl, HF.out⟩
set_option maxRecDepth 100000 in
set_option maxHeartbeats 2000000 in
theorem may_rest (gc gs gn gl gk : Int) (st z : Int) (A : Option Addr) (l c : Nat) (sp nx : Int) (bs : List Int) (w : World) (hs : -9223372036854775808 ≤ gs ∧ gs ≤ 9223372036854775807) (hm : mayG ⟨gc, gs, gn, gl, gk⟩) (hz : inI z) (hp : inI sp) (hi : InI w A l c bs) :
    Calls Try.prog 34 #[.agg #[.int .i64 gc, .int .i64 gs, .int .i64 gn, .int .i64 gl, .int .i64 gk], .agg #[.int .i64 st, .int .i64 z, .slice A l c, .int .i64 sp, .int .i64 nx]] w fun e w' => e = .returned (.bool (mayB ⟨gc, gs, gn, gl, gk⟩ ⟨st, z, bs, sp, nx⟩)) ∧ Fr No w w' := by
  have HL := hid (fun W => layout_ok gc gs gn gl gk W hs)
  rw [show lyo ⟨gc, gs, gn, gl, gk⟩ = (lay ⟨gc, gs, gn, gl, gk⟩, 0) by unfold lyo; rw [if_pos hm]] at HL
  have hg := good hm.1
  have hlm := hi.lm
  unfold maxLen at hlm
  obtain ⟨R, hR⟩ : ∃ R, mayB ⟨gc, gs, gn, gl, gk⟩ ⟨st, z, bs, sp, nx⟩ = R := ⟨_, rfl⟩
  rw [hR]
  obtain ⟨zb, hzb⟩ : ∃ b, sqB ⟨gc, gs, gn, gl, gk⟩ z = b := ⟨_, rfl⟩
  obtain ⟨pb, hpb⟩ : ∃ b, sqB ⟨gc, gs, gn, gl, gk⟩ sp = b := ⟨_, rfl⟩
  have HZ := hid (fun W => isseq_ok gc gs gn gl gk z W hs hz)
  have HP := hid (fun W => isseq_ok gc gs gn gl gk sp W hs hp)
  rw [show decide (sqo ⟨gc, gs, gn, gl, gk⟩ z) = zb from hzb] at HZ
  rw [show decide (sqo ⟨gc, gs, gn, gl, gk⟩ sp) = pb from hpb] at HP
  obtain ⟨rb, hrb⟩ : ∃ b, rises (lay ⟨gc, gs, gn, gl, gk⟩).b 0 bs = b := ⟨_, rfl⟩
  have P0 := hid (BG2 w gc gs gn gl gk (oJ st z A l c sp nx))
  have P1 := hid (BJ.at_ (w := w.alloc (bg gc gs gn gl gk)) (g := w.heap.size + 1) st z A l c sp nx (by simp))
  have HF := hid ((fr1 w (bg gc gs gn gl gk)).alloc (oJ st z A l c sp nx))
  have HI := hid (hi.fr HF.out)
  have HAR := hid (fun (y : Ly) (hy : y.b ≤ 1000000) W (h : InI W A l c bs) => areBands_ok y.a y.r y.q y.b y.d y.t y.x y.u A l c bs W hy h)
  have HB := HAR.out (lay ⟨gc, gs, gn, gl, gk⟩) (by have := hg.b2; omega)
  have HRB := hid hrb
  have HAR2 := hid HB
  clear HAR HB
  rw [hrb] at HAR2
  have HM := hid hm
  have HST := hid (fun h => (may_st (j := ⟨st, z, bs, sp, nx⟩) hm h))
  obtain ⟨clv, hcl⟩ : ∃ b, clB ⟨gc, gs, gn, gl, gk⟩ ⟨st, z, bs, sp, nx⟩ = b := ⟨_, rfl⟩
  obtain ⟨hov, hho⟩ : ∃ b, hoB ⟨gc, gs, gn, gl, gk⟩ ⟨st, z, bs, sp, nx⟩ = b := ⟨_, rfl⟩
  have HCL := hid (show clv = (!bs.isEmpty && (zb || z == 255)) by rw [← hcl, ← hzb]; rfl)
  have HHO := hid (show hov = (pb && sp != z) by rw [← hho, ← hpb]; rfl)
  have HSTB := hid (show stB ⟨gc, gs, gn, gl, gk⟩ ⟨st, z, bs, sp, nx⟩ = (if st = 0 then z == 255 && (sp == 255 && (nx == 0 && bs.isEmpty)) else if st = 5 then zb && (bs.isEmpty && (sp == 255 && nx == 0)) else if st = 1 then clv && (sp == 255 && nx == 0) else if st = 3 then clv && (hov && nx == 0) else if st = 2 then clv && (hov && (decide (0 ≤ nx) && decide (nx < (lay ⟨gc, gs, gn, gl, gk⟩).d))) else if st = 4 then clv && (hov && nx == (lay ⟨gc, gs, gn, gl, gk⟩).d) else false) by rw [← hcl, ← hho, ← hzb]; rfl)
  have HR := hid hR
  have HBAD := hid (fun h => may_bad (g := ⟨gc, gs, gn, gl, gk⟩) (j := ⟨st, z, bs, sp, nx⟩) h)
  have hd2 : (lay ⟨gc, gs, gn, gl, gk⟩).d ≤ 1000000 := by have := hg.d2; omega
  clear hR hzb hpb hrb hm hcl hho hi hz hp hg
  obtain ⟨y, hy⟩ : ∃ y, lay ⟨gc, gs, gn, gl, gk⟩ = y := ⟨_, rfl⟩
  rw [hy] at HL HAR2 HST HSTB HRB HBAD hd2
  obtain ⟨ya, yr, yq, yb, yd, yt, yx, yu⟩ := y
  dsimp only at HL HAR2 HST HSTB HRB HBAD hd2
  clear hy
  cases rb
  · have HN := hid (show R = false by rw [← HR.out]; exact HBAD.out HRB.out)
    go_enter Try.func34, Try.ntmps34
    go_wp2_with (((with_reducible refine ld_geom rfl (.tmp 2) rfl w.heap.size ?_ P0.out ?_); · rfl))
    refine (HL.out _).mono ?_
    rintro e w1 ⟨rfl, f1⟩
    have HF := hid ((HF.out.trans f1).alloc (by_ ya yr yq yb yd yt yx yu))
    have HI := hid (HI.out.fr (f1.alloc (by_ ya yr yq yb yd yt yx yu)))
    have P1 := hid (P1.out.fr f1)
    obtain ⟨c0, c1, c2, c3, c4⟩ := P1.out.cells
    have q2 : ∀ o, (w1.alloc o).cell? ⟨w.heap.size + 1, 2, none⟩ = some (.slice A l c) := fun o => kc (fr1 w1 o) c2
    clear f1 c0 c1 c3 c4
    go_wp2_with fail
    refine (HAR2.out _ HI.out).mono ?_
    rintro e w2 ⟨rfl, f2⟩
    have HF := kf f2 HF
    clear f2 q2 c2
    go_wp2
    go_ret
    exact ⟨retb HN.out.symm, HF.out⟩
  have HRS := hid (show R = _ from HR.out.symm.trans ((HST.out HRB.out).trans HSTB.out))
  clear HSTB HST HBAD HR
  go_enter Try.func34, Try.ntmps34
  go_wp2_with (((with_reducible refine ld_geom rfl (.tmp 2) rfl w.heap.size ?_ P0.out ?_); · rfl))
  refine (HL.out _).mono ?_
  rintro e w1 ⟨rfl, f1⟩
  have HF := hid ((HF.out.trans f1).alloc (by_ ya yr yq yb yd yt yx yu))
  have HI := hid (HI.out.fr (f1.alloc (by_ ya yr yq yb yd yt yx yu)))
  have P0 := hid ((P0.out.fr f1 : Blk _ _ _ _).alloc (by_ ya yr yq yb yd yt yx yu))
  have P1 := hid ((P1.out.fr f1).up (by_ ya yr yq yb yd yt yx yu))
  have P2 := hid (BL.new w1 ya yr yq yb yd yt yx yu)
  obtain ⟨c0, c1, c2, c3, c4⟩ := P1.out.cells
  clear f1 c0 c1 c3 c4
  go_wp2_with fail
  refine (HAR2.out _ HI.out).mono ?_
  rintro e w2 ⟨rfl, f2⟩
  have HF := kf f2 HF
  have HI := hid (HI.out.fr f2)
  have P0 := hid (show BG w2 w.heap.size gc gs gn gl gk from Blk.fr P0.out f2 (fun h => h))
  have P1 := hid (P1.out.fr f2)
  have P2 := hid (P2.out.fr f2)
  obtain ⟨c0, c1, c2, c3, c4⟩ := P1.out.cells
  clear f2 HAR2 HL
  go_wp2_with (((with_reducible refine ld_geom rfl (.tmp 2) rfl w.heap.size ?_ P0.out ?_); · rfl))
  refine (HZ.out _).mono ?_
  rintro e w3 ⟨rfl, f3⟩
  have HF := kf f3 HF
  have P0 := hid (P0.out.fr f3)
  have HI := hid (HI.out.fr f3)
  have P1 := hid (P1.out.fr f3)
  have P2 := hid (P2.out.fr f3)
  clear c0 c1 c2 c3 c4
  obtain ⟨c0, c1, c2, c3, c4⟩ := P1.out.cells
  clear f3 HZ
  go_upto_region 5 with fail
  go_cut [8] (fun v wx => v = .bool clv ∧ w3 = wx)
  case first =>
    by_cases h0 : l = 0
    · have HV := hid (show clv = false by rw [HCL.out, (ne_of_len HI.out).2 h0]; rfl)
      have h1 : decide (0 < (l : Int)) = false := decide_eq_false (by omega)
      have h1n : decide (0 < l) = false := decide_eq_false (by omega)
      clear h0
      go_wp2_with fail
      go_meet
      case rel => exact ⟨congrArg Value.bool HV.out.symm, rfl⟩
    have HNE := hid (show bs.isEmpty = false by
      have : bs ≠ [] := fun h => h0 ((ne_of_len HI.out).1 h)
      cases bs with
      | nil => exact absurd rfl this
      | cons a b => rfl)
    have h1 : decide (0 < (l : Int)) = true := decide_eq_true (by omega)
    have h1n : decide (0 < l) = true := decide_eq_true (by omega)
    clear h0
    cases zb
    · have HV := hid (show clv = (z == 255) by rw [HCL.out, HNE.out]; simp)
      go_wp2_with fail
      go_meet
      case rel => exact ⟨congrArg Value.bool HV.out.symm, rfl⟩
    · have HV := hid (show clv = true by rw [HCL.out, HNE.out]; simp)
      go_wp2_with fail
      go_meet
      case rel => exact ⟨congrArg Value.bool HV.out.symm, rfl⟩
  case rest =>
    obtain ⟨rfl, rfl⟩ := hcut
    go_upto_region 6 with fail
    go_cut [9] (fun v wx => v = .bool hov ∧ Fr No w3 wx)
    case first =>
      go_wp2_with (((with_reducible refine ld_geom rfl (.tmp 2) rfl w.heap.size ?_ P0.out ?_); · rfl))
      refine (HP.out _).mono ?_
      rintro e w4 ⟨rfl, f4⟩
      have P1 := hid (P1.out.fr f4)
      have HF4 := hid f4
      clear c0 c1 c2 c3 c4
      obtain ⟨c0, c1, c2, c3, c4⟩ := P1.out.cells
      clear f4
      cases pb
      · have HV := hid (show hov = false by rw [HHO.out]; rfl)
        go_wp2_with fail
        go_meet
        case rel => exact ⟨congrArg Value.bool HV.out.symm, HF4.out⟩
      · have HV := hid (show hov = (sp != z) by rw [HHO.out]; rfl)
        go_wp2_with fail
        go_meet
        case rel => exact ⟨congrArg Value.bool HV.out.symm, HF4.out⟩
    case rest =>
      obtain ⟨rfl, f4⟩ := hcut
      have HF := kf f4 HF
      have HI := hid (HI.out.fr f4)
      have P1 := hid (P1.out.fr f4)
      have P2 := hid (P2.out.fr f4)
      clear c0 c1 c2 c3 c4 f4
      obtain ⟨c0, c1, c2, c3, c4⟩ := P1.out.cells
      obtain ⟨d0, d1, d2, d3, d4, d5, d6, d7⟩ := P2.out.cells
      clear d0 d1 d2 d3 d5 d6 d7
      have HFL := HF
      have HIL := HI
      by_cases s0 : st = 0
      · subst s0
        have HF := HFL
        have HI := HIL
        have HT := hid (show R = (z == 255 && (sp == 255 && (nx == 0 && bs.isEmpty))) by rw [HRS.out]; simp)
        clear HRS HCL HHO
        have HV := hid (show R = decide ((⟨0, z, bs, sp, nx⟩ : Jb) = ⟨0, 255, [], 255, 0⟩) by
          rw [HT.out, Bool.eq_iff_iff]
          simp only [Bool.and_eq_true, beq_iff_eq, decide_eq_true_eq, Jb.mk.injEq, List.isEmpty_iff]
          constructor
          · rintro ⟨h1, h2, h3, h4⟩; exact ⟨trivial, h1, h4, h2, h3⟩
          · rintro ⟨_, h1, h4, h2, h3⟩; exact ⟨h1, h2, h3, h4⟩)
        have HSM := hid (fun W (h : InI W A l c bs) => same_ok 0 z A l c sp nx bs 0 255 none 0 0 255 0 [] W h (InI.nil W))
        obtain ⟨V, hV⟩ : ∃ V, decide ((⟨0, z, bs, sp, nx⟩ : Jb) = ⟨0, 255, [], 255, 0⟩) = V := ⟨_, rfl⟩
        rw [hV] at HSM HV
        clear hV
        go_upto_region 9 with fail
        have FW := hid (Fr.refl No wc)
        have FW := kd FW
        refine wp_region_noPanic ?_
        refine wp_region_held_drew (S := (fun W' => W'.cell? ⟨w.heap.size + 1, 0, none⟩ = some (.int .i64 0) ∧ W'.cell? ⟨w.heap.size + 1, 1, none⟩ = some (.int .i64 z) ∧ W'.cell? ⟨w.heap.size + 1, 2, none⟩ = some (.slice A l c) ∧ W'.cell? ⟨w.heap.size + 1, 3, none⟩ = some (.int .i64 sp) ∧ W'.cell? ⟨w.heap.size + 1, 4, none⟩ = some (.int .i64 nx) ∧ Hid (Fr No wc W'))) (by kernel_rfl) ?_ (fun hHeld => ?_)
        · (try dsimp only); (first | (go_split_ands; exact ⟨kc f (by assumption), kc f (by assumption), kc f (by assumption), kc f (by assumption), kc f (by assumption), by assumption⟩) | (go_split_ands; exact ⟨(by assumption), (by assumption), (by assumption), (by assumption), (by assumption), by assumption⟩) | (go_split_ands; exact ⟨kc (fr1 _ _) (by assumption), kc (fr1 _ _) (by assumption), kc (fr1 _ _) (by assumption), kc (fr1 _ _) (by assumption), kc (fr1 _ _) (by assumption), kfa (by assumption)⟩))
        refine wpAnyH_take (i := 0) (v := ?v1) rfl (by kernel_rfl) (by kernel_rfl) (by kernel_rfl) (fun _ _ _ h => h) (Or.inl ⟨by kernel_rfl, ?y1⟩) (by assumption) ?_
        case y1 => (intro w hSw; (try dsimp only at hSw); go_simp; all_goals with_reducible rfl)
        try simp only [Act.put, List.getElem_toArray, List.getElem_cons_zero, List.setIfInBounds_toArray, List.set_cons_zero, List.set_cons_succ]
        refine wpAnyH_ready (rs := [1]) (by kernel_rfl) (by simp) (AllReadyH.cons rfl (fun K hK => ?_) AllReadyH.nil)
        go_simp
        go_at_call 41
        refine (idle_ok _).mono ?_
        rintro e W1 ⟨rfl, f⟩
        have FW := kf f hHeld.2.2.2.2.2
        dsimp only
        refine hK.out _ _ ?_ (fun hHeld => ?_)
        · (try dsimp only); (first | (go_split_ands; exact ⟨kc f (by assumption), kc f (by assumption), kc f (by assumption), kc f (by assumption), kc f (by assumption), by assumption⟩) | (go_split_ands; exact ⟨(by assumption), (by assumption), (by assumption), (by assumption), (by assumption), by assumption⟩) | (go_split_ands; exact ⟨kc (fr1 _ _) (by assumption), kc (fr1 _ _) (by assumption), kc (fr1 _ _) (by assumption), kc (fr1 _ _) (by assumption), kc (fr1 _ _) (by assumption), kfa (by assumption)⟩))
        clear hK K
        try simp only [Act.put, List.getElem_toArray, List.getElem_cons_succ, List.getElem_cons_zero, List.setIfInBounds_toArray, List.set_cons_zero, List.set_cons_succ]
        refine wpAnyH_ready (rs := [2]) (by kernel_rfl) (by simp) (AllReadyH.cons rfl (fun K hK => ?_) AllReadyH.nil)
        go_simp
        go_at_call 44
        refine (HSM.out _ (HI.out.fr hHeld.2.2.2.2.2.out)).mono ?_
        rintro e W1 ⟨rfl, f⟩
        have FW := kf f hHeld.2.2.2.2.2
        dsimp only
        refine hK.out _ _ ?_ (fun hHeld => ?_)
        · (try dsimp only); (first | (go_split_ands; exact ⟨kc f (by assumption), kc f (by assumption), kc f (by assumption), kc f (by assumption), kc f (by assumption), by assumption⟩) | (go_split_ands; exact ⟨(by assumption), (by assumption), (by assumption), (by assumption), (by assumption), by assumption⟩) | (go_split_ands; exact ⟨kc (fr1 _ _) (by assumption), kc (fr1 _ _) (by assumption), kc (fr1 _ _) (by assumption), kc (fr1 _ _) (by assumption), kc (fr1 _ _) (by assumption), kfa (by assumption)⟩))
        clear hK K
        try simp only [Act.put, List.getElem_toArray, List.getElem_cons_succ, List.getElem_cons_zero, List.setIfInBounds_toArray, List.set_cons_zero, List.set_cons_succ]
        refine wpAnyH_take (i := 3) (v := ?v2) rfl (by kernel_rfl) (by kernel_rfl) (by kernel_rfl) (fun _ _ _ h => h) (Or.inl ⟨by kernel_rfl, ?y2⟩) (by assumption) ?_
        case y2 => (intro w hSw; (try dsimp only at hSw); go_simp; all_goals with_reducible rfl)
        try simp only [Act.put, List.getElem_toArray, List.getElem_cons_succ, List.getElem_cons_zero, List.setIfInBounds_toArray, List.set_cons_zero, List.set_cons_succ]
        refine wpAnyH_done (by kernel_rfl) ?_ _
        refine NoPanic.normal ?_
        go_wp2_with fail
        go_ret
        exact ⟨retb HV.out.symm, HF.out.trans FW.out⟩
      by_cases s5 : st = 5
      · subst s5
        have HF := HFL
        have HI := HIL
        have HT := hid (show R = (zb && (bs.isEmpty && (sp == 255 && nx == 0))) by rw [HRS.out]; simp)
        clear HRS HCL HHO
        cases zb
        case false =>
          go_wp2_with fail
          go_ret
          exact ⟨retb (by rw [HT.out]; rfl), HF.out⟩
        by_cases h0 : l = 0
        case neg =>
          have HNE := hid (show bs.isEmpty = false by
            have : bs ≠ [] := fun h => h0 ((ne_of_len HI.out).1 h)
            cases bs with
            | nil => exact absurd rfl this
            | cons a b => rfl)
          have h1 : ((l : Int) == 0) = false := by
            have : ¬ (l : Int) = 0 := by omega
            simpa using this
          have h1n : (l == 0) = false := by simpa using h0
          clear h0
          go_wp2_with fail
          go_ret
          exact ⟨retb (by rw [HT.out, HNE.out]; rfl), HF.out⟩
        have HE := hid (show bs.isEmpty = true by rw [(ne_of_len HI.out).2 h0]; rfl)
        have h1 : ((l : Int) == 0) = true := by
          have : (l : Int) = 0 := by omega
          simpa using this
        have h1n : (l == 0) = true := by simpa using h0
        clear h0
        by_cases hp : sp = 255
        case neg =>
          have ep : (sp == 255) = false := by simpa using hp
          clear hp
          go_wp2_with fail
          go_ret
          exact ⟨retb (by rw [HT.out, HE.out, ep]; rfl), HF.out⟩
        have ep : (sp == 255) = true := by simpa using hp
        clear hp
        go_wp2_with fail
        go_ret
        exact ⟨retb (by rw [HT.out, HE.out, ep]; simp), HF.out⟩
      by_cases s1 : st = 1
      · subst s1
        have HF := HFL
        have HI := HIL
        have HT := hid (show R = (clv && (sp == 255 && nx == 0)) by rw [HRS.out]; simp)
        clear HRS HCL HHO
        cases clv
        case false =>
          go_wp2_with fail
          go_ret
          exact ⟨retb (by rw [HT.out]; rfl), HF.out⟩
        by_cases hp : sp = 255
        case neg =>
          have ep : (sp == 255) = false := by simpa using hp
          clear hp
          go_wp2_with fail
          go_ret
          exact ⟨retb (by rw [HT.out, ep]; rfl), HF.out⟩
        have ep : (sp == 255) = true := by simpa using hp
        clear hp
        go_wp2_with fail
        go_ret
        exact ⟨retb (by rw [HT.out, ep]; simp), HF.out⟩
      by_cases s3 : st = 3
      · subst s3
        have HF := HFL
        have HI := HIL
        have HT := hid (show R = (clv && (hov && nx == 0)) by rw [HRS.out]; simp)
        clear HRS HCL HHO
        cases clv
        case false =>
          go_wp2_with fail
          go_ret
          exact ⟨retb (by rw [HT.out]; rfl), HF.out⟩
        cases hov
        case false =>
          go_wp2_with fail
          go_ret
          exact ⟨retb (by rw [HT.out]; rfl), HF.out⟩
        go_wp2_with fail
        go_ret
        exact ⟨retb (by rw [HT.out]; rfl), HF.out⟩
      by_cases s2 : st = 2
      · subst s2
        have HF := HFL
        have HI := HIL
        have HT := hid (show R = (clv && (hov && (decide (0 ≤ nx) && decide (nx < yd)))) by rw [HRS.out]; simp)
        clear HRS HCL HHO
        cases clv
        case false =>
          go_wp2_with fail
          go_ret
          exact ⟨retb (by rw [HT.out]; rfl), HF.out⟩
        cases hov
        case false =>
          go_wp2_with fail
          go_ret
          exact ⟨retb (by rw [HT.out]; rfl), HF.out⟩
        by_cases hn : 0 ≤ nx
        case neg =>
          have en : decide (0 ≤ nx) = false := decide_eq_false hn
          go_wp2_with fail
          go_ret
          exact ⟨retb (by rw [HT.out, en]; rfl), HF.out⟩
        have en : decide (0 ≤ nx) = true := decide_eq_true hn
        go_wp2_with fail
        go_ret
        exact ⟨retb (by rw [HT.out, en]; rfl), HF.out⟩
      by_cases s4 : st = 4
      · subst s4
        have HF := HFL
        have HI := HIL
        have HT := hid (show R = (clv && (hov && nx == yd)) by rw [HRS.out]; simp)
        clear HRS HCL HHO
        cases clv
        case false =>
          go_wp2_with fail
          go_ret
          exact ⟨retb (by rw [HT.out]; rfl), HF.out⟩
        cases hov
        case false =>
          go_wp2_with fail
          go_ret
          exact ⟨retb (by rw [HT.out]; rfl), HF.out⟩
        go_wp2_with fail
        go_ret
        exact ⟨retb (by rw [HT.out]; rfl), HF.out⟩
      have HT := hid (show R = false by rw [HRS.out, if_neg s0, if_neg s5, if_neg s1, if_neg s3, if_neg s2, if_neg s4])
      have e0 : (st == 0) = false := by simpa using s0
      have e5 : (st == 5) = false := by simpa using s5
      have e1 : (st == 1) = false := by simpa using s1
      have e3 : (st == 3) = false := by simpa using s3
      have e2 : (st == 2) = false := by simpa using s2
      have e4 : (st == 4) = false := by simpa using s4
      clear HRS HCL HHO s0 s5 s1 s3 s2 s4
      go_wp2_with fail
      go_ret
      exact ⟨retb (by rw [HT.out]), HF.out⟩
set_option maxRecDepth 100000 in
set_option maxHeartbeats 2000000 in
theorem may_ok (gc gs gn gl gk : Int) (st z : Int) (A : Option Addr) (l c : Nat) (sp nx : Int) (bs : List Int) (w : World) (hs : -9223372036854775808 ≤ gs ∧ gs ≤ 9223372036854775807) (hz : inI z) (hp : inI sp) (hi : InI w A l c bs) :
    Calls Try.prog 34 #[.agg #[.int .i64 gc, .int .i64 gs, .int .i64 gn, .int .i64 gl, .int .i64 gk], .agg #[.int .i64 st, .int .i64 z, .slice A l c, .int .i64 sp, .int .i64 nx]] w fun e w' => e = .returned (.bool (mayB ⟨gc, gs, gn, gl, gk⟩ ⟨st, z, bs, sp, nx⟩)) ∧ Fr No w w' := by
  by_cases hm : mayG ⟨gc, gs, gn, gl, gk⟩
  · exact may_rest gc gs gn gl gk st z A l c sp nx bs w hs hm hz hp hi
  · exact may_geom gc gs gn gl gk st z A l c sp nx bs w hs hm hi
end Go.Proofs.Ytgjcpepfggkieaa.ClD
