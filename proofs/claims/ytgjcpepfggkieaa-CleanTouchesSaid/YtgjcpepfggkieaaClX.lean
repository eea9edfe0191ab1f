/- CleanTouches' walk. Conditions: numbers of 64 bits; lists that read as lists. -/
import Derived.Test.YtgjcpepfggkieaaClV
namespace Go.Proofs.Ytgjcpepfggkieaa.ClX
open Go.RowKit MSep MGeM GeA GeC GeD GeE GeEk PlA PlB ClM ClA ClE ClB ClC ClD ClF ClG ClH ClI ClJ ClK ClL ClN ClP ClQ ClT ClU ClV

theorem left_lit (gc gs gn gl gk : Int) (ch : Int) (st z : Int) (A : Option Addr) (l c : Nat) (sp nx : Int) (bs : List Int) (w : World) (hs : -9223372036854775808 ≤ gs ∧ gs ≤ 9223372036854775807) (hm : mayG ⟨gc, gs, gn, gl, gk⟩) (hj : mayB ⟨gc, gs, gn, gl, gk⟩ ⟨st, z, bs, sp, nx⟩ = true) (hc : chB ch = true) (hz : inI z) (hp : inI sp) (L : Int) (hL : leftJ (lay ⟨gc, gs, gn, gl, gk⟩).d ch ⟨st, z, bs, sp, nx⟩ = L) (hi : InI w A l c bs) :
    Calls Try.prog 42 #[.agg #[.int .i64 gc, .int .i64 gs, .int .i64 gn, .int .i64 gl, .int .i64 gk], .int .i64 ch, .agg #[.int .i64 st, .int .i64 z, .slice A l c, .int .i64 sp, .int .i64 nx]] w fun r w' => r = .returned (.int .i64 L) ∧ Fr No w w' := by
  have h := pLeft_ok gc gs gn gl gk ch st z A l c sp nx bs w hs hz hp hi
  rw [show lefA ⟨gc, gs, gn, gl, gk⟩ ch ⟨st, z, bs, sp, nx⟩ = L by unfold lefA; rw [if_pos hm, hj, hc, ← hL]; rfl] at h
  exact h
/-- A band begun anew has more left than it had. -/
theorem touch_left {g : Ge} {ch : Int} {j : Jb} (hc : 1 ≤ ch) (hm : mayG g) (h : mayB g j = true) (hs : j.st = 2 ∨ j.st = 3 ∨ j.st = 4) : leftJ (lay g).d ch j < leftJ (lay g).d ch ⟨1, j.z, j.bs, 255, 0⟩ := by
  have ho := ok_of_may h
  have hd := (good hm.1).d1
  obtain ⟨st, z, bs, sp, nx⟩ := j
  obtain ⟨h1, h2, h3, h4⟩ := ho
  dsimp only at h1 h2 h3 h4 hs ⊢
  have m := mul1 bs.length (3 + cks ch (lay g).d)
  have k0 := cks_nonneg (ch := ch) (x := (lay g).d) hc (by omega)
  rcases hs with rfl | rfl | rfl
  · have h5 := h4 rfl
    have k1 : cks ch ((lay g).d - nx) ≤ cks ch (lay g).d := by
      unfold cks
      exact Int.ediv_le_ediv (by omega) (by omega)
    simp [leftJ]
    omega
  · simp [leftJ]
    omega
  · simp [leftJ]
    omega
set_option maxRecDepth 100000 in
set_option maxHeartbeats 2000000 in
theorem touch_big (gc gs gn gl gk : Int) (ch : Int) (st z : Int) (A : Option Addr) (l c : Nat) (sp nx : Int) (bs : List Int) (band : Int) (w : World) (hs : -9223372036854775808 ≤ gs ∧ gs ≤ 9223372036854775807) (hi : InI w A l c bs) (_hz : inI z) (_hp : inI sp) (hl : ¬ l ≤ 100) :
    Calls Try.prog 12 #[.agg #[.int .i64 gc, .int .i64 gs, .int .i64 gn, .int .i64 gl, .int .i64 gk], .int .i64 ch, .agg #[.int .i64 st, .int .i64 z, .slice A l c, .int .i64 sp, .int .i64 nx], .int .i64 band] w fun r w' => r = .returned (.bool true) ∧ Fr No w w' := by
  have P0 := hid (BG2 w gc gs gn gl gk (oJ st z A l c sp nx))
  have P1 := hid (BJ.at_ (w := w.alloc (bg gc gs gn gl gk)) (g := w.heap.size + 1) st z A l c sp nx (by simp))
  have HF := hid ((fr1 w (bg gc gs gn gl gk)).alloc (oJ st z A l c sp nx))
  have HI := hid (hi.fr HF.out)
  have HL := hid (fun W => rlayout_ok gc gs gn gl gk W hs)
  have HM := hid (fun W (h : InI W A l c bs) => rmay_ok gc gs gn gl gk st z A l c sp nx bs W hs h)
  have HCH := hid (fun W => chunk_ok ch W)
  have HS := hid (fun W => small_ok st z A l c sp nx bs 0 0 0 none 0 0 false W (decide_eq_false (by omega)))
  clear hi _hz _hp hl
  go_enter Try.func12, Try.ntmps12
  go_wp2_with (first | ((with_reducible refine ldJ rfl (.tmp 6) rfl (w.heap.size + 1) ?_ P1.out ?_); · rfl))
  refine (HS.out _).mono ?_
  rintro r v1 ⟨rfl, f1⟩
  have HF := hid (HF.out.trans f1)
  have P0 := hid (show BG (v1) (w.heap.size) gc gs gn gl gk from Blk.fr P0.out f1 (fun h => h))
  have P1 := hid (P1.out.fr f1)
  have HI := hid (HI.out.fr f1)
  clear f1
  go_wp2_with fail
  refine (lives_ok _).mono ?_
  rintro r v2 ⟨rfl, f2⟩
  have HF := hid (HF.out.trans f2)
  have P0 := hid (show BG (v2) (w.heap.size) gc gs gn gl gk from Blk.fr P0.out f2 (fun h => h))
  have P1 := hid (P1.out.fr f2)
  have HI := hid (HI.out.fr f2)
  clear f2
  go_wp2_with fail
  go_ret
  exact ⟨rfl, HF.out⟩
set_option maxRecDepth 100000 in
set_option maxHeartbeats 2000000 in
theorem touch_bad (gc gs gn gl gk : Int) (ch : Int) (st z : Int) (A : Option Addr) (l c : Nat) (sp nx : Int) (bs : List Int) (band : Int) (w : World) (hs : -9223372036854775808 ≤ gs ∧ gs ≤ 9223372036854775807) (hi : InI w A l c bs) (_hz : inI z) (_hp : inI sp) (hl : l ≤ 100) (hj : mayB ⟨gc, gs, gn, gl, gk⟩ ⟨st, z, bs, sp, nx⟩ = false) :
    Calls Try.prog 12 #[.agg #[.int .i64 gc, .int .i64 gs, .int .i64 gn, .int .i64 gl, .int .i64 gk], .int .i64 ch, .agg #[.int .i64 st, .int .i64 z, .slice A l c, .int .i64 sp, .int .i64 nx], .int .i64 band] w fun r w' => r = .returned (.bool true) ∧ Fr No w w' := by
  have P0 := hid (BG2 w gc gs gn gl gk (oJ st z A l c sp nx))
  have P1 := hid (BJ.at_ (w := w.alloc (bg gc gs gn gl gk)) (g := w.heap.size + 1) st z A l c sp nx (by simp))
  have HF := hid ((fr1 w (bg gc gs gn gl gk)).alloc (oJ st z A l c sp nx))
  have HI := hid (hi.fr HF.out)
  have HL := hid (fun W => rlayout_ok gc gs gn gl gk W hs)
  have HM := hid (fun W (h : InI W A l c bs) => rmay_ok gc gs gn gl gk st z A l c sp nx bs W hs h)
  have HCH := hid (fun W => chunk_ok ch W)
  have HS := hid (fun W => small_ok st z A l c sp nx bs 0 0 0 none 0 0 true W (decide_eq_true (by omega)))
  rw [hj] at HM
  clear hi _hz _hp hl
  go_enter Try.func12, Try.ntmps12
  go_wp2_with (first | ((with_reducible refine ldJ rfl (.tmp 6) rfl (w.heap.size + 1) ?_ P1.out ?_); · rfl))
  refine (HS.out _).mono ?_
  rintro r v1 ⟨rfl, f1⟩
  have HF := hid (HF.out.trans f1)
  have P0 := hid (show BG (v1) (w.heap.size) gc gs gn gl gk from Blk.fr P0.out f1 (fun h => h))
  have P1 := hid (P1.out.fr f1)
  have HI := hid (HI.out.fr f1)
  clear f1
  obtain ⟨p0_0, p0_1, p0_2, p0_3, p0_4⟩ := P0.out.cells
  obtain ⟨p1_0, p1_1, p1_2, p1_3, p1_4⟩ := P1.out.cells
  go_wp2_with fail
  refine (HM.out _ HI.out).mono ?_
  rintro r v2 ⟨rfl, f2⟩
  clear p0_0 p0_1 p0_2 p0_3 p0_4 p1_0 p1_1 p1_2 p1_3 p1_4
  have HF := hid (HF.out.trans f2)
  have P0 := hid (show BG (v2) (w.heap.size) gc gs gn gl gk from Blk.fr P0.out f2 (fun h => h))
  have P1 := hid (P1.out.fr f2)
  have HI := hid (HI.out.fr f2)
  clear f2
  go_wp2_with fail
  refine (lives_ok _).mono ?_
  rintro r v3 ⟨rfl, f3⟩
  have HF := hid (HF.out.trans f3)
  have P0 := hid (show BG (v3) (w.heap.size) gc gs gn gl gk from Blk.fr P0.out f3 (fun h => h))
  have P1 := hid (P1.out.fr f3)
  have HI := hid (HI.out.fr f3)
  clear f3
  go_wp2_with fail
  go_ret
  exact ⟨rfl, HF.out⟩
set_option maxRecDepth 100000 in
set_option maxHeartbeats 2000000 in
theorem touch_chunk (gc gs gn gl gk : Int) (ch : Int) (st z : Int) (A : Option Addr) (l c : Nat) (sp nx : Int) (bs : List Int) (band : Int) (w : World) (hs : -9223372036854775808 ≤ gs ∧ gs ≤ 9223372036854775807) (hi : InI w A l c bs) (_hz : inI z) (_hp : inI sp) (hl : l ≤ 100) (hj : mayB ⟨gc, gs, gn, gl, gk⟩ ⟨st, z, bs, sp, nx⟩ = true) (hc : chB ch = false) :
    Calls Try.prog 12 #[.agg #[.int .i64 gc, .int .i64 gs, .int .i64 gn, .int .i64 gl, .int .i64 gk], .int .i64 ch, .agg #[.int .i64 st, .int .i64 z, .slice A l c, .int .i64 sp, .int .i64 nx], .int .i64 band] w fun r w' => r = .returned (.bool true) ∧ Fr No w w' := by
  have P0 := hid (BG2 w gc gs gn gl gk (oJ st z A l c sp nx))
  have P1 := hid (BJ.at_ (w := w.alloc (bg gc gs gn gl gk)) (g := w.heap.size + 1) st z A l c sp nx (by simp))
  have HF := hid ((fr1 w (bg gc gs gn gl gk)).alloc (oJ st z A l c sp nx))
  have HI := hid (hi.fr HF.out)
  have HL := hid (fun W => rlayout_ok gc gs gn gl gk W hs)
  have HM := hid (fun W (h : InI W A l c bs) => rmay_ok gc gs gn gl gk st z A l c sp nx bs W hs h)
  have HCH := hid (fun W => chunk_ok ch W)
  have HS := hid (fun W => small_ok st z A l c sp nx bs 0 0 0 none 0 0 true W (decide_eq_true (by omega)))
  rw [hj] at HM
  rw [hc] at HCH
  clear hi _hz _hp hl
  go_enter Try.func12, Try.ntmps12
  go_wp2_with (first | ((with_reducible refine ldJ rfl (.tmp 6) rfl (w.heap.size + 1) ?_ P1.out ?_); · rfl))
  refine (HS.out _).mono ?_
  rintro r v1 ⟨rfl, f1⟩
  have HF := hid (HF.out.trans f1)
  have P0 := hid (show BG (v1) (w.heap.size) gc gs gn gl gk from Blk.fr P0.out f1 (fun h => h))
  have P1 := hid (P1.out.fr f1)
  have HI := hid (HI.out.fr f1)
  clear f1
  obtain ⟨p0_0, p0_1, p0_2, p0_3, p0_4⟩ := P0.out.cells
  obtain ⟨p1_0, p1_1, p1_2, p1_3, p1_4⟩ := P1.out.cells
  go_wp2_with fail
  refine (HM.out _ HI.out).mono ?_
  rintro r v2 ⟨rfl, f2⟩
  clear p0_0 p0_1 p0_2 p0_3 p0_4 p1_0 p1_1 p1_2 p1_3 p1_4
  have HF := hid (HF.out.trans f2)
  have P0 := hid (show BG (v2) (w.heap.size) gc gs gn gl gk from Blk.fr P0.out f2 (fun h => h))
  have P1 := hid (P1.out.fr f2)
  have HI := hid (HI.out.fr f2)
  clear f2
  go_wp2_with fail
  refine (HCH.out _).mono ?_
  rintro r w9 ⟨rfl, rfl⟩
  go_wp2_with fail
  refine (lives_ok _).mono ?_
  rintro r v3 ⟨rfl, f3⟩
  have HF := hid (HF.out.trans f3)
  have P0 := hid (show BG (v3) (w.heap.size) gc gs gn gl gk from Blk.fr P0.out f3 (fun h => h))
  have P1 := hid (P1.out.fr f3)
  have HI := hid (HI.out.fr f3)
  clear f3
  go_wp2_with fail
  go_ret
  exact ⟨rfl, HF.out⟩
set_option maxRecDepth 100000 in
set_option maxHeartbeats 2000000 in
theorem touch_low (gc gs gn gl gk : Int) (ch : Int) (st z : Int) (A : Option Addr) (l c : Nat) (sp nx : Int) (bs : List Int) (band : Int) (w : World) (hs : -9223372036854775808 ≤ gs ∧ gs ≤ 9223372036854775807) (hi : InI w A l c bs) (hz : inI z) (hp : inI sp) (hl : l ≤ 100) (hm : mayG ⟨gc, gs, gn, gl, gk⟩) (hj : mayB ⟨gc, gs, gn, gl, gk⟩ ⟨st, z, bs, sp, nx⟩ = true) (hc : chB ch = true) (hb : band < 0) :
    Calls Try.prog 12 #[.agg #[.int .i64 gc, .int .i64 gs, .int .i64 gn, .int .i64 gl, .int .i64 gk], .int .i64 ch, .agg #[.int .i64 st, .int .i64 z, .slice A l c, .int .i64 sp, .int .i64 nx], .int .i64 band] w fun r w' => r = .returned (.bool true) ∧ Fr No w w' := by
  have P0 := hid (BG2 w gc gs gn gl gk (oJ st z A l c sp nx))
  have P1 := hid (BJ.at_ (w := w.alloc (bg gc gs gn gl gk)) (g := w.heap.size + 1) st z A l c sp nx (by simp))
  have HF := hid ((fr1 w (bg gc gs gn gl gk)).alloc (oJ st z A l c sp nx))
  have HI := hid (hi.fr HF.out)
  have HL := hid (fun W => rlayout_ok gc gs gn gl gk W hs)
  have HM := hid (fun W (h : InI W A l c bs) => rmay_ok gc gs gn gl gk st z A l c sp nx bs W hs h)
  have HCH := hid (fun W => chunk_ok ch W)
  have HS := hid (fun W => small_ok st z A l c sp nx bs 0 0 0 none 0 0 true W (decide_eq_true (by omega)))
  rw [hj] at HM
  rw [hc] at HCH
  rw [rlo_yes hm] at HL
  obtain ⟨yb, hyb⟩ : ∃ b, (lay ⟨gc, gs, gn, gl, gk⟩).b = b := ⟨_, rfl⟩
  have hq : aftA ⟨gc, gs, gn, gl, gk⟩ ch ⟨st, z, bs, sp, nx⟩ ⟨8, 0, band, []⟩ = (⟨0, 0, [], 0, 0⟩, 1) := by
    unfold aftA; rw [if_pos hm, hj, hc]
    show aftJ ⟨gc, gs, gn, gl, gk⟩ ch ⟨st, z, bs, sp, nx⟩ ⟨8, 0, band, []⟩ = _
    unfold aftJ
    dsimp only
    rw [if_neg (by decide), if_pos rfl]
    rw [if_neg (by omega)]; rfl
  have HA := hid (fun W (h1 : InI W A l c bs) => pAfter_lit gc gs gn gl gk ch st z A l c sp nx bs 8 0 band none 0 0 [] 0 0 [] 0 0 1 W hs hz hp (by unfold inI; decide) hq h1 (InI.nil W) (by omega) (by omega))
  obtain ⟨y, hy0⟩ : ∃ y, lay ⟨gc, gs, gn, gl, gk⟩ = y := ⟨_, rfl⟩
  rw [hy0] at HL hyb
  obtain ⟨ya, yr, yq, yb', yd, yt, yx, yu⟩ := y
  dsimp only at HL hyb
  subst hyb
  have hb2 := hb
  clear hb hy0
  clear hi hz hp hl hq
  go_enter Try.func12, Try.ntmps12
  go_wp2_with (first | ((with_reducible refine ldJ rfl (.tmp 6) rfl (w.heap.size + 1) ?_ P1.out ?_); · rfl))
  refine (HS.out _).mono ?_
  rintro r v1 ⟨rfl, f1⟩
  have HF := hid (HF.out.trans f1)
  have P0 := hid (show BG (v1) (w.heap.size) gc gs gn gl gk from Blk.fr P0.out f1 (fun h => h))
  have P1 := hid (P1.out.fr f1)
  have HI := hid (HI.out.fr f1)
  clear f1
  obtain ⟨p0_0, p0_1, p0_2, p0_3, p0_4⟩ := P0.out.cells
  obtain ⟨p1_0, p1_1, p1_2, p1_3, p1_4⟩ := P1.out.cells
  go_wp2_with fail
  refine (HM.out _ HI.out).mono ?_
  rintro r v2 ⟨rfl, f2⟩
  clear p0_0 p0_1 p0_2 p0_3 p0_4 p1_0 p1_1 p1_2 p1_3 p1_4
  have HF := hid (HF.out.trans f2)
  have P0 := hid (show BG (v2) (w.heap.size) gc gs gn gl gk from Blk.fr P0.out f2 (fun h => h))
  have P1 := hid (P1.out.fr f2)
  have HI := hid (HI.out.fr f2)
  clear f2
  go_wp2_with fail
  refine (HCH.out _).mono ?_
  rintro r w9 ⟨rfl, rfl⟩
  go_wp2_with (first | ((with_reducible refine ld_geom rfl (.tmp 4) rfl (w.heap.size) ?_ P0.out ?_); · rfl) | ((with_reducible refine ldJ rfl (.tmp 6) rfl (w.heap.size + 1) ?_ P1.out ?_); · rfl))
  refine (HA.out _ HI.out).mono ?_
  rintro r v3 ⟨A5, l5, c5, rfl, i5, f3⟩
  have HF := hid ((HF.out.trans f3).alloc (oJ 0 0 A5 l5 c5 0 0))
  have P0 := hid (show BG (v3.alloc (oJ 0 0 A5 l5 c5 0 0)) (w.heap.size) gc gs gn gl gk from (Blk.fr P0.out f3 (fun h => h)).alloc _)
  have P1 := hid ((P1.out.fr f3).up (oJ 0 0 A5 l5 c5 0 0))
  have HI := hid (HI.out.fr (f3.alloc (oJ 0 0 A5 l5 c5 0 0)))
  have P9 := hid (BJ.at_ (w := v3) 0 0 A5 l5 c5 0 0 rfl)
  obtain ⟨b9, hb⟩ : ∃ x, v3.heap.size = x := ⟨_, rfl⟩
  rw [hb] at P9
  have H5 := hid (i5.fr (fr1 v3 (oJ 0 0 A5 l5 c5 0 0)))
  clear i5
  clear f3
  go_wp2_with (first | ((with_reducible refine ld_geom rfl (.tmp 4) rfl (w.heap.size) ?_ P0.out ?_); · rfl))
  try rw [hb]
  clear hb
  refine (HL.out _).mono ?_
  rintro r v4 ⟨rfl, f4⟩
  have HF := hid ((HF.out.trans f4).alloc (by_ ya yr yq yb' yd yt yx yu))
  have P0 := hid (show BG (v4.alloc (by_ ya yr yq yb' yd yt yx yu)) (w.heap.size) gc gs gn gl gk from (Blk.fr P0.out f4 (fun h => h)).alloc _)
  have P1 := hid ((P1.out.fr f4).up (by_ ya yr yq yb' yd yt yx yu))
  have P9 := hid ((P9.out.fr f4).up (by_ ya yr yq yb' yd yt yx yu))
  have HI := hid (HI.out.fr (f4.alloc (by_ ya yr yq yb' yd yt yx yu)))
  have H5 := hid (H5.out.fr (f4.alloc (by_ ya yr yq yb' yd yt yx yu)))
  have P11 := hid (BL.new v4 ya yr yq yb' yd yt yx yu)
  obtain ⟨b11, hb⟩ : ∃ x, v4.heap.size = x := ⟨_, rfl⟩
  rw [hb] at P11
  clear f4
  go_wp2_with fail
  try rw [hb]
  clear hb
  refine (lives_ok _).mono ?_
  rintro r v5 ⟨rfl, f5⟩
  have HF := hid (HF.out.trans f5)
  have P0 := hid (show BG (v5) (w.heap.size) gc gs gn gl gk from Blk.fr P0.out f5 (fun h => h))
  have P1 := hid (P1.out.fr f5)
  have P9 := hid (P9.out.fr f5)
  have P11 := hid (show BL (v5) (b11) ya yr yq yb' yd yt yx yu from Blk.fr P11.out f5 (fun h => h))
  have HI := hid (HI.out.fr f5)
  have H5 := hid (H5.out.fr f5)
  clear f5
  obtain ⟨p11_0, p11_1, p11_2, p11_3, p11_4, p11_5, p11_6, p11_7⟩ := P11.out.cells
  go_wp2_with fail
  go_ret
  exact ⟨rfl, HF.out⟩
set_option maxRecDepth 100000 in
set_option maxHeartbeats 2000000 in
theorem touch_high (gc gs gn gl gk : Int) (ch : Int) (st z : Int) (A : Option Addr) (l c : Nat) (sp nx : Int) (bs : List Int) (band : Int) (w : World) (hs : -9223372036854775808 ≤ gs ∧ gs ≤ 9223372036854775807) (hi : InI w A l c bs) (hz : inI z) (hp : inI sp) (hl : l ≤ 100) (hm : mayG ⟨gc, gs, gn, gl, gk⟩) (hj : mayB ⟨gc, gs, gn, gl, gk⟩ ⟨st, z, bs, sp, nx⟩ = true) (hc : chB ch = true) (hb0 : 0 ≤ band) (hb : (lay ⟨gc, gs, gn, gl, gk⟩).b ≤ band) :
    Calls Try.prog 12 #[.agg #[.int .i64 gc, .int .i64 gs, .int .i64 gn, .int .i64 gl, .int .i64 gk], .int .i64 ch, .agg #[.int .i64 st, .int .i64 z, .slice A l c, .int .i64 sp, .int .i64 nx], .int .i64 band] w fun r w' => r = .returned (.bool true) ∧ Fr No w w' := by
  have P0 := hid (BG2 w gc gs gn gl gk (oJ st z A l c sp nx))
  have P1 := hid (BJ.at_ (w := w.alloc (bg gc gs gn gl gk)) (g := w.heap.size + 1) st z A l c sp nx (by simp))
  have HF := hid ((fr1 w (bg gc gs gn gl gk)).alloc (oJ st z A l c sp nx))
  have HI := hid (hi.fr HF.out)
  have HL := hid (fun W => rlayout_ok gc gs gn gl gk W hs)
  have HM := hid (fun W (h : InI W A l c bs) => rmay_ok gc gs gn gl gk st z A l c sp nx bs W hs h)
  have HCH := hid (fun W => chunk_ok ch W)
  have HS := hid (fun W => small_ok st z A l c sp nx bs 0 0 0 none 0 0 true W (decide_eq_true (by omega)))
  rw [hj] at HM
  rw [hc] at HCH
  rw [rlo_yes hm] at HL
  obtain ⟨yb, hyb⟩ : ∃ b, (lay ⟨gc, gs, gn, gl, gk⟩).b = b := ⟨_, rfl⟩
  have hq : aftA ⟨gc, gs, gn, gl, gk⟩ ch ⟨st, z, bs, sp, nx⟩ ⟨8, 0, band, []⟩ = (⟨0, 0, [], 0, 0⟩, 1) := by
    unfold aftA; rw [if_pos hm, hj, hc]
    show aftJ ⟨gc, gs, gn, gl, gk⟩ ch ⟨st, z, bs, sp, nx⟩ ⟨8, 0, band, []⟩ = _
    unfold aftJ
    dsimp only
    rw [if_neg (by decide), if_pos rfl]
    rw [if_neg (by omega)]; rfl
  have HA := hid (fun W (h1 : InI W A l c bs) => pAfter_lit gc gs gn gl gk ch st z A l c sp nx bs 8 0 band none 0 0 [] 0 0 [] 0 0 1 W hs hz hp (by unfold inI; decide) hq h1 (InI.nil W) (by omega) (by omega))
  obtain ⟨y, hy0⟩ : ∃ y, lay ⟨gc, gs, gn, gl, gk⟩ = y := ⟨_, rfl⟩
  rw [hy0] at HL hyb
  obtain ⟨ya, yr, yq, yb', yd, yt, yx, yu⟩ := y
  dsimp only at HL hyb
  subst hyb
  rw [hy0] at hb
  dsimp only at hb
  clear hy0
  clear hi hz hp hl hq
  go_enter Try.func12, Try.ntmps12
  go_wp2_with (first | ((with_reducible refine ldJ rfl (.tmp 6) rfl (w.heap.size + 1) ?_ P1.out ?_); · rfl))
  refine (HS.out _).mono ?_
  rintro r v1 ⟨rfl, f1⟩
  have HF := hid (HF.out.trans f1)
  have P0 := hid (show BG (v1) (w.heap.size) gc gs gn gl gk from Blk.fr P0.out f1 (fun h => h))
  have P1 := hid (P1.out.fr f1)
  have HI := hid (HI.out.fr f1)
  clear f1
  obtain ⟨p0_0, p0_1, p0_2, p0_3, p0_4⟩ := P0.out.cells
  obtain ⟨p1_0, p1_1, p1_2, p1_3, p1_4⟩ := P1.out.cells
  go_wp2_with fail
  refine (HM.out _ HI.out).mono ?_
  rintro r v2 ⟨rfl, f2⟩
  clear p0_0 p0_1 p0_2 p0_3 p0_4 p1_0 p1_1 p1_2 p1_3 p1_4
  have HF := hid (HF.out.trans f2)
  have P0 := hid (show BG (v2) (w.heap.size) gc gs gn gl gk from Blk.fr P0.out f2 (fun h => h))
  have P1 := hid (P1.out.fr f2)
  have HI := hid (HI.out.fr f2)
  clear f2
  go_wp2_with fail
  refine (HCH.out _).mono ?_
  rintro r w9 ⟨rfl, rfl⟩
  go_wp2_with (first | ((with_reducible refine ld_geom rfl (.tmp 4) rfl (w.heap.size) ?_ P0.out ?_); · rfl) | ((with_reducible refine ldJ rfl (.tmp 6) rfl (w.heap.size + 1) ?_ P1.out ?_); · rfl))
  refine (HA.out _ HI.out).mono ?_
  rintro r v3 ⟨A5, l5, c5, rfl, i5, f3⟩
  have HF := hid ((HF.out.trans f3).alloc (oJ 0 0 A5 l5 c5 0 0))
  have P0 := hid (show BG (v3.alloc (oJ 0 0 A5 l5 c5 0 0)) (w.heap.size) gc gs gn gl gk from (Blk.fr P0.out f3 (fun h => h)).alloc _)
  have P1 := hid ((P1.out.fr f3).up (oJ 0 0 A5 l5 c5 0 0))
  have HI := hid (HI.out.fr (f3.alloc (oJ 0 0 A5 l5 c5 0 0)))
  have P9 := hid (BJ.at_ (w := v3) 0 0 A5 l5 c5 0 0 rfl)
  obtain ⟨b9, hb⟩ : ∃ x, v3.heap.size = x := ⟨_, rfl⟩
  rw [hb] at P9
  have H5 := hid (i5.fr (fr1 v3 (oJ 0 0 A5 l5 c5 0 0)))
  clear i5
  clear f3
  go_wp2_with (first | ((with_reducible refine ld_geom rfl (.tmp 4) rfl (w.heap.size) ?_ P0.out ?_); · rfl))
  try rw [hb]
  clear hb
  refine (HL.out _).mono ?_
  rintro r v4 ⟨rfl, f4⟩
  have HF := hid ((HF.out.trans f4).alloc (by_ ya yr yq yb' yd yt yx yu))
  have P0 := hid (show BG (v4.alloc (by_ ya yr yq yb' yd yt yx yu)) (w.heap.size) gc gs gn gl gk from (Blk.fr P0.out f4 (fun h => h)).alloc _)
  have P1 := hid ((P1.out.fr f4).up (by_ ya yr yq yb' yd yt yx yu))
  have P9 := hid ((P9.out.fr f4).up (by_ ya yr yq yb' yd yt yx yu))
  have HI := hid (HI.out.fr (f4.alloc (by_ ya yr yq yb' yd yt yx yu)))
  have H5 := hid (H5.out.fr (f4.alloc (by_ ya yr yq yb' yd yt yx yu)))
  have P11 := hid (BL.new v4 ya yr yq yb' yd yt yx yu)
  obtain ⟨b11, hb⟩ : ∃ x, v4.heap.size = x := ⟨_, rfl⟩
  rw [hb] at P11
  clear f4
  go_wp2_with fail
  try rw [hb]
  clear hb
  refine (lives_ok _).mono ?_
  rintro r v5 ⟨rfl, f5⟩
  have HF := hid (HF.out.trans f5)
  have P0 := hid (show BG (v5) (w.heap.size) gc gs gn gl gk from Blk.fr P0.out f5 (fun h => h))
  have P1 := hid (P1.out.fr f5)
  have P9 := hid (P9.out.fr f5)
  have P11 := hid (show BL (v5) (b11) ya yr yq yb' yd yt yx yu from Blk.fr P11.out f5 (fun h => h))
  have HI := hid (HI.out.fr f5)
  have H5 := hid (H5.out.fr f5)
  clear f5
  obtain ⟨p11_0, p11_1, p11_2, p11_3, p11_4, p11_5, p11_6, p11_7⟩ := P11.out.cells
  go_wp2_with fail
  go_ret
  exact ⟨rfl, HF.out⟩
theorem head_at {w : World} {g o l c : Nat} {xs : List Int} (h : InI w (some ⟨g, o, none⟩) l c xs) (hx : xs ≠ []) : w.cell? ⟨g, o, none⟩ = some (.int .i64 (xs.headD 0)) := by
  obtain ⟨g', o', e, _, hc⟩ := h.head hx
  injection e with e
  injection e with e1 e2
  subst e1 e2
  exact hc
set_option maxRecDepth 100000 in
set_option maxHeartbeats 2000000 in
theorem touch_none (gc gs gn gl gk : Int) (ch : Int) (st z : Int) (A : Option Addr) (l c : Nat) (sp nx : Int) (bs : List Int) (band : Int) (w : World) (hs : -9223372036854775808 ≤ gs ∧ gs ≤ 9223372036854775807) (hi : InI w A l c bs) (hz : inI z) (hp : inI sp) (hl : l ≤ 100) (hm : mayG ⟨gc, gs, gn, gl, gk⟩) (hj : mayB ⟨gc, gs, gn, gl, gk⟩ ⟨st, z, bs, sp, nx⟩ = true) (hc : chB ch = true) (hb : 0 ≤ band ∧ band < (lay ⟨gc, gs, gn, gl, gk⟩).b) (h5 : sp = 255) (hnot : ¬ ((st = 2 ∨ st = 3 ∨ st = 4) ∧ band = bs.headD 0)) :
    Calls Try.prog 12 #[.agg #[.int .i64 gc, .int .i64 gs, .int .i64 gn, .int .i64 gl, .int .i64 gk], .int .i64 ch, .agg #[.int .i64 st, .int .i64 z, .slice A l c, .int .i64 sp, .int .i64 nx], .int .i64 band] w fun r w' => r = .returned (.bool true) ∧ Fr No w w' := by
  have P0 := hid (BG2 w gc gs gn gl gk (oJ st z A l c sp nx))
  have P1 := hid (BJ.at_ (w := w.alloc (bg gc gs gn gl gk)) (g := w.heap.size + 1) st z A l c sp nx (by simp))
  have HF := hid ((fr1 w (bg gc gs gn gl gk)).alloc (oJ st z A l c sp nx))
  have HI := hid (hi.fr HF.out)
  have HL := hid (fun W => rlayout_ok gc gs gn gl gk W hs)
  have HM := hid (fun W (h : InI W A l c bs) => rmay_ok gc gs gn gl gk st z A l c sp nx bs W hs h)
  have HCH := hid (fun W => chunk_ok ch W)
  have HS := hid (fun W => small_ok st z A l c sp nx bs 0 0 0 none 0 0 true W (decide_eq_true (by omega)))
  rw [hj] at HM
  rw [hc] at HCH
  rw [rlo_yes hm] at HL
  obtain ⟨yb, hyb⟩ : ∃ b, (lay ⟨gc, gs, gn, gl, gk⟩).b = b := ⟨_, rfl⟩
  have hq : aftA ⟨gc, gs, gn, gl, gk⟩ ch ⟨st, z, bs, sp, nx⟩ ⟨8, 0, band, []⟩ = (⟨st, z, bs, sp, nx⟩, 0) := by
    unfold aftA; rw [if_pos hm, hj, hc]
    show aftJ ⟨gc, gs, gn, gl, gk⟩ ch ⟨st, z, bs, sp, nx⟩ ⟨8, 0, band, []⟩ = _
    unfold aftJ
    dsimp only
    rw [if_neg (by decide), if_pos rfl]
    rw [if_pos hb, show touchJ ⟨st, z, bs, sp, nx⟩ band = ⟨st, z, bs, sp, nx⟩ by unfold touchJ; rw [if_neg hnot]]
  have HA := hid (fun W (h1 : InI W A l c bs) => pAfter_lit gc gs gn gl gk ch st z A l c sp nx bs 8 0 band none 0 0 [] st z bs sp nx 0 W hs hz hp (by unfold inI; decide) hq h1 (InI.nil W) (by omega) (by omega))
  obtain ⟨y, hy0⟩ : ∃ y, lay ⟨gc, gs, gn, gl, gk⟩ = y := ⟨_, rfl⟩
  rw [hy0] at HL hyb
  obtain ⟨ya, yr, yq, yb', yd, yt, yx, yu⟩ := y
  dsimp only at HL hyb
  subst hyb
  rw [hy0] at hb
  dsimp only at hb
  obtain ⟨hb1, hb2⟩ := hb
  have HHO := hid (fun W => holds_ok st z A l c sp nx bs W)
  have e5 : (sp != 255) = false := by simpa using h5
  rw [e5] at HHO
  clear h5 hnot
  clear hi hz hp hl hq hy0
  go_enter Try.func12, Try.ntmps12
  go_wp2_with (first | ((with_reducible refine ldJ rfl (.tmp 6) rfl (w.heap.size + 1) ?_ P1.out ?_); · rfl))
  refine (HS.out _).mono ?_
  rintro r v1 ⟨rfl, f1⟩
  have HF := hid (HF.out.trans f1)
  have P0 := hid (show BG (v1) (w.heap.size) gc gs gn gl gk from Blk.fr P0.out f1 (fun h => h))
  have P1 := hid (P1.out.fr f1)
  have HI := hid (HI.out.fr f1)
  clear f1
  obtain ⟨p0_0, p0_1, p0_2, p0_3, p0_4⟩ := P0.out.cells
  obtain ⟨p1_0, p1_1, p1_2, p1_3, p1_4⟩ := P1.out.cells
  go_wp2_with fail
  refine (HM.out _ HI.out).mono ?_
  rintro r v2 ⟨rfl, f2⟩
  clear p0_0 p0_1 p0_2 p0_3 p0_4 p1_0 p1_1 p1_2 p1_3 p1_4
  have HF := hid (HF.out.trans f2)
  have P0 := hid (show BG (v2) (w.heap.size) gc gs gn gl gk from Blk.fr P0.out f2 (fun h => h))
  have P1 := hid (P1.out.fr f2)
  have HI := hid (HI.out.fr f2)
  clear f2
  go_wp2_with fail
  refine (HCH.out _).mono ?_
  rintro r w9 ⟨rfl, rfl⟩
  go_wp2_with (first | ((with_reducible refine ld_geom rfl (.tmp 4) rfl (w.heap.size) ?_ P0.out ?_); · rfl) | ((with_reducible refine ldJ rfl (.tmp 6) rfl (w.heap.size + 1) ?_ P1.out ?_); · rfl))
  refine (HA.out _ HI.out).mono ?_
  rintro r v3 ⟨A5, l5, c5, rfl, i5, f3⟩
  have HF := hid ((HF.out.trans f3).alloc (oJ st z A5 l5 c5 sp nx))
  have P0 := hid (show BG (v3.alloc (oJ st z A5 l5 c5 sp nx)) (w.heap.size) gc gs gn gl gk from (Blk.fr P0.out f3 (fun h => h)).alloc _)
  have P1 := hid ((P1.out.fr f3).up (oJ st z A5 l5 c5 sp nx))
  have HI := hid (HI.out.fr (f3.alloc (oJ st z A5 l5 c5 sp nx)))
  have P9 := hid (BJ.at_ (w := v3) st z A5 l5 c5 sp nx rfl)
  obtain ⟨b9, hb⟩ : ∃ x, v3.heap.size = x := ⟨_, rfl⟩
  rw [hb] at P9
  have H5 := hid (i5.fr (fr1 v3 (oJ st z A5 l5 c5 sp nx)))
  clear i5
  clear f3
  go_wp2_with (first | ((with_reducible refine ld_geom rfl (.tmp 4) rfl (w.heap.size) ?_ P0.out ?_); · rfl))
  try rw [hb]
  clear hb
  refine (HL.out _).mono ?_
  rintro r v4 ⟨rfl, f4⟩
  have HF := hid ((HF.out.trans f4).alloc (by_ ya yr yq yb' yd yt yx yu))
  have P0 := hid (show BG (v4.alloc (by_ ya yr yq yb' yd yt yx yu)) (w.heap.size) gc gs gn gl gk from (Blk.fr P0.out f4 (fun h => h)).alloc _)
  have P1 := hid ((P1.out.fr f4).up (by_ ya yr yq yb' yd yt yx yu))
  have P9 := hid ((P9.out.fr f4).up (by_ ya yr yq yb' yd yt yx yu))
  have HI := hid (HI.out.fr (f4.alloc (by_ ya yr yq yb' yd yt yx yu)))
  have H5 := hid (H5.out.fr (f4.alloc (by_ ya yr yq yb' yd yt yx yu)))
  have P11 := hid (BL.new v4 ya yr yq yb' yd yt yx yu)
  obtain ⟨b11, hb⟩ : ∃ x, v4.heap.size = x := ⟨_, rfl⟩
  rw [hb] at P11
  clear f4
  go_wp2_with fail
  try rw [hb]
  clear hb
  refine (lives_ok _).mono ?_
  rintro r v5 ⟨rfl, f5⟩
  have HF := hid (HF.out.trans f5)
  have P0 := hid (show BG (v5) (w.heap.size) gc gs gn gl gk from Blk.fr P0.out f5 (fun h => h))
  have P1 := hid (P1.out.fr f5)
  have P9 := hid (P9.out.fr f5)
  have P11 := hid (show BL (v5) (b11) ya yr yq yb' yd yt yx yu from Blk.fr P11.out f5 (fun h => h))
  have HI := hid (HI.out.fr f5)
  have H5 := hid (H5.out.fr f5)
  clear f5
  obtain ⟨p11_0, p11_1, p11_2, p11_3, p11_4, p11_5, p11_6, p11_7⟩ := P11.out.cells
  go_wp2_with (first | ((with_reducible refine ldJ rfl (.tmp 6) rfl (w.heap.size + 1) ?_ P1.out ?_); · rfl))
  refine (HHO.out _).mono ?_
  rintro r v6 ⟨rfl, f6⟩
  clear p11_0 p11_1 p11_2 p11_3 p11_4 p11_5 p11_6 p11_7
  have HF := hid (HF.out.trans f6)
  have P0 := hid (show BG (v6) (w.heap.size) gc gs gn gl gk from Blk.fr P0.out f6 (fun h => h))
  have P1 := hid (P1.out.fr f6)
  have P9 := hid (P9.out.fr f6)
  have P11 := hid (show BL (v6) (b11) ya yr yq yb' yd yt yx yu from Blk.fr P11.out f6 (fun h => h))
  have HI := hid (HI.out.fr f6)
  have H5 := hid (H5.out.fr f6)
  clear f6
  obtain ⟨p1_0, p1_1, p1_2, p1_3, p1_4⟩ := P1.out.cells
  obtain ⟨p9_0, p9_1, p9_2, p9_3, p9_4⟩ := P9.out.cells
  go_wp2_with fail
  refine (rsame_refl st z A5 l5 c5 sp nx bs A l c _ H5.out HI.out).mono ?_
  rintro r v7 ⟨rfl, f7⟩
  clear p1_0 p1_1 p1_2 p1_3 p1_4 p9_0 p9_1 p9_2 p9_3 p9_4
  have HF := hid (HF.out.trans f7)
  have P0 := hid (show BG (v7) (w.heap.size) gc gs gn gl gk from Blk.fr P0.out f7 (fun h => h))
  have P1 := hid (P1.out.fr f7)
  have P9 := hid (P9.out.fr f7)
  have P11 := hid (show BL (v7) (b11) ya yr yq yb' yd yt yx yu from Blk.fr P11.out f7 (fun h => h))
  have HI := hid (HI.out.fr f7)
  have H5 := hid (H5.out.fr f7)
  clear f7
  go_wp2_with fail
  go_ret
  exact ⟨rfl, HF.out⟩
set_option maxRecDepth 100000 in
set_option maxHeartbeats 2000000 in
theorem touch_other (gc gs gn gl gk : Int) (ch : Int) (st z : Int) (g o : Nat) (l c : Nat) (sp nx : Int) (bs : List Int) (band : Int) (w : World) (hs : -9223372036854775808 ≤ gs ∧ gs ≤ 9223372036854775807) (hi : InI w (some ⟨g, o, none⟩) l c bs) (hz : inI z) (hp : inI sp) (hl : l ≤ 100) (hm : mayG ⟨gc, gs, gn, gl, gk⟩) (hj : mayB ⟨gc, gs, gn, gl, gk⟩ ⟨st, z, bs, sp, nx⟩ = true) (hc : chB ch = true) (hb : 0 ≤ band ∧ band < (lay ⟨gc, gs, gn, gl, gk⟩).b) (h5 : sp ≠ 255) (hne : bs ≠ []) (hxb : bs.headD 0 ≠ band) (hnot : ¬ ((st = 2 ∨ st = 3 ∨ st = 4) ∧ band = bs.headD 0)) :
    Calls Try.prog 12 #[.agg #[.int .i64 gc, .int .i64 gs, .int .i64 gn, .int .i64 gl, .int .i64 gk], .int .i64 ch, .agg #[.int .i64 st, .int .i64 z, .slice (some ⟨g, o, none⟩) l c, .int .i64 sp, .int .i64 nx], .int .i64 band] w fun r w' => r = .returned (.bool true) ∧ Fr No w w' := by
  have P0 := hid (BG2 w gc gs gn gl gk (oJ st z (some ⟨g, o, none⟩) l c sp nx))
  have P1 := hid (BJ.at_ (w := w.alloc (bg gc gs gn gl gk)) (g := w.heap.size + 1) st z (some ⟨g, o, none⟩) l c sp nx (by simp))
  have HF := hid ((fr1 w (bg gc gs gn gl gk)).alloc (oJ st z (some ⟨g, o, none⟩) l c sp nx))
  have HI := hid (hi.fr HF.out)
  have HL := hid (fun W => rlayout_ok gc gs gn gl gk W hs)
  have HM := hid (fun W (h : InI W (some ⟨g, o, none⟩) l c bs) => rmay_ok gc gs gn gl gk st z (some ⟨g, o, none⟩) l c sp nx bs W hs h)
  have HCH := hid (fun W => chunk_ok ch W)
  have HS := hid (fun W => small_ok st z (some ⟨g, o, none⟩) l c sp nx bs 0 0 0 none 0 0 true W (decide_eq_true (by omega)))
  rw [hj] at HM
  rw [hc] at HCH
  rw [rlo_yes hm] at HL
  obtain ⟨yb, hyb⟩ : ∃ b, (lay ⟨gc, gs, gn, gl, gk⟩).b = b := ⟨_, rfl⟩
  have hq : aftA ⟨gc, gs, gn, gl, gk⟩ ch ⟨st, z, bs, sp, nx⟩ ⟨8, 0, band, []⟩ = (⟨st, z, bs, sp, nx⟩, 0) := by
    unfold aftA; rw [if_pos hm, hj, hc]
    show aftJ ⟨gc, gs, gn, gl, gk⟩ ch ⟨st, z, bs, sp, nx⟩ ⟨8, 0, band, []⟩ = _
    unfold aftJ
    dsimp only
    rw [if_neg (by decide), if_pos rfl]
    rw [if_pos hb, show touchJ ⟨st, z, bs, sp, nx⟩ band = ⟨st, z, bs, sp, nx⟩ by unfold touchJ; rw [if_neg hnot]]
  have HA := hid (fun W (h1 : InI W (some ⟨g, o, none⟩) l c bs) => pAfter_lit gc gs gn gl gk ch st z (some ⟨g, o, none⟩) l c sp nx bs 8 0 band none 0 0 [] st z bs sp nx 0 W hs hz hp (by unfold inI; decide) hq h1 (InI.nil W) (by omega) (by omega))
  obtain ⟨y, hy0⟩ : ∃ y, lay ⟨gc, gs, gn, gl, gk⟩ = y := ⟨_, rfl⟩
  rw [hy0] at HL hyb
  obtain ⟨ya, yr, yq, yb', yd, yt, yx, yu⟩ := y
  dsimp only at HL hyb
  subst hyb
  rw [hy0] at hb
  dsimp only at hb
  obtain ⟨hb1, hb2⟩ := hb
  have HHO := hid (fun W => holds_ok st z (some ⟨g, o, none⟩) l c sp nx bs W)
  have e5 : (sp != 255) = true := by simpa using h5
  rw [e5] at HHO
  obtain ⟨x, hx⟩ : ∃ x, bs.headD 0 = x := ⟨_, rfl⟩
  have HX := hid hx
  have HNE := hid hne
  have e7 : (x == band) = false := by rw [hx] at hxb; simpa using hxb
  have e8 : (x != band) = true := by rw [hx] at hxb; simpa using hxb
  have hl2 : (0 : Int) < l := by
    have h1 := hi.len
    have h2 := List.length_pos_iff.2 hne
    omega
  clear hnot h5 hne hxb hx
  clear hi hz hp hl hq hy0
  go_enter Try.func12, Try.ntmps12
  go_wp2_with (first | ((with_reducible refine ldJ rfl (.tmp 6) rfl (w.heap.size + 1) ?_ P1.out ?_); · rfl))
  refine (HS.out _).mono ?_
  rintro r v1 ⟨rfl, f1⟩
  have HF := hid (HF.out.trans f1)
  have P0 := hid (show BG (v1) (w.heap.size) gc gs gn gl gk from Blk.fr P0.out f1 (fun h => h))
  have P1 := hid (P1.out.fr f1)
  have HI := hid (HI.out.fr f1)
  clear f1
  obtain ⟨p0_0, p0_1, p0_2, p0_3, p0_4⟩ := P0.out.cells
  obtain ⟨p1_0, p1_1, p1_2, p1_3, p1_4⟩ := P1.out.cells
  go_wp2_with fail
  refine (HM.out _ HI.out).mono ?_
  rintro r v2 ⟨rfl, f2⟩
  clear p0_0 p0_1 p0_2 p0_3 p0_4 p1_0 p1_1 p1_2 p1_3 p1_4
  have HF := hid (HF.out.trans f2)
  have P0 := hid (show BG (v2) (w.heap.size) gc gs gn gl gk from Blk.fr P0.out f2 (fun h => h))
  have P1 := hid (P1.out.fr f2)
  have HI := hid (HI.out.fr f2)
  clear f2
  go_wp2_with fail
  refine (HCH.out _).mono ?_
  rintro r w9 ⟨rfl, rfl⟩
  go_wp2_with (first | ((with_reducible refine ld_geom rfl (.tmp 4) rfl (w.heap.size) ?_ P0.out ?_); · rfl) | ((with_reducible refine ldJ rfl (.tmp 6) rfl (w.heap.size + 1) ?_ P1.out ?_); · rfl))
  refine (HA.out _ HI.out).mono ?_
  rintro r v3 ⟨A5, l5, c5, rfl, i5, f3⟩
  have HF := hid ((HF.out.trans f3).alloc (oJ st z A5 l5 c5 sp nx))
  have P0 := hid (show BG (v3.alloc (oJ st z A5 l5 c5 sp nx)) (w.heap.size) gc gs gn gl gk from (Blk.fr P0.out f3 (fun h => h)).alloc _)
  have P1 := hid ((P1.out.fr f3).up (oJ st z A5 l5 c5 sp nx))
  have HI := hid (HI.out.fr (f3.alloc (oJ st z A5 l5 c5 sp nx)))
  have P9 := hid (BJ.at_ (w := v3) st z A5 l5 c5 sp nx rfl)
  obtain ⟨b9, hb⟩ : ∃ x, v3.heap.size = x := ⟨_, rfl⟩
  rw [hb] at P9
  have H5 := hid (i5.fr (fr1 v3 (oJ st z A5 l5 c5 sp nx)))
  clear i5
  clear f3
  go_wp2_with (first | ((with_reducible refine ld_geom rfl (.tmp 4) rfl (w.heap.size) ?_ P0.out ?_); · rfl))
  try rw [hb]
  clear hb
  refine (HL.out _).mono ?_
  rintro r v4 ⟨rfl, f4⟩
  have HF := hid ((HF.out.trans f4).alloc (by_ ya yr yq yb' yd yt yx yu))
  have P0 := hid (show BG (v4.alloc (by_ ya yr yq yb' yd yt yx yu)) (w.heap.size) gc gs gn gl gk from (Blk.fr P0.out f4 (fun h => h)).alloc _)
  have P1 := hid ((P1.out.fr f4).up (by_ ya yr yq yb' yd yt yx yu))
  have P9 := hid ((P9.out.fr f4).up (by_ ya yr yq yb' yd yt yx yu))
  have HI := hid (HI.out.fr (f4.alloc (by_ ya yr yq yb' yd yt yx yu)))
  have H5 := hid (H5.out.fr (f4.alloc (by_ ya yr yq yb' yd yt yx yu)))
  have P11 := hid (BL.new v4 ya yr yq yb' yd yt yx yu)
  obtain ⟨b11, hb⟩ : ∃ x, v4.heap.size = x := ⟨_, rfl⟩
  rw [hb] at P11
  clear f4
  go_wp2_with fail
  try rw [hb]
  clear hb
  refine (lives_ok _).mono ?_
  rintro r v5 ⟨rfl, f5⟩
  have HF := hid (HF.out.trans f5)
  have P0 := hid (show BG (v5) (w.heap.size) gc gs gn gl gk from Blk.fr P0.out f5 (fun h => h))
  have P1 := hid (P1.out.fr f5)
  have P9 := hid (P9.out.fr f5)
  have P11 := hid (show BL (v5) (b11) ya yr yq yb' yd yt yx yu from Blk.fr P11.out f5 (fun h => h))
  have HI := hid (HI.out.fr f5)
  have H5 := hid (H5.out.fr f5)
  clear f5
  obtain ⟨p11_0, p11_1, p11_2, p11_3, p11_4, p11_5, p11_6, p11_7⟩ := P11.out.cells
  go_wp2_with (first | ((with_reducible refine ldJ rfl (.tmp 6) rfl (w.heap.size + 1) ?_ P1.out ?_); · rfl))
  refine (HHO.out _).mono ?_
  rintro r v6 ⟨rfl, f6⟩
  clear p11_0 p11_1 p11_2 p11_3 p11_4 p11_5 p11_6 p11_7
  have HF := hid (HF.out.trans f6)
  have P0 := hid (show BG (v6) (w.heap.size) gc gs gn gl gk from Blk.fr P0.out f6 (fun h => h))
  have P1 := hid (P1.out.fr f6)
  have P9 := hid (P9.out.fr f6)
  have P11 := hid (show BL (v6) (b11) ya yr yq yb' yd yt yx yu from Blk.fr P11.out f6 (fun h => h))
  have HI := hid (HI.out.fr f6)
  have H5 := hid (H5.out.fr f6)
  clear f6
  obtain ⟨p1_0, p1_1, p1_2, p1_3, p1_4⟩ := P1.out.cells
  obtain ⟨p9_0, p9_1, p9_2, p9_3, p9_4⟩ := P9.out.cells
  have hc0 := head_at HI.out HNE.out
  rw [HX.out] at hc0
  go_wp2_with fail
  refine (rsame_refl st z A5 l5 c5 sp nx bs (some ⟨g, o, none⟩) l c _ H5.out HI.out).mono ?_
  rintro r v7 ⟨rfl, f7⟩
  clear p1_0 p1_1 p1_2 p1_3 p1_4 p9_0 p9_1 p9_2 p9_3 p9_4
  have HF := hid (HF.out.trans f7)
  have P0 := hid (show BG (v7) (w.heap.size) gc gs gn gl gk from Blk.fr P0.out f7 (fun h => h))
  have P1 := hid (P1.out.fr f7)
  have P9 := hid (P9.out.fr f7)
  have P11 := hid (show BL (v7) (b11) ya yr yq yb' yd yt yx yu from Blk.fr P11.out f7 (fun h => h))
  have HI := hid (HI.out.fr f7)
  have H5 := hid (H5.out.fr f7)
  clear f7
  go_wp2_with fail
  go_ret
  exact ⟨rfl, HF.out⟩
set_option maxRecDepth 100000 in
set_option maxHeartbeats 2000000 in
theorem touch_anew (gc gs gn gl gk : Int) (ch : Int) (st z : Int) (g o : Nat) (l c : Nat) (sp nx : Int) (bs : List Int) (band : Int) (w : World) (hs : -9223372036854775808 ≤ gs ∧ gs ≤ 9223372036854775807) (hi : InI w (some ⟨g, o, none⟩) l c bs) (hz : inI z) (hp : inI sp) (hl : l ≤ 100) (hm : mayG ⟨gc, gs, gn, gl, gk⟩) (hj : mayB ⟨gc, gs, gn, gl, gk⟩ ⟨st, z, bs, sp, nx⟩ = true) (hc : chB ch = true) (hb : 0 ≤ band ∧ band < (lay ⟨gc, gs, gn, gl, gk⟩).b) (hst : st = 2 ∨ st = 3 ∨ st = 4) (hne : bs ≠ []) (h5 : sp ≠ 255) (hxb : bs.headD 0 = band) :
    Calls Try.prog 12 #[.agg #[.int .i64 gc, .int .i64 gs, .int .i64 gn, .int .i64 gl, .int .i64 gk], .int .i64 ch, .agg #[.int .i64 st, .int .i64 z, .slice (some ⟨g, o, none⟩) l c, .int .i64 sp, .int .i64 nx], .int .i64 band] w fun r w' => r = .returned (.bool true) ∧ Fr No w w' := by
  have P0 := hid (BG2 w gc gs gn gl gk (oJ st z (some ⟨g, o, none⟩) l c sp nx))
  have P1 := hid (BJ.at_ (w := w.alloc (bg gc gs gn gl gk)) (g := w.heap.size + 1) st z (some ⟨g, o, none⟩) l c sp nx (by simp))
  have HF := hid ((fr1 w (bg gc gs gn gl gk)).alloc (oJ st z (some ⟨g, o, none⟩) l c sp nx))
  have HI := hid (hi.fr HF.out)
  have HL := hid (fun W => rlayout_ok gc gs gn gl gk W hs)
  have HM := hid (fun W (h : InI W (some ⟨g, o, none⟩) l c bs) => rmay_ok gc gs gn gl gk st z (some ⟨g, o, none⟩) l c sp nx bs W hs h)
  have HCH := hid (fun W => chunk_ok ch W)
  have HS := hid (fun W => small_ok st z (some ⟨g, o, none⟩) l c sp nx bs 0 0 0 none 0 0 true W (decide_eq_true (by omega)))
  have hcc := ch_of hc
  have hgt0 := touch_left (ch := ch) (j := ⟨st, z, bs, sp, nx⟩) hcc.1 hm hj hst
  have htj : touchJ ⟨st, z, bs, sp, nx⟩ band = ⟨1, z, bs, 255, 0⟩ := by unfold touchJ; rw [if_pos ⟨hst, hxb.symm⟩]; unfold nextJ; rw [if_neg hne]
  have hmt := touch_may (x := band) hj
  rw [htj] at hmt
  dsimp only at hgt0
  obtain ⟨L1, hL1⟩ : ∃ L, leftJ (lay ⟨gc, gs, gn, gl, gk⟩).d ch ⟨st, z, bs, sp, nx⟩ = L := ⟨_, rfl⟩
  obtain ⟨L2, hL2⟩ : ∃ L, leftJ (lay ⟨gc, gs, gn, gl, gk⟩).d ch ⟨1, z, bs, 255, 0⟩ = L := ⟨_, rfl⟩
  rw [hL1, hL2] at hgt0
  have HGT := hid (show decide (L1 < L2) = true from decide_eq_true hgt0)
  have HLJ := hid (fun W (h : InI W (some ⟨g, o, none⟩) l c bs) => left_lit gc gs gn gl gk ch st z (some ⟨g, o, none⟩) l c sp nx bs W hs hm hj hc hz hp L1 hL1 h)
  have HLT := hid (fun A' (l' : Nat) (c' : Nat) W (h : InI W A' l' c' bs) => left_lit gc gs gn gl gk ch 1 z A' l' c' 255 0 bs W hs hm hmt hc hz (by unfold inI; decide) L2 hL2 h)
  rw [hj] at HM
  rw [hc] at HCH
  rw [rlo_yes hm] at HL
  obtain ⟨yb, hyb⟩ : ∃ b, (lay ⟨gc, gs, gn, gl, gk⟩).b = b := ⟨_, rfl⟩
  have hq : aftA ⟨gc, gs, gn, gl, gk⟩ ch ⟨st, z, bs, sp, nx⟩ ⟨8, 0, band, []⟩ = (⟨1, z, bs, 255, 0⟩, 0) := by
    unfold aftA; rw [if_pos hm, hj, hc]
    show aftJ ⟨gc, gs, gn, gl, gk⟩ ch ⟨st, z, bs, sp, nx⟩ ⟨8, 0, band, []⟩ = _
    unfold aftJ
    dsimp only
    rw [if_neg (by decide), if_pos rfl]
    rw [if_pos hb, htj]
  have HA := hid (fun W (h1 : InI W (some ⟨g, o, none⟩) l c bs) => pAfter_lit gc gs gn gl gk ch st z (some ⟨g, o, none⟩) l c sp nx bs 8 0 band none 0 0 [] 1 z bs 255 0 0 W hs hz hp (by unfold inI; decide) hq h1 (InI.nil W) (by omega) (by omega))
  obtain ⟨y, hy0⟩ : ∃ y, lay ⟨gc, gs, gn, gl, gk⟩ = y := ⟨_, rfl⟩
  rw [hy0] at HL hyb
  obtain ⟨ya, yr, yq, yb', yd, yt, yx, yu⟩ := y
  dsimp only at HL hyb
  subst hyb
  rw [hy0] at hb
  dsimp only at hb
  obtain ⟨hb1, hb2⟩ := hb
  have HHO := hid (fun W => holds_ok st z (some ⟨g, o, none⟩) l c sp nx bs W)
  have e5 : (sp != 255) = true := by simpa using h5
  rw [e5] at HHO
  obtain ⟨x, hx⟩ : ∃ x, bs.headD 0 = x := ⟨_, rfl⟩
  have HX := hid hx
  have HNE := hid hne
  have e7 : (x == band) = true := by rw [hx] at hxb; simpa using hxb
  have e8 : (x != band) = false := by rw [hx] at hxb; simpa using hxb
  have hl2 : (0 : Int) < l := by
    have h1 := hi.len
    have h2 := List.length_pos_iff.2 hne
    omega
  clear h5 hne hxb hx
  clear hi hz hp hl hq hy0 hst hcc hgt0 htj hmt hL1 hL2
  go_enter Try.func12, Try.ntmps12
  go_wp2_with (first | ((with_reducible refine ldJ rfl (.tmp 6) rfl (w.heap.size + 1) ?_ P1.out ?_); · rfl))
  refine (HS.out _).mono ?_
  rintro r v1 ⟨rfl, f1⟩
  have HF := hid (HF.out.trans f1)
  have P0 := hid (show BG (v1) (w.heap.size) gc gs gn gl gk from Blk.fr P0.out f1 (fun h => h))
  have P1 := hid (P1.out.fr f1)
  have HI := hid (HI.out.fr f1)
  clear f1
  obtain ⟨p0_0, p0_1, p0_2, p0_3, p0_4⟩ := P0.out.cells
  obtain ⟨p1_0, p1_1, p1_2, p1_3, p1_4⟩ := P1.out.cells
  go_wp2_with fail
  refine (HM.out _ HI.out).mono ?_
  rintro r v2 ⟨rfl, f2⟩
  clear p0_0 p0_1 p0_2 p0_3 p0_4 p1_0 p1_1 p1_2 p1_3 p1_4
  have HF := hid (HF.out.trans f2)
  have P0 := hid (show BG (v2) (w.heap.size) gc gs gn gl gk from Blk.fr P0.out f2 (fun h => h))
  have P1 := hid (P1.out.fr f2)
  have HI := hid (HI.out.fr f2)
  clear f2
  go_wp2_with fail
  refine (HCH.out _).mono ?_
  rintro r w9 ⟨rfl, rfl⟩
  go_wp2_with (first | ((with_reducible refine ld_geom rfl (.tmp 4) rfl (w.heap.size) ?_ P0.out ?_); · rfl) | ((with_reducible refine ldJ rfl (.tmp 6) rfl (w.heap.size + 1) ?_ P1.out ?_); · rfl))
  refine (HA.out _ HI.out).mono ?_
  rintro r v3 ⟨A5, l5, c5, rfl, i5, f3⟩
  have HF := hid ((HF.out.trans f3).alloc (oJ 1 z A5 l5 c5 255 0))
  have P0 := hid (show BG (v3.alloc (oJ 1 z A5 l5 c5 255 0)) (w.heap.size) gc gs gn gl gk from (Blk.fr P0.out f3 (fun h => h)).alloc _)
  have P1 := hid ((P1.out.fr f3).up (oJ 1 z A5 l5 c5 255 0))
  have HI := hid (HI.out.fr (f3.alloc (oJ 1 z A5 l5 c5 255 0)))
  have P9 := hid (BJ.at_ (w := v3) 1 z A5 l5 c5 255 0 rfl)
  obtain ⟨b9, hb⟩ : ∃ x, v3.heap.size = x := ⟨_, rfl⟩
  rw [hb] at P9
  have H5 := hid (i5.fr (fr1 v3 (oJ 1 z A5 l5 c5 255 0)))
  clear i5
  clear f3
  go_wp2_with (first | ((with_reducible refine ld_geom rfl (.tmp 4) rfl (w.heap.size) ?_ P0.out ?_); · rfl))
  try rw [hb]
  clear hb
  refine (HL.out _).mono ?_
  rintro r v4 ⟨rfl, f4⟩
  have HF := hid ((HF.out.trans f4).alloc (by_ ya yr yq yb' yd yt yx yu))
  have P0 := hid (show BG (v4.alloc (by_ ya yr yq yb' yd yt yx yu)) (w.heap.size) gc gs gn gl gk from (Blk.fr P0.out f4 (fun h => h)).alloc _)
  have P1 := hid ((P1.out.fr f4).up (by_ ya yr yq yb' yd yt yx yu))
  have P9 := hid ((P9.out.fr f4).up (by_ ya yr yq yb' yd yt yx yu))
  have HI := hid (HI.out.fr (f4.alloc (by_ ya yr yq yb' yd yt yx yu)))
  have H5 := hid (H5.out.fr (f4.alloc (by_ ya yr yq yb' yd yt yx yu)))
  have P11 := hid (BL.new v4 ya yr yq yb' yd yt yx yu)
  obtain ⟨b11, hb⟩ : ∃ x, v4.heap.size = x := ⟨_, rfl⟩
  rw [hb] at P11
  clear f4
  go_wp2_with fail
  try rw [hb]
  clear hb
  refine (lives_ok _).mono ?_
  rintro r v5 ⟨rfl, f5⟩
  have HF := hid (HF.out.trans f5)
  have P0 := hid (show BG (v5) (w.heap.size) gc gs gn gl gk from Blk.fr P0.out f5 (fun h => h))
  have P1 := hid (P1.out.fr f5)
  have P9 := hid (P9.out.fr f5)
  have P11 := hid (show BL (v5) (b11) ya yr yq yb' yd yt yx yu from Blk.fr P11.out f5 (fun h => h))
  have HI := hid (HI.out.fr f5)
  have H5 := hid (H5.out.fr f5)
  clear f5
  obtain ⟨p11_0, p11_1, p11_2, p11_3, p11_4, p11_5, p11_6, p11_7⟩ := P11.out.cells
  go_wp2_with (first | ((with_reducible refine ldJ rfl (.tmp 6) rfl (w.heap.size + 1) ?_ P1.out ?_); · rfl))
  refine (HHO.out _).mono ?_
  rintro r v6 ⟨rfl, f6⟩
  clear p11_0 p11_1 p11_2 p11_3 p11_4 p11_5 p11_6 p11_7
  have HF := hid (HF.out.trans f6)
  have P0 := hid (show BG (v6) (w.heap.size) gc gs gn gl gk from Blk.fr P0.out f6 (fun h => h))
  have P1 := hid (P1.out.fr f6)
  have P9 := hid (P9.out.fr f6)
  have P11 := hid (show BL (v6) (b11) ya yr yq yb' yd yt yx yu from Blk.fr P11.out f6 (fun h => h))
  have HI := hid (HI.out.fr f6)
  have H5 := hid (H5.out.fr f6)
  clear f6
  obtain ⟨p1_0, p1_1, p1_2, p1_3, p1_4⟩ := P1.out.cells
  have hc0 := head_at HI.out HNE.out
  rw [HX.out] at hc0
  go_wp2_with (first | ((with_reducible refine ldJ rfl (.tmp 9) rfl (b9) ?_ P9.out ?_); · rfl))
  refine (holds_ok 1 z A5 l5 c5 255 0 bs _).mono ?_
  rintro r v7 ⟨rfl, f7⟩
  clear p1_0 p1_1 p1_2 p1_3 p1_4
  have HF := hid (HF.out.trans f7)
  have P0 := hid (show BG (v7) (w.heap.size) gc gs gn gl gk from Blk.fr P0.out f7 (fun h => h))
  have P1 := hid (P1.out.fr f7)
  have P9 := hid (P9.out.fr f7)
  have P11 := hid (show BL (v7) (b11) ya yr yq yb' yd yt yx yu from Blk.fr P11.out f7 (fun h => h))
  have HI := hid (HI.out.fr f7)
  have H5 := hid (H5.out.fr f7)
  clear f7
  clear hc0
  go_upto_region 13 with fail
  have hl5 : ((l5 : Int) == (l : Int)) = true := by
    have h1 := H5.out.len
    have h2 := HI.out.len
    have : (l5 : Int) = l := by omega
    simpa using this
  have hgt := HGT.out
  have FW := hid (Fr.refl No v7)
  obtain ⟨p0_0, p0_1, p0_2, p0_3, p0_4⟩ := P0.out.cells
  obtain ⟨p1_0, p1_1, p1_2, p1_3, p1_4⟩ := P1.out.cells
  obtain ⟨p9_0, p9_1, p9_2, p9_3, p9_4⟩ := P9.out.cells
  have FW := kd FW
  refine wp_region_noPanic ?_
  refine wp_region_held_drew (S := (fun W' => W'.cell? ⟨w.heap.size, 0, none⟩ = some (.int .i64 gc) ∧ W'.cell? ⟨w.heap.size, 1, none⟩ = some (.int .i64 gs) ∧ W'.cell? ⟨w.heap.size, 2, none⟩ = some (.int .i64 gn) ∧ W'.cell? ⟨w.heap.size, 3, none⟩ = some (.int .i64 gl) ∧ W'.cell? ⟨w.heap.size, 4, none⟩ = some (.int .i64 gk) ∧ W'.cell? ⟨w.heap.size + 1, 0, none⟩ = some (.int .i64 st) ∧ W'.cell? ⟨w.heap.size + 1, 1, none⟩ = some (.int .i64 z) ∧ W'.cell? ⟨w.heap.size + 1, 2, none⟩ = some (.slice (some ⟨g, o, none⟩) l c) ∧ W'.cell? ⟨w.heap.size + 1, 3, none⟩ = some (.int .i64 sp) ∧ W'.cell? ⟨w.heap.size + 1, 4, none⟩ = some (.int .i64 nx) ∧ W'.cell? ⟨b9, 0, none⟩ = some (.int .i64 1) ∧ W'.cell? ⟨b9, 1, none⟩ = some (.int .i64 z) ∧ W'.cell? ⟨b9, 2, none⟩ = some (.slice A5 l5 c5) ∧ W'.cell? ⟨b9, 3, none⟩ = some (.int .i64 255) ∧ W'.cell? ⟨b9, 4, none⟩ = some (.int .i64 0) ∧ Hid (Fr No v7 W'))) (by kernel_rfl) ?_ (fun hHeld => ?_)
  · (try dsimp only); (first | exact ⟨kc f hHeld.1, kc f hHeld.2.1, kc f hHeld.2.2.1, kc f hHeld.2.2.2.1, kc f hHeld.2.2.2.2.1, kc f hHeld.2.2.2.2.2.1, kc f hHeld.2.2.2.2.2.2.1, kc f hHeld.2.2.2.2.2.2.2.1, kc f hHeld.2.2.2.2.2.2.2.2.1, kc f hHeld.2.2.2.2.2.2.2.2.2.1, kc f hHeld.2.2.2.2.2.2.2.2.2.2.1, kc f hHeld.2.2.2.2.2.2.2.2.2.2.2.1, kc f hHeld.2.2.2.2.2.2.2.2.2.2.2.2.1, kc f hHeld.2.2.2.2.2.2.2.2.2.2.2.2.2.1, kc f hHeld.2.2.2.2.2.2.2.2.2.2.2.2.2.2.1, FW⟩ | (go_split_ands; exact ⟨kc f (by assumption), kc f (by assumption), kc f (by assumption), kc f (by assumption), kc f (by assumption), kc f (by assumption), kc f (by assumption), kc f (by assumption), kc f (by assumption), kc f (by assumption), kc f (by assumption), kc f (by assumption), kc f (by assumption), kc f (by assumption), kc f (by assumption), by assumption⟩) | (go_split_ands; exact ⟨(by assumption), (by assumption), (by assumption), (by assumption), (by assumption), (by assumption), (by assumption), (by assumption), (by assumption), (by assumption), (by assumption), (by assumption), (by assumption), (by assumption), (by assumption), by assumption⟩) | (go_split_ands; exact ⟨kc (fr1 _ _) (by assumption), kc (fr1 _ _) (by assumption), kc (fr1 _ _) (by assumption), kc (fr1 _ _) (by assumption), kc (fr1 _ _) (by assumption), kc (fr1 _ _) (by assumption), kc (fr1 _ _) (by assumption), kc (fr1 _ _) (by assumption), kc (fr1 _ _) (by assumption), kc (fr1 _ _) (by assumption), kc (fr1 _ _) (by assumption), kc (fr1 _ _) (by assumption), kc (fr1 _ _) (by assumption), kc (fr1 _ _) (by assumption), kc (fr1 _ _) (by assumption), kfa (by assumption)⟩))
  refine wpAnyH_take (i := 0) (v := ?v1) rfl (by kernel_rfl) (by kernel_rfl) (by kernel_rfl) (fun _ _ _ h => h) (Or.inl ⟨by kernel_rfl, ?y1⟩) (by assumption) ?_
  case y1 => (intro w hSw; (try dsimp only at hSw); go_simp; all_goals with_reducible rfl)
  try simp only [Act.put, List.getElem_toArray, List.getElem_cons_zero, List.setIfInBounds_toArray, List.set_cons_zero, List.set_cons_succ]
  refine wpAnyH_take (i := 1) (v := (.bool true)) rfl (by kernel_rfl) (by kernel_rfl) (by kernel_rfl) (fun _ _ _ h => h) (Or.inl ⟨by kernel_rfl, fun w hSw => by first | (go_simp; done) | (go_simp; with_reducible rfl) | (go_simp; omega)⟩) (by assumption) ?_
  try simp only [Act.put, List.getElem_toArray, List.getElem_cons_succ, List.getElem_cons_zero, List.setIfInBounds_toArray, List.set_cons_zero, List.set_cons_succ]
  refine wpAnyH_take (i := 2) (v := (.bool true)) rfl (by kernel_rfl) (by kernel_rfl) (by kernel_rfl) (fun _ _ _ h => h) (Or.inl ⟨by kernel_rfl, fun w hSw => by first | (go_simp; done) | (go_simp; with_reducible rfl) | (go_simp; omega)⟩) (by assumption) ?_
  try simp only [Act.put, List.getElem_toArray, List.getElem_cons_succ, List.getElem_cons_zero, List.setIfInBounds_toArray, List.set_cons_zero, List.set_cons_succ]
  refine wpAnyH_take (i := 3) (v := (.bool false)) rfl (by kernel_rfl) (by kernel_rfl) (by kernel_rfl) (fun _ _ _ h => h) (Or.inl ⟨by kernel_rfl, fun w hSw => by first | (go_simp; done) | (go_simp; with_reducible rfl) | (go_simp; omega)⟩) (by assumption) ?_
  try simp only [Act.put, List.getElem_toArray, List.getElem_cons_succ, List.getElem_cons_zero, List.setIfInBounds_toArray, List.set_cons_zero, List.set_cons_succ]
  refine wpAnyH_take (i := 4) (v := (.bool true)) rfl (by kernel_rfl) (by kernel_rfl) (by kernel_rfl) (fun _ _ _ h => h) (Or.inl ⟨by kernel_rfl, fun w hSw => by first | (go_simp; done) | (go_simp; with_reducible rfl) | (go_simp; omega)⟩) (by assumption) ?_
  try simp only [Act.put, List.getElem_toArray, List.getElem_cons_succ, List.getElem_cons_zero, List.setIfInBounds_toArray, List.set_cons_zero, List.set_cons_succ]
  refine wpAnyH_take (i := 5) (v := (.bool true)) rfl (by kernel_rfl) (by kernel_rfl) (by kernel_rfl) (fun _ _ _ h => h) (Or.inl ⟨by kernel_rfl, fun w hSw => by first | (go_simp; done) | (go_simp; with_reducible rfl) | (go_simp; omega)⟩) (by assumption) ?_
  try simp only [Act.put, List.getElem_toArray, List.getElem_cons_succ, List.getElem_cons_zero, List.setIfInBounds_toArray, List.set_cons_zero, List.set_cons_succ]
  refine wpAnyH_take (i := 6) (v := (.bool true)) rfl (by kernel_rfl) (by kernel_rfl) (by kernel_rfl) (fun _ _ _ h => h) (Or.inl ⟨by kernel_rfl, fun w hSw => by first | (go_simp; done) | (go_simp; with_reducible rfl) | (go_simp; omega)⟩) (by assumption) ?_
  try simp only [Act.put, List.getElem_toArray, List.getElem_cons_succ, List.getElem_cons_zero, List.setIfInBounds_toArray, List.set_cons_zero, List.set_cons_succ]
  refine wpAnyH_take (i := 7) (v := ?v2) rfl (by kernel_rfl) (by kernel_rfl) (by kernel_rfl) (fun _ _ _ h => h) (Or.inl ⟨by kernel_rfl, ?y2⟩) (by assumption) ?_
  case y2 => (intro w hSw; (try dsimp only at hSw); go_simp; all_goals with_reducible rfl)
  try simp only [Act.put, List.getElem_toArray, List.getElem_cons_succ, List.getElem_cons_zero, List.setIfInBounds_toArray, List.set_cons_zero, List.set_cons_succ]
  refine wpAnyH_take (i := 8) (v := ?v3) rfl (by kernel_rfl) (by kernel_rfl) (by kernel_rfl) (fun _ _ _ h => h) (Or.inl ⟨by kernel_rfl, ?y3⟩) (by assumption) ?_
  case y3 => (intro w hSw; (try dsimp only at hSw); go_simp; all_goals with_reducible rfl)
  try simp only [Act.put, List.getElem_toArray, List.getElem_cons_succ, List.getElem_cons_zero, List.setIfInBounds_toArray, List.set_cons_zero, List.set_cons_succ]
  refine wpAnyH_take (i := 9) (v := (.bool true)) rfl (by kernel_rfl) (by kernel_rfl) (by kernel_rfl) (fun _ _ _ h => h) (Or.inl ⟨by kernel_rfl, fun w hSw => by first | (go_simp; done) | (go_simp; with_reducible rfl) | (go_simp; omega)⟩) (by assumption) ?_
  try simp only [Act.put, List.getElem_toArray, List.getElem_cons_succ, List.getElem_cons_zero, List.setIfInBounds_toArray, List.set_cons_zero, List.set_cons_succ]
  refine wpAnyH_take (i := 10) (v := (.bool true)) rfl (by kernel_rfl) (by kernel_rfl) (by kernel_rfl) (fun _ _ _ h => h) (Or.inl ⟨by kernel_rfl, fun w hSw => by first | (go_simp; done) | (go_simp; with_reducible rfl) | (go_simp; omega)⟩) (by assumption) ?_
  try simp only [Act.put, List.getElem_toArray, List.getElem_cons_succ, List.getElem_cons_zero, List.setIfInBounds_toArray, List.set_cons_zero, List.set_cons_succ]
  refine wpAnyH_take (i := 11) (v := (.bool true)) rfl (by kernel_rfl) (by kernel_rfl) (by kernel_rfl) (fun _ _ _ h => h) (Or.inl ⟨by kernel_rfl, fun w hSw => by first | (go_simp; done) | (go_simp; with_reducible rfl) | (go_simp; omega)⟩) (by assumption) ?_
  try simp only [Act.put, List.getElem_toArray, List.getElem_cons_succ, List.getElem_cons_zero, List.setIfInBounds_toArray, List.set_cons_zero, List.set_cons_succ]
  refine wpAnyH_take (i := 12) (v := ?v4) rfl (by kernel_rfl) (by kernel_rfl) (by kernel_rfl) (fun _ _ _ h => h) (Or.inl ⟨by kernel_rfl, ?y4⟩) (by assumption) ?_
  case y4 => (intro w hSw; (try dsimp only at hSw); go_simp; all_goals with_reducible rfl)
  try simp only [Act.put, List.getElem_toArray, List.getElem_cons_succ, List.getElem_cons_zero, List.setIfInBounds_toArray, List.set_cons_zero, List.set_cons_succ]
  refine wpAnyH_take (i := 13) (v := ?v5) rfl (by kernel_rfl) (by kernel_rfl) (by kernel_rfl) (fun _ _ _ h => h) (Or.inl ⟨by kernel_rfl, ?y5⟩) (by assumption) ?_
  case y5 => (intro w hSw; (try dsimp only at hSw); go_simp; all_goals with_reducible rfl)
  try simp only [Act.put, List.getElem_toArray, List.getElem_cons_succ, List.getElem_cons_zero, List.setIfInBounds_toArray, List.set_cons_zero, List.set_cons_succ]
  refine wpAnyH_take (i := 14) (v := ?v6) rfl (by kernel_rfl) (by kernel_rfl) (by kernel_rfl) (fun _ _ _ h => h) (Or.inl ⟨by kernel_rfl, ?y6⟩) (by assumption) ?_
  case y6 => (intro w hSw; (try dsimp only at hSw); go_simp; all_goals with_reducible rfl)
  try simp only [Act.put, List.getElem_toArray, List.getElem_cons_succ, List.getElem_cons_zero, List.setIfInBounds_toArray, List.set_cons_zero, List.set_cons_succ]
  refine wpAnyH_take (i := 15) (v := ?v7) rfl (by kernel_rfl) (by kernel_rfl) (by kernel_rfl) (fun _ _ _ h => h) (Or.inl ⟨by kernel_rfl, ?y7⟩) (by assumption) ?_
  case y7 => (intro w hSw; (try dsimp only at hSw); go_simp; all_goals with_reducible rfl)
  try simp only [Act.put, List.getElem_toArray, List.getElem_cons_succ, List.getElem_cons_zero, List.setIfInBounds_toArray, List.set_cons_zero, List.set_cons_succ]
  refine wpAnyH_take (i := 16) (v := ?v8) rfl (by kernel_rfl) (by kernel_rfl) (by kernel_rfl) (fun _ _ _ h => h) (Or.inl ⟨by kernel_rfl, ?y8⟩) (by assumption) ?_
  case y8 => (intro w hSw; (try dsimp only at hSw); go_simp; all_goals with_reducible rfl)
  try simp only [Act.put, List.getElem_toArray, List.getElem_cons_succ, List.getElem_cons_zero, List.setIfInBounds_toArray, List.set_cons_zero, List.set_cons_succ]
  refine wpAnyH_take (i := 17) (v := ?v9) rfl (by kernel_rfl) (by kernel_rfl) (by kernel_rfl) (fun _ _ _ h => h) (Or.inl ⟨by kernel_rfl, ?y9⟩) (by assumption) ?_
  case y9 => (intro w hSw; (try dsimp only at hSw); go_simp; all_goals with_reducible rfl)
  try simp only [Act.put, List.getElem_toArray, List.getElem_cons_succ, List.getElem_cons_zero, List.setIfInBounds_toArray, List.set_cons_zero, List.set_cons_succ]
  refine wpAnyH_take (i := 18) (v := (.bool true)) rfl (by kernel_rfl) (by kernel_rfl) (by kernel_rfl) (fun _ _ _ h => h) (Or.inl ⟨by kernel_rfl, fun w hSw => by first | (go_simp; done) | (go_simp; with_reducible rfl) | (go_simp; omega)⟩) (by assumption) ?_
  try simp only [Act.put, List.getElem_toArray, List.getElem_cons_succ, List.getElem_cons_zero, List.setIfInBounds_toArray, List.set_cons_zero, List.set_cons_succ]
  refine wpAnyH_take (i := 19) (v := (.bool true)) rfl (by kernel_rfl) (by kernel_rfl) (by kernel_rfl) (fun _ _ _ h => h) (Or.inl ⟨by kernel_rfl, fun w hSw => by first | (go_simp; done) | (go_simp; with_reducible rfl) | (go_simp; omega)⟩) (by assumption) ?_
  try simp only [Act.put, List.getElem_toArray, List.getElem_cons_succ, List.getElem_cons_zero, List.setIfInBounds_toArray, List.set_cons_zero, List.set_cons_succ]
  refine wpAnyH_take (i := 20) (v := (.bool true)) rfl (by kernel_rfl) (by kernel_rfl) (by kernel_rfl) (fun _ _ _ h => h) (Or.inl ⟨by kernel_rfl, fun w hSw => by first | (go_simp; done) | (go_simp; with_reducible rfl) | (go_simp; omega)⟩) (by assumption) ?_
  try simp only [Act.put, List.getElem_toArray, List.getElem_cons_succ, List.getElem_cons_zero, List.setIfInBounds_toArray, List.set_cons_zero, List.set_cons_succ]
  refine wpAnyH_take (i := 21) (v := ?v10) rfl (by kernel_rfl) (by kernel_rfl) (by kernel_rfl) (fun _ _ _ h => h) (Or.inl ⟨by kernel_rfl, ?y10⟩) (by assumption) ?_
  case y10 => (intro w hSw; (try dsimp only at hSw); go_simp; all_goals with_reducible rfl)
  try simp only [Act.put, List.getElem_toArray, List.getElem_cons_succ, List.getElem_cons_zero, List.setIfInBounds_toArray, List.set_cons_zero, List.set_cons_succ]
  refine wpAnyH_take (i := 22) (v := ?v11) rfl (by kernel_rfl) (by kernel_rfl) (by kernel_rfl) (fun _ _ _ h => h) (Or.inl ⟨by kernel_rfl, ?y11⟩) (by assumption) ?_
  case y11 => (intro w hSw; (try dsimp only at hSw); go_simp; all_goals with_reducible rfl)
  try simp only [Act.put, List.getElem_toArray, List.getElem_cons_succ, List.getElem_cons_zero, List.setIfInBounds_toArray, List.set_cons_zero, List.set_cons_succ]
  refine wpAnyH_take (i := 23) (v := ?v12) rfl (by kernel_rfl) (by kernel_rfl) (by kernel_rfl) (fun _ _ _ h => h) (Or.inl ⟨by kernel_rfl, ?y12⟩) (by assumption) ?_
  case y12 => (intro w hSw; (try dsimp only at hSw); go_simp; all_goals with_reducible rfl)
  try simp only [Act.put, List.getElem_toArray, List.getElem_cons_succ, List.getElem_cons_zero, List.setIfInBounds_toArray, List.set_cons_zero, List.set_cons_succ]
  refine wpAnyH_take (i := 24) (v := ?v13) rfl (by kernel_rfl) (by kernel_rfl) (by kernel_rfl) (fun _ _ _ h => h) (Or.inl ⟨by kernel_rfl, ?y13⟩) (by assumption) ?_
  case y13 => (intro w hSw; (try dsimp only at hSw); go_simp; all_goals with_reducible rfl)
  try simp only [Act.put, List.getElem_toArray, List.getElem_cons_succ, List.getElem_cons_zero, List.setIfInBounds_toArray, List.set_cons_zero, List.set_cons_succ]
  refine wpAnyH_take (i := 25) (v := (.bool true)) rfl (by kernel_rfl) (by kernel_rfl) (by kernel_rfl) (fun _ _ _ h => h) (Or.inl ⟨by kernel_rfl, fun w hSw => by first | (go_simp; done) | (go_simp; with_reducible rfl) | (go_simp; omega)⟩) (by assumption) ?_
  try simp only [Act.put, List.getElem_toArray, List.getElem_cons_succ, List.getElem_cons_zero, List.setIfInBounds_toArray, List.set_cons_zero, List.set_cons_succ]
  refine wpAnyH_take (i := 26) (v := (.bool true)) rfl (by kernel_rfl) (by kernel_rfl) (by kernel_rfl) (fun _ _ _ h => h) (Or.inl ⟨by kernel_rfl, fun w hSw => by first | (go_simp; done) | (go_simp; with_reducible rfl) | (go_simp; omega)⟩) (by assumption) ?_
  try simp only [Act.put, List.getElem_toArray, List.getElem_cons_succ, List.getElem_cons_zero, List.setIfInBounds_toArray, List.set_cons_zero, List.set_cons_succ]
  refine wpAnyH_take (i := 27) (v := (.bool true)) rfl (by kernel_rfl) (by kernel_rfl) (by kernel_rfl) (fun _ _ _ h => h) (Or.inl ⟨by kernel_rfl, fun w hSw => by first | (go_simp; done) | (go_simp; with_reducible rfl) | (go_simp; omega)⟩) (by assumption) ?_
  try simp only [Act.put, List.getElem_toArray, List.getElem_cons_succ, List.getElem_cons_zero, List.setIfInBounds_toArray, List.set_cons_zero, List.set_cons_succ]
  refine wpAnyH_take (i := 28) (v := ?v14) rfl (by kernel_rfl) (by kernel_rfl) (by kernel_rfl) (fun _ _ _ h => h) (Or.inl ⟨by kernel_rfl, ?y14⟩) (by assumption) ?_
  case y14 => (intro w hSw; (try dsimp only at hSw); go_simp; all_goals with_reducible rfl)
  try simp only [Act.put, List.getElem_toArray, List.getElem_cons_succ, List.getElem_cons_zero, List.setIfInBounds_toArray, List.set_cons_zero, List.set_cons_succ]
  refine wpAnyH_take (i := 29) (v := ?v15) rfl (by kernel_rfl) (by kernel_rfl) (by kernel_rfl) (fun _ _ _ h => h) (Or.inl ⟨by kernel_rfl, ?y15⟩) (by assumption) ?_
  case y15 => (intro w hSw; (try dsimp only at hSw); go_simp; all_goals with_reducible rfl)
  try simp only [Act.put, List.getElem_toArray, List.getElem_cons_succ, List.getElem_cons_zero, List.setIfInBounds_toArray, List.set_cons_zero, List.set_cons_succ]
  refine wpAnyH_take (i := 30) (v := ?v16) rfl (by kernel_rfl) (by kernel_rfl) (by kernel_rfl) (fun _ _ _ h => h) (Or.inl ⟨by kernel_rfl, ?y16⟩) (by assumption) ?_
  case y16 => (intro w hSw; (try dsimp only at hSw); go_simp; all_goals with_reducible rfl)
  try simp only [Act.put, List.getElem_toArray, List.getElem_cons_succ, List.getElem_cons_zero, List.setIfInBounds_toArray, List.set_cons_zero, List.set_cons_succ]
  refine wpAnyH_take (i := 32) (v := ?v17) rfl (by kernel_rfl) (by kernel_rfl) (by kernel_rfl) (fun _ _ _ h => h) (Or.inl ⟨by kernel_rfl, ?y17⟩) (by assumption) ?_
  case y17 => (intro w hSw; (try dsimp only at hSw); go_simp; all_goals with_reducible rfl)
  try simp only [Act.put, List.getElem_toArray, List.getElem_cons_succ, List.getElem_cons_zero, List.setIfInBounds_toArray, List.set_cons_zero, List.set_cons_succ]
  refine wpAnyH_take (i := 33) (v := ?v18) rfl (by kernel_rfl) (by kernel_rfl) (by kernel_rfl) (fun _ _ _ h => h) (Or.inl ⟨by kernel_rfl, ?y18⟩) (by assumption) ?_
  case y18 => (intro w hSw; (try dsimp only at hSw); go_simp; all_goals with_reducible rfl)
  try simp only [Act.put, List.getElem_toArray, List.getElem_cons_succ, List.getElem_cons_zero, List.setIfInBounds_toArray, List.set_cons_zero, List.set_cons_succ]
  refine wpAnyH_take (i := 34) (v := ?v19) rfl (by kernel_rfl) (by kernel_rfl) (by kernel_rfl) (fun _ _ _ h => h) (Or.inl ⟨by kernel_rfl, ?y19⟩) (by assumption) ?_
  case y19 => (intro w hSw; (try dsimp only at hSw); go_simp; all_goals with_reducible rfl)
  try simp only [Act.put, List.getElem_toArray, List.getElem_cons_succ, List.getElem_cons_zero, List.setIfInBounds_toArray, List.set_cons_zero, List.set_cons_succ]
  refine wpAnyH_ready (rs := [31]) (by kernel_rfl) (by simp) (AllReadyH.cons rfl (fun K hK => ?_) AllReadyH.nil)
  go_simp
  go_at_call 42
  refine (HLT.out _ _ _ _ (H5.out.fr hHeld.2.2.2.2.2.2.2.2.2.2.2.2.2.2.2.out)).mono ?_
  rintro e W1 ⟨rfl, f⟩
  have FW := kf f hHeld.2.2.2.2.2.2.2.2.2.2.2.2.2.2.2
  dsimp only
  refine hK.out _ _ ?_ (fun hHeld => ?_)
  · (try dsimp only); (first | exact ⟨kc f hHeld.1, kc f hHeld.2.1, kc f hHeld.2.2.1, kc f hHeld.2.2.2.1, kc f hHeld.2.2.2.2.1, kc f hHeld.2.2.2.2.2.1, kc f hHeld.2.2.2.2.2.2.1, kc f hHeld.2.2.2.2.2.2.2.1, kc f hHeld.2.2.2.2.2.2.2.2.1, kc f hHeld.2.2.2.2.2.2.2.2.2.1, kc f hHeld.2.2.2.2.2.2.2.2.2.2.1, kc f hHeld.2.2.2.2.2.2.2.2.2.2.2.1, kc f hHeld.2.2.2.2.2.2.2.2.2.2.2.2.1, kc f hHeld.2.2.2.2.2.2.2.2.2.2.2.2.2.1, kc f hHeld.2.2.2.2.2.2.2.2.2.2.2.2.2.2.1, FW⟩ | (go_split_ands; exact ⟨kc f (by assumption), kc f (by assumption), kc f (by assumption), kc f (by assumption), kc f (by assumption), kc f (by assumption), kc f (by assumption), kc f (by assumption), kc f (by assumption), kc f (by assumption), kc f (by assumption), kc f (by assumption), kc f (by assumption), kc f (by assumption), kc f (by assumption), by assumption⟩) | (go_split_ands; exact ⟨(by assumption), (by assumption), (by assumption), (by assumption), (by assumption), (by assumption), (by assumption), (by assumption), (by assumption), (by assumption), (by assumption), (by assumption), (by assumption), (by assumption), (by assumption), by assumption⟩) | (go_split_ands; exact ⟨kc (fr1 _ _) (by assumption), kc (fr1 _ _) (by assumption), kc (fr1 _ _) (by assumption), kc (fr1 _ _) (by assumption), kc (fr1 _ _) (by assumption), kc (fr1 _ _) (by assumption), kc (fr1 _ _) (by assumption), kc (fr1 _ _) (by assumption), kc (fr1 _ _) (by assumption), kc (fr1 _ _) (by assumption), kc (fr1 _ _) (by assumption), kc (fr1 _ _) (by assumption), kc (fr1 _ _) (by assumption), kc (fr1 _ _) (by assumption), kc (fr1 _ _) (by assumption), kfa (by assumption)⟩))
  clear hK K
  try simp only [Act.put, List.getElem_toArray, List.getElem_cons_succ, List.getElem_cons_zero, List.setIfInBounds_toArray, List.set_cons_zero, List.set_cons_succ]
  refine wpAnyH_ready (rs := [35]) (by kernel_rfl) (by simp) (AllReadyH.cons rfl (fun K hK => ?_) AllReadyH.nil)
  go_simp
  go_at_call 42
  refine (HLJ.out _ (HI.out.fr hHeld.2.2.2.2.2.2.2.2.2.2.2.2.2.2.2.out)).mono ?_
  rintro e W1 ⟨rfl, f⟩
  have FW := kf f hHeld.2.2.2.2.2.2.2.2.2.2.2.2.2.2.2
  dsimp only
  refine hK.out _ _ ?_ (fun hHeld => ?_)
  · (try dsimp only); (first | exact ⟨kc f hHeld.1, kc f hHeld.2.1, kc f hHeld.2.2.1, kc f hHeld.2.2.2.1, kc f hHeld.2.2.2.2.1, kc f hHeld.2.2.2.2.2.1, kc f hHeld.2.2.2.2.2.2.1, kc f hHeld.2.2.2.2.2.2.2.1, kc f hHeld.2.2.2.2.2.2.2.2.1, kc f hHeld.2.2.2.2.2.2.2.2.2.1, kc f hHeld.2.2.2.2.2.2.2.2.2.2.1, kc f hHeld.2.2.2.2.2.2.2.2.2.2.2.1, kc f hHeld.2.2.2.2.2.2.2.2.2.2.2.2.1, kc f hHeld.2.2.2.2.2.2.2.2.2.2.2.2.2.1, kc f hHeld.2.2.2.2.2.2.2.2.2.2.2.2.2.2.1, FW⟩ | (go_split_ands; exact ⟨kc f (by assumption), kc f (by assumption), kc f (by assumption), kc f (by assumption), kc f (by assumption), kc f (by assumption), kc f (by assumption), kc f (by assumption), kc f (by assumption), kc f (by assumption), kc f (by assumption), kc f (by assumption), kc f (by assumption), kc f (by assumption), kc f (by assumption), by assumption⟩) | (go_split_ands; exact ⟨(by assumption), (by assumption), (by assumption), (by assumption), (by assumption), (by assumption), (by assumption), (by assumption), (by assumption), (by assumption), (by assumption), (by assumption), (by assumption), (by assumption), (by assumption), by assumption⟩) | (go_split_ands; exact ⟨kc (fr1 _ _) (by assumption), kc (fr1 _ _) (by assumption), kc (fr1 _ _) (by assumption), kc (fr1 _ _) (by assumption), kc (fr1 _ _) (by assumption), kc (fr1 _ _) (by assumption), kc (fr1 _ _) (by assumption), kc (fr1 _ _) (by assumption), kc (fr1 _ _) (by assumption), kc (fr1 _ _) (by assumption), kc (fr1 _ _) (by assumption), kc (fr1 _ _) (by assumption), kc (fr1 _ _) (by assumption), kc (fr1 _ _) (by assumption), kc (fr1 _ _) (by assumption), kfa (by assumption)⟩))
  clear hK K
  try simp only [Act.put, List.getElem_toArray, List.getElem_cons_succ, List.getElem_cons_zero, List.setIfInBounds_toArray, List.set_cons_zero, List.set_cons_succ]
  refine wpAnyH_take (i := 36) (v := (.bool true)) rfl (by kernel_rfl) (by kernel_rfl) (by kernel_rfl) (fun _ _ _ h => h) (Or.inl ⟨by kernel_rfl, fun w hSw => by first | (go_simp; done) | (go_simp; with_reducible rfl) | (go_simp; omega)⟩) (by assumption) ?_
  try simp only [Act.put, List.getElem_toArray, List.getElem_cons_succ, List.getElem_cons_zero, List.setIfInBounds_toArray, List.set_cons_zero, List.set_cons_succ]
  refine wpAnyH_take (i := 37) (v := (.bool true)) rfl (by kernel_rfl) (by kernel_rfl) (by kernel_rfl) (fun _ _ _ h => h) (Or.inl ⟨by kernel_rfl, fun w hSw => by first | (go_simp; done) | (go_simp; with_reducible rfl) | (go_simp; omega)⟩) (by assumption) ?_
  try simp only [Act.put, List.getElem_toArray, List.getElem_cons_succ, List.getElem_cons_zero, List.setIfInBounds_toArray, List.set_cons_zero, List.set_cons_succ]
  refine wpAnyH_take (i := 38) (v := ?v20) rfl (by kernel_rfl) (by kernel_rfl) (by kernel_rfl) (fun _ _ _ h => h) (Or.inl ⟨by kernel_rfl, ?y20⟩) (by assumption) ?_
  case y20 => (intro w hSw; (try dsimp only at hSw); go_simp; all_goals with_reducible rfl)
  try simp only [Act.put, List.getElem_toArray, List.getElem_cons_succ, List.getElem_cons_zero, List.setIfInBounds_toArray, List.set_cons_zero, List.set_cons_succ]
  refine wpAnyH_done (by kernel_rfl) ?_ _
  refine NoPanic.normal ?_
  go_wp2_with fail
  go_ret
  exact ⟨rfl, HF.out.trans FW.out⟩
theorem row (gc gs gn gl gk : Int) (ch : Int) (st z : Int) (A : Option Addr) (l c : Nat) (sp nx : Int) (bs : List Int) (band : Int) (w : World) (hs : -9223372036854775808 ≤ gs ∧ gs ≤ 9223372036854775807) (hz : inI z) (hp : inI sp) (hi : InI w A l c bs) :
    Calls Try.prog 12 #[.agg #[.int .i64 gc, .int .i64 gs, .int .i64 gn, .int .i64 gl, .int .i64 gk], .int .i64 ch, .agg #[.int .i64 st, .int .i64 z, .slice A l c, .int .i64 sp, .int .i64 nx], .int .i64 band] w fun r w' => r = .returned (.bool true) ∧ Fr No w w' := by
  by_cases hl : l ≤ 100
  case neg => exact touch_big gc gs gn gl gk ch st z A l c sp nx bs band w hs hi hz hp hl
  cases hj : mayB ⟨gc, gs, gn, gl, gk⟩ ⟨st, z, bs, sp, nx⟩
  · exact touch_bad gc gs gn gl gk ch st z A l c sp nx bs band w hs hi hz hp hl hj
  cases hc : chB ch
  · exact touch_chunk gc gs gn gl gk ch st z A l c sp nx bs band w hs hi hz hp hl hj hc
  have hm : mayG ⟨gc, gs, gn, gl, gk⟩ := by
    have h := hj
    simp only [mayB, Bool.and_eq_true, decide_eq_true_eq] at h
    exact h.1
  by_cases hb : 0 ≤ band
  case neg => exact touch_low gc gs gn gl gk ch st z A l c sp nx bs band w hs hi hz hp hl hm hj hc (by omega)
  by_cases hb2 : band < (lay ⟨gc, gs, gn, gl, gk⟩).b
  case neg => exact touch_high gc gs gn gl gk ch st z A l c sp nx bs band w hs hi hz hp hl hm hj hc hb (by omega)
  have hsp := may_sp hj
  dsimp only at hsp
  by_cases h5 : sp = 255
  · exact touch_none gc gs gn gl gk ch st z A l c sp nx bs band w hs hi hz hp hl hm hj hc ⟨hb, hb2⟩ h5 (fun q => hsp.2 q.1 h5)
  have hst := hsp.1 h5
  have hne := (ok_of_may hj).2.1 (by dsimp only; omega)
  dsimp only at hne
  obtain ⟨g, o, hA, _⟩ := hi.head hne
  subst hA
  by_cases hx : bs.headD 0 = band
  · exact touch_anew gc gs gn gl gk ch st z g o l c sp nx bs band w hs hi hz hp hl hm hj hc ⟨hb, hb2⟩ hst hne h5 hx
  · exact touch_other gc gs gn gl gk ch st z g o l c sp nx bs band w hs hi hz hp hl hm hj hc ⟨hb, hb2⟩ h5 hne hx (fun q => hx q.2.symm)
end Go.Proofs.Ytgjcpepfggkieaa.ClX
