/- Contract: what becomes of a job as what it wanted was done, by the document. Condition: lists that read as lists; numbers of 64 bits; the job may be. -/
import Derived.Test.YtgjcpepfggkieaaClQ
namespace Go.Proofs.Ytgjcpepfggkieaa.ClSb
open Go.RowKit MSep MGeM GeA GeC GeD GeE GeEk PlA PlB ClM ClA ClE ClB ClC ClD ClF ClG ClH ClI ClJ ClK ClL ClQ

set_option maxRecDepth 100000 in
set_option maxHeartbeats 2000000 in
theorem ra_1 (gc gs gn gl gk : Int) (b d ch : Int) (z : Int) (A : Option Addr) (l c : Nat) (sp nx : Int) (bs : List Int) (dz db : Int) (B : Option Addr) (m e : Nat) (ys : List Int) (w : World) (hs : -9223372036854775808 ≤ gs ∧ gs ≤ 9223372036854775807) (hm : mayG ⟨gc, gs, gn, gl, gk⟩) (hlb : (lay ⟨gc, gs, gn, gl, gk⟩).b = b ∧ (lay ⟨gc, gs, gn, gl, gk⟩).d = d) (hi : InI w A l c bs) (hy : InI w B m e ys) (ho : okJ (lay ⟨gc, gs, gn, gl, gk⟩).d ⟨1, z, bs, sp, nx⟩) (hc : 1 ≤ ch ∧ ch ≤ 1000000) :
    Calls Try.prog 40 #[.agg #[.int .i64 gc, .int .i64 gs, .int .i64 gn, .int .i64 gl, .int .i64 gk], .int .i64 ch, .agg #[.int .i64 1, .int .i64 z, .slice A l c, .int .i64 sp, .int .i64 nx], .agg #[.int .i64 2, .int .i64 dz, .int .i64 db, .slice B m e]] w fun r w' => RetB w (if mayB ⟨gc, gs, gn, gl, gk⟩ (turnJ (lay ⟨gc, gs, gn, gl, gk⟩).d ch 2 ⟨1, z, bs, sp, nx⟩ ⟨2, dz, db, ys⟩) then (turnJ (lay ⟨gc, gs, gn, gl, gk⟩).d ch 2 ⟨1, z, bs, sp, nx⟩ ⟨2, dz, db, ys⟩, 0) else (zero, 1)) r w' := by
  have P0 := hid (show BG ((((w.alloc (bg gc gs gn gl gk)).alloc (oJ 1 z A l c sp nx)).alloc (oD 2 dz db B m e)).alloc (oJ 0 0 none 0 0 0 0)) w.heap.size gc gs gn gl gk from (BG3 w gc gs gn gl gk (oJ 1 z A l c sp nx) (oD 2 dz db B m e) : Blk _ _ _ _).alloc _)
  have P1 := hid (((BJ.at_ (w := w.alloc (bg gc gs gn gl gk)) (g := w.heap.size + 1) 1 z A l c sp nx (by simp)).up (oD 2 dz db B m e)).up (oJ 0 0 none 0 0 0 0))
  have P2 := hid ((BD.at_ (w := (w.alloc (bg gc gs gn gl gk)).alloc (oJ 1 z A l c sp nx)) (g := w.heap.size + 1 + 1) 2 dz db B m e (by simp)).up (oJ 0 0 none 0 0 0 0))
  have P3 := hid (BJ.at_ (w := ((w.alloc (bg gc gs gn gl gk)).alloc (oJ 1 z A l c sp nx)).alloc (oD 2 dz db B m e)) (g := w.heap.size + 1 + 1 + 1) 0 0 none 0 0 0 0 (by simp))
  have HF := hid ((((fr1 w (bg gc gs gn gl gk)).alloc (oJ 1 z A l c sp nx)).alloc (oD 2 dz db B m e)).alloc (oJ 0 0 none 0 0 0 0))
  have HIW := hid hi
  have HYW := hid hy
  have HI := hid (hi.fr HF.out)
  have HL := hid (fun W => rlayout_ok gc gs gn gl gk W hs)
  rw [rlo_yes hm] at HL
  have hgd := good hm.1
  have HWA := hid (fun W (h : InI W A l c bs) => rwants_ok gc gs gn gl gk ch 1 z A l c sp nx bs W hs hm h ho ⟨by omega, by omega⟩)
  obtain ⟨y, hy0⟩ : ∃ y, lay ⟨gc, gs, gn, gl, gk⟩ = y := ⟨_, rfl⟩
  rw [hy0] at HL HWA hlb hgd
  obtain ⟨ya, yr, yq, yb, yd, yt, yx, yu⟩ := y
  obtain ⟨hb1, hb2⟩ := hlb
  dsimp only at HL HWA hb1 hb2
  subst hb1 hb2
  obtain ⟨q, hq⟩ : ∃ q, wantJ yd ch ⟨1, z, bs, sp, nx⟩ = q := ⟨_, rfl⟩
  rw [hq] at HWA
  obtain ⟨q1, q2, q3, q4, q5⟩ := q
  dsimp only [tv] at HWA
  have HQ := hid hq
  have hd1 := hgd.d1
  have hd2 := hgd.d2
  dsimp only at hd1 hd2
  rw [hy0]
  dsimp only
  obtain ⟨tj, htj⟩ : ∃ j, turnJ yd ch 2 ⟨1, z, bs, sp, nx⟩ ⟨2, dz, db, ys⟩ = j := ⟨_, rfl⟩
  rw [htj]
  have HTJ := hid (show tj = ⟨3, z, bs, dz, nx⟩ by rw [← htj]; simp [turnJ])
  obtain ⟨mb, hmb⟩ : ∃ b, mayB ⟨gc, gs, gn, gl, gk⟩ tj = b := ⟨_, rfl⟩
  rw [hmb]
  have HM := hid (fun st' z' (B' : Option Addr) (m' d' : Nat) sp' nx' W (h3 : InI W B' m' d' tj.bs) => rmay_ok gc gs gn gl gk st' z' B' m' d' sp' nx' tj.bs W hs h3)
  have HMB := hid hmb
  obtain rfl : 2 = q1 := (congrArg Prod.fst ((w_band _ _ _ _ _ _).symm.trans hq))
  clear htj hmb hq HQ hy0
  clear hi hy ho hm hgd
  go_enter Try.func40, Try.ntmps40
  go_wp2_with ((with_reducible refine ld_geom rfl (.tmp 4) rfl w.heap.size ?_ P0.out ?_); · rfl)
  refine (HL.out _).mono ?_
  rintro r w1 ⟨rfl, f1⟩
  have HF := hid ((HF.out.trans f1).alloc (by_ ya yr yq yb yd yt yx yu))
  have P0 := hid (show BG (w1.alloc (by_ ya yr yq yb yd yt yx yu)) w.heap.size gc gs gn gl gk from (Blk.fr P0.out f1 (fun h => h)).alloc _)
  have P1 := hid ((P1.out.fr f1).up (by_ ya yr yq yb yd yt yx yu))
  have P2 := hid ((P2.out.fr f1).up (by_ ya yr yq yb yd yt yx yu))
  have P3 := hid ((P3.out.fr f1).up (by_ ya yr yq yb yd yt yx yu))
  have P4 := hid (BL.new w1 ya yr yq yb yd yt yx yu)
  have HI := hid (HI.out.fr (f1.alloc (by_ ya yr yq yb yd yt yx yu)))
  obtain ⟨yl, hyl⟩ : ∃ x, w1.heap.size = x := ⟨_, rfl⟩
  have hyl2 : w.heap.size + 1 + 1 + 1 < yl := by have := HF.out.size; have h := (P3.out : Blk _ _ _ _).lt; have h2 := f1.size; simp at this h h2; omega
  clear f1 HL
  go_wp2_with (first | ((with_reducible refine ld_geom rfl (.tmp 4) rfl w.heap.size ?_ P0.out ?_); · rfl) | ((with_reducible refine ldJ rfl (.tmp 6) rfl (w.heap.size + 1) ?_ P1.out ?_); · rfl))
  refine (HWA.out _ HI.out).mono ?_
  rintro r w2 ⟨rfl, f2⟩
  have HF := hid ((HF.out.trans f2).alloc (oT 2 q2 q3 q4 q5))
  have P0 := hid (show BG (w2.alloc (oT 2 q2 q3 q4 q5)) w.heap.size gc gs gn gl gk from (Blk.fr P0.out f2 (fun h => h)).alloc _)
  have P1 := hid ((P1.out.fr f2).up (oT 2 q2 q3 q4 q5))
  have P2 := hid ((P2.out.fr f2).up (oT 2 q2 q3 q4 q5))
  have P3 := hid ((P3.out.fr f2).up (oT 2 q2 q3 q4 q5))
  have P4 := hid (show BL (w2.alloc (oT 2 q2 q3 q4 q5)) w1.heap.size ya yr yq yb yd yt yx yu from (Blk.fr P4.out f2 (fun h => h)).alloc _)
  have P5 := hid (BT.at_ (w := w2) 2 q2 q3 q4 q5 rfl)
  have HI := hid (HI.out.fr (f2.alloc (oT 2 q2 q3 q4 q5)))
  rw [hyl] at P4
  have hlt2 : w.heap.size + 1 + 1 + 1 < w2.heap.size := by have := f2.size; simp at this; omega
  clear f2 HWA
  obtain ⟨w3, hw3⟩ : ∃ x, w2.alloc (oT 2 q2 q3 q4 q5) = x := ⟨_, rfl⟩
  rw [hw3] at HF P0 P1 P2 P3 P4 P5 HI
  go_upto_region 3 with fail
  try rw [hw3]
  try rw [hyl]
  obtain ⟨tb, htb⟩ : ∃ x, w2.heap.size = x := ⟨_, rfl⟩
  rw [htb] at P5 hlt2
  try rw [htb]
  clear hw3 hyl htb
  obtain ⟨c0, c1, c2, c3, c4⟩ := P1.out.cells
  obtain ⟨d0, d1, d2, d3⟩ := P2.out.cells
  obtain ⟨y0, y1, y2, y3, y4, y5, y6, y7⟩ := P4.out.cells
  obtain ⟨t0, t1, t2, t3, t4⟩ := P5.out.cells
  clear y0 y1 y2 y5 y6 y7 t1 t2 t3
  go_upto_region 15 with ((with_reducible refine ldJ rfl (.tmp 6) rfl (w.heap.size + 1) ?_ P1.out ?_); · rfl)
  have qc1 := fun o => kc (fr1 w3 o) c1
  have qc2 := fun o => kc (fr1 w3 o) c2
  have qc4 := fun o => kc (fr1 w3 o) c4
  have qd1 := fun o => kc (fr1 w3 o) d1
  have qd3 := fun o => kc (fr1 w3 o) d3
  have qy4 := fun o => kc (fr1 w3 o) y4
  have qt0 := fun o => kc (fr1 w3 o) t0
  have qt4 := fun o => kc (fr1 w3 o) t4
  clear c0 c1 c2 c3 c4 y3 y4 t4 d0 d1 d2 d3 t0
  go_upto_region 19 with fail
  go_region
  all_goals go_upto_region 30 with fail
  have HJ := hid (show tj = ⟨3, z, tj.bs, dz, nx⟩ by rw [HTJ.out])
  have HIL := hid (show InI w A l c tj.bs by rw [HTJ.out]; exact HIW.out)
  have PT := hid (show BJ (World.drew (w3.alloc (oJ 3 (z) (A) (l) (c) (dz) (nx)))) w3.heap.size 3 (z) (A) (l) (c) (dz) (nx) from BJ.at_ (w := w3) 3 (z) (A) (l) (c) (dz) (nx) rfl)
  have P0 := hid (show BG (World.drew (w3.alloc (oJ 3 (z) (A) (l) (c) (dz) (nx)))) w.heap.size gc gs gn gl gk from (P0.out : Blk _ _ _ _).alloc _)
  have P3 := hid (show BJ (World.drew (w3.alloc (oJ 3 (z) (A) (l) (c) (dz) (nx)))) (w.heap.size + 1 + 1 + 1) 0 0 none 0 0 0 0 from P3.out.up (oJ 3 (z) (A) (l) (c) (dz) (nx)))
  have HF := hid (show Fr No w (World.drew (w3.alloc (oJ 3 (z) (A) (l) (c) (dz) (nx)))) from (HF.out.alloc _).drew)
  have HIN := hid (HIL.out.fr HF.out)
  go_wp2_with (first | ((with_reducible refine ld_geom rfl (.tmp 4) rfl w.heap.size ?_ P0.out ?_); · rfl) | ((with_reducible refine ldJ rfl (.tmp 13) rfl (w3.heap.size) ?_ PT.out ?_); · rfl))
  refine (HM.out (3) (z) (A) (l) (c) (dz) (nx) _ HIN.out).mono ?_
  rintro r w6 ⟨rfl, f6⟩
  rw [show mayB ⟨gc, gs, gn, gl, gk⟩ ⟨3, z, tj.bs, dz, nx⟩ = mb by rw [← HMB.out, HJ.out]] at *
  have HF := kf f6 HF
  have P3 := hid (P3.out.fr f6)
  have PT := hid (PT.out.fr f6)
  clear f6 HM
  cases mb
  · go_wp2_with (((with_reducible refine stJ rfl (.tmp 8) (.tmp 113) rfl (w.heap.size + 1 + 1 + 1) ?_ (st' := 0) (z' := 0) (A' := none) (l' := 0) (c' := 0) (sp' := 0) (nx' := 0) ?_ P3.out ?_); (· rfl); (· rfl); intro W' hb hf; have HB := hid hb; have HF := kfg (by omega) HF hf; clear hb hf))
    exact bodyPost_ret (v := .tuple #[.agg #[.int .i64 0, .int .i64 0, .slice none 0 0, .int .i64 0, .int .i64 0], .int .i64 1]) (resJ2 rfl _ _ (w.heap.size + 1 + 1 + 1) 0 0 none 0 0 0 0 1 rfl rfl HB.out) rfl (RetB.mk (p := (zero, 1)) rfl (InI.nil w) HF.out)
  · go_wp2_with (first | ((with_reducible refine ldJ rfl (.tmp 13) rfl (w3.heap.size) ?_ PT.out ?_); · rfl) | ((with_reducible refine stJ rfl (.tmp 8) (.tmp 114) rfl (w.heap.size + 1 + 1 + 1) ?_ (st' := 3) (z' := z) (A' := A) (l' := l) (c' := c) (sp' := dz) (nx' := nx) ?_ P3.out ?_); (· rfl); (· rfl); intro W' hb hf; have HB := hid hb; have HF := kfg (by omega) HF hf; clear hb hf))
    exact bodyPost_ret (v := .tuple #[.agg #[.int .i64 3, .int .i64 z, .slice A l c, .int .i64 dz, .int .i64 nx], .int .i64 0]) (resJ2 rfl _ _ (w.heap.size + 1 + 1 + 1) (3) (z) (A) (l) (c) (dz) (nx) 0 rfl rfl HB.out) rfl (RetB.mk (p := (tj, 0)) (by show (tj, (0 : Int)) = (⟨3, z, tj.bs, dz, nx⟩, 0); rw [← HJ.out]) HIL.out HF.out)
set_option maxRecDepth 100000 in
set_option maxHeartbeats 2000000 in
theorem ra_2 (gc gs gn gl gk : Int) (b d ch : Int) (z : Int) (A : Option Addr) (l c : Nat) (sp nx : Int) (bs : List Int) (dz db : Int) (B : Option Addr) (m e : Nat) (ys : List Int) (w : World) (hs : -9223372036854775808 ≤ gs ∧ gs ≤ 9223372036854775807) (hm : mayG ⟨gc, gs, gn, gl, gk⟩) (hlb : (lay ⟨gc, gs, gn, gl, gk⟩).b = b ∧ (lay ⟨gc, gs, gn, gl, gk⟩).d = d) (hi : InI w A l c bs) (hy : InI w B m e ys) (ho : okJ (lay ⟨gc, gs, gn, gl, gk⟩).d ⟨2, z, bs, sp, nx⟩) (hc : 1 ≤ ch ∧ ch ≤ 1000000) :
    Calls Try.prog 40 #[.agg #[.int .i64 gc, .int .i64 gs, .int .i64 gn, .int .i64 gl, .int .i64 gk], .int .i64 ch, .agg #[.int .i64 2, .int .i64 z, .slice A l c, .int .i64 sp, .int .i64 nx], .agg #[.int .i64 3, .int .i64 dz, .int .i64 db, .slice B m e]] w fun r w' => RetB w (if mayB ⟨gc, gs, gn, gl, gk⟩ (turnJ (lay ⟨gc, gs, gn, gl, gk⟩).d ch 3 ⟨2, z, bs, sp, nx⟩ ⟨3, dz, db, ys⟩) then (turnJ (lay ⟨gc, gs, gn, gl, gk⟩).d ch 3 ⟨2, z, bs, sp, nx⟩ ⟨3, dz, db, ys⟩, 0) else (zero, 1)) r w' := by
  have P0 := hid (show BG ((((w.alloc (bg gc gs gn gl gk)).alloc (oJ 2 z A l c sp nx)).alloc (oD 3 dz db B m e)).alloc (oJ 0 0 none 0 0 0 0)) w.heap.size gc gs gn gl gk from (BG3 w gc gs gn gl gk (oJ 2 z A l c sp nx) (oD 3 dz db B m e) : Blk _ _ _ _).alloc _)
  have P1 := hid (((BJ.at_ (w := w.alloc (bg gc gs gn gl gk)) (g := w.heap.size + 1) 2 z A l c sp nx (by simp)).up (oD 3 dz db B m e)).up (oJ 0 0 none 0 0 0 0))
  have P2 := hid ((BD.at_ (w := (w.alloc (bg gc gs gn gl gk)).alloc (oJ 2 z A l c sp nx)) (g := w.heap.size + 1 + 1) 3 dz db B m e (by simp)).up (oJ 0 0 none 0 0 0 0))
  have P3 := hid (BJ.at_ (w := ((w.alloc (bg gc gs gn gl gk)).alloc (oJ 2 z A l c sp nx)).alloc (oD 3 dz db B m e)) (g := w.heap.size + 1 + 1 + 1) 0 0 none 0 0 0 0 (by simp))
  have HF := hid ((((fr1 w (bg gc gs gn gl gk)).alloc (oJ 2 z A l c sp nx)).alloc (oD 3 dz db B m e)).alloc (oJ 0 0 none 0 0 0 0))
  have HIW := hid hi
  have HYW := hid hy
  have HI := hid (hi.fr HF.out)
  have HL := hid (fun W => rlayout_ok gc gs gn gl gk W hs)
  rw [rlo_yes hm] at HL
  have hgd := good hm.1
  have HWA := hid (fun W (h : InI W A l c bs) => rwants_ok gc gs gn gl gk ch 2 z A l c sp nx bs W hs hm h ho ⟨by omega, by omega⟩)
  obtain ⟨y, hy0⟩ : ∃ y, lay ⟨gc, gs, gn, gl, gk⟩ = y := ⟨_, rfl⟩
  rw [hy0] at HL HWA hlb hgd
  obtain ⟨ya, yr, yq, yb, yd, yt, yx, yu⟩ := y
  obtain ⟨hb1, hb2⟩ := hlb
  dsimp only at HL HWA hb1 hb2
  subst hb1 hb2
  obtain ⟨q, hq⟩ : ∃ q, wantJ yd ch ⟨2, z, bs, sp, nx⟩ = q := ⟨_, rfl⟩
  rw [hq] at HWA
  obtain ⟨q1, q2, q3, q4, q5⟩ := q
  dsimp only [tv] at HWA
  have HQ := hid hq
  have hd1 := hgd.d1
  have hd2 := hgd.d2
  dsimp only at hd1 hd2
  rw [hy0]
  dsimp only
  obtain ⟨tj, htj⟩ : ∃ j, turnJ yd ch 3 ⟨2, z, bs, sp, nx⟩ ⟨3, dz, db, ys⟩ = j := ⟨_, rfl⟩
  rw [htj]
  have HTJ := hid (show tj = ⟨if nx + min ch (yd - nx) = yd then 4 else 2, z, bs, sp, nx + min ch (yd - nx)⟩ by rw [← htj]; simp [turnJ, w_copy])
  obtain ⟨mb, hmb⟩ : ∃ b, mayB ⟨gc, gs, gn, gl, gk⟩ tj = b := ⟨_, rfl⟩
  rw [hmb]
  have HM := hid (fun st' z' (B' : Option Addr) (m' d' : Nat) sp' nx' W (h3 : InI W B' m' d' tj.bs) => rmay_ok gc gs gn gl gk st' z' B' m' d' sp' nx' tj.bs W hs h3)
  have HMB := hid hmb
  obtain rfl : 3 = q1 := (congrArg Prod.fst ((w_copy _ _ _ _ _ _).symm.trans hq))
  have HQ5 := hid (show min ch (yd - nx) = q5 from (congrArg (fun (y : T5) => y.2.2.2.2) ((w_copy _ _ _ _ _ _).symm.trans hq)))
  have HNX := hid (show 0 ≤ nx ∧ nx < yd by have h := ho.2.2.2 rfl; rw [hy0] at h; exact h)
  have hc1 := hc.1
  have hc2 := hc.2
  clear htj hmb hq HQ hy0
  clear hi hy ho hm hgd
  have HQ5L := HQ5
  obtain ⟨hn3, hn4⟩ := HNX.out
  have hq1 : 1 ≤ q5 := by have := HQ5.out; omega
  have hq2 : q5 ≤ yd - nx := by have := HQ5.out; omega
  by_cases heq : nx + q5 = yd
  · have he : (nx + q5 == yd) = true := by simpa using heq
    have HEQ := hid heq
    clear heq
    go_enter Try.func40, Try.ntmps40
    go_wp2_with ((with_reducible refine ld_geom rfl (.tmp 4) rfl w.heap.size ?_ P0.out ?_); · rfl)
    refine (HL.out _).mono ?_
    rintro r w1 ⟨rfl, f1⟩
    have HF := hid ((HF.out.trans f1).alloc (by_ ya yr yq yb yd yt yx yu))
    have P0 := hid (show BG (w1.alloc (by_ ya yr yq yb yd yt yx yu)) w.heap.size gc gs gn gl gk from (Blk.fr P0.out f1 (fun h => h)).alloc _)
    have P1 := hid ((P1.out.fr f1).up (by_ ya yr yq yb yd yt yx yu))
    have P2 := hid ((P2.out.fr f1).up (by_ ya yr yq yb yd yt yx yu))
    have P3 := hid ((P3.out.fr f1).up (by_ ya yr yq yb yd yt yx yu))
    have P4 := hid (BL.new w1 ya yr yq yb yd yt yx yu)
    have HI := hid (HI.out.fr (f1.alloc (by_ ya yr yq yb yd yt yx yu)))
    obtain ⟨yl, hyl⟩ : ∃ x, w1.heap.size = x := ⟨_, rfl⟩
    have hyl2 : w.heap.size + 1 + 1 + 1 < yl := by have := HF.out.size; have h := (P3.out : Blk _ _ _ _).lt; have h2 := f1.size; simp at this h h2; omega
    clear f1 HL
    go_wp2_with (first | ((with_reducible refine ld_geom rfl (.tmp 4) rfl w.heap.size ?_ P0.out ?_); · rfl) | ((with_reducible refine ldJ rfl (.tmp 6) rfl (w.heap.size + 1) ?_ P1.out ?_); · rfl))
    refine (HWA.out _ HI.out).mono ?_
    rintro r w2 ⟨rfl, f2⟩
    have HF := hid ((HF.out.trans f2).alloc (oT 3 q2 q3 q4 q5))
    have P0 := hid (show BG (w2.alloc (oT 3 q2 q3 q4 q5)) w.heap.size gc gs gn gl gk from (Blk.fr P0.out f2 (fun h => h)).alloc _)
    have P1 := hid ((P1.out.fr f2).up (oT 3 q2 q3 q4 q5))
    have P2 := hid ((P2.out.fr f2).up (oT 3 q2 q3 q4 q5))
    have P3 := hid ((P3.out.fr f2).up (oT 3 q2 q3 q4 q5))
    have P4 := hid (show BL (w2.alloc (oT 3 q2 q3 q4 q5)) w1.heap.size ya yr yq yb yd yt yx yu from (Blk.fr P4.out f2 (fun h => h)).alloc _)
    have P5 := hid (BT.at_ (w := w2) 3 q2 q3 q4 q5 rfl)
    have HI := hid (HI.out.fr (f2.alloc (oT 3 q2 q3 q4 q5)))
    rw [hyl] at P4
    have hlt2 : w.heap.size + 1 + 1 + 1 < w2.heap.size := by have := f2.size; simp at this; omega
    clear f2 HWA
    obtain ⟨w3, hw3⟩ : ∃ x, w2.alloc (oT 3 q2 q3 q4 q5) = x := ⟨_, rfl⟩
    rw [hw3] at HF P0 P1 P2 P3 P4 P5 HI
    go_upto_region 3 with fail
    try rw [hw3]
    try rw [hyl]
    obtain ⟨tb, htb⟩ : ∃ x, w2.heap.size = x := ⟨_, rfl⟩
    rw [htb] at P5 hlt2
    try rw [htb]
    clear hw3 hyl htb
    obtain ⟨c0, c1, c2, c3, c4⟩ := P1.out.cells
    obtain ⟨d0, d1, d2, d3⟩ := P2.out.cells
    obtain ⟨y0, y1, y2, y3, y4, y5, y6, y7⟩ := P4.out.cells
    obtain ⟨t0, t1, t2, t3, t4⟩ := P5.out.cells
    clear y0 y1 y2 y5 y6 y7 t1 t2 t3
    go_upto_region 15 with ((with_reducible refine ldJ rfl (.tmp 6) rfl (w.heap.size + 1) ?_ P1.out ?_); · rfl)
    have qc1 := fun o => kc (fr1 w3 o) c1
    have qc2 := fun o => kc (fr1 w3 o) c2
    have qc4 := fun o => kc (fr1 w3 o) c4
    have qd1 := fun o => kc (fr1 w3 o) d1
    have qd3 := fun o => kc (fr1 w3 o) d3
    have qy4 := fun o => kc (fr1 w3 o) y4
    have qt0 := fun o => kc (fr1 w3 o) t0
    have qt4 := fun o => kc (fr1 w3 o) t4
    clear c0 c1 c2 c3 c4 d0 d1 d2 d3 y3 y4 t0 t4
    go_upto_region 30 with fail
    have HJ := hid (show tj = ⟨4, z, tj.bs, sp, nx + q5⟩ by rw [HTJ.out]; rw [HQ5.out, if_pos HEQ.out])
    have HIL := hid (show InI w A l c tj.bs by rw [HTJ.out]; exact HIW.out)
    have PT := hid (show BJ (w3.alloc (oJ 4 (z) (A) (l) (c) (sp) (nx + q5))) w3.heap.size 4 (z) (A) (l) (c) (sp) (nx + q5) from BJ.at_ (w := w3) 4 (z) (A) (l) (c) (sp) (nx + q5) rfl)
    have P0 := hid (show BG (w3.alloc (oJ 4 (z) (A) (l) (c) (sp) (nx + q5))) w.heap.size gc gs gn gl gk from (P0.out : Blk _ _ _ _).alloc _)
    have P3 := hid (show BJ (w3.alloc (oJ 4 (z) (A) (l) (c) (sp) (nx + q5))) (w.heap.size + 1 + 1 + 1) 0 0 none 0 0 0 0 from P3.out.up (oJ 4 (z) (A) (l) (c) (sp) (nx + q5)))
    have HF := hid (show Fr No w (w3.alloc (oJ 4 (z) (A) (l) (c) (sp) (nx + q5))) from HF.out.alloc _)
    have HIN := hid (HIL.out.fr HF.out)
    go_wp2_with (first | ((with_reducible refine ld_geom rfl (.tmp 4) rfl w.heap.size ?_ P0.out ?_); · rfl) | ((with_reducible refine ldJ rfl (.tmp 13) rfl (w3.heap.size) ?_ PT.out ?_); · rfl))
    refine (HM.out (4) (z) (A) (l) (c) (sp) ((nx + q5)) _ HIN.out).mono ?_
    rintro r w6 ⟨rfl, f6⟩
    rw [show mayB ⟨gc, gs, gn, gl, gk⟩ ⟨4, z, tj.bs, sp, (nx + q5)⟩ = mb by rw [← HMB.out, HJ.out]] at *
    have HF := kf f6 HF
    have P3 := hid (P3.out.fr f6)
    have PT := hid (PT.out.fr f6)
    clear f6 HM
    cases mb
    · go_wp2_with (((with_reducible refine stJ rfl (.tmp 8) (.tmp 113) rfl (w.heap.size + 1 + 1 + 1) ?_ (st' := 0) (z' := 0) (A' := none) (l' := 0) (c' := 0) (sp' := 0) (nx' := 0) ?_ P3.out ?_); (· rfl); (· rfl); intro W' hb hf; have HB := hid hb; have HF := kfg (by omega) HF hf; clear hb hf))
      exact bodyPost_ret (v := .tuple #[.agg #[.int .i64 0, .int .i64 0, .slice none 0 0, .int .i64 0, .int .i64 0], .int .i64 1]) (resJ2 rfl _ _ (w.heap.size + 1 + 1 + 1) 0 0 none 0 0 0 0 1 rfl rfl HB.out) rfl (RetB.mk (p := (zero, 1)) rfl (InI.nil w) HF.out)
    · go_wp2_with (first | ((with_reducible refine ldJ rfl (.tmp 13) rfl (w3.heap.size) ?_ PT.out ?_); · rfl) | ((with_reducible refine stJ rfl (.tmp 8) (.tmp 114) rfl (w.heap.size + 1 + 1 + 1) ?_ (st' := 4) (z' := z) (A' := A) (l' := l) (c' := c) (sp' := sp) (nx' := (nx + q5)) ?_ P3.out ?_); (· rfl); (· rfl); intro W' hb hf; have HB := hid hb; have HF := kfg (by omega) HF hf; clear hb hf))
      exact bodyPost_ret (v := .tuple #[.agg #[.int .i64 4, .int .i64 z, .slice A l c, .int .i64 sp, .int .i64 (nx + q5)], .int .i64 0]) (resJ2 rfl _ _ (w.heap.size + 1 + 1 + 1) (4) (z) (A) (l) (c) (sp) ((nx + q5)) 0 rfl rfl HB.out) rfl (RetB.mk (p := (tj, 0)) (by show (tj, (0 : Int)) = (⟨4, z, tj.bs, sp, (nx + q5)⟩, 0); rw [← HJ.out]) HIL.out HF.out)

  · have he : (nx + q5 == yd) = false := by simpa using heq
    have HEQ := hid heq
    clear heq
    go_enter Try.func40, Try.ntmps40
    go_wp2_with ((with_reducible refine ld_geom rfl (.tmp 4) rfl w.heap.size ?_ P0.out ?_); · rfl)
    refine (HL.out _).mono ?_
    rintro r w1 ⟨rfl, f1⟩
    have HF := hid ((HF.out.trans f1).alloc (by_ ya yr yq yb yd yt yx yu))
    have P0 := hid (show BG (w1.alloc (by_ ya yr yq yb yd yt yx yu)) w.heap.size gc gs gn gl gk from (Blk.fr P0.out f1 (fun h => h)).alloc _)
    have P1 := hid ((P1.out.fr f1).up (by_ ya yr yq yb yd yt yx yu))
    have P2 := hid ((P2.out.fr f1).up (by_ ya yr yq yb yd yt yx yu))
    have P3 := hid ((P3.out.fr f1).up (by_ ya yr yq yb yd yt yx yu))
    have P4 := hid (BL.new w1 ya yr yq yb yd yt yx yu)
    have HI := hid (HI.out.fr (f1.alloc (by_ ya yr yq yb yd yt yx yu)))
    obtain ⟨yl, hyl⟩ : ∃ x, w1.heap.size = x := ⟨_, rfl⟩
    have hyl2 : w.heap.size + 1 + 1 + 1 < yl := by have := HF.out.size; have h := (P3.out : Blk _ _ _ _).lt; have h2 := f1.size; simp at this h h2; omega
    clear f1 HL
    go_wp2_with (first | ((with_reducible refine ld_geom rfl (.tmp 4) rfl w.heap.size ?_ P0.out ?_); · rfl) | ((with_reducible refine ldJ rfl (.tmp 6) rfl (w.heap.size + 1) ?_ P1.out ?_); · rfl))
    refine (HWA.out _ HI.out).mono ?_
    rintro r w2 ⟨rfl, f2⟩
    have HF := hid ((HF.out.trans f2).alloc (oT 3 q2 q3 q4 q5))
    have P0 := hid (show BG (w2.alloc (oT 3 q2 q3 q4 q5)) w.heap.size gc gs gn gl gk from (Blk.fr P0.out f2 (fun h => h)).alloc _)
    have P1 := hid ((P1.out.fr f2).up (oT 3 q2 q3 q4 q5))
    have P2 := hid ((P2.out.fr f2).up (oT 3 q2 q3 q4 q5))
    have P3 := hid ((P3.out.fr f2).up (oT 3 q2 q3 q4 q5))
    have P4 := hid (show BL (w2.alloc (oT 3 q2 q3 q4 q5)) w1.heap.size ya yr yq yb yd yt yx yu from (Blk.fr P4.out f2 (fun h => h)).alloc _)
    have P5 := hid (BT.at_ (w := w2) 3 q2 q3 q4 q5 rfl)
    have HI := hid (HI.out.fr (f2.alloc (oT 3 q2 q3 q4 q5)))
    rw [hyl] at P4
    have hlt2 : w.heap.size + 1 + 1 + 1 < w2.heap.size := by have := f2.size; simp at this; omega
    clear f2 HWA
    obtain ⟨w3, hw3⟩ : ∃ x, w2.alloc (oT 3 q2 q3 q4 q5) = x := ⟨_, rfl⟩
    rw [hw3] at HF P0 P1 P2 P3 P4 P5 HI
    go_upto_region 3 with fail
    try rw [hw3]
    try rw [hyl]
    obtain ⟨tb, htb⟩ : ∃ x, w2.heap.size = x := ⟨_, rfl⟩
    rw [htb] at P5 hlt2
    try rw [htb]
    clear hw3 hyl htb
    obtain ⟨c0, c1, c2, c3, c4⟩ := P1.out.cells
    obtain ⟨d0, d1, d2, d3⟩ := P2.out.cells
    obtain ⟨y0, y1, y2, y3, y4, y5, y6, y7⟩ := P4.out.cells
    obtain ⟨t0, t1, t2, t3, t4⟩ := P5.out.cells
    clear y0 y1 y2 y5 y6 y7 t1 t2 t3
    go_upto_region 15 with ((with_reducible refine ldJ rfl (.tmp 6) rfl (w.heap.size + 1) ?_ P1.out ?_); · rfl)
    have qc1 := fun o => kc (fr1 w3 o) c1
    have qc2 := fun o => kc (fr1 w3 o) c2
    have qc4 := fun o => kc (fr1 w3 o) c4
    have qd1 := fun o => kc (fr1 w3 o) d1
    have qd3 := fun o => kc (fr1 w3 o) d3
    have qy4 := fun o => kc (fr1 w3 o) y4
    have qt0 := fun o => kc (fr1 w3 o) t0
    have qt4 := fun o => kc (fr1 w3 o) t4
    clear c0 c1 c2 c3 c4 d0 d1 d2 d3 y3 y4 t0 t4
    go_upto_region 30 with fail
    have HJ := hid (show tj = ⟨2, z, tj.bs, sp, nx + q5⟩ by rw [HTJ.out]; rw [HQ5.out, if_neg HEQ.out])
    have HIL := hid (show InI w A l c tj.bs by rw [HTJ.out]; exact HIW.out)
    have PT := hid (show BJ (w3.alloc (oJ 2 (z) (A) (l) (c) (sp) (nx + q5))) w3.heap.size 2 (z) (A) (l) (c) (sp) (nx + q5) from BJ.at_ (w := w3) 2 (z) (A) (l) (c) (sp) (nx + q5) rfl)
    have P0 := hid (show BG (w3.alloc (oJ 2 (z) (A) (l) (c) (sp) (nx + q5))) w.heap.size gc gs gn gl gk from (P0.out : Blk _ _ _ _).alloc _)
    have P3 := hid (show BJ (w3.alloc (oJ 2 (z) (A) (l) (c) (sp) (nx + q5))) (w.heap.size + 1 + 1 + 1) 0 0 none 0 0 0 0 from P3.out.up (oJ 2 (z) (A) (l) (c) (sp) (nx + q5)))
    have HF := hid (show Fr No w (w3.alloc (oJ 2 (z) (A) (l) (c) (sp) (nx + q5))) from HF.out.alloc _)
    have HIN := hid (HIL.out.fr HF.out)
    go_wp2_with (first | ((with_reducible refine ld_geom rfl (.tmp 4) rfl w.heap.size ?_ P0.out ?_); · rfl) | ((with_reducible refine ldJ rfl (.tmp 13) rfl (w3.heap.size) ?_ PT.out ?_); · rfl))
    refine (HM.out (2) (z) (A) (l) (c) (sp) ((nx + q5)) _ HIN.out).mono ?_
    rintro r w6 ⟨rfl, f6⟩
    rw [show mayB ⟨gc, gs, gn, gl, gk⟩ ⟨2, z, tj.bs, sp, (nx + q5)⟩ = mb by rw [← HMB.out, HJ.out]] at *
    have HF := kf f6 HF
    have P3 := hid (P3.out.fr f6)
    have PT := hid (PT.out.fr f6)
    clear f6 HM
    cases mb
    · go_wp2_with (((with_reducible refine stJ rfl (.tmp 8) (.tmp 113) rfl (w.heap.size + 1 + 1 + 1) ?_ (st' := 0) (z' := 0) (A' := none) (l' := 0) (c' := 0) (sp' := 0) (nx' := 0) ?_ P3.out ?_); (· rfl); (· rfl); intro W' hb hf; have HB := hid hb; have HF := kfg (by omega) HF hf; clear hb hf))
      exact bodyPost_ret (v := .tuple #[.agg #[.int .i64 0, .int .i64 0, .slice none 0 0, .int .i64 0, .int .i64 0], .int .i64 1]) (resJ2 rfl _ _ (w.heap.size + 1 + 1 + 1) 0 0 none 0 0 0 0 1 rfl rfl HB.out) rfl (RetB.mk (p := (zero, 1)) rfl (InI.nil w) HF.out)
    · go_wp2_with (first | ((with_reducible refine ldJ rfl (.tmp 13) rfl (w3.heap.size) ?_ PT.out ?_); · rfl) | ((with_reducible refine stJ rfl (.tmp 8) (.tmp 114) rfl (w.heap.size + 1 + 1 + 1) ?_ (st' := 2) (z' := z) (A' := A) (l' := l) (c' := c) (sp' := sp) (nx' := (nx + q5)) ?_ P3.out ?_); (· rfl); (· rfl); intro W' hb hf; have HB := hid hb; have HF := kfg (by omega) HF hf; clear hb hf))
      exact bodyPost_ret (v := .tuple #[.agg #[.int .i64 2, .int .i64 z, .slice A l c, .int .i64 sp, .int .i64 (nx + q5)], .int .i64 0]) (resJ2 rfl _ _ (w.heap.size + 1 + 1 + 1) (2) (z) (A) (l) (c) (sp) ((nx + q5)) 0 rfl rfl HB.out) rfl (RetB.mk (p := (tj, 0)) (by show (tj, (0 : Int)) = (⟨2, z, tj.bs, sp, (nx + q5)⟩, 0); rw [← HJ.out]) HIL.out HF.out)
set_option maxRecDepth 100000 in
set_option maxHeartbeats 2000000 in
theorem ra_3 (gc gs gn gl gk : Int) (b d ch : Int) (z : Int) (A : Option Addr) (l c : Nat) (sp nx : Int) (bs : List Int) (dz db : Int) (B : Option Addr) (m e : Nat) (ys : List Int) (w : World) (hs : -9223372036854775808 ≤ gs ∧ gs ≤ 9223372036854775807) (hm : mayG ⟨gc, gs, gn, gl, gk⟩) (hlb : (lay ⟨gc, gs, gn, gl, gk⟩).b = b ∧ (lay ⟨gc, gs, gn, gl, gk⟩).d = d) (hi : InI w A l c bs) (hy : InI w B m e ys) (ho : okJ (lay ⟨gc, gs, gn, gl, gk⟩).d ⟨3, z, bs, sp, nx⟩) (hc : 1 ≤ ch ∧ ch ≤ 1000000) :
    Calls Try.prog 40 #[.agg #[.int .i64 gc, .int .i64 gs, .int .i64 gn, .int .i64 gl, .int .i64 gk], .int .i64 ch, .agg #[.int .i64 3, .int .i64 z, .slice A l c, .int .i64 sp, .int .i64 nx], .agg #[.int .i64 4, .int .i64 dz, .int .i64 db, .slice B m e]] w fun r w' => RetB w (if mayB ⟨gc, gs, gn, gl, gk⟩ (turnJ (lay ⟨gc, gs, gn, gl, gk⟩).d ch 4 ⟨3, z, bs, sp, nx⟩ ⟨4, dz, db, ys⟩) then (turnJ (lay ⟨gc, gs, gn, gl, gk⟩).d ch 4 ⟨3, z, bs, sp, nx⟩ ⟨4, dz, db, ys⟩, 0) else (zero, 1)) r w' := by
  have P0 := hid (show BG ((((w.alloc (bg gc gs gn gl gk)).alloc (oJ 3 z A l c sp nx)).alloc (oD 4 dz db B m e)).alloc (oJ 0 0 none 0 0 0 0)) w.heap.size gc gs gn gl gk from (BG3 w gc gs gn gl gk (oJ 3 z A l c sp nx) (oD 4 dz db B m e) : Blk _ _ _ _).alloc _)
  have P1 := hid (((BJ.at_ (w := w.alloc (bg gc gs gn gl gk)) (g := w.heap.size + 1) 3 z A l c sp nx (by simp)).up (oD 4 dz db B m e)).up (oJ 0 0 none 0 0 0 0))
  have P2 := hid ((BD.at_ (w := (w.alloc (bg gc gs gn gl gk)).alloc (oJ 3 z A l c sp nx)) (g := w.heap.size + 1 + 1) 4 dz db B m e (by simp)).up (oJ 0 0 none 0 0 0 0))
  have P3 := hid (BJ.at_ (w := ((w.alloc (bg gc gs gn gl gk)).alloc (oJ 3 z A l c sp nx)).alloc (oD 4 dz db B m e)) (g := w.heap.size + 1 + 1 + 1) 0 0 none 0 0 0 0 (by simp))
  have HF := hid ((((fr1 w (bg gc gs gn gl gk)).alloc (oJ 3 z A l c sp nx)).alloc (oD 4 dz db B m e)).alloc (oJ 0 0 none 0 0 0 0))
  have HIW := hid hi
  have HYW := hid hy
  have HI := hid (hi.fr HF.out)
  have HL := hid (fun W => rlayout_ok gc gs gn gl gk W hs)
  rw [rlo_yes hm] at HL
  have hgd := good hm.1
  have HWA := hid (fun W (h : InI W A l c bs) => rwants_ok gc gs gn gl gk ch 3 z A l c sp nx bs W hs hm h ho ⟨by omega, by omega⟩)
  obtain ⟨y, hy0⟩ : ∃ y, lay ⟨gc, gs, gn, gl, gk⟩ = y := ⟨_, rfl⟩
  rw [hy0] at HL HWA hlb hgd
  obtain ⟨ya, yr, yq, yb, yd, yt, yx, yu⟩ := y
  obtain ⟨hb1, hb2⟩ := hlb
  dsimp only at HL HWA hb1 hb2
  subst hb1 hb2
  obtain ⟨q, hq⟩ : ∃ q, wantJ yd ch ⟨3, z, bs, sp, nx⟩ = q := ⟨_, rfl⟩
  rw [hq] at HWA
  obtain ⟨q1, q2, q3, q4, q5⟩ := q
  dsimp only [tv] at HWA
  have HQ := hid hq
  have hd1 := hgd.d1
  have hd2 := hgd.d2
  dsimp only at hd1 hd2
  rw [hy0]
  dsimp only
  obtain ⟨tj, htj⟩ : ∃ j, turnJ yd ch 4 ⟨3, z, bs, sp, nx⟩ ⟨4, dz, db, ys⟩ = j := ⟨_, rfl⟩
  rw [htj]
  have HTJ := hid (show tj = ⟨2, z, bs, sp, nx⟩ by rw [← htj]; simp [turnJ])
  obtain ⟨mb, hmb⟩ : ∃ b, mayB ⟨gc, gs, gn, gl, gk⟩ tj = b := ⟨_, rfl⟩
  rw [hmb]
  have HM := hid (fun st' z' (B' : Option Addr) (m' d' : Nat) sp' nx' W (h3 : InI W B' m' d' tj.bs) => rmay_ok gc gs gn gl gk st' z' B' m' d' sp' nx' tj.bs W hs h3)
  have HMB := hid hmb
  obtain rfl : 4 = q1 := (congrArg Prod.fst ((w_label _ _ _ _ _ _).symm.trans hq))
  clear htj hmb hq HQ hy0
  clear hi hy ho hm hgd
  go_enter Try.func40, Try.ntmps40
  go_wp2_with ((with_reducible refine ld_geom rfl (.tmp 4) rfl w.heap.size ?_ P0.out ?_); · rfl)
  refine (HL.out _).mono ?_
  rintro r w1 ⟨rfl, f1⟩
  have HF := hid ((HF.out.trans f1).alloc (by_ ya yr yq yb yd yt yx yu))
  have P0 := hid (show BG (w1.alloc (by_ ya yr yq yb yd yt yx yu)) w.heap.size gc gs gn gl gk from (Blk.fr P0.out f1 (fun h => h)).alloc _)
  have P1 := hid ((P1.out.fr f1).up (by_ ya yr yq yb yd yt yx yu))
  have P2 := hid ((P2.out.fr f1).up (by_ ya yr yq yb yd yt yx yu))
  have P3 := hid ((P3.out.fr f1).up (by_ ya yr yq yb yd yt yx yu))
  have P4 := hid (BL.new w1 ya yr yq yb yd yt yx yu)
  have HI := hid (HI.out.fr (f1.alloc (by_ ya yr yq yb yd yt yx yu)))
  obtain ⟨yl, hyl⟩ : ∃ x, w1.heap.size = x := ⟨_, rfl⟩
  have hyl2 : w.heap.size + 1 + 1 + 1 < yl := by have := HF.out.size; have h := (P3.out : Blk _ _ _ _).lt; have h2 := f1.size; simp at this h h2; omega
  clear f1 HL
  go_wp2_with (first | ((with_reducible refine ld_geom rfl (.tmp 4) rfl w.heap.size ?_ P0.out ?_); · rfl) | ((with_reducible refine ldJ rfl (.tmp 6) rfl (w.heap.size + 1) ?_ P1.out ?_); · rfl))
  refine (HWA.out _ HI.out).mono ?_
  rintro r w2 ⟨rfl, f2⟩
  have HF := hid ((HF.out.trans f2).alloc (oT 4 q2 q3 q4 q5))
  have P0 := hid (show BG (w2.alloc (oT 4 q2 q3 q4 q5)) w.heap.size gc gs gn gl gk from (Blk.fr P0.out f2 (fun h => h)).alloc _)
  have P1 := hid ((P1.out.fr f2).up (oT 4 q2 q3 q4 q5))
  have P2 := hid ((P2.out.fr f2).up (oT 4 q2 q3 q4 q5))
  have P3 := hid ((P3.out.fr f2).up (oT 4 q2 q3 q4 q5))
  have P4 := hid (show BL (w2.alloc (oT 4 q2 q3 q4 q5)) w1.heap.size ya yr yq yb yd yt yx yu from (Blk.fr P4.out f2 (fun h => h)).alloc _)
  have P5 := hid (BT.at_ (w := w2) 4 q2 q3 q4 q5 rfl)
  have HI := hid (HI.out.fr (f2.alloc (oT 4 q2 q3 q4 q5)))
  rw [hyl] at P4
  have hlt2 : w.heap.size + 1 + 1 + 1 < w2.heap.size := by have := f2.size; simp at this; omega
  clear f2 HWA
  obtain ⟨w3, hw3⟩ : ∃ x, w2.alloc (oT 4 q2 q3 q4 q5) = x := ⟨_, rfl⟩
  rw [hw3] at HF P0 P1 P2 P3 P4 P5 HI
  go_upto_region 3 with fail
  try rw [hw3]
  try rw [hyl]
  obtain ⟨tb, htb⟩ : ∃ x, w2.heap.size = x := ⟨_, rfl⟩
  rw [htb] at P5 hlt2
  try rw [htb]
  clear hw3 hyl htb
  obtain ⟨c0, c1, c2, c3, c4⟩ := P1.out.cells
  obtain ⟨d0, d1, d2, d3⟩ := P2.out.cells
  obtain ⟨y0, y1, y2, y3, y4, y5, y6, y7⟩ := P4.out.cells
  obtain ⟨t0, t1, t2, t3, t4⟩ := P5.out.cells
  clear y0 y1 y2 y5 y6 y7 t1 t2 t3
  go_upto_region 15 with ((with_reducible refine ldJ rfl (.tmp 6) rfl (w.heap.size + 1) ?_ P1.out ?_); · rfl)
  have qc1 := fun o => kc (fr1 w3 o) c1
  have qc2 := fun o => kc (fr1 w3 o) c2
  have qc4 := fun o => kc (fr1 w3 o) c4
  have qd1 := fun o => kc (fr1 w3 o) d1
  have qd3 := fun o => kc (fr1 w3 o) d3
  have qy4 := fun o => kc (fr1 w3 o) y4
  have qt0 := fun o => kc (fr1 w3 o) t0
  have qt4 := fun o => kc (fr1 w3 o) t4
  clear c0 c1 c2 c3 c4 y3 y4 t4 d0 d1 d2 d3 t0
  go_upto_region 30 with fail
  have HJ := hid (show tj = ⟨2, z, tj.bs, sp, nx⟩ by rw [HTJ.out])
  have HIL := hid (show InI w A l c tj.bs by rw [HTJ.out]; exact HIW.out)
  have PT := hid (show BJ (w3.alloc (oJ 2 (z) (A) (l) (c) (sp) (nx))) w3.heap.size 2 (z) (A) (l) (c) (sp) (nx) from BJ.at_ (w := w3) 2 (z) (A) (l) (c) (sp) (nx) rfl)
  have P0 := hid (show BG (w3.alloc (oJ 2 (z) (A) (l) (c) (sp) (nx))) w.heap.size gc gs gn gl gk from (P0.out : Blk _ _ _ _).alloc _)
  have P3 := hid (show BJ (w3.alloc (oJ 2 (z) (A) (l) (c) (sp) (nx))) (w.heap.size + 1 + 1 + 1) 0 0 none 0 0 0 0 from P3.out.up (oJ 2 (z) (A) (l) (c) (sp) (nx)))
  have HF := hid (show Fr No w (w3.alloc (oJ 2 (z) (A) (l) (c) (sp) (nx))) from HF.out.alloc _)
  have HIN := hid (HIL.out.fr HF.out)
  go_wp2_with (first | ((with_reducible refine ld_geom rfl (.tmp 4) rfl w.heap.size ?_ P0.out ?_); · rfl) | ((with_reducible refine ldJ rfl (.tmp 13) rfl (w3.heap.size) ?_ PT.out ?_); · rfl))
  refine (HM.out (2) (z) (A) (l) (c) (sp) (nx) _ HIN.out).mono ?_
  rintro r w6 ⟨rfl, f6⟩
  rw [show mayB ⟨gc, gs, gn, gl, gk⟩ ⟨2, z, tj.bs, sp, nx⟩ = mb by rw [← HMB.out, HJ.out]] at *
  have HF := kf f6 HF
  have P3 := hid (P3.out.fr f6)
  have PT := hid (PT.out.fr f6)
  clear f6 HM
  cases mb
  · go_wp2_with (((with_reducible refine stJ rfl (.tmp 8) (.tmp 113) rfl (w.heap.size + 1 + 1 + 1) ?_ (st' := 0) (z' := 0) (A' := none) (l' := 0) (c' := 0) (sp' := 0) (nx' := 0) ?_ P3.out ?_); (· rfl); (· rfl); intro W' hb hf; have HB := hid hb; have HF := kfg (by omega) HF hf; clear hb hf))
    exact bodyPost_ret (v := .tuple #[.agg #[.int .i64 0, .int .i64 0, .slice none 0 0, .int .i64 0, .int .i64 0], .int .i64 1]) (resJ2 rfl _ _ (w.heap.size + 1 + 1 + 1) 0 0 none 0 0 0 0 1 rfl rfl HB.out) rfl (RetB.mk (p := (zero, 1)) rfl (InI.nil w) HF.out)
  · go_wp2_with (first | ((with_reducible refine ldJ rfl (.tmp 13) rfl (w3.heap.size) ?_ PT.out ?_); · rfl) | ((with_reducible refine stJ rfl (.tmp 8) (.tmp 114) rfl (w.heap.size + 1 + 1 + 1) ?_ (st' := 2) (z' := z) (A' := A) (l' := l) (c' := c) (sp' := sp) (nx' := nx) ?_ P3.out ?_); (· rfl); (· rfl); intro W' hb hf; have HB := hid hb; have HF := kfg (by omega) HF hf; clear hb hf))
    exact bodyPost_ret (v := .tuple #[.agg #[.int .i64 2, .int .i64 z, .slice A l c, .int .i64 sp, .int .i64 nx], .int .i64 0]) (resJ2 rfl _ _ (w.heap.size + 1 + 1 + 1) (2) (z) (A) (l) (c) (sp) (nx) 0 rfl rfl HB.out) rfl (RetB.mk (p := (tj, 0)) (by show (tj, (0 : Int)) = (⟨2, z, tj.bs, sp, nx⟩, 0); rw [← HJ.out]) HIL.out HF.out)
end Go.Proofs.Ytgjcpepfggkieaa.ClSb
