/- Contract: what becomes of a job as what it wanted was done, by the document. Condition: lists that read as lists; numbers of 64 bits; the job may be. -/
import Derived.Test.YtgjcpepfggkieaaClQ
namespace Go.Proofs.Ytgjcpepfggkieaa.ClSa
open Go.RowKit MSep MGeM GeA GeC GeD GeE GeEk PlA PlB ClM ClA ClE ClB ClC ClD ClF ClG ClH ClI ClJ ClK ClL ClQ

set_option maxRecDepth 100000 in
set_option maxHeartbeats 2000000 in
theorem ra_0 (gc gs gn gl gk : Int) (b d ch : Int) (z : Int) (A : Option Addr) (l c : Nat) (sp nx : Int) (bs : List Int) (dz db : Int) (B : Option Addr) (m e : Nat) (ys : List Int) (w : World) (hs : -9223372036854775808 ≤ gs ∧ gs ≤ 9223372036854775807) (hm : mayG ⟨gc, gs, gn, gl, gk⟩) (hlb : (lay ⟨gc, gs, gn, gl, gk⟩).b = b ∧ (lay ⟨gc, gs, gn, gl, gk⟩).d = d) (hi : InI w A l c bs) (hy : InI w B m e ys) (ho : okJ (lay ⟨gc, gs, gn, gl, gk⟩).d ⟨0, z, bs, sp, nx⟩) (hc : 1 ≤ ch ∧ ch ≤ 1000000) :
    Calls Try.prog 40 #[.agg #[.int .i64 gc, .int .i64 gs, .int .i64 gn, .int .i64 gl, .int .i64 gk], .int .i64 ch, .agg #[.int .i64 0, .int .i64 z, .slice A l c, .int .i64 sp, .int .i64 nx], .agg #[.int .i64 1, .int .i64 dz, .int .i64 db, .slice B m e]] w fun r w' => RetB w (if mayB ⟨gc, gs, gn, gl, gk⟩ (turnJ (lay ⟨gc, gs, gn, gl, gk⟩).d ch 1 ⟨0, z, bs, sp, nx⟩ ⟨1, dz, db, ys⟩) then (turnJ (lay ⟨gc, gs, gn, gl, gk⟩).d ch 1 ⟨0, z, bs, sp, nx⟩ ⟨1, dz, db, ys⟩, 0) else (zero, 1)) r w' := by
  have P0 := hid (show BG ((((w.alloc (bg gc gs gn gl gk)).alloc (oJ 0 z A l c sp nx)).alloc (oD 1 dz db B m e)).alloc (oJ 0 0 none 0 0 0 0)) w.heap.size gc gs gn gl gk from (BG3 w gc gs gn gl gk (oJ 0 z A l c sp nx) (oD 1 dz db B m e) : Blk _ _ _ _).alloc _)
  have P1 := hid (((BJ.at_ (w := w.alloc (bg gc gs gn gl gk)) (g := w.heap.size + 1) 0 z A l c sp nx (by simp)).up (oD 1 dz db B m e)).up (oJ 0 0 none 0 0 0 0))
  have P2 := hid ((BD.at_ (w := (w.alloc (bg gc gs gn gl gk)).alloc (oJ 0 z A l c sp nx)) (g := w.heap.size + 1 + 1) 1 dz db B m e (by simp)).up (oJ 0 0 none 0 0 0 0))
  have P3 := hid (BJ.at_ (w := ((w.alloc (bg gc gs gn gl gk)).alloc (oJ 0 z A l c sp nx)).alloc (oD 1 dz db B m e)) (g := w.heap.size + 1 + 1 + 1) 0 0 none 0 0 0 0 (by simp))
  have HF := hid ((((fr1 w (bg gc gs gn gl gk)).alloc (oJ 0 z A l c sp nx)).alloc (oD 1 dz db B m e)).alloc (oJ 0 0 none 0 0 0 0))
  have HIW := hid hi
  have HYW := hid hy
  have HI := hid (hi.fr HF.out)
  have HL := hid (fun W => rlayout_ok gc gs gn gl gk W hs)
  rw [rlo_yes hm] at HL
  have hgd := good hm.1
  have HWA := hid (fun W (h : InI W A l c bs) => rwants_ok gc gs gn gl gk ch 0 z A l c sp nx bs W hs hm h ho ⟨by omega, by omega⟩)
  obtain ⟨y, hy0⟩ : ∃ y, lay ⟨gc, gs, gn, gl, gk⟩ = y := ⟨_, rfl⟩
  rw [hy0] at HL HWA hlb hgd
  obtain ⟨ya, yr, yq, yb, yd, yt, yx, yu⟩ := y
  obtain ⟨hb1, hb2⟩ := hlb
  dsimp only at HL HWA hb1 hb2
  subst hb1 hb2
  obtain ⟨q, hq⟩ : ∃ q, wantJ yd ch ⟨0, z, bs, sp, nx⟩ = q := ⟨_, rfl⟩
  rw [hq] at HWA
  obtain ⟨q1, q2, q3, q4, q5⟩ := q
  dsimp only [tv] at HWA
  have HQ := hid hq
  have hd1 := hgd.d1
  have hd2 := hgd.d2
  dsimp only at hd1 hd2
  rw [hy0]
  dsimp only
  obtain ⟨tj, htj⟩ : ∃ j, turnJ yd ch 1 ⟨0, z, bs, sp, nx⟩ ⟨1, dz, db, ys⟩ = j := ⟨_, rfl⟩
  rw [htj]
  have HTJ := hid (show tj = nextJ dz ys by rw [← htj]; simp [turnJ])
  obtain ⟨mb, hmb⟩ : ∃ b, mayB ⟨gc, gs, gn, gl, gk⟩ tj = b := ⟨_, rfl⟩
  rw [hmb]
  have HM := hid (fun st' z' (B' : Option Addr) (m' d' : Nat) sp' nx' W (h3 : InI W B' m' d' tj.bs) => rmay_ok gc gs gn gl gk st' z' B' m' d' sp' nx' tj.bs W hs h3)
  have HMB := hid hmb
  obtain rfl : 1 = q1 := (congrArg Prod.fst ((w_pick _ _ _ _ _ _ _ (by decide)).symm.trans hq))
  clear htj hmb hq HQ hy0
  clear hi hy ho hm hgd
  go_enter Try.func40, Try.ntmps40
  go_wp2_with ((with_reducible refine ld_geom rfl (.tmp 4) rfl w.heap.size ?_ P0.out ?_); · rfl)
  refine (HL.out _).mono ?_
  rintro r w1 ⟨rfl, f1⟩
  have HF := hid ((HF.out.trans f1).alloc (by_ ya yr yq yb yd yt yx yu))
  have P0 := hid (show BG (w1.alloc (by_ ya yr yq yb yd yt yx yu)) w.heap.size gc gs gn gl gk from (Blk.fr P0.out f1 (fun h => h)).alloc _)
  have P1 := hid ((P1.out.fr f1).up (by_ ya yr yq yb yd yt yx yu))
  have P2 := hid ((P2.out.fr f1).up (by_ ya yr yq yb yd yt yx yu))
  have P3 := hid ((P3.out.fr f1).up (by_ ya yr yq yb yd yt yx yu))
  have P4 := hid (BL.new w1 ya yr yq yb yd yt yx yu)
  have HI := hid (HI.out.fr (f1.alloc (by_ ya yr yq yb yd yt yx yu)))
  obtain ⟨yl, hyl⟩ : ∃ x, w1.heap.size = x := ⟨_, rfl⟩
  have hyl2 : w.heap.size + 1 + 1 + 1 < yl := by have := HF.out.size; have h := (P3.out : Blk _ _ _ _).lt; have h2 := f1.size; simp at this h h2; omega
  clear f1 HL
  go_wp2_with (first | ((with_reducible refine ld_geom rfl (.tmp 4) rfl w.heap.size ?_ P0.out ?_); · rfl) | ((with_reducible refine ldJ rfl (.tmp 6) rfl (w.heap.size + 1) ?_ P1.out ?_); · rfl))
  refine (HWA.out _ HI.out).mono ?_
  rintro r w2 ⟨rfl, f2⟩
  have HF := hid ((HF.out.trans f2).alloc (oT 1 q2 q3 q4 q5))
  have P0 := hid (show BG (w2.alloc (oT 1 q2 q3 q4 q5)) w.heap.size gc gs gn gl gk from (Blk.fr P0.out f2 (fun h => h)).alloc _)
  have P1 := hid ((P1.out.fr f2).up (oT 1 q2 q3 q4 q5))
  have P2 := hid ((P2.out.fr f2).up (oT 1 q2 q3 q4 q5))
  have P3 := hid ((P3.out.fr f2).up (oT 1 q2 q3 q4 q5))
  have P4 := hid (show BL (w2.alloc (oT 1 q2 q3 q4 q5)) w1.heap.size ya yr yq yb yd yt yx yu from (Blk.fr P4.out f2 (fun h => h)).alloc _)
  have P5 := hid (BT.at_ (w := w2) 1 q2 q3 q4 q5 rfl)
  have HI := hid (HI.out.fr (f2.alloc (oT 1 q2 q3 q4 q5)))
  rw [hyl] at P4
  have hlt2 : w.heap.size + 1 + 1 + 1 < w2.heap.size := by have := f2.size; simp at this; omega
  clear f2 HWA
  obtain ⟨w3, hw3⟩ : ∃ x, w2.alloc (oT 1 q2 q3 q4 q5) = x := ⟨_, rfl⟩
  rw [hw3] at HF P0 P1 P2 P3 P4 P5 HI
  go_upto_region 3 with fail
  try rw [hw3]
  try rw [hyl]
  obtain ⟨tb, htb⟩ : ∃ x, w2.heap.size = x := ⟨_, rfl⟩
  rw [htb] at P5 hlt2
  try rw [htb]
  clear hw3 hyl htb
  obtain ⟨c0, c1, c2, c3, c4⟩ := P1.out.cells
  obtain ⟨d0, d1, d2, d3⟩ := P2.out.cells
  obtain ⟨y0, y1, y2, y3, y4, y5, y6, y7⟩ := P4.out.cells
  obtain ⟨t0, t1, t2, t3, t4⟩ := P5.out.cells
  clear y0 y1 y2 y5 y6 y7 t1 t2 t3
  go_upto_region 15 with ((with_reducible refine ldJ rfl (.tmp 6) rfl (w.heap.size + 1) ?_ P1.out ?_); · rfl)
  have qc1 := fun o => kc (fr1 w3 o) c1
  have qc2 := fun o => kc (fr1 w3 o) c2
  have qc4 := fun o => kc (fr1 w3 o) c4
  have qd1 := fun o => kc (fr1 w3 o) d1
  have qd3 := fun o => kc (fr1 w3 o) d3
  have qy4 := fun o => kc (fr1 w3 o) y4
  have qt0 := fun o => kc (fr1 w3 o) t0
  have qt4 := fun o => kc (fr1 w3 o) t4
  skip
  have HLT3 := hid ((P3.out : Blk _ _ _ _).lt)
  have P0 := hid (show BG (w3.alloc (oJ 0 z A l c sp nx)) w.heap.size gc gs gn gl gk from (P0.out : Blk _ _ _ _).alloc _)
  have P1 := hid (P1.out.up (oJ 0 z A l c sp nx))
  have P2 := hid (P2.out.up (oJ 0 z A l c sp nx))
  have P3 := hid (P3.out.up (oJ 0 z A l c sp nx))
  have PT := hid (BJ.at_ (w := w3) 0 z A l c sp nx rfl)
  have HI := hid (HI.out.fr (fr1 w3 (oJ 0 z A l c sp nx)))
  have HF := hid (HF.out.alloc (oJ 0 z A l c sp nx))
  have hlt3 : w.heap.size + 1 + 1 + 1 < w3.heap.size := by have h := (P3.out : Blk _ _ _ _).lt; have := HLT3.out; omega
  have HY := hid (HYW.out.fr HF.out)
  clear c0 c1 c2 c3 c4 y3 y4 t4 d0 d1 d2 d3 t0
  go_wp2_with fail
  refine (rnext_ok2 _ _ _ _ ys w _ HYW.out HY.out).mono ?_
  rintro r w4 ⟨st', sp', nx', z', B', m', d', rfl, hn, hi, f5⟩
  have HJ := hid (show tj = ⟨st', z', tj.bs, sp', nx'⟩ by rw [HTJ.out]; exact hn)
  have HIL := hid (show InI w B' m' d' tj.bs by rw [HTJ.out]; exact hi)
  clear hn hi
  have HF := kf f5 HF
  have P0 := hid (show BG w4 w.heap.size gc gs gn gl gk from Blk.fr P0.out f5 (fun h => h))
  have P3 := hid (P3.out.fr f5)
  have PT := hid (PT.out.fr f5)
  have hwt : w.heap.size ≤ w3.heap.size := by omega
  have hn0 : w.heap.size ≠ w3.heap.size := by omega
  have hn3 : w.heap.size + 1 + 1 + 1 ≠ w3.heap.size := by omega
  clear f5
  go_upto_region 30 with ((with_reducible refine stJ rfl (.tmp 13) (.tmp 74) rfl w3.heap.size ?_ (st' := st') (z' := z') (A' := B') (l' := m') (c' := d') (sp' := sp') (nx' := nx') ?_ PT.out ?_); (· rfl); (· rfl); intro W5 hb hf; have PT := hid hb; have HF := kfg hwt HF hf; have P0 := hid (show BG W5 w.heap.size gc gs gn gl gk from Blk.fr P0.out hf hn0); have P3 := hid (P3.out.far hf hn3); clear hb hf)
  have HIN := hid (HIL.out.fr HF.out)
  go_wp2_with (first | ((with_reducible refine ld_geom rfl (.tmp 4) rfl w.heap.size ?_ P0.out ?_); · rfl) | ((with_reducible refine ldJ rfl (.tmp 13) rfl (w3.heap.size) ?_ PT.out ?_); · rfl))
  refine (HM.out (st') (z') (B') (m') (d') (sp') (nx') _ HIN.out).mono ?_
  rintro r w6 ⟨rfl, f6⟩
  rw [show mayB ⟨gc, gs, gn, gl, gk⟩ ⟨st', z', tj.bs, sp', nx'⟩ = mb by rw [← HMB.out, HJ.out]] at *
  have HF := kf f6 HF
  have P3 := hid (P3.out.fr f6)
  have PT := hid (PT.out.fr f6)
  clear f6 HM
  cases mb
  · go_wp2_with (((with_reducible refine stJ rfl (.tmp 8) (.tmp 113) rfl (w.heap.size + 1 + 1 + 1) ?_ (st' := 0) (z' := 0) (A' := none) (l' := 0) (c' := 0) (sp' := 0) (nx' := 0) ?_ P3.out ?_); (· rfl); (· rfl); intro W' hb hf; have HB := hid hb; have HF := kfg (by omega) HF hf; clear hb hf))
    exact bodyPost_ret (v := .tuple #[.agg #[.int .i64 0, .int .i64 0, .slice none 0 0, .int .i64 0, .int .i64 0], .int .i64 1]) (resJ2 rfl _ _ (w.heap.size + 1 + 1 + 1) 0 0 none 0 0 0 0 1 rfl rfl HB.out) rfl (RetB.mk (p := (zero, 1)) rfl (InI.nil w) HF.out)
  · go_wp2_with (first | ((with_reducible refine ldJ rfl (.tmp 13) rfl (w3.heap.size) ?_ PT.out ?_); · rfl) | ((with_reducible refine stJ rfl (.tmp 8) (.tmp 114) rfl (w.heap.size + 1 + 1 + 1) ?_ (st' := st') (z' := z') (A' := B') (l' := m') (c' := d') (sp' := sp') (nx' := nx') ?_ P3.out ?_); (· rfl); (· rfl); intro W' hb hf; have HB := hid hb; have HF := kfg (by omega) HF hf; clear hb hf))
    exact bodyPost_ret (v := .tuple #[.agg #[.int .i64 st', .int .i64 z', .slice B' m' d', .int .i64 sp', .int .i64 nx'], .int .i64 0]) (resJ2 rfl _ _ (w.heap.size + 1 + 1 + 1) (st') (z') (B') (m') (d') (sp') (nx') 0 rfl rfl HB.out) rfl (RetB.mk (p := (tj, 0)) (by show (tj, (0 : Int)) = (⟨st', z', tj.bs, sp', nx'⟩, 0); rw [← HJ.out]) HIL.out HF.out)
set_option maxRecDepth 100000 in
set_option maxHeartbeats 2000000 in
theorem ra_4 (gc gs gn gl gk : Int) (b d ch : Int) (z : Int) (A : Option Addr) (l c : Nat) (sp nx : Int) (bs : List Int) (dz db : Int) (B : Option Addr) (m e : Nat) (ys : List Int) (w : World) (hs : -9223372036854775808 ≤ gs ∧ gs ≤ 9223372036854775807) (hm : mayG ⟨gc, gs, gn, gl, gk⟩) (hlb : (lay ⟨gc, gs, gn, gl, gk⟩).b = b ∧ (lay ⟨gc, gs, gn, gl, gk⟩).d = d) (hi : InI w A l c bs) (hy : InI w B m e ys) (ho : okJ (lay ⟨gc, gs, gn, gl, gk⟩).d ⟨4, z, bs, sp, nx⟩) (hc : 1 ≤ ch ∧ ch ≤ 1000000) :
    Calls Try.prog 40 #[.agg #[.int .i64 gc, .int .i64 gs, .int .i64 gn, .int .i64 gl, .int .i64 gk], .int .i64 ch, .agg #[.int .i64 4, .int .i64 z, .slice A l c, .int .i64 sp, .int .i64 nx], .agg #[.int .i64 5, .int .i64 dz, .int .i64 db, .slice B m e]] w fun r w' => RetB w (if mayB ⟨gc, gs, gn, gl, gk⟩ (turnJ (lay ⟨gc, gs, gn, gl, gk⟩).d ch 5 ⟨4, z, bs, sp, nx⟩ ⟨5, dz, db, ys⟩) then (turnJ (lay ⟨gc, gs, gn, gl, gk⟩).d ch 5 ⟨4, z, bs, sp, nx⟩ ⟨5, dz, db, ys⟩, 0) else (zero, 1)) r w' := by
  have P0 := hid (show BG ((((w.alloc (bg gc gs gn gl gk)).alloc (oJ 4 z A l c sp nx)).alloc (oD 5 dz db B m e)).alloc (oJ 0 0 none 0 0 0 0)) w.heap.size gc gs gn gl gk from (BG3 w gc gs gn gl gk (oJ 4 z A l c sp nx) (oD 5 dz db B m e) : Blk _ _ _ _).alloc _)
  have P1 := hid (((BJ.at_ (w := w.alloc (bg gc gs gn gl gk)) (g := w.heap.size + 1) 4 z A l c sp nx (by simp)).up (oD 5 dz db B m e)).up (oJ 0 0 none 0 0 0 0))
  have P2 := hid ((BD.at_ (w := (w.alloc (bg gc gs gn gl gk)).alloc (oJ 4 z A l c sp nx)) (g := w.heap.size + 1 + 1) 5 dz db B m e (by simp)).up (oJ 0 0 none 0 0 0 0))
  have P3 := hid (BJ.at_ (w := ((w.alloc (bg gc gs gn gl gk)).alloc (oJ 4 z A l c sp nx)).alloc (oD 5 dz db B m e)) (g := w.heap.size + 1 + 1 + 1) 0 0 none 0 0 0 0 (by simp))
  have HF := hid ((((fr1 w (bg gc gs gn gl gk)).alloc (oJ 4 z A l c sp nx)).alloc (oD 5 dz db B m e)).alloc (oJ 0 0 none 0 0 0 0))
  have HIW := hid hi
  have HYW := hid hy
  have HI := hid (hi.fr HF.out)
  have HL := hid (fun W => rlayout_ok gc gs gn gl gk W hs)
  rw [rlo_yes hm] at HL
  have hgd := good hm.1
  have HWA := hid (fun W (h : InI W A l c bs) => rwants_ok gc gs gn gl gk ch 4 z A l c sp nx bs W hs hm h ho ⟨by omega, by omega⟩)
  obtain ⟨y, hy0⟩ : ∃ y, lay ⟨gc, gs, gn, gl, gk⟩ = y := ⟨_, rfl⟩
  rw [hy0] at HL HWA hlb hgd
  obtain ⟨ya, yr, yq, yb, yd, yt, yx, yu⟩ := y
  obtain ⟨hb1, hb2⟩ := hlb
  dsimp only at HL HWA hb1 hb2
  subst hb1 hb2
  obtain ⟨q, hq⟩ : ∃ q, wantJ yd ch ⟨4, z, bs, sp, nx⟩ = q := ⟨_, rfl⟩
  rw [hq] at HWA
  obtain ⟨q1, q2, q3, q4, q5⟩ := q
  dsimp only [tv] at HWA
  have HQ := hid hq
  have hd1 := hgd.d1
  have hd2 := hgd.d2
  dsimp only at hd1 hd2
  rw [hy0]
  dsimp only
  obtain ⟨tj, htj⟩ : ∃ j, turnJ yd ch 5 ⟨4, z, bs, sp, nx⟩ ⟨5, dz, db, ys⟩ = j := ⟨_, rfl⟩
  rw [htj]
  have HTJ := hid (show tj = nextJ z bs.tail by rw [← htj]; simp [turnJ])
  obtain ⟨mb, hmb⟩ : ∃ b, mayB ⟨gc, gs, gn, gl, gk⟩ tj = b := ⟨_, rfl⟩
  rw [hmb]
  have HM := hid (fun st' z' (B' : Option Addr) (m' d' : Nat) sp' nx' W (h3 : InI W B' m' d' tj.bs) => rmay_ok gc gs gn gl gk st' z' B' m' d' sp' nx' tj.bs W hs h3)
  have HMB := hid hmb
  obtain rfl : 5 = q1 := (congrArg Prod.fst ((w_commit _ _ _ _ _ _).symm.trans hq))
  have HNE := hid (ho.2.1 (by simp))
  clear htj hmb hq HQ hy0
  clear hi hy ho hm hgd
  go_enter Try.func40, Try.ntmps40
  go_wp2_with ((with_reducible refine ld_geom rfl (.tmp 4) rfl w.heap.size ?_ P0.out ?_); · rfl)
  refine (HL.out _).mono ?_
  rintro r w1 ⟨rfl, f1⟩
  have HF := hid ((HF.out.trans f1).alloc (by_ ya yr yq yb yd yt yx yu))
  have P0 := hid (show BG (w1.alloc (by_ ya yr yq yb yd yt yx yu)) w.heap.size gc gs gn gl gk from (Blk.fr P0.out f1 (fun h => h)).alloc _)
  have P1 := hid ((P1.out.fr f1).up (by_ ya yr yq yb yd yt yx yu))
  have P2 := hid ((P2.out.fr f1).up (by_ ya yr yq yb yd yt yx yu))
  have P3 := hid ((P3.out.fr f1).up (by_ ya yr yq yb yd yt yx yu))
  have P4 := hid (BL.new w1 ya yr yq yb yd yt yx yu)
  have HI := hid (HI.out.fr (f1.alloc (by_ ya yr yq yb yd yt yx yu)))
  obtain ⟨yl, hyl⟩ : ∃ x, w1.heap.size = x := ⟨_, rfl⟩
  have hyl2 : w.heap.size + 1 + 1 + 1 < yl := by have := HF.out.size; have h := (P3.out : Blk _ _ _ _).lt; have h2 := f1.size; simp at this h h2; omega
  clear f1 HL
  go_wp2_with (first | ((with_reducible refine ld_geom rfl (.tmp 4) rfl w.heap.size ?_ P0.out ?_); · rfl) | ((with_reducible refine ldJ rfl (.tmp 6) rfl (w.heap.size + 1) ?_ P1.out ?_); · rfl))
  refine (HWA.out _ HI.out).mono ?_
  rintro r w2 ⟨rfl, f2⟩
  have HF := hid ((HF.out.trans f2).alloc (oT 5 q2 q3 q4 q5))
  have P0 := hid (show BG (w2.alloc (oT 5 q2 q3 q4 q5)) w.heap.size gc gs gn gl gk from (Blk.fr P0.out f2 (fun h => h)).alloc _)
  have P1 := hid ((P1.out.fr f2).up (oT 5 q2 q3 q4 q5))
  have P2 := hid ((P2.out.fr f2).up (oT 5 q2 q3 q4 q5))
  have P3 := hid ((P3.out.fr f2).up (oT 5 q2 q3 q4 q5))
  have P4 := hid (show BL (w2.alloc (oT 5 q2 q3 q4 q5)) w1.heap.size ya yr yq yb yd yt yx yu from (Blk.fr P4.out f2 (fun h => h)).alloc _)
  have P5 := hid (BT.at_ (w := w2) 5 q2 q3 q4 q5 rfl)
  have HI := hid (HI.out.fr (f2.alloc (oT 5 q2 q3 q4 q5)))
  rw [hyl] at P4
  have hlt2 : w.heap.size + 1 + 1 + 1 < w2.heap.size := by have := f2.size; simp at this; omega
  clear f2 HWA
  obtain ⟨w3, hw3⟩ : ∃ x, w2.alloc (oT 5 q2 q3 q4 q5) = x := ⟨_, rfl⟩
  rw [hw3] at HF P0 P1 P2 P3 P4 P5 HI
  go_upto_region 3 with fail
  try rw [hw3]
  try rw [hyl]
  obtain ⟨tb, htb⟩ : ∃ x, w2.heap.size = x := ⟨_, rfl⟩
  rw [htb] at P5 hlt2
  try rw [htb]
  clear hw3 hyl htb
  obtain ⟨c0, c1, c2, c3, c4⟩ := P1.out.cells
  obtain ⟨d0, d1, d2, d3⟩ := P2.out.cells
  obtain ⟨y0, y1, y2, y3, y4, y5, y6, y7⟩ := P4.out.cells
  obtain ⟨t0, t1, t2, t3, t4⟩ := P5.out.cells
  clear y0 y1 y2 y5 y6 y7 t1 t2 t3
  go_upto_region 15 with ((with_reducible refine ldJ rfl (.tmp 6) rfl (w.heap.size + 1) ?_ P1.out ?_); · rfl)
  have qc1 := fun o => kc (fr1 w3 o) c1
  have qc2 := fun o => kc (fr1 w3 o) c2
  have qc4 := fun o => kc (fr1 w3 o) c4
  have qd1 := fun o => kc (fr1 w3 o) d1
  have qd3 := fun o => kc (fr1 w3 o) d3
  have qy4 := fun o => kc (fr1 w3 o) y4
  have qt0 := fun o => kc (fr1 w3 o) t0
  have qt4 := fun o => kc (fr1 w3 o) t4
  skip
  have HLT3 := hid ((P3.out : Blk _ _ _ _).lt)
  have P0 := hid (show BG (w3.alloc (oJ 4 z A l c sp nx)) w.heap.size gc gs gn gl gk from (P0.out : Blk _ _ _ _).alloc _)
  have P1 := hid (P1.out.up (oJ 4 z A l c sp nx))
  have P2 := hid (P2.out.up (oJ 4 z A l c sp nx))
  have P3 := hid (P3.out.up (oJ 4 z A l c sp nx))
  have PT := hid (BJ.at_ (w := w3) 4 z A l c sp nx rfl)
  have HI := hid (HI.out.fr (fr1 w3 (oJ 4 z A l c sp nx)))
  have HF := hid (HF.out.alloc (oJ 4 z A l c sp nx))
  have hlt3 : w.heap.size + 1 + 1 + 1 < w3.heap.size := by have h := (P3.out : Blk _ _ _ _).lt; have := HLT3.out; omega
  have hl : 0 < l := by
    rcases Nat.eq_zero_or_pos l with h | h
    · exact absurd ((ne_of_len HI.out).2 h) HNE.out
    · exact h
  have HIT := hid (HI.out.tail hl)
  have HIWT := hid (HIW.out.tail hl)
  have hsl := slice_t A l c hl HI.out.lc
  clear c0 c1 c2 c3 c4 y3 y4 t4 d0 d1 d2 d3 t0
  go_upto_region 27 with fail
  obtain ⟨w7, hw7⟩ : ∃ x, w3.alloc (oJ 4 z A l c sp nx) = x := ⟨_, rfl⟩
  rw [hw7]
  rw [hw7] at P0 P1 P2 P3 PT HIT HF
  obtain ⟨c0, c1, c2, c3, c4⟩ := P1.out.cells
  go_still_tail 5, (by kernel_rfl)
  change wpList _ _ _ _ _ w7.drew
  obtain ⟨w8, hw8⟩ : ∃ x, w7.drew = x := ⟨_, rfl⟩
  have F8 : Fr No w7 w8 := hw8 ▸ Fr.drew (Fr.refl No w7)
  rw [hw8]
  have HF := kf F8 HF
  have P0 := hid (show BG w8 w.heap.size gc gs gn gl gk from Blk.fr P0.out F8 (fun h => h))
  have P3 := hid (P3.out.fr F8)
  have PT := hid (PT.out.fr F8)
  have HIT := hid (HIT.out.fr F8)
  clear c0 c1 c2 c3 c4 hw7 hw8 F8 hsl
  go_wp2_with fail
  refine (rnext_ok2 _ _ _ _ bs.tail w _ HIWT.out HIT.out).mono ?_
  rintro r w4 ⟨st', sp', nx', z', B', m', d', rfl, hn, hi, f5⟩
  have HJ := hid (show tj = ⟨st', z', tj.bs, sp', nx'⟩ by rw [HTJ.out]; exact hn)
  have HIL := hid (show InI w B' m' d' tj.bs by rw [HTJ.out]; exact hi)
  clear hn hi
  have HF := kf f5 HF
  have P0 := hid (show BG w4 w.heap.size gc gs gn gl gk from Blk.fr P0.out f5 (fun h => h))
  have P3 := hid (P3.out.fr f5)
  have PT := hid (PT.out.fr f5)
  have hwt : w.heap.size ≤ w3.heap.size := by omega
  have hn0 : w.heap.size ≠ w3.heap.size := by omega
  have hn3 : w.heap.size + 1 + 1 + 1 ≠ w3.heap.size := by omega
  clear f5
  go_upto_region 30 with ((with_reducible refine stJ rfl (.tmp 13) (.tmp 105) rfl w3.heap.size ?_ (st' := st') (z' := z') (A' := B') (l' := m') (c' := d') (sp' := sp') (nx' := nx') ?_ PT.out ?_); (· rfl); (· rfl); intro W5 hb hf; have PT := hid hb; have HF := kfg hwt HF hf; have P0 := hid (show BG W5 w.heap.size gc gs gn gl gk from Blk.fr P0.out hf hn0); have P3 := hid (P3.out.far hf hn3); clear hb hf)
  have HIN := hid (HIL.out.fr HF.out)
  go_wp2_with (first | ((with_reducible refine ld_geom rfl (.tmp 4) rfl w.heap.size ?_ P0.out ?_); · rfl) | ((with_reducible refine ldJ rfl (.tmp 13) rfl (w3.heap.size) ?_ PT.out ?_); · rfl))
  refine (HM.out (st') (z') (B') (m') (d') (sp') (nx') _ HIN.out).mono ?_
  rintro r w6 ⟨rfl, f6⟩
  rw [show mayB ⟨gc, gs, gn, gl, gk⟩ ⟨st', z', tj.bs, sp', nx'⟩ = mb by rw [← HMB.out, HJ.out]] at *
  have HF := kf f6 HF
  have P3 := hid (P3.out.fr f6)
  have PT := hid (PT.out.fr f6)
  clear f6 HM
  cases mb
  · go_wp2_with (((with_reducible refine stJ rfl (.tmp 8) (.tmp 113) rfl (w.heap.size + 1 + 1 + 1) ?_ (st' := 0) (z' := 0) (A' := none) (l' := 0) (c' := 0) (sp' := 0) (nx' := 0) ?_ P3.out ?_); (· rfl); (· rfl); intro W' hb hf; have HB := hid hb; have HF := kfg (by omega) HF hf; clear hb hf))
    exact bodyPost_ret (v := .tuple #[.agg #[.int .i64 0, .int .i64 0, .slice none 0 0, .int .i64 0, .int .i64 0], .int .i64 1]) (resJ2 rfl _ _ (w.heap.size + 1 + 1 + 1) 0 0 none 0 0 0 0 1 rfl rfl HB.out) rfl (RetB.mk (p := (zero, 1)) rfl (InI.nil w) HF.out)
  · go_wp2_with (first | ((with_reducible refine ldJ rfl (.tmp 13) rfl (w3.heap.size) ?_ PT.out ?_); · rfl) | ((with_reducible refine stJ rfl (.tmp 8) (.tmp 114) rfl (w.heap.size + 1 + 1 + 1) ?_ (st' := st') (z' := z') (A' := B') (l' := m') (c' := d') (sp' := sp') (nx' := nx') ?_ P3.out ?_); (· rfl); (· rfl); intro W' hb hf; have HB := hid hb; have HF := kfg (by omega) HF hf; clear hb hf))
    exact bodyPost_ret (v := .tuple #[.agg #[.int .i64 st', .int .i64 z', .slice B' m' d', .int .i64 sp', .int .i64 nx'], .int .i64 0]) (resJ2 rfl _ _ (w.heap.size + 1 + 1 + 1) (st') (z') (B') (m') (d') (sp') (nx') 0 rfl rfl HB.out) rfl (RetB.mk (p := (tj, 0)) (by show (tj, (0 : Int)) = (⟨st', z', tj.bs, sp', nx'⟩, 0); rw [← HJ.out]) HIL.out HF.out)
set_option maxRecDepth 100000 in
set_option maxHeartbeats 2000000 in
theorem ra_5 (gc gs gn gl gk : Int) (b d ch : Int) (z : Int) (A : Option Addr) (l c : Nat) (sp nx : Int) (bs : List Int) (dz db : Int) (B : Option Addr) (m e : Nat) (ys : List Int) (w : World) (hs : -9223372036854775808 ≤ gs ∧ gs ≤ 9223372036854775807) (hm : mayG ⟨gc, gs, gn, gl, gk⟩) (hlb : (lay ⟨gc, gs, gn, gl, gk⟩).b = b ∧ (lay ⟨gc, gs, gn, gl, gk⟩).d = d) (hi : InI w A l c bs) (hy : InI w B m e ys) (ho : okJ (lay ⟨gc, gs, gn, gl, gk⟩).d ⟨5, z, bs, sp, nx⟩) (hc : 1 ≤ ch ∧ ch ≤ 1000000) :
    Calls Try.prog 40 #[.agg #[.int .i64 gc, .int .i64 gs, .int .i64 gn, .int .i64 gl, .int .i64 gk], .int .i64 ch, .agg #[.int .i64 5, .int .i64 z, .slice A l c, .int .i64 sp, .int .i64 nx], .agg #[.int .i64 6, .int .i64 dz, .int .i64 db, .slice B m e]] w fun r w' => RetB w (if mayB ⟨gc, gs, gn, gl, gk⟩ (turnJ (lay ⟨gc, gs, gn, gl, gk⟩).d ch 6 ⟨5, z, bs, sp, nx⟩ ⟨6, dz, db, ys⟩) then (turnJ (lay ⟨gc, gs, gn, gl, gk⟩).d ch 6 ⟨5, z, bs, sp, nx⟩ ⟨6, dz, db, ys⟩, 0) else (zero, 1)) r w' := by
  have P0 := hid (show BG ((((w.alloc (bg gc gs gn gl gk)).alloc (oJ 5 z A l c sp nx)).alloc (oD 6 dz db B m e)).alloc (oJ 0 0 none 0 0 0 0)) w.heap.size gc gs gn gl gk from (BG3 w gc gs gn gl gk (oJ 5 z A l c sp nx) (oD 6 dz db B m e) : Blk _ _ _ _).alloc _)
  have P1 := hid (((BJ.at_ (w := w.alloc (bg gc gs gn gl gk)) (g := w.heap.size + 1) 5 z A l c sp nx (by simp)).up (oD 6 dz db B m e)).up (oJ 0 0 none 0 0 0 0))
  have P2 := hid ((BD.at_ (w := (w.alloc (bg gc gs gn gl gk)).alloc (oJ 5 z A l c sp nx)) (g := w.heap.size + 1 + 1) 6 dz db B m e (by simp)).up (oJ 0 0 none 0 0 0 0))
  have P3 := hid (BJ.at_ (w := ((w.alloc (bg gc gs gn gl gk)).alloc (oJ 5 z A l c sp nx)).alloc (oD 6 dz db B m e)) (g := w.heap.size + 1 + 1 + 1) 0 0 none 0 0 0 0 (by simp))
  have HF := hid ((((fr1 w (bg gc gs gn gl gk)).alloc (oJ 5 z A l c sp nx)).alloc (oD 6 dz db B m e)).alloc (oJ 0 0 none 0 0 0 0))
  have HIW := hid hi
  have HYW := hid hy
  have HI := hid (hi.fr HF.out)
  have HL := hid (fun W => rlayout_ok gc gs gn gl gk W hs)
  rw [rlo_yes hm] at HL
  have hgd := good hm.1
  have HWA := hid (fun W (h : InI W A l c bs) => rwants_ok gc gs gn gl gk ch 5 z A l c sp nx bs W hs hm h ho ⟨by omega, by omega⟩)
  obtain ⟨y, hy0⟩ : ∃ y, lay ⟨gc, gs, gn, gl, gk⟩ = y := ⟨_, rfl⟩
  rw [hy0] at HL HWA hlb hgd
  obtain ⟨ya, yr, yq, yb, yd, yt, yx, yu⟩ := y
  obtain ⟨hb1, hb2⟩ := hlb
  dsimp only at HL HWA hb1 hb2
  subst hb1 hb2
  obtain ⟨q, hq⟩ : ∃ q, wantJ yd ch ⟨5, z, bs, sp, nx⟩ = q := ⟨_, rfl⟩
  rw [hq] at HWA
  obtain ⟨q1, q2, q3, q4, q5⟩ := q
  dsimp only [tv] at HWA
  have HQ := hid hq
  have hd1 := hgd.d1
  have hd2 := hgd.d2
  dsimp only at hd1 hd2
  rw [hy0]
  dsimp only
  obtain ⟨tj, htj⟩ : ∃ j, turnJ yd ch 6 ⟨5, z, bs, sp, nx⟩ ⟨6, dz, db, ys⟩ = j := ⟨_, rfl⟩
  rw [htj]
  have HTJ := hid (show tj = idle by rw [← htj]; simp [turnJ])
  obtain ⟨mb, hmb⟩ : ∃ b, mayB ⟨gc, gs, gn, gl, gk⟩ tj = b := ⟨_, rfl⟩
  rw [hmb]
  have HM := hid (fun st' z' (B' : Option Addr) (m' d' : Nat) sp' nx' W (h3 : InI W B' m' d' tj.bs) => rmay_ok gc gs gn gl gk st' z' B' m' d' sp' nx' tj.bs W hs h3)
  have HMB := hid hmb
  obtain rfl : 6 = q1 := (congrArg Prod.fst ((w_free _ _ _ _ _ _).symm.trans hq))
  clear htj hmb hq HQ hy0
  clear hi hy ho hm hgd
  go_enter Try.func40, Try.ntmps40
  go_wp2_with ((with_reducible refine ld_geom rfl (.tmp 4) rfl w.heap.size ?_ P0.out ?_); · rfl)
  refine (HL.out _).mono ?_
  rintro r w1 ⟨rfl, f1⟩
  have HF := hid ((HF.out.trans f1).alloc (by_ ya yr yq yb yd yt yx yu))
  have P0 := hid (show BG (w1.alloc (by_ ya yr yq yb yd yt yx yu)) w.heap.size gc gs gn gl gk from (Blk.fr P0.out f1 (fun h => h)).alloc _)
  have P1 := hid ((P1.out.fr f1).up (by_ ya yr yq yb yd yt yx yu))
  have P2 := hid ((P2.out.fr f1).up (by_ ya yr yq yb yd yt yx yu))
  have P3 := hid ((P3.out.fr f1).up (by_ ya yr yq yb yd yt yx yu))
  have P4 := hid (BL.new w1 ya yr yq yb yd yt yx yu)
  have HI := hid (HI.out.fr (f1.alloc (by_ ya yr yq yb yd yt yx yu)))
  obtain ⟨yl, hyl⟩ : ∃ x, w1.heap.size = x := ⟨_, rfl⟩
  have hyl2 : w.heap.size + 1 + 1 + 1 < yl := by have := HF.out.size; have h := (P3.out : Blk _ _ _ _).lt; have h2 := f1.size; simp at this h h2; omega
  clear f1 HL
  go_wp2_with (first | ((with_reducible refine ld_geom rfl (.tmp 4) rfl w.heap.size ?_ P0.out ?_); · rfl) | ((with_reducible refine ldJ rfl (.tmp 6) rfl (w.heap.size + 1) ?_ P1.out ?_); · rfl))
  refine (HWA.out _ HI.out).mono ?_
  rintro r w2 ⟨rfl, f2⟩
  have HF := hid ((HF.out.trans f2).alloc (oT 6 q2 q3 q4 q5))
  have P0 := hid (show BG (w2.alloc (oT 6 q2 q3 q4 q5)) w.heap.size gc gs gn gl gk from (Blk.fr P0.out f2 (fun h => h)).alloc _)
  have P1 := hid ((P1.out.fr f2).up (oT 6 q2 q3 q4 q5))
  have P2 := hid ((P2.out.fr f2).up (oT 6 q2 q3 q4 q5))
  have P3 := hid ((P3.out.fr f2).up (oT 6 q2 q3 q4 q5))
  have P4 := hid (show BL (w2.alloc (oT 6 q2 q3 q4 q5)) w1.heap.size ya yr yq yb yd yt yx yu from (Blk.fr P4.out f2 (fun h => h)).alloc _)
  have P5 := hid (BT.at_ (w := w2) 6 q2 q3 q4 q5 rfl)
  have HI := hid (HI.out.fr (f2.alloc (oT 6 q2 q3 q4 q5)))
  rw [hyl] at P4
  have hlt2 : w.heap.size + 1 + 1 + 1 < w2.heap.size := by have := f2.size; simp at this; omega
  clear f2 HWA
  obtain ⟨w3, hw3⟩ : ∃ x, w2.alloc (oT 6 q2 q3 q4 q5) = x := ⟨_, rfl⟩
  rw [hw3] at HF P0 P1 P2 P3 P4 P5 HI
  go_upto_region 3 with fail
  try rw [hw3]
  try rw [hyl]
  obtain ⟨tb, htb⟩ : ∃ x, w2.heap.size = x := ⟨_, rfl⟩
  rw [htb] at P5 hlt2
  try rw [htb]
  clear hw3 hyl htb
  obtain ⟨c0, c1, c2, c3, c4⟩ := P1.out.cells
  obtain ⟨d0, d1, d2, d3⟩ := P2.out.cells
  obtain ⟨y0, y1, y2, y3, y4, y5, y6, y7⟩ := P4.out.cells
  obtain ⟨t0, t1, t2, t3, t4⟩ := P5.out.cells
  clear y0 y1 y2 y5 y6 y7 t1 t2 t3
  go_upto_region 15 with ((with_reducible refine ldJ rfl (.tmp 6) rfl (w.heap.size + 1) ?_ P1.out ?_); · rfl)
  have qc1 := fun o => kc (fr1 w3 o) c1
  have qc2 := fun o => kc (fr1 w3 o) c2
  have qc4 := fun o => kc (fr1 w3 o) c4
  have qd1 := fun o => kc (fr1 w3 o) d1
  have qd3 := fun o => kc (fr1 w3 o) d3
  have qy4 := fun o => kc (fr1 w3 o) y4
  have qt0 := fun o => kc (fr1 w3 o) t0
  have qt4 := fun o => kc (fr1 w3 o) t4
  skip
  have HLT3 := hid ((P3.out : Blk _ _ _ _).lt)
  have P0 := hid (show BG (w3.alloc (oJ 5 z A l c sp nx)) w.heap.size gc gs gn gl gk from (P0.out : Blk _ _ _ _).alloc _)
  have P1 := hid (P1.out.up (oJ 5 z A l c sp nx))
  have P2 := hid (P2.out.up (oJ 5 z A l c sp nx))
  have P3 := hid (P3.out.up (oJ 5 z A l c sp nx))
  have PT := hid (BJ.at_ (w := w3) 5 z A l c sp nx rfl)
  have HI := hid (HI.out.fr (fr1 w3 (oJ 5 z A l c sp nx)))
  have HF := hid (HF.out.alloc (oJ 5 z A l c sp nx))
  have hlt3 : w.heap.size + 1 + 1 + 1 < w3.heap.size := by have h := (P3.out : Blk _ _ _ _).lt; have := HLT3.out; omega
  clear c0 c1 c2 c3 c4 y3 y4 t4 d0 d1 d2 d3 t0
  go_wp2_with fail
  refine (ridle_ok _).mono ?_
  rintro r w4 ⟨rfl, f5⟩
  have HJ := hid (show tj = ⟨0, 255, tj.bs, 255, 0⟩ by rw [HTJ.out]; rfl)
  have HIL := hid (show InI w none 0 0 tj.bs by rw [HTJ.out]; exact InI.nil w)
  have HF := kf f5 HF
  have P0 := hid (show BG w4 w.heap.size gc gs gn gl gk from Blk.fr P0.out f5 (fun h => h))
  have P3 := hid (P3.out.fr f5)
  have PT := hid (PT.out.fr f5)
  have hwt : w.heap.size ≤ w3.heap.size := by omega
  have hn0 : w.heap.size ≠ w3.heap.size := by omega
  have hn3 : w.heap.size + 1 + 1 + 1 ≠ w3.heap.size := by omega
  clear f5
  go_upto_region 30 with ((with_reducible refine stJ rfl (.tmp 13) (.tmp 108) rfl w3.heap.size ?_ (st' := 0) (z' := 255) (A' := none) (l' := 0) (c' := 0) (sp' := 255) (nx' := 0) ?_ PT.out ?_); (· rfl); (· rfl); intro W5 hb hf; have PT := hid hb; have HF := kfg hwt HF hf; have P0 := hid (show BG W5 w.heap.size gc gs gn gl gk from Blk.fr P0.out hf hn0); have P3 := hid (P3.out.far hf hn3); clear hb hf)
  have HIN := hid (HIL.out.fr HF.out)
  go_wp2_with (first | ((with_reducible refine ld_geom rfl (.tmp 4) rfl w.heap.size ?_ P0.out ?_); · rfl) | ((with_reducible refine ldJ rfl (.tmp 13) rfl (w3.heap.size) ?_ PT.out ?_); · rfl))
  refine (HM.out (0) (255) (none) (0) (0) (255) (0) _ HIN.out).mono ?_
  rintro r w6 ⟨rfl, f6⟩
  rw [show mayB ⟨gc, gs, gn, gl, gk⟩ ⟨0, 255, tj.bs, 255, 0⟩ = mb by rw [← HMB.out, HJ.out]] at *
  have HF := kf f6 HF
  have P3 := hid (P3.out.fr f6)
  have PT := hid (PT.out.fr f6)
  clear f6 HM
  cases mb
  · go_wp2_with (((with_reducible refine stJ rfl (.tmp 8) (.tmp 113) rfl (w.heap.size + 1 + 1 + 1) ?_ (st' := 0) (z' := 0) (A' := none) (l' := 0) (c' := 0) (sp' := 0) (nx' := 0) ?_ P3.out ?_); (· rfl); (· rfl); intro W' hb hf; have HB := hid hb; have HF := kfg (by omega) HF hf; clear hb hf))
    exact bodyPost_ret (v := .tuple #[.agg #[.int .i64 0, .int .i64 0, .slice none 0 0, .int .i64 0, .int .i64 0], .int .i64 1]) (resJ2 rfl _ _ (w.heap.size + 1 + 1 + 1) 0 0 none 0 0 0 0 1 rfl rfl HB.out) rfl (RetB.mk (p := (zero, 1)) rfl (InI.nil w) HF.out)
  · go_wp2_with (first | ((with_reducible refine ldJ rfl (.tmp 13) rfl (w3.heap.size) ?_ PT.out ?_); · rfl) | ((with_reducible refine stJ rfl (.tmp 8) (.tmp 114) rfl (w.heap.size + 1 + 1 + 1) ?_ (st' := 0) (z' := 255) (A' := none) (l' := 0) (c' := 0) (sp' := 255) (nx' := 0) ?_ P3.out ?_); (· rfl); (· rfl); intro W' hb hf; have HB := hid hb; have HF := kfg (by omega) HF hf; clear hb hf))
    exact bodyPost_ret (v := .tuple #[.agg #[.int .i64 0, .int .i64 255, .slice none 0 0, .int .i64 255, .int .i64 0], .int .i64 0]) (resJ2 rfl _ _ (w.heap.size + 1 + 1 + 1) (0) (255) (none) (0) (0) (255) (0) 0 rfl rfl HB.out) rfl (RetB.mk (p := (tj, 0)) (by show (tj, (0 : Int)) = (⟨0, 255, tj.bs, 255, 0⟩, 0); rw [← HJ.out]) HIL.out HF.out)
end Go.Proofs.Ytgjcpepfggkieaa.ClSa
