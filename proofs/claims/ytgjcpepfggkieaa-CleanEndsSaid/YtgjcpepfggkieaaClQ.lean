/- Contract: what becomes of a job by anything that was done, by the document. Condition: lists that read as lists; numbers of 64 bits; the job may be. -/
import Derived.Test.YtgjcpepfggkieaaClL
import Derived.Test.YtgjcpepfggkieaaClF
namespace Go.Proofs.Ytgjcpepfggkieaa.ClQ
open Go.RowKit MSep MGeM GeA GeC GeD GeE GeEk PlA PlB ClM ClA ClE ClB ClC ClD ClF ClG ClH ClI ClJ ClK ClL

theorem rnext_ok2 (z : Int) (A : Option Addr) (l c : Nat) (bs : List Int) (w0 w : World) (h0 : InI w0 A l c bs) (hi : InI w A l c bs) :
    Calls Try.prog 73 #[.int .i64 z, .slice A l c] w fun r w' => ∃ st sp nx z' B m d, r = .returned (.agg #[.int .i64 st, .int .i64 z', .slice B m d, .int .i64 sp, .int .i64 nx]) ∧ nextJ z bs = ⟨st, z', (nextJ z bs).bs, sp, nx⟩ ∧ InI w0 B m d (nextJ z bs).bs ∧ Fr No w w' :=
  (rnext_ok z A l c bs w hi).mono fun _r _w' h => h.old h0
set_option maxRecDepth 100000 in
set_option maxHeartbeats 2000000 in
theorem ra_fail (gc gs gn gl gk : Int) (b d ch : Int) (st z : Int) (A : Option Addr) (l c : Nat) (sp nx : Int) (bs : List Int) (dz db : Int) (B : Option Addr) (m e : Nat) (ys : List Int) (w : World) (hs : -9223372036854775808 ≤ gs ∧ gs ≤ 9223372036854775807) (hm : mayG ⟨gc, gs, gn, gl, gk⟩) (hlb : (lay ⟨gc, gs, gn, gl, gk⟩).b = b ∧ (lay ⟨gc, gs, gn, gl, gk⟩).d = d) (hi : InI w A l c bs) (hy : InI w B m e ys) (ho : okJ (lay ⟨gc, gs, gn, gl, gk⟩).d ⟨st, z, bs, sp, nx⟩) (hc : 1 ≤ ch ∧ ch ≤ 1000000) :
    Calls Try.prog 40 #[.agg #[.int .i64 gc, .int .i64 gs, .int .i64 gn, .int .i64 gl, .int .i64 gk], .int .i64 ch, .agg #[.int .i64 st, .int .i64 z, .slice A l c, .int .i64 sp, .int .i64 nx], .agg #[.int .i64 7, .int .i64 dz, .int .i64 db, .slice B m e]] w fun r w' => RetB w (idle, 0) r w' := by
  have P0 := hid (show BG ((((w.alloc (bg gc gs gn gl gk)).alloc (oJ st z A l c sp nx)).alloc (oD 7 dz db B m e)).alloc (oJ 0 0 none 0 0 0 0)) w.heap.size gc gs gn gl gk from (BG3 w gc gs gn gl gk (oJ st z A l c sp nx) (oD 7 dz db B m e) : Blk _ _ _ _).alloc _)
  have P1 := hid (((BJ.at_ (w := w.alloc (bg gc gs gn gl gk)) (g := w.heap.size + 1) st z A l c sp nx (by simp)).up (oD 7 dz db B m e)).up (oJ 0 0 none 0 0 0 0))
  have P2 := hid ((BD.at_ (w := (w.alloc (bg gc gs gn gl gk)).alloc (oJ st z A l c sp nx)) (g := w.heap.size + 1 + 1) 7 dz db B m e (by simp)).up (oJ 0 0 none 0 0 0 0))
  have P3 := hid (BJ.at_ (w := ((w.alloc (bg gc gs gn gl gk)).alloc (oJ st z A l c sp nx)).alloc (oD 7 dz db B m e)) (g := w.heap.size + 1 + 1 + 1) 0 0 none 0 0 0 0 (by simp))
  have HF := hid ((((fr1 w (bg gc gs gn gl gk)).alloc (oJ st z A l c sp nx)).alloc (oD 7 dz db B m e)).alloc (oJ 0 0 none 0 0 0 0))
  have HIW := hid hi
  have HYW := hid hy
  have HI := hid (hi.fr HF.out)
  have HL := hid (fun W => rlayout_ok gc gs gn gl gk W hs)
  rw [rlo_yes hm] at HL
  have hgd := good hm.1
  have HWA := hid (fun W (h : InI W A l c bs) => rwants_ok gc gs gn gl gk ch st z A l c sp nx bs W hs hm h ho ⟨by omega, by omega⟩)
  obtain ⟨y, hy0⟩ : ∃ y, lay ⟨gc, gs, gn, gl, gk⟩ = y := ⟨_, rfl⟩
  rw [hy0] at HL HWA hlb hgd
  obtain ⟨ya, yr, yq, yb, yd, yt, yx, yu⟩ := y
  obtain ⟨hb1, hb2⟩ := hlb
  dsimp only at HL HWA hb1 hb2
  subst hb1 hb2
  obtain ⟨q, hq⟩ : ∃ q, wantJ yd ch ⟨st, z, bs, sp, nx⟩ = q := ⟨_, rfl⟩
  rw [hq] at HWA
  obtain ⟨q1, q2, q3, q4, q5⟩ := q
  dsimp only [tv] at HWA
  have HQ := hid hq
  have hd1 := hgd.d1
  have hd2 := hgd.d2
  dsimp only at hd1 hd2
  clear hi hy ho hm hgd hq
  go_enter Try.func40, Try.ntmps40
  go_wp2_with ((with_reducible refine ld_geom rfl (.tmp 4) rfl w.heap.size ?_ P0.out ?_); · rfl)
  refine (HL.out _).mono ?_
  rintro r w1 ⟨rfl, f1⟩
  have HF := hid ((HF.out.trans f1).alloc (by_ ya yr yq yb yd yt yx yu))
  have P0 := hid (show BG (w1.alloc (by_ ya yr yq yb yd yt yx yu)) w.heap.size gc gs gn gl gk from (Blk.fr P0.out f1 (fun h => h)).alloc _)
  have P1 := hid ((P1.out.fr f1).up (by_ ya yr yq yb yd yt yx yu))
  have P2 := hid ((P2.out.fr f1).up (by_ ya yr yq yb yd yt yx yu))
  have P3 := hid ((P3.out.fr f1).up (by_ ya yr yq yb yd yt yx yu))
  have P4 := hid (BL.new w1 ya yr yq yb yd yt yx yu)
  have HI := hid (HI.out.fr (f1.alloc (by_ ya yr yq yb yd yt yx yu)))
  obtain ⟨yl, hyl⟩ : ∃ x, w1.heap.size = x := ⟨_, rfl⟩
  have hyl2 : w.heap.size + 1 + 1 + 1 < yl := by have := HF.out.size; have h := (P3.out : Blk _ _ _ _).lt; have h2 := f1.size; simp at this h h2; omega
  clear f1 HL
  go_wp2_with (first | ((with_reducible refine ld_geom rfl (.tmp 4) rfl w.heap.size ?_ P0.out ?_); · rfl) | ((with_reducible refine ldJ rfl (.tmp 6) rfl (w.heap.size + 1) ?_ P1.out ?_); · rfl))
  refine (HWA.out _ HI.out).mono ?_
  rintro r w2 ⟨rfl, f2⟩
  have HF := hid ((HF.out.trans f2).alloc (oT q1 q2 q3 q4 q5))
  have P0 := hid (show BG (w2.alloc (oT q1 q2 q3 q4 q5)) w.heap.size gc gs gn gl gk from (Blk.fr P0.out f2 (fun h => h)).alloc _)
  have P1 := hid ((P1.out.fr f2).up (oT q1 q2 q3 q4 q5))
  have P2 := hid ((P2.out.fr f2).up (oT q1 q2 q3 q4 q5))
  have P3 := hid ((P3.out.fr f2).up (oT q1 q2 q3 q4 q5))
  have P4 := hid (show BL (w2.alloc (oT q1 q2 q3 q4 q5)) w1.heap.size ya yr yq yb yd yt yx yu from (Blk.fr P4.out f2 (fun h => h)).alloc _)
  have P5 := hid (BT.at_ (w := w2) q1 q2 q3 q4 q5 rfl)
  have HI := hid (HI.out.fr (f2.alloc (oT q1 q2 q3 q4 q5)))
  rw [hyl] at P4
  have hlt2 : w.heap.size + 1 + 1 + 1 < w2.heap.size := by have := f2.size; simp at this; omega
  clear f2 HWA
  obtain ⟨w3, hw3⟩ : ∃ x, w2.alloc (oT q1 q2 q3 q4 q5) = x := ⟨_, rfl⟩
  rw [hw3] at HF P0 P1 P2 P3 P4 P5 HI
  go_upto_region 3 with fail
  try rw [hw3]
  try rw [hyl]
  obtain ⟨tb, htb⟩ : ∃ x, w2.heap.size = x := ⟨_, rfl⟩
  rw [htb] at P5 hlt2
  try rw [htb]
  clear hw3 hyl htb
  obtain ⟨c0, c1, c2, c3, c4⟩ := P1.out.cells
  obtain ⟨d0, d1, d2, d3⟩ := P2.out.cells
  obtain ⟨y0, y1, y2, y3, y4, y5, y6, y7⟩ := P4.out.cells
  obtain ⟨t0, t1, t2, t3, t4⟩ := P5.out.cells
  clear y0 y1 y2 y5 y6 y7 t1 t2 t3
  go_wp2_with fail
  refine (ridle_ok _).mono ?_
  rintro r w4 ⟨rfl, f4⟩
  have HF := kf f4 HF
  have P3 := hid (P3.out.fr f4)
  clear f4
  go_wp2_with (((with_reducible refine stJ rfl (.tmp 8) (.tmp 27) rfl (w.heap.size + 1 + 1 + 1) ?_ (st' := 0) (z' := 255) (A' := none) (l' := 0) (c' := 0) (sp' := 255) (nx' := 0) ?_ P3.out ?_); (· rfl); (· rfl); intro W' hb hf; have HB := hid hb; have HF := kfg (by omega) HF hf; clear hb hf))
  exact bodyPost_ret (v := .tuple #[.agg #[.int .i64 0, .int .i64 255, .slice none 0 0, .int .i64 255, .int .i64 0], .int .i64 0]) (resJ2 rfl _ _ (w.heap.size + 1 + 1 + 1) 0 255 none 0 0 255 0 0 rfl rfl HB.out) rfl (RetB.mk (p := (idle, 0)) rfl (InI.nil w) HF.out)
set_option maxRecDepth 100000 in
set_option maxHeartbeats 2000000 in
theorem ra_out (gc gs gn gl gk : Int) (b d ch : Int) (st z : Int) (A : Option Addr) (l c : Nat) (sp nx : Int) (bs : List Int) (dz db : Int) (B : Option Addr) (m e : Nat) (ys : List Int) (w : World) (hs : -9223372036854775808 ≤ gs ∧ gs ≤ 9223372036854775807) (hm : mayG ⟨gc, gs, gn, gl, gk⟩) (hlb : (lay ⟨gc, gs, gn, gl, gk⟩).b = b ∧ (lay ⟨gc, gs, gn, gl, gk⟩).d = d) (hi : InI w A l c bs) (hy : InI w B m e ys) (ho : okJ (lay ⟨gc, gs, gn, gl, gk⟩).d ⟨st, z, bs, sp, nx⟩) (hc : 1 ≤ ch ∧ ch ≤ 1000000) (hb : ¬ (0 ≤ db ∧ db < b)) :
    Calls Try.prog 40 #[.agg #[.int .i64 gc, .int .i64 gs, .int .i64 gn, .int .i64 gl, .int .i64 gk], .int .i64 ch, .agg #[.int .i64 st, .int .i64 z, .slice A l c, .int .i64 sp, .int .i64 nx], .agg #[.int .i64 8, .int .i64 dz, .int .i64 db, .slice B m e]] w fun r w' => RetB w (zero, 1) r w' := by
  have P0 := hid (show BG ((((w.alloc (bg gc gs gn gl gk)).alloc (oJ st z A l c sp nx)).alloc (oD 8 dz db B m e)).alloc (oJ 0 0 none 0 0 0 0)) w.heap.size gc gs gn gl gk from (BG3 w gc gs gn gl gk (oJ st z A l c sp nx) (oD 8 dz db B m e) : Blk _ _ _ _).alloc _)
  have P1 := hid (((BJ.at_ (w := w.alloc (bg gc gs gn gl gk)) (g := w.heap.size + 1) st z A l c sp nx (by simp)).up (oD 8 dz db B m e)).up (oJ 0 0 none 0 0 0 0))
  have P2 := hid ((BD.at_ (w := (w.alloc (bg gc gs gn gl gk)).alloc (oJ st z A l c sp nx)) (g := w.heap.size + 1 + 1) 8 dz db B m e (by simp)).up (oJ 0 0 none 0 0 0 0))
  have P3 := hid (BJ.at_ (w := ((w.alloc (bg gc gs gn gl gk)).alloc (oJ st z A l c sp nx)).alloc (oD 8 dz db B m e)) (g := w.heap.size + 1 + 1 + 1) 0 0 none 0 0 0 0 (by simp))
  have HF := hid ((((fr1 w (bg gc gs gn gl gk)).alloc (oJ st z A l c sp nx)).alloc (oD 8 dz db B m e)).alloc (oJ 0 0 none 0 0 0 0))
  have HIW := hid hi
  have HYW := hid hy
  have HI := hid (hi.fr HF.out)
  have HL := hid (fun W => rlayout_ok gc gs gn gl gk W hs)
  rw [rlo_yes hm] at HL
  have hgd := good hm.1
  have HWA := hid (fun W (h : InI W A l c bs) => rwants_ok gc gs gn gl gk ch st z A l c sp nx bs W hs hm h ho ⟨by omega, by omega⟩)
  obtain ⟨y, hy0⟩ : ∃ y, lay ⟨gc, gs, gn, gl, gk⟩ = y := ⟨_, rfl⟩
  rw [hy0] at HL HWA hlb hgd
  obtain ⟨ya, yr, yq, yb, yd, yt, yx, yu⟩ := y
  obtain ⟨hb1, hb2⟩ := hlb
  dsimp only at HL HWA hb1 hb2
  subst hb1 hb2
  obtain ⟨q, hq⟩ : ∃ q, wantJ yd ch ⟨st, z, bs, sp, nx⟩ = q := ⟨_, rfl⟩
  rw [hq] at HWA
  obtain ⟨q1, q2, q3, q4, q5⟩ := q
  dsimp only [tv] at HWA
  have HQ := hid hq
  have hd1 := hgd.d1
  have hd2 := hgd.d2
  dsimp only at hd1 hd2
  clear hi hy ho hm hgd hq
  by_cases h1 : db < 0
  · go_enter Try.func40, Try.ntmps40
    go_wp2_with ((with_reducible refine ld_geom rfl (.tmp 4) rfl w.heap.size ?_ P0.out ?_); · rfl)
    refine (HL.out _).mono ?_
    rintro r w1 ⟨rfl, f1⟩
    have HF := hid ((HF.out.trans f1).alloc (by_ ya yr yq yb yd yt yx yu))
    have P0 := hid (show BG (w1.alloc (by_ ya yr yq yb yd yt yx yu)) w.heap.size gc gs gn gl gk from (Blk.fr P0.out f1 (fun h => h)).alloc _)
    have P1 := hid ((P1.out.fr f1).up (by_ ya yr yq yb yd yt yx yu))
    have P2 := hid ((P2.out.fr f1).up (by_ ya yr yq yb yd yt yx yu))
    have P3 := hid ((P3.out.fr f1).up (by_ ya yr yq yb yd yt yx yu))
    have P4 := hid (BL.new w1 ya yr yq yb yd yt yx yu)
    have HI := hid (HI.out.fr (f1.alloc (by_ ya yr yq yb yd yt yx yu)))
    obtain ⟨yl, hyl⟩ : ∃ x, w1.heap.size = x := ⟨_, rfl⟩
    have hyl2 : w.heap.size + 1 + 1 + 1 < yl := by have := HF.out.size; have h := (P3.out : Blk _ _ _ _).lt; have h2 := f1.size; simp at this h h2; omega
    clear f1 HL
    go_wp2_with (first | ((with_reducible refine ld_geom rfl (.tmp 4) rfl w.heap.size ?_ P0.out ?_); · rfl) | ((with_reducible refine ldJ rfl (.tmp 6) rfl (w.heap.size + 1) ?_ P1.out ?_); · rfl))
    refine (HWA.out _ HI.out).mono ?_
    rintro r w2 ⟨rfl, f2⟩
    have HF := hid ((HF.out.trans f2).alloc (oT q1 q2 q3 q4 q5))
    have P0 := hid (show BG (w2.alloc (oT q1 q2 q3 q4 q5)) w.heap.size gc gs gn gl gk from (Blk.fr P0.out f2 (fun h => h)).alloc _)
    have P1 := hid ((P1.out.fr f2).up (oT q1 q2 q3 q4 q5))
    have P2 := hid ((P2.out.fr f2).up (oT q1 q2 q3 q4 q5))
    have P3 := hid ((P3.out.fr f2).up (oT q1 q2 q3 q4 q5))
    have P4 := hid (show BL (w2.alloc (oT q1 q2 q3 q4 q5)) w1.heap.size ya yr yq yb yd yt yx yu from (Blk.fr P4.out f2 (fun h => h)).alloc _)
    have P5 := hid (BT.at_ (w := w2) q1 q2 q3 q4 q5 rfl)
    have HI := hid (HI.out.fr (f2.alloc (oT q1 q2 q3 q4 q5)))
    rw [hyl] at P4
    have hlt2 : w.heap.size + 1 + 1 + 1 < w2.heap.size := by have := f2.size; simp at this; omega
    clear f2 HWA
    obtain ⟨w3, hw3⟩ : ∃ x, w2.alloc (oT q1 q2 q3 q4 q5) = x := ⟨_, rfl⟩
    rw [hw3] at HF P0 P1 P2 P3 P4 P5 HI
    go_upto_region 3 with fail
    try rw [hw3]
    try rw [hyl]
    obtain ⟨tb, htb⟩ : ∃ x, w2.heap.size = x := ⟨_, rfl⟩
    rw [htb] at P5 hlt2
    try rw [htb]
    clear hw3 hyl htb
    obtain ⟨c0, c1, c2, c3, c4⟩ := P1.out.cells
    obtain ⟨d0, d1, d2, d3⟩ := P2.out.cells
    obtain ⟨y0, y1, y2, y3, y4, y5, y6, y7⟩ := P4.out.cells
    obtain ⟨t0, t1, t2, t3, t4⟩ := P5.out.cells
    clear y0 y1 y2 y5 y6 y7 t1 t2 t3
    go_wp2_with (((with_reducible refine stJ rfl (.tmp 8) (.tmp 40) rfl (w.heap.size + 1 + 1 + 1) ?_ (st' := 0) (z' := 0) (A' := none) (l' := 0) (c' := 0) (sp' := 0) (nx' := 0) ?_ P3.out ?_); (· rfl); (· rfl); intro W' hb hf; have HB := hid hb; have HF := kfg (by omega) HF hf; clear hb hf))
    exact bodyPost_ret (v := .tuple #[.agg #[.int .i64 0, .int .i64 0, .slice none 0 0, .int .i64 0, .int .i64 0], .int .i64 1]) (resJ2 rfl _ _ (w.heap.size + 1 + 1 + 1) 0 0 none 0 0 0 0 1 rfl rfl HB.out) rfl (RetB.mk (p := (zero, 1)) rfl (InI.nil w) HF.out)
  · have h2 : yb ≤ db := by omega
    go_enter Try.func40, Try.ntmps40
    go_wp2_with ((with_reducible refine ld_geom rfl (.tmp 4) rfl w.heap.size ?_ P0.out ?_); · rfl)
    refine (HL.out _).mono ?_
    rintro r w1 ⟨rfl, f1⟩
    have HF := hid ((HF.out.trans f1).alloc (by_ ya yr yq yb yd yt yx yu))
    have P0 := hid (show BG (w1.alloc (by_ ya yr yq yb yd yt yx yu)) w.heap.size gc gs gn gl gk from (Blk.fr P0.out f1 (fun h => h)).alloc _)
    have P1 := hid ((P1.out.fr f1).up (by_ ya yr yq yb yd yt yx yu))
    have P2 := hid ((P2.out.fr f1).up (by_ ya yr yq yb yd yt yx yu))
    have P3 := hid ((P3.out.fr f1).up (by_ ya yr yq yb yd yt yx yu))
    have P4 := hid (BL.new w1 ya yr yq yb yd yt yx yu)
    have HI := hid (HI.out.fr (f1.alloc (by_ ya yr yq yb yd yt yx yu)))
    obtain ⟨yl, hyl⟩ : ∃ x, w1.heap.size = x := ⟨_, rfl⟩
    have hyl2 : w.heap.size + 1 + 1 + 1 < yl := by have := HF.out.size; have h := (P3.out : Blk _ _ _ _).lt; have h2 := f1.size; simp at this h h2; omega
    clear f1 HL
    go_wp2_with (first | ((with_reducible refine ld_geom rfl (.tmp 4) rfl w.heap.size ?_ P0.out ?_); · rfl) | ((with_reducible refine ldJ rfl (.tmp 6) rfl (w.heap.size + 1) ?_ P1.out ?_); · rfl))
    refine (HWA.out _ HI.out).mono ?_
    rintro r w2 ⟨rfl, f2⟩
    have HF := hid ((HF.out.trans f2).alloc (oT q1 q2 q3 q4 q5))
    have P0 := hid (show BG (w2.alloc (oT q1 q2 q3 q4 q5)) w.heap.size gc gs gn gl gk from (Blk.fr P0.out f2 (fun h => h)).alloc _)
    have P1 := hid ((P1.out.fr f2).up (oT q1 q2 q3 q4 q5))
    have P2 := hid ((P2.out.fr f2).up (oT q1 q2 q3 q4 q5))
    have P3 := hid ((P3.out.fr f2).up (oT q1 q2 q3 q4 q5))
    have P4 := hid (show BL (w2.alloc (oT q1 q2 q3 q4 q5)) w1.heap.size ya yr yq yb yd yt yx yu from (Blk.fr P4.out f2 (fun h => h)).alloc _)
    have P5 := hid (BT.at_ (w := w2) q1 q2 q3 q4 q5 rfl)
    have HI := hid (HI.out.fr (f2.alloc (oT q1 q2 q3 q4 q5)))
    rw [hyl] at P4
    have hlt2 : w.heap.size + 1 + 1 + 1 < w2.heap.size := by have := f2.size; simp at this; omega
    clear f2 HWA
    obtain ⟨w3, hw3⟩ : ∃ x, w2.alloc (oT q1 q2 q3 q4 q5) = x := ⟨_, rfl⟩
    rw [hw3] at HF P0 P1 P2 P3 P4 P5 HI
    go_upto_region 3 with fail
    try rw [hw3]
    try rw [hyl]
    obtain ⟨tb, htb⟩ : ∃ x, w2.heap.size = x := ⟨_, rfl⟩
    rw [htb] at P5 hlt2
    try rw [htb]
    clear hw3 hyl htb
    obtain ⟨c0, c1, c2, c3, c4⟩ := P1.out.cells
    obtain ⟨d0, d1, d2, d3⟩ := P2.out.cells
    obtain ⟨y0, y1, y2, y3, y4, y5, y6, y7⟩ := P4.out.cells
    obtain ⟨t0, t1, t2, t3, t4⟩ := P5.out.cells
    clear y0 y1 y2 y5 y6 y7 t1 t2 t3
    go_wp2_with (((with_reducible refine stJ rfl (.tmp 8) (.tmp 40) rfl (w.heap.size + 1 + 1 + 1) ?_ (st' := 0) (z' := 0) (A' := none) (l' := 0) (c' := 0) (sp' := 0) (nx' := 0) ?_ P3.out ?_); (· rfl); (· rfl); intro W' hb hf; have HB := hid hb; have HF := kfg (by omega) HF hf; clear hb hf))
    exact bodyPost_ret (v := .tuple #[.agg #[.int .i64 0, .int .i64 0, .slice none 0 0, .int .i64 0, .int .i64 0], .int .i64 1]) (resJ2 rfl _ _ (w.heap.size + 1 + 1 + 1) 0 0 none 0 0 0 0 1 rfl rfl HB.out) rfl (RetB.mk (p := (zero, 1)) rfl (InI.nil w) HF.out)
set_option maxRecDepth 100000 in
set_option maxHeartbeats 2000000 in
theorem ra_stay (gc gs gn gl gk : Int) (b d ch : Int) (st z : Int) (A : Option Addr) (l c : Nat) (sp nx : Int) (bs : List Int) (dz db : Int) (B : Option Addr) (m e : Nat) (ys : List Int) (w : World) (hs : -9223372036854775808 ≤ gs ∧ gs ≤ 9223372036854775807) (hm : mayG ⟨gc, gs, gn, gl, gk⟩) (hlb : (lay ⟨gc, gs, gn, gl, gk⟩).b = b ∧ (lay ⟨gc, gs, gn, gl, gk⟩).d = d) (hi : InI w A l c bs) (hy : InI w B m e ys) (ho : okJ (lay ⟨gc, gs, gn, gl, gk⟩).d ⟨st, z, bs, sp, nx⟩) (hc : 1 ≤ ch ∧ ch ≤ 1000000) (hb : 0 ≤ db ∧ db < b) (h5 : sp = 255) :
    Calls Try.prog 40 #[.agg #[.int .i64 gc, .int .i64 gs, .int .i64 gn, .int .i64 gl, .int .i64 gk], .int .i64 ch, .agg #[.int .i64 st, .int .i64 z, .slice A l c, .int .i64 sp, .int .i64 nx], .agg #[.int .i64 8, .int .i64 dz, .int .i64 db, .slice B m e]] w fun r w' => RetB w (⟨st, z, bs, sp, nx⟩, 0) r w' := by
  have P0 := hid (show BG ((((w.alloc (bg gc gs gn gl gk)).alloc (oJ st z A l c sp nx)).alloc (oD 8 dz db B m e)).alloc (oJ 0 0 none 0 0 0 0)) w.heap.size gc gs gn gl gk from (BG3 w gc gs gn gl gk (oJ st z A l c sp nx) (oD 8 dz db B m e) : Blk _ _ _ _).alloc _)
  have P1 := hid (((BJ.at_ (w := w.alloc (bg gc gs gn gl gk)) (g := w.heap.size + 1) st z A l c sp nx (by simp)).up (oD 8 dz db B m e)).up (oJ 0 0 none 0 0 0 0))
  have P2 := hid ((BD.at_ (w := (w.alloc (bg gc gs gn gl gk)).alloc (oJ st z A l c sp nx)) (g := w.heap.size + 1 + 1) 8 dz db B m e (by simp)).up (oJ 0 0 none 0 0 0 0))
  have P3 := hid (BJ.at_ (w := ((w.alloc (bg gc gs gn gl gk)).alloc (oJ st z A l c sp nx)).alloc (oD 8 dz db B m e)) (g := w.heap.size + 1 + 1 + 1) 0 0 none 0 0 0 0 (by simp))
  have HF := hid ((((fr1 w (bg gc gs gn gl gk)).alloc (oJ st z A l c sp nx)).alloc (oD 8 dz db B m e)).alloc (oJ 0 0 none 0 0 0 0))
  have HIW := hid hi
  have HYW := hid hy
  have HI := hid (hi.fr HF.out)
  have HL := hid (fun W => rlayout_ok gc gs gn gl gk W hs)
  rw [rlo_yes hm] at HL
  have hgd := good hm.1
  have HWA := hid (fun W (h : InI W A l c bs) => rwants_ok gc gs gn gl gk ch st z A l c sp nx bs W hs hm h ho ⟨by omega, by omega⟩)
  obtain ⟨y, hy0⟩ : ∃ y, lay ⟨gc, gs, gn, gl, gk⟩ = y := ⟨_, rfl⟩
  rw [hy0] at HL HWA hlb hgd
  obtain ⟨ya, yr, yq, yb, yd, yt, yx, yu⟩ := y
  obtain ⟨hb1, hb2⟩ := hlb
  dsimp only at HL HWA hb1 hb2
  subst hb1 hb2
  obtain ⟨q, hq⟩ : ∃ q, wantJ yd ch ⟨st, z, bs, sp, nx⟩ = q := ⟨_, rfl⟩
  rw [hq] at HWA
  obtain ⟨q1, q2, q3, q4, q5⟩ := q
  dsimp only [tv] at HWA
  have HQ := hid hq
  have hd1 := hgd.d1
  have hd2 := hgd.d2
  dsimp only at hd1 hd2
  clear hi hy ho hm hgd hq
  obtain ⟨h1, h2⟩ := hb
  have e5 : (sp != 255) = false := by simpa using h5
  have e6 : (sp == 255) = true := by simpa using h5
  clear h5
  go_enter Try.func40, Try.ntmps40
  go_wp2_with ((with_reducible refine ld_geom rfl (.tmp 4) rfl w.heap.size ?_ P0.out ?_); · rfl)
  refine (HL.out _).mono ?_
  rintro r w1 ⟨rfl, f1⟩
  have HF := hid ((HF.out.trans f1).alloc (by_ ya yr yq yb yd yt yx yu))
  have P0 := hid (show BG (w1.alloc (by_ ya yr yq yb yd yt yx yu)) w.heap.size gc gs gn gl gk from (Blk.fr P0.out f1 (fun h => h)).alloc _)
  have P1 := hid ((P1.out.fr f1).up (by_ ya yr yq yb yd yt yx yu))
  have P2 := hid ((P2.out.fr f1).up (by_ ya yr yq yb yd yt yx yu))
  have P3 := hid ((P3.out.fr f1).up (by_ ya yr yq yb yd yt yx yu))
  have P4 := hid (BL.new w1 ya yr yq yb yd yt yx yu)
  have HI := hid (HI.out.fr (f1.alloc (by_ ya yr yq yb yd yt yx yu)))
  obtain ⟨yl, hyl⟩ : ∃ x, w1.heap.size = x := ⟨_, rfl⟩
  have hyl2 : w.heap.size + 1 + 1 + 1 < yl := by have := HF.out.size; have h := (P3.out : Blk _ _ _ _).lt; have h2 := f1.size; simp at this h h2; omega
  clear f1 HL
  go_wp2_with (first | ((with_reducible refine ld_geom rfl (.tmp 4) rfl w.heap.size ?_ P0.out ?_); · rfl) | ((with_reducible refine ldJ rfl (.tmp 6) rfl (w.heap.size + 1) ?_ P1.out ?_); · rfl))
  refine (HWA.out _ HI.out).mono ?_
  rintro r w2 ⟨rfl, f2⟩
  have HF := hid ((HF.out.trans f2).alloc (oT q1 q2 q3 q4 q5))
  have P0 := hid (show BG (w2.alloc (oT q1 q2 q3 q4 q5)) w.heap.size gc gs gn gl gk from (Blk.fr P0.out f2 (fun h => h)).alloc _)
  have P1 := hid ((P1.out.fr f2).up (oT q1 q2 q3 q4 q5))
  have P2 := hid ((P2.out.fr f2).up (oT q1 q2 q3 q4 q5))
  have P3 := hid ((P3.out.fr f2).up (oT q1 q2 q3 q4 q5))
  have P4 := hid (show BL (w2.alloc (oT q1 q2 q3 q4 q5)) w1.heap.size ya yr yq yb yd yt yx yu from (Blk.fr P4.out f2 (fun h => h)).alloc _)
  have P5 := hid (BT.at_ (w := w2) q1 q2 q3 q4 q5 rfl)
  have HI := hid (HI.out.fr (f2.alloc (oT q1 q2 q3 q4 q5)))
  rw [hyl] at P4
  have hlt2 : w.heap.size + 1 + 1 + 1 < w2.heap.size := by have := f2.size; simp at this; omega
  clear f2 HWA
  obtain ⟨w3, hw3⟩ : ∃ x, w2.alloc (oT q1 q2 q3 q4 q5) = x := ⟨_, rfl⟩
  rw [hw3] at HF P0 P1 P2 P3 P4 P5 HI
  go_upto_region 3 with fail
  try rw [hw3]
  try rw [hyl]
  obtain ⟨tb, htb⟩ : ∃ x, w2.heap.size = x := ⟨_, rfl⟩
  rw [htb] at P5 hlt2
  try rw [htb]
  clear hw3 hyl htb
  obtain ⟨c0, c1, c2, c3, c4⟩ := P1.out.cells
  obtain ⟨d0, d1, d2, d3⟩ := P2.out.cells
  obtain ⟨y0, y1, y2, y3, y4, y5, y6, y7⟩ := P4.out.cells
  obtain ⟨t0, t1, t2, t3, t4⟩ := P5.out.cells
  clear y0 y1 y2 y5 y6 y7 t1 t2 t3
  go_upto_region 9 with fail
  go_cut [52] (fun v wx => v = .bool false ∧ Fr No w3 wx)
  case first =>
    go_quiet (fail)
    go_wp2_with fail
    go_meet
    case rel => exact ⟨rfl, Fr.drewN (Fr.refl No _) _⟩
  case rest =>
  obtain ⟨rfl, f4⟩ := hcut
  have HF := kf f4 HF
  have HI := hid (HI.out.fr f4)
  have P0 := hid (show BG wc w.heap.size gc gs gn gl gk from Blk.fr P0.out f4 (fun h => h))
  have P1 := hid (P1.out.fr f4)
  have P2 := hid (P2.out.fr f4)
  have P3 := hid (P3.out.fr f4)
  have P4 := hid (show BL wc yl ya yr yq yb yd yt yx yu from Blk.fr P4.out f4 (fun h => h))
  have P5 := hid (P5.out.fr f4)
  clear c0 c1 c2 c3 c4 d0 d1 d2 d3 y3 y4 t0 t4 f4
  obtain ⟨c0, c1, c2, c3, c4⟩ := P1.out.cells
  go_wp2_with (first | ((with_reducible refine ldJ rfl (.tmp 6) rfl (w.heap.size + 1) ?_ P1.out ?_); · rfl) | ((with_reducible refine stJ rfl (.tmp 8) (.tmp 58) rfl (w.heap.size + 1 + 1 + 1) ?_ (st' := st) (z' := z) (A' := A) (l' := l) (c' := c) (sp' := sp) (nx' := nx) ?_ P3.out ?_); (· rfl); (· rfl); intro W' hb hf; have HB := hid hb; have HF := kfg (by omega) HF hf; clear hb hf))
  exact bodyPost_ret (v := .tuple #[.agg #[.int .i64 st, .int .i64 z, .slice A l c, .int .i64 sp, .int .i64 nx], .int .i64 0]) (resJ2 rfl _ _ (w.heap.size + 1 + 1 + 1) st z A l c sp nx 0 rfl rfl HB.out) rfl (RetB.mk (p := (⟨st, z, bs, sp, nx⟩, 0)) rfl HIW.out HF.out)
set_option maxRecDepth 100000 in
set_option maxHeartbeats 2000000 in
theorem ra_other (gc gs gn gl gk : Int) (b d ch : Int) (st z : Int) (A : Option Addr) (l c : Nat) (sp nx : Int) (bs : List Int) (dz db : Int) (B : Option Addr) (m e : Nat) (ys : List Int) (w : World) (hs : -9223372036854775808 ≤ gs ∧ gs ≤ 9223372036854775807) (hm : mayG ⟨gc, gs, gn, gl, gk⟩) (hlb : (lay ⟨gc, gs, gn, gl, gk⟩).b = b ∧ (lay ⟨gc, gs, gn, gl, gk⟩).d = d) (hi : InI w A l c bs) (hy : InI w B m e ys) (ho : okJ (lay ⟨gc, gs, gn, gl, gk⟩).d ⟨st, z, bs, sp, nx⟩) (hc : 1 ≤ ch ∧ ch ≤ 1000000) (hb : 0 ≤ db ∧ db < b) (h5 : sp ≠ 255) (hne : bs ≠ []) (hx0 : bs.headD 0 ≠ db) :
    Calls Try.prog 40 #[.agg #[.int .i64 gc, .int .i64 gs, .int .i64 gn, .int .i64 gl, .int .i64 gk], .int .i64 ch, .agg #[.int .i64 st, .int .i64 z, .slice A l c, .int .i64 sp, .int .i64 nx], .agg #[.int .i64 8, .int .i64 dz, .int .i64 db, .slice B m e]] w fun r w' => RetB w (⟨st, z, bs, sp, nx⟩, 0) r w' := by
  have P0 := hid (show BG ((((w.alloc (bg gc gs gn gl gk)).alloc (oJ st z A l c sp nx)).alloc (oD 8 dz db B m e)).alloc (oJ 0 0 none 0 0 0 0)) w.heap.size gc gs gn gl gk from (BG3 w gc gs gn gl gk (oJ st z A l c sp nx) (oD 8 dz db B m e) : Blk _ _ _ _).alloc _)
  have P1 := hid (((BJ.at_ (w := w.alloc (bg gc gs gn gl gk)) (g := w.heap.size + 1) st z A l c sp nx (by simp)).up (oD 8 dz db B m e)).up (oJ 0 0 none 0 0 0 0))
  have P2 := hid ((BD.at_ (w := (w.alloc (bg gc gs gn gl gk)).alloc (oJ st z A l c sp nx)) (g := w.heap.size + 1 + 1) 8 dz db B m e (by simp)).up (oJ 0 0 none 0 0 0 0))
  have P3 := hid (BJ.at_ (w := ((w.alloc (bg gc gs gn gl gk)).alloc (oJ st z A l c sp nx)).alloc (oD 8 dz db B m e)) (g := w.heap.size + 1 + 1 + 1) 0 0 none 0 0 0 0 (by simp))
  have HF := hid ((((fr1 w (bg gc gs gn gl gk)).alloc (oJ st z A l c sp nx)).alloc (oD 8 dz db B m e)).alloc (oJ 0 0 none 0 0 0 0))
  have HIW := hid hi
  have HYW := hid hy
  have HI := hid (hi.fr HF.out)
  have HL := hid (fun W => rlayout_ok gc gs gn gl gk W hs)
  rw [rlo_yes hm] at HL
  have hgd := good hm.1
  have HWA := hid (fun W (h : InI W A l c bs) => rwants_ok gc gs gn gl gk ch st z A l c sp nx bs W hs hm h ho ⟨by omega, by omega⟩)
  obtain ⟨y, hy0⟩ : ∃ y, lay ⟨gc, gs, gn, gl, gk⟩ = y := ⟨_, rfl⟩
  rw [hy0] at HL HWA hlb hgd
  obtain ⟨ya, yr, yq, yb, yd, yt, yx, yu⟩ := y
  obtain ⟨hb1, hb2⟩ := hlb
  dsimp only at HL HWA hb1 hb2
  subst hb1 hb2
  obtain ⟨q, hq⟩ : ∃ q, wantJ yd ch ⟨st, z, bs, sp, nx⟩ = q := ⟨_, rfl⟩
  rw [hq] at HWA
  obtain ⟨q1, q2, q3, q4, q5⟩ := q
  dsimp only [tv] at HWA
  have HQ := hid hq
  have hd1 := hgd.d1
  have hd2 := hgd.d2
  dsimp only at hd1 hd2
  clear hi hy ho hm hgd hq
  obtain ⟨h1, h2⟩ := hb
  have e5 : (sp != 255) = true := by simpa using h5
  have e6 : (sp == 255) = false := by simpa using h5
  have HNE := hid hne
  have HX0 := hid hx0
  clear h5 hne hx0
  go_enter Try.func40, Try.ntmps40
  go_wp2_with ((with_reducible refine ld_geom rfl (.tmp 4) rfl w.heap.size ?_ P0.out ?_); · rfl)
  refine (HL.out _).mono ?_
  rintro r w1 ⟨rfl, f1⟩
  have HF := hid ((HF.out.trans f1).alloc (by_ ya yr yq yb yd yt yx yu))
  have P0 := hid (show BG (w1.alloc (by_ ya yr yq yb yd yt yx yu)) w.heap.size gc gs gn gl gk from (Blk.fr P0.out f1 (fun h => h)).alloc _)
  have P1 := hid ((P1.out.fr f1).up (by_ ya yr yq yb yd yt yx yu))
  have P2 := hid ((P2.out.fr f1).up (by_ ya yr yq yb yd yt yx yu))
  have P3 := hid ((P3.out.fr f1).up (by_ ya yr yq yb yd yt yx yu))
  have P4 := hid (BL.new w1 ya yr yq yb yd yt yx yu)
  have HI := hid (HI.out.fr (f1.alloc (by_ ya yr yq yb yd yt yx yu)))
  obtain ⟨yl, hyl⟩ : ∃ x, w1.heap.size = x := ⟨_, rfl⟩
  have hyl2 : w.heap.size + 1 + 1 + 1 < yl := by have := HF.out.size; have h := (P3.out : Blk _ _ _ _).lt; have h2 := f1.size; simp at this h h2; omega
  clear f1 HL
  go_wp2_with (first | ((with_reducible refine ld_geom rfl (.tmp 4) rfl w.heap.size ?_ P0.out ?_); · rfl) | ((with_reducible refine ldJ rfl (.tmp 6) rfl (w.heap.size + 1) ?_ P1.out ?_); · rfl))
  refine (HWA.out _ HI.out).mono ?_
  rintro r w2 ⟨rfl, f2⟩
  have HF := hid ((HF.out.trans f2).alloc (oT q1 q2 q3 q4 q5))
  have P0 := hid (show BG (w2.alloc (oT q1 q2 q3 q4 q5)) w.heap.size gc gs gn gl gk from (Blk.fr P0.out f2 (fun h => h)).alloc _)
  have P1 := hid ((P1.out.fr f2).up (oT q1 q2 q3 q4 q5))
  have P2 := hid ((P2.out.fr f2).up (oT q1 q2 q3 q4 q5))
  have P3 := hid ((P3.out.fr f2).up (oT q1 q2 q3 q4 q5))
  have P4 := hid (show BL (w2.alloc (oT q1 q2 q3 q4 q5)) w1.heap.size ya yr yq yb yd yt yx yu from (Blk.fr P4.out f2 (fun h => h)).alloc _)
  have P5 := hid (BT.at_ (w := w2) q1 q2 q3 q4 q5 rfl)
  have HI := hid (HI.out.fr (f2.alloc (oT q1 q2 q3 q4 q5)))
  rw [hyl] at P4
  have hlt2 : w.heap.size + 1 + 1 + 1 < w2.heap.size := by have := f2.size; simp at this; omega
  clear f2 HWA
  obtain ⟨w3, hw3⟩ : ∃ x, w2.alloc (oT q1 q2 q3 q4 q5) = x := ⟨_, rfl⟩
  rw [hw3] at HF P0 P1 P2 P3 P4 P5 HI
  go_upto_region 3 with fail
  try rw [hw3]
  try rw [hyl]
  obtain ⟨tb, htb⟩ : ∃ x, w2.heap.size = x := ⟨_, rfl⟩
  rw [htb] at P5 hlt2
  try rw [htb]
  clear hw3 hyl htb
  obtain ⟨c0, c1, c2, c3, c4⟩ := P1.out.cells
  obtain ⟨d0, d1, d2, d3⟩ := P2.out.cells
  obtain ⟨y0, y1, y2, y3, y4, y5, y6, y7⟩ := P4.out.cells
  obtain ⟨t0, t1, t2, t3, t4⟩ := P5.out.cells
  clear y0 y1 y2 y5 y6 y7 t1 t2 t3
  have HFK := HF
  have P0K := P0
  have P2K := P2
  have P3K := P3
  have P4K := P4
  have P5K := P5
  have hne := HNE.out
  obtain ⟨g, o, hA, hl, hc⟩ := HI.out.head hne
  obtain ⟨x, hx⟩ : ∃ x, bs.headD 0 = x := ⟨_, rfl⟩
  rw [hx] at hc
  have hl2 : (0 : Int) < l := by omega
  have hxe := hid hx
  subst hA
  have HF := HFK
  have P0 := P0K
  have P2 := P2K
  have P3 := P3K
  have P4 := P4K
  have P5 := P5K
  clear hne hx
  have e7 : (x == db) = false := by
    have : x ≠ db := by rw [← hxe.out]; exact HX0.out
    simpa using this
  go_upto_region 9 with fail
  go_cut [52] (fun v wx => v = .bool false ∧ Fr No w3 wx)
  case first =>
    go_quiet (fail)
    go_wp2_with fail
    go_meet
    case rel => exact ⟨rfl, Fr.drewN (Fr.refl No _) _⟩
  case rest =>
  obtain ⟨rfl, f4⟩ := hcut
  have HF := kf f4 HF
  have HI := hid (HI.out.fr f4)
  have P0 := hid (show BG wc w.heap.size gc gs gn gl gk from Blk.fr P0.out f4 (fun h => h))
  have P1 := hid (P1.out.fr f4)
  have P2 := hid (P2.out.fr f4)
  have P3 := hid (P3.out.fr f4)
  have P4 := hid (show BL wc yl ya yr yq yb yd yt yx yu from Blk.fr P4.out f4 (fun h => h))
  have P5 := hid (P5.out.fr f4)
  clear c0 c1 c2 c3 c4 d0 d1 d2 d3 y3 y4 t0 t4 f4
  obtain ⟨c0, c1, c2, c3, c4⟩ := P1.out.cells
  go_wp2_with (first | ((with_reducible refine ldJ rfl (.tmp 6) rfl (w.heap.size + 1) ?_ P1.out ?_); · rfl) | ((with_reducible refine stJ rfl (.tmp 8) (.tmp 58) rfl (w.heap.size + 1 + 1 + 1) ?_ (st' := st) (z' := z) (A' := (some ⟨g, o, none⟩)) (l' := l) (c' := c) (sp' := sp) (nx' := nx) ?_ P3.out ?_); (· rfl); (· rfl); intro W' hb hf; have HB := hid hb; have HF := kfg (by omega) HF hf; clear hb hf))
  exact bodyPost_ret (v := .tuple #[.agg #[.int .i64 st, .int .i64 z, .slice (some ⟨g, o, none⟩) l c, .int .i64 sp, .int .i64 nx], .int .i64 0]) (resJ2 rfl _ _ (w.heap.size + 1 + 1 + 1) st z (some ⟨g, o, none⟩) l c sp nx 0 rfl rfl HB.out) rfl (RetB.mk (p := (⟨st, z, bs, sp, nx⟩, 0)) rfl HIW.out HF.out)
set_option maxRecDepth 100000 in
set_option maxHeartbeats 2000000 in
theorem ra_next (gc gs gn gl gk : Int) (b d ch : Int) (st z : Int) (A : Option Addr) (l c : Nat) (sp nx : Int) (bs : List Int) (dz db : Int) (B : Option Addr) (m e : Nat) (ys : List Int) (w : World) (hs : -9223372036854775808 ≤ gs ∧ gs ≤ 9223372036854775807) (hm : mayG ⟨gc, gs, gn, gl, gk⟩) (hlb : (lay ⟨gc, gs, gn, gl, gk⟩).b = b ∧ (lay ⟨gc, gs, gn, gl, gk⟩).d = d) (hi : InI w A l c bs) (hy : InI w B m e ys) (ho : okJ (lay ⟨gc, gs, gn, gl, gk⟩).d ⟨st, z, bs, sp, nx⟩) (hc : 1 ≤ ch ∧ ch ≤ 1000000) (hb : 0 ≤ db ∧ db < b) (h5 : sp ≠ 255) (hne : bs ≠ []) (hx0 : bs.headD 0 = db) :
    Calls Try.prog 40 #[.agg #[.int .i64 gc, .int .i64 gs, .int .i64 gn, .int .i64 gl, .int .i64 gk], .int .i64 ch, .agg #[.int .i64 st, .int .i64 z, .slice A l c, .int .i64 sp, .int .i64 nx], .agg #[.int .i64 8, .int .i64 dz, .int .i64 db, .slice B m e]] w fun r w' => RetB w (nextJ z bs, 0) r w' := by
  have P0 := hid (show BG ((((w.alloc (bg gc gs gn gl gk)).alloc (oJ st z A l c sp nx)).alloc (oD 8 dz db B m e)).alloc (oJ 0 0 none 0 0 0 0)) w.heap.size gc gs gn gl gk from (BG3 w gc gs gn gl gk (oJ st z A l c sp nx) (oD 8 dz db B m e) : Blk _ _ _ _).alloc _)
  have P1 := hid (((BJ.at_ (w := w.alloc (bg gc gs gn gl gk)) (g := w.heap.size + 1) st z A l c sp nx (by simp)).up (oD 8 dz db B m e)).up (oJ 0 0 none 0 0 0 0))
  have P2 := hid ((BD.at_ (w := (w.alloc (bg gc gs gn gl gk)).alloc (oJ st z A l c sp nx)) (g := w.heap.size + 1 + 1) 8 dz db B m e (by simp)).up (oJ 0 0 none 0 0 0 0))
  have P3 := hid (BJ.at_ (w := ((w.alloc (bg gc gs gn gl gk)).alloc (oJ st z A l c sp nx)).alloc (oD 8 dz db B m e)) (g := w.heap.size + 1 + 1 + 1) 0 0 none 0 0 0 0 (by simp))
  have HF := hid ((((fr1 w (bg gc gs gn gl gk)).alloc (oJ st z A l c sp nx)).alloc (oD 8 dz db B m e)).alloc (oJ 0 0 none 0 0 0 0))
  have HIW := hid hi
  have HYW := hid hy
  have HI := hid (hi.fr HF.out)
  have HL := hid (fun W => rlayout_ok gc gs gn gl gk W hs)
  rw [rlo_yes hm] at HL
  have hgd := good hm.1
  have HWA := hid (fun W (h : InI W A l c bs) => rwants_ok gc gs gn gl gk ch st z A l c sp nx bs W hs hm h ho ⟨by omega, by omega⟩)
  obtain ⟨y, hy0⟩ : ∃ y, lay ⟨gc, gs, gn, gl, gk⟩ = y := ⟨_, rfl⟩
  rw [hy0] at HL HWA hlb hgd
  obtain ⟨ya, yr, yq, yb, yd, yt, yx, yu⟩ := y
  obtain ⟨hb1, hb2⟩ := hlb
  dsimp only at HL HWA hb1 hb2
  subst hb1 hb2
  obtain ⟨q, hq⟩ : ∃ q, wantJ yd ch ⟨st, z, bs, sp, nx⟩ = q := ⟨_, rfl⟩
  rw [hq] at HWA
  obtain ⟨q1, q2, q3, q4, q5⟩ := q
  dsimp only [tv] at HWA
  have HQ := hid hq
  have hd1 := hgd.d1
  have hd2 := hgd.d2
  dsimp only at hd1 hd2
  clear hi hy ho hm hgd hq
  obtain ⟨h1, h2⟩ := hb
  have e5 : (sp != 255) = true := by simpa using h5
  have e6 : (sp == 255) = false := by simpa using h5
  have HNE := hid hne
  have HX0 := hid hx0
  clear h5 hne hx0
  go_enter Try.func40, Try.ntmps40
  go_wp2_with ((with_reducible refine ld_geom rfl (.tmp 4) rfl w.heap.size ?_ P0.out ?_); · rfl)
  refine (HL.out _).mono ?_
  rintro r w1 ⟨rfl, f1⟩
  have HF := hid ((HF.out.trans f1).alloc (by_ ya yr yq yb yd yt yx yu))
  have P0 := hid (show BG (w1.alloc (by_ ya yr yq yb yd yt yx yu)) w.heap.size gc gs gn gl gk from (Blk.fr P0.out f1 (fun h => h)).alloc _)
  have P1 := hid ((P1.out.fr f1).up (by_ ya yr yq yb yd yt yx yu))
  have P2 := hid ((P2.out.fr f1).up (by_ ya yr yq yb yd yt yx yu))
  have P3 := hid ((P3.out.fr f1).up (by_ ya yr yq yb yd yt yx yu))
  have P4 := hid (BL.new w1 ya yr yq yb yd yt yx yu)
  have HI := hid (HI.out.fr (f1.alloc (by_ ya yr yq yb yd yt yx yu)))
  obtain ⟨yl, hyl⟩ : ∃ x, w1.heap.size = x := ⟨_, rfl⟩
  have hyl2 : w.heap.size + 1 + 1 + 1 < yl := by have := HF.out.size; have h := (P3.out : Blk _ _ _ _).lt; have h2 := f1.size; simp at this h h2; omega
  clear f1 HL
  go_wp2_with (first | ((with_reducible refine ld_geom rfl (.tmp 4) rfl w.heap.size ?_ P0.out ?_); · rfl) | ((with_reducible refine ldJ rfl (.tmp 6) rfl (w.heap.size + 1) ?_ P1.out ?_); · rfl))
  refine (HWA.out _ HI.out).mono ?_
  rintro r w2 ⟨rfl, f2⟩
  have HF := hid ((HF.out.trans f2).alloc (oT q1 q2 q3 q4 q5))
  have P0 := hid (show BG (w2.alloc (oT q1 q2 q3 q4 q5)) w.heap.size gc gs gn gl gk from (Blk.fr P0.out f2 (fun h => h)).alloc _)
  have P1 := hid ((P1.out.fr f2).up (oT q1 q2 q3 q4 q5))
  have P2 := hid ((P2.out.fr f2).up (oT q1 q2 q3 q4 q5))
  have P3 := hid ((P3.out.fr f2).up (oT q1 q2 q3 q4 q5))
  have P4 := hid (show BL (w2.alloc (oT q1 q2 q3 q4 q5)) w1.heap.size ya yr yq yb yd yt yx yu from (Blk.fr P4.out f2 (fun h => h)).alloc _)
  have P5 := hid (BT.at_ (w := w2) q1 q2 q3 q4 q5 rfl)
  have HI := hid (HI.out.fr (f2.alloc (oT q1 q2 q3 q4 q5)))
  rw [hyl] at P4
  have hlt2 : w.heap.size + 1 + 1 + 1 < w2.heap.size := by have := f2.size; simp at this; omega
  clear f2 HWA
  obtain ⟨w3, hw3⟩ : ∃ x, w2.alloc (oT q1 q2 q3 q4 q5) = x := ⟨_, rfl⟩
  rw [hw3] at HF P0 P1 P2 P3 P4 P5 HI
  go_upto_region 3 with fail
  try rw [hw3]
  try rw [hyl]
  obtain ⟨tb, htb⟩ : ∃ x, w2.heap.size = x := ⟨_, rfl⟩
  rw [htb] at P5 hlt2
  try rw [htb]
  clear hw3 hyl htb
  obtain ⟨c0, c1, c2, c3, c4⟩ := P1.out.cells
  obtain ⟨d0, d1, d2, d3⟩ := P2.out.cells
  obtain ⟨y0, y1, y2, y3, y4, y5, y6, y7⟩ := P4.out.cells
  obtain ⟨t0, t1, t2, t3, t4⟩ := P5.out.cells
  clear y0 y1 y2 y5 y6 y7 t1 t2 t3
  have HFK := HF
  have P0K := P0
  have P2K := P2
  have P3K := P3
  have P4K := P4
  have P5K := P5
  have hne := HNE.out
  obtain ⟨g, o, hA, hl, hc⟩ := HI.out.head hne
  obtain ⟨x, hx⟩ : ∃ x, bs.headD 0 = x := ⟨_, rfl⟩
  rw [hx] at hc
  have hl2 : (0 : Int) < l := by omega
  have hxe := hid hx
  subst hA
  have HF := HFK
  have P0 := P0K
  have P2 := P2K
  have P3 := P3K
  have P4 := P4K
  have P5 := P5K
  clear hne hx
  have e7 : (x == db) = true := by
    have : x = db := by rw [← hxe.out]; exact HX0.out
    simpa using this
  go_upto_region 9 with fail
  go_cut [52] (fun v wx => v = .bool true ∧ Fr No w3 wx)
  case first =>
    go_quiet (fail)
    go_wp2_with fail
    go_meet
    case rel => exact ⟨rfl, Fr.drewN (Fr.refl No _) _⟩
  case rest =>
  obtain ⟨rfl, f4⟩ := hcut
  have HF := kf f4 HF
  have HI := hid (HI.out.fr f4)
  have P0 := hid (show BG wc w.heap.size gc gs gn gl gk from Blk.fr P0.out f4 (fun h => h))
  have P1 := hid (P1.out.fr f4)
  have P2 := hid (P2.out.fr f4)
  have P3 := hid (P3.out.fr f4)
  have P4 := hid (show BL wc yl ya yr yq yb yd yt yx yu from Blk.fr P4.out f4 (fun h => h))
  have P5 := hid (P5.out.fr f4)
  clear c0 c1 c2 c3 c4 d0 d1 d2 d3 y3 y4 t0 t4 f4
  obtain ⟨c0, c1, c2, c3, c4⟩ := P1.out.cells
  go_wp2_with fail
  refine (rnext_ok2 _ _ _ _ bs w _ HIW.out HI.out).mono ?_
  rintro r w4 ⟨st', sp', nx', z', B', m', d', rfl, hn, hi, f5⟩
  have HF := kf f5 HF
  have P3 := hid (P3.out.fr f5)
  have HN := hid hn
  have HIN := hid hi
  clear f5 hn hi
  go_wp2_with (((with_reducible refine stJ rfl (.tmp 8) (.tmp 57) rfl (w.heap.size + 1 + 1 + 1) ?_ (st' := st') (z' := z') (A' := B') (l' := m') (c' := d') (sp' := sp') (nx' := nx') ?_ P3.out ?_); (· rfl); (· rfl); intro W' hb hf; have HB := hid hb; have HF := kfg (by omega) HF hf; clear hb hf))
  exact bodyPost_ret (v := .tuple #[.agg #[.int .i64 st', .int .i64 z', .slice B' m' d', .int .i64 sp', .int .i64 nx'], .int .i64 0]) (resJ2 rfl _ _ (w.heap.size + 1 + 1 + 1) st' z' B' m' d' sp' nx' 0 rfl rfl HB.out) rfl (RetB.mk (p := (nextJ z bs, 0)) (by show (nextJ z bs, (0 : Int)) = (⟨st', z', (nextJ z bs).bs, sp', nx'⟩, 0); rw [← HN.out]) HIN.out HF.out)
set_option maxRecDepth 100000 in
set_option maxHeartbeats 2000000 in
theorem ra_state (gc gs gn gl gk : Int) (b d ch : Int) (st z : Int) (A : Option Addr) (l c : Nat) (sp nx : Int) (bs : List Int) (k dz db : Int) (B : Option Addr) (m e : Nat) (ys : List Int) (w : World) (hs : -9223372036854775808 ≤ gs ∧ gs ≤ 9223372036854775807) (hm : mayG ⟨gc, gs, gn, gl, gk⟩) (hlb : (lay ⟨gc, gs, gn, gl, gk⟩).b = b ∧ (lay ⟨gc, gs, gn, gl, gk⟩).d = d) (hi : InI w A l c bs) (hy : InI w B m e ys) (ho : okJ (lay ⟨gc, gs, gn, gl, gk⟩).d ⟨st, z, bs, sp, nx⟩) (hc : 1 ≤ ch ∧ ch ≤ 1000000) (h7 : k ≠ 7) (h8 : k ≠ 8) (hk : k ≠ (wantJ (lay ⟨gc, gs, gn, gl, gk⟩).d ch ⟨st, z, bs, sp, nx⟩).1) :
    Calls Try.prog 40 #[.agg #[.int .i64 gc, .int .i64 gs, .int .i64 gn, .int .i64 gl, .int .i64 gk], .int .i64 ch, .agg #[.int .i64 st, .int .i64 z, .slice A l c, .int .i64 sp, .int .i64 nx], .agg #[.int .i64 k, .int .i64 dz, .int .i64 db, .slice B m e]] w fun r w' => RetB w (zero, 52) r w' := by
  have P0 := hid (show BG ((((w.alloc (bg gc gs gn gl gk)).alloc (oJ st z A l c sp nx)).alloc (oD k dz db B m e)).alloc (oJ 0 0 none 0 0 0 0)) w.heap.size gc gs gn gl gk from (BG3 w gc gs gn gl gk (oJ st z A l c sp nx) (oD k dz db B m e) : Blk _ _ _ _).alloc _)
  have P1 := hid (((BJ.at_ (w := w.alloc (bg gc gs gn gl gk)) (g := w.heap.size + 1) st z A l c sp nx (by simp)).up (oD k dz db B m e)).up (oJ 0 0 none 0 0 0 0))
  have P2 := hid ((BD.at_ (w := (w.alloc (bg gc gs gn gl gk)).alloc (oJ st z A l c sp nx)) (g := w.heap.size + 1 + 1) k dz db B m e (by simp)).up (oJ 0 0 none 0 0 0 0))
  have P3 := hid (BJ.at_ (w := ((w.alloc (bg gc gs gn gl gk)).alloc (oJ st z A l c sp nx)).alloc (oD k dz db B m e)) (g := w.heap.size + 1 + 1 + 1) 0 0 none 0 0 0 0 (by simp))
  have HF := hid ((((fr1 w (bg gc gs gn gl gk)).alloc (oJ st z A l c sp nx)).alloc (oD k dz db B m e)).alloc (oJ 0 0 none 0 0 0 0))
  have HIW := hid hi
  have HYW := hid hy
  have HI := hid (hi.fr HF.out)
  have HL := hid (fun W => rlayout_ok gc gs gn gl gk W hs)
  rw [rlo_yes hm] at HL
  have hgd := good hm.1
  have HWA := hid (fun W (h : InI W A l c bs) => rwants_ok gc gs gn gl gk ch st z A l c sp nx bs W hs hm h ho ⟨by omega, by omega⟩)
  obtain ⟨y, hy0⟩ : ∃ y, lay ⟨gc, gs, gn, gl, gk⟩ = y := ⟨_, rfl⟩
  rw [hy0] at HL HWA hlb hgd
  obtain ⟨ya, yr, yq, yb, yd, yt, yx, yu⟩ := y
  obtain ⟨hb1, hb2⟩ := hlb
  dsimp only at HL HWA hb1 hb2
  subst hb1 hb2
  obtain ⟨q, hq⟩ : ∃ q, wantJ yd ch ⟨st, z, bs, sp, nx⟩ = q := ⟨_, rfl⟩
  rw [hq] at HWA
  obtain ⟨q1, q2, q3, q4, q5⟩ := q
  dsimp only [tv] at HWA
  have HQ := hid hq
  have hd1 := hgd.d1
  have hd2 := hgd.d2
  dsimp only at hd1 hd2
  have e9 : (k != q1) = true := by
    have : k ≠ q1 := fun h => hk (by rw [hy0]; dsimp only; rw [hq]; exact h)
    simpa using this
  have e10 : (k == q1) = false := by
    have : k ≠ q1 := fun h => hk (by rw [hy0]; dsimp only; rw [hq]; exact h)
    simpa using this
  have e7 : (k == 7) = false := by simpa using h7
  have e8 : (k == 8) = false := by simpa using h8
  clear h7 h8 hk hy0
  clear hi hy ho hm hgd hq
  go_enter Try.func40, Try.ntmps40
  go_wp2_with ((with_reducible refine ld_geom rfl (.tmp 4) rfl w.heap.size ?_ P0.out ?_); · rfl)
  refine (HL.out _).mono ?_
  rintro r w1 ⟨rfl, f1⟩
  have HF := hid ((HF.out.trans f1).alloc (by_ ya yr yq yb yd yt yx yu))
  have P0 := hid (show BG (w1.alloc (by_ ya yr yq yb yd yt yx yu)) w.heap.size gc gs gn gl gk from (Blk.fr P0.out f1 (fun h => h)).alloc _)
  have P1 := hid ((P1.out.fr f1).up (by_ ya yr yq yb yd yt yx yu))
  have P2 := hid ((P2.out.fr f1).up (by_ ya yr yq yb yd yt yx yu))
  have P3 := hid ((P3.out.fr f1).up (by_ ya yr yq yb yd yt yx yu))
  have P4 := hid (BL.new w1 ya yr yq yb yd yt yx yu)
  have HI := hid (HI.out.fr (f1.alloc (by_ ya yr yq yb yd yt yx yu)))
  obtain ⟨yl, hyl⟩ : ∃ x, w1.heap.size = x := ⟨_, rfl⟩
  have hyl2 : w.heap.size + 1 + 1 + 1 < yl := by have := HF.out.size; have h := (P3.out : Blk _ _ _ _).lt; have h2 := f1.size; simp at this h h2; omega
  clear f1 HL
  go_wp2_with (first | ((with_reducible refine ld_geom rfl (.tmp 4) rfl w.heap.size ?_ P0.out ?_); · rfl) | ((with_reducible refine ldJ rfl (.tmp 6) rfl (w.heap.size + 1) ?_ P1.out ?_); · rfl))
  refine (HWA.out _ HI.out).mono ?_
  rintro r w2 ⟨rfl, f2⟩
  have HF := hid ((HF.out.trans f2).alloc (oT q1 q2 q3 q4 q5))
  have P0 := hid (show BG (w2.alloc (oT q1 q2 q3 q4 q5)) w.heap.size gc gs gn gl gk from (Blk.fr P0.out f2 (fun h => h)).alloc _)
  have P1 := hid ((P1.out.fr f2).up (oT q1 q2 q3 q4 q5))
  have P2 := hid ((P2.out.fr f2).up (oT q1 q2 q3 q4 q5))
  have P3 := hid ((P3.out.fr f2).up (oT q1 q2 q3 q4 q5))
  have P4 := hid (show BL (w2.alloc (oT q1 q2 q3 q4 q5)) w1.heap.size ya yr yq yb yd yt yx yu from (Blk.fr P4.out f2 (fun h => h)).alloc _)
  have P5 := hid (BT.at_ (w := w2) q1 q2 q3 q4 q5 rfl)
  have HI := hid (HI.out.fr (f2.alloc (oT q1 q2 q3 q4 q5)))
  rw [hyl] at P4
  have hlt2 : w.heap.size + 1 + 1 + 1 < w2.heap.size := by have := f2.size; simp at this; omega
  clear f2 HWA
  obtain ⟨w3, hw3⟩ : ∃ x, w2.alloc (oT q1 q2 q3 q4 q5) = x := ⟨_, rfl⟩
  rw [hw3] at HF P0 P1 P2 P3 P4 P5 HI
  go_upto_region 3 with fail
  try rw [hw3]
  try rw [hyl]
  obtain ⟨tb, htb⟩ : ∃ x, w2.heap.size = x := ⟨_, rfl⟩
  rw [htb] at P5 hlt2
  try rw [htb]
  clear hw3 hyl htb
  obtain ⟨c0, c1, c2, c3, c4⟩ := P1.out.cells
  obtain ⟨d0, d1, d2, d3⟩ := P2.out.cells
  obtain ⟨y0, y1, y2, y3, y4, y5, y6, y7⟩ := P4.out.cells
  obtain ⟨t0, t1, t2, t3, t4⟩ := P5.out.cells
  clear y0 y1 y2 y5 y6 y7 t1 t2 t3
  go_wp2_with (((with_reducible refine stJ rfl (.tmp 8) (.tmp 64) rfl (w.heap.size + 1 + 1 + 1) ?_ (st' := 0) (z' := 0) (A' := none) (l' := 0) (c' := 0) (sp' := 0) (nx' := 0) ?_ P3.out ?_); (· rfl); (· rfl); intro W' hb hf; have HB := hid hb; have HF := kfg (by omega) HF hf; clear hb hf))
  exact bodyPost_ret (v := .tuple #[.agg #[.int .i64 0, .int .i64 0, .slice none 0 0, .int .i64 0, .int .i64 0], .int .i64 52]) (resJ2 rfl _ _ (w.heap.size + 1 + 1 + 1) 0 0 none 0 0 0 0 52 rfl rfl HB.out) rfl (RetB.mk (p := (zero, 52)) rfl (InI.nil w) HF.out)

end Go.Proofs.Ytgjcpepfggkieaa.ClQ
