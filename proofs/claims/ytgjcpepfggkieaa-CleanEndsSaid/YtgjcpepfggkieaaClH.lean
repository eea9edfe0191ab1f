/- Contracts: the cleaner's way, as a geometry, a chunk and a job make it. Condition: the list reads as a list; numbers of 64 bits. -/
import Derived.Test.YtgjcpepfggkieaaClD
import Derived.Test.YtgjcpepfggkieaaGeEk
namespace Go.Proofs.Ytgjcpepfggkieaa.ClH
open Go.RowKit MSep MGeM GeA GeC GeD GeE GeEk PlA PlB ClM ClA ClE ClB ClC ClD

set_option maxRecDepth 100000 in
set_option maxHeartbeats 2000000 in
theorem way_geom (gc gs gn gl gk : Int) (ch : Int) (st z : Int) (A : Option Addr) (l c : Nat) (sp nx : Int) (bs : List Int) (w : World) (hs : -9223372036854775808 ≤ gs ∧ gs ≤ 9223372036854775807) (hm : ¬ mayG ⟨gc, gs, gn, gl, gk⟩) (hi : InI w A l c bs) :
    Calls Try.prog 65 #[.agg #[.int .i64 gc, .int .i64 gs, .int .i64 gn, .int .i64 gl, .int .i64 gk], .int .i64 ch, .agg #[.int .i64 st, .int .i64 z, .slice A l c, .int .i64 sp, .int .i64 nx]] w fun e w' => e = .returned (.tuple #[.agg #[.int .i64 0, .int .i64 0, .int .i64 0, .int .i64 0, .int .i64 0, .int .i64 0, .int .i64 0, .int .i64 0], .int .i64 70]) ∧ Fr No w w' := by
  have HL := hid (fun W => layout_ok gc gs gn gl gk W hs)
  rw [show lyo ⟨gc, gs, gn, gl, gk⟩ = (z8, 70) by unfold lyo; rw [if_neg hm]] at HL
  unfold z8 at HL
  dsimp only at HL
  have P0 := hid (BG3 w gc gs gn gl gk (oJ st z A l c sp nx) (oW 0 0 0 0 0 0 0 0))
  have P1 := hid ((BJ.at_ (w := w.alloc (bg gc gs gn gl gk)) (g := w.heap.size + 1) st z A l c sp nx (by simp)).up (oW 0 0 0 0 0 0 0 0))
  have P2 := hid (BW.at_ (w := (w.alloc (bg gc gs gn gl gk)).alloc (oJ st z A l c sp nx)) (g := w.heap.size + 1 + 1) 0 0 0 0 0 0 0 0 (by simp))
  have HF := hid (((fr1 w (bg gc gs gn gl gk)).alloc (oJ st z A l c sp nx)).alloc (oW 0 0 0 0 0 0 0 0))
  have HI := hid (hi.fr HF.out)
  clear hm hi
  go_enter Try.func65, Try.ntmps65
  go_wp2_with (((with_reducible refine ld_geom rfl (.tmp 3) rfl w.heap.size ?_ P0.out ?_); · rfl))
  refine (HL.out _).mono ?_
  rintro e w1 ⟨rfl, f1⟩
  have HF := hid ((HF.out.trans f1).alloc (by_ 0 0 0 0 0 0 0 0))
  have HI := hid (HI.out.fr (f1.alloc (by_ 0 0 0 0 0 0 0 0)))
  have P0 := hid (show BG (w1.alloc (by_ 0 0 0 0 0 0 0 0)) w.heap.size gc gs gn gl gk from (Blk.fr P0.out f1 (fun h => h)).alloc _)
  have P1 := hid ((P1.out.fr f1).up (by_ 0 0 0 0 0 0 0 0))
  have P2 := hid ((P2.out.fr f1).up (by_ 0 0 0 0 0 0 0 0))
  have P3 := hid (BL.new w1 0 0 0 0 0 0 0 0)
  clear f1 HL
  go_wp2_with (((with_reducible refine stW rfl (.tmp 6) (.tmp 17) rfl (w.heap.size + 1 + 1) ?_ (gc' := 0) (gs' := 0) (gn' := 0) (gl' := 0) (gk' := 0) (b' := 0) (d' := 0) (ch' := 0) ?_ P2.out ?_); (· rfl); (· rfl); intro W' hb hf; have HB := hid hb; have HF := kfg (by omega) HF hf; clear hb hf))
  exact bodyPost_ret (v := .tuple #[.agg #[.int .i64 0, .int .i64 0, .int .i64 0, .int .i64 0, .int .i64 0, .int .i64 0, .int .i64 0, .int .i64 0], .int .i64 70]) (resW2 rfl _ _ (w.heap.size + 1 + 1) 0 0 0 0 0 0 0 0 70 rfl rfl HB.out) rfl ⟨rfl, HF.out⟩
set_option maxRecDepth 100000 in
set_option maxHeartbeats 2000000 in
theorem way_bad (gc gs gn gl gk : Int) (ch : Int) (st z : Int) (A : Option Addr) (l c : Nat) (sp nx : Int) (bs : List Int) (w : World) (hs : -9223372036854775808 ≤ gs ∧ gs ≤ 9223372036854775807) (hm : mayG ⟨gc, gs, gn, gl, gk⟩) (hz : inI z) (hp : inI sp) (hi : InI w A l c bs) (hb : (mayB ⟨gc, gs, gn, gl, gk⟩ ⟨st, z, bs, sp, nx⟩ && chB ch) = false) :
    Calls Try.prog 65 #[.agg #[.int .i64 gc, .int .i64 gs, .int .i64 gn, .int .i64 gl, .int .i64 gk], .int .i64 ch, .agg #[.int .i64 st, .int .i64 z, .slice A l c, .int .i64 sp, .int .i64 nx]] w fun e w' => e = .returned (.tuple #[.agg #[.int .i64 0, .int .i64 0, .int .i64 0, .int .i64 0, .int .i64 0, .int .i64 0, .int .i64 0, .int .i64 0], .int .i64 1]) ∧ Fr No w w' := by
  have HL := hid (fun W => layout_ok gc gs gn gl gk W hs)
  rw [show lyo ⟨gc, gs, gn, gl, gk⟩ = (lay ⟨gc, gs, gn, gl, gk⟩, 0) by unfold lyo; rw [if_pos hm]] at HL
  have HM := hid (fun W (h : InI W A l c bs) => may_ok gc gs gn gl gk st z A l c sp nx bs W hs hz hp h)
  obtain ⟨mb, hmb⟩ : ∃ b, mayB ⟨gc, gs, gn, gl, gk⟩ ⟨st, z, bs, sp, nx⟩ = b := ⟨_, rfl⟩
  rw [hmb] at HM hb
  obtain ⟨y, hy⟩ : ∃ y, lay ⟨gc, gs, gn, gl, gk⟩ = y := ⟨_, rfl⟩
  rw [hy] at HL
  obtain ⟨ya, yr, yq, yb, yd, yt, yx, yu⟩ := y
  dsimp only at HL
  have P0 := hid (BG3 w gc gs gn gl gk (oJ st z A l c sp nx) (oW 0 0 0 0 0 0 0 0))
  have P1 := hid ((BJ.at_ (w := w.alloc (bg gc gs gn gl gk)) (g := w.heap.size + 1) st z A l c sp nx (by simp)).up (oW 0 0 0 0 0 0 0 0))
  have P2 := hid (BW.at_ (w := (w.alloc (bg gc gs gn gl gk)).alloc (oJ st z A l c sp nx)) (g := w.heap.size + 1 + 1) 0 0 0 0 0 0 0 0 (by simp))
  have HF := hid (((fr1 w (bg gc gs gn gl gk)).alloc (oJ st z A l c sp nx)).alloc (oW 0 0 0 0 0 0 0 0))
  have HI := hid (hi.fr HF.out)
  have HBB := hid hb
  clear hm hi hy hmb hb
  go_enter Try.func65, Try.ntmps65
  go_wp2_with (((with_reducible refine ld_geom rfl (.tmp 3) rfl w.heap.size ?_ P0.out ?_); · rfl))
  refine (HL.out _).mono ?_
  rintro e w1 ⟨rfl, f1⟩
  have HF := hid ((HF.out.trans f1).alloc (by_ ya yr yq yb yd yt yx yu))
  have HI := hid (HI.out.fr (f1.alloc (by_ ya yr yq yb yd yt yx yu)))
  have P0 := hid (show BG (w1.alloc (by_ ya yr yq yb yd yt yx yu)) w.heap.size gc gs gn gl gk from (Blk.fr P0.out f1 (fun h => h)).alloc _)
  have P1 := hid ((P1.out.fr f1).up (by_ ya yr yq yb yd yt yx yu))
  have P2 := hid ((P2.out.fr f1).up (by_ ya yr yq yb yd yt yx yu))
  have P3 := hid (BL.new w1 ya yr yq yb yd yt yx yu)
  clear f1 HL
  go_wp2_with (first | ((with_reducible refine ld_geom rfl (.tmp 3) rfl w.heap.size ?_ P0.out ?_); · rfl) | ((with_reducible refine ldJ rfl (.tmp 5) rfl (w.heap.size + 1) ?_ P1.out ?_); · rfl))
  refine (HM.out _ HI.out).mono ?_
  rintro e w2 ⟨rfl, f2⟩
  have HF := kf f2 HF
  have P2 := hid (P2.out.fr f2)
  clear f2 P0 P1 P3 HM
  cases mb
  · go_wp2_with (((with_reducible refine stW rfl (.tmp 6) (.tmp 31) rfl (w.heap.size + 1 + 1) ?_ (gc' := 0) (gs' := 0) (gn' := 0) (gl' := 0) (gk' := 0) (b' := 0) (d' := 0) (ch' := 0) ?_ P2.out ?_); (· rfl); (· rfl); intro W' hb hf; have HB := hid hb; have HF := kfg (by omega) HF hf; clear hb hf))
    exact bodyPost_ret (v := .tuple #[.agg #[.int .i64 0, .int .i64 0, .int .i64 0, .int .i64 0, .int .i64 0, .int .i64 0, .int .i64 0, .int .i64 0], .int .i64 1]) (resW2 rfl _ _ (w.heap.size + 1 + 1) 0 0 0 0 0 0 0 0 1 rfl rfl HB.out) rfl ⟨rfl, HF.out⟩
  have HC := hid (show ¬ (1 ≤ ch ∧ ch ≤ 4096) by
    intro h
    have q := HBB.out
    unfold chB at q
    rw [decide_eq_true h.1, decide_eq_true h.2] at q
    cases q)
  by_cases h1 : ch < 1
  · go_wp2_with (((with_reducible refine stW rfl (.tmp 6) (.tmp 31) rfl (w.heap.size + 1 + 1) ?_ (gc' := 0) (gs' := 0) (gn' := 0) (gl' := 0) (gk' := 0) (b' := 0) (d' := 0) (ch' := 0) ?_ P2.out ?_); (· rfl); (· rfl); intro W' hb hf; have HB := hid hb; have HF := kfg (by omega) HF hf; clear hb hf))
    exact bodyPost_ret (v := .tuple #[.agg #[.int .i64 0, .int .i64 0, .int .i64 0, .int .i64 0, .int .i64 0, .int .i64 0, .int .i64 0, .int .i64 0], .int .i64 1]) (resW2 rfl _ _ (w.heap.size + 1 + 1) 0 0 0 0 0 0 0 0 1 rfl rfl HB.out) rfl ⟨rfl, HF.out⟩
  · have h2 : 4096 < ch := by have := HC.out; omega
    go_wp2_with (((with_reducible refine stW rfl (.tmp 6) (.tmp 31) rfl (w.heap.size + 1 + 1) ?_ (gc' := 0) (gs' := 0) (gn' := 0) (gl' := 0) (gk' := 0) (b' := 0) (d' := 0) (ch' := 0) ?_ P2.out ?_); (· rfl); (· rfl); intro W' hb hf; have HB := hid hb; have HF := kfg (by omega) HF hf; clear hb hf))
    exact bodyPost_ret (v := .tuple #[.agg #[.int .i64 0, .int .i64 0, .int .i64 0, .int .i64 0, .int .i64 0, .int .i64 0, .int .i64 0, .int .i64 0], .int .i64 1]) (resW2 rfl _ _ (w.heap.size + 1 + 1) 0 0 0 0 0 0 0 0 1 rfl rfl HB.out) rfl ⟨rfl, HF.out⟩
set_option maxRecDepth 100000 in
set_option maxHeartbeats 2000000 in
theorem way_ok (gc gs gn gl gk : Int) (ch : Int) (st z : Int) (A : Option Addr) (l c : Nat) (sp nx : Int) (bs : List Int) (w : World) (hs : -9223372036854775808 ≤ gs ∧ gs ≤ 9223372036854775807) (hm : mayG ⟨gc, gs, gn, gl, gk⟩) (hz : inI z) (hp : inI sp) (hi : InI w A l c bs) (hb : mayB ⟨gc, gs, gn, gl, gk⟩ ⟨st, z, bs, sp, nx⟩ = true) (hc : chB ch = true) :
    Calls Try.prog 65 #[.agg #[.int .i64 gc, .int .i64 gs, .int .i64 gn, .int .i64 gl, .int .i64 gk], .int .i64 ch, .agg #[.int .i64 st, .int .i64 z, .slice A l c, .int .i64 sp, .int .i64 nx]] w fun e w' => e = .returned (.tuple #[.agg #[.int .i64 gc, .int .i64 gs, .int .i64 gn, .int .i64 gl, .int .i64 gk, .int .i64 (lay ⟨gc, gs, gn, gl, gk⟩).b, .int .i64 (lay ⟨gc, gs, gn, gl, gk⟩).d, .int .i64 ch], .int .i64 0]) ∧ Fr No w w' := by
  have HL := hid (fun W => layout_ok gc gs gn gl gk W hs)
  rw [show lyo ⟨gc, gs, gn, gl, gk⟩ = (lay ⟨gc, gs, gn, gl, gk⟩, 0) by unfold lyo; rw [if_pos hm]] at HL
  have HM := hid (fun W (h : InI W A l c bs) => may_ok gc gs gn gl gk st z A l c sp nx bs W hs hz hp h)
  rw [hb] at HM
  have h1 : 1 ≤ ch ∧ ch ≤ 4096 := by
    unfold chB at hc
    simpa using hc
  obtain ⟨h1, h2⟩ := h1
  obtain ⟨y, hy⟩ : ∃ y, lay ⟨gc, gs, gn, gl, gk⟩ = y := ⟨_, rfl⟩
  rw [hy] at HL
  rw [hy]
  obtain ⟨ya, yr, yq, yb, yd, yt, yx, yu⟩ := y
  dsimp only at HL ⊢
  have P0 := hid (BG3 w gc gs gn gl gk (oJ st z A l c sp nx) (oW 0 0 0 0 0 0 0 0))
  have P1 := hid ((BJ.at_ (w := w.alloc (bg gc gs gn gl gk)) (g := w.heap.size + 1) st z A l c sp nx (by simp)).up (oW 0 0 0 0 0 0 0 0))
  have P2 := hid (BW.at_ (w := (w.alloc (bg gc gs gn gl gk)).alloc (oJ st z A l c sp nx)) (g := w.heap.size + 1 + 1) 0 0 0 0 0 0 0 0 (by simp))
  have HF := hid (((fr1 w (bg gc gs gn gl gk)).alloc (oJ st z A l c sp nx)).alloc (oW 0 0 0 0 0 0 0 0))
  have HI := hid (hi.fr HF.out)
  clear hm hi hy hb hc
  go_enter Try.func65, Try.ntmps65
  go_wp2_with (((with_reducible refine ld_geom rfl (.tmp 3) rfl w.heap.size ?_ P0.out ?_); · rfl))
  refine (HL.out _).mono ?_
  rintro e w1 ⟨rfl, f1⟩
  have HF := hid ((HF.out.trans f1).alloc (by_ ya yr yq yb yd yt yx yu))
  have HI := hid (HI.out.fr (f1.alloc (by_ ya yr yq yb yd yt yx yu)))
  have P0 := hid (show BG (w1.alloc (by_ ya yr yq yb yd yt yx yu)) w.heap.size gc gs gn gl gk from (Blk.fr P0.out f1 (fun h => h)).alloc _)
  have P1 := hid ((P1.out.fr f1).up (by_ ya yr yq yb yd yt yx yu))
  have P2 := hid ((P2.out.fr f1).up (by_ ya yr yq yb yd yt yx yu))
  have P3 := hid (BL.new w1 ya yr yq yb yd yt yx yu)
  clear f1 HL
  go_wp2_with (first | ((with_reducible refine ld_geom rfl (.tmp 3) rfl w.heap.size ?_ P0.out ?_); · rfl) | ((with_reducible refine ldJ rfl (.tmp 5) rfl (w.heap.size + 1) ?_ P1.out ?_); · rfl))
  refine (HM.out _ HI.out).mono ?_
  rintro e w2 ⟨rfl, f2⟩
  have HF := kf f2 HF
  have P0 := hid (show BG w2 w.heap.size gc gs gn gl gk from Blk.fr P0.out f2 (fun h => h))
  have P2 := hid (P2.out.fr f2)
  have P3 := hid (P3.out.fr f2)
  obtain ⟨d0, d1, d2, d3, d4, d5, d6, d7⟩ := P3.out.cells
  clear d0 d1 d2 d5 d6 d7
  clear f2 P1 HM
  go_wp2_with (first | ((with_reducible refine ld_geom rfl (.tmp 3) rfl w.heap.size ?_ P0.out ?_); · rfl) | ((with_reducible refine stW rfl (.tmp 6) (.tmp 38) rfl (w.heap.size + 1 + 1) ?_ (gc' := gc) (gs' := gs) (gn' := gn) (gl' := gl) (gk' := gk) (b' := yb) (d' := yd) (ch' := ch) ?_ P2.out ?_); (· rfl); (· rfl); intro W' hb hf; have HB := hid hb; have HF := kfg (by omega) HF hf; clear hb hf))
  exact bodyPost_ret (v := .tuple #[.agg #[.int .i64 gc, .int .i64 gs, .int .i64 gn, .int .i64 gl, .int .i64 gk, .int .i64 yb, .int .i64 yd, .int .i64 ch], .int .i64 0]) (resW2 rfl _ _ (w.heap.size + 1 + 1) gc gs gn gl gk yb yd ch 0 rfl rfl HB.out) rfl ⟨rfl, HF.out⟩
end Go.Proofs.Ytgjcpepfggkieaa.ClH
