/- Contracts: what a job wants, by the program and by the document. Condition: the list reads as a list; numbers of 64 bits. -/
import Derived.Test.YtgjcpepfggkieaaClD
import Derived.Test.YtgjcpepfggkieaaGeEk
import Derived.RegionTactic
import Derived.StillTailTactics
namespace Go.Proofs.Ytgjcpepfggkieaa.ClG
open Go.RowKit MSep MGeM GeA GeC GeD GeE GeEk PlA PlB ClM ClA ClE ClB ClC ClD

abbrev tv (y : T5) : Value := .agg #[.int .i64 y.1, .int .i64 y.2.1, .int .i64 y.2.2.1, .int .i64 y.2.2.2.1, .int .i64 y.2.2.2.2]
theorem w_band (d ch z sp nx : Int) (bs : List Int) : wantJ d ch ⟨1, z, bs, sp, nx⟩ = (2, bs.headD 0, 0, 0, 0) := by simp [wantJ]
theorem w_copy (d ch z sp nx : Int) (bs : List Int) : wantJ d ch ⟨2, z, bs, sp, nx⟩ = (3, bs.headD 0, sp, nx, min ch (d - nx)) := by simp [wantJ]
theorem w_label (d ch z sp nx : Int) (bs : List Int) : wantJ d ch ⟨3, z, bs, sp, nx⟩ = (4, bs.headD 0, sp, 0, 0) := by simp [wantJ]
theorem w_commit (d ch z sp nx : Int) (bs : List Int) : wantJ d ch ⟨4, z, bs, sp, nx⟩ = (5, bs.headD 0, sp, 0, 0) := by simp [wantJ]
theorem w_free (d ch z sp nx : Int) (bs : List Int) : wantJ d ch ⟨5, z, bs, sp, nx⟩ = (6, 0, z, 0, 0) := by simp [wantJ]
theorem w_pick (d ch st z sp nx : Int) (bs : List Int) (h : st ≠ 1 ∧ st ≠ 2 ∧ st ≠ 3 ∧ st ≠ 4 ∧ st ≠ 5) : wantJ d ch ⟨st, z, bs, sp, nx⟩ = (1, 0, 0, 0, 0) := by
  obtain ⟨h1, h2, h3, h4, h5⟩ := h
  simp [wantJ, h1, h2, h3, h4, h5]
set_option maxRecDepth 100000 in
set_option maxHeartbeats 2000000 in
theorem wants_band (gc gs gn gl gk b d ch : Int) (z : Int) (A : Option Addr) (l c : Nat) (sp nx : Int) (bs : List Int) (w : World) (hi : InI w A l c bs) (hb : bs ≠ []) :
    Calls Try.prog 66 #[.agg #[.int .i64 gc, .int .i64 gs, .int .i64 gn, .int .i64 gl, .int .i64 gk, .int .i64 b, .int .i64 d, .int .i64 ch], .agg #[.int .i64 1, .int .i64 z, .slice A l c, .int .i64 sp, .int .i64 nx]] w fun e w' => e = .returned (tv (wantJ d ch ⟨1, z, bs, sp, nx⟩)) ∧ Fr No w w' := by
  rw [w_band]
  have HF := hid ((((fr1 w (oW gc gs gn gl gk b d ch)).alloc (oJ 1 z A l c sp nx))).alloc (oT 0 0 0 0 0))
  obtain ⟨g, o, rfl, hl, hc⟩ := (hi.fr HF.out).head hb
  obtain ⟨x, hx⟩ : ∃ x, bs.headD 0 = x := ⟨_, rfl⟩
  rw [hx] at hc
  rw [hx]
  have hl2 : (0 : Int) < l := by omega
  clear hi hb hx
  go_enter Try.func66, Try.ntmps66
  go_wp2_with fail
  refine bodyPost_ret (v := .agg #[.int .i64 2, .int .i64 (x), .int .i64 0, .int .i64 0, .int .i64 0]) (resT rfl _ _ (w.heap.size + 1 + 1) 2 (x) 0 0 0 rfl (BT.at_ (w := ((w.alloc (oW gc gs gn gl gk b d ch)).alloc (oJ 1 z (some ⟨g, o, none⟩) l c sp nx))) 2 (x) 0 0 0 (by simp))) rfl ⟨rfl, ?_⟩
  have f := (((fr1 w (oW gc gs gn gl gk b d ch)).alloc (oJ 1 z (some ⟨g, o, none⟩) l c sp nx))).alloc (oT 2 (x) 0 0 0)
  first | exact f | exact f.drew | exact f.drewN _
set_option maxRecDepth 100000 in
set_option maxHeartbeats 2000000 in
theorem wants_label (gc gs gn gl gk b d ch : Int) (z : Int) (A : Option Addr) (l c : Nat) (sp nx : Int) (bs : List Int) (w : World) (hi : InI w A l c bs) (hb : bs ≠ []) :
    Calls Try.prog 66 #[.agg #[.int .i64 gc, .int .i64 gs, .int .i64 gn, .int .i64 gl, .int .i64 gk, .int .i64 b, .int .i64 d, .int .i64 ch], .agg #[.int .i64 3, .int .i64 z, .slice A l c, .int .i64 sp, .int .i64 nx]] w fun e w' => e = .returned (tv (wantJ d ch ⟨3, z, bs, sp, nx⟩)) ∧ Fr No w w' := by
  rw [w_label]
  have HF := hid ((((fr1 w (oW gc gs gn gl gk b d ch)).alloc (oJ 3 z A l c sp nx))).alloc (oT 0 0 0 0 0))
  obtain ⟨g, o, rfl, hl, hc⟩ := (hi.fr HF.out).head hb
  obtain ⟨x, hx⟩ : ∃ x, bs.headD 0 = x := ⟨_, rfl⟩
  rw [hx] at hc
  rw [hx]
  have hl2 : (0 : Int) < l := by omega
  clear hi hb hx
  go_enter Try.func66, Try.ntmps66
  go_wp2_with fail
  go_region
  all_goals go_wp2_with fail
  refine bodyPost_ret (v := .agg #[.int .i64 4, .int .i64 (x), .int .i64 (sp), .int .i64 0, .int .i64 0]) (resT rfl _ _ (w.heap.size + 1 + 1) 4 (x) (sp) 0 0 rfl (BT.at_ (w := ((w.alloc (oW gc gs gn gl gk b d ch)).alloc (oJ 3 z (some ⟨g, o, none⟩) l c sp nx))) 4 (x) (sp) 0 0 (by simp))) rfl ⟨rfl, ?_⟩
  have f := (((fr1 w (oW gc gs gn gl gk b d ch)).alloc (oJ 3 z (some ⟨g, o, none⟩) l c sp nx))).alloc (oT 4 (x) (sp) 0 0)
  first | exact f | exact f.drew | exact f.drewN _
set_option maxRecDepth 100000 in
set_option maxHeartbeats 2000000 in
theorem wants_copya (gc gs gn gl gk b d ch : Int) (z : Int) (A : Option Addr) (l c : Nat) (sp nx : Int) (bs : List Int) (w : World) (hi : InI w A l c bs) (hb : bs ≠ []) (hd : 0 ≤ nx ∧ nx ≤ d ∧ d ≤ 1000000) (hc0 : 0 ≤ ch ∧ ch ≤ 1000000) (hm : ch ≤ d - nx) :
    Calls Try.prog 66 #[.agg #[.int .i64 gc, .int .i64 gs, .int .i64 gn, .int .i64 gl, .int .i64 gk, .int .i64 b, .int .i64 d, .int .i64 ch], .agg #[.int .i64 2, .int .i64 z, .slice A l c, .int .i64 sp, .int .i64 nx]] w fun e w' => e = .returned (tv (wantJ d ch ⟨2, z, bs, sp, nx⟩)) ∧ Fr No w w' := by
  rw [w_copy, Int.min_eq_left hm]
  have HF := hid ((((fr1 w (oW gc gs gn gl gk b d ch)).alloc (oJ 2 z A l c sp nx))).alloc (oT 0 0 0 0 0))
  obtain ⟨g, o, rfl, hl, hc⟩ := (hi.fr HF.out).head hb
  obtain ⟨x, hx⟩ : ∃ x, bs.headD 0 = x := ⟨_, rfl⟩
  rw [hx] at hc
  rw [hx]
  have hl2 : (0 : Int) < l := by omega
  clear hi hb hx
  obtain ⟨n1, n2, n3⟩ := hd
  obtain ⟨n4, n5⟩ := hc0
  go_enter Try.func66, Try.ntmps66
  go_wp2_with fail
  go_region
  all_goals go_wp2_with fail
  refine bodyPost_ret (v := .agg #[.int .i64 3, .int .i64 (x), .int .i64 (sp), .int .i64 (nx), .int .i64 (ch)]) (resT rfl _ _ (w.heap.size + 1 + 1) 3 (x) (sp) (nx) (ch) rfl (BT.at_ (w := ((w.alloc (oW gc gs gn gl gk b d ch)).alloc (oJ 2 z (some ⟨g, o, none⟩) l c sp nx))) 3 (x) (sp) (nx) (ch) (by simp))) rfl ⟨rfl, ?_⟩
  have f := (((fr1 w (oW gc gs gn gl gk b d ch)).alloc (oJ 2 z (some ⟨g, o, none⟩) l c sp nx))).alloc (oT 3 (x) (sp) (nx) (ch))
  first | exact f | exact f.drew | exact f.drewN _
set_option maxRecDepth 100000 in
set_option maxHeartbeats 2000000 in
theorem wants_copyb (gc gs gn gl gk b d ch : Int) (z : Int) (A : Option Addr) (l c : Nat) (sp nx : Int) (bs : List Int) (w : World) (hi : InI w A l c bs) (hb : bs ≠ []) (hd : 0 ≤ nx ∧ nx ≤ d ∧ d ≤ 1000000) (hc0 : 0 ≤ ch ∧ ch ≤ 1000000) (hm : d - nx < ch) :
    Calls Try.prog 66 #[.agg #[.int .i64 gc, .int .i64 gs, .int .i64 gn, .int .i64 gl, .int .i64 gk, .int .i64 b, .int .i64 d, .int .i64 ch], .agg #[.int .i64 2, .int .i64 z, .slice A l c, .int .i64 sp, .int .i64 nx]] w fun e w' => e = .returned (tv (wantJ d ch ⟨2, z, bs, sp, nx⟩)) ∧ Fr No w w' := by
  rw [w_copy, Int.min_eq_right (Int.le_of_lt hm)]
  have HF := hid ((((fr1 w (oW gc gs gn gl gk b d ch)).alloc (oJ 2 z A l c sp nx))).alloc (oT 0 0 0 0 0))
  obtain ⟨g, o, rfl, hl, hc⟩ := (hi.fr HF.out).head hb
  obtain ⟨x, hx⟩ : ∃ x, bs.headD 0 = x := ⟨_, rfl⟩
  rw [hx] at hc
  rw [hx]
  have hl2 : (0 : Int) < l := by omega
  clear hi hb hx
  obtain ⟨n1, n2, n3⟩ := hd
  obtain ⟨n4, n5⟩ := hc0
  go_enter Try.func66, Try.ntmps66
  go_wp2_with fail
  go_region
  all_goals go_wp2_with fail
  refine bodyPost_ret (v := .agg #[.int .i64 3, .int .i64 (x), .int .i64 (sp), .int .i64 (nx), .int .i64 (d - nx)]) (resT rfl _ _ (w.heap.size + 1 + 1) 3 (x) (sp) (nx) (d - nx) rfl (BT.at_ (w := ((w.alloc (oW gc gs gn gl gk b d ch)).alloc (oJ 2 z (some ⟨g, o, none⟩) l c sp nx))) 3 (x) (sp) (nx) (d - nx) (by simp))) rfl ⟨rfl, ?_⟩
  have f := (((fr1 w (oW gc gs gn gl gk b d ch)).alloc (oJ 2 z (some ⟨g, o, none⟩) l c sp nx))).alloc (oT 3 (x) (sp) (nx) (d - nx))
  first | exact f | exact f.drew | exact f.drewN _
set_option maxRecDepth 100000 in
set_option maxHeartbeats 2000000 in
theorem wants_commit (gc gs gn gl gk b d ch : Int) (z : Int) (A : Option Addr) (l c : Nat) (sp nx : Int) (bs : List Int) (w : World) (hi : InI w A l c bs) (hb : bs ≠ []) :
    Calls Try.prog 66 #[.agg #[.int .i64 gc, .int .i64 gs, .int .i64 gn, .int .i64 gl, .int .i64 gk, .int .i64 b, .int .i64 d, .int .i64 ch], .agg #[.int .i64 4, .int .i64 z, .slice A l c, .int .i64 sp, .int .i64 nx]] w fun e w' => e = .returned (tv (wantJ d ch ⟨4, z, bs, sp, nx⟩)) ∧ Fr No w w' := by
  rw [w_commit]
  have HF := hid ((((fr1 w (oW gc gs gn gl gk b d ch)).alloc (oJ 4 z A l c sp nx))).alloc (oT 0 0 0 0 0))
  obtain ⟨g, o, rfl, hl, hc⟩ := (hi.fr HF.out).head hb
  obtain ⟨x, hx⟩ : ∃ x, bs.headD 0 = x := ⟨_, rfl⟩
  rw [hx] at hc
  rw [hx]
  have hl2 : (0 : Int) < l := by omega
  clear hi hb hx
  go_enter Try.func66, Try.ntmps66
  go_wp2_with fail
  go_region
  all_goals go_wp2_with fail
  refine bodyPost_ret (v := .agg #[.int .i64 5, .int .i64 (x), .int .i64 (sp), .int .i64 0, .int .i64 0]) (resT rfl _ _ (w.heap.size + 1 + 1) 5 (x) (sp) 0 0 rfl (BT.at_ (w := ((w.alloc (oW gc gs gn gl gk b d ch)).alloc (oJ 4 z (some ⟨g, o, none⟩) l c sp nx))) 5 (x) (sp) 0 0 (by simp))) rfl ⟨rfl, ?_⟩
  have f := (((fr1 w (oW gc gs gn gl gk b d ch)).alloc (oJ 4 z (some ⟨g, o, none⟩) l c sp nx))).alloc (oT 5 (x) (sp) 0 0)
  first | exact f | exact f.drew | exact f.drewN _
set_option maxRecDepth 100000 in
set_option maxHeartbeats 2000000 in
theorem wants_free (gc gs gn gl gk b d ch : Int) (z : Int) (A : Option Addr) (l c : Nat) (sp nx : Int) (bs : List Int) (w : World) (_hi : InI w A l c bs) :
    Calls Try.prog 66 #[.agg #[.int .i64 gc, .int .i64 gs, .int .i64 gn, .int .i64 gl, .int .i64 gk, .int .i64 b, .int .i64 d, .int .i64 ch], .agg #[.int .i64 5, .int .i64 z, .slice A l c, .int .i64 sp, .int .i64 nx]] w fun e w' => e = .returned (tv (wantJ d ch ⟨5, z, bs, sp, nx⟩)) ∧ Fr No w w' := by
  rw [w_free]
  have HF := hid ((((fr1 w (oW gc gs gn gl gk b d ch)).alloc (oJ 5 z A l c sp nx))).alloc (oT 0 0 0 0 0))
  clear _hi
  go_enter Try.func66, Try.ntmps66
  go_wp2_with fail
  refine bodyPost_ret (v := .agg #[.int .i64 6, .int .i64 0, .int .i64 (z), .int .i64 0, .int .i64 0]) (resT rfl _ _ (w.heap.size + 1 + 1) 6 0 (z) 0 0 rfl (BT.at_ (w := ((w.alloc (oW gc gs gn gl gk b d ch)).alloc (oJ 5 z A l c sp nx))) 6 0 (z) 0 0 (by simp))) rfl ⟨rfl, ?_⟩
  have f := (((fr1 w (oW gc gs gn gl gk b d ch)).alloc (oJ 5 z A l c sp nx))).alloc (oT 6 0 (z) 0 0)
  first | exact f | exact f.drew | exact f.drewN _
set_option maxRecDepth 100000 in
set_option maxHeartbeats 2000000 in
theorem wants_pick (gc gs gn gl gk b d ch : Int) (st : Int) (z : Int) (A : Option Addr) (l c : Nat) (sp nx : Int) (bs : List Int) (w : World) (_hi : InI w A l c bs) (h : st ≠ 1 ∧ st ≠ 2 ∧ st ≠ 3 ∧ st ≠ 4 ∧ st ≠ 5) :
    Calls Try.prog 66 #[.agg #[.int .i64 gc, .int .i64 gs, .int .i64 gn, .int .i64 gl, .int .i64 gk, .int .i64 b, .int .i64 d, .int .i64 ch], .agg #[.int .i64 st, .int .i64 z, .slice A l c, .int .i64 sp, .int .i64 nx]] w fun e w' => e = .returned (tv (wantJ d ch ⟨st, z, bs, sp, nx⟩)) ∧ Fr No w w' := by
  rw [w_pick _ _ _ _ _ _ _ h]
  have HF := hid ((((fr1 w (oW gc gs gn gl gk b d ch)).alloc (oJ st z A l c sp nx))).alloc (oT 0 0 0 0 0))
  clear _hi
  have e1 : (st == 1) = false := by simpa using h.1
  have e2 : (st == 2) = false := by simpa using h.2.1
  have e3 : (st == 3) = false := by simpa using h.2.2.1
  have e4 : (st == 4) = false := by simpa using h.2.2.2.1
  have e5 : (st == 5) = false := by simpa using h.2.2.2.2
  clear h
  go_enter Try.func66, Try.ntmps66
  go_wp2_with fail
  refine bodyPost_ret (v := .agg #[.int .i64 1, .int .i64 0, .int .i64 0, .int .i64 0, .int .i64 0]) (resT rfl _ _ (w.heap.size + 1 + 1) 1 0 0 0 0 rfl (BT.at_ (w := ((w.alloc (oW gc gs gn gl gk b d ch)).alloc (oJ st z A l c sp nx))) 1 0 0 0 0 (by simp))) rfl ⟨rfl, ?_⟩
  have f := (((fr1 w (oW gc gs gn gl gk b d ch)).alloc (oJ st z A l c sp nx))).alloc (oT 1 0 0 0 0)
  first | exact f | exact f.drew | exact f.drewN _
set_option maxRecDepth 100000 in
set_option maxHeartbeats 2000000 in
theorem rwants_band (gc gs gn gl gk : Int) (ch : Int) (z : Int) (A : Option Addr) (l c : Nat) (sp nx : Int) (bs : List Int) (w : World) (hs : -9223372036854775808 ≤ gs ∧ gs ≤ 9223372036854775807) (hm : mayG ⟨gc, gs, gn, gl, gk⟩) (hi : InI w A l c bs) (hb : bs ≠ []) :
    Calls Try.prog 37 #[.agg #[.int .i64 gc, .int .i64 gs, .int .i64 gn, .int .i64 gl, .int .i64 gk], .int .i64 ch, .agg #[.int .i64 1, .int .i64 z, .slice A l c, .int .i64 sp, .int .i64 nx]] w fun e w' => e = .returned (tv (wantJ (lay ⟨gc, gs, gn, gl, gk⟩).d ch ⟨1, z, bs, sp, nx⟩)) ∧ Fr No w w' := by
  rw [w_band]
  have HL := hid (fun W => rlayout_ok gc gs gn gl gk W hs)
  rw [show rlo ⟨gc, gs, gn, gl, gk⟩ = (lay ⟨gc, gs, gn, gl, gk⟩, true) by unfold rlo; rw [if_pos hm]] at HL
  have HF := hid (((fr1 w (bg gc gs gn gl gk)).alloc (oJ 1 z A l c sp nx)).alloc (oT 0 0 0 0 0))
  have P0 := hid (BG3 w gc gs gn gl gk (oJ 1 z A l c sp nx) (oT 0 0 0 0 0))
  have P1 := hid ((BJ.at_ (w := w.alloc (bg gc gs gn gl gk)) (g := w.heap.size + 1) 1 z A l c sp nx (by simp)).up (oT 0 0 0 0 0))
  have P2 := hid (BT.at_ (w := (w.alloc (bg gc gs gn gl gk)).alloc (oJ 1 z A l c sp nx)) (g := w.heap.size + 1 + 1) 0 0 0 0 0 (by simp))
  have HI := hid (hi.fr HF.out)
  obtain ⟨y, hy⟩ : ∃ y, lay ⟨gc, gs, gn, gl, gk⟩ = y := ⟨_, rfl⟩
  rw [hy] at HL
  try rw [hy]
  obtain ⟨x, hx⟩ : ∃ x, bs.headD 0 = x := ⟨_, rfl⟩
  rw [hx]
  have HX := hid hx
  clear hx
  obtain ⟨ya, yr, yq, yb, yd, yt, yx, yu⟩ := y
  dsimp only at HL ⊢
  clear hy hm hi
  go_enter Try.func37, Try.ntmps37
  go_wp2_with ((with_reducible refine ld_geom rfl (.tmp 3) rfl w.heap.size ?_ P0.out ?_); · rfl)
  refine (HL.out _).mono ?_
  rintro e w1 ⟨rfl, f1⟩
  have HF := hid ((HF.out.trans f1).alloc (by_ ya yr yq yb yd yt yx yu))
  have HI := hid (HI.out.fr (f1.alloc (by_ ya yr yq yb yd yt yx yu)))
  have P1 := hid ((P1.out.fr f1).up (by_ ya yr yq yb yd yt yx yu))
  have P2 := hid ((P2.out.fr f1).up (by_ ya yr yq yb yd yt yx yu))
  have P3 := hid (BL.new w1 ya yr yq yb yd yt yx yu)
  clear f1 HL P0
  obtain ⟨wz, hwz⟩ : ∃ wz, w1.alloc (by_ ya yr yq yb yd yt yx yu) = wz := ⟨_, rfl⟩
  obtain ⟨yl, hyl⟩ : ∃ yl, w1.heap.size = yl := ⟨_, rfl⟩
  rw [hwz] at HF HI P1 P2 P3
  rw [hyl] at P3
  have htb0 : w.heap.size ≤ w.heap.size + 1 + 1 := by omega
  have HFK := HF
  have P2K := P2
  have HB := hid hb
  obtain ⟨g, o, rfl, hl, hc⟩ := HI.out.head HB.out
  have HF := HFK
  have P2 := P2K
  rw [HX.out] at hc
  have hl2 : (0 : Int) < l := by omega
  clear hb
  obtain ⟨c0, c1, c2, c3, c4⟩ := P1.out.cells
  obtain ⟨d0, d1, d2, d3, d4, d5, d6, d7⟩ := P3.out.cells
  clear d0 d1 d2 d3 d5 d6 d7
  go_wp2_with ((with_reducible refine stT rfl (.tmp 6) (.tmp 23) rfl (w.heap.size + 1 + 1) ?_ (k' := 2) (b' := x) (z' := 0) (a' := 0) (n' := 0) ?_ P2.out ?_); (· rfl); (· rfl); intro W' hb2 hf; have HB2 := hid hb2; have HF := kfg htb0 HF hf; clear hb2 hf)
  exact bodyPost_ret (v := .agg #[.int .i64 2, .int .i64 (x), .int .i64 0, .int .i64 0, .int .i64 0]) (resT rfl _ _ (w.heap.size + 1 + 1) 2 (x) 0 0 0 rfl HB2.out) rfl ⟨rfl, HF.out⟩
set_option maxRecDepth 100000 in
set_option maxHeartbeats 2000000 in
theorem rwants_label (gc gs gn gl gk : Int) (ch : Int) (z : Int) (A : Option Addr) (l c : Nat) (sp nx : Int) (bs : List Int) (w : World) (hs : -9223372036854775808 ≤ gs ∧ gs ≤ 9223372036854775807) (hm : mayG ⟨gc, gs, gn, gl, gk⟩) (hi : InI w A l c bs) (hb : bs ≠ []) :
    Calls Try.prog 37 #[.agg #[.int .i64 gc, .int .i64 gs, .int .i64 gn, .int .i64 gl, .int .i64 gk], .int .i64 ch, .agg #[.int .i64 3, .int .i64 z, .slice A l c, .int .i64 sp, .int .i64 nx]] w fun e w' => e = .returned (tv (wantJ (lay ⟨gc, gs, gn, gl, gk⟩).d ch ⟨3, z, bs, sp, nx⟩)) ∧ Fr No w w' := by
  rw [w_label]
  have HL := hid (fun W => rlayout_ok gc gs gn gl gk W hs)
  rw [show rlo ⟨gc, gs, gn, gl, gk⟩ = (lay ⟨gc, gs, gn, gl, gk⟩, true) by unfold rlo; rw [if_pos hm]] at HL
  have HF := hid (((fr1 w (bg gc gs gn gl gk)).alloc (oJ 3 z A l c sp nx)).alloc (oT 0 0 0 0 0))
  have P0 := hid (BG3 w gc gs gn gl gk (oJ 3 z A l c sp nx) (oT 0 0 0 0 0))
  have P1 := hid ((BJ.at_ (w := w.alloc (bg gc gs gn gl gk)) (g := w.heap.size + 1) 3 z A l c sp nx (by simp)).up (oT 0 0 0 0 0))
  have P2 := hid (BT.at_ (w := (w.alloc (bg gc gs gn gl gk)).alloc (oJ 3 z A l c sp nx)) (g := w.heap.size + 1 + 1) 0 0 0 0 0 (by simp))
  have HI := hid (hi.fr HF.out)
  obtain ⟨y, hy⟩ : ∃ y, lay ⟨gc, gs, gn, gl, gk⟩ = y := ⟨_, rfl⟩
  rw [hy] at HL
  try rw [hy]
  obtain ⟨x, hx⟩ : ∃ x, bs.headD 0 = x := ⟨_, rfl⟩
  rw [hx]
  have HX := hid hx
  clear hx
  obtain ⟨ya, yr, yq, yb, yd, yt, yx, yu⟩ := y
  dsimp only at HL ⊢
  clear hy hm hi
  go_enter Try.func37, Try.ntmps37
  go_wp2_with ((with_reducible refine ld_geom rfl (.tmp 3) rfl w.heap.size ?_ P0.out ?_); · rfl)
  refine (HL.out _).mono ?_
  rintro e w1 ⟨rfl, f1⟩
  have HF := hid ((HF.out.trans f1).alloc (by_ ya yr yq yb yd yt yx yu))
  have HI := hid (HI.out.fr (f1.alloc (by_ ya yr yq yb yd yt yx yu)))
  have P1 := hid ((P1.out.fr f1).up (by_ ya yr yq yb yd yt yx yu))
  have P2 := hid ((P2.out.fr f1).up (by_ ya yr yq yb yd yt yx yu))
  have P3 := hid (BL.new w1 ya yr yq yb yd yt yx yu)
  clear f1 HL P0
  obtain ⟨wz, hwz⟩ : ∃ wz, w1.alloc (by_ ya yr yq yb yd yt yx yu) = wz := ⟨_, rfl⟩
  obtain ⟨yl, hyl⟩ : ∃ yl, w1.heap.size = yl := ⟨_, rfl⟩
  rw [hwz] at HF HI P1 P2 P3
  rw [hyl] at P3
  have htb0 : w.heap.size ≤ w.heap.size + 1 + 1 := by omega
  have HFK := HF
  have P2K := P2
  have HB := hid hb
  obtain ⟨g, o, rfl, hl, hc⟩ := HI.out.head HB.out
  have HF := HFK
  have P2 := P2K
  rw [HX.out] at hc
  have hl2 : (0 : Int) < l := by omega
  clear hb
  obtain ⟨c0, c1, c2, c3, c4⟩ := P1.out.cells
  obtain ⟨d0, d1, d2, d3, d4, d5, d6, d7⟩ := P3.out.cells
  clear d0 d1 d2 d3 d5 d6 d7
  go_upto_region 11 with fail
  go_still_tail 7, (by kernel_rfl)
  change wpList _ _ _ _ _ wz.drew
  have HF := hid HF.out.drew
  have P2 := hid (show BT wz.drew (w.heap.size + 1 + 1) 0 0 0 0 0 from P2.out)
  go_wp2_with ((with_reducible refine stT rfl (.tmp 6) (.tmp 53) rfl (w.heap.size + 1 + 1) ?_ (k' := 4) (b' := x) (z' := sp) (a' := 0) (n' := 0) ?_ P2.out ?_); (· rfl); (· rfl); intro W' hb2 hf; have HB2 := hid hb2; have HF := kfg htb0 HF hf; clear hb2 hf)
  exact bodyPost_ret (v := .agg #[.int .i64 4, .int .i64 (x), .int .i64 (sp), .int .i64 0, .int .i64 0]) (resT rfl _ _ (w.heap.size + 1 + 1) 4 (x) (sp) 0 0 rfl HB2.out) rfl ⟨rfl, HF.out⟩
set_option maxRecDepth 100000 in
set_option maxHeartbeats 2000000 in
theorem rwants_copya (gc gs gn gl gk : Int) (ch : Int) (z : Int) (A : Option Addr) (l c : Nat) (sp nx : Int) (bs : List Int) (w : World) (hs : -9223372036854775808 ≤ gs ∧ gs ≤ 9223372036854775807) (hm : mayG ⟨gc, gs, gn, gl, gk⟩) (hi : InI w A l c bs) (hb : bs ≠ []) (hd : 0 ≤ nx ∧ nx ≤ (lay ⟨gc, gs, gn, gl, gk⟩).d ∧ (lay ⟨gc, gs, gn, gl, gk⟩).d ≤ 1000000) (hc0 : 0 ≤ ch ∧ ch ≤ 1000000) (hm2 : (lay ⟨gc, gs, gn, gl, gk⟩).d - nx ≤ ch) :
    Calls Try.prog 37 #[.agg #[.int .i64 gc, .int .i64 gs, .int .i64 gn, .int .i64 gl, .int .i64 gk], .int .i64 ch, .agg #[.int .i64 2, .int .i64 z, .slice A l c, .int .i64 sp, .int .i64 nx]] w fun e w' => e = .returned (tv (wantJ (lay ⟨gc, gs, gn, gl, gk⟩).d ch ⟨2, z, bs, sp, nx⟩)) ∧ Fr No w w' := by
  rw [w_copy]
  have HL := hid (fun W => rlayout_ok gc gs gn gl gk W hs)
  rw [show rlo ⟨gc, gs, gn, gl, gk⟩ = (lay ⟨gc, gs, gn, gl, gk⟩, true) by unfold rlo; rw [if_pos hm]] at HL
  have HF := hid (((fr1 w (bg gc gs gn gl gk)).alloc (oJ 2 z A l c sp nx)).alloc (oT 0 0 0 0 0))
  have P0 := hid (BG3 w gc gs gn gl gk (oJ 2 z A l c sp nx) (oT 0 0 0 0 0))
  have P1 := hid ((BJ.at_ (w := w.alloc (bg gc gs gn gl gk)) (g := w.heap.size + 1) 2 z A l c sp nx (by simp)).up (oT 0 0 0 0 0))
  have P2 := hid (BT.at_ (w := (w.alloc (bg gc gs gn gl gk)).alloc (oJ 2 z A l c sp nx)) (g := w.heap.size + 1 + 1) 0 0 0 0 0 (by simp))
  have HI := hid (hi.fr HF.out)
  obtain ⟨y, hy⟩ : ∃ y, lay ⟨gc, gs, gn, gl, gk⟩ = y := ⟨_, rfl⟩
  rw [hy] at HL
  try rw [hy]
  rw [hy] at hd hm2
  rw [Int.min_eq_right (hm2)]
  obtain ⟨n4, n5⟩ := hc0
  obtain ⟨x, hx⟩ : ∃ x, bs.headD 0 = x := ⟨_, rfl⟩
  rw [hx]
  have HX := hid hx
  clear hx
  obtain ⟨ya, yr, yq, yb, yd, yt, yx, yu⟩ := y
  dsimp only at HL hd hm2 ⊢
  obtain ⟨n1, n2, n3⟩ := hd
  clear hy hm hi
  go_enter Try.func37, Try.ntmps37
  go_wp2_with ((with_reducible refine ld_geom rfl (.tmp 3) rfl w.heap.size ?_ P0.out ?_); · rfl)
  refine (HL.out _).mono ?_
  rintro e w1 ⟨rfl, f1⟩
  have HF := hid ((HF.out.trans f1).alloc (by_ ya yr yq yb yd yt yx yu))
  have HI := hid (HI.out.fr (f1.alloc (by_ ya yr yq yb yd yt yx yu)))
  have P1 := hid ((P1.out.fr f1).up (by_ ya yr yq yb yd yt yx yu))
  have P2 := hid ((P2.out.fr f1).up (by_ ya yr yq yb yd yt yx yu))
  have P3 := hid (BL.new w1 ya yr yq yb yd yt yx yu)
  clear f1 HL P0
  obtain ⟨wz, hwz⟩ : ∃ wz, w1.alloc (by_ ya yr yq yb yd yt yx yu) = wz := ⟨_, rfl⟩
  obtain ⟨yl, hyl⟩ : ∃ yl, w1.heap.size = yl := ⟨_, rfl⟩
  rw [hwz] at HF HI P1 P2 P3
  rw [hyl] at P3
  have htb0 : w.heap.size ≤ w.heap.size + 1 + 1 := by omega
  have HFK := HF
  have P2K := P2
  have HB := hid hb
  obtain ⟨g, o, rfl, hl, hc⟩ := HI.out.head HB.out
  have HF := HFK
  have P2 := P2K
  rw [HX.out] at hc
  have hl2 : (0 : Int) < l := by omega
  clear hb
  obtain ⟨c0, c1, c2, c3, c4⟩ := P1.out.cells
  obtain ⟨d0, d1, d2, d3, d4, d5, d6, d7⟩ := P3.out.cells
  clear d0 d1 d2 d3 d5 d6 d7
  go_upto_region 9 with fail
  go_still_tail 10, (by kernel_rfl)
  change wpList _ _ _ _ _ wz.drew
  have HF := hid HF.out.drew
  have P2 := hid (show BT wz.drew (w.heap.size + 1 + 1) 0 0 0 0 0 from P2.out)
  go_wp2_with ((with_reducible refine stT rfl (.tmp 6) (.tmp 44) rfl (w.heap.size + 1 + 1) ?_ (k' := 3) (b' := x) (z' := sp) (a' := nx) (n' := yd - nx) ?_ P2.out ?_); (· rfl); (· rfl); intro W' hb2 hf; have HB2 := hid hb2; have HF := kfg htb0 HF hf; clear hb2 hf)
  exact bodyPost_ret (v := .agg #[.int .i64 3, .int .i64 (x), .int .i64 (sp), .int .i64 (nx), .int .i64 (yd - nx)]) (resT rfl _ _ (w.heap.size + 1 + 1) 3 (x) (sp) (nx) (yd - nx) rfl HB2.out) rfl ⟨rfl, HF.out⟩
set_option maxRecDepth 100000 in
set_option maxHeartbeats 2000000 in
theorem rwants_copyb (gc gs gn gl gk : Int) (ch : Int) (z : Int) (A : Option Addr) (l c : Nat) (sp nx : Int) (bs : List Int) (w : World) (hs : -9223372036854775808 ≤ gs ∧ gs ≤ 9223372036854775807) (hm : mayG ⟨gc, gs, gn, gl, gk⟩) (hi : InI w A l c bs) (hb : bs ≠ []) (hd : 0 ≤ nx ∧ nx ≤ (lay ⟨gc, gs, gn, gl, gk⟩).d ∧ (lay ⟨gc, gs, gn, gl, gk⟩).d ≤ 1000000) (hc0 : 0 ≤ ch ∧ ch ≤ 1000000) (hm2 : ch < (lay ⟨gc, gs, gn, gl, gk⟩).d - nx) :
    Calls Try.prog 37 #[.agg #[.int .i64 gc, .int .i64 gs, .int .i64 gn, .int .i64 gl, .int .i64 gk], .int .i64 ch, .agg #[.int .i64 2, .int .i64 z, .slice A l c, .int .i64 sp, .int .i64 nx]] w fun e w' => e = .returned (tv (wantJ (lay ⟨gc, gs, gn, gl, gk⟩).d ch ⟨2, z, bs, sp, nx⟩)) ∧ Fr No w w' := by
  rw [w_copy]
  have HL := hid (fun W => rlayout_ok gc gs gn gl gk W hs)
  rw [show rlo ⟨gc, gs, gn, gl, gk⟩ = (lay ⟨gc, gs, gn, gl, gk⟩, true) by unfold rlo; rw [if_pos hm]] at HL
  have HF := hid (((fr1 w (bg gc gs gn gl gk)).alloc (oJ 2 z A l c sp nx)).alloc (oT 0 0 0 0 0))
  have P0 := hid (BG3 w gc gs gn gl gk (oJ 2 z A l c sp nx) (oT 0 0 0 0 0))
  have P1 := hid ((BJ.at_ (w := w.alloc (bg gc gs gn gl gk)) (g := w.heap.size + 1) 2 z A l c sp nx (by simp)).up (oT 0 0 0 0 0))
  have P2 := hid (BT.at_ (w := (w.alloc (bg gc gs gn gl gk)).alloc (oJ 2 z A l c sp nx)) (g := w.heap.size + 1 + 1) 0 0 0 0 0 (by simp))
  have HI := hid (hi.fr HF.out)
  obtain ⟨y, hy⟩ : ∃ y, lay ⟨gc, gs, gn, gl, gk⟩ = y := ⟨_, rfl⟩
  rw [hy] at HL
  try rw [hy]
  rw [hy] at hd hm2
  rw [Int.min_eq_left (Int.le_of_lt hm2)]
  obtain ⟨n4, n5⟩ := hc0
  obtain ⟨x, hx⟩ : ∃ x, bs.headD 0 = x := ⟨_, rfl⟩
  rw [hx]
  have HX := hid hx
  clear hx
  obtain ⟨ya, yr, yq, yb, yd, yt, yx, yu⟩ := y
  dsimp only at HL hd hm2 ⊢
  obtain ⟨n1, n2, n3⟩ := hd
  clear hy hm hi
  go_enter Try.func37, Try.ntmps37
  go_wp2_with ((with_reducible refine ld_geom rfl (.tmp 3) rfl w.heap.size ?_ P0.out ?_); · rfl)
  refine (HL.out _).mono ?_
  rintro e w1 ⟨rfl, f1⟩
  have HF := hid ((HF.out.trans f1).alloc (by_ ya yr yq yb yd yt yx yu))
  have HI := hid (HI.out.fr (f1.alloc (by_ ya yr yq yb yd yt yx yu)))
  have P1 := hid ((P1.out.fr f1).up (by_ ya yr yq yb yd yt yx yu))
  have P2 := hid ((P2.out.fr f1).up (by_ ya yr yq yb yd yt yx yu))
  have P3 := hid (BL.new w1 ya yr yq yb yd yt yx yu)
  clear f1 HL P0
  obtain ⟨wz, hwz⟩ : ∃ wz, w1.alloc (by_ ya yr yq yb yd yt yx yu) = wz := ⟨_, rfl⟩
  obtain ⟨yl, hyl⟩ : ∃ yl, w1.heap.size = yl := ⟨_, rfl⟩
  rw [hwz] at HF HI P1 P2 P3
  rw [hyl] at P3
  have htb0 : w.heap.size ≤ w.heap.size + 1 + 1 := by omega
  have HFK := HF
  have P2K := P2
  have HB := hid hb
  obtain ⟨g, o, rfl, hl, hc⟩ := HI.out.head HB.out
  have HF := HFK
  have P2 := P2K
  rw [HX.out] at hc
  have hl2 : (0 : Int) < l := by omega
  clear hb
  obtain ⟨c0, c1, c2, c3, c4⟩ := P1.out.cells
  obtain ⟨d0, d1, d2, d3, d4, d5, d6, d7⟩ := P3.out.cells
  clear d0 d1 d2 d3 d5 d6 d7
  go_upto_region 9 with fail
  go_still_tail 10, (by kernel_rfl)
  change wpList _ _ _ _ _ wz.drew
  have HF := hid HF.out.drew
  have P2 := hid (show BT wz.drew (w.heap.size + 1 + 1) 0 0 0 0 0 from P2.out)
  go_wp2_with ((with_reducible refine stT rfl (.tmp 6) (.tmp 44) rfl (w.heap.size + 1 + 1) ?_ (k' := 3) (b' := x) (z' := sp) (a' := nx) (n' := ch) ?_ P2.out ?_); (· rfl); (· rfl); intro W' hb2 hf; have HB2 := hid hb2; have HF := kfg htb0 HF hf; clear hb2 hf)
  exact bodyPost_ret (v := .agg #[.int .i64 3, .int .i64 (x), .int .i64 (sp), .int .i64 (nx), .int .i64 (ch)]) (resT rfl _ _ (w.heap.size + 1 + 1) 3 (x) (sp) (nx) (ch) rfl HB2.out) rfl ⟨rfl, HF.out⟩
set_option maxRecDepth 100000 in
set_option maxHeartbeats 2000000 in
theorem rwants_commit (gc gs gn gl gk : Int) (ch : Int) (z : Int) (A : Option Addr) (l c : Nat) (sp nx : Int) (bs : List Int) (w : World) (hs : -9223372036854775808 ≤ gs ∧ gs ≤ 9223372036854775807) (hm : mayG ⟨gc, gs, gn, gl, gk⟩) (hi : InI w A l c bs) (hb : bs ≠ []) :
    Calls Try.prog 37 #[.agg #[.int .i64 gc, .int .i64 gs, .int .i64 gn, .int .i64 gl, .int .i64 gk], .int .i64 ch, .agg #[.int .i64 4, .int .i64 z, .slice A l c, .int .i64 sp, .int .i64 nx]] w fun e w' => e = .returned (tv (wantJ (lay ⟨gc, gs, gn, gl, gk⟩).d ch ⟨4, z, bs, sp, nx⟩)) ∧ Fr No w w' := by
  rw [w_commit]
  have HL := hid (fun W => rlayout_ok gc gs gn gl gk W hs)
  rw [show rlo ⟨gc, gs, gn, gl, gk⟩ = (lay ⟨gc, gs, gn, gl, gk⟩, true) by unfold rlo; rw [if_pos hm]] at HL
  have HF := hid (((fr1 w (bg gc gs gn gl gk)).alloc (oJ 4 z A l c sp nx)).alloc (oT 0 0 0 0 0))
  have P0 := hid (BG3 w gc gs gn gl gk (oJ 4 z A l c sp nx) (oT 0 0 0 0 0))
  have P1 := hid ((BJ.at_ (w := w.alloc (bg gc gs gn gl gk)) (g := w.heap.size + 1) 4 z A l c sp nx (by simp)).up (oT 0 0 0 0 0))
  have P2 := hid (BT.at_ (w := (w.alloc (bg gc gs gn gl gk)).alloc (oJ 4 z A l c sp nx)) (g := w.heap.size + 1 + 1) 0 0 0 0 0 (by simp))
  have HI := hid (hi.fr HF.out)
  obtain ⟨y, hy⟩ : ∃ y, lay ⟨gc, gs, gn, gl, gk⟩ = y := ⟨_, rfl⟩
  rw [hy] at HL
  try rw [hy]
  obtain ⟨x, hx⟩ : ∃ x, bs.headD 0 = x := ⟨_, rfl⟩
  rw [hx]
  have HX := hid hx
  clear hx
  obtain ⟨ya, yr, yq, yb, yd, yt, yx, yu⟩ := y
  dsimp only at HL ⊢
  clear hy hm hi
  go_enter Try.func37, Try.ntmps37
  go_wp2_with ((with_reducible refine ld_geom rfl (.tmp 3) rfl w.heap.size ?_ P0.out ?_); · rfl)
  refine (HL.out _).mono ?_
  rintro e w1 ⟨rfl, f1⟩
  have HF := hid ((HF.out.trans f1).alloc (by_ ya yr yq yb yd yt yx yu))
  have HI := hid (HI.out.fr (f1.alloc (by_ ya yr yq yb yd yt yx yu)))
  have P1 := hid ((P1.out.fr f1).up (by_ ya yr yq yb yd yt yx yu))
  have P2 := hid ((P2.out.fr f1).up (by_ ya yr yq yb yd yt yx yu))
  have P3 := hid (BL.new w1 ya yr yq yb yd yt yx yu)
  clear f1 HL P0
  obtain ⟨wz, hwz⟩ : ∃ wz, w1.alloc (by_ ya yr yq yb yd yt yx yu) = wz := ⟨_, rfl⟩
  obtain ⟨yl, hyl⟩ : ∃ yl, w1.heap.size = yl := ⟨_, rfl⟩
  rw [hwz] at HF HI P1 P2 P3
  rw [hyl] at P3
  have htb0 : w.heap.size ≤ w.heap.size + 1 + 1 := by omega
  have HFK := HF
  have P2K := P2
  have HB := hid hb
  obtain ⟨g, o, rfl, hl, hc⟩ := HI.out.head HB.out
  have HF := HFK
  have P2 := P2K
  rw [HX.out] at hc
  have hl2 : (0 : Int) < l := by omega
  clear hb
  obtain ⟨c0, c1, c2, c3, c4⟩ := P1.out.cells
  obtain ⟨d0, d1, d2, d3, d4, d5, d6, d7⟩ := P3.out.cells
  clear d0 d1 d2 d3 d5 d6 d7
  go_upto_region 13 with fail
  go_still_tail 7, (by kernel_rfl)
  change wpList _ _ _ _ _ wz.drew
  have HF := hid HF.out.drew
  have P2 := hid (show BT wz.drew (w.heap.size + 1 + 1) 0 0 0 0 0 from P2.out)
  go_wp2_with ((with_reducible refine stT rfl (.tmp 6) (.tmp 62) rfl (w.heap.size + 1 + 1) ?_ (k' := 5) (b' := x) (z' := sp) (a' := 0) (n' := 0) ?_ P2.out ?_); (· rfl); (· rfl); intro W' hb2 hf; have HB2 := hid hb2; have HF := kfg htb0 HF hf; clear hb2 hf)
  exact bodyPost_ret (v := .agg #[.int .i64 5, .int .i64 (x), .int .i64 (sp), .int .i64 0, .int .i64 0]) (resT rfl _ _ (w.heap.size + 1 + 1) 5 (x) (sp) 0 0 rfl HB2.out) rfl ⟨rfl, HF.out⟩
set_option maxRecDepth 100000 in
set_option maxHeartbeats 2000000 in
theorem rwants_free (gc gs gn gl gk : Int) (ch : Int) (z : Int) (A : Option Addr) (l c : Nat) (sp nx : Int) (bs : List Int) (w : World) (hs : -9223372036854775808 ≤ gs ∧ gs ≤ 9223372036854775807) (hm : mayG ⟨gc, gs, gn, gl, gk⟩) (hi : InI w A l c bs) :
    Calls Try.prog 37 #[.agg #[.int .i64 gc, .int .i64 gs, .int .i64 gn, .int .i64 gl, .int .i64 gk], .int .i64 ch, .agg #[.int .i64 5, .int .i64 z, .slice A l c, .int .i64 sp, .int .i64 nx]] w fun e w' => e = .returned (tv (wantJ (lay ⟨gc, gs, gn, gl, gk⟩).d ch ⟨5, z, bs, sp, nx⟩)) ∧ Fr No w w' := by
  rw [w_free]
  have HL := hid (fun W => rlayout_ok gc gs gn gl gk W hs)
  rw [show rlo ⟨gc, gs, gn, gl, gk⟩ = (lay ⟨gc, gs, gn, gl, gk⟩, true) by unfold rlo; rw [if_pos hm]] at HL
  have HF := hid (((fr1 w (bg gc gs gn gl gk)).alloc (oJ 5 z A l c sp nx)).alloc (oT 0 0 0 0 0))
  have P0 := hid (BG3 w gc gs gn gl gk (oJ 5 z A l c sp nx) (oT 0 0 0 0 0))
  have P1 := hid ((BJ.at_ (w := w.alloc (bg gc gs gn gl gk)) (g := w.heap.size + 1) 5 z A l c sp nx (by simp)).up (oT 0 0 0 0 0))
  have P2 := hid (BT.at_ (w := (w.alloc (bg gc gs gn gl gk)).alloc (oJ 5 z A l c sp nx)) (g := w.heap.size + 1 + 1) 0 0 0 0 0 (by simp))
  have HI := hid (hi.fr HF.out)
  obtain ⟨y, hy⟩ : ∃ y, lay ⟨gc, gs, gn, gl, gk⟩ = y := ⟨_, rfl⟩
  rw [hy] at HL
  try rw [hy]
  obtain ⟨ya, yr, yq, yb, yd, yt, yx, yu⟩ := y
  dsimp only at HL ⊢
  clear hy hm hi
  go_enter Try.func37, Try.ntmps37
  go_wp2_with ((with_reducible refine ld_geom rfl (.tmp 3) rfl w.heap.size ?_ P0.out ?_); · rfl)
  refine (HL.out _).mono ?_
  rintro e w1 ⟨rfl, f1⟩
  have HF := hid ((HF.out.trans f1).alloc (by_ ya yr yq yb yd yt yx yu))
  have HI := hid (HI.out.fr (f1.alloc (by_ ya yr yq yb yd yt yx yu)))
  have P1 := hid ((P1.out.fr f1).up (by_ ya yr yq yb yd yt yx yu))
  have P2 := hid ((P2.out.fr f1).up (by_ ya yr yq yb yd yt yx yu))
  have P3 := hid (BL.new w1 ya yr yq yb yd yt yx yu)
  clear f1 HL P0
  obtain ⟨wz, hwz⟩ : ∃ wz, w1.alloc (by_ ya yr yq yb yd yt yx yu) = wz := ⟨_, rfl⟩
  obtain ⟨yl, hyl⟩ : ∃ yl, w1.heap.size = yl := ⟨_, rfl⟩
  rw [hwz] at HF HI P1 P2 P3
  rw [hyl] at P3
  have htb0 : w.heap.size ≤ w.heap.size + 1 + 1 := by omega
  obtain ⟨c0, c1, c2, c3, c4⟩ := P1.out.cells
  obtain ⟨d0, d1, d2, d3, d4, d5, d6, d7⟩ := P3.out.cells
  clear d0 d1 d2 d3 d5 d6 d7
  go_wp2_with ((with_reducible refine stT rfl (.tmp 6) (.tmp 67) rfl (w.heap.size + 1 + 1) ?_ (k' := 6) (b' := 0) (z' := z) (a' := 0) (n' := 0) ?_ P2.out ?_); (· rfl); (· rfl); intro W' hb2 hf; have HB2 := hid hb2; have HF := kfg htb0 HF hf; clear hb2 hf)
  exact bodyPost_ret (v := .agg #[.int .i64 6, .int .i64 0, .int .i64 (z), .int .i64 0, .int .i64 0]) (resT rfl _ _ (w.heap.size + 1 + 1) 6 0 (z) 0 0 rfl HB2.out) rfl ⟨rfl, HF.out⟩
set_option maxRecDepth 100000 in
set_option maxHeartbeats 2000000 in
theorem rwants_pick (gc gs gn gl gk : Int) (ch : Int) (st : Int) (z : Int) (A : Option Addr) (l c : Nat) (sp nx : Int) (bs : List Int) (w : World) (hs : -9223372036854775808 ≤ gs ∧ gs ≤ 9223372036854775807) (hm : mayG ⟨gc, gs, gn, gl, gk⟩) (hi : InI w A l c bs) (h : st ≠ 1 ∧ st ≠ 2 ∧ st ≠ 3 ∧ st ≠ 4 ∧ st ≠ 5) :
    Calls Try.prog 37 #[.agg #[.int .i64 gc, .int .i64 gs, .int .i64 gn, .int .i64 gl, .int .i64 gk], .int .i64 ch, .agg #[.int .i64 st, .int .i64 z, .slice A l c, .int .i64 sp, .int .i64 nx]] w fun e w' => e = .returned (tv (wantJ (lay ⟨gc, gs, gn, gl, gk⟩).d ch ⟨st, z, bs, sp, nx⟩)) ∧ Fr No w w' := by
  rw [w_pick _ _ _ _ _ _ _ h]
  have HL := hid (fun W => rlayout_ok gc gs gn gl gk W hs)
  rw [show rlo ⟨gc, gs, gn, gl, gk⟩ = (lay ⟨gc, gs, gn, gl, gk⟩, true) by unfold rlo; rw [if_pos hm]] at HL
  have HF := hid (((fr1 w (bg gc gs gn gl gk)).alloc (oJ st z A l c sp nx)).alloc (oT 0 0 0 0 0))
  have P0 := hid (BG3 w gc gs gn gl gk (oJ st z A l c sp nx) (oT 0 0 0 0 0))
  have P1 := hid ((BJ.at_ (w := w.alloc (bg gc gs gn gl gk)) (g := w.heap.size + 1) st z A l c sp nx (by simp)).up (oT 0 0 0 0 0))
  have P2 := hid (BT.at_ (w := (w.alloc (bg gc gs gn gl gk)).alloc (oJ st z A l c sp nx)) (g := w.heap.size + 1 + 1) 0 0 0 0 0 (by simp))
  have HI := hid (hi.fr HF.out)
  obtain ⟨y, hy⟩ : ∃ y, lay ⟨gc, gs, gn, gl, gk⟩ = y := ⟨_, rfl⟩
  rw [hy] at HL
  try rw [hy]
  have e1 : (st == 1) = false := by simpa using h.1
  have e2 : (st == 2) = false := by simpa using h.2.1
  have e3 : (st == 3) = false := by simpa using h.2.2.1
  have e4 : (st == 4) = false := by simpa using h.2.2.2.1
  have e5 : (st == 5) = false := by simpa using h.2.2.2.2
  clear h
  obtain ⟨ya, yr, yq, yb, yd, yt, yx, yu⟩ := y
  dsimp only at HL ⊢
  clear hy hm hi
  go_enter Try.func37, Try.ntmps37
  go_wp2_with ((with_reducible refine ld_geom rfl (.tmp 3) rfl w.heap.size ?_ P0.out ?_); · rfl)
  refine (HL.out _).mono ?_
  rintro e w1 ⟨rfl, f1⟩
  have HF := hid ((HF.out.trans f1).alloc (by_ ya yr yq yb yd yt yx yu))
  have HI := hid (HI.out.fr (f1.alloc (by_ ya yr yq yb yd yt yx yu)))
  have P1 := hid ((P1.out.fr f1).up (by_ ya yr yq yb yd yt yx yu))
  have P2 := hid ((P2.out.fr f1).up (by_ ya yr yq yb yd yt yx yu))
  have P3 := hid (BL.new w1 ya yr yq yb yd yt yx yu)
  clear f1 HL P0
  obtain ⟨wz, hwz⟩ : ∃ wz, w1.alloc (by_ ya yr yq yb yd yt yx yu) = wz := ⟨_, rfl⟩
  obtain ⟨yl, hyl⟩ : ∃ yl, w1.heap.size = yl := ⟨_, rfl⟩
  rw [hwz] at HF HI P1 P2 P3
  rw [hyl] at P3
  have htb0 : w.heap.size ≤ w.heap.size + 1 + 1 := by omega
  obtain ⟨c0, c1, c2, c3, c4⟩ := P1.out.cells
  obtain ⟨d0, d1, d2, d3, d4, d5, d6, d7⟩ := P3.out.cells
  clear d0 d1 d2 d3 d5 d6 d7
  go_wp2_with ((with_reducible refine stT rfl (.tmp 6) (.tmp 68) rfl (w.heap.size + 1 + 1) ?_ (k' := 1) (b' := 0) (z' := 0) (a' := 0) (n' := 0) ?_ P2.out ?_); (· rfl); (· rfl); intro W' hb2 hf; have HB2 := hid hb2; have HF := kfg htb0 HF hf; clear hb2 hf)
  exact bodyPost_ret (v := .agg #[.int .i64 1, .int .i64 0, .int .i64 0, .int .i64 0, .int .i64 0]) (resT rfl _ _ (w.heap.size + 1 + 1) 1 0 0 0 0 rfl HB2.out) rfl ⟨rfl, HF.out⟩
set_option maxRecDepth 100000 in
set_option maxHeartbeats 2000000 in
theorem rwants_ok (gc gs gn gl gk : Int) (ch : Int) (st z : Int) (A : Option Addr) (l c : Nat) (sp nx : Int) (bs : List Int) (w : World) (hs : -9223372036854775808 ≤ gs ∧ gs ≤ 9223372036854775807) (hm : mayG ⟨gc, gs, gn, gl, gk⟩) (hi : InI w A l c bs) (ho : okJ (lay ⟨gc, gs, gn, gl, gk⟩).d ⟨st, z, bs, sp, nx⟩) (hc : 0 ≤ ch ∧ ch ≤ 1000000) :
    Calls Try.prog 37 #[.agg #[.int .i64 gc, .int .i64 gs, .int .i64 gn, .int .i64 gl, .int .i64 gk], .int .i64 ch, .agg #[.int .i64 st, .int .i64 z, .slice A l c, .int .i64 sp, .int .i64 nx]] w fun e w' => e = .returned (tv (wantJ (lay ⟨gc, gs, gn, gl, gk⟩).d ch ⟨st, z, bs, sp, nx⟩)) ∧ Fr No w w' := by
  have hd := (good hm.1).d2
  obtain ⟨h1, h2, h3, h4⟩ := ho
  dsimp only at h1 h2 h3 h4
  rcases h1 with rfl | rfl | rfl | rfl | rfl | rfl
  · exact rwants_pick gc gs gn gl gk ch 0 z A l c sp nx bs w hs hm hi (by decide)
  · exact rwants_band gc gs gn gl gk ch z A l c sp nx bs w hs hm hi (h2 (by simp))
  · by_cases hmn : (lay ⟨gc, gs, gn, gl, gk⟩).d - nx ≤ ch
    · exact rwants_copya gc gs gn gl gk ch z A l c sp nx bs w hs hm hi (h2 (by simp)) (by have := h4 rfl; omega) hc hmn
    · exact rwants_copyb gc gs gn gl gk ch z A l c sp nx bs w hs hm hi (h2 (by simp)) (by have := h4 rfl; omega) hc (by omega)
  · exact rwants_label gc gs gn gl gk ch z A l c sp nx bs w hs hm hi (h2 (by simp))
  · exact rwants_commit gc gs gn gl gk ch z A l c sp nx bs w hs hm hi (h2 (by simp))
  · exact rwants_free gc gs gn gl gk ch z A l c sp nx bs w hs hm hi
set_option maxRecDepth 100000 in
set_option maxHeartbeats 2000000 in
theorem wants_ok (gc gs gn gl gk b d ch : Int) (st z : Int) (A : Option Addr) (l c : Nat) (sp nx : Int) (bs : List Int) (w : World) (hi : InI w A l c bs) (ho : okJ d ⟨st, z, bs, sp, nx⟩) (hd : 0 ≤ d ∧ d ≤ 1000000) (hc : 0 ≤ ch ∧ ch ≤ 1000000) :
    Calls Try.prog 66 #[.agg #[.int .i64 gc, .int .i64 gs, .int .i64 gn, .int .i64 gl, .int .i64 gk, .int .i64 b, .int .i64 d, .int .i64 ch], .agg #[.int .i64 st, .int .i64 z, .slice A l c, .int .i64 sp, .int .i64 nx]] w fun e w' => e = .returned (tv (wantJ d ch ⟨st, z, bs, sp, nx⟩)) ∧ Fr No w w' := by
  obtain ⟨h1, h2, h3, h4⟩ := ho
  dsimp only at h1 h2 h3 h4
  rcases h1 with rfl | rfl | rfl | rfl | rfl | rfl
  · exact wants_pick gc gs gn gl gk b d ch 0 z A l c sp nx bs w hi (by decide)
  · exact wants_band gc gs gn gl gk b d ch z A l c sp nx bs w hi (h2 (by simp))
  · by_cases hm : ch ≤ d - nx
    · exact wants_copya gc gs gn gl gk b d ch z A l c sp nx bs w hi (h2 (by simp)) (by have := h4 rfl; omega) hc hm
    · exact wants_copyb gc gs gn gl gk b d ch z A l c sp nx bs w hi (h2 (by simp)) (by have := h4 rfl; omega) hc (by omega)
  · exact wants_label gc gs gn gl gk b d ch z A l c sp nx bs w hi (h2 (by simp))
  · exact wants_commit gc gs gn gl gk b d ch z A l c sp nx bs w hi (h2 (by simp))
  · exact wants_free gc gs gn gl gk b d ch z A l c sp nx bs w hi
end Go.Proofs.Ytgjcpepfggkieaa.ClG
