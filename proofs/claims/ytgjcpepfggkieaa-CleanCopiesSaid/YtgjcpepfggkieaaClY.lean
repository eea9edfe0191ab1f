/- CleanCopies' walk. Conditions: numbers of 64 bits. -/
import Derived.Test.YtgjcpepfggkieaaClV
import Derived.Test.YtgjcpepfggkieaaClO
namespace Go.Proofs.Ytgjcpepfggkieaa.ClY
open Go.RowKit MSep MGeM GeA GeC GeD GeE GeEk PlA PlB ClM ClA ClE ClB ClC ClD ClF ClG ClH ClI ClJ ClK ClL ClN ClO ClP ClQ ClT ClU ClV

theorem pWants_lit (gc gs gn gl gk : Int) (ch : Int) (st z : Int) (A : Option Addr) (l c : Nat) (sp nx : Int) (bs : List Int) (q1 q2 q3 q4 q5 qe : Int) (w : World) (hs : -9223372036854775808 ≤ gs ∧ gs ≤ 9223372036854775807) (hz : inI z) (hp : inI sp) (hq : wanA ⟨gc, gs, gn, gl, gk⟩ ch ⟨st, z, bs, sp, nx⟩ = ((q1, q2, q3, q4, q5), qe)) (hi : InI w A l c bs) :
    Calls Try.prog 32 #[.agg #[.int .i64 gc, .int .i64 gs, .int .i64 gn, .int .i64 gl, .int .i64 gk], .int .i64 ch, .agg #[.int .i64 st, .int .i64 z, .slice A l c, .int .i64 sp, .int .i64 nx]] w fun r w' => r = .returned (.tuple #[.agg #[.int .i64 q1, .int .i64 q2, .int .i64 q3, .int .i64 q4, .int .i64 q5], .int .i64 qe]) ∧ Fr No w w' := by
  have h := pWants_ok gc gs gn gl gk ch st z A l c sp nx bs w hs hz hp hi
  rw [hq] at h
  exact h
/-- While a band is copied the job may be, wherever it is; and once it is whole. -/
theorem copy_may {g : Ge} {z sp nx : Int} {bs : List Int} (h : mayB g ⟨2, z, bs, sp, 0⟩ = true) (h0 : 0 ≤ nx) (h1 : nx < (lay g).d) : mayB g ⟨2, z, bs, sp, nx⟩ = true := by
  simp only [mayB, Bool.and_eq_true] at h ⊢
  refine ⟨h.1, h.2.1, ?_⟩
  have h3 := h.2.2
  have e1 : clB g ⟨2, z, bs, sp, nx⟩ = clB g ⟨2, z, bs, sp, 0⟩ := rfl
  have e2 : hoB g ⟨2, z, bs, sp, nx⟩ = hoB g ⟨2, z, bs, sp, 0⟩ := rfl
  simp [stB, e1, e2] at h3 ⊢
  exact ⟨h3.1, h3.2.1, h0, h1⟩
theorem whole_may {g : Ge} {z sp : Int} {bs : List Int} (h : mayB g ⟨2, z, bs, sp, 0⟩ = true) : mayB g ⟨4, z, bs, sp, (lay g).d⟩ = true := by
  simp only [mayB, Bool.and_eq_true] at h ⊢
  refine ⟨h.1, h.2.1, ?_⟩
  have h3 := h.2.2
  have e1 : clB g ⟨4, z, bs, sp, (lay g).d⟩ = clB g ⟨2, z, bs, sp, 0⟩ := rfl
  have e2 : hoB g ⟨4, z, bs, sp, (lay g).d⟩ = hoB g ⟨2, z, bs, sp, 0⟩ := rfl
  simp [stB, e1, e2] at h3 ⊢
  exact ⟨h3.1, h3.2.1⟩
theorem InI.far {w w' : World} {A : Option Addr} {l c : Nat} {xs : List Int} {q : Nat} (h : InI w A l c xs) (f : Fr (fun k => k = q) w w') (hn : ∀ g o, A = some ⟨g, o, none⟩ → g ≠ q) : InI w' A l c xs := ⟨h.rd.frS f hn, h.lc, h.cm⟩
def CopyR (w : World) (jb lb : Nat) (gc gs gn gl gk : Int) (ya yr yq yb yd yt yx yu : Int) (zone band spare : Int) (v : Value) (wr : World) : Prop :=
  ∃ (st nx : Int) (A : Option Addr) (l c : Nat), v = .int .i64 nx ∧ BJ wr jb st zone A l c spare nx ∧ InI wr A l c [band] ∧ ((st = 2 ∧ 0 ≤ nx ∧ nx < yd) ∨ (st = 4 ∧ nx = yd)) ∧ BL wr lb ya yr yq yb yd yt yx yu ∧ BG wr w.heap.size gc gs gn gl gk ∧ Fr No w wr
set_option maxRecDepth 100000 in
set_option maxHeartbeats 2000000 in
theorem copies_geom (gc gs gn gl gk : Int) (ch band zone spare : Int) (w : World) (hs : -9223372036854775808 ≤ gs ∧ gs ≤ 9223372036854775807) (hm : ¬ mayG ⟨gc, gs, gn, gl, gk⟩) :
    Calls Try.prog 11 #[.agg #[.int .i64 gc, .int .i64 gs, .int .i64 gn, .int .i64 gl, .int .i64 gk], .int .i64 ch, .int .i64 band, .int .i64 zone, .int .i64 spare] w fun r w' => r = .returned (.bool true) ∧ Fr No w w' := by
  have P0 := hid (BG.new w gc gs gn gl gk)
  have HF := hid (fr1 w (bg gc gs gn gl gk))
  have HL := hid (fun W => rlayout_ok gc gs gn gl gk W hs)
  have HCH := hid (fun W => chunk_ok ch W)
  rw [rlo_no hm] at HL
  unfold z8 at HL
  dsimp only at HL
  clear hm
  go_enter Try.func11, Try.ntmps11
  go_wp2_with (first | ((with_reducible refine ld_geom rfl (.tmp 5) rfl (w.heap.size) ?_ P0.out ?_); · rfl))
  refine (HL.out _).mono ?_
  rintro r v1 ⟨rfl, f1⟩
  have HF := hid ((HF.out.trans f1).alloc (by_ 0 0 0 0 0 0 0 0))
  have P0 := hid (show BG (v1.alloc (by_ 0 0 0 0 0 0 0 0)) (w.heap.size) gc gs gn gl gk from (Blk.fr P0.out f1 (fun h => h)).alloc _)
  have P11 := hid (BL.new v1 0 0 0 0 0 0 0 0)
  obtain ⟨b11, hb⟩ : ∃ x, v1.heap.size = x := ⟨_, rfl⟩
  rw [hb] at P11
  clear f1
  go_wp2_with fail
  try rw [hb]
  clear hb
  refine (lives_ok _).mono ?_
  rintro r v2 ⟨rfl, f2⟩
  have HF := hid (HF.out.trans f2)
  have P0 := hid (show BG (v2) (w.heap.size) gc gs gn gl gk from Blk.fr P0.out f2 (fun h => h))
  have P11 := hid (show BL (v2) (b11) 0 0 0 0 0 0 0 0 from Blk.fr P11.out f2 (fun h => h))
  clear f2
  go_wp2_with fail
  refine (lives_ok _).mono ?_
  rintro r v3 ⟨rfl, f3⟩
  have HF := hid (HF.out.trans f3)
  have P0 := hid (show BG (v3) (w.heap.size) gc gs gn gl gk from Blk.fr P0.out f3 (fun h => h))
  have P11 := hid (show BL (v3) (b11) 0 0 0 0 0 0 0 0 from Blk.fr P11.out f3 (fun h => h))
  clear f3
  go_wp2_with fail
  go_ret
  exact ⟨rfl, HF.out⟩
set_option maxRecDepth 100000 in
set_option maxHeartbeats 2000000 in
theorem copies_chunk (gc gs gn gl gk : Int) (ch band zone spare : Int) (w : World) (hs : -9223372036854775808 ≤ gs ∧ gs ≤ 9223372036854775807) (hm : mayG ⟨gc, gs, gn, gl, gk⟩) (hc : chB ch = false) :
    Calls Try.prog 11 #[.agg #[.int .i64 gc, .int .i64 gs, .int .i64 gn, .int .i64 gl, .int .i64 gk], .int .i64 ch, .int .i64 band, .int .i64 zone, .int .i64 spare] w fun r w' => r = .returned (.bool true) ∧ Fr No w w' := by
  have P0 := hid (BG.new w gc gs gn gl gk)
  have HF := hid (fr1 w (bg gc gs gn gl gk))
  have HL := hid (fun W => rlayout_ok gc gs gn gl gk W hs)
  have HCH := hid (fun W => chunk_ok ch W)
  rw [rlo_yes hm] at HL
  obtain ⟨y, hy0⟩ : ∃ y, lay ⟨gc, gs, gn, gl, gk⟩ = y := ⟨_, rfl⟩
  rw [hy0] at HL
  obtain ⟨ya, yr, yq, yb, yd, yt, yx, yu⟩ := y
  dsimp only at HL
  rw [hc] at HCH
  clear hm hy0
  go_enter Try.func11, Try.ntmps11
  go_wp2_with (first | ((with_reducible refine ld_geom rfl (.tmp 5) rfl (w.heap.size) ?_ P0.out ?_); · rfl))
  refine (HL.out _).mono ?_
  rintro r v1 ⟨rfl, f1⟩
  have HF := hid ((HF.out.trans f1).alloc (by_ ya yr yq yb yd yt yx yu))
  have P0 := hid (show BG (v1.alloc (by_ ya yr yq yb yd yt yx yu)) (w.heap.size) gc gs gn gl gk from (Blk.fr P0.out f1 (fun h => h)).alloc _)
  have P11 := hid (BL.new v1 ya yr yq yb yd yt yx yu)
  obtain ⟨b11, hb⟩ : ∃ x, v1.heap.size = x := ⟨_, rfl⟩
  rw [hb] at P11
  clear f1
  go_wp2_with fail
  try rw [hb]
  clear hb
  refine (lives_ok _).mono ?_
  rintro r v2 ⟨rfl, f2⟩
  have HF := hid (HF.out.trans f2)
  have P0 := hid (show BG (v2) (w.heap.size) gc gs gn gl gk from Blk.fr P0.out f2 (fun h => h))
  have P11 := hid (show BL (v2) (b11) ya yr yq yb yd yt yx yu from Blk.fr P11.out f2 (fun h => h))
  clear f2
  go_wp2_with fail
  refine (HCH.out _).mono ?_
  rintro r w9 ⟨rfl, rfl⟩
  go_wp2_with fail
  refine (lives_ok _).mono ?_
  rintro r v3 ⟨rfl, f3⟩
  have HF := hid (HF.out.trans f3)
  have P0 := hid (show BG (v3) (w.heap.size) gc gs gn gl gk from Blk.fr P0.out f3 (fun h => h))
  have P11 := hid (show BL (v3) (b11) ya yr yq yb yd yt yx yu from Blk.fr P11.out f3 (fun h => h))
  clear f3
  go_wp2_with fail
  go_ret
  exact ⟨rfl, HF.out⟩
set_option maxRecDepth 100000 in
set_option maxHeartbeats 2000000 in
theorem copies_low (gc gs gn gl gk : Int) (ch band zone spare : Int) (w : World) (hs : -9223372036854775808 ≤ gs ∧ gs ≤ 9223372036854775807) (hm : mayG ⟨gc, gs, gn, gl, gk⟩) (hc : chB ch = true) (hb : band < 0) :
    Calls Try.prog 11 #[.agg #[.int .i64 gc, .int .i64 gs, .int .i64 gn, .int .i64 gl, .int .i64 gk], .int .i64 ch, .int .i64 band, .int .i64 zone, .int .i64 spare] w fun r w' => r = .returned (.bool true) ∧ Fr No w w' := by
  have P0 := hid (BG.new w gc gs gn gl gk)
  have HF := hid (fr1 w (bg gc gs gn gl gk))
  have HL := hid (fun W => rlayout_ok gc gs gn gl gk W hs)
  have HCH := hid (fun W => chunk_ok ch W)
  rw [rlo_yes hm] at HL
  obtain ⟨y, hy0⟩ : ∃ y, lay ⟨gc, gs, gn, gl, gk⟩ = y := ⟨_, rfl⟩
  rw [hy0] at HL
  obtain ⟨ya, yr, yq, yb, yd, yt, yx, yu⟩ := y
  dsimp only at HL
  rw [hc] at HCH
  clear hm hy0
  go_enter Try.func11, Try.ntmps11
  go_wp2_with (first | ((with_reducible refine ld_geom rfl (.tmp 5) rfl (w.heap.size) ?_ P0.out ?_); · rfl))
  refine (HL.out _).mono ?_
  rintro r v1 ⟨rfl, f1⟩
  have HF := hid ((HF.out.trans f1).alloc (by_ ya yr yq yb yd yt yx yu))
  have P0 := hid (show BG (v1.alloc (by_ ya yr yq yb yd yt yx yu)) (w.heap.size) gc gs gn gl gk from (Blk.fr P0.out f1 (fun h => h)).alloc _)
  have P11 := hid (BL.new v1 ya yr yq yb yd yt yx yu)
  obtain ⟨b11, hb⟩ : ∃ x, v1.heap.size = x := ⟨_, rfl⟩
  rw [hb] at P11
  clear f1
  go_wp2_with fail
  try rw [hb]
  clear hb
  refine (lives_ok _).mono ?_
  rintro r v2 ⟨rfl, f2⟩
  have HF := hid (HF.out.trans f2)
  have P0 := hid (show BG (v2) (w.heap.size) gc gs gn gl gk from Blk.fr P0.out f2 (fun h => h))
  have P11 := hid (show BL (v2) (b11) ya yr yq yb yd yt yx yu from Blk.fr P11.out f2 (fun h => h))
  clear f2
  go_wp2_with fail
  refine (HCH.out _).mono ?_
  rintro r w9 ⟨rfl, rfl⟩
  obtain ⟨p11_0, p11_1, p11_2, p11_3, p11_4, p11_5, p11_6, p11_7⟩ := P11.out.cells
  go_wp2_with fail
  refine (lives_ok _).mono ?_
  rintro r v3 ⟨rfl, f3⟩
  clear p11_0 p11_1 p11_2 p11_3 p11_4 p11_5 p11_6 p11_7
  have HF := hid (HF.out.trans f3)
  have P0 := hid (show BG (v3) (w.heap.size) gc gs gn gl gk from Blk.fr P0.out f3 (fun h => h))
  have P11 := hid (show BL (v3) (b11) ya yr yq yb yd yt yx yu from Blk.fr P11.out f3 (fun h => h))
  clear f3
  go_wp2_with fail
  go_ret
  exact ⟨rfl, HF.out⟩
set_option maxRecDepth 100000 in
set_option maxHeartbeats 2000000 in
theorem copies_high (gc gs gn gl gk : Int) (ch band zone spare : Int) (w : World) (hs : -9223372036854775808 ≤ gs ∧ gs ≤ 9223372036854775807) (hm : mayG ⟨gc, gs, gn, gl, gk⟩) (hc : chB ch = true) (hb0 : 0 ≤ band) (hb : (lay ⟨gc, gs, gn, gl, gk⟩).b ≤ band) :
    Calls Try.prog 11 #[.agg #[.int .i64 gc, .int .i64 gs, .int .i64 gn, .int .i64 gl, .int .i64 gk], .int .i64 ch, .int .i64 band, .int .i64 zone, .int .i64 spare] w fun r w' => r = .returned (.bool true) ∧ Fr No w w' := by
  have P0 := hid (BG.new w gc gs gn gl gk)
  have HF := hid (fr1 w (bg gc gs gn gl gk))
  have HL := hid (fun W => rlayout_ok gc gs gn gl gk W hs)
  have HCH := hid (fun W => chunk_ok ch W)
  rw [rlo_yes hm] at HL
  obtain ⟨y, hy0⟩ : ∃ y, lay ⟨gc, gs, gn, gl, gk⟩ = y := ⟨_, rfl⟩
  rw [hy0] at HL
  obtain ⟨ya, yr, yq, yb, yd, yt, yx, yu⟩ := y
  dsimp only at HL
  rw [hc] at HCH
  rw [hy0] at hb
  dsimp only at hb
  clear hm hy0
  go_enter Try.func11, Try.ntmps11
  go_wp2_with (first | ((with_reducible refine ld_geom rfl (.tmp 5) rfl (w.heap.size) ?_ P0.out ?_); · rfl))
  refine (HL.out _).mono ?_
  rintro r v1 ⟨rfl, f1⟩
  have HF := hid ((HF.out.trans f1).alloc (by_ ya yr yq yb yd yt yx yu))
  have P0 := hid (show BG (v1.alloc (by_ ya yr yq yb yd yt yx yu)) (w.heap.size) gc gs gn gl gk from (Blk.fr P0.out f1 (fun h => h)).alloc _)
  have P11 := hid (BL.new v1 ya yr yq yb yd yt yx yu)
  obtain ⟨b11, hb⟩ : ∃ x, v1.heap.size = x := ⟨_, rfl⟩
  rw [hb] at P11
  clear f1
  go_wp2_with fail
  try rw [hb]
  clear hb
  refine (lives_ok _).mono ?_
  rintro r v2 ⟨rfl, f2⟩
  have HF := hid (HF.out.trans f2)
  have P0 := hid (show BG (v2) (w.heap.size) gc gs gn gl gk from Blk.fr P0.out f2 (fun h => h))
  have P11 := hid (show BL (v2) (b11) ya yr yq yb yd yt yx yu from Blk.fr P11.out f2 (fun h => h))
  clear f2
  go_wp2_with fail
  refine (HCH.out _).mono ?_
  rintro r w9 ⟨rfl, rfl⟩
  obtain ⟨p11_0, p11_1, p11_2, p11_3, p11_4, p11_5, p11_6, p11_7⟩ := P11.out.cells
  go_wp2_with fail
  refine (lives_ok _).mono ?_
  rintro r v3 ⟨rfl, f3⟩
  clear p11_0 p11_1 p11_2 p11_3 p11_4 p11_5 p11_6 p11_7
  have HF := hid (HF.out.trans f3)
  have P0 := hid (show BG (v3) (w.heap.size) gc gs gn gl gk from Blk.fr P0.out f3 (fun h => h))
  have P11 := hid (show BL (v3) (b11) ya yr yq yb yd yt yx yu from Blk.fr P11.out f3 (fun h => h))
  clear f3
  go_wp2_with fail
  go_ret
  exact ⟨rfl, HF.out⟩
set_option maxRecDepth 100000 in
set_option maxHeartbeats 2000000 in
theorem copies_no (gc gs gn gl gk : Int) (ch band zone spare : Int) (w : World) (hs : -9223372036854775808 ≤ gs ∧ gs ≤ 9223372036854775807) (hm : mayG ⟨gc, gs, gn, gl, gk⟩) (hc : chB ch = true) (hb0 : 0 ≤ band) (hb : band < (lay ⟨gc, gs, gn, gl, gk⟩).b) (hz : inI zone) (hp : inI spare) (hj : mayB ⟨gc, gs, gn, gl, gk⟩ ⟨2, zone, [band], spare, 0⟩ = false) :
    Calls Try.prog 11 #[.agg #[.int .i64 gc, .int .i64 gs, .int .i64 gn, .int .i64 gl, .int .i64 gk], .int .i64 ch, .int .i64 band, .int .i64 zone, .int .i64 spare] w fun r w' => r = .returned (.bool true) ∧ Fr No w w' := by
  have P0 := hid (BG.new w gc gs gn gl gk)
  have HF := hid (fr1 w (bg gc gs gn gl gk))
  have HL := hid (fun W => rlayout_ok gc gs gn gl gk W hs)
  have HCH := hid (fun W => chunk_ok ch W)
  rw [rlo_yes hm] at HL
  obtain ⟨y, hy0⟩ : ∃ y, lay ⟨gc, gs, gn, gl, gk⟩ = y := ⟨_, rfl⟩
  rw [hy0] at HL
  obtain ⟨ya, yr, yq, yb, yd, yt, yx, yu⟩ := y
  dsimp only at HL
  rw [hc] at HCH
  rw [hy0] at hb
  dsimp only at hb
  have HPM := hid (fun A0 (l0 : Nat) (c0 : Nat) W (h : InI W A0 l0 c0 [band]) => may_ok gc gs gn gl gk 2 zone A0 l0 c0 spare 0 [band] W hs hz hp h)
  rw [hj] at HPM
  have HRM := hid (fun A0 (l0 : Nat) (c0 : Nat) W (h : InI W A0 l0 c0 [band]) => rmay_ok gc gs gn gl gk 2 zone A0 l0 c0 spare 0 [band] W hs h)
  rw [hj] at HRM
  clear hm hy0
  go_enter Try.func11, Try.ntmps11
  go_wp2_with (first | ((with_reducible refine ld_geom rfl (.tmp 5) rfl (w.heap.size) ?_ P0.out ?_); · rfl))
  refine (HL.out _).mono ?_
  rintro r v1 ⟨rfl, f1⟩
  have HF := hid ((HF.out.trans f1).alloc (by_ ya yr yq yb yd yt yx yu))
  have P0 := hid (show BG (v1.alloc (by_ ya yr yq yb yd yt yx yu)) (w.heap.size) gc gs gn gl gk from (Blk.fr P0.out f1 (fun h => h)).alloc _)
  have P11 := hid (BL.new v1 ya yr yq yb yd yt yx yu)
  obtain ⟨b11, hb⟩ : ∃ x, v1.heap.size = x := ⟨_, rfl⟩
  rw [hb] at P11
  clear f1
  go_wp2_with fail
  try rw [hb]
  clear hb
  refine (lives_ok _).mono ?_
  rintro r v2 ⟨rfl, f2⟩
  have HF := hid (HF.out.trans f2)
  have P0 := hid (show BG (v2) (w.heap.size) gc gs gn gl gk from Blk.fr P0.out f2 (fun h => h))
  have P11 := hid (show BL (v2) (b11) ya yr yq yb yd yt yx yu from Blk.fr P11.out f2 (fun h => h))
  clear f2
  go_wp2_with fail
  refine (HCH.out _).mono ?_
  rintro r w9 ⟨rfl, rfl⟩
  obtain ⟨p11_0, p11_1, p11_2, p11_3, p11_4, p11_5, p11_6, p11_7⟩ := P11.out.cells
  go_upto_region 5 with fail
  clear p11_0 p11_1 p11_2 p11_3 p11_4 p11_5 p11_6 p11_7
  have hlt : b11 < v2.heap.size + 1 ∧ w.heap.size < v2.heap.size + 1 := by have h1 := (P11.out : Blk _ _ _ _).lt; have h2 := (P0.out : Blk _ _ _ _).lt; omega
  have hsz : w.heap.size ≤ v2.heap.size + 1 := by omega
  have F1 : Fr No v2 ((World.alloc v2 (.cells #[.int .i64 band] 3)).alloc (oJ 2 zone (some ⟨v2.heap.size, 0, none⟩) 1 1 spare 0)) := (fr1 _ _).alloc _
  have HF := hid (HF.out.trans F1)
  have P0 := hid (show BG ((World.alloc v2 (.cells #[.int .i64 band] 3)).alloc (oJ 2 zone (some ⟨v2.heap.size, 0, none⟩) 1 1 spare 0)) (w.heap.size) gc gs gn gl gk from Blk.fr P0.out F1 (fun h => h))
  have P11 := hid (show BL ((World.alloc v2 (.cells #[.int .i64 band] 3)).alloc (oJ 2 zone (some ⟨v2.heap.size, 0, none⟩) 1 1 spare 0)) (b11) ya yr yq yb yd yt yx yu from Blk.fr P11.out F1 (fun h => h))
  have P13 := hid (BJ.at_ (w := World.alloc v2 (.cells #[.int .i64 band] 3)) (g := v2.heap.size + 1) 2 zone (some ⟨v2.heap.size, 0, none⟩) 1 1 spare 0 (by simp))
  have HI := hid (show InI ((World.alloc v2 (.cells #[.int .i64 band] 3)).alloc (oJ 2 zone (some ⟨v2.heap.size, 0, none⟩) 1 1 spare 0)) (some ⟨v2.heap.size, 0, none⟩) 1 1 [band] from (show InI (World.alloc v2 (.cells #[.int .i64 band] 3)) _ 1 1 [band] from ⟨lit_i v2 band, Nat.le_refl _, by simp [maxLen]⟩).fr (fr1 _ _))
  obtain ⟨wa, hwa⟩ : ∃ x, (World.alloc v2 (.cells #[.int .i64 band] 3)).alloc (oJ 2 zone (some ⟨v2.heap.size, 0, none⟩) 1 1 spare 0) = x := ⟨_, rfl⟩
  rw [hwa] at HF P0 P11 P13 HI
  obtain ⟨A0, hA0⟩ : ∃ A0, (some ⟨v2.heap.size, 0, none⟩ : Option Addr) = A0 := ⟨_, rfl⟩
  obtain ⟨jb, hjb⟩ : ∃ x, v2.heap.size + 1 = x := ⟨_, rfl⟩
  try rw [hwa]
  rw [hA0] at P13 HI
  rw [hjb] at P13 hsz hlt
  obtain ⟨hlt1, hlt2⟩ := hlt
  clear F1 hwa
  try rw [hA0]
  try rw [hjb]
  clear hA0 hjb
  go_wp2_with (first | ((with_reducible refine ld_geom rfl (.tmp 5) rfl (w.heap.size) ?_ P0.out ?_); · rfl) | ((with_reducible refine ldJ rfl (.tmp 13) rfl (jb) ?_ P13.out ?_); · rfl))
  refine (HPM.out _ _ _ _ HI.out).mono ?_
  rintro r v3 ⟨rfl, f3⟩
  have HF := hid (HF.out.trans f3)
  have P0 := hid (show BG (v3) (w.heap.size) gc gs gn gl gk from Blk.fr P0.out f3 (fun h => h))
  have P11 := hid (show BL (v3) (b11) ya yr yq yb yd yt yx yu from Blk.fr P11.out f3 (fun h => h))
  have P13 := hid (P13.out.fr f3)
  have HI := hid (HI.out.fr f3)
  clear f3
  go_wp2_with (first | ((with_reducible refine ld_geom rfl (.tmp 5) rfl (w.heap.size) ?_ P0.out ?_); · rfl) | ((with_reducible refine ldJ rfl (.tmp 13) rfl (jb) ?_ P13.out ?_); · rfl))
  refine (HRM.out _ _ _ _ HI.out).mono ?_
  rintro r v4 ⟨rfl, f4⟩
  have HF := hid (HF.out.trans f4)
  have P0 := hid (show BG (v4) (w.heap.size) gc gs gn gl gk from Blk.fr P0.out f4 (fun h => h))
  have P11 := hid (show BL (v4) (b11) ya yr yq yb yd yt yx yu from Blk.fr P11.out f4 (fun h => h))
  have P13 := hid (P13.out.fr f4)
  have HI := hid (HI.out.fr f4)
  clear f4
  go_wp2_with fail
  go_ret
  exact ⟨rfl, HF.out⟩
set_option maxRecDepth 100000 in
set_option maxHeartbeats 2000000 in
theorem copies_yes (gc gs gn gl gk : Int) (ch band zone spare : Int) (w : World) (hs : -9223372036854775808 ≤ gs ∧ gs ≤ 9223372036854775807) (hm : mayG ⟨gc, gs, gn, gl, gk⟩) (hc : chB ch = true) (hb0 : 0 ≤ band) (hb : band < (lay ⟨gc, gs, gn, gl, gk⟩).b) (hz : inI zone) (hp : inI spare) (hj : mayB ⟨gc, gs, gn, gl, gk⟩ ⟨2, zone, [band], spare, 0⟩ = true) :
    Calls Try.prog 11 #[.agg #[.int .i64 gc, .int .i64 gs, .int .i64 gn, .int .i64 gl, .int .i64 gk], .int .i64 ch, .int .i64 band, .int .i64 zone, .int .i64 spare] w fun r w' => r = .returned (.bool true) ∧ Fr No w w' := by
  have P0 := hid (BG.new w gc gs gn gl gk)
  have HF := hid (fr1 w (bg gc gs gn gl gk))
  have HL := hid (fun W => rlayout_ok gc gs gn gl gk W hs)
  have HCH := hid (fun W => chunk_ok ch W)
  rw [rlo_yes hm] at HL
  obtain ⟨y, hy0⟩ : ∃ y, lay ⟨gc, gs, gn, gl, gk⟩ = y := ⟨_, rfl⟩
  rw [hy0] at HL
  obtain ⟨ya, yr, yq, yb, yd, yt, yx, yu⟩ := y
  dsimp only at HL
  rw [hc] at HCH
  rw [hy0] at hb
  dsimp only at hb
  have HPM := hid (fun A0 (l0 : Nat) (c0 : Nat) W (h : InI W A0 l0 c0 [band]) => may_ok gc gs gn gl gk 2 zone A0 l0 c0 spare 0 [band] W hs hz hp h)
  rw [hj] at HPM
  have HJ := hid hj
  have HZ := hid hz
  have HP := hid hp
  have HMG := hid hm
  have HCB := hid hc
  have HY0 := hid hy0
  have hcc := ch_of hc
  obtain ⟨hc1, hc2⟩ := hcc
  have hyd1 := (good hm.1).d1
  have hyd2 := (good hm.1).d2
  rw [hy0] at hyd1 hyd2
  dsimp only at hyd1 hyd2
  clear hm hy0 hj hc hz hp
  go_enter Try.func11, Try.ntmps11
  go_wp2_with (first | ((with_reducible refine ld_geom rfl (.tmp 5) rfl (w.heap.size) ?_ P0.out ?_); · rfl))
  refine (HL.out _).mono ?_
  rintro r v1 ⟨rfl, f1⟩
  have HF := hid ((HF.out.trans f1).alloc (by_ ya yr yq yb yd yt yx yu))
  have P0 := hid (show BG (v1.alloc (by_ ya yr yq yb yd yt yx yu)) (w.heap.size) gc gs gn gl gk from (Blk.fr P0.out f1 (fun h => h)).alloc _)
  have P11 := hid (BL.new v1 ya yr yq yb yd yt yx yu)
  obtain ⟨b11, hb⟩ : ∃ x, v1.heap.size = x := ⟨_, rfl⟩
  rw [hb] at P11
  clear f1
  go_wp2_with fail
  try rw [hb]
  clear hb
  refine (lives_ok _).mono ?_
  rintro r v2 ⟨rfl, f2⟩
  have HF := hid (HF.out.trans f2)
  have P0 := hid (show BG (v2) (w.heap.size) gc gs gn gl gk from Blk.fr P0.out f2 (fun h => h))
  have P11 := hid (show BL (v2) (b11) ya yr yq yb yd yt yx yu from Blk.fr P11.out f2 (fun h => h))
  clear f2
  go_wp2_with fail
  refine (HCH.out _).mono ?_
  rintro r w9 ⟨rfl, rfl⟩
  obtain ⟨p11_0, p11_1, p11_2, p11_3, p11_4, p11_5, p11_6, p11_7⟩ := P11.out.cells
  go_upto_region 5 with fail
  clear p11_0 p11_1 p11_2 p11_3 p11_4 p11_5 p11_6 p11_7
  have hlt : b11 < v2.heap.size + 1 ∧ w.heap.size < v2.heap.size + 1 := by have h1 := (P11.out : Blk _ _ _ _).lt; have h2 := (P0.out : Blk _ _ _ _).lt; omega
  have hsz : w.heap.size ≤ v2.heap.size + 1 := by omega
  have F1 : Fr No v2 ((World.alloc v2 (.cells #[.int .i64 band] 3)).alloc (oJ 2 zone (some ⟨v2.heap.size, 0, none⟩) 1 1 spare 0)) := (fr1 _ _).alloc _
  have HF := hid (HF.out.trans F1)
  have P0 := hid (show BG ((World.alloc v2 (.cells #[.int .i64 band] 3)).alloc (oJ 2 zone (some ⟨v2.heap.size, 0, none⟩) 1 1 spare 0)) (w.heap.size) gc gs gn gl gk from Blk.fr P0.out F1 (fun h => h))
  have P11 := hid (show BL ((World.alloc v2 (.cells #[.int .i64 band] 3)).alloc (oJ 2 zone (some ⟨v2.heap.size, 0, none⟩) 1 1 spare 0)) (b11) ya yr yq yb yd yt yx yu from Blk.fr P11.out F1 (fun h => h))
  have P13 := hid (BJ.at_ (w := World.alloc v2 (.cells #[.int .i64 band] 3)) (g := v2.heap.size + 1) 2 zone (some ⟨v2.heap.size, 0, none⟩) 1 1 spare 0 (by simp))
  have HI := hid (show InI ((World.alloc v2 (.cells #[.int .i64 band] 3)).alloc (oJ 2 zone (some ⟨v2.heap.size, 0, none⟩) 1 1 spare 0)) (some ⟨v2.heap.size, 0, none⟩) 1 1 [band] from (show InI (World.alloc v2 (.cells #[.int .i64 band] 3)) _ 1 1 [band] from ⟨lit_i v2 band, Nat.le_refl _, by simp [maxLen]⟩).fr (fr1 _ _))
  obtain ⟨wa, hwa⟩ : ∃ x, (World.alloc v2 (.cells #[.int .i64 band] 3)).alloc (oJ 2 zone (some ⟨v2.heap.size, 0, none⟩) 1 1 spare 0) = x := ⟨_, rfl⟩
  rw [hwa] at HF P0 P11 P13 HI
  obtain ⟨A0, hA0⟩ : ∃ A0, (some ⟨v2.heap.size, 0, none⟩ : Option Addr) = A0 := ⟨_, rfl⟩
  obtain ⟨jb, hjb⟩ : ∃ x, v2.heap.size + 1 = x := ⟨_, rfl⟩
  try rw [hwa]
  rw [hA0] at P13 HI
  rw [hjb] at P13 hsz hlt
  obtain ⟨hlt1, hlt2⟩ := hlt
  clear F1 hwa
  try rw [hA0]
  try rw [hjb]
  clear hA0 hjb
  go_wp2_with (first | ((with_reducible refine ld_geom rfl (.tmp 5) rfl (w.heap.size) ?_ P0.out ?_); · rfl) | ((with_reducible refine ldJ rfl (.tmp 13) rfl (jb) ?_ P13.out ?_); · rfl))
  refine (HPM.out _ _ _ _ HI.out).mono ?_
  rintro r v3 ⟨rfl, f3⟩
  have HF := hid (HF.out.trans f3)
  have P0 := hid (show BG (v3) (w.heap.size) gc gs gn gl gk from Blk.fr P0.out f3 (fun h => h))
  have P11 := hid (show BL (v3) (b11) ya yr yq yb yd yt yx yu from Blk.fr P11.out f3 (fun h => h))
  have P13 := hid (P13.out.fr f3)
  have HI := hid (HI.out.fr f3)
  clear f3
  go_wp2_with fail
  go_loopw [14] (fun v wr => CopyR w jb b11 gc gs gn gl gk ya yr yq yb yd yt yx yu zone band spare v wr) (fun v _ => (yd - intOf v).toNat)
  case atStart => exact ⟨2, 0, A0, 1, 1, rfl, P13.out, HI.out, .inl ⟨rfl, Int.le_refl 0, by omega⟩, P11.out, P0.out, HF.out⟩
  case round =>
    clear P0 P11 P13 HI HF
    obtain ⟨st, nx, A, l, c, rfl, hbj, hi, hst, hbl, hbg, hf⟩ := hrel
    have P13 := hid hbj
    have HI := hid hi
    have P11 := hid hbl
    have P0 := hid hbg
    have HF := hid hf
    have hll : l ≤ 1000000 := by have h := hi.len; simp at h; omega
    clear hbj hi hbl hbg hf
    rcases hst with ⟨hs2, hn1, hn2⟩ | ⟨hs4, hn⟩
    · have P11L := P11
      have P0L := P0
      have HIL := HI
      have HFL := HF
      subst hs2
      have P11 := P11L
      have P0 := P0L
      have HI := HIL
      have HF := HFL
      obtain ⟨n, hnn⟩ : ∃ n, min ch (yd - nx) = n := ⟨_, rfl⟩
      have hm1 : 1 ≤ n := by omega
      have hm2 : n ≤ yd - nx := by omega
      have hm3 : n ≤ ch := by omega
      have hmj := copy_may (nx := nx) HJ.out hn1 (by rw [HY0.out]; exact hn2)
      have HW := hid (fun W (h : InI W A l c [band]) => pWants_lit gc gs gn gl gk ch 2 zone A l c spare nx [band] 3 band spare nx n 0 W hs HZ.out HP.out (by unfold wanA; rw [if_pos HMG.out, hmj, HCB.out, HY0.out, w_copy]; simp [hnn]) h)
      obtain ⟨sv, hsv⟩ : ∃ v, (if nx + n = yd then 4 else 2 : Int) = v := ⟨_, rfl⟩
      have HA := hid (fun W (h : InI W A l c [band]) => pAfter_fresh gc gs gn gl gk ch 2 zone A l c spare nx [band] 3 0 0 none 0 0 [] sv zone [band] spare (nx + n) 0 W hs HZ.out HP.out (by unfold inI; decide) (by
        have hmt : mayB ⟨gc, gs, gn, gl, gk⟩ ⟨sv, zone, [band], spare, nx + n⟩ = true := by
          rw [← hsv]
          split
          · rename_i he; rw [he, ← show (lay ⟨gc, gs, gn, gl, gk⟩).d = yd by rw [HY0.out]]; exact whole_may HJ.out
          · exact copy_may HJ.out (by omega) (by rw [HY0.out]; show nx + n < yd; omega)
        have htj : turnJ yd ch 3 ⟨2, zone, [band], spare, nx⟩ ⟨3, 0, 0, []⟩ = ⟨sv, zone, [band], spare, nx + n⟩ := by simp [turnJ, w_copy, hnn, hsv]
        unfold aftA; rw [if_pos HMG.out, hmj, HCB.out]
        show aftJ ⟨gc, gs, gn, gl, gk⟩ ch ⟨2, zone, [band], spare, nx⟩ ⟨3, 0, 0, []⟩ = _
        unfold aftJ; dsimp only
        rw [if_neg (by decide), if_neg (by decide), HY0.out]
        dsimp only
        rw [w_copy, if_pos rfl, htj, hmt]; rfl) h (InI.nil W) hll (by omega))
      have HSV := hid hsv
      clear hnn hmj hsv
      obtain ⟨p13_0, p13_1, p13_2, p13_3, p13_4⟩ := P13.out.cells
      go_wp2_with (first | ((with_reducible refine ld_geom rfl (.tmp 5) rfl (w.heap.size) ?_ P0.out ?_); · rfl) | ((with_reducible refine ldJ rfl (.tmp 13) rfl (jb) ?_ P13.out ?_); · rfl))
      refine (HW.out _ HI.out).mono ?_
      rintro r v21 ⟨rfl, f21⟩
      clear p13_0 p13_1 p13_2 p13_3 p13_4
      have HF := hid ((HF.out.trans f21).alloc (oT 3 band spare nx n))
      have P0 := hid (show BG (v21.alloc (oT 3 band spare nx n)) (w.heap.size) gc gs gn gl gk from (Blk.fr P0.out f21 (fun h => h)).alloc _)
      have P11 := hid (show BL (v21.alloc (oT 3 band spare nx n)) (b11) ya yr yq yb yd yt yx yu from (Blk.fr P11.out f21 (fun h => h)).alloc _)
      have P13 := hid ((P13.out.fr f21).up (oT 3 band spare nx n))
      have HI := hid (HI.out.fr (f21.alloc (oT 3 band spare nx n)))
      have P15 := hid (BT.at_ (w := v21) 3 band spare nx n rfl)
      obtain ⟨b15, hb⟩ : ∃ x, v21.heap.size = x := ⟨_, rfl⟩
      rw [hb] at P15
      clear f21
      obtain ⟨p11_0, p11_1, p11_2, p11_3, p11_4, p11_5, p11_6, p11_7⟩ := P11.out.cells
      go_wp2_with (first | ((with_reducible refine ld_geom rfl (.tmp 5) rfl (w.heap.size) ?_ P0.out ?_); · rfl) | ((with_reducible refine ldJ rfl (.tmp 13) rfl (jb) ?_ P13.out ?_); · rfl))
      try rw [hb]
      clear hb
      have HJW := hid ((P13.out : Blk _ _ _ _).lt)
      refine (HA.out _ HI.out).mono ?_
      rintro r w30 ⟨A5, l5, c5, rfl, i5, hfr, f30⟩
      clear p11_0 p11_1 p11_2 p11_3 p11_4
      have P13 := hid (P13.out.fr f30)
      have P11 := hid (show BL w30 b11 ya yr yq yb yd yt yx yu from Blk.fr P11.out f30 (fun h => h))
      have P0 := hid (show BG w30 w.heap.size gc gs gn gl gk from Blk.fr P0.out f30 (fun h => h))
      have HF := hid (HF.out.trans f30)
      have HI5 := hid i5
      have hjw : jb < (World.alloc v21 (oT 3 band spare nx n)).heap.size := HJW.out
      have HFR := hid hfr
      have hnb : b11 ≠ jb := by omega
      have hng : w.heap.size ≠ jb := by omega
      have hne : ∀ g o, A5 = some ⟨g, o, none⟩ → g ≠ jb := fun g o h => by have := hfr g o h; omega
      have HNE := hid hne
      clear i5 hfr f30 hne
      go_upto_region 14 with ((with_reducible refine stJ rfl (.tmp 13) (.tmp 122) rfl jb ?_ (st' := sv) (z' := zone) (A' := A5) (l' := l5) (c' := c5) (sp' := spare) (nx' := nx + n) ?_ P13.out ?_); (· rfl); (· rfl); intro W' hb hf; have P13N := hid hb; have HF := kfg hsz HF hf; have P11 := hid (show BL W' b11 ya yr yq yb yd yt yx yu from Blk.fr P11.out hf hnb); have P0 := hid (show BG W' w.heap.size gc gs gn gl gk from Blk.fr P0.out hf hng); have HI5 := hid (InI.far HI5.out hf HNE.out); clear hb hf)
      obtain ⟨y0, y1, y2, y3, y4, y5, y6, y7⟩ := P11.out.cells
      go_wp2_with fail
      go_roundw
      case rel =>
        refine ⟨sv, nx + n, A5, l5, c5, rfl, P13N.out, HI5.out, ?_, P11.out, P0.out, HF.out⟩
        have h := HSV.out
        split at h
        · rename_i he; exact .inr ⟨h.symm, he⟩
        · exact .inl ⟨h.symm, by omega, by omega⟩
      case measure => simp [intOf]; omega
    · have P11L := P11
      have P0L := P0
      have HFL := HF
      subst hs4
      have HF := HFL
      have P11 := P11L
      have hnn : (nx == yd) = true := by simpa using hn
      obtain ⟨c0, c1, c2, c3, c4⟩ := P13.out.cells
      obtain ⟨y0, y1, y2, y3, y4, y5, y6, y7⟩ := P11.out.cells
      clear hn
      go_wp2_with fail
      go_ret
      exact ⟨rfl, HF.out⟩
theorem row (gc gs gn gl gk : Int) (ch band zone spare : Int) (w : World) (hs : -9223372036854775808 ≤ gs ∧ gs ≤ 9223372036854775807) (hz : inI zone) (hp : inI spare) :
    Calls Try.prog 11 #[.agg #[.int .i64 gc, .int .i64 gs, .int .i64 gn, .int .i64 gl, .int .i64 gk], .int .i64 ch, .int .i64 band, .int .i64 zone, .int .i64 spare] w fun r w' => r = .returned (.bool true) ∧ Fr No w w' := by
  by_cases hm : mayG ⟨gc, gs, gn, gl, gk⟩
  case neg => exact copies_geom gc gs gn gl gk ch band zone spare w hs hm
  cases hc : chB ch
  · exact copies_chunk gc gs gn gl gk ch band zone spare w hs hm hc
  by_cases hb0 : 0 ≤ band
  case neg => exact copies_low gc gs gn gl gk ch band zone spare w hs hm hc (by omega)
  by_cases hb : band < (lay ⟨gc, gs, gn, gl, gk⟩).b
  case neg => exact copies_high gc gs gn gl gk ch band zone spare w hs hm hc hb0 (by omega)
  cases hj : mayB ⟨gc, gs, gn, gl, gk⟩ ⟨2, zone, [band], spare, 0⟩
  · exact copies_no gc gs gn gl gk ch band zone spare w hs hm hc hb0 hb hz hp hj
  · exact copies_yes gc gs gn gl gk ch band zone spare w hs hm hc hb0 hb hz hp hj
end Go.Proofs.Ytgjcpepfggkieaa.ClY
