/- CleanEnds' walk, where nothing is asked. Conditions: numbers of 64 bits. -/
import Derived.Test.YtgjcpepfggkieaaClV
import Derived.Test.YtgjcpepfggkieaaClZm
namespace Go.Proofs.Ytgjcpepfggkieaa.ClZa
open Go.RowKit MSep MGeM GeA GeC GeD GeE GeEk PlA PlB ClM ClA ClE ClB ClC ClD ClF ClG ClH ClI ClJ ClK ClL ClN ClO ClP ClQ ClT ClU ClV ClZm

theorem geo_in {g : Ge} (h : mayG g) : 2 ≤ g.c ∧ g.c ≤ 16 ∧ 0 ≤ g.s ∧ g.s ≤ 254 := by
  obtain ⟨h1, h2, h3⟩ := h
  unfold inB at h1
  omega
set_option maxRecDepth 100000 in
set_option maxHeartbeats 2000000 in
theorem ends_geom (gc gs gn gl gk : Int) (ch zone : Int) (A : Option Addr) (l c : Nat) (spare : Int) (bs : List Int) (w : World) (hs : -9223372036854775808 ≤ gs ∧ gs ≤ 9223372036854775807) (hi : InI w A l c bs) (hm : ¬ mayG ⟨gc, gs, gn, gl, gk⟩) :
    Calls Try.prog 10 #[.agg #[.int .i64 gc, .int .i64 gs, .int .i64 gn, .int .i64 gl, .int .i64 gk], .int .i64 ch, .int .i64 zone, .slice A l c, .int .i64 spare] w fun r w' => r = .returned (.bool true) ∧ Fr No w w' := by
  have P0 := hid (BG.new w gc gs gn gl gk)
  have HF := hid (fr1 w (bg gc gs gn gl gk))
  have HL := hid (fun W => rlayout_ok gc gs gn gl gk W hs)
  have HCH := hid (fun W => chunk_ok ch W)
  have hlm : l ≤ maxLen := Nat.le_trans hi.lc hi.cm
  rw [rlo_no hm] at HL
  unfold z8 at HL
  dsimp only at HL
  clear hm
  clear hi
  go_enter Try.func10, Try.ntmps10
  go_wp2_with (first | ((with_reducible refine ld_geom rfl (.tmp 5) rfl (w.heap.size) ?_ P0.out ?_); · rfl))
  refine (HL.out _).mono ?_
  rintro r v1 ⟨rfl, f1⟩
  have HF := hid ((HF.out.trans f1).alloc (by_ 0 0 0 0 0 0 0 0))
  have P0 := hid (show BG (v1.alloc (by_ 0 0 0 0 0 0 0 0)) (w.heap.size) gc gs gn gl gk from (Blk.fr P0.out f1 (fun h => h)).alloc _)
  have P11 := hid (BL.new v1 0 0 0 0 0 0 0 0)
  obtain ⟨b11, hb⟩ : ∃ x, v1.heap.size = x := ⟨_, rfl⟩
  rw [hb] at P11
  clear f1
  go_wp2_with fail
  try rw [hb]
  clear hb
  refine (lives_ok _).mono ?_
  rintro r v2 ⟨rfl, f2⟩
  have HF := hid (HF.out.trans f2)
  have P0 := hid (show BG (v2) (w.heap.size) gc gs gn gl gk from Blk.fr P0.out f2 (fun h => h))
  have P11 := hid (show BL (v2) (b11) 0 0 0 0 0 0 0 0 from Blk.fr P11.out f2 (fun h => h))
  clear f2
  go_wp2_with fail
  refine (lives_ok _).mono ?_
  rintro r v3 ⟨rfl, f3⟩
  have HF := hid (HF.out.trans f3)
  have P0 := hid (show BG (v3) (w.heap.size) gc gs gn gl gk from Blk.fr P0.out f3 (fun h => h))
  have P11 := hid (show BL (v3) (b11) 0 0 0 0 0 0 0 0 from Blk.fr P11.out f3 (fun h => h))
  clear f3
  go_wp2_with fail
  go_ret
  exact ⟨rfl, HF.out⟩
set_option maxRecDepth 100000 in
set_option maxHeartbeats 2000000 in
theorem ends_chunk (gc gs gn gl gk : Int) (ch zone : Int) (A : Option Addr) (l c : Nat) (spare : Int) (bs : List Int) (w : World) (hs : -9223372036854775808 ≤ gs ∧ gs ≤ 9223372036854775807) (hi : InI w A l c bs) (hm : mayG ⟨gc, gs, gn, gl, gk⟩) (hc : chB ch = false) :
    Calls Try.prog 10 #[.agg #[.int .i64 gc, .int .i64 gs, .int .i64 gn, .int .i64 gl, .int .i64 gk], .int .i64 ch, .int .i64 zone, .slice A l c, .int .i64 spare] w fun r w' => r = .returned (.bool true) ∧ Fr No w w' := by
  have P0 := hid (BG.new w gc gs gn gl gk)
  have HF := hid (fr1 w (bg gc gs gn gl gk))
  have HL := hid (fun W => rlayout_ok gc gs gn gl gk W hs)
  have HCH := hid (fun W => chunk_ok ch W)
  have hlm : l ≤ maxLen := Nat.le_trans hi.lc hi.cm
  rw [rlo_yes hm] at HL
  have hb1 := (good hm.1).b1
  have hb2 := (good hm.1).b2
  have hd1 := (good hm.1).d1
  have hd2 := (good hm.1).d2
  have hpp := sect_in hb1 hb2 hd1 hd2
  have hgg := geo_in hm
  obtain ⟨y, hy0⟩ : ∃ y, lay ⟨gc, gs, gn, gl, gk⟩ = y := ⟨_, rfl⟩
  rw [hy0] at HL hb1 hb2 hd1 hd2 hpp
  obtain ⟨ya, yr, yq, yb, yd, yt, yx, yu⟩ := y
  dsimp only at HL hb1 hb2 hd1 hd2 hpp hgg
  obtain ⟨p, hp0⟩ : ∃ p, yb * yd = p := ⟨_, rfl⟩
  rw [hp0] at hpp
  have m1 : wrap64 (yb * yd) = p := by rw [hp0]; exact w64 _ (by omega)
  have m2 : wrap64 (gc + gs) = gc + gs := w64 _ (by omega)
  rw [hc] at HCH
  clear hm hy0 hp0
  clear hi
  go_enter Try.func10, Try.ntmps10
  go_wp2_with (first | ((with_reducible refine ld_geom rfl (.tmp 5) rfl (w.heap.size) ?_ P0.out ?_); · rfl))
  refine (HL.out _).mono ?_
  rintro r v1 ⟨rfl, f1⟩
  have HF := hid ((HF.out.trans f1).alloc (by_ ya yr yq yb yd yt yx yu))
  have P0 := hid (show BG (v1.alloc (by_ ya yr yq yb yd yt yx yu)) (w.heap.size) gc gs gn gl gk from (Blk.fr P0.out f1 (fun h => h)).alloc _)
  have P11 := hid (BL.new v1 ya yr yq yb yd yt yx yu)
  obtain ⟨b11, hb⟩ : ∃ x, v1.heap.size = x := ⟨_, rfl⟩
  rw [hb] at P11
  clear f1
  go_wp2_with fail
  try rw [hb]
  clear hb
  refine (lives_ok _).mono ?_
  rintro r v2 ⟨rfl, f2⟩
  have HF := hid (HF.out.trans f2)
  have P0 := hid (show BG (v2) (w.heap.size) gc gs gn gl gk from Blk.fr P0.out f2 (fun h => h))
  have P11 := hid (show BL (v2) (b11) ya yr yq yb yd yt yx yu from Blk.fr P11.out f2 (fun h => h))
  clear f2
  go_wp2_with fail
  refine (HCH.out _).mono ?_
  rintro r w9 ⟨rfl, rfl⟩
  go_wp2_with fail
  refine (lives_ok _).mono ?_
  rintro r v3 ⟨rfl, f3⟩
  have HF := hid (HF.out.trans f3)
  have P0 := hid (show BG (v3) (w.heap.size) gc gs gn gl gk from Blk.fr P0.out f3 (fun h => h))
  have P11 := hid (show BL (v3) (b11) ya yr yq yb yd yt yx yu from Blk.fr P11.out f3 (fun h => h))
  clear f3
  go_wp2_with fail
  go_ret
  exact ⟨rfl, HF.out⟩
set_option maxRecDepth 100000 in
set_option maxHeartbeats 2000000 in
theorem ends_len (gc gs gn gl gk : Int) (ch zone : Int) (A : Option Addr) (l c : Nat) (spare : Int) (bs : List Int) (w : World) (hs : -9223372036854775808 ≤ gs ∧ gs ≤ 9223372036854775807) (hi : InI w A l c bs) (hm : mayG ⟨gc, gs, gn, gl, gk⟩) (hc : chB ch = true) (hl : 100 < l) :
    Calls Try.prog 10 #[.agg #[.int .i64 gc, .int .i64 gs, .int .i64 gn, .int .i64 gl, .int .i64 gk], .int .i64 ch, .int .i64 zone, .slice A l c, .int .i64 spare] w fun r w' => r = .returned (.bool true) ∧ Fr No w w' := by
  have P0 := hid (BG.new w gc gs gn gl gk)
  have HF := hid (fr1 w (bg gc gs gn gl gk))
  have HL := hid (fun W => rlayout_ok gc gs gn gl gk W hs)
  have HCH := hid (fun W => chunk_ok ch W)
  have hlm : l ≤ maxLen := Nat.le_trans hi.lc hi.cm
  rw [rlo_yes hm] at HL
  have hb1 := (good hm.1).b1
  have hb2 := (good hm.1).b2
  have hd1 := (good hm.1).d1
  have hd2 := (good hm.1).d2
  have hpp := sect_in hb1 hb2 hd1 hd2
  have hgg := geo_in hm
  obtain ⟨y, hy0⟩ : ∃ y, lay ⟨gc, gs, gn, gl, gk⟩ = y := ⟨_, rfl⟩
  rw [hy0] at HL hb1 hb2 hd1 hd2 hpp
  obtain ⟨ya, yr, yq, yb, yd, yt, yx, yu⟩ := y
  dsimp only at HL hb1 hb2 hd1 hd2 hpp hgg
  obtain ⟨p, hp0⟩ : ∃ p, yb * yd = p := ⟨_, rfl⟩
  rw [hp0] at hpp
  have m1 : wrap64 (yb * yd) = p := by rw [hp0]; exact w64 _ (by omega)
  have m2 : wrap64 (gc + gs) = gc + gs := w64 _ (by omega)
  rw [hc] at HCH
  clear hm hy0 hp0
  clear hi
  go_enter Try.func10, Try.ntmps10
  go_wp2_with (first | ((with_reducible refine ld_geom rfl (.tmp 5) rfl (w.heap.size) ?_ P0.out ?_); · rfl))
  refine (HL.out _).mono ?_
  rintro r v1 ⟨rfl, f1⟩
  have HF := hid ((HF.out.trans f1).alloc (by_ ya yr yq yb yd yt yx yu))
  have P0 := hid (show BG (v1.alloc (by_ ya yr yq yb yd yt yx yu)) (w.heap.size) gc gs gn gl gk from (Blk.fr P0.out f1 (fun h => h)).alloc _)
  have P11 := hid (BL.new v1 ya yr yq yb yd yt yx yu)
  obtain ⟨b11, hb⟩ : ∃ x, v1.heap.size = x := ⟨_, rfl⟩
  rw [hb] at P11
  clear f1
  go_wp2_with fail
  try rw [hb]
  clear hb
  refine (lives_ok _).mono ?_
  rintro r v2 ⟨rfl, f2⟩
  have HF := hid (HF.out.trans f2)
  have P0 := hid (show BG (v2) (w.heap.size) gc gs gn gl gk from Blk.fr P0.out f2 (fun h => h))
  have P11 := hid (show BL (v2) (b11) ya yr yq yb yd yt yx yu from Blk.fr P11.out f2 (fun h => h))
  clear f2
  go_wp2_with fail
  refine (HCH.out _).mono ?_
  rintro r w9 ⟨rfl, rfl⟩
  obtain ⟨p11_0, p11_1, p11_2, p11_3, p11_4, p11_5, p11_6, p11_7⟩ := P11.out.cells
  obtain ⟨p0_0, p0_1, p0_2, p0_3, p0_4⟩ := P0.out.cells
  go_wp2_with fail
  refine (lives_ok _).mono ?_
  rintro r v3 ⟨rfl, f3⟩
  clear p11_0 p11_1 p11_2 p11_3 p11_4 p11_5 p11_6 p11_7 p0_0 p0_1 p0_2 p0_3 p0_4
  have HF := hid (HF.out.trans f3)
  have P0 := hid (show BG (v3) (w.heap.size) gc gs gn gl gk from Blk.fr P0.out f3 (fun h => h))
  have P11 := hid (show BL (v3) (b11) ya yr yq yb yd yt yx yu from Blk.fr P11.out f3 (fun h => h))
  clear f3
  go_wp2_with fail
  go_ret
  exact ⟨rfl, HF.out⟩
set_option maxRecDepth 100000 in
set_option maxHeartbeats 2000000 in
theorem ends_big (gc gs gn gl gk : Int) (ch zone : Int) (A : Option Addr) (l c : Nat) (spare : Int) (bs : List Int) (w : World) (hs : -9223372036854775808 ≤ gs ∧ gs ≤ 9223372036854775807) (hi : InI w A l c bs) (hm : mayG ⟨gc, gs, gn, gl, gk⟩) (hc : chB ch = true) (hl : l ≤ 100) (hb : 5000 < (lay ⟨gc, gs, gn, gl, gk⟩).b * (lay ⟨gc, gs, gn, gl, gk⟩).d) :
    Calls Try.prog 10 #[.agg #[.int .i64 gc, .int .i64 gs, .int .i64 gn, .int .i64 gl, .int .i64 gk], .int .i64 ch, .int .i64 zone, .slice A l c, .int .i64 spare] w fun r w' => r = .returned (.bool true) ∧ Fr No w w' := by
  have P0 := hid (BG.new w gc gs gn gl gk)
  have HF := hid (fr1 w (bg gc gs gn gl gk))
  have HL := hid (fun W => rlayout_ok gc gs gn gl gk W hs)
  have HCH := hid (fun W => chunk_ok ch W)
  have hlm : l ≤ maxLen := Nat.le_trans hi.lc hi.cm
  rw [rlo_yes hm] at HL
  have hb1 := (good hm.1).b1
  have hb2 := (good hm.1).b2
  have hd1 := (good hm.1).d1
  have hd2 := (good hm.1).d2
  have hpp := sect_in hb1 hb2 hd1 hd2
  have hgg := geo_in hm
  obtain ⟨y, hy0⟩ : ∃ y, lay ⟨gc, gs, gn, gl, gk⟩ = y := ⟨_, rfl⟩
  rw [hy0] at HL hb1 hb2 hd1 hd2 hpp
  obtain ⟨ya, yr, yq, yb, yd, yt, yx, yu⟩ := y
  dsimp only at HL hb1 hb2 hd1 hd2 hpp hgg
  obtain ⟨p, hp0⟩ : ∃ p, yb * yd = p := ⟨_, rfl⟩
  rw [hp0] at hpp
  have m1 : wrap64 (yb * yd) = p := by rw [hp0]; exact w64 _ (by omega)
  have m2 : wrap64 (gc + gs) = gc + gs := w64 _ (by omega)
  rw [hc] at HCH
  rw [hy0] at hb
  dsimp only at hb
  rw [hp0] at hb
  clear hm hy0 hp0
  clear hi
  go_enter Try.func10, Try.ntmps10
  go_wp2_with (first | ((with_reducible refine ld_geom rfl (.tmp 5) rfl (w.heap.size) ?_ P0.out ?_); · rfl))
  refine (HL.out _).mono ?_
  rintro r v1 ⟨rfl, f1⟩
  have HF := hid ((HF.out.trans f1).alloc (by_ ya yr yq yb yd yt yx yu))
  have P0 := hid (show BG (v1.alloc (by_ ya yr yq yb yd yt yx yu)) (w.heap.size) gc gs gn gl gk from (Blk.fr P0.out f1 (fun h => h)).alloc _)
  have P11 := hid (BL.new v1 ya yr yq yb yd yt yx yu)
  obtain ⟨b11, hb⟩ : ∃ x, v1.heap.size = x := ⟨_, rfl⟩
  rw [hb] at P11
  clear f1
  go_wp2_with fail
  try rw [hb]
  clear hb
  refine (lives_ok _).mono ?_
  rintro r v2 ⟨rfl, f2⟩
  have HF := hid (HF.out.trans f2)
  have P0 := hid (show BG (v2) (w.heap.size) gc gs gn gl gk from Blk.fr P0.out f2 (fun h => h))
  have P11 := hid (show BL (v2) (b11) ya yr yq yb yd yt yx yu from Blk.fr P11.out f2 (fun h => h))
  clear f2
  go_wp2_with fail
  refine (HCH.out _).mono ?_
  rintro r w9 ⟨rfl, rfl⟩
  obtain ⟨p11_0, p11_1, p11_2, p11_3, p11_4, p11_5, p11_6, p11_7⟩ := P11.out.cells
  obtain ⟨p0_0, p0_1, p0_2, p0_3, p0_4⟩ := P0.out.cells
  go_wp2_with fail
  refine (lives_ok _).mono ?_
  rintro r v3 ⟨rfl, f3⟩
  clear p11_0 p11_1 p11_2 p11_3 p11_4 p11_5 p11_6 p11_7 p0_0 p0_1 p0_2 p0_3 p0_4
  have HF := hid (HF.out.trans f3)
  have P0 := hid (show BG (v3) (w.heap.size) gc gs gn gl gk from Blk.fr P0.out f3 (fun h => h))
  have P11 := hid (show BL (v3) (b11) ya yr yq yb yd yt yx yu from Blk.fr P11.out f3 (fun h => h))
  clear f3
  go_wp2_with fail
  go_ret
  exact ⟨rfl, HF.out⟩
set_option maxRecDepth 100000 in
set_option maxHeartbeats 2000000 in
theorem ends_same (gc gs gn gl gk : Int) (ch zone : Int) (A : Option Addr) (l c : Nat) (spare : Int) (bs : List Int) (w : World) (hs : -9223372036854775808 ≤ gs ∧ gs ≤ 9223372036854775807) (hi : InI w A l c bs) (hm : mayG ⟨gc, gs, gn, gl, gk⟩) (hc : chB ch = true) (hl : l ≤ 100) (hb : (lay ⟨gc, gs, gn, gl, gk⟩).b * (lay ⟨gc, gs, gn, gl, gk⟩).d ≤ 5000) (hz : spare = zone) :
    Calls Try.prog 10 #[.agg #[.int .i64 gc, .int .i64 gs, .int .i64 gn, .int .i64 gl, .int .i64 gk], .int .i64 ch, .int .i64 zone, .slice A l c, .int .i64 spare] w fun r w' => r = .returned (.bool true) ∧ Fr No w w' := by
  have P0 := hid (BG.new w gc gs gn gl gk)
  have HF := hid (fr1 w (bg gc gs gn gl gk))
  have HL := hid (fun W => rlayout_ok gc gs gn gl gk W hs)
  have HCH := hid (fun W => chunk_ok ch W)
  have hlm : l ≤ maxLen := Nat.le_trans hi.lc hi.cm
  rw [rlo_yes hm] at HL
  have hb1 := (good hm.1).b1
  have hb2 := (good hm.1).b2
  have hd1 := (good hm.1).d1
  have hd2 := (good hm.1).d2
  have hpp := sect_in hb1 hb2 hd1 hd2
  have hgg := geo_in hm
  obtain ⟨y, hy0⟩ : ∃ y, lay ⟨gc, gs, gn, gl, gk⟩ = y := ⟨_, rfl⟩
  rw [hy0] at HL hb1 hb2 hd1 hd2 hpp
  obtain ⟨ya, yr, yq, yb, yd, yt, yx, yu⟩ := y
  dsimp only at HL hb1 hb2 hd1 hd2 hpp hgg
  obtain ⟨p, hp0⟩ : ∃ p, yb * yd = p := ⟨_, rfl⟩
  rw [hp0] at hpp
  have m1 : wrap64 (yb * yd) = p := by rw [hp0]; exact w64 _ (by omega)
  have m2 : wrap64 (gc + gs) = gc + gs := w64 _ (by omega)
  rw [hc] at HCH
  rw [hy0] at hb
  dsimp only at hb
  rw [hp0] at hb
  clear hm hy0 hp0
  clear hi
  go_enter Try.func10, Try.ntmps10
  go_wp2_with (first | ((with_reducible refine ld_geom rfl (.tmp 5) rfl (w.heap.size) ?_ P0.out ?_); · rfl))
  refine (HL.out _).mono ?_
  rintro r v1 ⟨rfl, f1⟩
  have HF := hid ((HF.out.trans f1).alloc (by_ ya yr yq yb yd yt yx yu))
  have P0 := hid (show BG (v1.alloc (by_ ya yr yq yb yd yt yx yu)) (w.heap.size) gc gs gn gl gk from (Blk.fr P0.out f1 (fun h => h)).alloc _)
  have P11 := hid (BL.new v1 ya yr yq yb yd yt yx yu)
  obtain ⟨b11, hb⟩ : ∃ x, v1.heap.size = x := ⟨_, rfl⟩
  rw [hb] at P11
  clear f1
  go_wp2_with fail
  try rw [hb]
  clear hb
  refine (lives_ok _).mono ?_
  rintro r v2 ⟨rfl, f2⟩
  have HF := hid (HF.out.trans f2)
  have P0 := hid (show BG (v2) (w.heap.size) gc gs gn gl gk from Blk.fr P0.out f2 (fun h => h))
  have P11 := hid (show BL (v2) (b11) ya yr yq yb yd yt yx yu from Blk.fr P11.out f2 (fun h => h))
  clear f2
  go_wp2_with fail
  refine (HCH.out _).mono ?_
  rintro r w9 ⟨rfl, rfl⟩
  obtain ⟨p11_0, p11_1, p11_2, p11_3, p11_4, p11_5, p11_6, p11_7⟩ := P11.out.cells
  obtain ⟨p0_0, p0_1, p0_2, p0_3, p0_4⟩ := P0.out.cells
  go_wp2_with fail
  refine (lives_ok _).mono ?_
  rintro r v3 ⟨rfl, f3⟩
  clear p11_0 p11_1 p11_2 p11_3 p11_4 p11_5 p11_6 p11_7 p0_0 p0_1 p0_2 p0_3 p0_4
  have HF := hid (HF.out.trans f3)
  have P0 := hid (show BG (v3) (w.heap.size) gc gs gn gl gk from Blk.fr P0.out f3 (fun h => h))
  have P11 := hid (show BL (v3) (b11) ya yr yq yb yd yt yx yu from Blk.fr P11.out f3 (fun h => h))
  clear f3
  go_wp2_with fail
  go_ret
  exact ⟨rfl, HF.out⟩
set_option maxRecDepth 100000 in
set_option maxHeartbeats 2000000 in
theorem ends_low (gc gs gn gl gk : Int) (ch zone : Int) (A : Option Addr) (l c : Nat) (spare : Int) (bs : List Int) (w : World) (hs : -9223372036854775808 ≤ gs ∧ gs ≤ 9223372036854775807) (hi : InI w A l c bs) (hm : mayG ⟨gc, gs, gn, gl, gk⟩) (hc : chB ch = true) (hl : l ≤ 100) (hb : (lay ⟨gc, gs, gn, gl, gk⟩).b * (lay ⟨gc, gs, gn, gl, gk⟩).d ≤ 5000) (hz : spare ≠ zone) (hq : spare < gc) :
    Calls Try.prog 10 #[.agg #[.int .i64 gc, .int .i64 gs, .int .i64 gn, .int .i64 gl, .int .i64 gk], .int .i64 ch, .int .i64 zone, .slice A l c, .int .i64 spare] w fun r w' => r = .returned (.bool true) ∧ Fr No w w' := by
  have P0 := hid (BG.new w gc gs gn gl gk)
  have HF := hid (fr1 w (bg gc gs gn gl gk))
  have HL := hid (fun W => rlayout_ok gc gs gn gl gk W hs)
  have HCH := hid (fun W => chunk_ok ch W)
  have hlm : l ≤ maxLen := Nat.le_trans hi.lc hi.cm
  rw [rlo_yes hm] at HL
  have hb1 := (good hm.1).b1
  have hb2 := (good hm.1).b2
  have hd1 := (good hm.1).d1
  have hd2 := (good hm.1).d2
  have hpp := sect_in hb1 hb2 hd1 hd2
  have hgg := geo_in hm
  obtain ⟨y, hy0⟩ : ∃ y, lay ⟨gc, gs, gn, gl, gk⟩ = y := ⟨_, rfl⟩
  rw [hy0] at HL hb1 hb2 hd1 hd2 hpp
  obtain ⟨ya, yr, yq, yb, yd, yt, yx, yu⟩ := y
  dsimp only at HL hb1 hb2 hd1 hd2 hpp hgg
  obtain ⟨p, hp0⟩ : ∃ p, yb * yd = p := ⟨_, rfl⟩
  rw [hp0] at hpp
  have m1 : wrap64 (yb * yd) = p := by rw [hp0]; exact w64 _ (by omega)
  have m2 : wrap64 (gc + gs) = gc + gs := w64 _ (by omega)
  rw [hc] at HCH
  rw [hy0] at hb
  dsimp only at hb
  rw [hp0] at hb
  clear hm hy0 hp0
  clear hi
  go_enter Try.func10, Try.ntmps10
  go_wp2_with (first | ((with_reducible refine ld_geom rfl (.tmp 5) rfl (w.heap.size) ?_ P0.out ?_); · rfl))
  refine (HL.out _).mono ?_
  rintro r v1 ⟨rfl, f1⟩
  have HF := hid ((HF.out.trans f1).alloc (by_ ya yr yq yb yd yt yx yu))
  have P0 := hid (show BG (v1.alloc (by_ ya yr yq yb yd yt yx yu)) (w.heap.size) gc gs gn gl gk from (Blk.fr P0.out f1 (fun h => h)).alloc _)
  have P11 := hid (BL.new v1 ya yr yq yb yd yt yx yu)
  obtain ⟨b11, hb⟩ : ∃ x, v1.heap.size = x := ⟨_, rfl⟩
  rw [hb] at P11
  clear f1
  go_wp2_with fail
  try rw [hb]
  clear hb
  refine (lives_ok _).mono ?_
  rintro r v2 ⟨rfl, f2⟩
  have HF := hid (HF.out.trans f2)
  have P0 := hid (show BG (v2) (w.heap.size) gc gs gn gl gk from Blk.fr P0.out f2 (fun h => h))
  have P11 := hid (show BL (v2) (b11) ya yr yq yb yd yt yx yu from Blk.fr P11.out f2 (fun h => h))
  clear f2
  go_wp2_with fail
  refine (HCH.out _).mono ?_
  rintro r w9 ⟨rfl, rfl⟩
  obtain ⟨p11_0, p11_1, p11_2, p11_3, p11_4, p11_5, p11_6, p11_7⟩ := P11.out.cells
  obtain ⟨p0_0, p0_1, p0_2, p0_3, p0_4⟩ := P0.out.cells
  go_wp2_with fail
  refine (lives_ok _).mono ?_
  rintro r v3 ⟨rfl, f3⟩
  clear p11_0 p11_1 p11_2 p11_3 p11_4 p11_5 p11_6 p11_7 p0_0 p0_1 p0_2 p0_3 p0_4
  have HF := hid (HF.out.trans f3)
  have P0 := hid (show BG (v3) (w.heap.size) gc gs gn gl gk from Blk.fr P0.out f3 (fun h => h))
  have P11 := hid (show BL (v3) (b11) ya yr yq yb yd yt yx yu from Blk.fr P11.out f3 (fun h => h))
  clear f3
  go_wp2_with fail
  go_ret
  exact ⟨rfl, HF.out⟩
set_option maxRecDepth 100000 in
set_option maxHeartbeats 2000000 in
theorem ends_high (gc gs gn gl gk : Int) (ch zone : Int) (A : Option Addr) (l c : Nat) (spare : Int) (bs : List Int) (w : World) (hs : -9223372036854775808 ≤ gs ∧ gs ≤ 9223372036854775807) (hi : InI w A l c bs) (hm : mayG ⟨gc, gs, gn, gl, gk⟩) (hc : chB ch = true) (hl : l ≤ 100) (hb : (lay ⟨gc, gs, gn, gl, gk⟩).b * (lay ⟨gc, gs, gn, gl, gk⟩).d ≤ 5000) (hz : spare ≠ zone) (hq : gc ≤ spare) (hq2 : gc + gs ≤ spare) :
    Calls Try.prog 10 #[.agg #[.int .i64 gc, .int .i64 gs, .int .i64 gn, .int .i64 gl, .int .i64 gk], .int .i64 ch, .int .i64 zone, .slice A l c, .int .i64 spare] w fun r w' => r = .returned (.bool true) ∧ Fr No w w' := by
  have P0 := hid (BG.new w gc gs gn gl gk)
  have HF := hid (fr1 w (bg gc gs gn gl gk))
  have HL := hid (fun W => rlayout_ok gc gs gn gl gk W hs)
  have HCH := hid (fun W => chunk_ok ch W)
  have hlm : l ≤ maxLen := Nat.le_trans hi.lc hi.cm
  rw [rlo_yes hm] at HL
  have hb1 := (good hm.1).b1
  have hb2 := (good hm.1).b2
  have hd1 := (good hm.1).d1
  have hd2 := (good hm.1).d2
  have hpp := sect_in hb1 hb2 hd1 hd2
  have hgg := geo_in hm
  obtain ⟨y, hy0⟩ : ∃ y, lay ⟨gc, gs, gn, gl, gk⟩ = y := ⟨_, rfl⟩
  rw [hy0] at HL hb1 hb2 hd1 hd2 hpp
  obtain ⟨ya, yr, yq, yb, yd, yt, yx, yu⟩ := y
  dsimp only at HL hb1 hb2 hd1 hd2 hpp hgg
  obtain ⟨p, hp0⟩ : ∃ p, yb * yd = p := ⟨_, rfl⟩
  rw [hp0] at hpp
  have m1 : wrap64 (yb * yd) = p := by rw [hp0]; exact w64 _ (by omega)
  have m2 : wrap64 (gc + gs) = gc + gs := w64 _ (by omega)
  rw [hc] at HCH
  rw [hy0] at hb
  dsimp only at hb
  rw [hp0] at hb
  clear hm hy0 hp0
  clear hi
  go_enter Try.func10, Try.ntmps10
  go_wp2_with (first | ((with_reducible refine ld_geom rfl (.tmp 5) rfl (w.heap.size) ?_ P0.out ?_); · rfl))
  refine (HL.out _).mono ?_
  rintro r v1 ⟨rfl, f1⟩
  have HF := hid ((HF.out.trans f1).alloc (by_ ya yr yq yb yd yt yx yu))
  have P0 := hid (show BG (v1.alloc (by_ ya yr yq yb yd yt yx yu)) (w.heap.size) gc gs gn gl gk from (Blk.fr P0.out f1 (fun h => h)).alloc _)
  have P11 := hid (BL.new v1 ya yr yq yb yd yt yx yu)
  obtain ⟨b11, hb⟩ : ∃ x, v1.heap.size = x := ⟨_, rfl⟩
  rw [hb] at P11
  clear f1
  go_wp2_with fail
  try rw [hb]
  clear hb
  refine (lives_ok _).mono ?_
  rintro r v2 ⟨rfl, f2⟩
  have HF := hid (HF.out.trans f2)
  have P0 := hid (show BG (v2) (w.heap.size) gc gs gn gl gk from Blk.fr P0.out f2 (fun h => h))
  have P11 := hid (show BL (v2) (b11) ya yr yq yb yd yt yx yu from Blk.fr P11.out f2 (fun h => h))
  clear f2
  go_wp2_with fail
  refine (HCH.out _).mono ?_
  rintro r w9 ⟨rfl, rfl⟩
  obtain ⟨p11_0, p11_1, p11_2, p11_3, p11_4, p11_5, p11_6, p11_7⟩ := P11.out.cells
  obtain ⟨p0_0, p0_1, p0_2, p0_3, p0_4⟩ := P0.out.cells
  go_wp2_with fail
  refine (lives_ok _).mono ?_
  rintro r v3 ⟨rfl, f3⟩
  clear p11_0 p11_1 p11_2 p11_3 p11_4 p11_5 p11_6 p11_7 p0_0 p0_1 p0_2 p0_3 p0_4
  have HF := hid (HF.out.trans f3)
  have P0 := hid (show BG (v3) (w.heap.size) gc gs gn gl gk from Blk.fr P0.out f3 (fun h => h))
  have P11 := hid (show BL (v3) (b11) ya yr yq yb yd yt yx yu from Blk.fr P11.out f3 (fun h => h))
  clear f3
  go_wp2_with fail
  go_ret
  exact ⟨rfl, HF.out⟩
end Go.Proofs.Ytgjcpepfggkieaa.ClZa
