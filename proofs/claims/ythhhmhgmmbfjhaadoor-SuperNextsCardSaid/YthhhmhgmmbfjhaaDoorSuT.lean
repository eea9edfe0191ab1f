/- SuperNexts' walk. Conditions: the table of sums is as its text lays it; the geometry's Seq and the generation are whole numbers of 64 bits. -/
import Derived.Test.YthhhmhgmmbfjhaaDoorSuQ
namespace Go.Proofs.YthhhmhgmmbfjhaaDoor.SuT
open Go.RowKit MSep MFrame SuA SuB SuD SuH SuJ SuK SuL SuM SuN SuP CrcA CrcM CrcE Kit

theorem next_none (g c s n l k t e f : Int) (b : Bool) (t2 e2 f2 : Int) (b2 : Bool) (w : World) (hs : -9223372036854775808 ≤ s ∧ s ≤ 9223372036854775807) (h : SuL.nx ⟨g, c, s, n, l, k, t, e, f, b⟩ t2 e2 f2 b2 = none) : Calls Tryd.prog 24 #[sv g c s n l k t e f b, .int .i64 t2, .int .i64 e2, .int .i64 f2, .bool b2] w fun E w' => E = .returned (.tuple #[sv 0 0 0 0 0 0 0 0 0 false, .int .i64 1]) ∧ Fr No w w' := by
  refine (next_ok g c s n l k t e f b t2 e2 f2 b2 w hs).mono ?_
  rintro E w' ⟨hh, fr⟩
  rw [h] at hh
  exact ⟨hh, fr⟩
theorem next_some (g c s n l k t e f : Int) (b : Bool) (t2 e2 f2 : Int) (b2 : Bool) (w : World) (hs : -9223372036854775808 ≤ s ∧ s ≤ 9223372036854775807) {gn : Int} (h : SuL.nx ⟨g, c, s, n, l, k, t, e, f, b⟩ t2 e2 f2 b2 = some ⟨gn, c, s, n, l, k, t2, e2, f2, b2⟩) : Calls Tryd.prog 24 #[sv g c s n l k t e f b, .int .i64 t2, .int .i64 e2, .int .i64 f2, .bool b2] w fun E w' => E = .returned (.tuple #[sv gn c s n l k t2 e2 f2 b2, .int .i64 0]) ∧ Fr No w w' := by
  refine (next_ok g c s n l k t e f b t2 e2 f2 b2 w hs).mono ?_
  rintro E w' ⟨hh, fr⟩
  rw [h] at hh
  exact ⟨hh, fr⟩
theorem nx_yes {g c s n l k t e f : Int} {b : Bool} {t2 e2 f2 : Int} {b2 : Bool} (h1 : mayS g c s n l k t e f) (h2 : mayS (g + 1) c s n l k t2 e2 f2) : SuL.nx ⟨g, c, s, n, l, k, t, e, f, b⟩ t2 e2 f2 b2 = some ⟨g + 1, c, s, n, l, k, t2, e2, f2, b2⟩ := by
  have hg := may_g h1
  have hw : wrap64 (g + 1) = g + 1 := by unfold wrap64; omega
  have he : nxS ⟨g, c, s, n, l, k, t, e, f, b⟩ t2 e2 f2 b2 = ⟨g + 1, c, s, n, l, k, t2, e2, f2, b2⟩ := by
    show (⟨wrap64 (g + 1), c, s, n, l, k, t2, e2, f2, b2⟩ : Sp) = _
    rw [hw]
  rw [SuL.nx, he]
  exact if_pos ⟨h1, h2⟩
theorem nx_no {g c s n l k t e f : Int} {b : Bool} {t2 e2 f2 : Int} {b2 : Bool} (h : ¬ (mayS g c s n l k t e f ∧ mayS (g + 1) c s n l k t2 e2 f2)) : SuL.nx ⟨g, c, s, n, l, k, t, e, f, b⟩ t2 e2 f2 b2 = none := by
  rw [SuL.nx]
  refine if_neg (fun hh => h ⟨hh.1, ?_⟩)
  have hg := may_g (g := g) hh.1
  have hw : wrap64 (g + 1) = g + 1 := by unfold wrap64; omega
  have := hh.2
  show mayS (g + 1) c s n l k t2 e2 f2
  rw [← hw]
  exact this
set_option maxRecDepth 100000 in
set_option maxHeartbeats 4000000 in
theorem nexts_a (g c s n l k t ep fi : Int) (b : Bool) (t2 e2 f2 : Int) (b2 : Bool) (w : World) (hs : -9223372036854775808 ≤ s ∧ s ≤ 9223372036854775807) (hg : -9223372036854775808 ≤ g ∧ g ≤ 9223372036854775807) (hm : mayS g c s n l k t ep fi) (hn : mayS (g + 1) c s n l k t2 e2 f2) (hT : TabAt w) : Calls Tryd.prog 6 #[sv g c s n l k t ep fi b, .int .i64 t2, .int .i64 e2, .int .i64 f2, .bool b2] w fun e' w' => e' = .returned (.bool true) ∧ Fr No w w' := by
  obtain ⟨hg1, hg2⟩ := hg
  have HNX := hid (nx_yes (b := b) (b2 := b2) hm hn)
  have hub := may_g hn
  obtain ⟨hu1, hu2⟩ := hub
  have hml := may_g hm
  obtain ⟨hm1, hm2⟩ := hml
  have hl : g < 1099511627776 := by omega
  have HW := hid hn
  obtain ⟨W, hW⟩ : ∃ W, w.alloc (sbx g c s n l k t ep fi b) = W := ⟨_, rfl⟩
  obtain ⟨X, hX⟩ : ∃ X, w.heap.size = X := ⟨_, rfl⟩
  have FWW := hid (show Fr No w W by rw [← hW]; exact (Fr.refl No w).alloc _)
  have HB := hid (show Blk W X 25 #[.int .i64 g, .int .i64 c, .int .i64 s, .int .i64 n, .int .i64 l, .int .i64 k, .int .i64 t, .int .i64 ep, .int .i64 fi, .bool b] by rw [← hW, ← hX]; exact Blk.new w _ _)
  have HM := hid hm
  have HSS := hid hs
  have HTC := hid (show ∀ w', Fr No w w' → TabAt w' from fun w' f => hT.fr f (fun h => h))
  clear hm hs hT hn
  have x0 : W.cell? ⟨X, 0, none⟩ = some (.int .i64 g) := HB.out.cell 0
  have x1 : W.cell? ⟨X, 1, none⟩ = some (.int .i64 c) := HB.out.cell 1
  have x2 : W.cell? ⟨X, 2, none⟩ = some (.int .i64 s) := HB.out.cell 2
  have x3 : W.cell? ⟨X, 3, none⟩ = some (.int .i64 n) := HB.out.cell 3
  have x4 : W.cell? ⟨X, 4, none⟩ = some (.int .i64 l) := HB.out.cell 4
  have x5 : W.cell? ⟨X, 5, none⟩ = some (.int .i64 k) := HB.out.cell 5
  have x6 : W.cell? ⟨X, 6, none⟩ = some (.int .i64 t) := HB.out.cell 6
  have x7 : W.cell? ⟨X, 7, none⟩ = some (.int .i64 ep) := HB.out.cell 7
  have x8 : W.cell? ⟨X, 8, none⟩ = some (.int .i64 fi) := HB.out.cell 8
  have x9 : W.cell? ⟨X, 9, none⟩ = some (.bool b) := HB.out.cell 9
  go_enter Tryd.func6, Tryd.ntmps6
  go_upto_region 2 with (first | (go_at_call 24; go_loud (refine (next_some g c s n l k t ep fi b t2 e2 f2 b2 _ HSS.out HNX.out).mono ?_; rintro e' w2 ⟨rfl, f⟩; replace FWW := hid (FWW.out.trans f); replace HB := hid (Blk.fr HB.out f (fun h => h)); clear f x0 x1 x2 x3 x4 x5 x6 x7 x8 x9)) | (refine st_S rfl (.tmp 11) (.tmp 21) rfl w2.heap.size rfl rfl (by simp [Value.oneCell']) (Blk.new w2 _ _) rfl ?_; intro w3 HD0 f3; have f : Fr No w2 w3 := ((Fr.refl No w2).alloc _).step f3 (fun i hi e => by omega); replace FWW := hid (FWW.out.trans f); replace HB := hid (Blk.fr HB.out f (fun h => h)); have HN := hid (show Blk w3 w2.heap.size 25 #[.int .i64 (g + 1), .int .i64 c, .int .i64 s, .int .i64 n, .int .i64 l, .int .i64 k, .int .i64 t2, .int .i64 e2, .int .i64 f2, .bool b2] from HD0); clear f f3 HD0; have x0 : w3.cell? ⟨X, 0, none⟩ = some (.int .i64 g) := HB.out.cell 0; have x1 : w3.cell? ⟨X, 1, none⟩ = some (.int .i64 c) := HB.out.cell 1; have x2 : w3.cell? ⟨X, 2, none⟩ = some (.int .i64 s) := HB.out.cell 2; have x3 : w3.cell? ⟨X, 3, none⟩ = some (.int .i64 n) := HB.out.cell 3; have x4 : w3.cell? ⟨X, 4, none⟩ = some (.int .i64 l) := HB.out.cell 4; have x5 : w3.cell? ⟨X, 5, none⟩ = some (.int .i64 k) := HB.out.cell 5; have x6 : w3.cell? ⟨X, 6, none⟩ = some (.int .i64 t) := HB.out.cell 6; have x7 : w3.cell? ⟨X, 7, none⟩ = some (.int .i64 ep) := HB.out.cell 7; have x8 : w3.cell? ⟨X, 8, none⟩ = some (.int .i64 fi) := HB.out.cell 8; have x9 : w3.cell? ⟨X, 9, none⟩ = some (.bool b) := HB.out.cell 9))
  obtain ⟨D, hD⟩ : ∃ D, w2.heap.size = D := ⟨_, rfl⟩
  rw [hD] at HN ⊢
  clear hD
  skip
  have HXE := hid (show X ≠ w3.heap.size ∧ D ≠ w3.heap.size ∧ w.heap.size ≤ w3.heap.size by have := Blk.lt HB.out; have := Blk.lt HN.out; have := FWW.out.size; omega)
  go_upto_region 3 with (refine st_S rfl (.tmp 13) (.tmp 29) rfl w3.heap.size rfl rfl (by simp [Value.oneCell']) (Blk.new w3 _ _) rfl ?_; intro w4 HD0 f3; have f : Fr No w3 w4 := ((Fr.refl No w3).alloc _).step f3 (fun i hi e => by omega); replace FWW := hid (FWW.out.trans f); replace HB := hid (Blk.fr HB.out f (fun h => h)); replace HN := hid (Blk.fr HN.out f (fun h => h)); have HE := hid (show Blk w4 w3.heap.size 25 #[.int .i64 0, .int .i64 c, .int .i64 s, .int .i64 n, .int .i64 l, .int .i64 k, .int .i64 t2, .int .i64 e2, .int .i64 f2, .bool b2] from HD0); clear f f3 HD0 x0 x1 x2 x3 x4 x5 x6 x7 x8 x9; have x0 : w4.cell? ⟨X, 0, none⟩ = some (.int .i64 g) := HB.out.cell 0; have x1 : w4.cell? ⟨X, 1, none⟩ = some (.int .i64 c) := HB.out.cell 1; have x2 : w4.cell? ⟨X, 2, none⟩ = some (.int .i64 s) := HB.out.cell 2; have x3 : w4.cell? ⟨X, 3, none⟩ = some (.int .i64 n) := HB.out.cell 3; have x4 : w4.cell? ⟨X, 4, none⟩ = some (.int .i64 l) := HB.out.cell 4; have x5 : w4.cell? ⟨X, 5, none⟩ = some (.int .i64 k) := HB.out.cell 5; have x6 : w4.cell? ⟨X, 6, none⟩ = some (.int .i64 t) := HB.out.cell 6; have x7 : w4.cell? ⟨X, 7, none⟩ = some (.int .i64 ep) := HB.out.cell 7; have x8 : w4.cell? ⟨X, 8, none⟩ = some (.int .i64 fi) := HB.out.cell 8; have x9 : w4.cell? ⟨X, 9, none⟩ = some (.bool b) := HB.out.cell 9)
  obtain ⟨E, hE⟩ : ∃ E, w3.heap.size = E := ⟨_, rfl⟩
  rw [hE] at HE HXE ⊢
  clear hE
  have HEW := hid HXE.out.2.2
  have ee : w4.cell? ⟨E, 0, none⟩ = some (.int .i64 0) := HE.out.cell 0
  have ez : w4.frozen? ⟨E, 0, none⟩ = false := HE.out.frozen 0
  go_upto_region 5 with fail
  clear ee ez x0 x1 x2 x3 x4 x5 x6 x7 x8 x9
  replace HE := hid (show Blk (w4.setCell ⟨E, 0, none⟩ (.int .i64 (g + 1))) E 25 #[.int .i64 (g + 1), .int .i64 c, .int .i64 s, .int .i64 n, .int .i64 l, .int .i64 k, .int .i64 t2, .int .i64 e2, .int .i64 f2, .bool b2] from Blk.set_ HE.out 0 (.int .i64 (g + 1)))
  replace HB := hid (Blk.far HB.out (p := ⟨E, 0, none⟩) (fun h => HXE.out.1 h) (.int .i64 (g + 1)))
  replace HN := hid (Blk.far HN.out (p := ⟨E, 0, none⟩) (fun h => HXE.out.2.1 h) (.int .i64 (g + 1)))
  have HXX := hid hX
  replace FWW := hid (FWW.out.setCell (p := ⟨E, 0, none⟩) (fun h => absurd h (by have := HEW.out; simp only []; omega)) (.int .i64 (g + 1)))
  generalize World.setCell w4 ⟨E, 0, none⟩ (.int .i64 (g + 1)) = w5 at HE HB HN FWW ⊢
  have x0 : w5.cell? ⟨X, 0, none⟩ = some (.int .i64 g) := HB.out.cell 0
  have x1 : w5.cell? ⟨X, 1, none⟩ = some (.int .i64 c) := HB.out.cell 1
  have x2 : w5.cell? ⟨X, 2, none⟩ = some (.int .i64 s) := HB.out.cell 2
  have x3 : w5.cell? ⟨X, 3, none⟩ = some (.int .i64 n) := HB.out.cell 3
  have x4 : w5.cell? ⟨X, 4, none⟩ = some (.int .i64 l) := HB.out.cell 4
  have x5 : w5.cell? ⟨X, 5, none⟩ = some (.int .i64 k) := HB.out.cell 5
  have x6 : w5.cell? ⟨X, 6, none⟩ = some (.int .i64 t) := HB.out.cell 6
  have x7 : w5.cell? ⟨X, 7, none⟩ = some (.int .i64 ep) := HB.out.cell 7
  have x8 : w5.cell? ⟨X, 8, none⟩ = some (.int .i64 fi) := HB.out.cell 8
  have x9 : w5.cell? ⟨X, 9, none⟩ = some (.bool b) := HB.out.cell 9
  go_upto_region 9 with (first | (go_at_call 15; go_loud (refine (lives_ok _ (HTC.out _ FWW.out)).mono ?_; rintro e' w6 ⟨rfl, f⟩; replace FWW := hid (FWW.out.trans f); replace HB := hid (Blk.fr HB.out f (fun h => h)); replace HN := hid (Blk.fr HN.out f (fun h => h)); replace HE := hid (Blk.fr HE.out f (fun h => h)); clear f x0 x1 x2 x3 x4 x5 x6 x7 x8 x9; have x0 : w6.cell? ⟨X, 0, none⟩ = some (.int .i64 g) := HB.out.cell 0; have x1 : w6.cell? ⟨X, 1, none⟩ = some (.int .i64 c) := HB.out.cell 1; have x2 : w6.cell? ⟨X, 2, none⟩ = some (.int .i64 s) := HB.out.cell 2; have x3 : w6.cell? ⟨X, 3, none⟩ = some (.int .i64 n) := HB.out.cell 3; have x4 : w6.cell? ⟨X, 4, none⟩ = some (.int .i64 l) := HB.out.cell 4; have x5 : w6.cell? ⟨X, 5, none⟩ = some (.int .i64 k) := HB.out.cell 5; have x6 : w6.cell? ⟨X, 6, none⟩ = some (.int .i64 t) := HB.out.cell 6; have x7 : w6.cell? ⟨X, 7, none⟩ = some (.int .i64 ep) := HB.out.cell 7; have x8 : w6.cell? ⟨X, 8, none⟩ = some (.int .i64 fi) := HB.out.cell 8; have x9 : w6.cell? ⟨X, 9, none⟩ = some (.bool b) := HB.out.cell 9)) | (go_at_call 17; go_loud ((with_reducible refine (rmayS_ok g c s n l k t ep fi b _ HSS.out).mono ?_); rintro e' w7 ⟨rfl, f⟩; rw [decide_eq_true HM.out]; replace FWW := hid (FWW.out.trans f); replace HB := hid (Blk.fr HB.out f (fun h => h)); replace HN := hid (Blk.fr HN.out f (fun h => h)); replace HE := hid (Blk.fr HE.out f (fun h => h)); clear f; have ec0 : w7.cell? ⟨E, 0, none⟩ = some (.int .i64 (g + 1)) := HE.out.cell 0; have ec1 : w7.cell? ⟨E, 1, none⟩ = some (.int .i64 c) := HE.out.cell 1; have ec2 : w7.cell? ⟨E, 2, none⟩ = some (.int .i64 s) := HE.out.cell 2; have ec3 : w7.cell? ⟨E, 3, none⟩ = some (.int .i64 n) := HE.out.cell 3; have ec4 : w7.cell? ⟨E, 4, none⟩ = some (.int .i64 l) := HE.out.cell 4; have ec5 : w7.cell? ⟨E, 5, none⟩ = some (.int .i64 k) := HE.out.cell 5; have ec6 : w7.cell? ⟨E, 6, none⟩ = some (.int .i64 t2) := HE.out.cell 6; have ec7 : w7.cell? ⟨E, 7, none⟩ = some (.int .i64 e2) := HE.out.cell 7; have ec8 : w7.cell? ⟨E, 8, none⟩ = some (.int .i64 f2) := HE.out.cell 8; have ec9 : w7.cell? ⟨E, 9, none⟩ = some (.bool b2) := HE.out.cell 9)) | (go_at_call 17; ((with_reducible refine (rmayS_ok (g + 1) c s n l k t2 e2 f2 b2 _ HSS.out).mono ?_); rintro e' w8 ⟨rfl, f⟩; rw [decide_eq_true HW.out]; replace FWW := hid (FWW.out.trans f); replace HB := hid (Blk.fr HB.out f (fun h => h)); replace HN := hid (Blk.fr HN.out f (fun h => h)); replace HE := hid (Blk.fr HE.out f (fun h => h)); clear f ec0 ec1 ec2 ec3 ec4 ec5 ec6 ec7 ec8 ec9 x0 x1 x2 x3 x4 x5 x6 x7 x8 x9; have n0 : w8.cell? ⟨D, 0, none⟩ = some (.int .i64 (g + 1)) := HN.out.cell 0; have n1 : w8.cell? ⟨D, 1, none⟩ = some (.int .i64 c) := HN.out.cell 1; have n2 : w8.cell? ⟨D, 2, none⟩ = some (.int .i64 s) := HN.out.cell 2; have n3 : w8.cell? ⟨D, 3, none⟩ = some (.int .i64 n) := HN.out.cell 3; have n4 : w8.cell? ⟨D, 4, none⟩ = some (.int .i64 l) := HN.out.cell 4; have n5 : w8.cell? ⟨D, 5, none⟩ = some (.int .i64 k) := HN.out.cell 5; have n6 : w8.cell? ⟨D, 6, none⟩ = some (.int .i64 t2) := HN.out.cell 6; have n7 : w8.cell? ⟨D, 7, none⟩ = some (.int .i64 e2) := HN.out.cell 7; have n8 : w8.cell? ⟨D, 8, none⟩ = some (.int .i64 f2) := HN.out.cell 8; have n9 : w8.cell? ⟨D, 9, none⟩ = some (.bool b2) := HN.out.cell 9)))
  clear n0 n1 n2 n3 n4 n5 n6 n7 n8 n9
  have n0 : w8.cell? ⟨D, 0, none⟩ = some (.int .i64 (g + 1)) := HN.out.cell 0
  have n1 : w8.cell? ⟨D, 1, none⟩ = some (.int .i64 c) := HN.out.cell 1
  have n2 : w8.cell? ⟨D, 2, none⟩ = some (.int .i64 s) := HN.out.cell 2
  have n3 : w8.cell? ⟨D, 3, none⟩ = some (.int .i64 n) := HN.out.cell 3
  have n4 : w8.cell? ⟨D, 4, none⟩ = some (.int .i64 l) := HN.out.cell 4
  have n5 : w8.cell? ⟨D, 5, none⟩ = some (.int .i64 k) := HN.out.cell 5
  have n6 : w8.cell? ⟨D, 6, none⟩ = some (.int .i64 t2) := HN.out.cell 6
  have n7 : w8.cell? ⟨D, 7, none⟩ = some (.int .i64 e2) := HN.out.cell 7
  have n8 : w8.cell? ⟨D, 8, none⟩ = some (.int .i64 f2) := HN.out.cell 8
  have n9 : w8.cell? ⟨D, 9, none⟩ = some (.bool b2) := HN.out.cell 9
  have m0 : w8.cell? ⟨E, 0, none⟩ = some (.int .i64 (g + 1)) := HE.out.cell 0
  have m1 : w8.cell? ⟨E, 1, none⟩ = some (.int .i64 c) := HE.out.cell 1
  have m2 : w8.cell? ⟨E, 2, none⟩ = some (.int .i64 s) := HE.out.cell 2
  have m3 : w8.cell? ⟨E, 3, none⟩ = some (.int .i64 n) := HE.out.cell 3
  have m4 : w8.cell? ⟨E, 4, none⟩ = some (.int .i64 l) := HE.out.cell 4
  have m5 : w8.cell? ⟨E, 5, none⟩ = some (.int .i64 k) := HE.out.cell 5
  have m6 : w8.cell? ⟨E, 6, none⟩ = some (.int .i64 t2) := HE.out.cell 6
  have m7 : w8.cell? ⟨E, 7, none⟩ = some (.int .i64 e2) := HE.out.cell 7
  have m8 : w8.cell? ⟨E, 8, none⟩ = some (.int .i64 f2) := HE.out.cell 8
  have m9 : w8.cell? ⟨E, 9, none⟩ = some (.bool b2) := HE.out.cell 9
  have x0 : w8.cell? ⟨X, 0, none⟩ = some (.int .i64 g) := HB.out.cell 0
  have x1 : w8.cell? ⟨X, 1, none⟩ = some (.int .i64 c) := HB.out.cell 1
  have x2 : w8.cell? ⟨X, 2, none⟩ = some (.int .i64 s) := HB.out.cell 2
  have x3 : w8.cell? ⟨X, 3, none⟩ = some (.int .i64 n) := HB.out.cell 3
  have x4 : w8.cell? ⟨X, 4, none⟩ = some (.int .i64 l) := HB.out.cell 4
  have x5 : w8.cell? ⟨X, 5, none⟩ = some (.int .i64 k) := HB.out.cell 5
  have x6 : w8.cell? ⟨X, 6, none⟩ = some (.int .i64 t) := HB.out.cell 6
  have x7 : w8.cell? ⟨X, 7, none⟩ = some (.int .i64 ep) := HB.out.cell 7
  have x8 : w8.cell? ⟨X, 8, none⟩ = some (.int .i64 fi) := HB.out.cell 8
  have x9 : w8.cell? ⟨X, 9, none⟩ = some (.bool b) := HB.out.cell 9
  have hm := HM.out
  have hn := HW.out
  have hs := HSS.out
  have hne : ((g + 1) % 2 == g % 2) = false := by have : ¬ (g + 1) % 2 = g % 2 := by omega
                                                  simpa using this
  have FWO := FWW
  have FW : Hid (Fr No w8 w8) := hid (Fr.refl No w8)
  have FW := kd FW
  refine wp_region_noPanic ?_
  refine wp_region_held_drew (S := (fun W' => W'.cell? ⟨D, 0, none⟩ = some (.int .i64 (g + 1)) ∧ W'.cell? ⟨D, 1, none⟩ = some (.int .i64 c) ∧ W'.cell? ⟨D, 2, none⟩ = some (.int .i64 s) ∧ W'.cell? ⟨D, 3, none⟩ = some (.int .i64 n) ∧ W'.cell? ⟨D, 4, none⟩ = some (.int .i64 l) ∧ W'.cell? ⟨D, 5, none⟩ = some (.int .i64 k) ∧ W'.cell? ⟨D, 6, none⟩ = some (.int .i64 t2) ∧ W'.cell? ⟨D, 7, none⟩ = some (.int .i64 e2) ∧ W'.cell? ⟨D, 8, none⟩ = some (.int .i64 f2) ∧ W'.cell? ⟨D, 9, none⟩ = some (.bool b2) ∧ W'.cell? ⟨E, 0, none⟩ = some (.int .i64 (g + 1)) ∧ W'.cell? ⟨E, 1, none⟩ = some (.int .i64 c) ∧ W'.cell? ⟨E, 2, none⟩ = some (.int .i64 s) ∧ W'.cell? ⟨E, 3, none⟩ = some (.int .i64 n) ∧ W'.cell? ⟨E, 4, none⟩ = some (.int .i64 l) ∧ W'.cell? ⟨E, 5, none⟩ = some (.int .i64 k) ∧ W'.cell? ⟨E, 6, none⟩ = some (.int .i64 t2) ∧ W'.cell? ⟨E, 7, none⟩ = some (.int .i64 e2) ∧ W'.cell? ⟨E, 8, none⟩ = some (.int .i64 f2) ∧ W'.cell? ⟨E, 9, none⟩ = some (.bool b2) ∧ W'.cell? ⟨X, 0, none⟩ = some (.int .i64 g) ∧ W'.cell? ⟨X, 1, none⟩ = some (.int .i64 c) ∧ W'.cell? ⟨X, 2, none⟩ = some (.int .i64 s) ∧ W'.cell? ⟨X, 3, none⟩ = some (.int .i64 n) ∧ W'.cell? ⟨X, 4, none⟩ = some (.int .i64 l) ∧ W'.cell? ⟨X, 5, none⟩ = some (.int .i64 k) ∧ W'.cell? ⟨X, 6, none⟩ = some (.int .i64 t) ∧ W'.cell? ⟨X, 7, none⟩ = some (.int .i64 ep) ∧ W'.cell? ⟨X, 8, none⟩ = some (.int .i64 fi) ∧ W'.cell? ⟨X, 9, none⟩ = some (.bool b) ∧ Hid (Fr No w8 W'))) (by kernel_rfl) ?_ (fun hHeld => ?_)
  · (try dsimp only); (first | exact ⟨kc f hHeld.1, kc f hHeld.2.1, kc f hHeld.2.2.1, kc f hHeld.2.2.2.1, kc f hHeld.2.2.2.2.1, kc f hHeld.2.2.2.2.2.1, kc f hHeld.2.2.2.2.2.2.1, kc f hHeld.2.2.2.2.2.2.2.1, kc f hHeld.2.2.2.2.2.2.2.2.1, kc f hHeld.2.2.2.2.2.2.2.2.2.1, kc f hHeld.2.2.2.2.2.2.2.2.2.2.1, kc f hHeld.2.2.2.2.2.2.2.2.2.2.2.1, kc f hHeld.2.2.2.2.2.2.2.2.2.2.2.2.1, kc f hHeld.2.2.2.2.2.2.2.2.2.2.2.2.2.1, kc f hHeld.2.2.2.2.2.2.2.2.2.2.2.2.2.2.1, kc f hHeld.2.2.2.2.2.2.2.2.2.2.2.2.2.2.2.1, kc f hHeld.2.2.2.2.2.2.2.2.2.2.2.2.2.2.2.2.1, kc f hHeld.2.2.2.2.2.2.2.2.2.2.2.2.2.2.2.2.2.1, kc f hHeld.2.2.2.2.2.2.2.2.2.2.2.2.2.2.2.2.2.2.1, kc f hHeld.2.2.2.2.2.2.2.2.2.2.2.2.2.2.2.2.2.2.2.1, kc f hHeld.2.2.2.2.2.2.2.2.2.2.2.2.2.2.2.2.2.2.2.2.1, kc f hHeld.2.2.2.2.2.2.2.2.2.2.2.2.2.2.2.2.2.2.2.2.2.1, kc f hHeld.2.2.2.2.2.2.2.2.2.2.2.2.2.2.2.2.2.2.2.2.2.2.1, kc f hHeld.2.2.2.2.2.2.2.2.2.2.2.2.2.2.2.2.2.2.2.2.2.2.2.1, kc f hHeld.2.2.2.2.2.2.2.2.2.2.2.2.2.2.2.2.2.2.2.2.2.2.2.2.1, kc f hHeld.2.2.2.2.2.2.2.2.2.2.2.2.2.2.2.2.2.2.2.2.2.2.2.2.2.1, kc f hHeld.2.2.2.2.2.2.2.2.2.2.2.2.2.2.2.2.2.2.2.2.2.2.2.2.2.2.1, kc f hHeld.2.2.2.2.2.2.2.2.2.2.2.2.2.2.2.2.2.2.2.2.2.2.2.2.2.2.2.1, kc f hHeld.2.2.2.2.2.2.2.2.2.2.2.2.2.2.2.2.2.2.2.2.2.2.2.2.2.2.2.2.1, kc f hHeld.2.2.2.2.2.2.2.2.2.2.2.2.2.2.2.2.2.2.2.2.2.2.2.2.2.2.2.2.2.1, FW⟩ | (go_split_ands; exact ⟨kc f (by assumption), kc f (by assumption), kc f (by assumption), kc f (by assumption), kc f (by assumption), kc f (by assumption), kc f (by assumption), kc f (by assumption), kc f (by assumption), kc f (by assumption), kc f (by assumption), kc f (by assumption), kc f (by assumption), kc f (by assumption), kc f (by assumption), kc f (by assumption), kc f (by assumption), kc f (by assumption), kc f (by assumption), kc f (by assumption), kc f (by assumption), kc f (by assumption), kc f (by assumption), kc f (by assumption), kc f (by assumption), kc f (by assumption), kc f (by assumption), kc f (by assumption), kc f (by assumption), kc f (by assumption), by assumption⟩) | (go_split_ands; exact ⟨(by assumption), (by assumption), (by assumption), (by assumption), (by assumption), (by assumption), (by assumption), (by assumption), (by assumption), (by assumption), (by assumption), (by assumption), (by assumption), (by assumption), (by assumption), (by assumption), (by assumption), (by assumption), (by assumption), (by assumption), (by assumption), (by assumption), (by assumption), (by assumption), (by assumption), (by assumption), (by assumption), (by assumption), (by assumption), (by assumption), by assumption⟩) | (go_split_ands; exact ⟨kc (fr1 _ _) (by assumption), kc (fr1 _ _) (by assumption), kc (fr1 _ _) (by assumption), kc (fr1 _ _) (by assumption), kc (fr1 _ _) (by assumption), kc (fr1 _ _) (by assumption), kc (fr1 _ _) (by assumption), kc (fr1 _ _) (by assumption), kc (fr1 _ _) (by assumption), kc (fr1 _ _) (by assumption), kc (fr1 _ _) (by assumption), kc (fr1 _ _) (by assumption), kc (fr1 _ _) (by assumption), kc (fr1 _ _) (by assumption), kc (fr1 _ _) (by assumption), kc (fr1 _ _) (by assumption), kc (fr1 _ _) (by assumption), kc (fr1 _ _) (by assumption), kc (fr1 _ _) (by assumption), kc (fr1 _ _) (by assumption), kc (fr1 _ _) (by assumption), kc (fr1 _ _) (by assumption), kc (fr1 _ _) (by assumption), kc (fr1 _ _) (by assumption), kc (fr1 _ _) (by assumption), kc (fr1 _ _) (by assumption), kc (fr1 _ _) (by assumption), kc (fr1 _ _) (by assumption), kc (fr1 _ _) (by assumption), kc (fr1 _ _) (by assumption), kfa (by assumption)⟩))
  refine wpAnyH_take (i := 0) (v := ?v1) rfl (by kernel_rfl) (by kernel_rfl) (by kernel_rfl) (fun _ _ _ h => h) (Or.inl ⟨by kernel_rfl, ?y1⟩) (by assumption) ?_
  case y1 => (intro w hSw; (try dsimp only at hSw); go_simp; all_goals with_reducible rfl)
  try simp only [Act.put, List.getElem_toArray, List.getElem_cons_zero, List.setIfInBounds_toArray, List.set_cons_zero, List.set_cons_succ]
  refine wpAnyH_take (i := 1) (v := ?v2) rfl (by kernel_rfl) (by kernel_rfl) (by kernel_rfl) (fun _ _ _ h => h) (Or.inl ⟨by kernel_rfl, ?y2⟩) (by assumption) ?_
  case y2 => (intro w hSw; (try dsimp only at hSw); go_simp; all_goals with_reducible rfl)
  try simp only [Act.put, List.getElem_toArray, List.getElem_cons_succ, List.getElem_cons_zero, List.setIfInBounds_toArray, List.set_cons_zero, List.set_cons_succ]
  refine wpAnyH_take (i := 2) (v := (.bool true)) rfl (by kernel_rfl) (by kernel_rfl) (by kernel_rfl) (fun _ _ _ h => h) (Or.inl ⟨by kernel_rfl, fun w hSw => by first | (go_simp; done) | (go_simp; with_reducible rfl) | (go_simp; omega)⟩) (by assumption) ?_
  try simp only [Act.put, List.getElem_toArray, List.getElem_cons_succ, List.getElem_cons_zero, List.setIfInBounds_toArray, List.set_cons_zero, List.set_cons_succ]
  refine wpAnyH_take (i := 3) (v := (.bool true)) rfl (by kernel_rfl) (by kernel_rfl) (by kernel_rfl) (fun _ _ _ h => h) (Or.inl ⟨by kernel_rfl, fun w hSw => by first | (go_simp; done) | (go_simp; with_reducible rfl) | (go_simp; omega)⟩) (by assumption) ?_
  try simp only [Act.put, List.getElem_toArray, List.getElem_cons_succ, List.getElem_cons_zero, List.setIfInBounds_toArray, List.set_cons_zero, List.set_cons_succ]
  refine wpAnyH_take (i := 4) (v := ?v3) rfl (by kernel_rfl) (by kernel_rfl) (by kernel_rfl) (fun _ _ _ h => h) (Or.inl ⟨by kernel_rfl, ?y3⟩) (by assumption) ?_
  case y3 => (intro w hSw; (try dsimp only at hSw); go_simp; all_goals with_reducible rfl)
  try simp only [Act.put, List.getElem_toArray, List.getElem_cons_succ, List.getElem_cons_zero, List.setIfInBounds_toArray, List.set_cons_zero, List.set_cons_succ]
  refine wpAnyH_take (i := 5) (v := (.bool true)) rfl (by kernel_rfl) (by kernel_rfl) (by kernel_rfl) (fun _ _ _ h => h) (Or.inl ⟨by kernel_rfl, fun w hSw => by first | (go_simp; done) | (go_simp; with_reducible rfl) | (go_simp; omega)⟩) (by assumption) ?_
  try simp only [Act.put, List.getElem_toArray, List.getElem_cons_succ, List.getElem_cons_zero, List.setIfInBounds_toArray, List.set_cons_zero, List.set_cons_succ]
  refine wpAnyH_take (i := 6) (v := (.bool true)) rfl (by kernel_rfl) (by kernel_rfl) (by kernel_rfl) (fun _ _ _ h => h) (Or.inl ⟨by kernel_rfl, fun w hSw => by first | (go_simp; done) | (go_simp; with_reducible rfl) | (go_simp; omega)⟩) (by assumption) ?_
  try simp only [Act.put, List.getElem_toArray, List.getElem_cons_succ, List.getElem_cons_zero, List.setIfInBounds_toArray, List.set_cons_zero, List.set_cons_succ]
  refine wpAnyH_take (i := 7) (v := (.bool true)) rfl (by kernel_rfl) (by kernel_rfl) (by kernel_rfl) (fun _ _ _ h => h) (Or.inl ⟨by kernel_rfl, fun w hSw => by first | (go_simp; done) | (go_simp; with_reducible rfl) | (go_simp; omega)⟩) (by assumption) ?_
  try simp only [Act.put, List.getElem_toArray, List.getElem_cons_succ, List.getElem_cons_zero, List.setIfInBounds_toArray, List.set_cons_zero, List.set_cons_succ]
  refine wpAnyH_take (i := 8) (v := ?v4) rfl (by kernel_rfl) (by kernel_rfl) (by kernel_rfl) (fun _ _ _ h => h) (Or.inl ⟨by kernel_rfl, ?y4⟩) (by assumption) ?_
  case y4 => (intro w hSw; (try dsimp only at hSw); go_simp; all_goals with_reducible rfl)
  try simp only [Act.put, List.getElem_toArray, List.getElem_cons_succ, List.getElem_cons_zero, List.setIfInBounds_toArray, List.set_cons_zero, List.set_cons_succ]
  refine wpAnyH_take (i := 10) (v := ?v5) rfl (by kernel_rfl) (by kernel_rfl) (by kernel_rfl) (fun _ _ _ h => h) (Or.inl ⟨by kernel_rfl, ?y5⟩) (by assumption) ?_
  case y5 => (intro w hSw; (try dsimp only at hSw); go_simp; all_goals with_reducible rfl)
  try simp only [Act.put, List.getElem_toArray, List.getElem_cons_succ, List.getElem_cons_zero, List.setIfInBounds_toArray, List.set_cons_zero, List.set_cons_succ]
  refine wpAnyH_ready (rs := [9]) (by kernel_rfl) (by simp) (AllReadyH.cons rfl (fun K hK => ?_) AllReadyH.nil)
  go_simp
  go_at_call 18
  refine (copy_yes _ _ _ _ _ _ _ _ _ _ _ (by assumption) (by assumption)).mono ?_
  rintro e W1 ⟨rfl, f⟩
  have FW := kf f hHeld.2.2.2.2.2.2.2.2.2.2.2.2.2.2.2.2.2.2.2.2.2.2.2.2.2.2.2.2.2.2
  dsimp only
  refine hK.out _ _ ?_ (fun hHeld => ?_)
  · (try dsimp only); (first | exact ⟨kc f hHeld.1, kc f hHeld.2.1, kc f hHeld.2.2.1, kc f hHeld.2.2.2.1, kc f hHeld.2.2.2.2.1, kc f hHeld.2.2.2.2.2.1, kc f hHeld.2.2.2.2.2.2.1, kc f hHeld.2.2.2.2.2.2.2.1, kc f hHeld.2.2.2.2.2.2.2.2.1, kc f hHeld.2.2.2.2.2.2.2.2.2.1, kc f hHeld.2.2.2.2.2.2.2.2.2.2.1, kc f hHeld.2.2.2.2.2.2.2.2.2.2.2.1, kc f hHeld.2.2.2.2.2.2.2.2.2.2.2.2.1, kc f hHeld.2.2.2.2.2.2.2.2.2.2.2.2.2.1, kc f hHeld.2.2.2.2.2.2.2.2.2.2.2.2.2.2.1, kc f hHeld.2.2.2.2.2.2.2.2.2.2.2.2.2.2.2.1, kc f hHeld.2.2.2.2.2.2.2.2.2.2.2.2.2.2.2.2.1, kc f hHeld.2.2.2.2.2.2.2.2.2.2.2.2.2.2.2.2.2.1, kc f hHeld.2.2.2.2.2.2.2.2.2.2.2.2.2.2.2.2.2.2.1, kc f hHeld.2.2.2.2.2.2.2.2.2.2.2.2.2.2.2.2.2.2.2.1, kc f hHeld.2.2.2.2.2.2.2.2.2.2.2.2.2.2.2.2.2.2.2.2.1, kc f hHeld.2.2.2.2.2.2.2.2.2.2.2.2.2.2.2.2.2.2.2.2.2.1, kc f hHeld.2.2.2.2.2.2.2.2.2.2.2.2.2.2.2.2.2.2.2.2.2.2.1, kc f hHeld.2.2.2.2.2.2.2.2.2.2.2.2.2.2.2.2.2.2.2.2.2.2.2.1, kc f hHeld.2.2.2.2.2.2.2.2.2.2.2.2.2.2.2.2.2.2.2.2.2.2.2.2.1, kc f hHeld.2.2.2.2.2.2.2.2.2.2.2.2.2.2.2.2.2.2.2.2.2.2.2.2.2.1, kc f hHeld.2.2.2.2.2.2.2.2.2.2.2.2.2.2.2.2.2.2.2.2.2.2.2.2.2.2.1, kc f hHeld.2.2.2.2.2.2.2.2.2.2.2.2.2.2.2.2.2.2.2.2.2.2.2.2.2.2.2.1, kc f hHeld.2.2.2.2.2.2.2.2.2.2.2.2.2.2.2.2.2.2.2.2.2.2.2.2.2.2.2.2.1, kc f hHeld.2.2.2.2.2.2.2.2.2.2.2.2.2.2.2.2.2.2.2.2.2.2.2.2.2.2.2.2.2.1, FW⟩ | (go_split_ands; exact ⟨kc f (by assumption), kc f (by assumption), kc f (by assumption), kc f (by assumption), kc f (by assumption), kc f (by assumption), kc f (by assumption), kc f (by assumption), kc f (by assumption), kc f (by assumption), kc f (by assumption), kc f (by assumption), kc f (by assumption), kc f (by assumption), kc f (by assumption), kc f (by assumption), kc f (by assumption), kc f (by assumption), kc f (by assumption), kc f (by assumption), kc f (by assumption), kc f (by assumption), kc f (by assumption), kc f (by assumption), kc f (by assumption), kc f (by assumption), kc f (by assumption), kc f (by assumption), kc f (by assumption), kc f (by assumption), by assumption⟩) | (go_split_ands; exact ⟨(by assumption), (by assumption), (by assumption), (by assumption), (by assumption), (by assumption), (by assumption), (by assumption), (by assumption), (by assumption), (by assumption), (by assumption), (by assumption), (by assumption), (by assumption), (by assumption), (by assumption), (by assumption), (by assumption), (by assumption), (by assumption), (by assumption), (by assumption), (by assumption), (by assumption), (by assumption), (by assumption), (by assumption), (by assumption), (by assumption), by assumption⟩) | (go_split_ands; exact ⟨kc (fr1 _ _) (by assumption), kc (fr1 _ _) (by assumption), kc (fr1 _ _) (by assumption), kc (fr1 _ _) (by assumption), kc (fr1 _ _) (by assumption), kc (fr1 _ _) (by assumption), kc (fr1 _ _) (by assumption), kc (fr1 _ _) (by assumption), kc (fr1 _ _) (by assumption), kc (fr1 _ _) (by assumption), kc (fr1 _ _) (by assumption), kc (fr1 _ _) (by assumption), kc (fr1 _ _) (by assumption), kc (fr1 _ _) (by assumption), kc (fr1 _ _) (by assumption), kc (fr1 _ _) (by assumption), kc (fr1 _ _) (by assumption), kc (fr1 _ _) (by assumption), kc (fr1 _ _) (by assumption), kc (fr1 _ _) (by assumption), kc (fr1 _ _) (by assumption), kc (fr1 _ _) (by assumption), kc (fr1 _ _) (by assumption), kc (fr1 _ _) (by assumption), kc (fr1 _ _) (by assumption), kc (fr1 _ _) (by assumption), kc (fr1 _ _) (by assumption), kc (fr1 _ _) (by assumption), kc (fr1 _ _) (by assumption), kc (fr1 _ _) (by assumption), kfa (by assumption)⟩))
  clear hK K
  try simp only [Act.put, List.getElem_toArray, List.getElem_cons_succ, List.getElem_cons_zero, List.setIfInBounds_toArray, List.set_cons_zero, List.set_cons_succ]
  refine wpAnyH_ready (rs := [11]) (by kernel_rfl) (by simp) (AllReadyH.cons rfl (fun K hK => ?_) AllReadyH.nil)
  go_simp
  go_at_call 18
  refine (copy_yes _ _ _ _ _ _ _ _ _ _ _ (by assumption) (by assumption)).mono ?_
  rintro e W1 ⟨rfl, f⟩
  have FW := kf f hHeld.2.2.2.2.2.2.2.2.2.2.2.2.2.2.2.2.2.2.2.2.2.2.2.2.2.2.2.2.2.2
  dsimp only
  refine hK.out _ _ ?_ (fun hHeld => ?_)
  · (try dsimp only); (first | exact ⟨kc f hHeld.1, kc f hHeld.2.1, kc f hHeld.2.2.1, kc f hHeld.2.2.2.1, kc f hHeld.2.2.2.2.1, kc f hHeld.2.2.2.2.2.1, kc f hHeld.2.2.2.2.2.2.1, kc f hHeld.2.2.2.2.2.2.2.1, kc f hHeld.2.2.2.2.2.2.2.2.1, kc f hHeld.2.2.2.2.2.2.2.2.2.1, kc f hHeld.2.2.2.2.2.2.2.2.2.2.1, kc f hHeld.2.2.2.2.2.2.2.2.2.2.2.1, kc f hHeld.2.2.2.2.2.2.2.2.2.2.2.2.1, kc f hHeld.2.2.2.2.2.2.2.2.2.2.2.2.2.1, kc f hHeld.2.2.2.2.2.2.2.2.2.2.2.2.2.2.1, kc f hHeld.2.2.2.2.2.2.2.2.2.2.2.2.2.2.2.1, kc f hHeld.2.2.2.2.2.2.2.2.2.2.2.2.2.2.2.2.1, kc f hHeld.2.2.2.2.2.2.2.2.2.2.2.2.2.2.2.2.2.1, kc f hHeld.2.2.2.2.2.2.2.2.2.2.2.2.2.2.2.2.2.2.1, kc f hHeld.2.2.2.2.2.2.2.2.2.2.2.2.2.2.2.2.2.2.2.1, kc f hHeld.2.2.2.2.2.2.2.2.2.2.2.2.2.2.2.2.2.2.2.2.1, kc f hHeld.2.2.2.2.2.2.2.2.2.2.2.2.2.2.2.2.2.2.2.2.2.1, kc f hHeld.2.2.2.2.2.2.2.2.2.2.2.2.2.2.2.2.2.2.2.2.2.2.1, kc f hHeld.2.2.2.2.2.2.2.2.2.2.2.2.2.2.2.2.2.2.2.2.2.2.2.1, kc f hHeld.2.2.2.2.2.2.2.2.2.2.2.2.2.2.2.2.2.2.2.2.2.2.2.2.1, kc f hHeld.2.2.2.2.2.2.2.2.2.2.2.2.2.2.2.2.2.2.2.2.2.2.2.2.2.1, kc f hHeld.2.2.2.2.2.2.2.2.2.2.2.2.2.2.2.2.2.2.2.2.2.2.2.2.2.2.1, kc f hHeld.2.2.2.2.2.2.2.2.2.2.2.2.2.2.2.2.2.2.2.2.2.2.2.2.2.2.2.1, kc f hHeld.2.2.2.2.2.2.2.2.2.2.2.2.2.2.2.2.2.2.2.2.2.2.2.2.2.2.2.2.1, kc f hHeld.2.2.2.2.2.2.2.2.2.2.2.2.2.2.2.2.2.2.2.2.2.2.2.2.2.2.2.2.2.1, FW⟩ | (go_split_ands; exact ⟨kc f (by assumption), kc f (by assumption), kc f (by assumption), kc f (by assumption), kc f (by assumption), kc f (by assumption), kc f (by assumption), kc f (by assumption), kc f (by assumption), kc f (by assumption), kc f (by assumption), kc f (by assumption), kc f (by assumption), kc f (by assumption), kc f (by assumption), kc f (by assumption), kc f (by assumption), kc f (by assumption), kc f (by assumption), kc f (by assumption), kc f (by assumption), kc f (by assumption), kc f (by assumption), kc f (by assumption), kc f (by assumption), kc f (by assumption), kc f (by assumption), kc f (by assumption), kc f (by assumption), kc f (by assumption), by assumption⟩) | (go_split_ands; exact ⟨(by assumption), (by assumption), (by assumption), (by assumption), (by assumption), (by assumption), (by assumption), (by assumption), (by assumption), (by assumption), (by assumption), (by assumption), (by assumption), (by assumption), (by assumption), (by assumption), (by assumption), (by assumption), (by assumption), (by assumption), (by assumption), (by assumption), (by assumption), (by assumption), (by assumption), (by assumption), (by assumption), (by assumption), (by assumption), (by assumption), by assumption⟩) | (go_split_ands; exact ⟨kc (fr1 _ _) (by assumption), kc (fr1 _ _) (by assumption), kc (fr1 _ _) (by assumption), kc (fr1 _ _) (by assumption), kc (fr1 _ _) (by assumption), kc (fr1 _ _) (by assumption), kc (fr1 _ _) (by assumption), kc (fr1 _ _) (by assumption), kc (fr1 _ _) (by assumption), kc (fr1 _ _) (by assumption), kc (fr1 _ _) (by assumption), kc (fr1 _ _) (by assumption), kc (fr1 _ _) (by assumption), kc (fr1 _ _) (by assumption), kc (fr1 _ _) (by assumption), kc (fr1 _ _) (by assumption), kc (fr1 _ _) (by assumption), kc (fr1 _ _) (by assumption), kc (fr1 _ _) (by assumption), kc (fr1 _ _) (by assumption), kc (fr1 _ _) (by assumption), kc (fr1 _ _) (by assumption), kc (fr1 _ _) (by assumption), kc (fr1 _ _) (by assumption), kc (fr1 _ _) (by assumption), kc (fr1 _ _) (by assumption), kc (fr1 _ _) (by assumption), kc (fr1 _ _) (by assumption), kc (fr1 _ _) (by assumption), kc (fr1 _ _) (by assumption), kfa (by assumption)⟩))
  clear hK K
  try simp only [Act.put, List.getElem_toArray, List.getElem_cons_succ, List.getElem_cons_zero, List.setIfInBounds_toArray, List.set_cons_zero, List.set_cons_succ]
  refine wpAnyH_take (i := 12) (v := ?v6) rfl (by kernel_rfl) (by kernel_rfl) (by kernel_rfl) (fun _ _ _ h => h) (Or.inl ⟨by kernel_rfl, ?y6⟩) (by assumption) ?_
  case y6 => (intro w hSw; (try dsimp only at hSw); go_simp; all_goals with_reducible rfl)
  try simp only [Act.put, List.getElem_toArray, List.getElem_cons_succ, List.getElem_cons_zero, List.setIfInBounds_toArray, List.set_cons_zero, List.set_cons_succ]
  refine wpAnyH_take (i := 13) (v := ?v7) rfl (by kernel_rfl) (by kernel_rfl) (by kernel_rfl) (fun _ _ _ h => h) (Or.inl ⟨by kernel_rfl, ?y7⟩) (by assumption) ?_
  case y7 => (intro w hSw; (try dsimp only at hSw); go_simp; all_goals with_reducible rfl)
  try simp only [Act.put, List.getElem_toArray, List.getElem_cons_succ, List.getElem_cons_zero, List.setIfInBounds_toArray, List.set_cons_zero, List.set_cons_succ]
  refine wpAnyH_take (i := 14) (v := ?v8) rfl (by kernel_rfl) (by kernel_rfl) (by kernel_rfl) (fun _ _ _ h => h) (Or.inl ⟨by kernel_rfl, ?y8⟩) (by assumption) ?_
  case y8 => (intro w hSw; (try dsimp only at hSw); go_simp; all_goals with_reducible rfl)
  try simp only [Act.put, List.getElem_toArray, List.getElem_cons_succ, List.getElem_cons_zero, List.setIfInBounds_toArray, List.set_cons_zero, List.set_cons_succ]
  refine wpAnyH_done (by kernel_rfl) ?_ _
  refine NoPanic.normal ?_
  go_wp2
  go_ret
  exact ⟨SuM.retb (show ((g + 1) % 2 != g % 2) = true by rw [bne, hne]; rfl), FWO.out.trans FW.out⟩
set_option maxRecDepth 100000 in
set_option maxHeartbeats 4000000 in
theorem nexts_b (g c s n l k t ep fi : Int) (b : Bool) (t2 e2 f2 : Int) (b2 : Bool) (w : World) (hs : -9223372036854775808 ≤ s ∧ s ≤ 9223372036854775807) (hg : -9223372036854775808 ≤ g ∧ g ≤ 9223372036854775807) (hm : mayS g c s n l k t ep fi) (hn : ¬ mayS (g + 1) c s n l k t2 e2 f2) (hl : g < 1099511627776) (hT : TabAt w) : Calls Tryd.prog 6 #[sv g c s n l k t ep fi b, .int .i64 t2, .int .i64 e2, .int .i64 f2, .bool b2] w fun e' w' => e' = .returned (.bool true) ∧ Fr No w w' := by
  obtain ⟨hg1, hg2⟩ := hg
  have HNX := hid (nx_no (b := b) (b2 := b2) (fun h => hn h.2 : ¬ (mayS g c s n l k t ep fi ∧ mayS (g + 1) c s n l k t2 e2 f2)))
  have hml := may_g hm
  obtain ⟨hm1, hm2⟩ := hml
  have HW := hid hn
  obtain ⟨W, hW⟩ : ∃ W, w.alloc (sbx g c s n l k t ep fi b) = W := ⟨_, rfl⟩
  obtain ⟨X, hX⟩ : ∃ X, w.heap.size = X := ⟨_, rfl⟩
  have FWW := hid (show Fr No w W by rw [← hW]; exact (Fr.refl No w).alloc _)
  have HB := hid (show Blk W X 25 #[.int .i64 g, .int .i64 c, .int .i64 s, .int .i64 n, .int .i64 l, .int .i64 k, .int .i64 t, .int .i64 ep, .int .i64 fi, .bool b] by rw [← hW, ← hX]; exact Blk.new w _ _)
  have HM := hid hm
  have HSS := hid hs
  have HTC := hid (show ∀ w', Fr No w w' → TabAt w' from fun w' f => hT.fr f (fun h => h))
  clear hm hs hT hn
  have x0 : W.cell? ⟨X, 0, none⟩ = some (.int .i64 g) := HB.out.cell 0
  have x1 : W.cell? ⟨X, 1, none⟩ = some (.int .i64 c) := HB.out.cell 1
  have x2 : W.cell? ⟨X, 2, none⟩ = some (.int .i64 s) := HB.out.cell 2
  have x3 : W.cell? ⟨X, 3, none⟩ = some (.int .i64 n) := HB.out.cell 3
  have x4 : W.cell? ⟨X, 4, none⟩ = some (.int .i64 l) := HB.out.cell 4
  have x5 : W.cell? ⟨X, 5, none⟩ = some (.int .i64 k) := HB.out.cell 5
  have x6 : W.cell? ⟨X, 6, none⟩ = some (.int .i64 t) := HB.out.cell 6
  have x7 : W.cell? ⟨X, 7, none⟩ = some (.int .i64 ep) := HB.out.cell 7
  have x8 : W.cell? ⟨X, 8, none⟩ = some (.int .i64 fi) := HB.out.cell 8
  have x9 : W.cell? ⟨X, 9, none⟩ = some (.bool b) := HB.out.cell 9
  go_enter Tryd.func6, Tryd.ntmps6
  go_upto_region 2 with (first | (go_at_call 24; go_loud (refine (next_none g c s n l k t ep fi b t2 e2 f2 b2 _ HSS.out HNX.out).mono ?_; rintro e' w2 ⟨rfl, f⟩; replace FWW := hid (FWW.out.trans f); replace HB := hid (Blk.fr HB.out f (fun h => h)); clear f x0 x1 x2 x3 x4 x5 x6 x7 x8 x9)) | (refine st_S rfl (.tmp 11) (.tmp 21) rfl w2.heap.size rfl rfl (by simp [Value.oneCell']) (Blk.new w2 _ _) rfl ?_; intro w3 HD0 f3; have f : Fr No w2 w3 := ((Fr.refl No w2).alloc _).step f3 (fun i hi e => by omega); replace FWW := hid (FWW.out.trans f); replace HB := hid (Blk.fr HB.out f (fun h => h)); have HN := hid (show Blk w3 w2.heap.size 25 #[.int .i64 0, .int .i64 0, .int .i64 0, .int .i64 0, .int .i64 0, .int .i64 0, .int .i64 0, .int .i64 0, .int .i64 0, .bool false] from HD0); clear f f3 HD0; have x0 : w3.cell? ⟨X, 0, none⟩ = some (.int .i64 g) := HB.out.cell 0; have x1 : w3.cell? ⟨X, 1, none⟩ = some (.int .i64 c) := HB.out.cell 1; have x2 : w3.cell? ⟨X, 2, none⟩ = some (.int .i64 s) := HB.out.cell 2; have x3 : w3.cell? ⟨X, 3, none⟩ = some (.int .i64 n) := HB.out.cell 3; have x4 : w3.cell? ⟨X, 4, none⟩ = some (.int .i64 l) := HB.out.cell 4; have x5 : w3.cell? ⟨X, 5, none⟩ = some (.int .i64 k) := HB.out.cell 5; have x6 : w3.cell? ⟨X, 6, none⟩ = some (.int .i64 t) := HB.out.cell 6; have x7 : w3.cell? ⟨X, 7, none⟩ = some (.int .i64 ep) := HB.out.cell 7; have x8 : w3.cell? ⟨X, 8, none⟩ = some (.int .i64 fi) := HB.out.cell 8; have x9 : w3.cell? ⟨X, 9, none⟩ = some (.bool b) := HB.out.cell 9))
  obtain ⟨D, hD⟩ : ∃ D, w2.heap.size = D := ⟨_, rfl⟩
  rw [hD] at HN ⊢
  clear hD
  skip
  have HXE := hid (show X ≠ w3.heap.size ∧ D ≠ w3.heap.size ∧ w.heap.size ≤ w3.heap.size by have := Blk.lt HB.out; have := Blk.lt HN.out; have := FWW.out.size; omega)
  go_upto_region 3 with (refine st_S rfl (.tmp 13) (.tmp 29) rfl w3.heap.size rfl rfl (by simp [Value.oneCell']) (Blk.new w3 _ _) rfl ?_; intro w4 HD0 f3; have f : Fr No w3 w4 := ((Fr.refl No w3).alloc _).step f3 (fun i hi e => by omega); replace FWW := hid (FWW.out.trans f); replace HB := hid (Blk.fr HB.out f (fun h => h)); replace HN := hid (Blk.fr HN.out f (fun h => h)); have HE := hid (show Blk w4 w3.heap.size 25 #[.int .i64 0, .int .i64 c, .int .i64 s, .int .i64 n, .int .i64 l, .int .i64 k, .int .i64 t2, .int .i64 e2, .int .i64 f2, .bool b2] from HD0); clear f f3 HD0 x0 x1 x2 x3 x4 x5 x6 x7 x8 x9; have x0 : w4.cell? ⟨X, 0, none⟩ = some (.int .i64 g) := HB.out.cell 0; have x1 : w4.cell? ⟨X, 1, none⟩ = some (.int .i64 c) := HB.out.cell 1; have x2 : w4.cell? ⟨X, 2, none⟩ = some (.int .i64 s) := HB.out.cell 2; have x3 : w4.cell? ⟨X, 3, none⟩ = some (.int .i64 n) := HB.out.cell 3; have x4 : w4.cell? ⟨X, 4, none⟩ = some (.int .i64 l) := HB.out.cell 4; have x5 : w4.cell? ⟨X, 5, none⟩ = some (.int .i64 k) := HB.out.cell 5; have x6 : w4.cell? ⟨X, 6, none⟩ = some (.int .i64 t) := HB.out.cell 6; have x7 : w4.cell? ⟨X, 7, none⟩ = some (.int .i64 ep) := HB.out.cell 7; have x8 : w4.cell? ⟨X, 8, none⟩ = some (.int .i64 fi) := HB.out.cell 8; have x9 : w4.cell? ⟨X, 9, none⟩ = some (.bool b) := HB.out.cell 9)
  obtain ⟨E, hE⟩ : ∃ E, w3.heap.size = E := ⟨_, rfl⟩
  rw [hE] at HE HXE ⊢
  clear hE
  have HEW := hid HXE.out.2.2
  have ee : w4.cell? ⟨E, 0, none⟩ = some (.int .i64 0) := HE.out.cell 0
  have ez : w4.frozen? ⟨E, 0, none⟩ = false := HE.out.frozen 0
  go_upto_region 5 with fail
  clear ee ez x0 x1 x2 x3 x4 x5 x6 x7 x8 x9
  replace HE := hid (show Blk (w4.setCell ⟨E, 0, none⟩ (.int .i64 (g + 1))) E 25 #[.int .i64 (g + 1), .int .i64 c, .int .i64 s, .int .i64 n, .int .i64 l, .int .i64 k, .int .i64 t2, .int .i64 e2, .int .i64 f2, .bool b2] from Blk.set_ HE.out 0 (.int .i64 (g + 1)))
  replace HB := hid (Blk.far HB.out (p := ⟨E, 0, none⟩) (fun h => HXE.out.1 h) (.int .i64 (g + 1)))
  replace HN := hid (Blk.far HN.out (p := ⟨E, 0, none⟩) (fun h => HXE.out.2.1 h) (.int .i64 (g + 1)))
  have HXX := hid hX
  replace FWW := hid (FWW.out.setCell (p := ⟨E, 0, none⟩) (fun h => absurd h (by have := HEW.out; simp only []; omega)) (.int .i64 (g + 1)))
  generalize World.setCell w4 ⟨E, 0, none⟩ (.int .i64 (g + 1)) = w5 at HE HB HN FWW ⊢
  have x0 : w5.cell? ⟨X, 0, none⟩ = some (.int .i64 g) := HB.out.cell 0
  have x1 : w5.cell? ⟨X, 1, none⟩ = some (.int .i64 c) := HB.out.cell 1
  have x2 : w5.cell? ⟨X, 2, none⟩ = some (.int .i64 s) := HB.out.cell 2
  have x3 : w5.cell? ⟨X, 3, none⟩ = some (.int .i64 n) := HB.out.cell 3
  have x4 : w5.cell? ⟨X, 4, none⟩ = some (.int .i64 l) := HB.out.cell 4
  have x5 : w5.cell? ⟨X, 5, none⟩ = some (.int .i64 k) := HB.out.cell 5
  have x6 : w5.cell? ⟨X, 6, none⟩ = some (.int .i64 t) := HB.out.cell 6
  have x7 : w5.cell? ⟨X, 7, none⟩ = some (.int .i64 ep) := HB.out.cell 7
  have x8 : w5.cell? ⟨X, 8, none⟩ = some (.int .i64 fi) := HB.out.cell 8
  have x9 : w5.cell? ⟨X, 9, none⟩ = some (.bool b) := HB.out.cell 9
  go_wp2_with (first | (go_at_call 15; go_loud (refine (lives_ok _ (HTC.out _ FWW.out)).mono ?_; rintro e' w6 ⟨rfl, f⟩; replace FWW := hid (FWW.out.trans f); replace HB := hid (Blk.fr HB.out f (fun h => h)); replace HN := hid (Blk.fr HN.out f (fun h => h)); replace HE := hid (Blk.fr HE.out f (fun h => h)); clear f x0 x1 x2 x3 x4 x5 x6 x7 x8 x9; have x0 : w6.cell? ⟨X, 0, none⟩ = some (.int .i64 g) := HB.out.cell 0; have x1 : w6.cell? ⟨X, 1, none⟩ = some (.int .i64 c) := HB.out.cell 1; have x2 : w6.cell? ⟨X, 2, none⟩ = some (.int .i64 s) := HB.out.cell 2; have x3 : w6.cell? ⟨X, 3, none⟩ = some (.int .i64 n) := HB.out.cell 3; have x4 : w6.cell? ⟨X, 4, none⟩ = some (.int .i64 l) := HB.out.cell 4; have x5 : w6.cell? ⟨X, 5, none⟩ = some (.int .i64 k) := HB.out.cell 5; have x6 : w6.cell? ⟨X, 6, none⟩ = some (.int .i64 t) := HB.out.cell 6; have x7 : w6.cell? ⟨X, 7, none⟩ = some (.int .i64 ep) := HB.out.cell 7; have x8 : w6.cell? ⟨X, 8, none⟩ = some (.int .i64 fi) := HB.out.cell 8; have x9 : w6.cell? ⟨X, 9, none⟩ = some (.bool b) := HB.out.cell 9)) | (go_at_call 17; go_loud ((with_reducible refine (rmayS_ok g c s n l k t ep fi b _ HSS.out).mono ?_); rintro e' w7 ⟨rfl, f⟩; rw [decide_eq_true HM.out]; replace FWW := hid (FWW.out.trans f); replace HB := hid (Blk.fr HB.out f (fun h => h)); replace HN := hid (Blk.fr HN.out f (fun h => h)); replace HE := hid (Blk.fr HE.out f (fun h => h)); clear f; have ec0 : w7.cell? ⟨E, 0, none⟩ = some (.int .i64 (g + 1)) := HE.out.cell 0; have ec1 : w7.cell? ⟨E, 1, none⟩ = some (.int .i64 c) := HE.out.cell 1; have ec2 : w7.cell? ⟨E, 2, none⟩ = some (.int .i64 s) := HE.out.cell 2; have ec3 : w7.cell? ⟨E, 3, none⟩ = some (.int .i64 n) := HE.out.cell 3; have ec4 : w7.cell? ⟨E, 4, none⟩ = some (.int .i64 l) := HE.out.cell 4; have ec5 : w7.cell? ⟨E, 5, none⟩ = some (.int .i64 k) := HE.out.cell 5; have ec6 : w7.cell? ⟨E, 6, none⟩ = some (.int .i64 t2) := HE.out.cell 6; have ec7 : w7.cell? ⟨E, 7, none⟩ = some (.int .i64 e2) := HE.out.cell 7; have ec8 : w7.cell? ⟨E, 8, none⟩ = some (.int .i64 f2) := HE.out.cell 8; have ec9 : w7.cell? ⟨E, 9, none⟩ = some (.bool b2) := HE.out.cell 9)) | (go_at_call 17; ((with_reducible refine (rmayS_ok (g + 1) c s n l k t2 e2 f2 b2 _ HSS.out).mono ?_); rintro e' w8 ⟨rfl, f⟩; rw [decide_eq_false HW.out]; replace FWW := hid (FWW.out.trans f); replace HB := hid (Blk.fr HB.out f (fun h => h)); replace HN := hid (Blk.fr HN.out f (fun h => h)); replace HE := hid (Blk.fr HE.out f (fun h => h)); clear f ec0 ec1 ec2 ec3 ec4 ec5 ec6 ec7 ec8 ec9 x0 x1 x2 x3 x4 x5 x6 x7 x8 x9; have n0 : w8.cell? ⟨D, 0, none⟩ = some (.int .i64 0) := HN.out.cell 0; have n1 : w8.cell? ⟨D, 1, none⟩ = some (.int .i64 0) := HN.out.cell 1; have n2 : w8.cell? ⟨D, 2, none⟩ = some (.int .i64 0) := HN.out.cell 2; have n3 : w8.cell? ⟨D, 3, none⟩ = some (.int .i64 0) := HN.out.cell 3; have n4 : w8.cell? ⟨D, 4, none⟩ = some (.int .i64 0) := HN.out.cell 4; have n5 : w8.cell? ⟨D, 5, none⟩ = some (.int .i64 0) := HN.out.cell 5; have n6 : w8.cell? ⟨D, 6, none⟩ = some (.int .i64 0) := HN.out.cell 6; have n7 : w8.cell? ⟨D, 7, none⟩ = some (.int .i64 0) := HN.out.cell 7; have n8 : w8.cell? ⟨D, 8, none⟩ = some (.int .i64 0) := HN.out.cell 8; have n9 : w8.cell? ⟨D, 9, none⟩ = some (.bool false) := HN.out.cell 9)))
  go_ret
  exact ⟨rfl, FWW.out⟩
set_option maxRecDepth 100000 in
set_option maxHeartbeats 4000000 in
theorem nexts_c (g c s n l k t ep fi : Int) (b : Bool) (t2 e2 f2 : Int) (b2 : Bool) (w : World) (hs : -9223372036854775808 ≤ s ∧ s ≤ 9223372036854775807) (hg : -9223372036854775808 ≤ g ∧ g ≤ 9223372036854775807) (hm : mayS g c s n l k t ep fi) (hn : ¬ mayS (g + 1) c s n l k t2 e2 f2) (hl : ¬ g < 1099511627776) (hT : TabAt w) : Calls Tryd.prog 6 #[sv g c s n l k t ep fi b, .int .i64 t2, .int .i64 e2, .int .i64 f2, .bool b2] w fun e' w' => e' = .returned (.bool true) ∧ Fr No w w' := by
  obtain ⟨hg1, hg2⟩ := hg
  have HNX := hid (nx_no (b := b) (b2 := b2) (fun h => hn h.2 : ¬ (mayS g c s n l k t ep fi ∧ mayS (g + 1) c s n l k t2 e2 f2)))
  have hml := may_g hm
  obtain ⟨hm1, hm2⟩ := hml
  have HW := hid (show ¬ mayS 0 c s n l k t2 e2 f2 from fun h => by have := may_g h; omega)
  obtain ⟨W, hW⟩ : ∃ W, w.alloc (sbx g c s n l k t ep fi b) = W := ⟨_, rfl⟩
  obtain ⟨X, hX⟩ : ∃ X, w.heap.size = X := ⟨_, rfl⟩
  have FWW := hid (show Fr No w W by rw [← hW]; exact (Fr.refl No w).alloc _)
  have HB := hid (show Blk W X 25 #[.int .i64 g, .int .i64 c, .int .i64 s, .int .i64 n, .int .i64 l, .int .i64 k, .int .i64 t, .int .i64 ep, .int .i64 fi, .bool b] by rw [← hW, ← hX]; exact Blk.new w _ _)
  have HM := hid hm
  have HSS := hid hs
  have HTC := hid (show ∀ w', Fr No w w' → TabAt w' from fun w' f => hT.fr f (fun h => h))
  clear hm hs hT hn
  have x0 : W.cell? ⟨X, 0, none⟩ = some (.int .i64 g) := HB.out.cell 0
  have x1 : W.cell? ⟨X, 1, none⟩ = some (.int .i64 c) := HB.out.cell 1
  have x2 : W.cell? ⟨X, 2, none⟩ = some (.int .i64 s) := HB.out.cell 2
  have x3 : W.cell? ⟨X, 3, none⟩ = some (.int .i64 n) := HB.out.cell 3
  have x4 : W.cell? ⟨X, 4, none⟩ = some (.int .i64 l) := HB.out.cell 4
  have x5 : W.cell? ⟨X, 5, none⟩ = some (.int .i64 k) := HB.out.cell 5
  have x6 : W.cell? ⟨X, 6, none⟩ = some (.int .i64 t) := HB.out.cell 6
  have x7 : W.cell? ⟨X, 7, none⟩ = some (.int .i64 ep) := HB.out.cell 7
  have x8 : W.cell? ⟨X, 8, none⟩ = some (.int .i64 fi) := HB.out.cell 8
  have x9 : W.cell? ⟨X, 9, none⟩ = some (.bool b) := HB.out.cell 9
  go_enter Tryd.func6, Tryd.ntmps6
  go_upto_region 2 with (first | (go_at_call 24; go_loud (refine (next_none g c s n l k t ep fi b t2 e2 f2 b2 _ HSS.out HNX.out).mono ?_; rintro e' w2 ⟨rfl, f⟩; replace FWW := hid (FWW.out.trans f); replace HB := hid (Blk.fr HB.out f (fun h => h)); clear f x0 x1 x2 x3 x4 x5 x6 x7 x8 x9)) | (refine st_S rfl (.tmp 11) (.tmp 21) rfl w2.heap.size rfl rfl (by simp [Value.oneCell']) (Blk.new w2 _ _) rfl ?_; intro w3 HD0 f3; have f : Fr No w2 w3 := ((Fr.refl No w2).alloc _).step f3 (fun i hi e => by omega); replace FWW := hid (FWW.out.trans f); replace HB := hid (Blk.fr HB.out f (fun h => h)); have HN := hid (show Blk w3 w2.heap.size 25 #[.int .i64 0, .int .i64 0, .int .i64 0, .int .i64 0, .int .i64 0, .int .i64 0, .int .i64 0, .int .i64 0, .int .i64 0, .bool false] from HD0); clear f f3 HD0; have x0 : w3.cell? ⟨X, 0, none⟩ = some (.int .i64 g) := HB.out.cell 0; have x1 : w3.cell? ⟨X, 1, none⟩ = some (.int .i64 c) := HB.out.cell 1; have x2 : w3.cell? ⟨X, 2, none⟩ = some (.int .i64 s) := HB.out.cell 2; have x3 : w3.cell? ⟨X, 3, none⟩ = some (.int .i64 n) := HB.out.cell 3; have x4 : w3.cell? ⟨X, 4, none⟩ = some (.int .i64 l) := HB.out.cell 4; have x5 : w3.cell? ⟨X, 5, none⟩ = some (.int .i64 k) := HB.out.cell 5; have x6 : w3.cell? ⟨X, 6, none⟩ = some (.int .i64 t) := HB.out.cell 6; have x7 : w3.cell? ⟨X, 7, none⟩ = some (.int .i64 ep) := HB.out.cell 7; have x8 : w3.cell? ⟨X, 8, none⟩ = some (.int .i64 fi) := HB.out.cell 8; have x9 : w3.cell? ⟨X, 9, none⟩ = some (.bool b) := HB.out.cell 9))
  obtain ⟨D, hD⟩ : ∃ D, w2.heap.size = D := ⟨_, rfl⟩
  rw [hD] at HN ⊢
  clear hD
  skip
  have HXE := hid (show X ≠ w3.heap.size ∧ D ≠ w3.heap.size ∧ w.heap.size ≤ w3.heap.size by have := Blk.lt HB.out; have := Blk.lt HN.out; have := FWW.out.size; omega)
  go_upto_region 3 with (refine st_S rfl (.tmp 13) (.tmp 29) rfl w3.heap.size rfl rfl (by simp [Value.oneCell']) (Blk.new w3 _ _) rfl ?_; intro w4 HD0 f3; have f : Fr No w3 w4 := ((Fr.refl No w3).alloc _).step f3 (fun i hi e => by omega); replace FWW := hid (FWW.out.trans f); replace HB := hid (Blk.fr HB.out f (fun h => h)); replace HN := hid (Blk.fr HN.out f (fun h => h)); have HE := hid (show Blk w4 w3.heap.size 25 #[.int .i64 0, .int .i64 c, .int .i64 s, .int .i64 n, .int .i64 l, .int .i64 k, .int .i64 t2, .int .i64 e2, .int .i64 f2, .bool b2] from HD0); clear f f3 HD0 x0 x1 x2 x3 x4 x5 x6 x7 x8 x9; have x0 : w4.cell? ⟨X, 0, none⟩ = some (.int .i64 g) := HB.out.cell 0; have x1 : w4.cell? ⟨X, 1, none⟩ = some (.int .i64 c) := HB.out.cell 1; have x2 : w4.cell? ⟨X, 2, none⟩ = some (.int .i64 s) := HB.out.cell 2; have x3 : w4.cell? ⟨X, 3, none⟩ = some (.int .i64 n) := HB.out.cell 3; have x4 : w4.cell? ⟨X, 4, none⟩ = some (.int .i64 l) := HB.out.cell 4; have x5 : w4.cell? ⟨X, 5, none⟩ = some (.int .i64 k) := HB.out.cell 5; have x6 : w4.cell? ⟨X, 6, none⟩ = some (.int .i64 t) := HB.out.cell 6; have x7 : w4.cell? ⟨X, 7, none⟩ = some (.int .i64 ep) := HB.out.cell 7; have x8 : w4.cell? ⟨X, 8, none⟩ = some (.int .i64 fi) := HB.out.cell 8; have x9 : w4.cell? ⟨X, 9, none⟩ = some (.bool b) := HB.out.cell 9)
  obtain ⟨E, hE⟩ : ∃ E, w3.heap.size = E := ⟨_, rfl⟩
  rw [hE] at HE HXE ⊢
  clear hE
  have HEW := hid HXE.out.2.2
  go_upto_region 5 with fail
  go_wp2_with (first | (go_at_call 15; go_loud (refine (lives_ok _ (HTC.out _ FWW.out)).mono ?_; rintro e' w6 ⟨rfl, f⟩; replace FWW := hid (FWW.out.trans f); replace HB := hid (Blk.fr HB.out f (fun h => h)); replace HN := hid (Blk.fr HN.out f (fun h => h)); replace HE := hid (Blk.fr HE.out f (fun h => h)); clear f x0 x1 x2 x3 x4 x5 x6 x7 x8 x9; have x0 : w6.cell? ⟨X, 0, none⟩ = some (.int .i64 g) := HB.out.cell 0; have x1 : w6.cell? ⟨X, 1, none⟩ = some (.int .i64 c) := HB.out.cell 1; have x2 : w6.cell? ⟨X, 2, none⟩ = some (.int .i64 s) := HB.out.cell 2; have x3 : w6.cell? ⟨X, 3, none⟩ = some (.int .i64 n) := HB.out.cell 3; have x4 : w6.cell? ⟨X, 4, none⟩ = some (.int .i64 l) := HB.out.cell 4; have x5 : w6.cell? ⟨X, 5, none⟩ = some (.int .i64 k) := HB.out.cell 5; have x6 : w6.cell? ⟨X, 6, none⟩ = some (.int .i64 t) := HB.out.cell 6; have x7 : w6.cell? ⟨X, 7, none⟩ = some (.int .i64 ep) := HB.out.cell 7; have x8 : w6.cell? ⟨X, 8, none⟩ = some (.int .i64 fi) := HB.out.cell 8; have x9 : w6.cell? ⟨X, 9, none⟩ = some (.bool b) := HB.out.cell 9)) | (go_at_call 17; go_loud ((with_reducible refine (rmayS_ok g c s n l k t ep fi b _ HSS.out).mono ?_); rintro e' w7 ⟨rfl, f⟩; rw [decide_eq_true HM.out]; replace FWW := hid (FWW.out.trans f); replace HB := hid (Blk.fr HB.out f (fun h => h)); replace HN := hid (Blk.fr HN.out f (fun h => h)); replace HE := hid (Blk.fr HE.out f (fun h => h)); clear f; have ec0 : w7.cell? ⟨E, 0, none⟩ = some (.int .i64 0) := HE.out.cell 0; have ec1 : w7.cell? ⟨E, 1, none⟩ = some (.int .i64 c) := HE.out.cell 1; have ec2 : w7.cell? ⟨E, 2, none⟩ = some (.int .i64 s) := HE.out.cell 2; have ec3 : w7.cell? ⟨E, 3, none⟩ = some (.int .i64 n) := HE.out.cell 3; have ec4 : w7.cell? ⟨E, 4, none⟩ = some (.int .i64 l) := HE.out.cell 4; have ec5 : w7.cell? ⟨E, 5, none⟩ = some (.int .i64 k) := HE.out.cell 5; have ec6 : w7.cell? ⟨E, 6, none⟩ = some (.int .i64 t2) := HE.out.cell 6; have ec7 : w7.cell? ⟨E, 7, none⟩ = some (.int .i64 e2) := HE.out.cell 7; have ec8 : w7.cell? ⟨E, 8, none⟩ = some (.int .i64 f2) := HE.out.cell 8; have ec9 : w7.cell? ⟨E, 9, none⟩ = some (.bool b2) := HE.out.cell 9)) | (go_at_call 17; ((with_reducible refine (rmayS_ok 0 c s n l k t2 e2 f2 b2 _ HSS.out).mono ?_); rintro e' w8 ⟨rfl, f⟩; rw [decide_eq_false HW.out]; replace FWW := hid (FWW.out.trans f); replace HB := hid (Blk.fr HB.out f (fun h => h)); replace HN := hid (Blk.fr HN.out f (fun h => h)); replace HE := hid (Blk.fr HE.out f (fun h => h)); clear f ec0 ec1 ec2 ec3 ec4 ec5 ec6 ec7 ec8 ec9 x0 x1 x2 x3 x4 x5 x6 x7 x8 x9; have n0 : w8.cell? ⟨D, 0, none⟩ = some (.int .i64 0) := HN.out.cell 0; have n1 : w8.cell? ⟨D, 1, none⟩ = some (.int .i64 0) := HN.out.cell 1; have n2 : w8.cell? ⟨D, 2, none⟩ = some (.int .i64 0) := HN.out.cell 2; have n3 : w8.cell? ⟨D, 3, none⟩ = some (.int .i64 0) := HN.out.cell 3; have n4 : w8.cell? ⟨D, 4, none⟩ = some (.int .i64 0) := HN.out.cell 4; have n5 : w8.cell? ⟨D, 5, none⟩ = some (.int .i64 0) := HN.out.cell 5; have n6 : w8.cell? ⟨D, 6, none⟩ = some (.int .i64 0) := HN.out.cell 6; have n7 : w8.cell? ⟨D, 7, none⟩ = some (.int .i64 0) := HN.out.cell 7; have n8 : w8.cell? ⟨D, 8, none⟩ = some (.int .i64 0) := HN.out.cell 8; have n9 : w8.cell? ⟨D, 9, none⟩ = some (.bool false) := HN.out.cell 9)))
  go_ret
  exact ⟨rfl, FWW.out⟩
set_option maxRecDepth 100000 in
set_option maxHeartbeats 4000000 in
theorem nexts_d (g c s n l k t ep fi : Int) (b : Bool) (t2 e2 f2 : Int) (b2 : Bool) (w : World) (hs : -9223372036854775808 ≤ s ∧ s ≤ 9223372036854775807) (hg : -9223372036854775808 ≤ g ∧ g ≤ 9223372036854775807) (hm : ¬ mayS g c s n l k t ep fi) (hl : g < 1099511627776) (h1 : 1 ≤ g) (hT : TabAt w) : Calls Tryd.prog 6 #[sv g c s n l k t ep fi b, .int .i64 t2, .int .i64 e2, .int .i64 f2, .bool b2] w fun e' w' => e' = .returned (.bool true) ∧ Fr No w w' := by
  obtain ⟨hg1, hg2⟩ := hg
  have HNX := hid (nx_no (b := b) (b2 := b2) (fun h => hm h.1 : ¬ (mayS g c s n l k t ep fi ∧ mayS (g + 1) c s n l k t2 e2 f2)))
  obtain ⟨W, hW⟩ : ∃ W, w.alloc (sbx g c s n l k t ep fi b) = W := ⟨_, rfl⟩
  obtain ⟨X, hX⟩ : ∃ X, w.heap.size = X := ⟨_, rfl⟩
  have FWW := hid (show Fr No w W by rw [← hW]; exact (Fr.refl No w).alloc _)
  have HB := hid (show Blk W X 25 #[.int .i64 g, .int .i64 c, .int .i64 s, .int .i64 n, .int .i64 l, .int .i64 k, .int .i64 t, .int .i64 ep, .int .i64 fi, .bool b] by rw [← hW, ← hX]; exact Blk.new w _ _)
  have HM := hid hm
  have HSS := hid hs
  have HTC := hid (show ∀ w', Fr No w w' → TabAt w' from fun w' f => hT.fr f (fun h => h))
  clear hm hs hT
  have x0 : W.cell? ⟨X, 0, none⟩ = some (.int .i64 g) := HB.out.cell 0
  have x1 : W.cell? ⟨X, 1, none⟩ = some (.int .i64 c) := HB.out.cell 1
  have x2 : W.cell? ⟨X, 2, none⟩ = some (.int .i64 s) := HB.out.cell 2
  have x3 : W.cell? ⟨X, 3, none⟩ = some (.int .i64 n) := HB.out.cell 3
  have x4 : W.cell? ⟨X, 4, none⟩ = some (.int .i64 l) := HB.out.cell 4
  have x5 : W.cell? ⟨X, 5, none⟩ = some (.int .i64 k) := HB.out.cell 5
  have x6 : W.cell? ⟨X, 6, none⟩ = some (.int .i64 t) := HB.out.cell 6
  have x7 : W.cell? ⟨X, 7, none⟩ = some (.int .i64 ep) := HB.out.cell 7
  have x8 : W.cell? ⟨X, 8, none⟩ = some (.int .i64 fi) := HB.out.cell 8
  have x9 : W.cell? ⟨X, 9, none⟩ = some (.bool b) := HB.out.cell 9
  go_enter Tryd.func6, Tryd.ntmps6
  go_upto_region 2 with (first | (go_at_call 24; go_loud (refine (next_none g c s n l k t ep fi b t2 e2 f2 b2 _ HSS.out HNX.out).mono ?_; rintro e' w2 ⟨rfl, f⟩; replace FWW := hid (FWW.out.trans f); replace HB := hid (Blk.fr HB.out f (fun h => h)); clear f x0 x1 x2 x3 x4 x5 x6 x7 x8 x9)) | (refine st_S rfl (.tmp 11) (.tmp 21) rfl w2.heap.size rfl rfl (by simp [Value.oneCell']) (Blk.new w2 _ _) rfl ?_; intro w3 HD0 f3; have f : Fr No w2 w3 := ((Fr.refl No w2).alloc _).step f3 (fun i hi e => by omega); replace FWW := hid (FWW.out.trans f); replace HB := hid (Blk.fr HB.out f (fun h => h)); have HN := hid (show Blk w3 w2.heap.size 25 #[.int .i64 0, .int .i64 0, .int .i64 0, .int .i64 0, .int .i64 0, .int .i64 0, .int .i64 0, .int .i64 0, .int .i64 0, .bool false] from HD0); clear f f3 HD0; have x0 : w3.cell? ⟨X, 0, none⟩ = some (.int .i64 g) := HB.out.cell 0; have x1 : w3.cell? ⟨X, 1, none⟩ = some (.int .i64 c) := HB.out.cell 1; have x2 : w3.cell? ⟨X, 2, none⟩ = some (.int .i64 s) := HB.out.cell 2; have x3 : w3.cell? ⟨X, 3, none⟩ = some (.int .i64 n) := HB.out.cell 3; have x4 : w3.cell? ⟨X, 4, none⟩ = some (.int .i64 l) := HB.out.cell 4; have x5 : w3.cell? ⟨X, 5, none⟩ = some (.int .i64 k) := HB.out.cell 5; have x6 : w3.cell? ⟨X, 6, none⟩ = some (.int .i64 t) := HB.out.cell 6; have x7 : w3.cell? ⟨X, 7, none⟩ = some (.int .i64 ep) := HB.out.cell 7; have x8 : w3.cell? ⟨X, 8, none⟩ = some (.int .i64 fi) := HB.out.cell 8; have x9 : w3.cell? ⟨X, 9, none⟩ = some (.bool b) := HB.out.cell 9))
  obtain ⟨D, hD⟩ : ∃ D, w2.heap.size = D := ⟨_, rfl⟩
  rw [hD] at HN ⊢
  clear hD
  skip
  have HXE := hid (show X ≠ w3.heap.size ∧ D ≠ w3.heap.size ∧ w.heap.size ≤ w3.heap.size by have := Blk.lt HB.out; have := Blk.lt HN.out; have := FWW.out.size; omega)
  go_upto_region 3 with (refine st_S rfl (.tmp 13) (.tmp 29) rfl w3.heap.size rfl rfl (by simp [Value.oneCell']) (Blk.new w3 _ _) rfl ?_; intro w4 HD0 f3; have f : Fr No w3 w4 := ((Fr.refl No w3).alloc _).step f3 (fun i hi e => by omega); replace FWW := hid (FWW.out.trans f); replace HB := hid (Blk.fr HB.out f (fun h => h)); replace HN := hid (Blk.fr HN.out f (fun h => h)); have HE := hid (show Blk w4 w3.heap.size 25 #[.int .i64 0, .int .i64 c, .int .i64 s, .int .i64 n, .int .i64 l, .int .i64 k, .int .i64 t2, .int .i64 e2, .int .i64 f2, .bool b2] from HD0); clear f f3 HD0 x0 x1 x2 x3 x4 x5 x6 x7 x8 x9; have x0 : w4.cell? ⟨X, 0, none⟩ = some (.int .i64 g) := HB.out.cell 0; have x1 : w4.cell? ⟨X, 1, none⟩ = some (.int .i64 c) := HB.out.cell 1; have x2 : w4.cell? ⟨X, 2, none⟩ = some (.int .i64 s) := HB.out.cell 2; have x3 : w4.cell? ⟨X, 3, none⟩ = some (.int .i64 n) := HB.out.cell 3; have x4 : w4.cell? ⟨X, 4, none⟩ = some (.int .i64 l) := HB.out.cell 4; have x5 : w4.cell? ⟨X, 5, none⟩ = some (.int .i64 k) := HB.out.cell 5; have x6 : w4.cell? ⟨X, 6, none⟩ = some (.int .i64 t) := HB.out.cell 6; have x7 : w4.cell? ⟨X, 7, none⟩ = some (.int .i64 ep) := HB.out.cell 7; have x8 : w4.cell? ⟨X, 8, none⟩ = some (.int .i64 fi) := HB.out.cell 8; have x9 : w4.cell? ⟨X, 9, none⟩ = some (.bool b) := HB.out.cell 9)
  obtain ⟨E, hE⟩ : ∃ E, w3.heap.size = E := ⟨_, rfl⟩
  rw [hE] at HE HXE ⊢
  clear hE
  have HEW := hid HXE.out.2.2
  have ee : w4.cell? ⟨E, 0, none⟩ = some (.int .i64 0) := HE.out.cell 0
  have ez : w4.frozen? ⟨E, 0, none⟩ = false := HE.out.frozen 0
  go_upto_region 5 with fail
  clear ee ez x0 x1 x2 x3 x4 x5 x6 x7 x8 x9
  replace HE := hid (show Blk (w4.setCell ⟨E, 0, none⟩ (.int .i64 (g + 1))) E 25 #[.int .i64 (g + 1), .int .i64 c, .int .i64 s, .int .i64 n, .int .i64 l, .int .i64 k, .int .i64 t2, .int .i64 e2, .int .i64 f2, .bool b2] from Blk.set_ HE.out 0 (.int .i64 (g + 1)))
  replace HB := hid (Blk.far HB.out (p := ⟨E, 0, none⟩) (fun h => HXE.out.1 h) (.int .i64 (g + 1)))
  replace HN := hid (Blk.far HN.out (p := ⟨E, 0, none⟩) (fun h => HXE.out.2.1 h) (.int .i64 (g + 1)))
  have HXX := hid hX
  replace FWW := hid (FWW.out.setCell (p := ⟨E, 0, none⟩) (fun h => absurd h (by have := HEW.out; simp only []; omega)) (.int .i64 (g + 1)))
  generalize World.setCell w4 ⟨E, 0, none⟩ (.int .i64 (g + 1)) = w5 at HE HB HN FWW ⊢
  have x0 : w5.cell? ⟨X, 0, none⟩ = some (.int .i64 g) := HB.out.cell 0
  have x1 : w5.cell? ⟨X, 1, none⟩ = some (.int .i64 c) := HB.out.cell 1
  have x2 : w5.cell? ⟨X, 2, none⟩ = some (.int .i64 s) := HB.out.cell 2
  have x3 : w5.cell? ⟨X, 3, none⟩ = some (.int .i64 n) := HB.out.cell 3
  have x4 : w5.cell? ⟨X, 4, none⟩ = some (.int .i64 l) := HB.out.cell 4
  have x5 : w5.cell? ⟨X, 5, none⟩ = some (.int .i64 k) := HB.out.cell 5
  have x6 : w5.cell? ⟨X, 6, none⟩ = some (.int .i64 t) := HB.out.cell 6
  have x7 : w5.cell? ⟨X, 7, none⟩ = some (.int .i64 ep) := HB.out.cell 7
  have x8 : w5.cell? ⟨X, 8, none⟩ = some (.int .i64 fi) := HB.out.cell 8
  have x9 : w5.cell? ⟨X, 9, none⟩ = some (.bool b) := HB.out.cell 9
  go_wp2_with (first | (go_at_call 15; go_loud (refine (lives_ok _ (HTC.out _ FWW.out)).mono ?_; rintro e' w6 ⟨rfl, f⟩; replace FWW := hid (FWW.out.trans f); replace HB := hid (Blk.fr HB.out f (fun h => h)); replace HN := hid (Blk.fr HN.out f (fun h => h)); replace HE := hid (Blk.fr HE.out f (fun h => h)); clear f x0 x1 x2 x3 x4 x5 x6 x7 x8 x9; have x0 : w6.cell? ⟨X, 0, none⟩ = some (.int .i64 g) := HB.out.cell 0; have x1 : w6.cell? ⟨X, 1, none⟩ = some (.int .i64 c) := HB.out.cell 1; have x2 : w6.cell? ⟨X, 2, none⟩ = some (.int .i64 s) := HB.out.cell 2; have x3 : w6.cell? ⟨X, 3, none⟩ = some (.int .i64 n) := HB.out.cell 3; have x4 : w6.cell? ⟨X, 4, none⟩ = some (.int .i64 l) := HB.out.cell 4; have x5 : w6.cell? ⟨X, 5, none⟩ = some (.int .i64 k) := HB.out.cell 5; have x6 : w6.cell? ⟨X, 6, none⟩ = some (.int .i64 t) := HB.out.cell 6; have x7 : w6.cell? ⟨X, 7, none⟩ = some (.int .i64 ep) := HB.out.cell 7; have x8 : w6.cell? ⟨X, 8, none⟩ = some (.int .i64 fi) := HB.out.cell 8; have x9 : w6.cell? ⟨X, 9, none⟩ = some (.bool b) := HB.out.cell 9)) | (go_at_call 17; go_loud ((with_reducible refine (rmayS_ok g c s n l k t ep fi b _ HSS.out).mono ?_); rintro e' w7 ⟨rfl, f⟩; rw [decide_eq_false HM.out]; replace FWW := hid (FWW.out.trans f); replace HB := hid (Blk.fr HB.out f (fun h => h)); replace HN := hid (Blk.fr HN.out f (fun h => h)); replace HE := hid (Blk.fr HE.out f (fun h => h)); clear f; have n0 : w7.cell? ⟨D, 0, none⟩ = some (.int .i64 0) := HN.out.cell 0; have n1 : w7.cell? ⟨D, 1, none⟩ = some (.int .i64 0) := HN.out.cell 1; have n2 : w7.cell? ⟨D, 2, none⟩ = some (.int .i64 0) := HN.out.cell 2; have n3 : w7.cell? ⟨D, 3, none⟩ = some (.int .i64 0) := HN.out.cell 3; have n4 : w7.cell? ⟨D, 4, none⟩ = some (.int .i64 0) := HN.out.cell 4; have n5 : w7.cell? ⟨D, 5, none⟩ = some (.int .i64 0) := HN.out.cell 5; have n6 : w7.cell? ⟨D, 6, none⟩ = some (.int .i64 0) := HN.out.cell 6; have n7 : w7.cell? ⟨D, 7, none⟩ = some (.int .i64 0) := HN.out.cell 7; have n8 : w7.cell? ⟨D, 8, none⟩ = some (.int .i64 0) := HN.out.cell 8; have n9 : w7.cell? ⟨D, 9, none⟩ = some (.bool false) := HN.out.cell 9; have e0 : w7.cell? ⟨E, 0, none⟩ = some (.int .i64 (g + 1)) := HE.out.cell 0; have ec1 : w7.cell? ⟨E, 1, none⟩ = some (.int .i64 c) := HE.out.cell 1; have ec2 : w7.cell? ⟨E, 2, none⟩ = some (.int .i64 s) := HE.out.cell 2; have ec3 : w7.cell? ⟨E, 3, none⟩ = some (.int .i64 n) := HE.out.cell 3; have ec4 : w7.cell? ⟨E, 4, none⟩ = some (.int .i64 l) := HE.out.cell 4; have ec5 : w7.cell? ⟨E, 5, none⟩ = some (.int .i64 k) := HE.out.cell 5; have ec6 : w7.cell? ⟨E, 6, none⟩ = some (.int .i64 t2) := HE.out.cell 6; have ec7 : w7.cell? ⟨E, 7, none⟩ = some (.int .i64 e2) := HE.out.cell 7; have ec8 : w7.cell? ⟨E, 8, none⟩ = some (.int .i64 f2) := HE.out.cell 8; have ec9 : w7.cell? ⟨E, 9, none⟩ = some (.bool b2) := HE.out.cell 9)))
  go_ret
  exact ⟨rfl, FWW.out⟩
set_option maxRecDepth 100000 in
set_option maxHeartbeats 4000000 in
theorem nexts_e (g c s n l k t ep fi : Int) (b : Bool) (t2 e2 f2 : Int) (b2 : Bool) (w : World) (hs : -9223372036854775808 ≤ s ∧ s ≤ 9223372036854775807) (hg : -9223372036854775808 ≤ g ∧ g ≤ 9223372036854775807) (hm : ¬ mayS g c s n l k t ep fi) (hl : g < 1099511627776) (h1 : ¬ 1 ≤ g) (hT : TabAt w) : Calls Tryd.prog 6 #[sv g c s n l k t ep fi b, .int .i64 t2, .int .i64 e2, .int .i64 f2, .bool b2] w fun e' w' => e' = .returned (.bool true) ∧ Fr No w w' := by
  obtain ⟨hg1, hg2⟩ := hg
  have HNX := hid (nx_no (b := b) (b2 := b2) (fun h => hm h.1 : ¬ (mayS g c s n l k t ep fi ∧ mayS (g + 1) c s n l k t2 e2 f2)))
  obtain ⟨W, hW⟩ : ∃ W, w.alloc (sbx g c s n l k t ep fi b) = W := ⟨_, rfl⟩
  obtain ⟨X, hX⟩ : ∃ X, w.heap.size = X := ⟨_, rfl⟩
  have FWW := hid (show Fr No w W by rw [← hW]; exact (Fr.refl No w).alloc _)
  have HB := hid (show Blk W X 25 #[.int .i64 g, .int .i64 c, .int .i64 s, .int .i64 n, .int .i64 l, .int .i64 k, .int .i64 t, .int .i64 ep, .int .i64 fi, .bool b] by rw [← hW, ← hX]; exact Blk.new w _ _)
  have HM := hid hm
  have HSS := hid hs
  have HTC := hid (show ∀ w', Fr No w w' → TabAt w' from fun w' f => hT.fr f (fun h => h))
  clear hm hs hT
  have x0 : W.cell? ⟨X, 0, none⟩ = some (.int .i64 g) := HB.out.cell 0
  have x1 : W.cell? ⟨X, 1, none⟩ = some (.int .i64 c) := HB.out.cell 1
  have x2 : W.cell? ⟨X, 2, none⟩ = some (.int .i64 s) := HB.out.cell 2
  have x3 : W.cell? ⟨X, 3, none⟩ = some (.int .i64 n) := HB.out.cell 3
  have x4 : W.cell? ⟨X, 4, none⟩ = some (.int .i64 l) := HB.out.cell 4
  have x5 : W.cell? ⟨X, 5, none⟩ = some (.int .i64 k) := HB.out.cell 5
  have x6 : W.cell? ⟨X, 6, none⟩ = some (.int .i64 t) := HB.out.cell 6
  have x7 : W.cell? ⟨X, 7, none⟩ = some (.int .i64 ep) := HB.out.cell 7
  have x8 : W.cell? ⟨X, 8, none⟩ = some (.int .i64 fi) := HB.out.cell 8
  have x9 : W.cell? ⟨X, 9, none⟩ = some (.bool b) := HB.out.cell 9
  go_enter Tryd.func6, Tryd.ntmps6
  go_upto_region 2 with (first | (go_at_call 24; go_loud (refine (next_none g c s n l k t ep fi b t2 e2 f2 b2 _ HSS.out HNX.out).mono ?_; rintro e' w2 ⟨rfl, f⟩; replace FWW := hid (FWW.out.trans f); replace HB := hid (Blk.fr HB.out f (fun h => h)); clear f x0 x1 x2 x3 x4 x5 x6 x7 x8 x9)) | (refine st_S rfl (.tmp 11) (.tmp 21) rfl w2.heap.size rfl rfl (by simp [Value.oneCell']) (Blk.new w2 _ _) rfl ?_; intro w3 HD0 f3; have f : Fr No w2 w3 := ((Fr.refl No w2).alloc _).step f3 (fun i hi e => by omega); replace FWW := hid (FWW.out.trans f); replace HB := hid (Blk.fr HB.out f (fun h => h)); have HN := hid (show Blk w3 w2.heap.size 25 #[.int .i64 0, .int .i64 0, .int .i64 0, .int .i64 0, .int .i64 0, .int .i64 0, .int .i64 0, .int .i64 0, .int .i64 0, .bool false] from HD0); clear f f3 HD0; have x0 : w3.cell? ⟨X, 0, none⟩ = some (.int .i64 g) := HB.out.cell 0; have x1 : w3.cell? ⟨X, 1, none⟩ = some (.int .i64 c) := HB.out.cell 1; have x2 : w3.cell? ⟨X, 2, none⟩ = some (.int .i64 s) := HB.out.cell 2; have x3 : w3.cell? ⟨X, 3, none⟩ = some (.int .i64 n) := HB.out.cell 3; have x4 : w3.cell? ⟨X, 4, none⟩ = some (.int .i64 l) := HB.out.cell 4; have x5 : w3.cell? ⟨X, 5, none⟩ = some (.int .i64 k) := HB.out.cell 5; have x6 : w3.cell? ⟨X, 6, none⟩ = some (.int .i64 t) := HB.out.cell 6; have x7 : w3.cell? ⟨X, 7, none⟩ = some (.int .i64 ep) := HB.out.cell 7; have x8 : w3.cell? ⟨X, 8, none⟩ = some (.int .i64 fi) := HB.out.cell 8; have x9 : w3.cell? ⟨X, 9, none⟩ = some (.bool b) := HB.out.cell 9))
  obtain ⟨D, hD⟩ : ∃ D, w2.heap.size = D := ⟨_, rfl⟩
  rw [hD] at HN ⊢
  clear hD
  skip
  have HXE := hid (show X ≠ w3.heap.size ∧ D ≠ w3.heap.size ∧ w.heap.size ≤ w3.heap.size by have := Blk.lt HB.out; have := Blk.lt HN.out; have := FWW.out.size; omega)
  go_upto_region 3 with (refine st_S rfl (.tmp 13) (.tmp 29) rfl w3.heap.size rfl rfl (by simp [Value.oneCell']) (Blk.new w3 _ _) rfl ?_; intro w4 HD0 f3; have f : Fr No w3 w4 := ((Fr.refl No w3).alloc _).step f3 (fun i hi e => by omega); replace FWW := hid (FWW.out.trans f); replace HB := hid (Blk.fr HB.out f (fun h => h)); replace HN := hid (Blk.fr HN.out f (fun h => h)); have HE := hid (show Blk w4 w3.heap.size 25 #[.int .i64 0, .int .i64 c, .int .i64 s, .int .i64 n, .int .i64 l, .int .i64 k, .int .i64 t2, .int .i64 e2, .int .i64 f2, .bool b2] from HD0); clear f f3 HD0 x0 x1 x2 x3 x4 x5 x6 x7 x8 x9; have x0 : w4.cell? ⟨X, 0, none⟩ = some (.int .i64 g) := HB.out.cell 0; have x1 : w4.cell? ⟨X, 1, none⟩ = some (.int .i64 c) := HB.out.cell 1; have x2 : w4.cell? ⟨X, 2, none⟩ = some (.int .i64 s) := HB.out.cell 2; have x3 : w4.cell? ⟨X, 3, none⟩ = some (.int .i64 n) := HB.out.cell 3; have x4 : w4.cell? ⟨X, 4, none⟩ = some (.int .i64 l) := HB.out.cell 4; have x5 : w4.cell? ⟨X, 5, none⟩ = some (.int .i64 k) := HB.out.cell 5; have x6 : w4.cell? ⟨X, 6, none⟩ = some (.int .i64 t) := HB.out.cell 6; have x7 : w4.cell? ⟨X, 7, none⟩ = some (.int .i64 ep) := HB.out.cell 7; have x8 : w4.cell? ⟨X, 8, none⟩ = some (.int .i64 fi) := HB.out.cell 8; have x9 : w4.cell? ⟨X, 9, none⟩ = some (.bool b) := HB.out.cell 9)
  obtain ⟨E, hE⟩ : ∃ E, w3.heap.size = E := ⟨_, rfl⟩
  rw [hE] at HE HXE ⊢
  clear hE
  have HEW := hid HXE.out.2.2
  go_upto_region 5 with fail
  go_wp2_with (first | (go_at_call 15; go_loud (refine (lives_ok _ (HTC.out _ FWW.out)).mono ?_; rintro e' w6 ⟨rfl, f⟩; replace FWW := hid (FWW.out.trans f); replace HB := hid (Blk.fr HB.out f (fun h => h)); replace HN := hid (Blk.fr HN.out f (fun h => h)); replace HE := hid (Blk.fr HE.out f (fun h => h)); clear f x0 x1 x2 x3 x4 x5 x6 x7 x8 x9; have x0 : w6.cell? ⟨X, 0, none⟩ = some (.int .i64 g) := HB.out.cell 0; have x1 : w6.cell? ⟨X, 1, none⟩ = some (.int .i64 c) := HB.out.cell 1; have x2 : w6.cell? ⟨X, 2, none⟩ = some (.int .i64 s) := HB.out.cell 2; have x3 : w6.cell? ⟨X, 3, none⟩ = some (.int .i64 n) := HB.out.cell 3; have x4 : w6.cell? ⟨X, 4, none⟩ = some (.int .i64 l) := HB.out.cell 4; have x5 : w6.cell? ⟨X, 5, none⟩ = some (.int .i64 k) := HB.out.cell 5; have x6 : w6.cell? ⟨X, 6, none⟩ = some (.int .i64 t) := HB.out.cell 6; have x7 : w6.cell? ⟨X, 7, none⟩ = some (.int .i64 ep) := HB.out.cell 7; have x8 : w6.cell? ⟨X, 8, none⟩ = some (.int .i64 fi) := HB.out.cell 8; have x9 : w6.cell? ⟨X, 9, none⟩ = some (.bool b) := HB.out.cell 9)) | (go_at_call 17; go_loud ((with_reducible refine (rmayS_ok g c s n l k t ep fi b _ HSS.out).mono ?_); rintro e' w7 ⟨rfl, f⟩; rw [decide_eq_false HM.out]; replace FWW := hid (FWW.out.trans f); replace HB := hid (Blk.fr HB.out f (fun h => h)); replace HN := hid (Blk.fr HN.out f (fun h => h)); replace HE := hid (Blk.fr HE.out f (fun h => h)); clear f; have n0 : w7.cell? ⟨D, 0, none⟩ = some (.int .i64 0) := HN.out.cell 0; have n1 : w7.cell? ⟨D, 1, none⟩ = some (.int .i64 0) := HN.out.cell 1; have n2 : w7.cell? ⟨D, 2, none⟩ = some (.int .i64 0) := HN.out.cell 2; have n3 : w7.cell? ⟨D, 3, none⟩ = some (.int .i64 0) := HN.out.cell 3; have n4 : w7.cell? ⟨D, 4, none⟩ = some (.int .i64 0) := HN.out.cell 4; have n5 : w7.cell? ⟨D, 5, none⟩ = some (.int .i64 0) := HN.out.cell 5; have n6 : w7.cell? ⟨D, 6, none⟩ = some (.int .i64 0) := HN.out.cell 6; have n7 : w7.cell? ⟨D, 7, none⟩ = some (.int .i64 0) := HN.out.cell 7; have n8 : w7.cell? ⟨D, 8, none⟩ = some (.int .i64 0) := HN.out.cell 8; have n9 : w7.cell? ⟨D, 9, none⟩ = some (.bool false) := HN.out.cell 9; have e0 : w7.cell? ⟨E, 0, none⟩ = some (.int .i64 0) := HE.out.cell 0; have ec1 : w7.cell? ⟨E, 1, none⟩ = some (.int .i64 c) := HE.out.cell 1; have ec2 : w7.cell? ⟨E, 2, none⟩ = some (.int .i64 s) := HE.out.cell 2; have ec3 : w7.cell? ⟨E, 3, none⟩ = some (.int .i64 n) := HE.out.cell 3; have ec4 : w7.cell? ⟨E, 4, none⟩ = some (.int .i64 l) := HE.out.cell 4; have ec5 : w7.cell? ⟨E, 5, none⟩ = some (.int .i64 k) := HE.out.cell 5; have ec6 : w7.cell? ⟨E, 6, none⟩ = some (.int .i64 t2) := HE.out.cell 6; have ec7 : w7.cell? ⟨E, 7, none⟩ = some (.int .i64 e2) := HE.out.cell 7; have ec8 : w7.cell? ⟨E, 8, none⟩ = some (.int .i64 f2) := HE.out.cell 8; have ec9 : w7.cell? ⟨E, 9, none⟩ = some (.bool b2) := HE.out.cell 9)))
  go_ret
  exact ⟨rfl, FWW.out⟩
set_option maxRecDepth 100000 in
set_option maxHeartbeats 4000000 in
theorem nexts_f (g c s n l k t ep fi : Int) (b : Bool) (t2 e2 f2 : Int) (b2 : Bool) (w : World) (hs : -9223372036854775808 ≤ s ∧ s ≤ 9223372036854775807) (hg : -9223372036854775808 ≤ g ∧ g ≤ 9223372036854775807) (hm : ¬ mayS g c s n l k t ep fi) (hl : ¬ g < 1099511627776) (hT : TabAt w) : Calls Tryd.prog 6 #[sv g c s n l k t ep fi b, .int .i64 t2, .int .i64 e2, .int .i64 f2, .bool b2] w fun e' w' => e' = .returned (.bool true) ∧ Fr No w w' := by
  obtain ⟨hg1, hg2⟩ := hg
  have HNX := hid (nx_no (b := b) (b2 := b2) (fun h => hm h.1 : ¬ (mayS g c s n l k t ep fi ∧ mayS (g + 1) c s n l k t2 e2 f2)))
  obtain ⟨W, hW⟩ : ∃ W, w.alloc (sbx g c s n l k t ep fi b) = W := ⟨_, rfl⟩
  obtain ⟨X, hX⟩ : ∃ X, w.heap.size = X := ⟨_, rfl⟩
  have FWW := hid (show Fr No w W by rw [← hW]; exact (Fr.refl No w).alloc _)
  have HB := hid (show Blk W X 25 #[.int .i64 g, .int .i64 c, .int .i64 s, .int .i64 n, .int .i64 l, .int .i64 k, .int .i64 t, .int .i64 ep, .int .i64 fi, .bool b] by rw [← hW, ← hX]; exact Blk.new w _ _)
  have HM := hid hm
  have HSS := hid hs
  have HTC := hid (show ∀ w', Fr No w w' → TabAt w' from fun w' f => hT.fr f (fun h => h))
  clear hm hs hT
  have x0 : W.cell? ⟨X, 0, none⟩ = some (.int .i64 g) := HB.out.cell 0
  have x1 : W.cell? ⟨X, 1, none⟩ = some (.int .i64 c) := HB.out.cell 1
  have x2 : W.cell? ⟨X, 2, none⟩ = some (.int .i64 s) := HB.out.cell 2
  have x3 : W.cell? ⟨X, 3, none⟩ = some (.int .i64 n) := HB.out.cell 3
  have x4 : W.cell? ⟨X, 4, none⟩ = some (.int .i64 l) := HB.out.cell 4
  have x5 : W.cell? ⟨X, 5, none⟩ = some (.int .i64 k) := HB.out.cell 5
  have x6 : W.cell? ⟨X, 6, none⟩ = some (.int .i64 t) := HB.out.cell 6
  have x7 : W.cell? ⟨X, 7, none⟩ = some (.int .i64 ep) := HB.out.cell 7
  have x8 : W.cell? ⟨X, 8, none⟩ = some (.int .i64 fi) := HB.out.cell 8
  have x9 : W.cell? ⟨X, 9, none⟩ = some (.bool b) := HB.out.cell 9
  go_enter Tryd.func6, Tryd.ntmps6
  go_upto_region 2 with (first | (go_at_call 24; go_loud (refine (next_none g c s n l k t ep fi b t2 e2 f2 b2 _ HSS.out HNX.out).mono ?_; rintro e' w2 ⟨rfl, f⟩; replace FWW := hid (FWW.out.trans f); replace HB := hid (Blk.fr HB.out f (fun h => h)); clear f x0 x1 x2 x3 x4 x5 x6 x7 x8 x9)) | (refine st_S rfl (.tmp 11) (.tmp 21) rfl w2.heap.size rfl rfl (by simp [Value.oneCell']) (Blk.new w2 _ _) rfl ?_; intro w3 HD0 f3; have f : Fr No w2 w3 := ((Fr.refl No w2).alloc _).step f3 (fun i hi e => by omega); replace FWW := hid (FWW.out.trans f); replace HB := hid (Blk.fr HB.out f (fun h => h)); have HN := hid (show Blk w3 w2.heap.size 25 #[.int .i64 0, .int .i64 0, .int .i64 0, .int .i64 0, .int .i64 0, .int .i64 0, .int .i64 0, .int .i64 0, .int .i64 0, .bool false] from HD0); clear f f3 HD0; have x0 : w3.cell? ⟨X, 0, none⟩ = some (.int .i64 g) := HB.out.cell 0; have x1 : w3.cell? ⟨X, 1, none⟩ = some (.int .i64 c) := HB.out.cell 1; have x2 : w3.cell? ⟨X, 2, none⟩ = some (.int .i64 s) := HB.out.cell 2; have x3 : w3.cell? ⟨X, 3, none⟩ = some (.int .i64 n) := HB.out.cell 3; have x4 : w3.cell? ⟨X, 4, none⟩ = some (.int .i64 l) := HB.out.cell 4; have x5 : w3.cell? ⟨X, 5, none⟩ = some (.int .i64 k) := HB.out.cell 5; have x6 : w3.cell? ⟨X, 6, none⟩ = some (.int .i64 t) := HB.out.cell 6; have x7 : w3.cell? ⟨X, 7, none⟩ = some (.int .i64 ep) := HB.out.cell 7; have x8 : w3.cell? ⟨X, 8, none⟩ = some (.int .i64 fi) := HB.out.cell 8; have x9 : w3.cell? ⟨X, 9, none⟩ = some (.bool b) := HB.out.cell 9))
  obtain ⟨D, hD⟩ : ∃ D, w2.heap.size = D := ⟨_, rfl⟩
  rw [hD] at HN ⊢
  clear hD
  skip
  have HXE := hid (show X ≠ w3.heap.size ∧ D ≠ w3.heap.size ∧ w.heap.size ≤ w3.heap.size by have := Blk.lt HB.out; have := Blk.lt HN.out; have := FWW.out.size; omega)
  go_upto_region 3 with (refine st_S rfl (.tmp 13) (.tmp 29) rfl w3.heap.size rfl rfl (by simp [Value.oneCell']) (Blk.new w3 _ _) rfl ?_; intro w4 HD0 f3; have f : Fr No w3 w4 := ((Fr.refl No w3).alloc _).step f3 (fun i hi e => by omega); replace FWW := hid (FWW.out.trans f); replace HB := hid (Blk.fr HB.out f (fun h => h)); replace HN := hid (Blk.fr HN.out f (fun h => h)); have HE := hid (show Blk w4 w3.heap.size 25 #[.int .i64 0, .int .i64 c, .int .i64 s, .int .i64 n, .int .i64 l, .int .i64 k, .int .i64 t2, .int .i64 e2, .int .i64 f2, .bool b2] from HD0); clear f f3 HD0 x0 x1 x2 x3 x4 x5 x6 x7 x8 x9; have x0 : w4.cell? ⟨X, 0, none⟩ = some (.int .i64 g) := HB.out.cell 0; have x1 : w4.cell? ⟨X, 1, none⟩ = some (.int .i64 c) := HB.out.cell 1; have x2 : w4.cell? ⟨X, 2, none⟩ = some (.int .i64 s) := HB.out.cell 2; have x3 : w4.cell? ⟨X, 3, none⟩ = some (.int .i64 n) := HB.out.cell 3; have x4 : w4.cell? ⟨X, 4, none⟩ = some (.int .i64 l) := HB.out.cell 4; have x5 : w4.cell? ⟨X, 5, none⟩ = some (.int .i64 k) := HB.out.cell 5; have x6 : w4.cell? ⟨X, 6, none⟩ = some (.int .i64 t) := HB.out.cell 6; have x7 : w4.cell? ⟨X, 7, none⟩ = some (.int .i64 ep) := HB.out.cell 7; have x8 : w4.cell? ⟨X, 8, none⟩ = some (.int .i64 fi) := HB.out.cell 8; have x9 : w4.cell? ⟨X, 9, none⟩ = some (.bool b) := HB.out.cell 9)
  obtain ⟨E, hE⟩ : ∃ E, w3.heap.size = E := ⟨_, rfl⟩
  rw [hE] at HE HXE ⊢
  clear hE
  have HEW := hid HXE.out.2.2
  go_upto_region 5 with fail
  go_wp2_with (first | (go_at_call 15; go_loud (refine (lives_ok _ (HTC.out _ FWW.out)).mono ?_; rintro e' w6 ⟨rfl, f⟩; replace FWW := hid (FWW.out.trans f); replace HB := hid (Blk.fr HB.out f (fun h => h)); replace HN := hid (Blk.fr HN.out f (fun h => h)); replace HE := hid (Blk.fr HE.out f (fun h => h)); clear f x0 x1 x2 x3 x4 x5 x6 x7 x8 x9; have x0 : w6.cell? ⟨X, 0, none⟩ = some (.int .i64 g) := HB.out.cell 0; have x1 : w6.cell? ⟨X, 1, none⟩ = some (.int .i64 c) := HB.out.cell 1; have x2 : w6.cell? ⟨X, 2, none⟩ = some (.int .i64 s) := HB.out.cell 2; have x3 : w6.cell? ⟨X, 3, none⟩ = some (.int .i64 n) := HB.out.cell 3; have x4 : w6.cell? ⟨X, 4, none⟩ = some (.int .i64 l) := HB.out.cell 4; have x5 : w6.cell? ⟨X, 5, none⟩ = some (.int .i64 k) := HB.out.cell 5; have x6 : w6.cell? ⟨X, 6, none⟩ = some (.int .i64 t) := HB.out.cell 6; have x7 : w6.cell? ⟨X, 7, none⟩ = some (.int .i64 ep) := HB.out.cell 7; have x8 : w6.cell? ⟨X, 8, none⟩ = some (.int .i64 fi) := HB.out.cell 8; have x9 : w6.cell? ⟨X, 9, none⟩ = some (.bool b) := HB.out.cell 9)) | (go_at_call 17; go_loud ((with_reducible refine (rmayS_ok g c s n l k t ep fi b _ HSS.out).mono ?_); rintro e' w7 ⟨rfl, f⟩; rw [decide_eq_false HM.out]; replace FWW := hid (FWW.out.trans f); replace HB := hid (Blk.fr HB.out f (fun h => h)); replace HN := hid (Blk.fr HN.out f (fun h => h)); replace HE := hid (Blk.fr HE.out f (fun h => h)); clear f; have n0 : w7.cell? ⟨D, 0, none⟩ = some (.int .i64 0) := HN.out.cell 0; have n1 : w7.cell? ⟨D, 1, none⟩ = some (.int .i64 0) := HN.out.cell 1; have n2 : w7.cell? ⟨D, 2, none⟩ = some (.int .i64 0) := HN.out.cell 2; have n3 : w7.cell? ⟨D, 3, none⟩ = some (.int .i64 0) := HN.out.cell 3; have n4 : w7.cell? ⟨D, 4, none⟩ = some (.int .i64 0) := HN.out.cell 4; have n5 : w7.cell? ⟨D, 5, none⟩ = some (.int .i64 0) := HN.out.cell 5; have n6 : w7.cell? ⟨D, 6, none⟩ = some (.int .i64 0) := HN.out.cell 6; have n7 : w7.cell? ⟨D, 7, none⟩ = some (.int .i64 0) := HN.out.cell 7; have n8 : w7.cell? ⟨D, 8, none⟩ = some (.int .i64 0) := HN.out.cell 8; have n9 : w7.cell? ⟨D, 9, none⟩ = some (.bool false) := HN.out.cell 9; have e0 : w7.cell? ⟨E, 0, none⟩ = some (.int .i64 0) := HE.out.cell 0; have ec1 : w7.cell? ⟨E, 1, none⟩ = some (.int .i64 c) := HE.out.cell 1; have ec2 : w7.cell? ⟨E, 2, none⟩ = some (.int .i64 s) := HE.out.cell 2; have ec3 : w7.cell? ⟨E, 3, none⟩ = some (.int .i64 n) := HE.out.cell 3; have ec4 : w7.cell? ⟨E, 4, none⟩ = some (.int .i64 l) := HE.out.cell 4; have ec5 : w7.cell? ⟨E, 5, none⟩ = some (.int .i64 k) := HE.out.cell 5; have ec6 : w7.cell? ⟨E, 6, none⟩ = some (.int .i64 t2) := HE.out.cell 6; have ec7 : w7.cell? ⟨E, 7, none⟩ = some (.int .i64 e2) := HE.out.cell 7; have ec8 : w7.cell? ⟨E, 8, none⟩ = some (.int .i64 f2) := HE.out.cell 8; have ec9 : w7.cell? ⟨E, 9, none⟩ = some (.bool b2) := HE.out.cell 9)))
  go_ret
  exact ⟨rfl, FWW.out⟩
theorem nexts_walk (g c s n l k t ep fi : Int) (b : Bool) (t2 e2 f2 : Int) (b2 : Bool) (w : World) (hs : -9223372036854775808 ≤ s ∧ s ≤ 9223372036854775807) (hg : -9223372036854775808 ≤ g ∧ g ≤ 9223372036854775807) (hT : TabAt w) : Calls Tryd.prog 6 #[sv g c s n l k t ep fi b, .int .i64 t2, .int .i64 e2, .int .i64 f2, .bool b2] w fun e' w' => e' = .returned (.bool true) ∧ Fr No w w' := by
  by_cases hm : mayS g c s n l k t ep fi
  · by_cases hn : mayS (g + 1) c s n l k t2 e2 f2
    · exact nexts_a g c s n l k t ep fi b t2 e2 f2 b2 w hs hg hm hn hT
    · by_cases hl : g < 1099511627776
      · exact nexts_b g c s n l k t ep fi b t2 e2 f2 b2 w hs hg hm hn hl hT
      · exact nexts_c g c s n l k t ep fi b t2 e2 f2 b2 w hs hg hm hn hl hT
  · by_cases hl : g < 1099511627776
    · by_cases h1 : 1 ≤ g
      · exact nexts_d g c s n l k t ep fi b t2 e2 f2 b2 w hs hg hm hl h1 hT
      · exact nexts_e g c s n l k t ep fi b t2 e2 f2 b2 w hs hg hm hl h1 hT
    · exact nexts_f g c s n l k t ep fi b t2 e2 f2 b2 w hs hg hm hl hT
end Go.Proofs.YthhhmhgmmbfjhaaDoor.SuT
