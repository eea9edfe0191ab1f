/- SuperStays' walk. Conditions: the table of sums is as its text lays it; the geometry's Seq and the generation are whole numbers of 64 bits; the torn sector reads as bytes. -/
import Derived.Test.YthhhmhgmmbfjhaaDoorSuT
namespace Go.Proofs.YthhhmhgmmbfjhaaDoor.SuV
open Go.RowKit MSep MFrame SuA SuB SuD SuF SuG SuH SuJ SuK SuL SuM SuMd SuN SuP SuQ SuT CrcA CrcM CrcE Kit

theorem st_S_step {ops : Array Oper} {o : Oper} {ac : Act} {w : World} {K : Act → World → Prop} {Q : Exit → Act → World → Prop} {E : Prop} (hgd : o.guard = none) (x y : Operand) (ho : o.op = .store 25 x y) (g : Nat) (hx : ac.eval x = .pointer (some ⟨g, 0, none⟩)) {r : Sp}
    (hy : ac.eval y = spv r) {cs : Array Value} (hg : Blk w g 25 cs) (hsz : cs.size = 10)
    (h : ∀ W', BS W' g r → Fr (fun q => q = g) w W' → K (ac.put o.dst undef) W') :
    if Region.wanted o (yielded ops ac.tmps) = true then Oper.wp Tryd.prog o ac w K Q else E :=
  step_wanted hgd (wp_store_row 25 x y ho g _ hx hy 25 _ hg infoS (hsz.trans rfl) (by simp [Value.oneCell']) (h _ (Blk.setRow hg _) (Fr.setRow (S := fun q => q = g) (Fr.refl _ _) (fun _ => rfl) _)))
theorem fr1d (w : World) (A : Obj) : Fr No w (w.alloc A).drew := (fr1 w A).drew
theorem kfae {a b : World} {o : Obj} (h : Hid (Fr No a b.drew)) : Hid (Fr No a (b.alloc o).drew) := hid (h.out.alloc o)
theorem kcs {b c : World} {p : Addr} {v : Value} {g : Nat} (k : Fr (fun q => q = g) b c) (hn : p.block ≠ g) (h : b.cell? p = some v) : c.cell? p = some v := k.cell_some h hn
theorem kfg {a b c : World} {g : Nat} (hg : a.heap.size ≤ g) (h : Hid (Fr No a b)) (k : Fr (fun q => q = g) b c) : Hid (Fr No a c) := hid (h.out.step k (fun i hi e => absurd hi (by omega)))
theorem copy_lit (g c s n l k t e f : Int) (b : Bool) (w : World) (j : Int) (hs : -9223372036854775808 ≤ s ∧ s ≤ 9223372036854775807) (hm : mayS g c s n l k t e f) (h : g % 2 = j) : Calls Tryd.prog 18 #[sv g c s n l k t e f b] w fun E w' => E = .returned (.int .i64 j) ∧ Fr No w w' := by
  refine (copy_yes g c s n l k t e f b w hs hm).mono ?_
  rintro E w' ⟨hh, fr⟩
  rw [h] at hh
  exact ⟨hh, fr⟩
set_option maxRecDepth 100000 in
set_option maxHeartbeats 4000000 in
theorem stays_no (g c s n l k t ep fi : Int) (b : Bool) (A : Option Addr) (ln cp : Nat) (w : World) (hs : -9223372036854775808 ≤ s ∧ s ≤ 9223372036854775807) (hn : SuL.nx ⟨g, c, s, n, l, k, t, ep, fi, b⟩ (wrap64 (1 - t)) ep fi b = none) (hT : TabAt w) : Calls Tryd.prog 7 #[sv g c s n l k t ep fi b, .slice A ln cp] w fun e' w' => e' = .returned (.bool true) ∧ Fr No w w' := by
  obtain ⟨W, hW⟩ : ∃ W, w.alloc (sbx g c s n l k t ep fi b) = W := ⟨_, rfl⟩
  obtain ⟨X, hX⟩ : ∃ X, w.heap.size = X := ⟨_, rfl⟩
  have FWW := hid (show Fr No w W by rw [← hW]; exact (Fr.refl No w).alloc _)
  have HB := hid (show Blk W X 25 #[.int .i64 g, .int .i64 c, .int .i64 s, .int .i64 n, .int .i64 l, .int .i64 k, .int .i64 t, .int .i64 ep, .int .i64 fi, .bool b] by rw [← hW, ← hX]; exact Blk.new w _ _)
  have x0 : W.cell? ⟨X, 0, none⟩ = some (.int .i64 g) := HB.out.cell 0
  have x1 : W.cell? ⟨X, 1, none⟩ = some (.int .i64 c) := HB.out.cell 1
  have x2 : W.cell? ⟨X, 2, none⟩ = some (.int .i64 s) := HB.out.cell 2
  have x3 : W.cell? ⟨X, 3, none⟩ = some (.int .i64 n) := HB.out.cell 3
  have x4 : W.cell? ⟨X, 4, none⟩ = some (.int .i64 l) := HB.out.cell 4
  have x5 : W.cell? ⟨X, 5, none⟩ = some (.int .i64 k) := HB.out.cell 5
  have x6 : W.cell? ⟨X, 6, none⟩ = some (.int .i64 t) := HB.out.cell 6
  have x7 : W.cell? ⟨X, 7, none⟩ = some (.int .i64 ep) := HB.out.cell 7
  have x8 : W.cell? ⟨X, 8, none⟩ = some (.int .i64 fi) := HB.out.cell 8
  have x9 : W.cell? ⟨X, 9, none⟩ = some (.bool b) := HB.out.cell 9
  have HTC := hid (show ∀ w', Fr No w w' → TabAt w' from fun w' f => hT.fr f (fun h => h))
  have HSS := hid hs
  have HNX := hid hn
  clear hs hn hT
  go_enter Tryd.func7, Tryd.ntmps7
  go_wp2_with (first | (go_at_call 24; go_loud (refine (next_none g c s n l k t ep fi b (wrap64 (1 - t)) ep fi b _ HSS.out HNX.out).mono ?_; rintro e' w2 ⟨rfl, f⟩; replace FWW := hid (FWW.out.trans f); clear f x0 x1 x2 x3 x4 x5 x6 x7 x8 x9)) | (refine st_S rfl (.tmp 5) (.tmp 30) rfl w2.heap.size rfl rfl (by simp [Value.oneCell']) (Blk.new w2 _ _) rfl ?_; intro w3 HD0 f3; have f : Fr No w2 w3 := ((Fr.refl No w2).alloc _).step f3 (fun i hi e => by omega); replace FWW := hid (FWW.out.trans f); clear f f3 HD0) | (go_at_call 15; go_loud (refine (lives_ok _ (HTC.out _ FWW.out)).mono ?_; rintro e' w6 ⟨rfl, f⟩; replace FWW := hid (FWW.out.trans f); clear f)))
  go_ret
  exact ⟨rfl, FWW.out⟩
set_option maxRecDepth 100000 in
set_option maxHeartbeats 8000000 in
theorem stays_1n (g c s n l k t ep fi : Int) (b : Bool) (gn tn : Int) (A : Option Addr) (ln cp : Nat) (zt : List Int) (w : World) (hgn : wrap64 (g + 1) = gn ∧ wrap64 (1 - t) = tn) (hn : SuL.nx ⟨g, c, s, n, l, k, t, ep, fi, b⟩ (wrap64 (1 - t)) ep fi b = some ⟨gn, c, s, n, l, k, tn, ep, fi, b⟩) (hms : mayS g c s n l k t ep fi) (hmn : mayS gn c s n l k tn ep fi) (hp : gn % 2 = 1) {Zs Zn : List Int} (hzs : seal_ (eTo g c s n l k t ep fi 1 (if b then 1 else 0) 11) = Zs) (hzn : seal_ (eTo gn c s n l k tn ep fi 1 (if b then 1 else 0) 11) = Zn) (ht : IsB w A ln cp zt) (hdt : decR zt = none) (hp1 : pkP (dec Zs) (dec zt) = some ⟨g, c, s, n, l, k, t, ep, fi, b⟩) (hp2 : pkP (dec Zs) (dec Zn) = some ⟨gn, c, s, n, l, k, tn, ep, fi, b⟩) (hT : TabAt w) : Calls Tryd.prog 7 #[sv g c s n l k t ep fi b, .slice A ln cp] w fun e' w' => e' = .returned (.bool true) ∧ Fr No w w' := by
  obtain ⟨W, hW⟩ : ∃ W, w.alloc (sbx g c s n l k t ep fi b) = W := ⟨_, rfl⟩
  obtain ⟨X, hX⟩ : ∃ X, w.heap.size = X := ⟨_, rfl⟩
  have FWW := hid (show Fr No w W by rw [← hW]; exact (Fr.refl No w).alloc _)
  have HB := hid (show Blk W X 25 #[.int .i64 g, .int .i64 c, .int .i64 s, .int .i64 n, .int .i64 l, .int .i64 k, .int .i64 t, .int .i64 ep, .int .i64 fi, .bool b] by rw [← hW, ← hX]; exact Blk.new w _ _)
  have x0 : W.cell? ⟨X, 0, none⟩ = some (.int .i64 g) := HB.out.cell 0
  have x1 : W.cell? ⟨X, 1, none⟩ = some (.int .i64 c) := HB.out.cell 1
  have x2 : W.cell? ⟨X, 2, none⟩ = some (.int .i64 s) := HB.out.cell 2
  have x3 : W.cell? ⟨X, 3, none⟩ = some (.int .i64 n) := HB.out.cell 3
  have x4 : W.cell? ⟨X, 4, none⟩ = some (.int .i64 l) := HB.out.cell 4
  have x5 : W.cell? ⟨X, 5, none⟩ = some (.int .i64 k) := HB.out.cell 5
  have x6 : W.cell? ⟨X, 6, none⟩ = some (.int .i64 t) := HB.out.cell 6
  have x7 : W.cell? ⟨X, 7, none⟩ = some (.int .i64 ep) := HB.out.cell 7
  have x8 : W.cell? ⟨X, 8, none⟩ = some (.int .i64 fi) := HB.out.cell 8
  have x9 : W.cell? ⟨X, 9, none⟩ = some (.bool b) := HB.out.cell 9
  have HTC := hid (show ∀ w', Fr No w w' → TabAt w' from fun w' f => hT.fr f (fun h => h))
  have HSS := hid (may_s hms)
  rw [hgn.2] at hn
  have HGN := hgn.2
  have HNX := hid hn
  have HMS := hid hms
  have HMN := hid hmn
  have HP := hid hp
  have HZS := hid hzs
  have HZN := hid hzn
  have IT := hid (ht.fr FWW.out)
  have HDT := hid hdt
  have HP1 := hid hp1
  have HP2 := hid hp2
  clear hT hn hms hmn hp hzs hzn ht hdt hp1 hp2 hgn
  go_enter Tryd.func7, Tryd.ntmps7
  go_upto_region 2 with (first | (go_at_call 24; go_loud (refine (next_some g c s n l k t ep fi b tn ep fi b _ HSS.out HNX.out).mono ?_; rintro e' w2 ⟨rfl, f⟩; replace FWW := hid (FWW.out.trans f); replace HB := hid (Blk.fr HB.out f (fun h => h)); replace IT := hid (IT.out.fr f); clear f x0 x1 x2 x3 x4 x5 x6 x7 x8 x9)) | (refine st_S rfl (.tmp 5) (.tmp 30) rfl w2.heap.size rfl rfl (by simp [Value.oneCell']) (Blk.new w2 _ _) rfl ?_; intro w3 HD0 f3; have f : Fr No w2 w3 := ((Fr.refl No w2).alloc _).step f3 (fun i hi e => by omega); replace FWW := hid (FWW.out.trans f); replace HB := hid (Blk.fr HB.out f (fun h => h)); replace IT := hid (IT.out.fr f); have BN := hid (show Blk w3 w2.heap.size 25 #[.int .i64 gn, .int .i64 c, .int .i64 s, .int .i64 n, .int .i64 l, .int .i64 k, .int .i64 tn, .int .i64 ep, .int .i64 fi, .bool b] from HD0); clear f f3 HD0))
  obtain ⟨D, hD⟩ : ∃ D, w2.heap.size = D := ⟨_, rfl⟩
  rw [hD] at BN ⊢
  clear hD HGN
  go_upto_region 5 with (first | (go_at_call 15; go_loud (refine (lives_ok _ (HTC.out _ FWW.out)).mono ?_; rintro e' w4 ⟨rfl, f⟩; replace FWW := hid (FWW.out.trans f); replace HB := hid (Blk.fr HB.out f (fun h => h)); replace IT := hid (IT.out.fr f); replace BN := hid (Blk.fr BN.out f (fun h => h)); clear f; have x0 : w4.cell? ⟨X, 0, none⟩ = some (.int .i64 g) := Blk.cell HB.out 0; have x1 : w4.cell? ⟨X, 1, none⟩ = some (.int .i64 c) := Blk.cell HB.out 1; have x2 : w4.cell? ⟨X, 2, none⟩ = some (.int .i64 s) := Blk.cell HB.out 2; have x3 : w4.cell? ⟨X, 3, none⟩ = some (.int .i64 n) := Blk.cell HB.out 3; have x4 : w4.cell? ⟨X, 4, none⟩ = some (.int .i64 l) := Blk.cell HB.out 4; have x5 : w4.cell? ⟨X, 5, none⟩ = some (.int .i64 k) := Blk.cell HB.out 5; have x6 : w4.cell? ⟨X, 6, none⟩ = some (.int .i64 t) := Blk.cell HB.out 6; have x7 : w4.cell? ⟨X, 7, none⟩ = some (.int .i64 ep) := Blk.cell HB.out 7; have x8 : w4.cell? ⟨X, 8, none⟩ = some (.int .i64 fi) := Blk.cell HB.out 8; have x9 : w4.cell? ⟨X, 9, none⟩ = some (.bool b) := Blk.cell HB.out 9)) | (go_at_call 14; go_loud (refine (enc_in g c s n l k t ep fi b _ HMS.out (HTC.out _ FWW.out)).mono ?_; rintro e' w5 ⟨qa, rfl, hq, f⟩; rw [HZS.out] at hq; have IA := hid hq; replace FWW := hid (FWW.out.trans f); replace HB := hid (Blk.fr HB.out f (fun h => h)); replace IT := hid (IT.out.fr f); replace BN := hid (Blk.fr BN.out f (fun h => h)); clear f hq x0 x1 x2 x3 x4 x5 x6 x7 x8 x9; have d0 : w5.cell? ⟨D, 0, none⟩ = some (.int .i64 gn) := Blk.cell BN.out 0; have d1 : w5.cell? ⟨D, 1, none⟩ = some (.int .i64 c) := Blk.cell BN.out 1; have d2 : w5.cell? ⟨D, 2, none⟩ = some (.int .i64 s) := Blk.cell BN.out 2; have d3 : w5.cell? ⟨D, 3, none⟩ = some (.int .i64 n) := Blk.cell BN.out 3; have d4 : w5.cell? ⟨D, 4, none⟩ = some (.int .i64 l) := Blk.cell BN.out 4; have d5 : w5.cell? ⟨D, 5, none⟩ = some (.int .i64 k) := Blk.cell BN.out 5; have d6 : w5.cell? ⟨D, 6, none⟩ = some (.int .i64 tn) := Blk.cell BN.out 6; have d7 : w5.cell? ⟨D, 7, none⟩ = some (.int .i64 ep) := Blk.cell BN.out 7; have d8 : w5.cell? ⟨D, 8, none⟩ = some (.int .i64 fi) := Blk.cell BN.out 8; have d9 : w5.cell? ⟨D, 9, none⟩ = some (.bool b) := Blk.cell BN.out 9)))
  go_upto_region 8 with (go_at_call 14; go_loud (refine (enc_in gn c s n l k tn ep fi b _ HMN.out (HTC.out _ FWW.out)).mono ?_; rintro e' w6 ⟨qb, rfl, hq, f⟩; rw [HZN.out] at hq; have IB := hid hq; replace FWW := hid (FWW.out.trans f); replace HB := hid (Blk.fr HB.out f (fun h => h)); replace IT := hid (IT.out.fr f); replace BN := hid (Blk.fr BN.out f (fun h => h)); replace IA := hid (IA.out.fr f); clear f hq d0 d1 d2 d3 d4 d5 d6 d7 d8 d9))
  obtain ⟨L, hL⟩ : ∃ L, w6.heap.size = L := ⟨_, rfl⟩
  obtain ⟨w7, hw7⟩ : ∃ w7, w6.alloc (.cells #[.slice (some ⟨qa, 0, none⟩) 128 128, .slice (some ⟨qa, 0, none⟩) 128 128] 26) = w7 := ⟨_, rfl⟩
  have F6 := hid (show Fr No w6 w7 by rw [← hw7]; exact (Fr.refl No w6).alloc _)
  have BL := hid (show Blk w7 L 26 #[.slice (some ⟨qa, 0, none⟩) 128 128, .slice (some ⟨qa, 0, none⟩) 128 128] by rw [← hw7, ← hL]; exact Blk.new w6 _ _)
  have HL6 := hid (show w6.heap.size ≤ L by omega)
  go_upto_region 9 with fail
  try rw [show w6.alloc (Obj.cells #[Value.slice (some ⟨qa, 0, none⟩) 128 128, Value.slice (some ⟨qa, 0, none⟩) 128 128] 26) = w7 from hw7]
  try rw [hL]
  clear hw7 hL
  have d0 : World.cell? _ ⟨D, 0, none⟩ = some (.int .i64 gn) := Blk.cell (Blk.fr BN.out F6.out (fun h => h)) 0
  have d1 : World.cell? _ ⟨D, 1, none⟩ = some (.int .i64 c) := Blk.cell (Blk.fr BN.out F6.out (fun h => h)) 1
  have d2 : World.cell? _ ⟨D, 2, none⟩ = some (.int .i64 s) := Blk.cell (Blk.fr BN.out F6.out (fun h => h)) 2
  have d3 : World.cell? _ ⟨D, 3, none⟩ = some (.int .i64 n) := Blk.cell (Blk.fr BN.out F6.out (fun h => h)) 3
  have d4 : World.cell? _ ⟨D, 4, none⟩ = some (.int .i64 l) := Blk.cell (Blk.fr BN.out F6.out (fun h => h)) 4
  have d5 : World.cell? _ ⟨D, 5, none⟩ = some (.int .i64 k) := Blk.cell (Blk.fr BN.out F6.out (fun h => h)) 5
  have d6 : World.cell? _ ⟨D, 6, none⟩ = some (.int .i64 tn) := Blk.cell (Blk.fr BN.out F6.out (fun h => h)) 6
  have d7 : World.cell? _ ⟨D, 7, none⟩ = some (.int .i64 ep) := Blk.cell (Blk.fr BN.out F6.out (fun h => h)) 7
  have d8 : World.cell? _ ⟨D, 8, none⟩ = some (.int .i64 fi) := Blk.cell (Blk.fr BN.out F6.out (fun h => h)) 8
  have d9 : World.cell? _ ⟨D, 9, none⟩ = some (.bool b) := Blk.cell (Blk.fr BN.out F6.out (fun h => h)) 9
  have hand : bits BinOp.and IntKind.i64 1 1 = 1 := by kernel_rfl
  go_upto_region 10 with (go_at_call 18; go_loud (refine (copy_lit gn c s n l k tn ep fi b _ 1 HSS.out HMN.out HP.out).mono ?_; rintro e' w8 ⟨rfl, f⟩; replace F6 := hid (F6.out.trans f); replace BL := hid (Blk.fr BL.out f (fun h => h)); clear f d0 d1 d2 d3 d4 d5 d6 d7 d8 d9; have l1 : w8.cell? ⟨L, 1, none⟩ = some (.slice (some ⟨qa, 0, none⟩) 128 128) := Blk.cell BL.out 1; have z1 : w8.frozen? ⟨L, 1, none⟩ = false := Blk.frozen BL.out 1))
  clear l1 z1
  replace F6 := hid (F6.out.setCell (p := ⟨L, 1, none⟩) (fun h => absurd h (by have := HL6.out; simp only []; omega)) (.slice A ln cp))
  replace BL := hid (show Blk (w8.setCell ⟨L, 1, none⟩ (.slice A ln cp)) L 26 #[.slice (some ⟨qa, 0, none⟩) 128 128, .slice A ln cp] from Blk.set_ BL.out 1 (.slice A ln cp))
  generalize World.setCell w8 ⟨L, 1, none⟩ (.slice A ln cp) = w9 at F6 BL ⊢
  have l0 : w9.cell? ⟨L, 0, none⟩ = some (.slice (some ⟨qa, 0, none⟩) 128 128) := Blk.cell BL.out 0
  have l1 : w9.cell? ⟨L, 1, none⟩ = some (.slice A ln cp) := Blk.cell BL.out 1
  have hL9 : L < w9.heap.size := Blk.lt BL.out
  have HLR := hid hL9
  go_cut [12, 13] (fun mp e wx => ∃ M : Nat, mp = .pointer (some ⟨M, 0, none⟩) ∧ e = .int .i64 (0) ∧ BS wx M (⟨g, c, s, n, l, k, t, ep, fi, b⟩) ∧ M ≠ L ∧ Fr No w9 wx)
  case first =>
    have FW : Hid (Fr No w9 w9) := hid (Fr.refl No _)
    have FW := kd FW
    refine wp_region_noPanic ?_
    refine wp_region_held_drew (S := (fun W' => W'.cell? ⟨L, 0, none⟩ = some (.slice (some ⟨qa, 0, none⟩) 128 128) ∧ W'.cell? ⟨L, 1, none⟩ = some (.slice A ln cp) ∧ Hid (Fr No w9 W'))) (by kernel_rfl) ?_ (fun hHeld => ?_)
    · (try dsimp only); (first | (go_split_ands; exact ⟨kc f (by assumption), kc f (by assumption), by assumption⟩) | (go_split_ands; exact ⟨(by assumption), (by assumption), by assumption⟩) | (go_split_ands; exact ⟨kc (fr1 _ _) (by assumption), kc (fr1 _ _) (by assumption), kfa (by assumption)⟩) | (go_split_ands; exact ⟨kc (fr1d _ _) (by assumption), kc (fr1d _ _) (by assumption), kfae (by assumption)⟩) | (exact ⟨kcs hf2 (by simp only []; omega) hHeld.1, kcs hf2 (by simp only []; omega) hHeld.2.1, kfg (by omega) FW hf2⟩) | (exact ⟨kcs hf2 (by simp only []; omega) hHeld.1, kcs hf2 (by simp only []; omega) hHeld.2.1, kfg (by omega) hHeld.2.2 hf2⟩) | (go_split_ands; exact ⟨kcs hf2 (by simp only []; omega) (by assumption), kcs hf2 (by simp only []; omega) (by assumption), kfg (by omega) (by assumption) hf2⟩))
    refine wpAnyH_take (i := 0) (v := ?v1) rfl (by kernel_rfl) (by kernel_rfl) (by kernel_rfl) (fun _ _ _ h => h) (Or.inl ⟨by kernel_rfl, ?y1⟩) (by assumption) ?_
    case y1 => (intro w hSw; (try dsimp only at hSw); go_simp; all_goals with_reducible rfl)
    try simp only [Act.put, List.getElem_toArray, List.getElem_cons_zero, List.setIfInBounds_toArray, List.set_cons_zero, List.set_cons_succ]
    refine wpAnyH_take (i := 1) (v := ?v2) rfl (by kernel_rfl) (by kernel_rfl) (by kernel_rfl) (fun _ _ _ h => h) (Or.inl ⟨by kernel_rfl, ?y2⟩) (by assumption) ?_
    case y2 => (intro w hSw; (try dsimp only at hSw); go_simp; all_goals with_reducible rfl)
    try simp only [Act.put, List.getElem_toArray, List.getElem_cons_succ, List.getElem_cons_zero, List.setIfInBounds_toArray, List.set_cons_zero, List.set_cons_succ]
    refine wpAnyH_take (i := 2) (v := ?v3) rfl (by kernel_rfl) (by kernel_rfl) (by kernel_rfl) (fun _ _ _ h => h) (Or.inl ⟨by kernel_rfl, ?y3⟩) (by assumption) ?_
    case y3 => (intro w hSw; (try dsimp only at hSw); go_simp; all_goals with_reducible rfl)
    try simp only [Act.put, List.getElem_toArray, List.getElem_cons_succ, List.getElem_cons_zero, List.setIfInBounds_toArray, List.set_cons_zero, List.set_cons_succ]
    refine wpAnyH_take (i := 3) (v := ?v4) rfl (by kernel_rfl) (by kernel_rfl) (by kernel_rfl) (fun _ _ _ h => h) (Or.inl ⟨by kernel_rfl, ?y4⟩) (by assumption) ?_
    case y4 => (intro w hSw; (try dsimp only at hSw); go_simp; all_goals with_reducible rfl)
    try simp only [Act.put, List.getElem_toArray, List.getElem_cons_succ, List.getElem_cons_zero, List.setIfInBounds_toArray, List.set_cons_zero, List.set_cons_succ]
    refine wpAnyH_take (i := 4) (v := ?v5) rfl (by kernel_rfl) (by kernel_rfl) (by kernel_rfl) (fun _ _ _ h => h) (Or.inl ⟨by kernel_rfl, ?y5⟩) (by assumption) ?_
    case y5 => (intro w hSw; (try dsimp only at hSw); go_simp; all_goals with_reducible rfl)
    try simp only [Act.put, List.getElem_toArray, List.getElem_cons_succ, List.getElem_cons_zero, List.setIfInBounds_toArray, List.set_cons_zero, List.set_cons_succ]
    refine wpAnyH_take (i := 5) (v := ?v6) rfl (by kernel_rfl) (by kernel_rfl) (by kernel_rfl) (fun _ _ _ h => h) (Or.inl ⟨by kernel_rfl, ?y6⟩) (by assumption) ?_
    case y6 => (intro w hSw; (try dsimp only at hSw); go_simp; all_goals with_reducible rfl)
    try simp only [Act.put, List.getElem_toArray, List.getElem_cons_succ, List.getElem_cons_zero, List.setIfInBounds_toArray, List.set_cons_zero, List.set_cons_succ]
    refine wpAnyH_ready (rs := [6, 10]) (by kernel_rfl) (by simp) (AllReadyH.cons rfl (fun K hK => ?_) (AllReadyH.cons rfl (fun K hK => ?_) AllReadyH.nil))
    · go_simp
      go_at_call 22
      refine (pick_ok (some ⟨qa, 0, none⟩) 128 128 Zs A ln cp zt _ (IA.out.fr (F6.out.trans hHeld.2.2.out)) (IT.out.fr (F6.out.trans hHeld.2.2.out)) (HTC.out _ (FWW.out.trans (F6.out.trans hHeld.2.2.out)))).mono ?_
      rintro E0 W1 ⟨he, f⟩
      have FW := kf f hHeld.2.2
      rw [HP1.out] at he
      obtain rfl : E0 = .returned (.tuple #[spv (⟨g, c, s, n, l, k, t, ep, fi, b⟩), .int .i64 (0)]) := he
      (try have MX := hid (Blk.fr MX.out f (fun h => h)))
      (try have hsz1 : w9.heap.size ≤ W1.heap.size := f.size)
      dsimp only
      refine hK.out _ _ ?_ (fun hHeld => ?_)
      · (try dsimp only); (first | (go_split_ands; exact ⟨kc f (by assumption), kc f (by assumption), by assumption⟩) | (go_split_ands; exact ⟨(by assumption), (by assumption), by assumption⟩) | (go_split_ands; exact ⟨kc (fr1 _ _) (by assumption), kc (fr1 _ _) (by assumption), kfa (by assumption)⟩) | (go_split_ands; exact ⟨kc (fr1d _ _) (by assumption), kc (fr1d _ _) (by assumption), kfae (by assumption)⟩) | (exact ⟨kcs hf2 (by simp only []; omega) hHeld.1, kcs hf2 (by simp only []; omega) hHeld.2.1, kfg (by omega) FW hf2⟩) | (exact ⟨kcs hf2 (by simp only []; omega) hHeld.1, kcs hf2 (by simp only []; omega) hHeld.2.1, kfg (by omega) hHeld.2.2 hf2⟩) | (go_split_ands; exact ⟨kcs hf2 (by simp only []; omega) (by assumption), kcs hf2 (by simp only []; omega) (by assumption), kfg (by omega) (by assumption) hf2⟩))
      clear hK K
      try simp only [Act.put, List.getElem_toArray, List.getElem_cons_succ, List.getElem_cons_zero, List.setIfInBounds_toArray, List.set_cons_zero, List.set_cons_succ]
      refine wpAnyH_take (i := 7) (v := ?v7) rfl (by kernel_rfl) (by kernel_rfl) (by kernel_rfl) (fun _ _ _ h => h) (Or.inl ⟨by kernel_rfl, ?y7⟩) (by assumption) ?_
      case y7 => (intro w hSw; (try dsimp only at hSw); go_simp; all_goals with_reducible rfl)
      try simp only [Act.put, List.getElem_toArray, List.getElem_cons_succ, List.getElem_cons_zero, List.setIfInBounds_toArray, List.set_cons_zero, List.set_cons_succ]
      refine wpAnyH_take (i := 8) (v := ?v8) rfl (by kernel_rfl) (by kernel_rfl) (by kernel_rfl) (fun _ _ _ h => h) (Or.inl ⟨by kernel_rfl, ?y8⟩) (by assumption) ?_
      case y8 => (intro w hSw; (try dsimp only at hSw); go_simp; all_goals with_reducible rfl)
      try simp only [Act.put, List.getElem_toArray, List.getElem_cons_succ, List.getElem_cons_zero, List.setIfInBounds_toArray, List.set_cons_zero, List.set_cons_succ]
      refine wpAnyH_take (i := 9) (v := ?v9) rfl (by kernel_rfl) (by kernel_rfl) (by kernel_rfl) (fun _ _ _ h => h) (Or.inl ⟨by kernel_rfl, ?y9⟩) (by assumption) ?_
      case y9 => (intro w hSw; (try dsimp only at hSw); go_simp; all_goals with_reducible rfl)
      try simp only [Act.put, List.getElem_toArray, List.getElem_cons_succ, List.getElem_cons_zero, List.setIfInBounds_toArray, List.set_cons_zero, List.set_cons_succ]
      refine wpAnyH_ready (rs := [10]) (by kernel_rfl) (by simp) (AllReadyH.cons rfl (fun K hK => ?_) AllReadyH.nil)
      go_simp
      refine hK.out _ _ ?_ (fun hHeld => ?_)
      · (try dsimp only); (first | (go_split_ands; exact ⟨kc f (by assumption), kc f (by assumption), by assumption⟩) | (go_split_ands; exact ⟨(by assumption), (by assumption), by assumption⟩) | (go_split_ands; exact ⟨kc (fr1 _ _) (by assumption), kc (fr1 _ _) (by assumption), kfa (by assumption)⟩) | (go_split_ands; exact ⟨kc (fr1d _ _) (by assumption), kc (fr1d _ _) (by assumption), kfae (by assumption)⟩) | (exact ⟨kcs hf2 (by simp only []; omega) hHeld.1, kcs hf2 (by simp only []; omega) hHeld.2.1, kfg (by omega) FW hf2⟩) | (exact ⟨kcs hf2 (by simp only []; omega) hHeld.1, kcs hf2 (by simp only []; omega) hHeld.2.1, kfg (by omega) hHeld.2.2 hf2⟩) | (go_split_ands; exact ⟨kcs hf2 (by simp only []; omega) (by assumption), kcs hf2 (by simp only []; omega) (by assumption), kfg (by omega) (by assumption) hf2⟩))
      clear hK K
      try simp only [Act.put, List.getElem_toArray, List.getElem_cons_succ, List.getElem_cons_zero, List.setIfInBounds_toArray, List.set_cons_zero, List.set_cons_succ]
      have MX := hid (Blk.new W1 25 #[.int .i64 0, .int .i64 0, .int .i64 0, .int .i64 0, .int .i64 0, .int .i64 0, .int .i64 0, .int .i64 0, .int .i64 0, .bool false])
      refine wpAnyH_ready (rs := [11]) (by kernel_rfl) (by simp) (AllReadyH.cons rfl (fun K hK => ?_) AllReadyH.nil)
      refine st_S_step rfl (.tmp 12) (.tmp 76) rfl _ rfl (r := ⟨g, c, s, n, l, k, t, ep, fi, b⟩) rfl MX.out rfl ?_
      intro W2 hb2 hf2
      refine hK.out _ _ ?_ (fun hHeld => ?_)
      · (try dsimp only); (first | (go_split_ands; exact ⟨kc f (by assumption), kc f (by assumption), by assumption⟩) | (go_split_ands; exact ⟨(by assumption), (by assumption), by assumption⟩) | (go_split_ands; exact ⟨kc (fr1 _ _) (by assumption), kc (fr1 _ _) (by assumption), kfa (by assumption)⟩) | (go_split_ands; exact ⟨kc (fr1d _ _) (by assumption), kc (fr1d _ _) (by assumption), kfae (by assumption)⟩) | (exact ⟨kcs hf2 (by simp only []; omega) hHeld.1, kcs hf2 (by simp only []; omega) hHeld.2.1, kfg (by omega) FW hf2⟩) | (exact ⟨kcs hf2 (by simp only []; omega) hHeld.1, kcs hf2 (by simp only []; omega) hHeld.2.1, kfg (by omega) hHeld.2.2 hf2⟩) | (go_split_ands; exact ⟨kcs hf2 (by simp only []; omega) (by assumption), kcs hf2 (by simp only []; omega) (by assumption), kfg (by omega) (by assumption) hf2⟩))
      clear hK K
      try simp only [Act.put, List.getElem_toArray, List.getElem_cons_succ, List.getElem_cons_zero, List.setIfInBounds_toArray, List.set_cons_zero, List.set_cons_succ]
      have FW := hHeld.2.2; have MX := hid hb2; have hne : W1.heap.size ≠ L := (by omega); clear hf2 hb2
      refine wpAnyH_take (i := 12) (v := ?v10) rfl (by kernel_rfl) (by kernel_rfl) (by kernel_rfl) (fun _ _ _ h => h) (Or.inl ⟨by kernel_rfl, ?y10⟩) (by assumption) ?_
      case y10 => (intro w hSw; (try dsimp only at hSw); go_simp; all_goals with_reducible rfl)
      try simp only [Act.put, List.getElem_toArray, List.getElem_cons_succ, List.getElem_cons_zero, List.setIfInBounds_toArray, List.set_cons_zero, List.set_cons_succ]
      refine wpAnyH_done (by kernel_rfl) ?_ _
      refine NoPanic.normal ?_
      go_wp2_with fail
      go_meet
      case rel => exact ⟨_, rfl, rfl, MX.out, hne, FW.out⟩
    · go_simp
      refine hK.out _ _ ?_ (fun hHeld => ?_)
      · (try dsimp only); (first | (go_split_ands; exact ⟨kc f (by assumption), kc f (by assumption), by assumption⟩) | (go_split_ands; exact ⟨(by assumption), (by assumption), by assumption⟩) | (go_split_ands; exact ⟨kc (fr1 _ _) (by assumption), kc (fr1 _ _) (by assumption), kfa (by assumption)⟩) | (go_split_ands; exact ⟨kc (fr1d _ _) (by assumption), kc (fr1d _ _) (by assumption), kfae (by assumption)⟩) | (exact ⟨kcs hf2 (by simp only []; omega) hHeld.1, kcs hf2 (by simp only []; omega) hHeld.2.1, kfg (by omega) FW hf2⟩) | (exact ⟨kcs hf2 (by simp only []; omega) hHeld.1, kcs hf2 (by simp only []; omega) hHeld.2.1, kfg (by omega) hHeld.2.2 hf2⟩) | (go_split_ands; exact ⟨kcs hf2 (by simp only []; omega) (by assumption), kcs hf2 (by simp only []; omega) (by assumption), kfg (by omega) (by assumption) hf2⟩))
      clear hK K
      try simp only [Act.put, List.getElem_toArray, List.getElem_cons_succ, List.getElem_cons_zero, List.setIfInBounds_toArray, List.set_cons_zero, List.set_cons_succ]
      have MX := hid (show Blk (w9.alloc (.cells #[.int .i64 0, .int .i64 0, .int .i64 0, .int .i64 0, .int .i64 0, .int .i64 0, .int .i64 0, .int .i64 0, .int .i64 0, .bool false] 25)).drew w9.heap.size 25 #[.int .i64 0, .int .i64 0, .int .i64 0, .int .i64 0, .int .i64 0, .int .i64 0, .int .i64 0, .int .i64 0, .int .i64 0, .bool false] from Blk.new w9 _ _)
      refine wpAnyH_ready (rs := [6]) (by kernel_rfl) (by simp) (AllReadyH.cons rfl (fun K hK => ?_) AllReadyH.nil)
      go_simp
      go_at_call 22
      refine (pick_ok (some ⟨qa, 0, none⟩) 128 128 Zs A ln cp zt _ (IA.out.fr (F6.out.trans hHeld.2.2.out)) (IT.out.fr (F6.out.trans hHeld.2.2.out)) (HTC.out _ (FWW.out.trans (F6.out.trans hHeld.2.2.out)))).mono ?_
      rintro E0 W1 ⟨he, f⟩
      have FW := kf f hHeld.2.2
      rw [HP1.out] at he
      obtain rfl : E0 = .returned (.tuple #[spv (⟨g, c, s, n, l, k, t, ep, fi, b⟩), .int .i64 (0)]) := he
      (try have MX := hid (Blk.fr MX.out f (fun h => h)))
      (try have hsz1 : w9.heap.size ≤ W1.heap.size := f.size)
      dsimp only
      refine hK.out _ _ ?_ (fun hHeld => ?_)
      · (try dsimp only); (first | (go_split_ands; exact ⟨kc f (by assumption), kc f (by assumption), by assumption⟩) | (go_split_ands; exact ⟨(by assumption), (by assumption), by assumption⟩) | (go_split_ands; exact ⟨kc (fr1 _ _) (by assumption), kc (fr1 _ _) (by assumption), kfa (by assumption)⟩) | (go_split_ands; exact ⟨kc (fr1d _ _) (by assumption), kc (fr1d _ _) (by assumption), kfae (by assumption)⟩) | (exact ⟨kcs hf2 (by simp only []; omega) hHeld.1, kcs hf2 (by simp only []; omega) hHeld.2.1, kfg (by omega) FW hf2⟩) | (exact ⟨kcs hf2 (by simp only []; omega) hHeld.1, kcs hf2 (by simp only []; omega) hHeld.2.1, kfg (by omega) hHeld.2.2 hf2⟩) | (go_split_ands; exact ⟨kcs hf2 (by simp only []; omega) (by assumption), kcs hf2 (by simp only []; omega) (by assumption), kfg (by omega) (by assumption) hf2⟩))
      clear hK K
      try simp only [Act.put, List.getElem_toArray, List.getElem_cons_succ, List.getElem_cons_zero, List.setIfInBounds_toArray, List.set_cons_zero, List.set_cons_succ]
      refine wpAnyH_take (i := 7) (v := ?v11) rfl (by kernel_rfl) (by kernel_rfl) (by kernel_rfl) (fun _ _ _ h => h) (Or.inl ⟨by kernel_rfl, ?y11⟩) (by assumption) ?_
      case y11 => (intro w hSw; (try dsimp only at hSw); go_simp; all_goals with_reducible rfl)
      try simp only [Act.put, List.getElem_toArray, List.getElem_cons_succ, List.getElem_cons_zero, List.setIfInBounds_toArray, List.set_cons_zero, List.set_cons_succ]
      refine wpAnyH_take (i := 8) (v := ?v12) rfl (by kernel_rfl) (by kernel_rfl) (by kernel_rfl) (fun _ _ _ h => h) (Or.inl ⟨by kernel_rfl, ?y12⟩) (by assumption) ?_
      case y12 => (intro w hSw; (try dsimp only at hSw); go_simp; all_goals with_reducible rfl)
      try simp only [Act.put, List.getElem_toArray, List.getElem_cons_succ, List.getElem_cons_zero, List.setIfInBounds_toArray, List.set_cons_zero, List.set_cons_succ]
      refine wpAnyH_take (i := 9) (v := ?v13) rfl (by kernel_rfl) (by kernel_rfl) (by kernel_rfl) (fun _ _ _ h => h) (Or.inl ⟨by kernel_rfl, ?y13⟩) (by assumption) ?_
      case y13 => (intro w hSw; (try dsimp only at hSw); go_simp; all_goals with_reducible rfl)
      try simp only [Act.put, List.getElem_toArray, List.getElem_cons_succ, List.getElem_cons_zero, List.setIfInBounds_toArray, List.set_cons_zero, List.set_cons_succ]
      refine wpAnyH_ready (rs := [11]) (by kernel_rfl) (by simp) (AllReadyH.cons rfl (fun K hK => ?_) AllReadyH.nil)
      refine st_S_step rfl (.tmp 12) (.tmp 76) rfl _ rfl (r := ⟨g, c, s, n, l, k, t, ep, fi, b⟩) rfl MX.out rfl ?_
      intro W2 hb2 hf2
      refine hK.out _ _ ?_ (fun hHeld => ?_)
      · (try dsimp only); (first | (go_split_ands; exact ⟨kc f (by assumption), kc f (by assumption), by assumption⟩) | (go_split_ands; exact ⟨(by assumption), (by assumption), by assumption⟩) | (go_split_ands; exact ⟨kc (fr1 _ _) (by assumption), kc (fr1 _ _) (by assumption), kfa (by assumption)⟩) | (go_split_ands; exact ⟨kc (fr1d _ _) (by assumption), kc (fr1d _ _) (by assumption), kfae (by assumption)⟩) | (exact ⟨kcs hf2 (by simp only []; omega) hHeld.1, kcs hf2 (by simp only []; omega) hHeld.2.1, kfg (by omega) FW hf2⟩) | (exact ⟨kcs hf2 (by simp only []; omega) hHeld.1, kcs hf2 (by simp only []; omega) hHeld.2.1, kfg (by omega) hHeld.2.2 hf2⟩) | (go_split_ands; exact ⟨kcs hf2 (by simp only []; omega) (by assumption), kcs hf2 (by simp only []; omega) (by assumption), kfg (by omega) (by assumption) hf2⟩))
      clear hK K
      try simp only [Act.put, List.getElem_toArray, List.getElem_cons_succ, List.getElem_cons_zero, List.setIfInBounds_toArray, List.set_cons_zero, List.set_cons_succ]
      have FW := hHeld.2.2; have MX := hid hb2; have hne : w9.heap.size ≠ L := (by omega); clear hf2 hb2
      refine wpAnyH_take (i := 12) (v := ?v14) rfl (by kernel_rfl) (by kernel_rfl) (by kernel_rfl) (fun _ _ _ h => h) (Or.inl ⟨by kernel_rfl, ?y14⟩) (by assumption) ?_
      case y14 => (intro w hSw; (try dsimp only at hSw); go_simp; all_goals with_reducible rfl)
      try simp only [Act.put, List.getElem_toArray, List.getElem_cons_succ, List.getElem_cons_zero, List.setIfInBounds_toArray, List.set_cons_zero, List.set_cons_succ]
      refine wpAnyH_done (by kernel_rfl) ?_ _
      refine NoPanic.normal ?_
      go_wp2_with fail
      go_meet
      case rel => exact ⟨_, rfl, rfl, MX.out, hne, FW.out⟩
  case rest =>
    obtain ⟨M12, rfl, rfl, hb12, hne12, f⟩ := hcut
    have B12 := hid hb12
    have HNE12 := hid hne12
    replace F6 := hid (F6.out.trans f)
    replace BL := hid (Blk.fr BL.out f (fun h => h))
    clear hb12 hne12 f l0 l1 hL9 HLR
    have d0 : World.cell? _ ⟨D, 0, none⟩ = some (.int .i64 gn) := Blk.cell (Blk.fr BN.out F6.out (fun h => h)) 0
    have d1 : World.cell? _ ⟨D, 1, none⟩ = some (.int .i64 c) := Blk.cell (Blk.fr BN.out F6.out (fun h => h)) 1
    have d2 : World.cell? _ ⟨D, 2, none⟩ = some (.int .i64 s) := Blk.cell (Blk.fr BN.out F6.out (fun h => h)) 2
    have d3 : World.cell? _ ⟨D, 3, none⟩ = some (.int .i64 n) := Blk.cell (Blk.fr BN.out F6.out (fun h => h)) 3
    have d4 : World.cell? _ ⟨D, 4, none⟩ = some (.int .i64 l) := Blk.cell (Blk.fr BN.out F6.out (fun h => h)) 4
    have d5 : World.cell? _ ⟨D, 5, none⟩ = some (.int .i64 k) := Blk.cell (Blk.fr BN.out F6.out (fun h => h)) 5
    have d6 : World.cell? _ ⟨D, 6, none⟩ = some (.int .i64 tn) := Blk.cell (Blk.fr BN.out F6.out (fun h => h)) 6
    have d7 : World.cell? _ ⟨D, 7, none⟩ = some (.int .i64 ep) := Blk.cell (Blk.fr BN.out F6.out (fun h => h)) 7
    have d8 : World.cell? _ ⟨D, 8, none⟩ = some (.int .i64 fi) := Blk.cell (Blk.fr BN.out F6.out (fun h => h)) 8
    have d9 : World.cell? _ ⟨D, 9, none⟩ = some (.bool b) := Blk.cell (Blk.fr BN.out F6.out (fun h => h)) 9
    go_upto_region 12 with (go_at_call 18; go_loud (refine (copy_lit gn c s n l k tn ep fi b _ 1 HSS.out HMN.out HP.out).mono ?_; rintro e' w11 ⟨rfl, f⟩; replace F6 := hid (F6.out.trans f); replace BL := hid (Blk.fr BL.out f (fun h => h)); replace B12 := hid (Blk.fr B12.out f (fun h => h)); clear f d0 d1 d2 d3 d4 d5 d6 d7 d8 d9; have l1 : w11.cell? ⟨L, 1, none⟩ = some (.slice A ln cp) := Blk.cell BL.out 1; have z1 : w11.frozen? ⟨L, 1, none⟩ = false := Blk.frozen BL.out 1))
    clear l1 z1
    replace F6 := hid (F6.out.setCell (p := ⟨L, 1, none⟩) (fun h => absurd h (by have := HL6.out; simp only []; omega)) (.slice (some ⟨qb, 0, none⟩) 128 128))
    replace BL := hid (show Blk (w11.setCell ⟨L, 1, none⟩ (.slice (some ⟨qb, 0, none⟩) 128 128)) L 26 #[.slice (some ⟨qa, 0, none⟩) 128 128, .slice (some ⟨qb, 0, none⟩) 128 128] from Blk.set_ BL.out 1 (.slice (some ⟨qb, 0, none⟩) 128 128))
    replace B12 := hid (Blk.far B12.out (p := ⟨L, 1, none⟩) (fun h => HNE12.out h) (.slice (some ⟨qb, 0, none⟩) 128 128))
    generalize World.setCell w11 ⟨L, 1, none⟩ (.slice (some ⟨qb, 0, none⟩) 128 128) = w12 at F6 BL B12 ⊢
    have l0 : w12.cell? ⟨L, 0, none⟩ = some (.slice (some ⟨qa, 0, none⟩) 128 128) := Blk.cell BL.out 0
    have l1 : w12.cell? ⟨L, 1, none⟩ = some (.slice (some ⟨qb, 0, none⟩) 128 128) := Blk.cell BL.out 1
    have hL9 : L < w12.heap.size := Blk.lt BL.out
    have HLR := hid hL9
    go_cut [14, 15] (fun mp e wx => ∃ M : Nat, mp = .pointer (some ⟨M, 0, none⟩) ∧ e = .int .i64 (0) ∧ BS wx M (⟨gn, c, s, n, l, k, tn, ep, fi, b⟩) ∧ M ≠ L ∧ Fr No w12 wx)
    case first =>
      have FW : Hid (Fr No w12 w12) := hid (Fr.refl No _)
      have FW := kd FW
      refine wp_region_noPanic ?_
      refine wp_region_held_drew (S := (fun W' => W'.cell? ⟨L, 0, none⟩ = some (.slice (some ⟨qa, 0, none⟩) 128 128) ∧ W'.cell? ⟨L, 1, none⟩ = some (.slice (some ⟨qb, 0, none⟩) 128 128) ∧ Hid (Fr No w12 W'))) (by kernel_rfl) ?_ (fun hHeld => ?_)
      · (try dsimp only); (first | (go_split_ands; exact ⟨kc f (by assumption), kc f (by assumption), by assumption⟩) | (go_split_ands; exact ⟨(by assumption), (by assumption), by assumption⟩) | (go_split_ands; exact ⟨kc (fr1 _ _) (by assumption), kc (fr1 _ _) (by assumption), kfa (by assumption)⟩) | (go_split_ands; exact ⟨kc (fr1d _ _) (by assumption), kc (fr1d _ _) (by assumption), kfae (by assumption)⟩) | (exact ⟨kcs hf2 (by simp only []; omega) hHeld.1, kcs hf2 (by simp only []; omega) hHeld.2.1, kfg (by omega) FW hf2⟩) | (exact ⟨kcs hf2 (by simp only []; omega) hHeld.1, kcs hf2 (by simp only []; omega) hHeld.2.1, kfg (by omega) hHeld.2.2 hf2⟩) | (go_split_ands; exact ⟨kcs hf2 (by simp only []; omega) (by assumption), kcs hf2 (by simp only []; omega) (by assumption), kfg (by omega) (by assumption) hf2⟩))
      refine wpAnyH_take (i := 0) (v := ?v15) rfl (by kernel_rfl) (by kernel_rfl) (by kernel_rfl) (fun _ _ _ h => h) (Or.inl ⟨by kernel_rfl, ?y15⟩) (by assumption) ?_
      case y15 => (intro w hSw; (try dsimp only at hSw); go_simp; all_goals with_reducible rfl)
      try simp only [Act.put, List.getElem_toArray, List.getElem_cons_zero, List.setIfInBounds_toArray, List.set_cons_zero, List.set_cons_succ]
      refine wpAnyH_take (i := 1) (v := ?v16) rfl (by kernel_rfl) (by kernel_rfl) (by kernel_rfl) (fun _ _ _ h => h) (Or.inl ⟨by kernel_rfl, ?y16⟩) (by assumption) ?_
      case y16 => (intro w hSw; (try dsimp only at hSw); go_simp; all_goals with_reducible rfl)
      try simp only [Act.put, List.getElem_toArray, List.getElem_cons_succ, List.getElem_cons_zero, List.setIfInBounds_toArray, List.set_cons_zero, List.set_cons_succ]
      refine wpAnyH_take (i := 2) (v := ?v17) rfl (by kernel_rfl) (by kernel_rfl) (by kernel_rfl) (fun _ _ _ h => h) (Or.inl ⟨by kernel_rfl, ?y17⟩) (by assumption) ?_
      case y17 => (intro w hSw; (try dsimp only at hSw); go_simp; all_goals with_reducible rfl)
      try simp only [Act.put, List.getElem_toArray, List.getElem_cons_succ, List.getElem_cons_zero, List.setIfInBounds_toArray, List.set_cons_zero, List.set_cons_succ]
      refine wpAnyH_take (i := 3) (v := ?v18) rfl (by kernel_rfl) (by kernel_rfl) (by kernel_rfl) (fun _ _ _ h => h) (Or.inl ⟨by kernel_rfl, ?y18⟩) (by assumption) ?_
      case y18 => (intro w hSw; (try dsimp only at hSw); go_simp; all_goals with_reducible rfl)
      try simp only [Act.put, List.getElem_toArray, List.getElem_cons_succ, List.getElem_cons_zero, List.setIfInBounds_toArray, List.set_cons_zero, List.set_cons_succ]
      refine wpAnyH_take (i := 4) (v := ?v19) rfl (by kernel_rfl) (by kernel_rfl) (by kernel_rfl) (fun _ _ _ h => h) (Or.inl ⟨by kernel_rfl, ?y19⟩) (by assumption) ?_
      case y19 => (intro w hSw; (try dsimp only at hSw); go_simp; all_goals with_reducible rfl)
      try simp only [Act.put, List.getElem_toArray, List.getElem_cons_succ, List.getElem_cons_zero, List.setIfInBounds_toArray, List.set_cons_zero, List.set_cons_succ]
      refine wpAnyH_take (i := 5) (v := ?v20) rfl (by kernel_rfl) (by kernel_rfl) (by kernel_rfl) (fun _ _ _ h => h) (Or.inl ⟨by kernel_rfl, ?y20⟩) (by assumption) ?_
      case y20 => (intro w hSw; (try dsimp only at hSw); go_simp; all_goals with_reducible rfl)
      try simp only [Act.put, List.getElem_toArray, List.getElem_cons_succ, List.getElem_cons_zero, List.setIfInBounds_toArray, List.set_cons_zero, List.set_cons_succ]
      refine wpAnyH_ready (rs := [6, 10]) (by kernel_rfl) (by simp) (AllReadyH.cons rfl (fun K hK => ?_) (AllReadyH.cons rfl (fun K hK => ?_) AllReadyH.nil))
      · go_simp
        go_at_call 22
        refine (pick_ok (some ⟨qa, 0, none⟩) 128 128 Zs (some ⟨qb, 0, none⟩) 128 128 Zn _ (IA.out.fr (F6.out.trans hHeld.2.2.out)) (IB.out.fr (F6.out.trans hHeld.2.2.out)) (HTC.out _ (FWW.out.trans (F6.out.trans hHeld.2.2.out)))).mono ?_
        rintro E0 W1 ⟨he, f⟩
        have FW := kf f hHeld.2.2
        rw [HP2.out] at he
        obtain rfl : E0 = .returned (.tuple #[spv (⟨gn, c, s, n, l, k, tn, ep, fi, b⟩), .int .i64 (0)]) := he
        (try have MX := hid (Blk.fr MX.out f (fun h => h)))
        (try have hsz1 : w12.heap.size ≤ W1.heap.size := f.size)
        dsimp only
        refine hK.out _ _ ?_ (fun hHeld => ?_)
        · (try dsimp only); (first | (go_split_ands; exact ⟨kc f (by assumption), kc f (by assumption), by assumption⟩) | (go_split_ands; exact ⟨(by assumption), (by assumption), by assumption⟩) | (go_split_ands; exact ⟨kc (fr1 _ _) (by assumption), kc (fr1 _ _) (by assumption), kfa (by assumption)⟩) | (go_split_ands; exact ⟨kc (fr1d _ _) (by assumption), kc (fr1d _ _) (by assumption), kfae (by assumption)⟩) | (exact ⟨kcs hf2 (by simp only []; omega) hHeld.1, kcs hf2 (by simp only []; omega) hHeld.2.1, kfg (by omega) FW hf2⟩) | (exact ⟨kcs hf2 (by simp only []; omega) hHeld.1, kcs hf2 (by simp only []; omega) hHeld.2.1, kfg (by omega) hHeld.2.2 hf2⟩) | (go_split_ands; exact ⟨kcs hf2 (by simp only []; omega) (by assumption), kcs hf2 (by simp only []; omega) (by assumption), kfg (by omega) (by assumption) hf2⟩))
        clear hK K
        try simp only [Act.put, List.getElem_toArray, List.getElem_cons_succ, List.getElem_cons_zero, List.setIfInBounds_toArray, List.set_cons_zero, List.set_cons_succ]
        refine wpAnyH_take (i := 7) (v := ?v21) rfl (by kernel_rfl) (by kernel_rfl) (by kernel_rfl) (fun _ _ _ h => h) (Or.inl ⟨by kernel_rfl, ?y21⟩) (by assumption) ?_
        case y21 => (intro w hSw; (try dsimp only at hSw); go_simp; all_goals with_reducible rfl)
        try simp only [Act.put, List.getElem_toArray, List.getElem_cons_succ, List.getElem_cons_zero, List.setIfInBounds_toArray, List.set_cons_zero, List.set_cons_succ]
        refine wpAnyH_take (i := 8) (v := ?v22) rfl (by kernel_rfl) (by kernel_rfl) (by kernel_rfl) (fun _ _ _ h => h) (Or.inl ⟨by kernel_rfl, ?y22⟩) (by assumption) ?_
        case y22 => (intro w hSw; (try dsimp only at hSw); go_simp; all_goals with_reducible rfl)
        try simp only [Act.put, List.getElem_toArray, List.getElem_cons_succ, List.getElem_cons_zero, List.setIfInBounds_toArray, List.set_cons_zero, List.set_cons_succ]
        refine wpAnyH_take (i := 9) (v := ?v23) rfl (by kernel_rfl) (by kernel_rfl) (by kernel_rfl) (fun _ _ _ h => h) (Or.inl ⟨by kernel_rfl, ?y23⟩) (by assumption) ?_
        case y23 => (intro w hSw; (try dsimp only at hSw); go_simp; all_goals with_reducible rfl)
        try simp only [Act.put, List.getElem_toArray, List.getElem_cons_succ, List.getElem_cons_zero, List.setIfInBounds_toArray, List.set_cons_zero, List.set_cons_succ]
        refine wpAnyH_ready (rs := [10]) (by kernel_rfl) (by simp) (AllReadyH.cons rfl (fun K hK => ?_) AllReadyH.nil)
        go_simp
        refine hK.out _ _ ?_ (fun hHeld => ?_)
        · (try dsimp only); (first | (go_split_ands; exact ⟨kc f (by assumption), kc f (by assumption), by assumption⟩) | (go_split_ands; exact ⟨(by assumption), (by assumption), by assumption⟩) | (go_split_ands; exact ⟨kc (fr1 _ _) (by assumption), kc (fr1 _ _) (by assumption), kfa (by assumption)⟩) | (go_split_ands; exact ⟨kc (fr1d _ _) (by assumption), kc (fr1d _ _) (by assumption), kfae (by assumption)⟩) | (exact ⟨kcs hf2 (by simp only []; omega) hHeld.1, kcs hf2 (by simp only []; omega) hHeld.2.1, kfg (by omega) FW hf2⟩) | (exact ⟨kcs hf2 (by simp only []; omega) hHeld.1, kcs hf2 (by simp only []; omega) hHeld.2.1, kfg (by omega) hHeld.2.2 hf2⟩) | (go_split_ands; exact ⟨kcs hf2 (by simp only []; omega) (by assumption), kcs hf2 (by simp only []; omega) (by assumption), kfg (by omega) (by assumption) hf2⟩))
        clear hK K
        try simp only [Act.put, List.getElem_toArray, List.getElem_cons_succ, List.getElem_cons_zero, List.setIfInBounds_toArray, List.set_cons_zero, List.set_cons_succ]
        have MX := hid (Blk.new W1 25 #[.int .i64 0, .int .i64 0, .int .i64 0, .int .i64 0, .int .i64 0, .int .i64 0, .int .i64 0, .int .i64 0, .int .i64 0, .bool false])
        refine wpAnyH_ready (rs := [11]) (by kernel_rfl) (by simp) (AllReadyH.cons rfl (fun K hK => ?_) AllReadyH.nil)
        refine st_S_step rfl (.tmp 14) (.tmp 92) rfl _ rfl (r := ⟨gn, c, s, n, l, k, tn, ep, fi, b⟩) rfl MX.out rfl ?_
        intro W2 hb2 hf2
        refine hK.out _ _ ?_ (fun hHeld => ?_)
        · (try dsimp only); (first | (go_split_ands; exact ⟨kc f (by assumption), kc f (by assumption), by assumption⟩) | (go_split_ands; exact ⟨(by assumption), (by assumption), by assumption⟩) | (go_split_ands; exact ⟨kc (fr1 _ _) (by assumption), kc (fr1 _ _) (by assumption), kfa (by assumption)⟩) | (go_split_ands; exact ⟨kc (fr1d _ _) (by assumption), kc (fr1d _ _) (by assumption), kfae (by assumption)⟩) | (exact ⟨kcs hf2 (by simp only []; omega) hHeld.1, kcs hf2 (by simp only []; omega) hHeld.2.1, kfg (by omega) FW hf2⟩) | (exact ⟨kcs hf2 (by simp only []; omega) hHeld.1, kcs hf2 (by simp only []; omega) hHeld.2.1, kfg (by omega) hHeld.2.2 hf2⟩) | (go_split_ands; exact ⟨kcs hf2 (by simp only []; omega) (by assumption), kcs hf2 (by simp only []; omega) (by assumption), kfg (by omega) (by assumption) hf2⟩))
        clear hK K
        try simp only [Act.put, List.getElem_toArray, List.getElem_cons_succ, List.getElem_cons_zero, List.setIfInBounds_toArray, List.set_cons_zero, List.set_cons_succ]
        have FW := hHeld.2.2; have MX := hid hb2; have hne : W1.heap.size ≠ L := (by omega); clear hf2 hb2
        refine wpAnyH_take (i := 12) (v := ?v24) rfl (by kernel_rfl) (by kernel_rfl) (by kernel_rfl) (fun _ _ _ h => h) (Or.inl ⟨by kernel_rfl, ?y24⟩) (by assumption) ?_
        case y24 => (intro w hSw; (try dsimp only at hSw); go_simp; all_goals with_reducible rfl)
        try simp only [Act.put, List.getElem_toArray, List.getElem_cons_succ, List.getElem_cons_zero, List.setIfInBounds_toArray, List.set_cons_zero, List.set_cons_succ]
        refine wpAnyH_done (by kernel_rfl) ?_ _
        refine NoPanic.normal ?_
        go_wp2_with fail
        go_meet
        case rel => exact ⟨_, rfl, rfl, MX.out, hne, FW.out⟩
      · go_simp
        refine hK.out _ _ ?_ (fun hHeld => ?_)
        · (try dsimp only); (first | (go_split_ands; exact ⟨kc f (by assumption), kc f (by assumption), by assumption⟩) | (go_split_ands; exact ⟨(by assumption), (by assumption), by assumption⟩) | (go_split_ands; exact ⟨kc (fr1 _ _) (by assumption), kc (fr1 _ _) (by assumption), kfa (by assumption)⟩) | (go_split_ands; exact ⟨kc (fr1d _ _) (by assumption), kc (fr1d _ _) (by assumption), kfae (by assumption)⟩) | (exact ⟨kcs hf2 (by simp only []; omega) hHeld.1, kcs hf2 (by simp only []; omega) hHeld.2.1, kfg (by omega) FW hf2⟩) | (exact ⟨kcs hf2 (by simp only []; omega) hHeld.1, kcs hf2 (by simp only []; omega) hHeld.2.1, kfg (by omega) hHeld.2.2 hf2⟩) | (go_split_ands; exact ⟨kcs hf2 (by simp only []; omega) (by assumption), kcs hf2 (by simp only []; omega) (by assumption), kfg (by omega) (by assumption) hf2⟩))
        clear hK K
        try simp only [Act.put, List.getElem_toArray, List.getElem_cons_succ, List.getElem_cons_zero, List.setIfInBounds_toArray, List.set_cons_zero, List.set_cons_succ]
        have MX := hid (show Blk (w12.alloc (.cells #[.int .i64 0, .int .i64 0, .int .i64 0, .int .i64 0, .int .i64 0, .int .i64 0, .int .i64 0, .int .i64 0, .int .i64 0, .bool false] 25)).drew w12.heap.size 25 #[.int .i64 0, .int .i64 0, .int .i64 0, .int .i64 0, .int .i64 0, .int .i64 0, .int .i64 0, .int .i64 0, .int .i64 0, .bool false] from Blk.new w12 _ _)
        refine wpAnyH_ready (rs := [6]) (by kernel_rfl) (by simp) (AllReadyH.cons rfl (fun K hK => ?_) AllReadyH.nil)
        go_simp
        go_at_call 22
        refine (pick_ok (some ⟨qa, 0, none⟩) 128 128 Zs (some ⟨qb, 0, none⟩) 128 128 Zn _ (IA.out.fr (F6.out.trans hHeld.2.2.out)) (IB.out.fr (F6.out.trans hHeld.2.2.out)) (HTC.out _ (FWW.out.trans (F6.out.trans hHeld.2.2.out)))).mono ?_
        rintro E0 W1 ⟨he, f⟩
        have FW := kf f hHeld.2.2
        rw [HP2.out] at he
        obtain rfl : E0 = .returned (.tuple #[spv (⟨gn, c, s, n, l, k, tn, ep, fi, b⟩), .int .i64 (0)]) := he
        (try have MX := hid (Blk.fr MX.out f (fun h => h)))
        (try have hsz1 : w12.heap.size ≤ W1.heap.size := f.size)
        dsimp only
        refine hK.out _ _ ?_ (fun hHeld => ?_)
        · (try dsimp only); (first | (go_split_ands; exact ⟨kc f (by assumption), kc f (by assumption), by assumption⟩) | (go_split_ands; exact ⟨(by assumption), (by assumption), by assumption⟩) | (go_split_ands; exact ⟨kc (fr1 _ _) (by assumption), kc (fr1 _ _) (by assumption), kfa (by assumption)⟩) | (go_split_ands; exact ⟨kc (fr1d _ _) (by assumption), kc (fr1d _ _) (by assumption), kfae (by assumption)⟩) | (exact ⟨kcs hf2 (by simp only []; omega) hHeld.1, kcs hf2 (by simp only []; omega) hHeld.2.1, kfg (by omega) FW hf2⟩) | (exact ⟨kcs hf2 (by simp only []; omega) hHeld.1, kcs hf2 (by simp only []; omega) hHeld.2.1, kfg (by omega) hHeld.2.2 hf2⟩) | (go_split_ands; exact ⟨kcs hf2 (by simp only []; omega) (by assumption), kcs hf2 (by simp only []; omega) (by assumption), kfg (by omega) (by assumption) hf2⟩))
        clear hK K
        try simp only [Act.put, List.getElem_toArray, List.getElem_cons_succ, List.getElem_cons_zero, List.setIfInBounds_toArray, List.set_cons_zero, List.set_cons_succ]
        refine wpAnyH_take (i := 7) (v := ?v25) rfl (by kernel_rfl) (by kernel_rfl) (by kernel_rfl) (fun _ _ _ h => h) (Or.inl ⟨by kernel_rfl, ?y25⟩) (by assumption) ?_
        case y25 => (intro w hSw; (try dsimp only at hSw); go_simp; all_goals with_reducible rfl)
        try simp only [Act.put, List.getElem_toArray, List.getElem_cons_succ, List.getElem_cons_zero, List.setIfInBounds_toArray, List.set_cons_zero, List.set_cons_succ]
        refine wpAnyH_take (i := 8) (v := ?v26) rfl (by kernel_rfl) (by kernel_rfl) (by kernel_rfl) (fun _ _ _ h => h) (Or.inl ⟨by kernel_rfl, ?y26⟩) (by assumption) ?_
        case y26 => (intro w hSw; (try dsimp only at hSw); go_simp; all_goals with_reducible rfl)
        try simp only [Act.put, List.getElem_toArray, List.getElem_cons_succ, List.getElem_cons_zero, List.setIfInBounds_toArray, List.set_cons_zero, List.set_cons_succ]
        refine wpAnyH_take (i := 9) (v := ?v27) rfl (by kernel_rfl) (by kernel_rfl) (by kernel_rfl) (fun _ _ _ h => h) (Or.inl ⟨by kernel_rfl, ?y27⟩) (by assumption) ?_
        case y27 => (intro w hSw; (try dsimp only at hSw); go_simp; all_goals with_reducible rfl)
        try simp only [Act.put, List.getElem_toArray, List.getElem_cons_succ, List.getElem_cons_zero, List.setIfInBounds_toArray, List.set_cons_zero, List.set_cons_succ]
        refine wpAnyH_ready (rs := [11]) (by kernel_rfl) (by simp) (AllReadyH.cons rfl (fun K hK => ?_) AllReadyH.nil)
        refine st_S_step rfl (.tmp 14) (.tmp 92) rfl _ rfl (r := ⟨gn, c, s, n, l, k, tn, ep, fi, b⟩) rfl MX.out rfl ?_
        intro W2 hb2 hf2
        refine hK.out _ _ ?_ (fun hHeld => ?_)
        · (try dsimp only); (first | (go_split_ands; exact ⟨kc f (by assumption), kc f (by assumption), by assumption⟩) | (go_split_ands; exact ⟨(by assumption), (by assumption), by assumption⟩) | (go_split_ands; exact ⟨kc (fr1 _ _) (by assumption), kc (fr1 _ _) (by assumption), kfa (by assumption)⟩) | (go_split_ands; exact ⟨kc (fr1d _ _) (by assumption), kc (fr1d _ _) (by assumption), kfae (by assumption)⟩) | (exact ⟨kcs hf2 (by simp only []; omega) hHeld.1, kcs hf2 (by simp only []; omega) hHeld.2.1, kfg (by omega) FW hf2⟩) | (exact ⟨kcs hf2 (by simp only []; omega) hHeld.1, kcs hf2 (by simp only []; omega) hHeld.2.1, kfg (by omega) hHeld.2.2 hf2⟩) | (go_split_ands; exact ⟨kcs hf2 (by simp only []; omega) (by assumption), kcs hf2 (by simp only []; omega) (by assumption), kfg (by omega) (by assumption) hf2⟩))
        clear hK K
        try simp only [Act.put, List.getElem_toArray, List.getElem_cons_succ, List.getElem_cons_zero, List.setIfInBounds_toArray, List.set_cons_zero, List.set_cons_succ]
        have FW := hHeld.2.2; have MX := hid hb2; have hne : w12.heap.size ≠ L := (by omega); clear hf2 hb2
        refine wpAnyH_take (i := 12) (v := ?v28) rfl (by kernel_rfl) (by kernel_rfl) (by kernel_rfl) (fun _ _ _ h => h) (Or.inl ⟨by kernel_rfl, ?y28⟩) (by assumption) ?_
        case y28 => (intro w hSw; (try dsimp only at hSw); go_simp; all_goals with_reducible rfl)
        try simp only [Act.put, List.getElem_toArray, List.getElem_cons_succ, List.getElem_cons_zero, List.setIfInBounds_toArray, List.set_cons_zero, List.set_cons_succ]
        refine wpAnyH_done (by kernel_rfl) ?_ _
        refine NoPanic.normal ?_
        go_wp2_with fail
        go_meet
        case rel => exact ⟨_, rfl, rfl, MX.out, hne, FW.out⟩
    case rest =>
      obtain ⟨M14, rfl, rfl, hb14, hne14, f⟩ := hcut
      replace F6 := hid (F6.out.trans f)
      have B14 := hid hb14
      replace B12 := hid (Blk.fr B12.out f (fun h => h))
      clear hb14 hne14 f l0 l1 hL9 HLR
      go_wp2_with (first | (go_at_call 21; go_loud (refine (rdec_none A ln cp zt _ (IT.out.fr F6.out) HDT.out).mono ?_; rintro e' w15 ⟨rfl, f⟩; replace F6 := hid (F6.out.trans f); replace B14 := hid (Blk.fr B14.out f (fun h => h)); replace B12 := hid (Blk.fr B12.out f (fun h => h)); clear f)) | (refine st_S rfl (.tmp 16) (.tmp 97) rfl w15.heap.size rfl rfl (by simp [Value.oneCell']) (Blk.new w15 _ _) rfl ?_; intro w16 _ f3; have f : Fr No w15 w16 := ((Fr.refl No w15).alloc _).step f3 (fun i hi e => by omega); replace F6 := hid (F6.out.trans f); replace B14 := hid (Blk.fr B14.out f (fun h => h)); replace B12 := hid (Blk.fr B12.out f (fun h => h)); clear f f3; have u0 : w16.cell? ⟨M14, 0, none⟩ = some (.int .i64 gn) := Blk.cell B14.out 0; have u1 : w16.cell? ⟨M14, 1, none⟩ = some (.int .i64 c) := Blk.cell B14.out 1; have u2 : w16.cell? ⟨M14, 2, none⟩ = some (.int .i64 s) := Blk.cell B14.out 2; have u3 : w16.cell? ⟨M14, 3, none⟩ = some (.int .i64 n) := Blk.cell B14.out 3; have u4 : w16.cell? ⟨M14, 4, none⟩ = some (.int .i64 l) := Blk.cell B14.out 4; have u5 : w16.cell? ⟨M14, 5, none⟩ = some (.int .i64 k) := Blk.cell B14.out 5; have u6 : w16.cell? ⟨M14, 6, none⟩ = some (.int .i64 tn) := Blk.cell B14.out 6; have u7 : w16.cell? ⟨M14, 7, none⟩ = some (.int .i64 ep) := Blk.cell B14.out 7; have u8 : w16.cell? ⟨M14, 8, none⟩ = some (.int .i64 fi) := Blk.cell B14.out 8; have u9 : w16.cell? ⟨M14, 9, none⟩ = some (.bool b) := Blk.cell B14.out 9; have d0 : w16.cell? ⟨D, 0, none⟩ = some (.int .i64 gn) := Blk.cell (Blk.fr BN.out F6.out (fun h => h)) 0; have d1 : w16.cell? ⟨D, 1, none⟩ = some (.int .i64 c) := Blk.cell (Blk.fr BN.out F6.out (fun h => h)) 1; have d2 : w16.cell? ⟨D, 2, none⟩ = some (.int .i64 s) := Blk.cell (Blk.fr BN.out F6.out (fun h => h)) 2; have d3 : w16.cell? ⟨D, 3, none⟩ = some (.int .i64 n) := Blk.cell (Blk.fr BN.out F6.out (fun h => h)) 3; have d4 : w16.cell? ⟨D, 4, none⟩ = some (.int .i64 l) := Blk.cell (Blk.fr BN.out F6.out (fun h => h)) 4; have d5 : w16.cell? ⟨D, 5, none⟩ = some (.int .i64 k) := Blk.cell (Blk.fr BN.out F6.out (fun h => h)) 5; have d6 : w16.cell? ⟨D, 6, none⟩ = some (.int .i64 tn) := Blk.cell (Blk.fr BN.out F6.out (fun h => h)) 6; have d7 : w16.cell? ⟨D, 7, none⟩ = some (.int .i64 ep) := Blk.cell (Blk.fr BN.out F6.out (fun h => h)) 7; have d8 : w16.cell? ⟨D, 8, none⟩ = some (.int .i64 fi) := Blk.cell (Blk.fr BN.out F6.out (fun h => h)) 8; have d9 : w16.cell? ⟨D, 9, none⟩ = some (.bool b) := Blk.cell (Blk.fr BN.out F6.out (fun h => h)) 9; have v0 : w16.cell? ⟨M12, 0, none⟩ = some (.int .i64 g) := Blk.cell B12.out 0; have v1 : w16.cell? ⟨M12, 1, none⟩ = some (.int .i64 c) := Blk.cell B12.out 1; have v2 : w16.cell? ⟨M12, 2, none⟩ = some (.int .i64 s) := Blk.cell B12.out 2; have v3 : w16.cell? ⟨M12, 3, none⟩ = some (.int .i64 n) := Blk.cell B12.out 3; have v4 : w16.cell? ⟨M12, 4, none⟩ = some (.int .i64 l) := Blk.cell B12.out 4; have v5 : w16.cell? ⟨M12, 5, none⟩ = some (.int .i64 k) := Blk.cell B12.out 5; have v6 : w16.cell? ⟨M12, 6, none⟩ = some (.int .i64 t) := Blk.cell B12.out 6; have v7 : w16.cell? ⟨M12, 7, none⟩ = some (.int .i64 ep) := Blk.cell B12.out 7; have v8 : w16.cell? ⟨M12, 8, none⟩ = some (.int .i64 fi) := Blk.cell B12.out 8; have v9 : w16.cell? ⟨M12, 9, none⟩ = some (.bool b) := Blk.cell B12.out 9; have x0 : w16.cell? ⟨X, 0, none⟩ = some (.int .i64 g) := Blk.cell (Blk.fr HB.out F6.out (fun h => h)) 0; have x1 : w16.cell? ⟨X, 1, none⟩ = some (.int .i64 c) := Blk.cell (Blk.fr HB.out F6.out (fun h => h)) 1; have x2 : w16.cell? ⟨X, 2, none⟩ = some (.int .i64 s) := Blk.cell (Blk.fr HB.out F6.out (fun h => h)) 2; have x3 : w16.cell? ⟨X, 3, none⟩ = some (.int .i64 n) := Blk.cell (Blk.fr HB.out F6.out (fun h => h)) 3; have x4 : w16.cell? ⟨X, 4, none⟩ = some (.int .i64 l) := Blk.cell (Blk.fr HB.out F6.out (fun h => h)) 4; have x5 : w16.cell? ⟨X, 5, none⟩ = some (.int .i64 k) := Blk.cell (Blk.fr HB.out F6.out (fun h => h)) 5; have x6 : w16.cell? ⟨X, 6, none⟩ = some (.int .i64 t) := Blk.cell (Blk.fr HB.out F6.out (fun h => h)) 6; have x7 : w16.cell? ⟨X, 7, none⟩ = some (.int .i64 ep) := Blk.cell (Blk.fr HB.out F6.out (fun h => h)) 7; have x8 : w16.cell? ⟨X, 8, none⟩ = some (.int .i64 fi) := Blk.cell (Blk.fr HB.out F6.out (fun h => h)) 8; have x9 : w16.cell? ⟨X, 9, none⟩ = some (.bool b) := Blk.cell (Blk.fr HB.out F6.out (fun h => h)) 9))
      go_ret
      exact ⟨rfl, FWW.out.trans F6.out⟩
set_option maxRecDepth 100000 in
set_option maxHeartbeats 8000000 in
theorem stays_1t (g c s n l k t ep fi : Int) (b : Bool) (gn tn : Int) (A : Option Addr) (ln cp : Nat) (zt : List Int) (w : World) (hgn : wrap64 (g + 1) = gn ∧ wrap64 (1 - t) = tn) (hn : SuL.nx ⟨g, c, s, n, l, k, t, ep, fi, b⟩ (wrap64 (1 - t)) ep fi b = some ⟨gn, c, s, n, l, k, tn, ep, fi, b⟩) (hms : mayS g c s n l k t ep fi) (hmn : mayS gn c s n l k tn ep fi) (hp : gn % 2 = 1) {Zs Zn : List Int} (hzs : seal_ (eTo g c s n l k t ep fi 1 (if b then 1 else 0) 11) = Zs) (hzn : seal_ (eTo gn c s n l k tn ep fi 1 (if b then 1 else 0) 11) = Zn) (ht : IsB w A ln cp zt) {o1 : Option Sp} {y0 y1 y2 y3 y4 y5 y6 y7 y8 : Int} {yb : Bool} (hdt : decR zt = some ⟨y0, y1, y2, y3, y4, y5, y6, y7, y8, yb⟩) (hp1 : pkP (dec Zs) (dec zt) = o1) (hp2 : pkP (dec Zs) (dec Zn) = some ⟨gn, c, s, n, l, k, tn, ep, fi, b⟩) (hT : TabAt w) : Calls Tryd.prog 7 #[sv g c s n l k t ep fi b, .slice A ln cp] w fun e' w' => e' = .returned (.bool true) ∧ Fr No w w' := by
  obtain ⟨W, hW⟩ : ∃ W, w.alloc (sbx g c s n l k t ep fi b) = W := ⟨_, rfl⟩
  obtain ⟨X, hX⟩ : ∃ X, w.heap.size = X := ⟨_, rfl⟩
  have FWW := hid (show Fr No w W by rw [← hW]; exact (Fr.refl No w).alloc _)
  have HB := hid (show Blk W X 25 #[.int .i64 g, .int .i64 c, .int .i64 s, .int .i64 n, .int .i64 l, .int .i64 k, .int .i64 t, .int .i64 ep, .int .i64 fi, .bool b] by rw [← hW, ← hX]; exact Blk.new w _ _)
  have x0 : W.cell? ⟨X, 0, none⟩ = some (.int .i64 g) := HB.out.cell 0
  have x1 : W.cell? ⟨X, 1, none⟩ = some (.int .i64 c) := HB.out.cell 1
  have x2 : W.cell? ⟨X, 2, none⟩ = some (.int .i64 s) := HB.out.cell 2
  have x3 : W.cell? ⟨X, 3, none⟩ = some (.int .i64 n) := HB.out.cell 3
  have x4 : W.cell? ⟨X, 4, none⟩ = some (.int .i64 l) := HB.out.cell 4
  have x5 : W.cell? ⟨X, 5, none⟩ = some (.int .i64 k) := HB.out.cell 5
  have x6 : W.cell? ⟨X, 6, none⟩ = some (.int .i64 t) := HB.out.cell 6
  have x7 : W.cell? ⟨X, 7, none⟩ = some (.int .i64 ep) := HB.out.cell 7
  have x8 : W.cell? ⟨X, 8, none⟩ = some (.int .i64 fi) := HB.out.cell 8
  have x9 : W.cell? ⟨X, 9, none⟩ = some (.bool b) := HB.out.cell 9
  have HTC := hid (show ∀ w', Fr No w w' → TabAt w' from fun w' f => hT.fr f (fun h => h))
  have HSS := hid (may_s hms)
  rw [hgn.2] at hn
  have HGN := hgn.2
  have HNX := hid hn
  have HMS := hid hms
  have HMN := hid hmn
  have HP := hid hp
  have HZS := hid hzs
  have HZN := hid hzn
  have IT := hid (ht.fr FWW.out)
  have HDT := hid hdt
  have HP1 := hid hp1
  have HP2 := hid hp2
  clear hT hn hms hmn hp hzs hzn ht hdt hp1 hp2 hgn
  go_enter Tryd.func7, Tryd.ntmps7
  go_upto_region 2 with (first | (go_at_call 24; go_loud (refine (next_some g c s n l k t ep fi b tn ep fi b _ HSS.out HNX.out).mono ?_; rintro e' w2 ⟨rfl, f⟩; replace FWW := hid (FWW.out.trans f); replace HB := hid (Blk.fr HB.out f (fun h => h)); replace IT := hid (IT.out.fr f); clear f x0 x1 x2 x3 x4 x5 x6 x7 x8 x9)) | (refine st_S rfl (.tmp 5) (.tmp 30) rfl w2.heap.size rfl rfl (by simp [Value.oneCell']) (Blk.new w2 _ _) rfl ?_; intro w3 HD0 f3; have f : Fr No w2 w3 := ((Fr.refl No w2).alloc _).step f3 (fun i hi e => by omega); replace FWW := hid (FWW.out.trans f); replace HB := hid (Blk.fr HB.out f (fun h => h)); replace IT := hid (IT.out.fr f); have BN := hid (show Blk w3 w2.heap.size 25 #[.int .i64 gn, .int .i64 c, .int .i64 s, .int .i64 n, .int .i64 l, .int .i64 k, .int .i64 tn, .int .i64 ep, .int .i64 fi, .bool b] from HD0); clear f f3 HD0))
  obtain ⟨D, hD⟩ : ∃ D, w2.heap.size = D := ⟨_, rfl⟩
  rw [hD] at BN ⊢
  clear hD HGN
  go_upto_region 5 with (first | (go_at_call 15; go_loud (refine (lives_ok _ (HTC.out _ FWW.out)).mono ?_; rintro e' w4 ⟨rfl, f⟩; replace FWW := hid (FWW.out.trans f); replace HB := hid (Blk.fr HB.out f (fun h => h)); replace IT := hid (IT.out.fr f); replace BN := hid (Blk.fr BN.out f (fun h => h)); clear f; have x0 : w4.cell? ⟨X, 0, none⟩ = some (.int .i64 g) := Blk.cell HB.out 0; have x1 : w4.cell? ⟨X, 1, none⟩ = some (.int .i64 c) := Blk.cell HB.out 1; have x2 : w4.cell? ⟨X, 2, none⟩ = some (.int .i64 s) := Blk.cell HB.out 2; have x3 : w4.cell? ⟨X, 3, none⟩ = some (.int .i64 n) := Blk.cell HB.out 3; have x4 : w4.cell? ⟨X, 4, none⟩ = some (.int .i64 l) := Blk.cell HB.out 4; have x5 : w4.cell? ⟨X, 5, none⟩ = some (.int .i64 k) := Blk.cell HB.out 5; have x6 : w4.cell? ⟨X, 6, none⟩ = some (.int .i64 t) := Blk.cell HB.out 6; have x7 : w4.cell? ⟨X, 7, none⟩ = some (.int .i64 ep) := Blk.cell HB.out 7; have x8 : w4.cell? ⟨X, 8, none⟩ = some (.int .i64 fi) := Blk.cell HB.out 8; have x9 : w4.cell? ⟨X, 9, none⟩ = some (.bool b) := Blk.cell HB.out 9)) | (go_at_call 14; go_loud (refine (enc_in g c s n l k t ep fi b _ HMS.out (HTC.out _ FWW.out)).mono ?_; rintro e' w5 ⟨qa, rfl, hq, f⟩; rw [HZS.out] at hq; have IA := hid hq; replace FWW := hid (FWW.out.trans f); replace HB := hid (Blk.fr HB.out f (fun h => h)); replace IT := hid (IT.out.fr f); replace BN := hid (Blk.fr BN.out f (fun h => h)); clear f hq x0 x1 x2 x3 x4 x5 x6 x7 x8 x9; have d0 : w5.cell? ⟨D, 0, none⟩ = some (.int .i64 gn) := Blk.cell BN.out 0; have d1 : w5.cell? ⟨D, 1, none⟩ = some (.int .i64 c) := Blk.cell BN.out 1; have d2 : w5.cell? ⟨D, 2, none⟩ = some (.int .i64 s) := Blk.cell BN.out 2; have d3 : w5.cell? ⟨D, 3, none⟩ = some (.int .i64 n) := Blk.cell BN.out 3; have d4 : w5.cell? ⟨D, 4, none⟩ = some (.int .i64 l) := Blk.cell BN.out 4; have d5 : w5.cell? ⟨D, 5, none⟩ = some (.int .i64 k) := Blk.cell BN.out 5; have d6 : w5.cell? ⟨D, 6, none⟩ = some (.int .i64 tn) := Blk.cell BN.out 6; have d7 : w5.cell? ⟨D, 7, none⟩ = some (.int .i64 ep) := Blk.cell BN.out 7; have d8 : w5.cell? ⟨D, 8, none⟩ = some (.int .i64 fi) := Blk.cell BN.out 8; have d9 : w5.cell? ⟨D, 9, none⟩ = some (.bool b) := Blk.cell BN.out 9)))
  go_upto_region 8 with (go_at_call 14; go_loud (refine (enc_in gn c s n l k tn ep fi b _ HMN.out (HTC.out _ FWW.out)).mono ?_; rintro e' w6 ⟨qb, rfl, hq, f⟩; rw [HZN.out] at hq; have IB := hid hq; replace FWW := hid (FWW.out.trans f); replace HB := hid (Blk.fr HB.out f (fun h => h)); replace IT := hid (IT.out.fr f); replace BN := hid (Blk.fr BN.out f (fun h => h)); replace IA := hid (IA.out.fr f); clear f hq d0 d1 d2 d3 d4 d5 d6 d7 d8 d9))
  obtain ⟨L, hL⟩ : ∃ L, w6.heap.size = L := ⟨_, rfl⟩
  obtain ⟨w7, hw7⟩ : ∃ w7, w6.alloc (.cells #[.slice (some ⟨qa, 0, none⟩) 128 128, .slice (some ⟨qa, 0, none⟩) 128 128] 26) = w7 := ⟨_, rfl⟩
  have F6 := hid (show Fr No w6 w7 by rw [← hw7]; exact (Fr.refl No w6).alloc _)
  have BL := hid (show Blk w7 L 26 #[.slice (some ⟨qa, 0, none⟩) 128 128, .slice (some ⟨qa, 0, none⟩) 128 128] by rw [← hw7, ← hL]; exact Blk.new w6 _ _)
  have HL6 := hid (show w6.heap.size ≤ L by omega)
  go_upto_region 9 with fail
  try rw [show w6.alloc (Obj.cells #[Value.slice (some ⟨qa, 0, none⟩) 128 128, Value.slice (some ⟨qa, 0, none⟩) 128 128] 26) = w7 from hw7]
  try rw [hL]
  clear hw7 hL
  have d0 : World.cell? _ ⟨D, 0, none⟩ = some (.int .i64 gn) := Blk.cell (Blk.fr BN.out F6.out (fun h => h)) 0
  have d1 : World.cell? _ ⟨D, 1, none⟩ = some (.int .i64 c) := Blk.cell (Blk.fr BN.out F6.out (fun h => h)) 1
  have d2 : World.cell? _ ⟨D, 2, none⟩ = some (.int .i64 s) := Blk.cell (Blk.fr BN.out F6.out (fun h => h)) 2
  have d3 : World.cell? _ ⟨D, 3, none⟩ = some (.int .i64 n) := Blk.cell (Blk.fr BN.out F6.out (fun h => h)) 3
  have d4 : World.cell? _ ⟨D, 4, none⟩ = some (.int .i64 l) := Blk.cell (Blk.fr BN.out F6.out (fun h => h)) 4
  have d5 : World.cell? _ ⟨D, 5, none⟩ = some (.int .i64 k) := Blk.cell (Blk.fr BN.out F6.out (fun h => h)) 5
  have d6 : World.cell? _ ⟨D, 6, none⟩ = some (.int .i64 tn) := Blk.cell (Blk.fr BN.out F6.out (fun h => h)) 6
  have d7 : World.cell? _ ⟨D, 7, none⟩ = some (.int .i64 ep) := Blk.cell (Blk.fr BN.out F6.out (fun h => h)) 7
  have d8 : World.cell? _ ⟨D, 8, none⟩ = some (.int .i64 fi) := Blk.cell (Blk.fr BN.out F6.out (fun h => h)) 8
  have d9 : World.cell? _ ⟨D, 9, none⟩ = some (.bool b) := Blk.cell (Blk.fr BN.out F6.out (fun h => h)) 9
  have hand : bits BinOp.and IntKind.i64 1 1 = 1 := by kernel_rfl
  go_upto_region 10 with (go_at_call 18; go_loud (refine (copy_lit gn c s n l k tn ep fi b _ 1 HSS.out HMN.out HP.out).mono ?_; rintro e' w8 ⟨rfl, f⟩; replace F6 := hid (F6.out.trans f); replace BL := hid (Blk.fr BL.out f (fun h => h)); clear f d0 d1 d2 d3 d4 d5 d6 d7 d8 d9; have l1 : w8.cell? ⟨L, 1, none⟩ = some (.slice (some ⟨qa, 0, none⟩) 128 128) := Blk.cell BL.out 1; have z1 : w8.frozen? ⟨L, 1, none⟩ = false := Blk.frozen BL.out 1))
  clear l1 z1
  replace F6 := hid (F6.out.setCell (p := ⟨L, 1, none⟩) (fun h => absurd h (by have := HL6.out; simp only []; omega)) (.slice A ln cp))
  replace BL := hid (show Blk (w8.setCell ⟨L, 1, none⟩ (.slice A ln cp)) L 26 #[.slice (some ⟨qa, 0, none⟩) 128 128, .slice A ln cp] from Blk.set_ BL.out 1 (.slice A ln cp))
  generalize World.setCell w8 ⟨L, 1, none⟩ (.slice A ln cp) = w9 at F6 BL ⊢
  have l0 : w9.cell? ⟨L, 0, none⟩ = some (.slice (some ⟨qa, 0, none⟩) 128 128) := Blk.cell BL.out 0
  have l1 : w9.cell? ⟨L, 1, none⟩ = some (.slice A ln cp) := Blk.cell BL.out 1
  have hL9 : L < w9.heap.size := Blk.lt BL.out
  have HLR := hid hL9
  go_cut [12, 13] (fun mp e wx => ∃ M : Nat, mp = .pointer (some ⟨M, 0, none⟩) ∧ e = .int .i64 (outE o1) ∧ BS wx M (outS o1) ∧ M ≠ L ∧ Fr No w9 wx)
  case first =>
    have FW : Hid (Fr No w9 w9) := hid (Fr.refl No _)
    have FW := kd FW
    refine wp_region_noPanic ?_
    refine wp_region_held_drew (S := (fun W' => W'.cell? ⟨L, 0, none⟩ = some (.slice (some ⟨qa, 0, none⟩) 128 128) ∧ W'.cell? ⟨L, 1, none⟩ = some (.slice A ln cp) ∧ Hid (Fr No w9 W'))) (by kernel_rfl) ?_ (fun hHeld => ?_)
    · (try dsimp only); (first | (go_split_ands; exact ⟨kc f (by assumption), kc f (by assumption), by assumption⟩) | (go_split_ands; exact ⟨(by assumption), (by assumption), by assumption⟩) | (go_split_ands; exact ⟨kc (fr1 _ _) (by assumption), kc (fr1 _ _) (by assumption), kfa (by assumption)⟩) | (go_split_ands; exact ⟨kc (fr1d _ _) (by assumption), kc (fr1d _ _) (by assumption), kfae (by assumption)⟩) | (exact ⟨kcs hf2 (by simp only []; omega) hHeld.1, kcs hf2 (by simp only []; omega) hHeld.2.1, kfg (by omega) FW hf2⟩) | (exact ⟨kcs hf2 (by simp only []; omega) hHeld.1, kcs hf2 (by simp only []; omega) hHeld.2.1, kfg (by omega) hHeld.2.2 hf2⟩) | (go_split_ands; exact ⟨kcs hf2 (by simp only []; omega) (by assumption), kcs hf2 (by simp only []; omega) (by assumption), kfg (by omega) (by assumption) hf2⟩))
    refine wpAnyH_take (i := 0) (v := ?v29) rfl (by kernel_rfl) (by kernel_rfl) (by kernel_rfl) (fun _ _ _ h => h) (Or.inl ⟨by kernel_rfl, ?y29⟩) (by assumption) ?_
    case y29 => (intro w hSw; (try dsimp only at hSw); go_simp; all_goals with_reducible rfl)
    try simp only [Act.put, List.getElem_toArray, List.getElem_cons_zero, List.setIfInBounds_toArray, List.set_cons_zero, List.set_cons_succ]
    refine wpAnyH_take (i := 1) (v := ?v30) rfl (by kernel_rfl) (by kernel_rfl) (by kernel_rfl) (fun _ _ _ h => h) (Or.inl ⟨by kernel_rfl, ?y30⟩) (by assumption) ?_
    case y30 => (intro w hSw; (try dsimp only at hSw); go_simp; all_goals with_reducible rfl)
    try simp only [Act.put, List.getElem_toArray, List.getElem_cons_succ, List.getElem_cons_zero, List.setIfInBounds_toArray, List.set_cons_zero, List.set_cons_succ]
    refine wpAnyH_take (i := 2) (v := ?v31) rfl (by kernel_rfl) (by kernel_rfl) (by kernel_rfl) (fun _ _ _ h => h) (Or.inl ⟨by kernel_rfl, ?y31⟩) (by assumption) ?_
    case y31 => (intro w hSw; (try dsimp only at hSw); go_simp; all_goals with_reducible rfl)
    try simp only [Act.put, List.getElem_toArray, List.getElem_cons_succ, List.getElem_cons_zero, List.setIfInBounds_toArray, List.set_cons_zero, List.set_cons_succ]
    refine wpAnyH_take (i := 3) (v := ?v32) rfl (by kernel_rfl) (by kernel_rfl) (by kernel_rfl) (fun _ _ _ h => h) (Or.inl ⟨by kernel_rfl, ?y32⟩) (by assumption) ?_
    case y32 => (intro w hSw; (try dsimp only at hSw); go_simp; all_goals with_reducible rfl)
    try simp only [Act.put, List.getElem_toArray, List.getElem_cons_succ, List.getElem_cons_zero, List.setIfInBounds_toArray, List.set_cons_zero, List.set_cons_succ]
    refine wpAnyH_take (i := 4) (v := ?v33) rfl (by kernel_rfl) (by kernel_rfl) (by kernel_rfl) (fun _ _ _ h => h) (Or.inl ⟨by kernel_rfl, ?y33⟩) (by assumption) ?_
    case y33 => (intro w hSw; (try dsimp only at hSw); go_simp; all_goals with_reducible rfl)
    try simp only [Act.put, List.getElem_toArray, List.getElem_cons_succ, List.getElem_cons_zero, List.setIfInBounds_toArray, List.set_cons_zero, List.set_cons_succ]
    refine wpAnyH_take (i := 5) (v := ?v34) rfl (by kernel_rfl) (by kernel_rfl) (by kernel_rfl) (fun _ _ _ h => h) (Or.inl ⟨by kernel_rfl, ?y34⟩) (by assumption) ?_
    case y34 => (intro w hSw; (try dsimp only at hSw); go_simp; all_goals with_reducible rfl)
    try simp only [Act.put, List.getElem_toArray, List.getElem_cons_succ, List.getElem_cons_zero, List.setIfInBounds_toArray, List.set_cons_zero, List.set_cons_succ]
    refine wpAnyH_ready (rs := [6, 10]) (by kernel_rfl) (by simp) (AllReadyH.cons rfl (fun K hK => ?_) (AllReadyH.cons rfl (fun K hK => ?_) AllReadyH.nil))
    · go_simp
      go_at_call 22
      refine (pick_ok (some ⟨qa, 0, none⟩) 128 128 Zs A ln cp zt _ (IA.out.fr (F6.out.trans hHeld.2.2.out)) (IT.out.fr (F6.out.trans hHeld.2.2.out)) (HTC.out _ (FWW.out.trans (F6.out.trans hHeld.2.2.out)))).mono ?_
      rintro E0 W1 ⟨he, f⟩
      have FW := kf f hHeld.2.2
      rw [HP1.out] at he
      obtain rfl : E0 = .returned (.tuple #[spv (outS o1), .int .i64 (outE o1)]) := he
      (try have MX := hid (Blk.fr MX.out f (fun h => h)))
      (try have hsz1 : w9.heap.size ≤ W1.heap.size := f.size)
      dsimp only
      refine hK.out _ _ ?_ (fun hHeld => ?_)
      · (try dsimp only); (first | (go_split_ands; exact ⟨kc f (by assumption), kc f (by assumption), by assumption⟩) | (go_split_ands; exact ⟨(by assumption), (by assumption), by assumption⟩) | (go_split_ands; exact ⟨kc (fr1 _ _) (by assumption), kc (fr1 _ _) (by assumption), kfa (by assumption)⟩) | (go_split_ands; exact ⟨kc (fr1d _ _) (by assumption), kc (fr1d _ _) (by assumption), kfae (by assumption)⟩) | (exact ⟨kcs hf2 (by simp only []; omega) hHeld.1, kcs hf2 (by simp only []; omega) hHeld.2.1, kfg (by omega) FW hf2⟩) | (exact ⟨kcs hf2 (by simp only []; omega) hHeld.1, kcs hf2 (by simp only []; omega) hHeld.2.1, kfg (by omega) hHeld.2.2 hf2⟩) | (go_split_ands; exact ⟨kcs hf2 (by simp only []; omega) (by assumption), kcs hf2 (by simp only []; omega) (by assumption), kfg (by omega) (by assumption) hf2⟩))
      clear hK K
      try simp only [Act.put, List.getElem_toArray, List.getElem_cons_succ, List.getElem_cons_zero, List.setIfInBounds_toArray, List.set_cons_zero, List.set_cons_succ]
      refine wpAnyH_take (i := 7) (v := ?v35) rfl (by kernel_rfl) (by kernel_rfl) (by kernel_rfl) (fun _ _ _ h => h) (Or.inl ⟨by kernel_rfl, ?y35⟩) (by assumption) ?_
      case y35 => (intro w hSw; (try dsimp only at hSw); go_simp; all_goals with_reducible rfl)
      try simp only [Act.put, List.getElem_toArray, List.getElem_cons_succ, List.getElem_cons_zero, List.setIfInBounds_toArray, List.set_cons_zero, List.set_cons_succ]
      refine wpAnyH_take (i := 8) (v := ?v36) rfl (by kernel_rfl) (by kernel_rfl) (by kernel_rfl) (fun _ _ _ h => h) (Or.inl ⟨by kernel_rfl, ?y36⟩) (by assumption) ?_
      case y36 => (intro w hSw; (try dsimp only at hSw); go_simp; all_goals with_reducible rfl)
      try simp only [Act.put, List.getElem_toArray, List.getElem_cons_succ, List.getElem_cons_zero, List.setIfInBounds_toArray, List.set_cons_zero, List.set_cons_succ]
      refine wpAnyH_take (i := 9) (v := ?v37) rfl (by kernel_rfl) (by kernel_rfl) (by kernel_rfl) (fun _ _ _ h => h) (Or.inl ⟨by kernel_rfl, ?y37⟩) (by assumption) ?_
      case y37 => (intro w hSw; (try dsimp only at hSw); go_simp; all_goals with_reducible rfl)
      try simp only [Act.put, List.getElem_toArray, List.getElem_cons_succ, List.getElem_cons_zero, List.setIfInBounds_toArray, List.set_cons_zero, List.set_cons_succ]
      refine wpAnyH_ready (rs := [10]) (by kernel_rfl) (by simp) (AllReadyH.cons rfl (fun K hK => ?_) AllReadyH.nil)
      go_simp
      refine hK.out _ _ ?_ (fun hHeld => ?_)
      · (try dsimp only); (first | (go_split_ands; exact ⟨kc f (by assumption), kc f (by assumption), by assumption⟩) | (go_split_ands; exact ⟨(by assumption), (by assumption), by assumption⟩) | (go_split_ands; exact ⟨kc (fr1 _ _) (by assumption), kc (fr1 _ _) (by assumption), kfa (by assumption)⟩) | (go_split_ands; exact ⟨kc (fr1d _ _) (by assumption), kc (fr1d _ _) (by assumption), kfae (by assumption)⟩) | (exact ⟨kcs hf2 (by simp only []; omega) hHeld.1, kcs hf2 (by simp only []; omega) hHeld.2.1, kfg (by omega) FW hf2⟩) | (exact ⟨kcs hf2 (by simp only []; omega) hHeld.1, kcs hf2 (by simp only []; omega) hHeld.2.1, kfg (by omega) hHeld.2.2 hf2⟩) | (go_split_ands; exact ⟨kcs hf2 (by simp only []; omega) (by assumption), kcs hf2 (by simp only []; omega) (by assumption), kfg (by omega) (by assumption) hf2⟩))
      clear hK K
      try simp only [Act.put, List.getElem_toArray, List.getElem_cons_succ, List.getElem_cons_zero, List.setIfInBounds_toArray, List.set_cons_zero, List.set_cons_succ]
      have MX := hid (Blk.new W1 25 #[.int .i64 0, .int .i64 0, .int .i64 0, .int .i64 0, .int .i64 0, .int .i64 0, .int .i64 0, .int .i64 0, .int .i64 0, .bool false])
      refine wpAnyH_ready (rs := [11]) (by kernel_rfl) (by simp) (AllReadyH.cons rfl (fun K hK => ?_) AllReadyH.nil)
      refine st_S_step rfl (.tmp 12) (.tmp 76) rfl _ rfl (r := outS o1) rfl MX.out rfl ?_
      intro W2 hb2 hf2
      refine hK.out _ _ ?_ (fun hHeld => ?_)
      · (try dsimp only); (first | (go_split_ands; exact ⟨kc f (by assumption), kc f (by assumption), by assumption⟩) | (go_split_ands; exact ⟨(by assumption), (by assumption), by assumption⟩) | (go_split_ands; exact ⟨kc (fr1 _ _) (by assumption), kc (fr1 _ _) (by assumption), kfa (by assumption)⟩) | (go_split_ands; exact ⟨kc (fr1d _ _) (by assumption), kc (fr1d _ _) (by assumption), kfae (by assumption)⟩) | (exact ⟨kcs hf2 (by simp only []; omega) hHeld.1, kcs hf2 (by simp only []; omega) hHeld.2.1, kfg (by omega) FW hf2⟩) | (exact ⟨kcs hf2 (by simp only []; omega) hHeld.1, kcs hf2 (by simp only []; omega) hHeld.2.1, kfg (by omega) hHeld.2.2 hf2⟩) | (go_split_ands; exact ⟨kcs hf2 (by simp only []; omega) (by assumption), kcs hf2 (by simp only []; omega) (by assumption), kfg (by omega) (by assumption) hf2⟩))
      clear hK K
      try simp only [Act.put, List.getElem_toArray, List.getElem_cons_succ, List.getElem_cons_zero, List.setIfInBounds_toArray, List.set_cons_zero, List.set_cons_succ]
      have FW := hHeld.2.2; have MX := hid hb2; have hne : W1.heap.size ≠ L := (by omega); clear hf2 hb2
      refine wpAnyH_take (i := 12) (v := ?v38) rfl (by kernel_rfl) (by kernel_rfl) (by kernel_rfl) (fun _ _ _ h => h) (Or.inl ⟨by kernel_rfl, ?y38⟩) (by assumption) ?_
      case y38 => (intro w hSw; (try dsimp only at hSw); go_simp; all_goals with_reducible rfl)
      try simp only [Act.put, List.getElem_toArray, List.getElem_cons_succ, List.getElem_cons_zero, List.setIfInBounds_toArray, List.set_cons_zero, List.set_cons_succ]
      refine wpAnyH_done (by kernel_rfl) ?_ _
      refine NoPanic.normal ?_
      go_wp2_with fail
      go_meet
      case rel => exact ⟨_, rfl, rfl, MX.out, hne, FW.out⟩
    · go_simp
      refine hK.out _ _ ?_ (fun hHeld => ?_)
      · (try dsimp only); (first | (go_split_ands; exact ⟨kc f (by assumption), kc f (by assumption), by assumption⟩) | (go_split_ands; exact ⟨(by assumption), (by assumption), by assumption⟩) | (go_split_ands; exact ⟨kc (fr1 _ _) (by assumption), kc (fr1 _ _) (by assumption), kfa (by assumption)⟩) | (go_split_ands; exact ⟨kc (fr1d _ _) (by assumption), kc (fr1d _ _) (by assumption), kfae (by assumption)⟩) | (exact ⟨kcs hf2 (by simp only []; omega) hHeld.1, kcs hf2 (by simp only []; omega) hHeld.2.1, kfg (by omega) FW hf2⟩) | (exact ⟨kcs hf2 (by simp only []; omega) hHeld.1, kcs hf2 (by simp only []; omega) hHeld.2.1, kfg (by omega) hHeld.2.2 hf2⟩) | (go_split_ands; exact ⟨kcs hf2 (by simp only []; omega) (by assumption), kcs hf2 (by simp only []; omega) (by assumption), kfg (by omega) (by assumption) hf2⟩))
      clear hK K
      try simp only [Act.put, List.getElem_toArray, List.getElem_cons_succ, List.getElem_cons_zero, List.setIfInBounds_toArray, List.set_cons_zero, List.set_cons_succ]
      have MX := hid (show Blk (w9.alloc (.cells #[.int .i64 0, .int .i64 0, .int .i64 0, .int .i64 0, .int .i64 0, .int .i64 0, .int .i64 0, .int .i64 0, .int .i64 0, .bool false] 25)).drew w9.heap.size 25 #[.int .i64 0, .int .i64 0, .int .i64 0, .int .i64 0, .int .i64 0, .int .i64 0, .int .i64 0, .int .i64 0, .int .i64 0, .bool false] from Blk.new w9 _ _)
      refine wpAnyH_ready (rs := [6]) (by kernel_rfl) (by simp) (AllReadyH.cons rfl (fun K hK => ?_) AllReadyH.nil)
      go_simp
      go_at_call 22
      refine (pick_ok (some ⟨qa, 0, none⟩) 128 128 Zs A ln cp zt _ (IA.out.fr (F6.out.trans hHeld.2.2.out)) (IT.out.fr (F6.out.trans hHeld.2.2.out)) (HTC.out _ (FWW.out.trans (F6.out.trans hHeld.2.2.out)))).mono ?_
      rintro E0 W1 ⟨he, f⟩
      have FW := kf f hHeld.2.2
      rw [HP1.out] at he
      obtain rfl : E0 = .returned (.tuple #[spv (outS o1), .int .i64 (outE o1)]) := he
      (try have MX := hid (Blk.fr MX.out f (fun h => h)))
      (try have hsz1 : w9.heap.size ≤ W1.heap.size := f.size)
      dsimp only
      refine hK.out _ _ ?_ (fun hHeld => ?_)
      · (try dsimp only); (first | (go_split_ands; exact ⟨kc f (by assumption), kc f (by assumption), by assumption⟩) | (go_split_ands; exact ⟨(by assumption), (by assumption), by assumption⟩) | (go_split_ands; exact ⟨kc (fr1 _ _) (by assumption), kc (fr1 _ _) (by assumption), kfa (by assumption)⟩) | (go_split_ands; exact ⟨kc (fr1d _ _) (by assumption), kc (fr1d _ _) (by assumption), kfae (by assumption)⟩) | (exact ⟨kcs hf2 (by simp only []; omega) hHeld.1, kcs hf2 (by simp only []; omega) hHeld.2.1, kfg (by omega) FW hf2⟩) | (exact ⟨kcs hf2 (by simp only []; omega) hHeld.1, kcs hf2 (by simp only []; omega) hHeld.2.1, kfg (by omega) hHeld.2.2 hf2⟩) | (go_split_ands; exact ⟨kcs hf2 (by simp only []; omega) (by assumption), kcs hf2 (by simp only []; omega) (by assumption), kfg (by omega) (by assumption) hf2⟩))
      clear hK K
      try simp only [Act.put, List.getElem_toArray, List.getElem_cons_succ, List.getElem_cons_zero, List.setIfInBounds_toArray, List.set_cons_zero, List.set_cons_succ]
      refine wpAnyH_take (i := 7) (v := ?v39) rfl (by kernel_rfl) (by kernel_rfl) (by kernel_rfl) (fun _ _ _ h => h) (Or.inl ⟨by kernel_rfl, ?y39⟩) (by assumption) ?_
      case y39 => (intro w hSw; (try dsimp only at hSw); go_simp; all_goals with_reducible rfl)
      try simp only [Act.put, List.getElem_toArray, List.getElem_cons_succ, List.getElem_cons_zero, List.setIfInBounds_toArray, List.set_cons_zero, List.set_cons_succ]
      refine wpAnyH_take (i := 8) (v := ?v40) rfl (by kernel_rfl) (by kernel_rfl) (by kernel_rfl) (fun _ _ _ h => h) (Or.inl ⟨by kernel_rfl, ?y40⟩) (by assumption) ?_
      case y40 => (intro w hSw; (try dsimp only at hSw); go_simp; all_goals with_reducible rfl)
      try simp only [Act.put, List.getElem_toArray, List.getElem_cons_succ, List.getElem_cons_zero, List.setIfInBounds_toArray, List.set_cons_zero, List.set_cons_succ]
      refine wpAnyH_take (i := 9) (v := ?v41) rfl (by kernel_rfl) (by kernel_rfl) (by kernel_rfl) (fun _ _ _ h => h) (Or.inl ⟨by kernel_rfl, ?y41⟩) (by assumption) ?_
      case y41 => (intro w hSw; (try dsimp only at hSw); go_simp; all_goals with_reducible rfl)
      try simp only [Act.put, List.getElem_toArray, List.getElem_cons_succ, List.getElem_cons_zero, List.setIfInBounds_toArray, List.set_cons_zero, List.set_cons_succ]
      refine wpAnyH_ready (rs := [11]) (by kernel_rfl) (by simp) (AllReadyH.cons rfl (fun K hK => ?_) AllReadyH.nil)
      refine st_S_step rfl (.tmp 12) (.tmp 76) rfl _ rfl (r := outS o1) rfl MX.out rfl ?_
      intro W2 hb2 hf2
      refine hK.out _ _ ?_ (fun hHeld => ?_)
      · (try dsimp only); (first | (go_split_ands; exact ⟨kc f (by assumption), kc f (by assumption), by assumption⟩) | (go_split_ands; exact ⟨(by assumption), (by assumption), by assumption⟩) | (go_split_ands; exact ⟨kc (fr1 _ _) (by assumption), kc (fr1 _ _) (by assumption), kfa (by assumption)⟩) | (go_split_ands; exact ⟨kc (fr1d _ _) (by assumption), kc (fr1d _ _) (by assumption), kfae (by assumption)⟩) | (exact ⟨kcs hf2 (by simp only []; omega) hHeld.1, kcs hf2 (by simp only []; omega) hHeld.2.1, kfg (by omega) FW hf2⟩) | (exact ⟨kcs hf2 (by simp only []; omega) hHeld.1, kcs hf2 (by simp only []; omega) hHeld.2.1, kfg (by omega) hHeld.2.2 hf2⟩) | (go_split_ands; exact ⟨kcs hf2 (by simp only []; omega) (by assumption), kcs hf2 (by simp only []; omega) (by assumption), kfg (by omega) (by assumption) hf2⟩))
      clear hK K
      try simp only [Act.put, List.getElem_toArray, List.getElem_cons_succ, List.getElem_cons_zero, List.setIfInBounds_toArray, List.set_cons_zero, List.set_cons_succ]
      have FW := hHeld.2.2; have MX := hid hb2; have hne : w9.heap.size ≠ L := (by omega); clear hf2 hb2
      refine wpAnyH_take (i := 12) (v := ?v42) rfl (by kernel_rfl) (by kernel_rfl) (by kernel_rfl) (fun _ _ _ h => h) (Or.inl ⟨by kernel_rfl, ?y42⟩) (by assumption) ?_
      case y42 => (intro w hSw; (try dsimp only at hSw); go_simp; all_goals with_reducible rfl)
      try simp only [Act.put, List.getElem_toArray, List.getElem_cons_succ, List.getElem_cons_zero, List.setIfInBounds_toArray, List.set_cons_zero, List.set_cons_succ]
      refine wpAnyH_done (by kernel_rfl) ?_ _
      refine NoPanic.normal ?_
      go_wp2_with fail
      go_meet
      case rel => exact ⟨_, rfl, rfl, MX.out, hne, FW.out⟩
  case rest =>
    obtain ⟨M12, rfl, rfl, hb12, hne12, f⟩ := hcut
    have B12 := hid hb12
    have HNE12 := hid hne12
    replace F6 := hid (F6.out.trans f)
    replace BL := hid (Blk.fr BL.out f (fun h => h))
    clear hb12 hne12 f l0 l1 hL9 HLR
    have d0 : World.cell? _ ⟨D, 0, none⟩ = some (.int .i64 gn) := Blk.cell (Blk.fr BN.out F6.out (fun h => h)) 0
    have d1 : World.cell? _ ⟨D, 1, none⟩ = some (.int .i64 c) := Blk.cell (Blk.fr BN.out F6.out (fun h => h)) 1
    have d2 : World.cell? _ ⟨D, 2, none⟩ = some (.int .i64 s) := Blk.cell (Blk.fr BN.out F6.out (fun h => h)) 2
    have d3 : World.cell? _ ⟨D, 3, none⟩ = some (.int .i64 n) := Blk.cell (Blk.fr BN.out F6.out (fun h => h)) 3
    have d4 : World.cell? _ ⟨D, 4, none⟩ = some (.int .i64 l) := Blk.cell (Blk.fr BN.out F6.out (fun h => h)) 4
    have d5 : World.cell? _ ⟨D, 5, none⟩ = some (.int .i64 k) := Blk.cell (Blk.fr BN.out F6.out (fun h => h)) 5
    have d6 : World.cell? _ ⟨D, 6, none⟩ = some (.int .i64 tn) := Blk.cell (Blk.fr BN.out F6.out (fun h => h)) 6
    have d7 : World.cell? _ ⟨D, 7, none⟩ = some (.int .i64 ep) := Blk.cell (Blk.fr BN.out F6.out (fun h => h)) 7
    have d8 : World.cell? _ ⟨D, 8, none⟩ = some (.int .i64 fi) := Blk.cell (Blk.fr BN.out F6.out (fun h => h)) 8
    have d9 : World.cell? _ ⟨D, 9, none⟩ = some (.bool b) := Blk.cell (Blk.fr BN.out F6.out (fun h => h)) 9
    go_upto_region 12 with (go_at_call 18; go_loud (refine (copy_lit gn c s n l k tn ep fi b _ 1 HSS.out HMN.out HP.out).mono ?_; rintro e' w11 ⟨rfl, f⟩; replace F6 := hid (F6.out.trans f); replace BL := hid (Blk.fr BL.out f (fun h => h)); replace B12 := hid (Blk.fr B12.out f (fun h => h)); clear f d0 d1 d2 d3 d4 d5 d6 d7 d8 d9; have l1 : w11.cell? ⟨L, 1, none⟩ = some (.slice A ln cp) := Blk.cell BL.out 1; have z1 : w11.frozen? ⟨L, 1, none⟩ = false := Blk.frozen BL.out 1))
    clear l1 z1
    replace F6 := hid (F6.out.setCell (p := ⟨L, 1, none⟩) (fun h => absurd h (by have := HL6.out; simp only []; omega)) (.slice (some ⟨qb, 0, none⟩) 128 128))
    replace BL := hid (show Blk (w11.setCell ⟨L, 1, none⟩ (.slice (some ⟨qb, 0, none⟩) 128 128)) L 26 #[.slice (some ⟨qa, 0, none⟩) 128 128, .slice (some ⟨qb, 0, none⟩) 128 128] from Blk.set_ BL.out 1 (.slice (some ⟨qb, 0, none⟩) 128 128))
    replace B12 := hid (Blk.far B12.out (p := ⟨L, 1, none⟩) (fun h => HNE12.out h) (.slice (some ⟨qb, 0, none⟩) 128 128))
    generalize World.setCell w11 ⟨L, 1, none⟩ (.slice (some ⟨qb, 0, none⟩) 128 128) = w12 at F6 BL B12 ⊢
    have l0 : w12.cell? ⟨L, 0, none⟩ = some (.slice (some ⟨qa, 0, none⟩) 128 128) := Blk.cell BL.out 0
    have l1 : w12.cell? ⟨L, 1, none⟩ = some (.slice (some ⟨qb, 0, none⟩) 128 128) := Blk.cell BL.out 1
    have hL9 : L < w12.heap.size := Blk.lt BL.out
    have HLR := hid hL9
    go_cut [14, 15] (fun mp e wx => ∃ M : Nat, mp = .pointer (some ⟨M, 0, none⟩) ∧ e = .int .i64 (0) ∧ BS wx M (⟨gn, c, s, n, l, k, tn, ep, fi, b⟩) ∧ M ≠ L ∧ Fr No w12 wx)
    case first =>
      have FW : Hid (Fr No w12 w12) := hid (Fr.refl No _)
      have FW := kd FW
      refine wp_region_noPanic ?_
      refine wp_region_held_drew (S := (fun W' => W'.cell? ⟨L, 0, none⟩ = some (.slice (some ⟨qa, 0, none⟩) 128 128) ∧ W'.cell? ⟨L, 1, none⟩ = some (.slice (some ⟨qb, 0, none⟩) 128 128) ∧ Hid (Fr No w12 W'))) (by kernel_rfl) ?_ (fun hHeld => ?_)
      · (try dsimp only); (first | (go_split_ands; exact ⟨kc f (by assumption), kc f (by assumption), by assumption⟩) | (go_split_ands; exact ⟨(by assumption), (by assumption), by assumption⟩) | (go_split_ands; exact ⟨kc (fr1 _ _) (by assumption), kc (fr1 _ _) (by assumption), kfa (by assumption)⟩) | (go_split_ands; exact ⟨kc (fr1d _ _) (by assumption), kc (fr1d _ _) (by assumption), kfae (by assumption)⟩) | (exact ⟨kcs hf2 (by simp only []; omega) hHeld.1, kcs hf2 (by simp only []; omega) hHeld.2.1, kfg (by omega) FW hf2⟩) | (exact ⟨kcs hf2 (by simp only []; omega) hHeld.1, kcs hf2 (by simp only []; omega) hHeld.2.1, kfg (by omega) hHeld.2.2 hf2⟩) | (go_split_ands; exact ⟨kcs hf2 (by simp only []; omega) (by assumption), kcs hf2 (by simp only []; omega) (by assumption), kfg (by omega) (by assumption) hf2⟩))
      refine wpAnyH_take (i := 0) (v := ?v43) rfl (by kernel_rfl) (by kernel_rfl) (by kernel_rfl) (fun _ _ _ h => h) (Or.inl ⟨by kernel_rfl, ?y43⟩) (by assumption) ?_
      case y43 => (intro w hSw; (try dsimp only at hSw); go_simp; all_goals with_reducible rfl)
      try simp only [Act.put, List.getElem_toArray, List.getElem_cons_zero, List.setIfInBounds_toArray, List.set_cons_zero, List.set_cons_succ]
      refine wpAnyH_take (i := 1) (v := ?v44) rfl (by kernel_rfl) (by kernel_rfl) (by kernel_rfl) (fun _ _ _ h => h) (Or.inl ⟨by kernel_rfl, ?y44⟩) (by assumption) ?_
      case y44 => (intro w hSw; (try dsimp only at hSw); go_simp; all_goals with_reducible rfl)
      try simp only [Act.put, List.getElem_toArray, List.getElem_cons_succ, List.getElem_cons_zero, List.setIfInBounds_toArray, List.set_cons_zero, List.set_cons_succ]
      refine wpAnyH_take (i := 2) (v := ?v45) rfl (by kernel_rfl) (by kernel_rfl) (by kernel_rfl) (fun _ _ _ h => h) (Or.inl ⟨by kernel_rfl, ?y45⟩) (by assumption) ?_
      case y45 => (intro w hSw; (try dsimp only at hSw); go_simp; all_goals with_reducible rfl)
      try simp only [Act.put, List.getElem_toArray, List.getElem_cons_succ, List.getElem_cons_zero, List.setIfInBounds_toArray, List.set_cons_zero, List.set_cons_succ]
      refine wpAnyH_take (i := 3) (v := ?v46) rfl (by kernel_rfl) (by kernel_rfl) (by kernel_rfl) (fun _ _ _ h => h) (Or.inl ⟨by kernel_rfl, ?y46⟩) (by assumption) ?_
      case y46 => (intro w hSw; (try dsimp only at hSw); go_simp; all_goals with_reducible rfl)
      try simp only [Act.put, List.getElem_toArray, List.getElem_cons_succ, List.getElem_cons_zero, List.setIfInBounds_toArray, List.set_cons_zero, List.set_cons_succ]
      refine wpAnyH_take (i := 4) (v := ?v47) rfl (by kernel_rfl) (by kernel_rfl) (by kernel_rfl) (fun _ _ _ h => h) (Or.inl ⟨by kernel_rfl, ?y47⟩) (by assumption) ?_
      case y47 => (intro w hSw; (try dsimp only at hSw); go_simp; all_goals with_reducible rfl)
      try simp only [Act.put, List.getElem_toArray, List.getElem_cons_succ, List.getElem_cons_zero, List.setIfInBounds_toArray, List.set_cons_zero, List.set_cons_succ]
      refine wpAnyH_take (i := 5) (v := ?v48) rfl (by kernel_rfl) (by kernel_rfl) (by kernel_rfl) (fun _ _ _ h => h) (Or.inl ⟨by kernel_rfl, ?y48⟩) (by assumption) ?_
      case y48 => (intro w hSw; (try dsimp only at hSw); go_simp; all_goals with_reducible rfl)
      try simp only [Act.put, List.getElem_toArray, List.getElem_cons_succ, List.getElem_cons_zero, List.setIfInBounds_toArray, List.set_cons_zero, List.set_cons_succ]
      refine wpAnyH_ready (rs := [6, 10]) (by kernel_rfl) (by simp) (AllReadyH.cons rfl (fun K hK => ?_) (AllReadyH.cons rfl (fun K hK => ?_) AllReadyH.nil))
      · go_simp
        go_at_call 22
        refine (pick_ok (some ⟨qa, 0, none⟩) 128 128 Zs (some ⟨qb, 0, none⟩) 128 128 Zn _ (IA.out.fr (F6.out.trans hHeld.2.2.out)) (IB.out.fr (F6.out.trans hHeld.2.2.out)) (HTC.out _ (FWW.out.trans (F6.out.trans hHeld.2.2.out)))).mono ?_
        rintro E0 W1 ⟨he, f⟩
        have FW := kf f hHeld.2.2
        rw [HP2.out] at he
        obtain rfl : E0 = .returned (.tuple #[spv (⟨gn, c, s, n, l, k, tn, ep, fi, b⟩), .int .i64 (0)]) := he
        (try have MX := hid (Blk.fr MX.out f (fun h => h)))
        (try have hsz1 : w12.heap.size ≤ W1.heap.size := f.size)
        dsimp only
        refine hK.out _ _ ?_ (fun hHeld => ?_)
        · (try dsimp only); (first | (go_split_ands; exact ⟨kc f (by assumption), kc f (by assumption), by assumption⟩) | (go_split_ands; exact ⟨(by assumption), (by assumption), by assumption⟩) | (go_split_ands; exact ⟨kc (fr1 _ _) (by assumption), kc (fr1 _ _) (by assumption), kfa (by assumption)⟩) | (go_split_ands; exact ⟨kc (fr1d _ _) (by assumption), kc (fr1d _ _) (by assumption), kfae (by assumption)⟩) | (exact ⟨kcs hf2 (by simp only []; omega) hHeld.1, kcs hf2 (by simp only []; omega) hHeld.2.1, kfg (by omega) FW hf2⟩) | (exact ⟨kcs hf2 (by simp only []; omega) hHeld.1, kcs hf2 (by simp only []; omega) hHeld.2.1, kfg (by omega) hHeld.2.2 hf2⟩) | (go_split_ands; exact ⟨kcs hf2 (by simp only []; omega) (by assumption), kcs hf2 (by simp only []; omega) (by assumption), kfg (by omega) (by assumption) hf2⟩))
        clear hK K
        try simp only [Act.put, List.getElem_toArray, List.getElem_cons_succ, List.getElem_cons_zero, List.setIfInBounds_toArray, List.set_cons_zero, List.set_cons_succ]
        refine wpAnyH_take (i := 7) (v := ?v49) rfl (by kernel_rfl) (by kernel_rfl) (by kernel_rfl) (fun _ _ _ h => h) (Or.inl ⟨by kernel_rfl, ?y49⟩) (by assumption) ?_
        case y49 => (intro w hSw; (try dsimp only at hSw); go_simp; all_goals with_reducible rfl)
        try simp only [Act.put, List.getElem_toArray, List.getElem_cons_succ, List.getElem_cons_zero, List.setIfInBounds_toArray, List.set_cons_zero, List.set_cons_succ]
        refine wpAnyH_take (i := 8) (v := ?v50) rfl (by kernel_rfl) (by kernel_rfl) (by kernel_rfl) (fun _ _ _ h => h) (Or.inl ⟨by kernel_rfl, ?y50⟩) (by assumption) ?_
        case y50 => (intro w hSw; (try dsimp only at hSw); go_simp; all_goals with_reducible rfl)
        try simp only [Act.put, List.getElem_toArray, List.getElem_cons_succ, List.getElem_cons_zero, List.setIfInBounds_toArray, List.set_cons_zero, List.set_cons_succ]
        refine wpAnyH_take (i := 9) (v := ?v51) rfl (by kernel_rfl) (by kernel_rfl) (by kernel_rfl) (fun _ _ _ h => h) (Or.inl ⟨by kernel_rfl, ?y51⟩) (by assumption) ?_
        case y51 => (intro w hSw; (try dsimp only at hSw); go_simp; all_goals with_reducible rfl)
        try simp only [Act.put, List.getElem_toArray, List.getElem_cons_succ, List.getElem_cons_zero, List.setIfInBounds_toArray, List.set_cons_zero, List.set_cons_succ]
        refine wpAnyH_ready (rs := [10]) (by kernel_rfl) (by simp) (AllReadyH.cons rfl (fun K hK => ?_) AllReadyH.nil)
        go_simp
        refine hK.out _ _ ?_ (fun hHeld => ?_)
        · (try dsimp only); (first | (go_split_ands; exact ⟨kc f (by assumption), kc f (by assumption), by assumption⟩) | (go_split_ands; exact ⟨(by assumption), (by assumption), by assumption⟩) | (go_split_ands; exact ⟨kc (fr1 _ _) (by assumption), kc (fr1 _ _) (by assumption), kfa (by assumption)⟩) | (go_split_ands; exact ⟨kc (fr1d _ _) (by assumption), kc (fr1d _ _) (by assumption), kfae (by assumption)⟩) | (exact ⟨kcs hf2 (by simp only []; omega) hHeld.1, kcs hf2 (by simp only []; omega) hHeld.2.1, kfg (by omega) FW hf2⟩) | (exact ⟨kcs hf2 (by simp only []; omega) hHeld.1, kcs hf2 (by simp only []; omega) hHeld.2.1, kfg (by omega) hHeld.2.2 hf2⟩) | (go_split_ands; exact ⟨kcs hf2 (by simp only []; omega) (by assumption), kcs hf2 (by simp only []; omega) (by assumption), kfg (by omega) (by assumption) hf2⟩))
        clear hK K
        try simp only [Act.put, List.getElem_toArray, List.getElem_cons_succ, List.getElem_cons_zero, List.setIfInBounds_toArray, List.set_cons_zero, List.set_cons_succ]
        have MX := hid (Blk.new W1 25 #[.int .i64 0, .int .i64 0, .int .i64 0, .int .i64 0, .int .i64 0, .int .i64 0, .int .i64 0, .int .i64 0, .int .i64 0, .bool false])
        refine wpAnyH_ready (rs := [11]) (by kernel_rfl) (by simp) (AllReadyH.cons rfl (fun K hK => ?_) AllReadyH.nil)
        refine st_S_step rfl (.tmp 14) (.tmp 92) rfl _ rfl (r := ⟨gn, c, s, n, l, k, tn, ep, fi, b⟩) rfl MX.out rfl ?_
        intro W2 hb2 hf2
        refine hK.out _ _ ?_ (fun hHeld => ?_)
        · (try dsimp only); (first | (go_split_ands; exact ⟨kc f (by assumption), kc f (by assumption), by assumption⟩) | (go_split_ands; exact ⟨(by assumption), (by assumption), by assumption⟩) | (go_split_ands; exact ⟨kc (fr1 _ _) (by assumption), kc (fr1 _ _) (by assumption), kfa (by assumption)⟩) | (go_split_ands; exact ⟨kc (fr1d _ _) (by assumption), kc (fr1d _ _) (by assumption), kfae (by assumption)⟩) | (exact ⟨kcs hf2 (by simp only []; omega) hHeld.1, kcs hf2 (by simp only []; omega) hHeld.2.1, kfg (by omega) FW hf2⟩) | (exact ⟨kcs hf2 (by simp only []; omega) hHeld.1, kcs hf2 (by simp only []; omega) hHeld.2.1, kfg (by omega) hHeld.2.2 hf2⟩) | (go_split_ands; exact ⟨kcs hf2 (by simp only []; omega) (by assumption), kcs hf2 (by simp only []; omega) (by assumption), kfg (by omega) (by assumption) hf2⟩))
        clear hK K
        try simp only [Act.put, List.getElem_toArray, List.getElem_cons_succ, List.getElem_cons_zero, List.setIfInBounds_toArray, List.set_cons_zero, List.set_cons_succ]
        have FW := hHeld.2.2; have MX := hid hb2; have hne : W1.heap.size ≠ L := (by omega); clear hf2 hb2
        refine wpAnyH_take (i := 12) (v := ?v52) rfl (by kernel_rfl) (by kernel_rfl) (by kernel_rfl) (fun _ _ _ h => h) (Or.inl ⟨by kernel_rfl, ?y52⟩) (by assumption) ?_
        case y52 => (intro w hSw; (try dsimp only at hSw); go_simp; all_goals with_reducible rfl)
        try simp only [Act.put, List.getElem_toArray, List.getElem_cons_succ, List.getElem_cons_zero, List.setIfInBounds_toArray, List.set_cons_zero, List.set_cons_succ]
        refine wpAnyH_done (by kernel_rfl) ?_ _
        refine NoPanic.normal ?_
        go_wp2_with fail
        go_meet
        case rel => exact ⟨_, rfl, rfl, MX.out, hne, FW.out⟩
      · go_simp
        refine hK.out _ _ ?_ (fun hHeld => ?_)
        · (try dsimp only); (first | (go_split_ands; exact ⟨kc f (by assumption), kc f (by assumption), by assumption⟩) | (go_split_ands; exact ⟨(by assumption), (by assumption), by assumption⟩) | (go_split_ands; exact ⟨kc (fr1 _ _) (by assumption), kc (fr1 _ _) (by assumption), kfa (by assumption)⟩) | (go_split_ands; exact ⟨kc (fr1d _ _) (by assumption), kc (fr1d _ _) (by assumption), kfae (by assumption)⟩) | (exact ⟨kcs hf2 (by simp only []; omega) hHeld.1, kcs hf2 (by simp only []; omega) hHeld.2.1, kfg (by omega) FW hf2⟩) | (exact ⟨kcs hf2 (by simp only []; omega) hHeld.1, kcs hf2 (by simp only []; omega) hHeld.2.1, kfg (by omega) hHeld.2.2 hf2⟩) | (go_split_ands; exact ⟨kcs hf2 (by simp only []; omega) (by assumption), kcs hf2 (by simp only []; omega) (by assumption), kfg (by omega) (by assumption) hf2⟩))
        clear hK K
        try simp only [Act.put, List.getElem_toArray, List.getElem_cons_succ, List.getElem_cons_zero, List.setIfInBounds_toArray, List.set_cons_zero, List.set_cons_succ]
        have MX := hid (show Blk (w12.alloc (.cells #[.int .i64 0, .int .i64 0, .int .i64 0, .int .i64 0, .int .i64 0, .int .i64 0, .int .i64 0, .int .i64 0, .int .i64 0, .bool false] 25)).drew w12.heap.size 25 #[.int .i64 0, .int .i64 0, .int .i64 0, .int .i64 0, .int .i64 0, .int .i64 0, .int .i64 0, .int .i64 0, .int .i64 0, .bool false] from Blk.new w12 _ _)
        refine wpAnyH_ready (rs := [6]) (by kernel_rfl) (by simp) (AllReadyH.cons rfl (fun K hK => ?_) AllReadyH.nil)
        go_simp
        go_at_call 22
        refine (pick_ok (some ⟨qa, 0, none⟩) 128 128 Zs (some ⟨qb, 0, none⟩) 128 128 Zn _ (IA.out.fr (F6.out.trans hHeld.2.2.out)) (IB.out.fr (F6.out.trans hHeld.2.2.out)) (HTC.out _ (FWW.out.trans (F6.out.trans hHeld.2.2.out)))).mono ?_
        rintro E0 W1 ⟨he, f⟩
        have FW := kf f hHeld.2.2
        rw [HP2.out] at he
        obtain rfl : E0 = .returned (.tuple #[spv (⟨gn, c, s, n, l, k, tn, ep, fi, b⟩), .int .i64 (0)]) := he
        (try have MX := hid (Blk.fr MX.out f (fun h => h)))
        (try have hsz1 : w12.heap.size ≤ W1.heap.size := f.size)
        dsimp only
        refine hK.out _ _ ?_ (fun hHeld => ?_)
        · (try dsimp only); (first | (go_split_ands; exact ⟨kc f (by assumption), kc f (by assumption), by assumption⟩) | (go_split_ands; exact ⟨(by assumption), (by assumption), by assumption⟩) | (go_split_ands; exact ⟨kc (fr1 _ _) (by assumption), kc (fr1 _ _) (by assumption), kfa (by assumption)⟩) | (go_split_ands; exact ⟨kc (fr1d _ _) (by assumption), kc (fr1d _ _) (by assumption), kfae (by assumption)⟩) | (exact ⟨kcs hf2 (by simp only []; omega) hHeld.1, kcs hf2 (by simp only []; omega) hHeld.2.1, kfg (by omega) FW hf2⟩) | (exact ⟨kcs hf2 (by simp only []; omega) hHeld.1, kcs hf2 (by simp only []; omega) hHeld.2.1, kfg (by omega) hHeld.2.2 hf2⟩) | (go_split_ands; exact ⟨kcs hf2 (by simp only []; omega) (by assumption), kcs hf2 (by simp only []; omega) (by assumption), kfg (by omega) (by assumption) hf2⟩))
        clear hK K
        try simp only [Act.put, List.getElem_toArray, List.getElem_cons_succ, List.getElem_cons_zero, List.setIfInBounds_toArray, List.set_cons_zero, List.set_cons_succ]
        refine wpAnyH_take (i := 7) (v := ?v53) rfl (by kernel_rfl) (by kernel_rfl) (by kernel_rfl) (fun _ _ _ h => h) (Or.inl ⟨by kernel_rfl, ?y53⟩) (by assumption) ?_
        case y53 => (intro w hSw; (try dsimp only at hSw); go_simp; all_goals with_reducible rfl)
        try simp only [Act.put, List.getElem_toArray, List.getElem_cons_succ, List.getElem_cons_zero, List.setIfInBounds_toArray, List.set_cons_zero, List.set_cons_succ]
        refine wpAnyH_take (i := 8) (v := ?v54) rfl (by kernel_rfl) (by kernel_rfl) (by kernel_rfl) (fun _ _ _ h => h) (Or.inl ⟨by kernel_rfl, ?y54⟩) (by assumption) ?_
        case y54 => (intro w hSw; (try dsimp only at hSw); go_simp; all_goals with_reducible rfl)
        try simp only [Act.put, List.getElem_toArray, List.getElem_cons_succ, List.getElem_cons_zero, List.setIfInBounds_toArray, List.set_cons_zero, List.set_cons_succ]
        refine wpAnyH_take (i := 9) (v := ?v55) rfl (by kernel_rfl) (by kernel_rfl) (by kernel_rfl) (fun _ _ _ h => h) (Or.inl ⟨by kernel_rfl, ?y55⟩) (by assumption) ?_
        case y55 => (intro w hSw; (try dsimp only at hSw); go_simp; all_goals with_reducible rfl)
        try simp only [Act.put, List.getElem_toArray, List.getElem_cons_succ, List.getElem_cons_zero, List.setIfInBounds_toArray, List.set_cons_zero, List.set_cons_succ]
        refine wpAnyH_ready (rs := [11]) (by kernel_rfl) (by simp) (AllReadyH.cons rfl (fun K hK => ?_) AllReadyH.nil)
        refine st_S_step rfl (.tmp 14) (.tmp 92) rfl _ rfl (r := ⟨gn, c, s, n, l, k, tn, ep, fi, b⟩) rfl MX.out rfl ?_
        intro W2 hb2 hf2
        refine hK.out _ _ ?_ (fun hHeld => ?_)
        · (try dsimp only); (first | (go_split_ands; exact ⟨kc f (by assumption), kc f (by assumption), by assumption⟩) | (go_split_ands; exact ⟨(by assumption), (by assumption), by assumption⟩) | (go_split_ands; exact ⟨kc (fr1 _ _) (by assumption), kc (fr1 _ _) (by assumption), kfa (by assumption)⟩) | (go_split_ands; exact ⟨kc (fr1d _ _) (by assumption), kc (fr1d _ _) (by assumption), kfae (by assumption)⟩) | (exact ⟨kcs hf2 (by simp only []; omega) hHeld.1, kcs hf2 (by simp only []; omega) hHeld.2.1, kfg (by omega) FW hf2⟩) | (exact ⟨kcs hf2 (by simp only []; omega) hHeld.1, kcs hf2 (by simp only []; omega) hHeld.2.1, kfg (by omega) hHeld.2.2 hf2⟩) | (go_split_ands; exact ⟨kcs hf2 (by simp only []; omega) (by assumption), kcs hf2 (by simp only []; omega) (by assumption), kfg (by omega) (by assumption) hf2⟩))
        clear hK K
        try simp only [Act.put, List.getElem_toArray, List.getElem_cons_succ, List.getElem_cons_zero, List.setIfInBounds_toArray, List.set_cons_zero, List.set_cons_succ]
        have FW := hHeld.2.2; have MX := hid hb2; have hne : w12.heap.size ≠ L := (by omega); clear hf2 hb2
        refine wpAnyH_take (i := 12) (v := ?v56) rfl (by kernel_rfl) (by kernel_rfl) (by kernel_rfl) (fun _ _ _ h => h) (Or.inl ⟨by kernel_rfl, ?y56⟩) (by assumption) ?_
        case y56 => (intro w hSw; (try dsimp only at hSw); go_simp; all_goals with_reducible rfl)
        try simp only [Act.put, List.getElem_toArray, List.getElem_cons_succ, List.getElem_cons_zero, List.setIfInBounds_toArray, List.set_cons_zero, List.set_cons_succ]
        refine wpAnyH_done (by kernel_rfl) ?_ _
        refine NoPanic.normal ?_
        go_wp2_with fail
        go_meet
        case rel => exact ⟨_, rfl, rfl, MX.out, hne, FW.out⟩
    case rest =>
      obtain ⟨M14, rfl, rfl, hb14, hne14, f⟩ := hcut
      replace F6 := hid (F6.out.trans f)
      have B14 := hid hb14
      replace B12 := hid (Blk.fr B12.out f (fun h => h))
      clear hb14 hne14 f l0 l1 hL9 HLR
      go_wp2_with (first | (go_at_call 21; go_loud (refine (rdec_some A ln cp zt _ (IT.out.fr F6.out) HDT.out).mono ?_; rintro e' w15 ⟨rfl, f⟩; replace F6 := hid (F6.out.trans f); replace B14 := hid (Blk.fr B14.out f (fun h => h)); replace B12 := hid (Blk.fr B12.out f (fun h => h)); clear f)) | (refine st_S rfl (.tmp 16) (.tmp 97) rfl w15.heap.size rfl rfl (by simp [Value.oneCell']) (Blk.new w15 _ _) rfl ?_; intro w16 _ f3; have f : Fr No w15 w16 := ((Fr.refl No w15).alloc _).step f3 (fun i hi e => by omega); replace F6 := hid (F6.out.trans f); replace B14 := hid (Blk.fr B14.out f (fun h => h)); replace B12 := hid (Blk.fr B12.out f (fun h => h)); clear f f3; have u0 : w16.cell? ⟨M14, 0, none⟩ = some (.int .i64 gn) := Blk.cell B14.out 0; have u1 : w16.cell? ⟨M14, 1, none⟩ = some (.int .i64 c) := Blk.cell B14.out 1; have u2 : w16.cell? ⟨M14, 2, none⟩ = some (.int .i64 s) := Blk.cell B14.out 2; have u3 : w16.cell? ⟨M14, 3, none⟩ = some (.int .i64 n) := Blk.cell B14.out 3; have u4 : w16.cell? ⟨M14, 4, none⟩ = some (.int .i64 l) := Blk.cell B14.out 4; have u5 : w16.cell? ⟨M14, 5, none⟩ = some (.int .i64 k) := Blk.cell B14.out 5; have u6 : w16.cell? ⟨M14, 6, none⟩ = some (.int .i64 tn) := Blk.cell B14.out 6; have u7 : w16.cell? ⟨M14, 7, none⟩ = some (.int .i64 ep) := Blk.cell B14.out 7; have u8 : w16.cell? ⟨M14, 8, none⟩ = some (.int .i64 fi) := Blk.cell B14.out 8; have u9 : w16.cell? ⟨M14, 9, none⟩ = some (.bool b) := Blk.cell B14.out 9; have d0 : w16.cell? ⟨D, 0, none⟩ = some (.int .i64 gn) := Blk.cell (Blk.fr BN.out F6.out (fun h => h)) 0; have d1 : w16.cell? ⟨D, 1, none⟩ = some (.int .i64 c) := Blk.cell (Blk.fr BN.out F6.out (fun h => h)) 1; have d2 : w16.cell? ⟨D, 2, none⟩ = some (.int .i64 s) := Blk.cell (Blk.fr BN.out F6.out (fun h => h)) 2; have d3 : w16.cell? ⟨D, 3, none⟩ = some (.int .i64 n) := Blk.cell (Blk.fr BN.out F6.out (fun h => h)) 3; have d4 : w16.cell? ⟨D, 4, none⟩ = some (.int .i64 l) := Blk.cell (Blk.fr BN.out F6.out (fun h => h)) 4; have d5 : w16.cell? ⟨D, 5, none⟩ = some (.int .i64 k) := Blk.cell (Blk.fr BN.out F6.out (fun h => h)) 5; have d6 : w16.cell? ⟨D, 6, none⟩ = some (.int .i64 tn) := Blk.cell (Blk.fr BN.out F6.out (fun h => h)) 6; have d7 : w16.cell? ⟨D, 7, none⟩ = some (.int .i64 ep) := Blk.cell (Blk.fr BN.out F6.out (fun h => h)) 7; have d8 : w16.cell? ⟨D, 8, none⟩ = some (.int .i64 fi) := Blk.cell (Blk.fr BN.out F6.out (fun h => h)) 8; have d9 : w16.cell? ⟨D, 9, none⟩ = some (.bool b) := Blk.cell (Blk.fr BN.out F6.out (fun h => h)) 9))
      go_ret
      exact ⟨rfl, FWW.out.trans F6.out⟩
set_option maxRecDepth 100000 in
set_option maxHeartbeats 8000000 in
theorem stays_0n (g c s n l k t ep fi : Int) (b : Bool) (gn tn : Int) (A : Option Addr) (ln cp : Nat) (zt : List Int) (w : World) (hgn : wrap64 (g + 1) = gn ∧ wrap64 (1 - t) = tn) (hn : SuL.nx ⟨g, c, s, n, l, k, t, ep, fi, b⟩ (wrap64 (1 - t)) ep fi b = some ⟨gn, c, s, n, l, k, tn, ep, fi, b⟩) (hms : mayS g c s n l k t ep fi) (hmn : mayS gn c s n l k tn ep fi) (hp : gn % 2 = 0) {Zs Zn : List Int} (hzs : seal_ (eTo g c s n l k t ep fi 1 (if b then 1 else 0) 11) = Zs) (hzn : seal_ (eTo gn c s n l k tn ep fi 1 (if b then 1 else 0) 11) = Zn) (ht : IsB w A ln cp zt) (hdt : decR zt = none) (hp1 : pkP (dec zt) (dec Zs) = some ⟨g, c, s, n, l, k, t, ep, fi, b⟩) (hp2 : pkP (dec Zn) (dec Zs) = some ⟨gn, c, s, n, l, k, tn, ep, fi, b⟩) (hT : TabAt w) : Calls Tryd.prog 7 #[sv g c s n l k t ep fi b, .slice A ln cp] w fun e' w' => e' = .returned (.bool true) ∧ Fr No w w' := by
  obtain ⟨W, hW⟩ : ∃ W, w.alloc (sbx g c s n l k t ep fi b) = W := ⟨_, rfl⟩
  obtain ⟨X, hX⟩ : ∃ X, w.heap.size = X := ⟨_, rfl⟩
  have FWW := hid (show Fr No w W by rw [← hW]; exact (Fr.refl No w).alloc _)
  have HB := hid (show Blk W X 25 #[.int .i64 g, .int .i64 c, .int .i64 s, .int .i64 n, .int .i64 l, .int .i64 k, .int .i64 t, .int .i64 ep, .int .i64 fi, .bool b] by rw [← hW, ← hX]; exact Blk.new w _ _)
  have x0 : W.cell? ⟨X, 0, none⟩ = some (.int .i64 g) := HB.out.cell 0
  have x1 : W.cell? ⟨X, 1, none⟩ = some (.int .i64 c) := HB.out.cell 1
  have x2 : W.cell? ⟨X, 2, none⟩ = some (.int .i64 s) := HB.out.cell 2
  have x3 : W.cell? ⟨X, 3, none⟩ = some (.int .i64 n) := HB.out.cell 3
  have x4 : W.cell? ⟨X, 4, none⟩ = some (.int .i64 l) := HB.out.cell 4
  have x5 : W.cell? ⟨X, 5, none⟩ = some (.int .i64 k) := HB.out.cell 5
  have x6 : W.cell? ⟨X, 6, none⟩ = some (.int .i64 t) := HB.out.cell 6
  have x7 : W.cell? ⟨X, 7, none⟩ = some (.int .i64 ep) := HB.out.cell 7
  have x8 : W.cell? ⟨X, 8, none⟩ = some (.int .i64 fi) := HB.out.cell 8
  have x9 : W.cell? ⟨X, 9, none⟩ = some (.bool b) := HB.out.cell 9
  have HTC := hid (show ∀ w', Fr No w w' → TabAt w' from fun w' f => hT.fr f (fun h => h))
  have HSS := hid (may_s hms)
  rw [hgn.2] at hn
  have HGN := hgn.2
  have HNX := hid hn
  have HMS := hid hms
  have HMN := hid hmn
  have HP := hid hp
  have HZS := hid hzs
  have HZN := hid hzn
  have IT := hid (ht.fr FWW.out)
  have HDT := hid hdt
  have HP1 := hid hp1
  have HP2 := hid hp2
  clear hT hn hms hmn hp hzs hzn ht hdt hp1 hp2 hgn
  go_enter Tryd.func7, Tryd.ntmps7
  go_upto_region 2 with (first | (go_at_call 24; go_loud (refine (next_some g c s n l k t ep fi b tn ep fi b _ HSS.out HNX.out).mono ?_; rintro e' w2 ⟨rfl, f⟩; replace FWW := hid (FWW.out.trans f); replace HB := hid (Blk.fr HB.out f (fun h => h)); replace IT := hid (IT.out.fr f); clear f x0 x1 x2 x3 x4 x5 x6 x7 x8 x9)) | (refine st_S rfl (.tmp 5) (.tmp 30) rfl w2.heap.size rfl rfl (by simp [Value.oneCell']) (Blk.new w2 _ _) rfl ?_; intro w3 HD0 f3; have f : Fr No w2 w3 := ((Fr.refl No w2).alloc _).step f3 (fun i hi e => by omega); replace FWW := hid (FWW.out.trans f); replace HB := hid (Blk.fr HB.out f (fun h => h)); replace IT := hid (IT.out.fr f); have BN := hid (show Blk w3 w2.heap.size 25 #[.int .i64 gn, .int .i64 c, .int .i64 s, .int .i64 n, .int .i64 l, .int .i64 k, .int .i64 tn, .int .i64 ep, .int .i64 fi, .bool b] from HD0); clear f f3 HD0))
  obtain ⟨D, hD⟩ : ∃ D, w2.heap.size = D := ⟨_, rfl⟩
  rw [hD] at BN ⊢
  clear hD HGN
  go_upto_region 5 with (first | (go_at_call 15; go_loud (refine (lives_ok _ (HTC.out _ FWW.out)).mono ?_; rintro e' w4 ⟨rfl, f⟩; replace FWW := hid (FWW.out.trans f); replace HB := hid (Blk.fr HB.out f (fun h => h)); replace IT := hid (IT.out.fr f); replace BN := hid (Blk.fr BN.out f (fun h => h)); clear f; have x0 : w4.cell? ⟨X, 0, none⟩ = some (.int .i64 g) := Blk.cell HB.out 0; have x1 : w4.cell? ⟨X, 1, none⟩ = some (.int .i64 c) := Blk.cell HB.out 1; have x2 : w4.cell? ⟨X, 2, none⟩ = some (.int .i64 s) := Blk.cell HB.out 2; have x3 : w4.cell? ⟨X, 3, none⟩ = some (.int .i64 n) := Blk.cell HB.out 3; have x4 : w4.cell? ⟨X, 4, none⟩ = some (.int .i64 l) := Blk.cell HB.out 4; have x5 : w4.cell? ⟨X, 5, none⟩ = some (.int .i64 k) := Blk.cell HB.out 5; have x6 : w4.cell? ⟨X, 6, none⟩ = some (.int .i64 t) := Blk.cell HB.out 6; have x7 : w4.cell? ⟨X, 7, none⟩ = some (.int .i64 ep) := Blk.cell HB.out 7; have x8 : w4.cell? ⟨X, 8, none⟩ = some (.int .i64 fi) := Blk.cell HB.out 8; have x9 : w4.cell? ⟨X, 9, none⟩ = some (.bool b) := Blk.cell HB.out 9)) | (go_at_call 14; go_loud (refine (enc_in g c s n l k t ep fi b _ HMS.out (HTC.out _ FWW.out)).mono ?_; rintro e' w5 ⟨qa, rfl, hq, f⟩; rw [HZS.out] at hq; have IA := hid hq; replace FWW := hid (FWW.out.trans f); replace HB := hid (Blk.fr HB.out f (fun h => h)); replace IT := hid (IT.out.fr f); replace BN := hid (Blk.fr BN.out f (fun h => h)); clear f hq x0 x1 x2 x3 x4 x5 x6 x7 x8 x9; have d0 : w5.cell? ⟨D, 0, none⟩ = some (.int .i64 gn) := Blk.cell BN.out 0; have d1 : w5.cell? ⟨D, 1, none⟩ = some (.int .i64 c) := Blk.cell BN.out 1; have d2 : w5.cell? ⟨D, 2, none⟩ = some (.int .i64 s) := Blk.cell BN.out 2; have d3 : w5.cell? ⟨D, 3, none⟩ = some (.int .i64 n) := Blk.cell BN.out 3; have d4 : w5.cell? ⟨D, 4, none⟩ = some (.int .i64 l) := Blk.cell BN.out 4; have d5 : w5.cell? ⟨D, 5, none⟩ = some (.int .i64 k) := Blk.cell BN.out 5; have d6 : w5.cell? ⟨D, 6, none⟩ = some (.int .i64 tn) := Blk.cell BN.out 6; have d7 : w5.cell? ⟨D, 7, none⟩ = some (.int .i64 ep) := Blk.cell BN.out 7; have d8 : w5.cell? ⟨D, 8, none⟩ = some (.int .i64 fi) := Blk.cell BN.out 8; have d9 : w5.cell? ⟨D, 9, none⟩ = some (.bool b) := Blk.cell BN.out 9)))
  go_upto_region 8 with (go_at_call 14; go_loud (refine (enc_in gn c s n l k tn ep fi b _ HMN.out (HTC.out _ FWW.out)).mono ?_; rintro e' w6 ⟨qb, rfl, hq, f⟩; rw [HZN.out] at hq; have IB := hid hq; replace FWW := hid (FWW.out.trans f); replace HB := hid (Blk.fr HB.out f (fun h => h)); replace IT := hid (IT.out.fr f); replace BN := hid (Blk.fr BN.out f (fun h => h)); replace IA := hid (IA.out.fr f); clear f hq d0 d1 d2 d3 d4 d5 d6 d7 d8 d9))
  obtain ⟨L, hL⟩ : ∃ L, w6.heap.size = L := ⟨_, rfl⟩
  obtain ⟨w7, hw7⟩ : ∃ w7, w6.alloc (.cells #[.slice (some ⟨qa, 0, none⟩) 128 128, .slice (some ⟨qa, 0, none⟩) 128 128] 26) = w7 := ⟨_, rfl⟩
  have F6 := hid (show Fr No w6 w7 by rw [← hw7]; exact (Fr.refl No w6).alloc _)
  have BL := hid (show Blk w7 L 26 #[.slice (some ⟨qa, 0, none⟩) 128 128, .slice (some ⟨qa, 0, none⟩) 128 128] by rw [← hw7, ← hL]; exact Blk.new w6 _ _)
  have HL6 := hid (show w6.heap.size ≤ L by omega)
  go_upto_region 9 with fail
  try rw [show w6.alloc (Obj.cells #[Value.slice (some ⟨qa, 0, none⟩) 128 128, Value.slice (some ⟨qa, 0, none⟩) 128 128] 26) = w7 from hw7]
  try rw [hL]
  clear hw7 hL
  have d0 : World.cell? _ ⟨D, 0, none⟩ = some (.int .i64 gn) := Blk.cell (Blk.fr BN.out F6.out (fun h => h)) 0
  have d1 : World.cell? _ ⟨D, 1, none⟩ = some (.int .i64 c) := Blk.cell (Blk.fr BN.out F6.out (fun h => h)) 1
  have d2 : World.cell? _ ⟨D, 2, none⟩ = some (.int .i64 s) := Blk.cell (Blk.fr BN.out F6.out (fun h => h)) 2
  have d3 : World.cell? _ ⟨D, 3, none⟩ = some (.int .i64 n) := Blk.cell (Blk.fr BN.out F6.out (fun h => h)) 3
  have d4 : World.cell? _ ⟨D, 4, none⟩ = some (.int .i64 l) := Blk.cell (Blk.fr BN.out F6.out (fun h => h)) 4
  have d5 : World.cell? _ ⟨D, 5, none⟩ = some (.int .i64 k) := Blk.cell (Blk.fr BN.out F6.out (fun h => h)) 5
  have d6 : World.cell? _ ⟨D, 6, none⟩ = some (.int .i64 tn) := Blk.cell (Blk.fr BN.out F6.out (fun h => h)) 6
  have d7 : World.cell? _ ⟨D, 7, none⟩ = some (.int .i64 ep) := Blk.cell (Blk.fr BN.out F6.out (fun h => h)) 7
  have d8 : World.cell? _ ⟨D, 8, none⟩ = some (.int .i64 fi) := Blk.cell (Blk.fr BN.out F6.out (fun h => h)) 8
  have d9 : World.cell? _ ⟨D, 9, none⟩ = some (.bool b) := Blk.cell (Blk.fr BN.out F6.out (fun h => h)) 9
  have hand : bits BinOp.and IntKind.i64 0 1 = 0 := by kernel_rfl
  go_upto_region 10 with (go_at_call 18; go_loud (refine (copy_lit gn c s n l k tn ep fi b _ 0 HSS.out HMN.out HP.out).mono ?_; rintro e' w8 ⟨rfl, f⟩; replace F6 := hid (F6.out.trans f); replace BL := hid (Blk.fr BL.out f (fun h => h)); clear f d0 d1 d2 d3 d4 d5 d6 d7 d8 d9; have l0 : w8.cell? ⟨L, 0, none⟩ = some (.slice (some ⟨qa, 0, none⟩) 128 128) := Blk.cell BL.out 0; have z0 : w8.frozen? ⟨L, 0, none⟩ = false := Blk.frozen BL.out 0))
  clear l0 z0
  replace F6 := hid (F6.out.setCell (p := ⟨L, 0, none⟩) (fun h => absurd h (by have := HL6.out; simp only []; omega)) (.slice A ln cp))
  replace BL := hid (show Blk (w8.setCell ⟨L, 0, none⟩ (.slice A ln cp)) L 26 #[.slice A ln cp, .slice (some ⟨qa, 0, none⟩) 128 128] from Blk.set_ BL.out 0 (.slice A ln cp))
  generalize World.setCell w8 ⟨L, 0, none⟩ (.slice A ln cp) = w9 at F6 BL ⊢
  have l0 : w9.cell? ⟨L, 0, none⟩ = some (.slice A ln cp) := Blk.cell BL.out 0
  have l1 : w9.cell? ⟨L, 1, none⟩ = some (.slice (some ⟨qa, 0, none⟩) 128 128) := Blk.cell BL.out 1
  have hL9 : L < w9.heap.size := Blk.lt BL.out
  have HLR := hid hL9
  go_cut [12, 13] (fun mp e wx => ∃ M : Nat, mp = .pointer (some ⟨M, 0, none⟩) ∧ e = .int .i64 (0) ∧ BS wx M (⟨g, c, s, n, l, k, t, ep, fi, b⟩) ∧ M ≠ L ∧ Fr No w9 wx)
  case first =>
    have FW : Hid (Fr No w9 w9) := hid (Fr.refl No _)
    have FW := kd FW
    refine wp_region_noPanic ?_
    refine wp_region_held_drew (S := (fun W' => W'.cell? ⟨L, 0, none⟩ = some (.slice A ln cp) ∧ W'.cell? ⟨L, 1, none⟩ = some (.slice (some ⟨qa, 0, none⟩) 128 128) ∧ Hid (Fr No w9 W'))) (by kernel_rfl) ?_ (fun hHeld => ?_)
    · (try dsimp only); (first | (go_split_ands; exact ⟨kc f (by assumption), kc f (by assumption), by assumption⟩) | (go_split_ands; exact ⟨(by assumption), (by assumption), by assumption⟩) | (go_split_ands; exact ⟨kc (fr1 _ _) (by assumption), kc (fr1 _ _) (by assumption), kfa (by assumption)⟩) | (go_split_ands; exact ⟨kc (fr1d _ _) (by assumption), kc (fr1d _ _) (by assumption), kfae (by assumption)⟩) | (exact ⟨kcs hf2 (by simp only []; omega) hHeld.1, kcs hf2 (by simp only []; omega) hHeld.2.1, kfg (by omega) FW hf2⟩) | (exact ⟨kcs hf2 (by simp only []; omega) hHeld.1, kcs hf2 (by simp only []; omega) hHeld.2.1, kfg (by omega) hHeld.2.2 hf2⟩) | (go_split_ands; exact ⟨kcs hf2 (by simp only []; omega) (by assumption), kcs hf2 (by simp only []; omega) (by assumption), kfg (by omega) (by assumption) hf2⟩))
    refine wpAnyH_take (i := 0) (v := ?v57) rfl (by kernel_rfl) (by kernel_rfl) (by kernel_rfl) (fun _ _ _ h => h) (Or.inl ⟨by kernel_rfl, ?y57⟩) (by assumption) ?_
    case y57 => (intro w hSw; (try dsimp only at hSw); go_simp; all_goals with_reducible rfl)
    try simp only [Act.put, List.getElem_toArray, List.getElem_cons_zero, List.setIfInBounds_toArray, List.set_cons_zero, List.set_cons_succ]
    refine wpAnyH_take (i := 1) (v := ?v58) rfl (by kernel_rfl) (by kernel_rfl) (by kernel_rfl) (fun _ _ _ h => h) (Or.inl ⟨by kernel_rfl, ?y58⟩) (by assumption) ?_
    case y58 => (intro w hSw; (try dsimp only at hSw); go_simp; all_goals with_reducible rfl)
    try simp only [Act.put, List.getElem_toArray, List.getElem_cons_succ, List.getElem_cons_zero, List.setIfInBounds_toArray, List.set_cons_zero, List.set_cons_succ]
    refine wpAnyH_take (i := 2) (v := ?v59) rfl (by kernel_rfl) (by kernel_rfl) (by kernel_rfl) (fun _ _ _ h => h) (Or.inl ⟨by kernel_rfl, ?y59⟩) (by assumption) ?_
    case y59 => (intro w hSw; (try dsimp only at hSw); go_simp; all_goals with_reducible rfl)
    try simp only [Act.put, List.getElem_toArray, List.getElem_cons_succ, List.getElem_cons_zero, List.setIfInBounds_toArray, List.set_cons_zero, List.set_cons_succ]
    refine wpAnyH_take (i := 3) (v := ?v60) rfl (by kernel_rfl) (by kernel_rfl) (by kernel_rfl) (fun _ _ _ h => h) (Or.inl ⟨by kernel_rfl, ?y60⟩) (by assumption) ?_
    case y60 => (intro w hSw; (try dsimp only at hSw); go_simp; all_goals with_reducible rfl)
    try simp only [Act.put, List.getElem_toArray, List.getElem_cons_succ, List.getElem_cons_zero, List.setIfInBounds_toArray, List.set_cons_zero, List.set_cons_succ]
    refine wpAnyH_take (i := 4) (v := ?v61) rfl (by kernel_rfl) (by kernel_rfl) (by kernel_rfl) (fun _ _ _ h => h) (Or.inl ⟨by kernel_rfl, ?y61⟩) (by assumption) ?_
    case y61 => (intro w hSw; (try dsimp only at hSw); go_simp; all_goals with_reducible rfl)
    try simp only [Act.put, List.getElem_toArray, List.getElem_cons_succ, List.getElem_cons_zero, List.setIfInBounds_toArray, List.set_cons_zero, List.set_cons_succ]
    refine wpAnyH_take (i := 5) (v := ?v62) rfl (by kernel_rfl) (by kernel_rfl) (by kernel_rfl) (fun _ _ _ h => h) (Or.inl ⟨by kernel_rfl, ?y62⟩) (by assumption) ?_
    case y62 => (intro w hSw; (try dsimp only at hSw); go_simp; all_goals with_reducible rfl)
    try simp only [Act.put, List.getElem_toArray, List.getElem_cons_succ, List.getElem_cons_zero, List.setIfInBounds_toArray, List.set_cons_zero, List.set_cons_succ]
    refine wpAnyH_ready (rs := [6, 10]) (by kernel_rfl) (by simp) (AllReadyH.cons rfl (fun K hK => ?_) (AllReadyH.cons rfl (fun K hK => ?_) AllReadyH.nil))
    · go_simp
      go_at_call 22
      refine (pick_ok A ln cp zt (some ⟨qa, 0, none⟩) 128 128 Zs _ (IT.out.fr (F6.out.trans hHeld.2.2.out)) (IA.out.fr (F6.out.trans hHeld.2.2.out)) (HTC.out _ (FWW.out.trans (F6.out.trans hHeld.2.2.out)))).mono ?_
      rintro E0 W1 ⟨he, f⟩
      have FW := kf f hHeld.2.2
      rw [HP1.out] at he
      obtain rfl : E0 = .returned (.tuple #[spv (⟨g, c, s, n, l, k, t, ep, fi, b⟩), .int .i64 (0)]) := he
      (try have MX := hid (Blk.fr MX.out f (fun h => h)))
      (try have hsz1 : w9.heap.size ≤ W1.heap.size := f.size)
      dsimp only
      refine hK.out _ _ ?_ (fun hHeld => ?_)
      · (try dsimp only); (first | (go_split_ands; exact ⟨kc f (by assumption), kc f (by assumption), by assumption⟩) | (go_split_ands; exact ⟨(by assumption), (by assumption), by assumption⟩) | (go_split_ands; exact ⟨kc (fr1 _ _) (by assumption), kc (fr1 _ _) (by assumption), kfa (by assumption)⟩) | (go_split_ands; exact ⟨kc (fr1d _ _) (by assumption), kc (fr1d _ _) (by assumption), kfae (by assumption)⟩) | (exact ⟨kcs hf2 (by simp only []; omega) hHeld.1, kcs hf2 (by simp only []; omega) hHeld.2.1, kfg (by omega) FW hf2⟩) | (exact ⟨kcs hf2 (by simp only []; omega) hHeld.1, kcs hf2 (by simp only []; omega) hHeld.2.1, kfg (by omega) hHeld.2.2 hf2⟩) | (go_split_ands; exact ⟨kcs hf2 (by simp only []; omega) (by assumption), kcs hf2 (by simp only []; omega) (by assumption), kfg (by omega) (by assumption) hf2⟩))
      clear hK K
      try simp only [Act.put, List.getElem_toArray, List.getElem_cons_succ, List.getElem_cons_zero, List.setIfInBounds_toArray, List.set_cons_zero, List.set_cons_succ]
      refine wpAnyH_take (i := 7) (v := ?v63) rfl (by kernel_rfl) (by kernel_rfl) (by kernel_rfl) (fun _ _ _ h => h) (Or.inl ⟨by kernel_rfl, ?y63⟩) (by assumption) ?_
      case y63 => (intro w hSw; (try dsimp only at hSw); go_simp; all_goals with_reducible rfl)
      try simp only [Act.put, List.getElem_toArray, List.getElem_cons_succ, List.getElem_cons_zero, List.setIfInBounds_toArray, List.set_cons_zero, List.set_cons_succ]
      refine wpAnyH_take (i := 8) (v := ?v64) rfl (by kernel_rfl) (by kernel_rfl) (by kernel_rfl) (fun _ _ _ h => h) (Or.inl ⟨by kernel_rfl, ?y64⟩) (by assumption) ?_
      case y64 => (intro w hSw; (try dsimp only at hSw); go_simp; all_goals with_reducible rfl)
      try simp only [Act.put, List.getElem_toArray, List.getElem_cons_succ, List.getElem_cons_zero, List.setIfInBounds_toArray, List.set_cons_zero, List.set_cons_succ]
      refine wpAnyH_take (i := 9) (v := ?v65) rfl (by kernel_rfl) (by kernel_rfl) (by kernel_rfl) (fun _ _ _ h => h) (Or.inl ⟨by kernel_rfl, ?y65⟩) (by assumption) ?_
      case y65 => (intro w hSw; (try dsimp only at hSw); go_simp; all_goals with_reducible rfl)
      try simp only [Act.put, List.getElem_toArray, List.getElem_cons_succ, List.getElem_cons_zero, List.setIfInBounds_toArray, List.set_cons_zero, List.set_cons_succ]
      refine wpAnyH_ready (rs := [10]) (by kernel_rfl) (by simp) (AllReadyH.cons rfl (fun K hK => ?_) AllReadyH.nil)
      go_simp
      refine hK.out _ _ ?_ (fun hHeld => ?_)
      · (try dsimp only); (first | (go_split_ands; exact ⟨kc f (by assumption), kc f (by assumption), by assumption⟩) | (go_split_ands; exact ⟨(by assumption), (by assumption), by assumption⟩) | (go_split_ands; exact ⟨kc (fr1 _ _) (by assumption), kc (fr1 _ _) (by assumption), kfa (by assumption)⟩) | (go_split_ands; exact ⟨kc (fr1d _ _) (by assumption), kc (fr1d _ _) (by assumption), kfae (by assumption)⟩) | (exact ⟨kcs hf2 (by simp only []; omega) hHeld.1, kcs hf2 (by simp only []; omega) hHeld.2.1, kfg (by omega) FW hf2⟩) | (exact ⟨kcs hf2 (by simp only []; omega) hHeld.1, kcs hf2 (by simp only []; omega) hHeld.2.1, kfg (by omega) hHeld.2.2 hf2⟩) | (go_split_ands; exact ⟨kcs hf2 (by simp only []; omega) (by assumption), kcs hf2 (by simp only []; omega) (by assumption), kfg (by omega) (by assumption) hf2⟩))
      clear hK K
      try simp only [Act.put, List.getElem_toArray, List.getElem_cons_succ, List.getElem_cons_zero, List.setIfInBounds_toArray, List.set_cons_zero, List.set_cons_succ]
      have MX := hid (Blk.new W1 25 #[.int .i64 0, .int .i64 0, .int .i64 0, .int .i64 0, .int .i64 0, .int .i64 0, .int .i64 0, .int .i64 0, .int .i64 0, .bool false])
      refine wpAnyH_ready (rs := [11]) (by kernel_rfl) (by simp) (AllReadyH.cons rfl (fun K hK => ?_) AllReadyH.nil)
      refine st_S_step rfl (.tmp 12) (.tmp 76) rfl _ rfl (r := ⟨g, c, s, n, l, k, t, ep, fi, b⟩) rfl MX.out rfl ?_
      intro W2 hb2 hf2
      refine hK.out _ _ ?_ (fun hHeld => ?_)
      · (try dsimp only); (first | (go_split_ands; exact ⟨kc f (by assumption), kc f (by assumption), by assumption⟩) | (go_split_ands; exact ⟨(by assumption), (by assumption), by assumption⟩) | (go_split_ands; exact ⟨kc (fr1 _ _) (by assumption), kc (fr1 _ _) (by assumption), kfa (by assumption)⟩) | (go_split_ands; exact ⟨kc (fr1d _ _) (by assumption), kc (fr1d _ _) (by assumption), kfae (by assumption)⟩) | (exact ⟨kcs hf2 (by simp only []; omega) hHeld.1, kcs hf2 (by simp only []; omega) hHeld.2.1, kfg (by omega) FW hf2⟩) | (exact ⟨kcs hf2 (by simp only []; omega) hHeld.1, kcs hf2 (by simp only []; omega) hHeld.2.1, kfg (by omega) hHeld.2.2 hf2⟩) | (go_split_ands; exact ⟨kcs hf2 (by simp only []; omega) (by assumption), kcs hf2 (by simp only []; omega) (by assumption), kfg (by omega) (by assumption) hf2⟩))
      clear hK K
      try simp only [Act.put, List.getElem_toArray, List.getElem_cons_succ, List.getElem_cons_zero, List.setIfInBounds_toArray, List.set_cons_zero, List.set_cons_succ]
      have FW := hHeld.2.2; have MX := hid hb2; have hne : W1.heap.size ≠ L := (by omega); clear hf2 hb2
      refine wpAnyH_take (i := 12) (v := ?v66) rfl (by kernel_rfl) (by kernel_rfl) (by kernel_rfl) (fun _ _ _ h => h) (Or.inl ⟨by kernel_rfl, ?y66⟩) (by assumption) ?_
      case y66 => (intro w hSw; (try dsimp only at hSw); go_simp; all_goals with_reducible rfl)
      try simp only [Act.put, List.getElem_toArray, List.getElem_cons_succ, List.getElem_cons_zero, List.setIfInBounds_toArray, List.set_cons_zero, List.set_cons_succ]
      refine wpAnyH_done (by kernel_rfl) ?_ _
      refine NoPanic.normal ?_
      go_wp2_with fail
      go_meet
      case rel => exact ⟨_, rfl, rfl, MX.out, hne, FW.out⟩
    · go_simp
      refine hK.out _ _ ?_ (fun hHeld => ?_)
      · (try dsimp only); (first | (go_split_ands; exact ⟨kc f (by assumption), kc f (by assumption), by assumption⟩) | (go_split_ands; exact ⟨(by assumption), (by assumption), by assumption⟩) | (go_split_ands; exact ⟨kc (fr1 _ _) (by assumption), kc (fr1 _ _) (by assumption), kfa (by assumption)⟩) | (go_split_ands; exact ⟨kc (fr1d _ _) (by assumption), kc (fr1d _ _) (by assumption), kfae (by assumption)⟩) | (exact ⟨kcs hf2 (by simp only []; omega) hHeld.1, kcs hf2 (by simp only []; omega) hHeld.2.1, kfg (by omega) FW hf2⟩) | (exact ⟨kcs hf2 (by simp only []; omega) hHeld.1, kcs hf2 (by simp only []; omega) hHeld.2.1, kfg (by omega) hHeld.2.2 hf2⟩) | (go_split_ands; exact ⟨kcs hf2 (by simp only []; omega) (by assumption), kcs hf2 (by simp only []; omega) (by assumption), kfg (by omega) (by assumption) hf2⟩))
      clear hK K
      try simp only [Act.put, List.getElem_toArray, List.getElem_cons_succ, List.getElem_cons_zero, List.setIfInBounds_toArray, List.set_cons_zero, List.set_cons_succ]
      have MX := hid (show Blk (w9.alloc (.cells #[.int .i64 0, .int .i64 0, .int .i64 0, .int .i64 0, .int .i64 0, .int .i64 0, .int .i64 0, .int .i64 0, .int .i64 0, .bool false] 25)).drew w9.heap.size 25 #[.int .i64 0, .int .i64 0, .int .i64 0, .int .i64 0, .int .i64 0, .int .i64 0, .int .i64 0, .int .i64 0, .int .i64 0, .bool false] from Blk.new w9 _ _)
      refine wpAnyH_ready (rs := [6]) (by kernel_rfl) (by simp) (AllReadyH.cons rfl (fun K hK => ?_) AllReadyH.nil)
      go_simp
      go_at_call 22
      refine (pick_ok A ln cp zt (some ⟨qa, 0, none⟩) 128 128 Zs _ (IT.out.fr (F6.out.trans hHeld.2.2.out)) (IA.out.fr (F6.out.trans hHeld.2.2.out)) (HTC.out _ (FWW.out.trans (F6.out.trans hHeld.2.2.out)))).mono ?_
      rintro E0 W1 ⟨he, f⟩
      have FW := kf f hHeld.2.2
      rw [HP1.out] at he
      obtain rfl : E0 = .returned (.tuple #[spv (⟨g, c, s, n, l, k, t, ep, fi, b⟩), .int .i64 (0)]) := he
      (try have MX := hid (Blk.fr MX.out f (fun h => h)))
      (try have hsz1 : w9.heap.size ≤ W1.heap.size := f.size)
      dsimp only
      refine hK.out _ _ ?_ (fun hHeld => ?_)
      · (try dsimp only); (first | (go_split_ands; exact ⟨kc f (by assumption), kc f (by assumption), by assumption⟩) | (go_split_ands; exact ⟨(by assumption), (by assumption), by assumption⟩) | (go_split_ands; exact ⟨kc (fr1 _ _) (by assumption), kc (fr1 _ _) (by assumption), kfa (by assumption)⟩) | (go_split_ands; exact ⟨kc (fr1d _ _) (by assumption), kc (fr1d _ _) (by assumption), kfae (by assumption)⟩) | (exact ⟨kcs hf2 (by simp only []; omega) hHeld.1, kcs hf2 (by simp only []; omega) hHeld.2.1, kfg (by omega) FW hf2⟩) | (exact ⟨kcs hf2 (by simp only []; omega) hHeld.1, kcs hf2 (by simp only []; omega) hHeld.2.1, kfg (by omega) hHeld.2.2 hf2⟩) | (go_split_ands; exact ⟨kcs hf2 (by simp only []; omega) (by assumption), kcs hf2 (by simp only []; omega) (by assumption), kfg (by omega) (by assumption) hf2⟩))
      clear hK K
      try simp only [Act.put, List.getElem_toArray, List.getElem_cons_succ, List.getElem_cons_zero, List.setIfInBounds_toArray, List.set_cons_zero, List.set_cons_succ]
      refine wpAnyH_take (i := 7) (v := ?v67) rfl (by kernel_rfl) (by kernel_rfl) (by kernel_rfl) (fun _ _ _ h => h) (Or.inl ⟨by kernel_rfl, ?y67⟩) (by assumption) ?_
      case y67 => (intro w hSw; (try dsimp only at hSw); go_simp; all_goals with_reducible rfl)
      try simp only [Act.put, List.getElem_toArray, List.getElem_cons_succ, List.getElem_cons_zero, List.setIfInBounds_toArray, List.set_cons_zero, List.set_cons_succ]
      refine wpAnyH_take (i := 8) (v := ?v68) rfl (by kernel_rfl) (by kernel_rfl) (by kernel_rfl) (fun _ _ _ h => h) (Or.inl ⟨by kernel_rfl, ?y68⟩) (by assumption) ?_
      case y68 => (intro w hSw; (try dsimp only at hSw); go_simp; all_goals with_reducible rfl)
      try simp only [Act.put, List.getElem_toArray, List.getElem_cons_succ, List.getElem_cons_zero, List.setIfInBounds_toArray, List.set_cons_zero, List.set_cons_succ]
      refine wpAnyH_take (i := 9) (v := ?v69) rfl (by kernel_rfl) (by kernel_rfl) (by kernel_rfl) (fun _ _ _ h => h) (Or.inl ⟨by kernel_rfl, ?y69⟩) (by assumption) ?_
      case y69 => (intro w hSw; (try dsimp only at hSw); go_simp; all_goals with_reducible rfl)
      try simp only [Act.put, List.getElem_toArray, List.getElem_cons_succ, List.getElem_cons_zero, List.setIfInBounds_toArray, List.set_cons_zero, List.set_cons_succ]
      refine wpAnyH_ready (rs := [11]) (by kernel_rfl) (by simp) (AllReadyH.cons rfl (fun K hK => ?_) AllReadyH.nil)
      refine st_S_step rfl (.tmp 12) (.tmp 76) rfl _ rfl (r := ⟨g, c, s, n, l, k, t, ep, fi, b⟩) rfl MX.out rfl ?_
      intro W2 hb2 hf2
      refine hK.out _ _ ?_ (fun hHeld => ?_)
      · (try dsimp only); (first | (go_split_ands; exact ⟨kc f (by assumption), kc f (by assumption), by assumption⟩) | (go_split_ands; exact ⟨(by assumption), (by assumption), by assumption⟩) | (go_split_ands; exact ⟨kc (fr1 _ _) (by assumption), kc (fr1 _ _) (by assumption), kfa (by assumption)⟩) | (go_split_ands; exact ⟨kc (fr1d _ _) (by assumption), kc (fr1d _ _) (by assumption), kfae (by assumption)⟩) | (exact ⟨kcs hf2 (by simp only []; omega) hHeld.1, kcs hf2 (by simp only []; omega) hHeld.2.1, kfg (by omega) FW hf2⟩) | (exact ⟨kcs hf2 (by simp only []; omega) hHeld.1, kcs hf2 (by simp only []; omega) hHeld.2.1, kfg (by omega) hHeld.2.2 hf2⟩) | (go_split_ands; exact ⟨kcs hf2 (by simp only []; omega) (by assumption), kcs hf2 (by simp only []; omega) (by assumption), kfg (by omega) (by assumption) hf2⟩))
      clear hK K
      try simp only [Act.put, List.getElem_toArray, List.getElem_cons_succ, List.getElem_cons_zero, List.setIfInBounds_toArray, List.set_cons_zero, List.set_cons_succ]
      have FW := hHeld.2.2; have MX := hid hb2; have hne : w9.heap.size ≠ L := (by omega); clear hf2 hb2
      refine wpAnyH_take (i := 12) (v := ?v70) rfl (by kernel_rfl) (by kernel_rfl) (by kernel_rfl) (fun _ _ _ h => h) (Or.inl ⟨by kernel_rfl, ?y70⟩) (by assumption) ?_
      case y70 => (intro w hSw; (try dsimp only at hSw); go_simp; all_goals with_reducible rfl)
      try simp only [Act.put, List.getElem_toArray, List.getElem_cons_succ, List.getElem_cons_zero, List.setIfInBounds_toArray, List.set_cons_zero, List.set_cons_succ]
      refine wpAnyH_done (by kernel_rfl) ?_ _
      refine NoPanic.normal ?_
      go_wp2_with fail
      go_meet
      case rel => exact ⟨_, rfl, rfl, MX.out, hne, FW.out⟩
  case rest =>
    obtain ⟨M12, rfl, rfl, hb12, hne12, f⟩ := hcut
    have B12 := hid hb12
    have HNE12 := hid hne12
    replace F6 := hid (F6.out.trans f)
    replace BL := hid (Blk.fr BL.out f (fun h => h))
    clear hb12 hne12 f l0 l1 hL9 HLR
    have d0 : World.cell? _ ⟨D, 0, none⟩ = some (.int .i64 gn) := Blk.cell (Blk.fr BN.out F6.out (fun h => h)) 0
    have d1 : World.cell? _ ⟨D, 1, none⟩ = some (.int .i64 c) := Blk.cell (Blk.fr BN.out F6.out (fun h => h)) 1
    have d2 : World.cell? _ ⟨D, 2, none⟩ = some (.int .i64 s) := Blk.cell (Blk.fr BN.out F6.out (fun h => h)) 2
    have d3 : World.cell? _ ⟨D, 3, none⟩ = some (.int .i64 n) := Blk.cell (Blk.fr BN.out F6.out (fun h => h)) 3
    have d4 : World.cell? _ ⟨D, 4, none⟩ = some (.int .i64 l) := Blk.cell (Blk.fr BN.out F6.out (fun h => h)) 4
    have d5 : World.cell? _ ⟨D, 5, none⟩ = some (.int .i64 k) := Blk.cell (Blk.fr BN.out F6.out (fun h => h)) 5
    have d6 : World.cell? _ ⟨D, 6, none⟩ = some (.int .i64 tn) := Blk.cell (Blk.fr BN.out F6.out (fun h => h)) 6
    have d7 : World.cell? _ ⟨D, 7, none⟩ = some (.int .i64 ep) := Blk.cell (Blk.fr BN.out F6.out (fun h => h)) 7
    have d8 : World.cell? _ ⟨D, 8, none⟩ = some (.int .i64 fi) := Blk.cell (Blk.fr BN.out F6.out (fun h => h)) 8
    have d9 : World.cell? _ ⟨D, 9, none⟩ = some (.bool b) := Blk.cell (Blk.fr BN.out F6.out (fun h => h)) 9
    go_upto_region 12 with (go_at_call 18; go_loud (refine (copy_lit gn c s n l k tn ep fi b _ 0 HSS.out HMN.out HP.out).mono ?_; rintro e' w11 ⟨rfl, f⟩; replace F6 := hid (F6.out.trans f); replace BL := hid (Blk.fr BL.out f (fun h => h)); replace B12 := hid (Blk.fr B12.out f (fun h => h)); clear f d0 d1 d2 d3 d4 d5 d6 d7 d8 d9; have l0 : w11.cell? ⟨L, 0, none⟩ = some (.slice A ln cp) := Blk.cell BL.out 0; have z0 : w11.frozen? ⟨L, 0, none⟩ = false := Blk.frozen BL.out 0))
    clear l0 z0
    replace F6 := hid (F6.out.setCell (p := ⟨L, 0, none⟩) (fun h => absurd h (by have := HL6.out; simp only []; omega)) (.slice (some ⟨qb, 0, none⟩) 128 128))
    replace BL := hid (show Blk (w11.setCell ⟨L, 0, none⟩ (.slice (some ⟨qb, 0, none⟩) 128 128)) L 26 #[.slice (some ⟨qb, 0, none⟩) 128 128, .slice (some ⟨qa, 0, none⟩) 128 128] from Blk.set_ BL.out 0 (.slice (some ⟨qb, 0, none⟩) 128 128))
    replace B12 := hid (Blk.far B12.out (p := ⟨L, 0, none⟩) (fun h => HNE12.out h) (.slice (some ⟨qb, 0, none⟩) 128 128))
    generalize World.setCell w11 ⟨L, 0, none⟩ (.slice (some ⟨qb, 0, none⟩) 128 128) = w12 at F6 BL B12 ⊢
    have l0 : w12.cell? ⟨L, 0, none⟩ = some (.slice (some ⟨qb, 0, none⟩) 128 128) := Blk.cell BL.out 0
    have l1 : w12.cell? ⟨L, 1, none⟩ = some (.slice (some ⟨qa, 0, none⟩) 128 128) := Blk.cell BL.out 1
    have hL9 : L < w12.heap.size := Blk.lt BL.out
    have HLR := hid hL9
    go_cut [14, 15] (fun mp e wx => ∃ M : Nat, mp = .pointer (some ⟨M, 0, none⟩) ∧ e = .int .i64 (0) ∧ BS wx M (⟨gn, c, s, n, l, k, tn, ep, fi, b⟩) ∧ M ≠ L ∧ Fr No w12 wx)
    case first =>
      have FW : Hid (Fr No w12 w12) := hid (Fr.refl No _)
      have FW := kd FW
      refine wp_region_noPanic ?_
      refine wp_region_held_drew (S := (fun W' => W'.cell? ⟨L, 0, none⟩ = some (.slice (some ⟨qb, 0, none⟩) 128 128) ∧ W'.cell? ⟨L, 1, none⟩ = some (.slice (some ⟨qa, 0, none⟩) 128 128) ∧ Hid (Fr No w12 W'))) (by kernel_rfl) ?_ (fun hHeld => ?_)
      · (try dsimp only); (first | (go_split_ands; exact ⟨kc f (by assumption), kc f (by assumption), by assumption⟩) | (go_split_ands; exact ⟨(by assumption), (by assumption), by assumption⟩) | (go_split_ands; exact ⟨kc (fr1 _ _) (by assumption), kc (fr1 _ _) (by assumption), kfa (by assumption)⟩) | (go_split_ands; exact ⟨kc (fr1d _ _) (by assumption), kc (fr1d _ _) (by assumption), kfae (by assumption)⟩) | (exact ⟨kcs hf2 (by simp only []; omega) hHeld.1, kcs hf2 (by simp only []; omega) hHeld.2.1, kfg (by omega) FW hf2⟩) | (exact ⟨kcs hf2 (by simp only []; omega) hHeld.1, kcs hf2 (by simp only []; omega) hHeld.2.1, kfg (by omega) hHeld.2.2 hf2⟩) | (go_split_ands; exact ⟨kcs hf2 (by simp only []; omega) (by assumption), kcs hf2 (by simp only []; omega) (by assumption), kfg (by omega) (by assumption) hf2⟩))
      refine wpAnyH_take (i := 0) (v := ?v71) rfl (by kernel_rfl) (by kernel_rfl) (by kernel_rfl) (fun _ _ _ h => h) (Or.inl ⟨by kernel_rfl, ?y71⟩) (by assumption) ?_
      case y71 => (intro w hSw; (try dsimp only at hSw); go_simp; all_goals with_reducible rfl)
      try simp only [Act.put, List.getElem_toArray, List.getElem_cons_zero, List.setIfInBounds_toArray, List.set_cons_zero, List.set_cons_succ]
      refine wpAnyH_take (i := 1) (v := ?v72) rfl (by kernel_rfl) (by kernel_rfl) (by kernel_rfl) (fun _ _ _ h => h) (Or.inl ⟨by kernel_rfl, ?y72⟩) (by assumption) ?_
      case y72 => (intro w hSw; (try dsimp only at hSw); go_simp; all_goals with_reducible rfl)
      try simp only [Act.put, List.getElem_toArray, List.getElem_cons_succ, List.getElem_cons_zero, List.setIfInBounds_toArray, List.set_cons_zero, List.set_cons_succ]
      refine wpAnyH_take (i := 2) (v := ?v73) rfl (by kernel_rfl) (by kernel_rfl) (by kernel_rfl) (fun _ _ _ h => h) (Or.inl ⟨by kernel_rfl, ?y73⟩) (by assumption) ?_
      case y73 => (intro w hSw; (try dsimp only at hSw); go_simp; all_goals with_reducible rfl)
      try simp only [Act.put, List.getElem_toArray, List.getElem_cons_succ, List.getElem_cons_zero, List.setIfInBounds_toArray, List.set_cons_zero, List.set_cons_succ]
      refine wpAnyH_take (i := 3) (v := ?v74) rfl (by kernel_rfl) (by kernel_rfl) (by kernel_rfl) (fun _ _ _ h => h) (Or.inl ⟨by kernel_rfl, ?y74⟩) (by assumption) ?_
      case y74 => (intro w hSw; (try dsimp only at hSw); go_simp; all_goals with_reducible rfl)
      try simp only [Act.put, List.getElem_toArray, List.getElem_cons_succ, List.getElem_cons_zero, List.setIfInBounds_toArray, List.set_cons_zero, List.set_cons_succ]
      refine wpAnyH_take (i := 4) (v := ?v75) rfl (by kernel_rfl) (by kernel_rfl) (by kernel_rfl) (fun _ _ _ h => h) (Or.inl ⟨by kernel_rfl, ?y75⟩) (by assumption) ?_
      case y75 => (intro w hSw; (try dsimp only at hSw); go_simp; all_goals with_reducible rfl)
      try simp only [Act.put, List.getElem_toArray, List.getElem_cons_succ, List.getElem_cons_zero, List.setIfInBounds_toArray, List.set_cons_zero, List.set_cons_succ]
      refine wpAnyH_take (i := 5) (v := ?v76) rfl (by kernel_rfl) (by kernel_rfl) (by kernel_rfl) (fun _ _ _ h => h) (Or.inl ⟨by kernel_rfl, ?y76⟩) (by assumption) ?_
      case y76 => (intro w hSw; (try dsimp only at hSw); go_simp; all_goals with_reducible rfl)
      try simp only [Act.put, List.getElem_toArray, List.getElem_cons_succ, List.getElem_cons_zero, List.setIfInBounds_toArray, List.set_cons_zero, List.set_cons_succ]
      refine wpAnyH_ready (rs := [6, 10]) (by kernel_rfl) (by simp) (AllReadyH.cons rfl (fun K hK => ?_) (AllReadyH.cons rfl (fun K hK => ?_) AllReadyH.nil))
      · go_simp
        go_at_call 22
        refine (pick_ok (some ⟨qb, 0, none⟩) 128 128 Zn (some ⟨qa, 0, none⟩) 128 128 Zs _ (IB.out.fr (F6.out.trans hHeld.2.2.out)) (IA.out.fr (F6.out.trans hHeld.2.2.out)) (HTC.out _ (FWW.out.trans (F6.out.trans hHeld.2.2.out)))).mono ?_
        rintro E0 W1 ⟨he, f⟩
        have FW := kf f hHeld.2.2
        rw [HP2.out] at he
        obtain rfl : E0 = .returned (.tuple #[spv (⟨gn, c, s, n, l, k, tn, ep, fi, b⟩), .int .i64 (0)]) := he
        (try have MX := hid (Blk.fr MX.out f (fun h => h)))
        (try have hsz1 : w12.heap.size ≤ W1.heap.size := f.size)
        dsimp only
        refine hK.out _ _ ?_ (fun hHeld => ?_)
        · (try dsimp only); (first | (go_split_ands; exact ⟨kc f (by assumption), kc f (by assumption), by assumption⟩) | (go_split_ands; exact ⟨(by assumption), (by assumption), by assumption⟩) | (go_split_ands; exact ⟨kc (fr1 _ _) (by assumption), kc (fr1 _ _) (by assumption), kfa (by assumption)⟩) | (go_split_ands; exact ⟨kc (fr1d _ _) (by assumption), kc (fr1d _ _) (by assumption), kfae (by assumption)⟩) | (exact ⟨kcs hf2 (by simp only []; omega) hHeld.1, kcs hf2 (by simp only []; omega) hHeld.2.1, kfg (by omega) FW hf2⟩) | (exact ⟨kcs hf2 (by simp only []; omega) hHeld.1, kcs hf2 (by simp only []; omega) hHeld.2.1, kfg (by omega) hHeld.2.2 hf2⟩) | (go_split_ands; exact ⟨kcs hf2 (by simp only []; omega) (by assumption), kcs hf2 (by simp only []; omega) (by assumption), kfg (by omega) (by assumption) hf2⟩))
        clear hK K
        try simp only [Act.put, List.getElem_toArray, List.getElem_cons_succ, List.getElem_cons_zero, List.setIfInBounds_toArray, List.set_cons_zero, List.set_cons_succ]
        refine wpAnyH_take (i := 7) (v := ?v77) rfl (by kernel_rfl) (by kernel_rfl) (by kernel_rfl) (fun _ _ _ h => h) (Or.inl ⟨by kernel_rfl, ?y77⟩) (by assumption) ?_
        case y77 => (intro w hSw; (try dsimp only at hSw); go_simp; all_goals with_reducible rfl)
        try simp only [Act.put, List.getElem_toArray, List.getElem_cons_succ, List.getElem_cons_zero, List.setIfInBounds_toArray, List.set_cons_zero, List.set_cons_succ]
        refine wpAnyH_take (i := 8) (v := ?v78) rfl (by kernel_rfl) (by kernel_rfl) (by kernel_rfl) (fun _ _ _ h => h) (Or.inl ⟨by kernel_rfl, ?y78⟩) (by assumption) ?_
        case y78 => (intro w hSw; (try dsimp only at hSw); go_simp; all_goals with_reducible rfl)
        try simp only [Act.put, List.getElem_toArray, List.getElem_cons_succ, List.getElem_cons_zero, List.setIfInBounds_toArray, List.set_cons_zero, List.set_cons_succ]
        refine wpAnyH_take (i := 9) (v := ?v79) rfl (by kernel_rfl) (by kernel_rfl) (by kernel_rfl) (fun _ _ _ h => h) (Or.inl ⟨by kernel_rfl, ?y79⟩) (by assumption) ?_
        case y79 => (intro w hSw; (try dsimp only at hSw); go_simp; all_goals with_reducible rfl)
        try simp only [Act.put, List.getElem_toArray, List.getElem_cons_succ, List.getElem_cons_zero, List.setIfInBounds_toArray, List.set_cons_zero, List.set_cons_succ]
        refine wpAnyH_ready (rs := [10]) (by kernel_rfl) (by simp) (AllReadyH.cons rfl (fun K hK => ?_) AllReadyH.nil)
        go_simp
        refine hK.out _ _ ?_ (fun hHeld => ?_)
        · (try dsimp only); (first | (go_split_ands; exact ⟨kc f (by assumption), kc f (by assumption), by assumption⟩) | (go_split_ands; exact ⟨(by assumption), (by assumption), by assumption⟩) | (go_split_ands; exact ⟨kc (fr1 _ _) (by assumption), kc (fr1 _ _) (by assumption), kfa (by assumption)⟩) | (go_split_ands; exact ⟨kc (fr1d _ _) (by assumption), kc (fr1d _ _) (by assumption), kfae (by assumption)⟩) | (exact ⟨kcs hf2 (by simp only []; omega) hHeld.1, kcs hf2 (by simp only []; omega) hHeld.2.1, kfg (by omega) FW hf2⟩) | (exact ⟨kcs hf2 (by simp only []; omega) hHeld.1, kcs hf2 (by simp only []; omega) hHeld.2.1, kfg (by omega) hHeld.2.2 hf2⟩) | (go_split_ands; exact ⟨kcs hf2 (by simp only []; omega) (by assumption), kcs hf2 (by simp only []; omega) (by assumption), kfg (by omega) (by assumption) hf2⟩))
        clear hK K
        try simp only [Act.put, List.getElem_toArray, List.getElem_cons_succ, List.getElem_cons_zero, List.setIfInBounds_toArray, List.set_cons_zero, List.set_cons_succ]
        have MX := hid (Blk.new W1 25 #[.int .i64 0, .int .i64 0, .int .i64 0, .int .i64 0, .int .i64 0, .int .i64 0, .int .i64 0, .int .i64 0, .int .i64 0, .bool false])
        refine wpAnyH_ready (rs := [11]) (by kernel_rfl) (by simp) (AllReadyH.cons rfl (fun K hK => ?_) AllReadyH.nil)
        refine st_S_step rfl (.tmp 14) (.tmp 92) rfl _ rfl (r := ⟨gn, c, s, n, l, k, tn, ep, fi, b⟩) rfl MX.out rfl ?_
        intro W2 hb2 hf2
        refine hK.out _ _ ?_ (fun hHeld => ?_)
        · (try dsimp only); (first | (go_split_ands; exact ⟨kc f (by assumption), kc f (by assumption), by assumption⟩) | (go_split_ands; exact ⟨(by assumption), (by assumption), by assumption⟩) | (go_split_ands; exact ⟨kc (fr1 _ _) (by assumption), kc (fr1 _ _) (by assumption), kfa (by assumption)⟩) | (go_split_ands; exact ⟨kc (fr1d _ _) (by assumption), kc (fr1d _ _) (by assumption), kfae (by assumption)⟩) | (exact ⟨kcs hf2 (by simp only []; omega) hHeld.1, kcs hf2 (by simp only []; omega) hHeld.2.1, kfg (by omega) FW hf2⟩) | (exact ⟨kcs hf2 (by simp only []; omega) hHeld.1, kcs hf2 (by simp only []; omega) hHeld.2.1, kfg (by omega) hHeld.2.2 hf2⟩) | (go_split_ands; exact ⟨kcs hf2 (by simp only []; omega) (by assumption), kcs hf2 (by simp only []; omega) (by assumption), kfg (by omega) (by assumption) hf2⟩))
        clear hK K
        try simp only [Act.put, List.getElem_toArray, List.getElem_cons_succ, List.getElem_cons_zero, List.setIfInBounds_toArray, List.set_cons_zero, List.set_cons_succ]
        have FW := hHeld.2.2; have MX := hid hb2; have hne : W1.heap.size ≠ L := (by omega); clear hf2 hb2
        refine wpAnyH_take (i := 12) (v := ?v80) rfl (by kernel_rfl) (by kernel_rfl) (by kernel_rfl) (fun _ _ _ h => h) (Or.inl ⟨by kernel_rfl, ?y80⟩) (by assumption) ?_
        case y80 => (intro w hSw; (try dsimp only at hSw); go_simp; all_goals with_reducible rfl)
        try simp only [Act.put, List.getElem_toArray, List.getElem_cons_succ, List.getElem_cons_zero, List.setIfInBounds_toArray, List.set_cons_zero, List.set_cons_succ]
        refine wpAnyH_done (by kernel_rfl) ?_ _
        refine NoPanic.normal ?_
        go_wp2_with fail
        go_meet
        case rel => exact ⟨_, rfl, rfl, MX.out, hne, FW.out⟩
      · go_simp
        refine hK.out _ _ ?_ (fun hHeld => ?_)
        · (try dsimp only); (first | (go_split_ands; exact ⟨kc f (by assumption), kc f (by assumption), by assumption⟩) | (go_split_ands; exact ⟨(by assumption), (by assumption), by assumption⟩) | (go_split_ands; exact ⟨kc (fr1 _ _) (by assumption), kc (fr1 _ _) (by assumption), kfa (by assumption)⟩) | (go_split_ands; exact ⟨kc (fr1d _ _) (by assumption), kc (fr1d _ _) (by assumption), kfae (by assumption)⟩) | (exact ⟨kcs hf2 (by simp only []; omega) hHeld.1, kcs hf2 (by simp only []; omega) hHeld.2.1, kfg (by omega) FW hf2⟩) | (exact ⟨kcs hf2 (by simp only []; omega) hHeld.1, kcs hf2 (by simp only []; omega) hHeld.2.1, kfg (by omega) hHeld.2.2 hf2⟩) | (go_split_ands; exact ⟨kcs hf2 (by simp only []; omega) (by assumption), kcs hf2 (by simp only []; omega) (by assumption), kfg (by omega) (by assumption) hf2⟩))
        clear hK K
        try simp only [Act.put, List.getElem_toArray, List.getElem_cons_succ, List.getElem_cons_zero, List.setIfInBounds_toArray, List.set_cons_zero, List.set_cons_succ]
        have MX := hid (show Blk (w12.alloc (.cells #[.int .i64 0, .int .i64 0, .int .i64 0, .int .i64 0, .int .i64 0, .int .i64 0, .int .i64 0, .int .i64 0, .int .i64 0, .bool false] 25)).drew w12.heap.size 25 #[.int .i64 0, .int .i64 0, .int .i64 0, .int .i64 0, .int .i64 0, .int .i64 0, .int .i64 0, .int .i64 0, .int .i64 0, .bool false] from Blk.new w12 _ _)
        refine wpAnyH_ready (rs := [6]) (by kernel_rfl) (by simp) (AllReadyH.cons rfl (fun K hK => ?_) AllReadyH.nil)
        go_simp
        go_at_call 22
        refine (pick_ok (some ⟨qb, 0, none⟩) 128 128 Zn (some ⟨qa, 0, none⟩) 128 128 Zs _ (IB.out.fr (F6.out.trans hHeld.2.2.out)) (IA.out.fr (F6.out.trans hHeld.2.2.out)) (HTC.out _ (FWW.out.trans (F6.out.trans hHeld.2.2.out)))).mono ?_
        rintro E0 W1 ⟨he, f⟩
        have FW := kf f hHeld.2.2
        rw [HP2.out] at he
        obtain rfl : E0 = .returned (.tuple #[spv (⟨gn, c, s, n, l, k, tn, ep, fi, b⟩), .int .i64 (0)]) := he
        (try have MX := hid (Blk.fr MX.out f (fun h => h)))
        (try have hsz1 : w12.heap.size ≤ W1.heap.size := f.size)
        dsimp only
        refine hK.out _ _ ?_ (fun hHeld => ?_)
        · (try dsimp only); (first | (go_split_ands; exact ⟨kc f (by assumption), kc f (by assumption), by assumption⟩) | (go_split_ands; exact ⟨(by assumption), (by assumption), by assumption⟩) | (go_split_ands; exact ⟨kc (fr1 _ _) (by assumption), kc (fr1 _ _) (by assumption), kfa (by assumption)⟩) | (go_split_ands; exact ⟨kc (fr1d _ _) (by assumption), kc (fr1d _ _) (by assumption), kfae (by assumption)⟩) | (exact ⟨kcs hf2 (by simp only []; omega) hHeld.1, kcs hf2 (by simp only []; omega) hHeld.2.1, kfg (by omega) FW hf2⟩) | (exact ⟨kcs hf2 (by simp only []; omega) hHeld.1, kcs hf2 (by simp only []; omega) hHeld.2.1, kfg (by omega) hHeld.2.2 hf2⟩) | (go_split_ands; exact ⟨kcs hf2 (by simp only []; omega) (by assumption), kcs hf2 (by simp only []; omega) (by assumption), kfg (by omega) (by assumption) hf2⟩))
        clear hK K
        try simp only [Act.put, List.getElem_toArray, List.getElem_cons_succ, List.getElem_cons_zero, List.setIfInBounds_toArray, List.set_cons_zero, List.set_cons_succ]
        refine wpAnyH_take (i := 7) (v := ?v81) rfl (by kernel_rfl) (by kernel_rfl) (by kernel_rfl) (fun _ _ _ h => h) (Or.inl ⟨by kernel_rfl, ?y81⟩) (by assumption) ?_
        case y81 => (intro w hSw; (try dsimp only at hSw); go_simp; all_goals with_reducible rfl)
        try simp only [Act.put, List.getElem_toArray, List.getElem_cons_succ, List.getElem_cons_zero, List.setIfInBounds_toArray, List.set_cons_zero, List.set_cons_succ]
        refine wpAnyH_take (i := 8) (v := ?v82) rfl (by kernel_rfl) (by kernel_rfl) (by kernel_rfl) (fun _ _ _ h => h) (Or.inl ⟨by kernel_rfl, ?y82⟩) (by assumption) ?_
        case y82 => (intro w hSw; (try dsimp only at hSw); go_simp; all_goals with_reducible rfl)
        try simp only [Act.put, List.getElem_toArray, List.getElem_cons_succ, List.getElem_cons_zero, List.setIfInBounds_toArray, List.set_cons_zero, List.set_cons_succ]
        refine wpAnyH_take (i := 9) (v := ?v83) rfl (by kernel_rfl) (by kernel_rfl) (by kernel_rfl) (fun _ _ _ h => h) (Or.inl ⟨by kernel_rfl, ?y83⟩) (by assumption) ?_
        case y83 => (intro w hSw; (try dsimp only at hSw); go_simp; all_goals with_reducible rfl)
        try simp only [Act.put, List.getElem_toArray, List.getElem_cons_succ, List.getElem_cons_zero, List.setIfInBounds_toArray, List.set_cons_zero, List.set_cons_succ]
        refine wpAnyH_ready (rs := [11]) (by kernel_rfl) (by simp) (AllReadyH.cons rfl (fun K hK => ?_) AllReadyH.nil)
        refine st_S_step rfl (.tmp 14) (.tmp 92) rfl _ rfl (r := ⟨gn, c, s, n, l, k, tn, ep, fi, b⟩) rfl MX.out rfl ?_
        intro W2 hb2 hf2
        refine hK.out _ _ ?_ (fun hHeld => ?_)
        · (try dsimp only); (first | (go_split_ands; exact ⟨kc f (by assumption), kc f (by assumption), by assumption⟩) | (go_split_ands; exact ⟨(by assumption), (by assumption), by assumption⟩) | (go_split_ands; exact ⟨kc (fr1 _ _) (by assumption), kc (fr1 _ _) (by assumption), kfa (by assumption)⟩) | (go_split_ands; exact ⟨kc (fr1d _ _) (by assumption), kc (fr1d _ _) (by assumption), kfae (by assumption)⟩) | (exact ⟨kcs hf2 (by simp only []; omega) hHeld.1, kcs hf2 (by simp only []; omega) hHeld.2.1, kfg (by omega) FW hf2⟩) | (exact ⟨kcs hf2 (by simp only []; omega) hHeld.1, kcs hf2 (by simp only []; omega) hHeld.2.1, kfg (by omega) hHeld.2.2 hf2⟩) | (go_split_ands; exact ⟨kcs hf2 (by simp only []; omega) (by assumption), kcs hf2 (by simp only []; omega) (by assumption), kfg (by omega) (by assumption) hf2⟩))
        clear hK K
        try simp only [Act.put, List.getElem_toArray, List.getElem_cons_succ, List.getElem_cons_zero, List.setIfInBounds_toArray, List.set_cons_zero, List.set_cons_succ]
        have FW := hHeld.2.2; have MX := hid hb2; have hne : w12.heap.size ≠ L := (by omega); clear hf2 hb2
        refine wpAnyH_take (i := 12) (v := ?v84) rfl (by kernel_rfl) (by kernel_rfl) (by kernel_rfl) (fun _ _ _ h => h) (Or.inl ⟨by kernel_rfl, ?y84⟩) (by assumption) ?_
        case y84 => (intro w hSw; (try dsimp only at hSw); go_simp; all_goals with_reducible rfl)
        try simp only [Act.put, List.getElem_toArray, List.getElem_cons_succ, List.getElem_cons_zero, List.setIfInBounds_toArray, List.set_cons_zero, List.set_cons_succ]
        refine wpAnyH_done (by kernel_rfl) ?_ _
        refine NoPanic.normal ?_
        go_wp2_with fail
        go_meet
        case rel => exact ⟨_, rfl, rfl, MX.out, hne, FW.out⟩
    case rest =>
      obtain ⟨M14, rfl, rfl, hb14, hne14, f⟩ := hcut
      replace F6 := hid (F6.out.trans f)
      have B14 := hid hb14
      replace B12 := hid (Blk.fr B12.out f (fun h => h))
      clear hb14 hne14 f l0 l1 hL9 HLR
      go_wp2_with (first | (go_at_call 21; go_loud (refine (rdec_none A ln cp zt _ (IT.out.fr F6.out) HDT.out).mono ?_; rintro e' w15 ⟨rfl, f⟩; replace F6 := hid (F6.out.trans f); replace B14 := hid (Blk.fr B14.out f (fun h => h)); replace B12 := hid (Blk.fr B12.out f (fun h => h)); clear f)) | (refine st_S rfl (.tmp 16) (.tmp 97) rfl w15.heap.size rfl rfl (by simp [Value.oneCell']) (Blk.new w15 _ _) rfl ?_; intro w16 _ f3; have f : Fr No w15 w16 := ((Fr.refl No w15).alloc _).step f3 (fun i hi e => by omega); replace F6 := hid (F6.out.trans f); replace B14 := hid (Blk.fr B14.out f (fun h => h)); replace B12 := hid (Blk.fr B12.out f (fun h => h)); clear f f3; have u0 : w16.cell? ⟨M14, 0, none⟩ = some (.int .i64 gn) := Blk.cell B14.out 0; have u1 : w16.cell? ⟨M14, 1, none⟩ = some (.int .i64 c) := Blk.cell B14.out 1; have u2 : w16.cell? ⟨M14, 2, none⟩ = some (.int .i64 s) := Blk.cell B14.out 2; have u3 : w16.cell? ⟨M14, 3, none⟩ = some (.int .i64 n) := Blk.cell B14.out 3; have u4 : w16.cell? ⟨M14, 4, none⟩ = some (.int .i64 l) := Blk.cell B14.out 4; have u5 : w16.cell? ⟨M14, 5, none⟩ = some (.int .i64 k) := Blk.cell B14.out 5; have u6 : w16.cell? ⟨M14, 6, none⟩ = some (.int .i64 tn) := Blk.cell B14.out 6; have u7 : w16.cell? ⟨M14, 7, none⟩ = some (.int .i64 ep) := Blk.cell B14.out 7; have u8 : w16.cell? ⟨M14, 8, none⟩ = some (.int .i64 fi) := Blk.cell B14.out 8; have u9 : w16.cell? ⟨M14, 9, none⟩ = some (.bool b) := Blk.cell B14.out 9; have d0 : w16.cell? ⟨D, 0, none⟩ = some (.int .i64 gn) := Blk.cell (Blk.fr BN.out F6.out (fun h => h)) 0; have d1 : w16.cell? ⟨D, 1, none⟩ = some (.int .i64 c) := Blk.cell (Blk.fr BN.out F6.out (fun h => h)) 1; have d2 : w16.cell? ⟨D, 2, none⟩ = some (.int .i64 s) := Blk.cell (Blk.fr BN.out F6.out (fun h => h)) 2; have d3 : w16.cell? ⟨D, 3, none⟩ = some (.int .i64 n) := Blk.cell (Blk.fr BN.out F6.out (fun h => h)) 3; have d4 : w16.cell? ⟨D, 4, none⟩ = some (.int .i64 l) := Blk.cell (Blk.fr BN.out F6.out (fun h => h)) 4; have d5 : w16.cell? ⟨D, 5, none⟩ = some (.int .i64 k) := Blk.cell (Blk.fr BN.out F6.out (fun h => h)) 5; have d6 : w16.cell? ⟨D, 6, none⟩ = some (.int .i64 tn) := Blk.cell (Blk.fr BN.out F6.out (fun h => h)) 6; have d7 : w16.cell? ⟨D, 7, none⟩ = some (.int .i64 ep) := Blk.cell (Blk.fr BN.out F6.out (fun h => h)) 7; have d8 : w16.cell? ⟨D, 8, none⟩ = some (.int .i64 fi) := Blk.cell (Blk.fr BN.out F6.out (fun h => h)) 8; have d9 : w16.cell? ⟨D, 9, none⟩ = some (.bool b) := Blk.cell (Blk.fr BN.out F6.out (fun h => h)) 9; have v0 : w16.cell? ⟨M12, 0, none⟩ = some (.int .i64 g) := Blk.cell B12.out 0; have v1 : w16.cell? ⟨M12, 1, none⟩ = some (.int .i64 c) := Blk.cell B12.out 1; have v2 : w16.cell? ⟨M12, 2, none⟩ = some (.int .i64 s) := Blk.cell B12.out 2; have v3 : w16.cell? ⟨M12, 3, none⟩ = some (.int .i64 n) := Blk.cell B12.out 3; have v4 : w16.cell? ⟨M12, 4, none⟩ = some (.int .i64 l) := Blk.cell B12.out 4; have v5 : w16.cell? ⟨M12, 5, none⟩ = some (.int .i64 k) := Blk.cell B12.out 5; have v6 : w16.cell? ⟨M12, 6, none⟩ = some (.int .i64 t) := Blk.cell B12.out 6; have v7 : w16.cell? ⟨M12, 7, none⟩ = some (.int .i64 ep) := Blk.cell B12.out 7; have v8 : w16.cell? ⟨M12, 8, none⟩ = some (.int .i64 fi) := Blk.cell B12.out 8; have v9 : w16.cell? ⟨M12, 9, none⟩ = some (.bool b) := Blk.cell B12.out 9; have x0 : w16.cell? ⟨X, 0, none⟩ = some (.int .i64 g) := Blk.cell (Blk.fr HB.out F6.out (fun h => h)) 0; have x1 : w16.cell? ⟨X, 1, none⟩ = some (.int .i64 c) := Blk.cell (Blk.fr HB.out F6.out (fun h => h)) 1; have x2 : w16.cell? ⟨X, 2, none⟩ = some (.int .i64 s) := Blk.cell (Blk.fr HB.out F6.out (fun h => h)) 2; have x3 : w16.cell? ⟨X, 3, none⟩ = some (.int .i64 n) := Blk.cell (Blk.fr HB.out F6.out (fun h => h)) 3; have x4 : w16.cell? ⟨X, 4, none⟩ = some (.int .i64 l) := Blk.cell (Blk.fr HB.out F6.out (fun h => h)) 4; have x5 : w16.cell? ⟨X, 5, none⟩ = some (.int .i64 k) := Blk.cell (Blk.fr HB.out F6.out (fun h => h)) 5; have x6 : w16.cell? ⟨X, 6, none⟩ = some (.int .i64 t) := Blk.cell (Blk.fr HB.out F6.out (fun h => h)) 6; have x7 : w16.cell? ⟨X, 7, none⟩ = some (.int .i64 ep) := Blk.cell (Blk.fr HB.out F6.out (fun h => h)) 7; have x8 : w16.cell? ⟨X, 8, none⟩ = some (.int .i64 fi) := Blk.cell (Blk.fr HB.out F6.out (fun h => h)) 8; have x9 : w16.cell? ⟨X, 9, none⟩ = some (.bool b) := Blk.cell (Blk.fr HB.out F6.out (fun h => h)) 9))
      go_ret
      exact ⟨rfl, FWW.out.trans F6.out⟩
set_option maxRecDepth 100000 in
set_option maxHeartbeats 8000000 in
theorem stays_0t (g c s n l k t ep fi : Int) (b : Bool) (gn tn : Int) (A : Option Addr) (ln cp : Nat) (zt : List Int) (w : World) (hgn : wrap64 (g + 1) = gn ∧ wrap64 (1 - t) = tn) (hn : SuL.nx ⟨g, c, s, n, l, k, t, ep, fi, b⟩ (wrap64 (1 - t)) ep fi b = some ⟨gn, c, s, n, l, k, tn, ep, fi, b⟩) (hms : mayS g c s n l k t ep fi) (hmn : mayS gn c s n l k tn ep fi) (hp : gn % 2 = 0) {Zs Zn : List Int} (hzs : seal_ (eTo g c s n l k t ep fi 1 (if b then 1 else 0) 11) = Zs) (hzn : seal_ (eTo gn c s n l k tn ep fi 1 (if b then 1 else 0) 11) = Zn) (ht : IsB w A ln cp zt) {o1 : Option Sp} {y0 y1 y2 y3 y4 y5 y6 y7 y8 : Int} {yb : Bool} (hdt : decR zt = some ⟨y0, y1, y2, y3, y4, y5, y6, y7, y8, yb⟩) (hp1 : pkP (dec zt) (dec Zs) = o1) (hp2 : pkP (dec Zn) (dec Zs) = some ⟨gn, c, s, n, l, k, tn, ep, fi, b⟩) (hT : TabAt w) : Calls Tryd.prog 7 #[sv g c s n l k t ep fi b, .slice A ln cp] w fun e' w' => e' = .returned (.bool true) ∧ Fr No w w' := by
  obtain ⟨W, hW⟩ : ∃ W, w.alloc (sbx g c s n l k t ep fi b) = W := ⟨_, rfl⟩
  obtain ⟨X, hX⟩ : ∃ X, w.heap.size = X := ⟨_, rfl⟩
  have FWW := hid (show Fr No w W by rw [← hW]; exact (Fr.refl No w).alloc _)
  have HB := hid (show Blk W X 25 #[.int .i64 g, .int .i64 c, .int .i64 s, .int .i64 n, .int .i64 l, .int .i64 k, .int .i64 t, .int .i64 ep, .int .i64 fi, .bool b] by rw [← hW, ← hX]; exact Blk.new w _ _)
  have x0 : W.cell? ⟨X, 0, none⟩ = some (.int .i64 g) := HB.out.cell 0
  have x1 : W.cell? ⟨X, 1, none⟩ = some (.int .i64 c) := HB.out.cell 1
  have x2 : W.cell? ⟨X, 2, none⟩ = some (.int .i64 s) := HB.out.cell 2
  have x3 : W.cell? ⟨X, 3, none⟩ = some (.int .i64 n) := HB.out.cell 3
  have x4 : W.cell? ⟨X, 4, none⟩ = some (.int .i64 l) := HB.out.cell 4
  have x5 : W.cell? ⟨X, 5, none⟩ = some (.int .i64 k) := HB.out.cell 5
  have x6 : W.cell? ⟨X, 6, none⟩ = some (.int .i64 t) := HB.out.cell 6
  have x7 : W.cell? ⟨X, 7, none⟩ = some (.int .i64 ep) := HB.out.cell 7
  have x8 : W.cell? ⟨X, 8, none⟩ = some (.int .i64 fi) := HB.out.cell 8
  have x9 : W.cell? ⟨X, 9, none⟩ = some (.bool b) := HB.out.cell 9
  have HTC := hid (show ∀ w', Fr No w w' → TabAt w' from fun w' f => hT.fr f (fun h => h))
  have HSS := hid (may_s hms)
  rw [hgn.2] at hn
  have HGN := hgn.2
  have HNX := hid hn
  have HMS := hid hms
  have HMN := hid hmn
  have HP := hid hp
  have HZS := hid hzs
  have HZN := hid hzn
  have IT := hid (ht.fr FWW.out)
  have HDT := hid hdt
  have HP1 := hid hp1
  have HP2 := hid hp2
  clear hT hn hms hmn hp hzs hzn ht hdt hp1 hp2 hgn
  go_enter Tryd.func7, Tryd.ntmps7
  go_upto_region 2 with (first | (go_at_call 24; go_loud (refine (next_some g c s n l k t ep fi b tn ep fi b _ HSS.out HNX.out).mono ?_; rintro e' w2 ⟨rfl, f⟩; replace FWW := hid (FWW.out.trans f); replace HB := hid (Blk.fr HB.out f (fun h => h)); replace IT := hid (IT.out.fr f); clear f x0 x1 x2 x3 x4 x5 x6 x7 x8 x9)) | (refine st_S rfl (.tmp 5) (.tmp 30) rfl w2.heap.size rfl rfl (by simp [Value.oneCell']) (Blk.new w2 _ _) rfl ?_; intro w3 HD0 f3; have f : Fr No w2 w3 := ((Fr.refl No w2).alloc _).step f3 (fun i hi e => by omega); replace FWW := hid (FWW.out.trans f); replace HB := hid (Blk.fr HB.out f (fun h => h)); replace IT := hid (IT.out.fr f); have BN := hid (show Blk w3 w2.heap.size 25 #[.int .i64 gn, .int .i64 c, .int .i64 s, .int .i64 n, .int .i64 l, .int .i64 k, .int .i64 tn, .int .i64 ep, .int .i64 fi, .bool b] from HD0); clear f f3 HD0))
  obtain ⟨D, hD⟩ : ∃ D, w2.heap.size = D := ⟨_, rfl⟩
  rw [hD] at BN ⊢
  clear hD HGN
  go_upto_region 5 with (first | (go_at_call 15; go_loud (refine (lives_ok _ (HTC.out _ FWW.out)).mono ?_; rintro e' w4 ⟨rfl, f⟩; replace FWW := hid (FWW.out.trans f); replace HB := hid (Blk.fr HB.out f (fun h => h)); replace IT := hid (IT.out.fr f); replace BN := hid (Blk.fr BN.out f (fun h => h)); clear f; have x0 : w4.cell? ⟨X, 0, none⟩ = some (.int .i64 g) := Blk.cell HB.out 0; have x1 : w4.cell? ⟨X, 1, none⟩ = some (.int .i64 c) := Blk.cell HB.out 1; have x2 : w4.cell? ⟨X, 2, none⟩ = some (.int .i64 s) := Blk.cell HB.out 2; have x3 : w4.cell? ⟨X, 3, none⟩ = some (.int .i64 n) := Blk.cell HB.out 3; have x4 : w4.cell? ⟨X, 4, none⟩ = some (.int .i64 l) := Blk.cell HB.out 4; have x5 : w4.cell? ⟨X, 5, none⟩ = some (.int .i64 k) := Blk.cell HB.out 5; have x6 : w4.cell? ⟨X, 6, none⟩ = some (.int .i64 t) := Blk.cell HB.out 6; have x7 : w4.cell? ⟨X, 7, none⟩ = some (.int .i64 ep) := Blk.cell HB.out 7; have x8 : w4.cell? ⟨X, 8, none⟩ = some (.int .i64 fi) := Blk.cell HB.out 8; have x9 : w4.cell? ⟨X, 9, none⟩ = some (.bool b) := Blk.cell HB.out 9)) | (go_at_call 14; go_loud (refine (enc_in g c s n l k t ep fi b _ HMS.out (HTC.out _ FWW.out)).mono ?_; rintro e' w5 ⟨qa, rfl, hq, f⟩; rw [HZS.out] at hq; have IA := hid hq; replace FWW := hid (FWW.out.trans f); replace HB := hid (Blk.fr HB.out f (fun h => h)); replace IT := hid (IT.out.fr f); replace BN := hid (Blk.fr BN.out f (fun h => h)); clear f hq x0 x1 x2 x3 x4 x5 x6 x7 x8 x9; have d0 : w5.cell? ⟨D, 0, none⟩ = some (.int .i64 gn) := Blk.cell BN.out 0; have d1 : w5.cell? ⟨D, 1, none⟩ = some (.int .i64 c) := Blk.cell BN.out 1; have d2 : w5.cell? ⟨D, 2, none⟩ = some (.int .i64 s) := Blk.cell BN.out 2; have d3 : w5.cell? ⟨D, 3, none⟩ = some (.int .i64 n) := Blk.cell BN.out 3; have d4 : w5.cell? ⟨D, 4, none⟩ = some (.int .i64 l) := Blk.cell BN.out 4; have d5 : w5.cell? ⟨D, 5, none⟩ = some (.int .i64 k) := Blk.cell BN.out 5; have d6 : w5.cell? ⟨D, 6, none⟩ = some (.int .i64 tn) := Blk.cell BN.out 6; have d7 : w5.cell? ⟨D, 7, none⟩ = some (.int .i64 ep) := Blk.cell BN.out 7; have d8 : w5.cell? ⟨D, 8, none⟩ = some (.int .i64 fi) := Blk.cell BN.out 8; have d9 : w5.cell? ⟨D, 9, none⟩ = some (.bool b) := Blk.cell BN.out 9)))
  go_upto_region 8 with (go_at_call 14; go_loud (refine (enc_in gn c s n l k tn ep fi b _ HMN.out (HTC.out _ FWW.out)).mono ?_; rintro e' w6 ⟨qb, rfl, hq, f⟩; rw [HZN.out] at hq; have IB := hid hq; replace FWW := hid (FWW.out.trans f); replace HB := hid (Blk.fr HB.out f (fun h => h)); replace IT := hid (IT.out.fr f); replace BN := hid (Blk.fr BN.out f (fun h => h)); replace IA := hid (IA.out.fr f); clear f hq d0 d1 d2 d3 d4 d5 d6 d7 d8 d9))
  obtain ⟨L, hL⟩ : ∃ L, w6.heap.size = L := ⟨_, rfl⟩
  obtain ⟨w7, hw7⟩ : ∃ w7, w6.alloc (.cells #[.slice (some ⟨qa, 0, none⟩) 128 128, .slice (some ⟨qa, 0, none⟩) 128 128] 26) = w7 := ⟨_, rfl⟩
  have F6 := hid (show Fr No w6 w7 by rw [← hw7]; exact (Fr.refl No w6).alloc _)
  have BL := hid (show Blk w7 L 26 #[.slice (some ⟨qa, 0, none⟩) 128 128, .slice (some ⟨qa, 0, none⟩) 128 128] by rw [← hw7, ← hL]; exact Blk.new w6 _ _)
  have HL6 := hid (show w6.heap.size ≤ L by omega)
  go_upto_region 9 with fail
  try rw [show w6.alloc (Obj.cells #[Value.slice (some ⟨qa, 0, none⟩) 128 128, Value.slice (some ⟨qa, 0, none⟩) 128 128] 26) = w7 from hw7]
  try rw [hL]
  clear hw7 hL
  have d0 : World.cell? _ ⟨D, 0, none⟩ = some (.int .i64 gn) := Blk.cell (Blk.fr BN.out F6.out (fun h => h)) 0
  have d1 : World.cell? _ ⟨D, 1, none⟩ = some (.int .i64 c) := Blk.cell (Blk.fr BN.out F6.out (fun h => h)) 1
  have d2 : World.cell? _ ⟨D, 2, none⟩ = some (.int .i64 s) := Blk.cell (Blk.fr BN.out F6.out (fun h => h)) 2
  have d3 : World.cell? _ ⟨D, 3, none⟩ = some (.int .i64 n) := Blk.cell (Blk.fr BN.out F6.out (fun h => h)) 3
  have d4 : World.cell? _ ⟨D, 4, none⟩ = some (.int .i64 l) := Blk.cell (Blk.fr BN.out F6.out (fun h => h)) 4
  have d5 : World.cell? _ ⟨D, 5, none⟩ = some (.int .i64 k) := Blk.cell (Blk.fr BN.out F6.out (fun h => h)) 5
  have d6 : World.cell? _ ⟨D, 6, none⟩ = some (.int .i64 tn) := Blk.cell (Blk.fr BN.out F6.out (fun h => h)) 6
  have d7 : World.cell? _ ⟨D, 7, none⟩ = some (.int .i64 ep) := Blk.cell (Blk.fr BN.out F6.out (fun h => h)) 7
  have d8 : World.cell? _ ⟨D, 8, none⟩ = some (.int .i64 fi) := Blk.cell (Blk.fr BN.out F6.out (fun h => h)) 8
  have d9 : World.cell? _ ⟨D, 9, none⟩ = some (.bool b) := Blk.cell (Blk.fr BN.out F6.out (fun h => h)) 9
  have hand : bits BinOp.and IntKind.i64 0 1 = 0 := by kernel_rfl
  go_upto_region 10 with (go_at_call 18; go_loud (refine (copy_lit gn c s n l k tn ep fi b _ 0 HSS.out HMN.out HP.out).mono ?_; rintro e' w8 ⟨rfl, f⟩; replace F6 := hid (F6.out.trans f); replace BL := hid (Blk.fr BL.out f (fun h => h)); clear f d0 d1 d2 d3 d4 d5 d6 d7 d8 d9; have l0 : w8.cell? ⟨L, 0, none⟩ = some (.slice (some ⟨qa, 0, none⟩) 128 128) := Blk.cell BL.out 0; have z0 : w8.frozen? ⟨L, 0, none⟩ = false := Blk.frozen BL.out 0))
  clear l0 z0
  replace F6 := hid (F6.out.setCell (p := ⟨L, 0, none⟩) (fun h => absurd h (by have := HL6.out; simp only []; omega)) (.slice A ln cp))
  replace BL := hid (show Blk (w8.setCell ⟨L, 0, none⟩ (.slice A ln cp)) L 26 #[.slice A ln cp, .slice (some ⟨qa, 0, none⟩) 128 128] from Blk.set_ BL.out 0 (.slice A ln cp))
  generalize World.setCell w8 ⟨L, 0, none⟩ (.slice A ln cp) = w9 at F6 BL ⊢
  have l0 : w9.cell? ⟨L, 0, none⟩ = some (.slice A ln cp) := Blk.cell BL.out 0
  have l1 : w9.cell? ⟨L, 1, none⟩ = some (.slice (some ⟨qa, 0, none⟩) 128 128) := Blk.cell BL.out 1
  have hL9 : L < w9.heap.size := Blk.lt BL.out
  have HLR := hid hL9
  go_cut [12, 13] (fun mp e wx => ∃ M : Nat, mp = .pointer (some ⟨M, 0, none⟩) ∧ e = .int .i64 (outE o1) ∧ BS wx M (outS o1) ∧ M ≠ L ∧ Fr No w9 wx)
  case first =>
    have FW : Hid (Fr No w9 w9) := hid (Fr.refl No _)
    have FW := kd FW
    refine wp_region_noPanic ?_
    refine wp_region_held_drew (S := (fun W' => W'.cell? ⟨L, 0, none⟩ = some (.slice A ln cp) ∧ W'.cell? ⟨L, 1, none⟩ = some (.slice (some ⟨qa, 0, none⟩) 128 128) ∧ Hid (Fr No w9 W'))) (by kernel_rfl) ?_ (fun hHeld => ?_)
    · (try dsimp only); (first | (go_split_ands; exact ⟨kc f (by assumption), kc f (by assumption), by assumption⟩) | (go_split_ands; exact ⟨(by assumption), (by assumption), by assumption⟩) | (go_split_ands; exact ⟨kc (fr1 _ _) (by assumption), kc (fr1 _ _) (by assumption), kfa (by assumption)⟩) | (go_split_ands; exact ⟨kc (fr1d _ _) (by assumption), kc (fr1d _ _) (by assumption), kfae (by assumption)⟩) | (exact ⟨kcs hf2 (by simp only []; omega) hHeld.1, kcs hf2 (by simp only []; omega) hHeld.2.1, kfg (by omega) FW hf2⟩) | (exact ⟨kcs hf2 (by simp only []; omega) hHeld.1, kcs hf2 (by simp only []; omega) hHeld.2.1, kfg (by omega) hHeld.2.2 hf2⟩) | (go_split_ands; exact ⟨kcs hf2 (by simp only []; omega) (by assumption), kcs hf2 (by simp only []; omega) (by assumption), kfg (by omega) (by assumption) hf2⟩))
    refine wpAnyH_take (i := 0) (v := ?v85) rfl (by kernel_rfl) (by kernel_rfl) (by kernel_rfl) (fun _ _ _ h => h) (Or.inl ⟨by kernel_rfl, ?y85⟩) (by assumption) ?_
    case y85 => (intro w hSw; (try dsimp only at hSw); go_simp; all_goals with_reducible rfl)
    try simp only [Act.put, List.getElem_toArray, List.getElem_cons_zero, List.setIfInBounds_toArray, List.set_cons_zero, List.set_cons_succ]
    refine wpAnyH_take (i := 1) (v := ?v86) rfl (by kernel_rfl) (by kernel_rfl) (by kernel_rfl) (fun _ _ _ h => h) (Or.inl ⟨by kernel_rfl, ?y86⟩) (by assumption) ?_
    case y86 => (intro w hSw; (try dsimp only at hSw); go_simp; all_goals with_reducible rfl)
    try simp only [Act.put, List.getElem_toArray, List.getElem_cons_succ, List.getElem_cons_zero, List.setIfInBounds_toArray, List.set_cons_zero, List.set_cons_succ]
    refine wpAnyH_take (i := 2) (v := ?v87) rfl (by kernel_rfl) (by kernel_rfl) (by kernel_rfl) (fun _ _ _ h => h) (Or.inl ⟨by kernel_rfl, ?y87⟩) (by assumption) ?_
    case y87 => (intro w hSw; (try dsimp only at hSw); go_simp; all_goals with_reducible rfl)
    try simp only [Act.put, List.getElem_toArray, List.getElem_cons_succ, List.getElem_cons_zero, List.setIfInBounds_toArray, List.set_cons_zero, List.set_cons_succ]
    refine wpAnyH_take (i := 3) (v := ?v88) rfl (by kernel_rfl) (by kernel_rfl) (by kernel_rfl) (fun _ _ _ h => h) (Or.inl ⟨by kernel_rfl, ?y88⟩) (by assumption) ?_
    case y88 => (intro w hSw; (try dsimp only at hSw); go_simp; all_goals with_reducible rfl)
    try simp only [Act.put, List.getElem_toArray, List.getElem_cons_succ, List.getElem_cons_zero, List.setIfInBounds_toArray, List.set_cons_zero, List.set_cons_succ]
    refine wpAnyH_take (i := 4) (v := ?v89) rfl (by kernel_rfl) (by kernel_rfl) (by kernel_rfl) (fun _ _ _ h => h) (Or.inl ⟨by kernel_rfl, ?y89⟩) (by assumption) ?_
    case y89 => (intro w hSw; (try dsimp only at hSw); go_simp; all_goals with_reducible rfl)
    try simp only [Act.put, List.getElem_toArray, List.getElem_cons_succ, List.getElem_cons_zero, List.setIfInBounds_toArray, List.set_cons_zero, List.set_cons_succ]
    refine wpAnyH_take (i := 5) (v := ?v90) rfl (by kernel_rfl) (by kernel_rfl) (by kernel_rfl) (fun _ _ _ h => h) (Or.inl ⟨by kernel_rfl, ?y90⟩) (by assumption) ?_
    case y90 => (intro w hSw; (try dsimp only at hSw); go_simp; all_goals with_reducible rfl)
    try simp only [Act.put, List.getElem_toArray, List.getElem_cons_succ, List.getElem_cons_zero, List.setIfInBounds_toArray, List.set_cons_zero, List.set_cons_succ]
    refine wpAnyH_ready (rs := [6, 10]) (by kernel_rfl) (by simp) (AllReadyH.cons rfl (fun K hK => ?_) (AllReadyH.cons rfl (fun K hK => ?_) AllReadyH.nil))
    · go_simp
      go_at_call 22
      refine (pick_ok A ln cp zt (some ⟨qa, 0, none⟩) 128 128 Zs _ (IT.out.fr (F6.out.trans hHeld.2.2.out)) (IA.out.fr (F6.out.trans hHeld.2.2.out)) (HTC.out _ (FWW.out.trans (F6.out.trans hHeld.2.2.out)))).mono ?_
      rintro E0 W1 ⟨he, f⟩
      have FW := kf f hHeld.2.2
      rw [HP1.out] at he
      obtain rfl : E0 = .returned (.tuple #[spv (outS o1), .int .i64 (outE o1)]) := he
      (try have MX := hid (Blk.fr MX.out f (fun h => h)))
      (try have hsz1 : w9.heap.size ≤ W1.heap.size := f.size)
      dsimp only
      refine hK.out _ _ ?_ (fun hHeld => ?_)
      · (try dsimp only); (first | (go_split_ands; exact ⟨kc f (by assumption), kc f (by assumption), by assumption⟩) | (go_split_ands; exact ⟨(by assumption), (by assumption), by assumption⟩) | (go_split_ands; exact ⟨kc (fr1 _ _) (by assumption), kc (fr1 _ _) (by assumption), kfa (by assumption)⟩) | (go_split_ands; exact ⟨kc (fr1d _ _) (by assumption), kc (fr1d _ _) (by assumption), kfae (by assumption)⟩) | (exact ⟨kcs hf2 (by simp only []; omega) hHeld.1, kcs hf2 (by simp only []; omega) hHeld.2.1, kfg (by omega) FW hf2⟩) | (exact ⟨kcs hf2 (by simp only []; omega) hHeld.1, kcs hf2 (by simp only []; omega) hHeld.2.1, kfg (by omega) hHeld.2.2 hf2⟩) | (go_split_ands; exact ⟨kcs hf2 (by simp only []; omega) (by assumption), kcs hf2 (by simp only []; omega) (by assumption), kfg (by omega) (by assumption) hf2⟩))
      clear hK K
      try simp only [Act.put, List.getElem_toArray, List.getElem_cons_succ, List.getElem_cons_zero, List.setIfInBounds_toArray, List.set_cons_zero, List.set_cons_succ]
      refine wpAnyH_take (i := 7) (v := ?v91) rfl (by kernel_rfl) (by kernel_rfl) (by kernel_rfl) (fun _ _ _ h => h) (Or.inl ⟨by kernel_rfl, ?y91⟩) (by assumption) ?_
      case y91 => (intro w hSw; (try dsimp only at hSw); go_simp; all_goals with_reducible rfl)
      try simp only [Act.put, List.getElem_toArray, List.getElem_cons_succ, List.getElem_cons_zero, List.setIfInBounds_toArray, List.set_cons_zero, List.set_cons_succ]
      refine wpAnyH_take (i := 8) (v := ?v92) rfl (by kernel_rfl) (by kernel_rfl) (by kernel_rfl) (fun _ _ _ h => h) (Or.inl ⟨by kernel_rfl, ?y92⟩) (by assumption) ?_
      case y92 => (intro w hSw; (try dsimp only at hSw); go_simp; all_goals with_reducible rfl)
      try simp only [Act.put, List.getElem_toArray, List.getElem_cons_succ, List.getElem_cons_zero, List.setIfInBounds_toArray, List.set_cons_zero, List.set_cons_succ]
      refine wpAnyH_take (i := 9) (v := ?v93) rfl (by kernel_rfl) (by kernel_rfl) (by kernel_rfl) (fun _ _ _ h => h) (Or.inl ⟨by kernel_rfl, ?y93⟩) (by assumption) ?_
      case y93 => (intro w hSw; (try dsimp only at hSw); go_simp; all_goals with_reducible rfl)
      try simp only [Act.put, List.getElem_toArray, List.getElem_cons_succ, List.getElem_cons_zero, List.setIfInBounds_toArray, List.set_cons_zero, List.set_cons_succ]
      refine wpAnyH_ready (rs := [10]) (by kernel_rfl) (by simp) (AllReadyH.cons rfl (fun K hK => ?_) AllReadyH.nil)
      go_simp
      refine hK.out _ _ ?_ (fun hHeld => ?_)
      · (try dsimp only); (first | (go_split_ands; exact ⟨kc f (by assumption), kc f (by assumption), by assumption⟩) | (go_split_ands; exact ⟨(by assumption), (by assumption), by assumption⟩) | (go_split_ands; exact ⟨kc (fr1 _ _) (by assumption), kc (fr1 _ _) (by assumption), kfa (by assumption)⟩) | (go_split_ands; exact ⟨kc (fr1d _ _) (by assumption), kc (fr1d _ _) (by assumption), kfae (by assumption)⟩) | (exact ⟨kcs hf2 (by simp only []; omega) hHeld.1, kcs hf2 (by simp only []; omega) hHeld.2.1, kfg (by omega) FW hf2⟩) | (exact ⟨kcs hf2 (by simp only []; omega) hHeld.1, kcs hf2 (by simp only []; omega) hHeld.2.1, kfg (by omega) hHeld.2.2 hf2⟩) | (go_split_ands; exact ⟨kcs hf2 (by simp only []; omega) (by assumption), kcs hf2 (by simp only []; omega) (by assumption), kfg (by omega) (by assumption) hf2⟩))
      clear hK K
      try simp only [Act.put, List.getElem_toArray, List.getElem_cons_succ, List.getElem_cons_zero, List.setIfInBounds_toArray, List.set_cons_zero, List.set_cons_succ]
      have MX := hid (Blk.new W1 25 #[.int .i64 0, .int .i64 0, .int .i64 0, .int .i64 0, .int .i64 0, .int .i64 0, .int .i64 0, .int .i64 0, .int .i64 0, .bool false])
      refine wpAnyH_ready (rs := [11]) (by kernel_rfl) (by simp) (AllReadyH.cons rfl (fun K hK => ?_) AllReadyH.nil)
      refine st_S_step rfl (.tmp 12) (.tmp 76) rfl _ rfl (r := outS o1) rfl MX.out rfl ?_
      intro W2 hb2 hf2
      refine hK.out _ _ ?_ (fun hHeld => ?_)
      · (try dsimp only); (first | (go_split_ands; exact ⟨kc f (by assumption), kc f (by assumption), by assumption⟩) | (go_split_ands; exact ⟨(by assumption), (by assumption), by assumption⟩) | (go_split_ands; exact ⟨kc (fr1 _ _) (by assumption), kc (fr1 _ _) (by assumption), kfa (by assumption)⟩) | (go_split_ands; exact ⟨kc (fr1d _ _) (by assumption), kc (fr1d _ _) (by assumption), kfae (by assumption)⟩) | (exact ⟨kcs hf2 (by simp only []; omega) hHeld.1, kcs hf2 (by simp only []; omega) hHeld.2.1, kfg (by omega) FW hf2⟩) | (exact ⟨kcs hf2 (by simp only []; omega) hHeld.1, kcs hf2 (by simp only []; omega) hHeld.2.1, kfg (by omega) hHeld.2.2 hf2⟩) | (go_split_ands; exact ⟨kcs hf2 (by simp only []; omega) (by assumption), kcs hf2 (by simp only []; omega) (by assumption), kfg (by omega) (by assumption) hf2⟩))
      clear hK K
      try simp only [Act.put, List.getElem_toArray, List.getElem_cons_succ, List.getElem_cons_zero, List.setIfInBounds_toArray, List.set_cons_zero, List.set_cons_succ]
      have FW := hHeld.2.2; have MX := hid hb2; have hne : W1.heap.size ≠ L := (by omega); clear hf2 hb2
      refine wpAnyH_take (i := 12) (v := ?v94) rfl (by kernel_rfl) (by kernel_rfl) (by kernel_rfl) (fun _ _ _ h => h) (Or.inl ⟨by kernel_rfl, ?y94⟩) (by assumption) ?_
      case y94 => (intro w hSw; (try dsimp only at hSw); go_simp; all_goals with_reducible rfl)
      try simp only [Act.put, List.getElem_toArray, List.getElem_cons_succ, List.getElem_cons_zero, List.setIfInBounds_toArray, List.set_cons_zero, List.set_cons_succ]
      refine wpAnyH_done (by kernel_rfl) ?_ _
      refine NoPanic.normal ?_
      go_wp2_with fail
      go_meet
      case rel => exact ⟨_, rfl, rfl, MX.out, hne, FW.out⟩
    · go_simp
      refine hK.out _ _ ?_ (fun hHeld => ?_)
      · (try dsimp only); (first | (go_split_ands; exact ⟨kc f (by assumption), kc f (by assumption), by assumption⟩) | (go_split_ands; exact ⟨(by assumption), (by assumption), by assumption⟩) | (go_split_ands; exact ⟨kc (fr1 _ _) (by assumption), kc (fr1 _ _) (by assumption), kfa (by assumption)⟩) | (go_split_ands; exact ⟨kc (fr1d _ _) (by assumption), kc (fr1d _ _) (by assumption), kfae (by assumption)⟩) | (exact ⟨kcs hf2 (by simp only []; omega) hHeld.1, kcs hf2 (by simp only []; omega) hHeld.2.1, kfg (by omega) FW hf2⟩) | (exact ⟨kcs hf2 (by simp only []; omega) hHeld.1, kcs hf2 (by simp only []; omega) hHeld.2.1, kfg (by omega) hHeld.2.2 hf2⟩) | (go_split_ands; exact ⟨kcs hf2 (by simp only []; omega) (by assumption), kcs hf2 (by simp only []; omega) (by assumption), kfg (by omega) (by assumption) hf2⟩))
      clear hK K
      try simp only [Act.put, List.getElem_toArray, List.getElem_cons_succ, List.getElem_cons_zero, List.setIfInBounds_toArray, List.set_cons_zero, List.set_cons_succ]
      have MX := hid (show Blk (w9.alloc (.cells #[.int .i64 0, .int .i64 0, .int .i64 0, .int .i64 0, .int .i64 0, .int .i64 0, .int .i64 0, .int .i64 0, .int .i64 0, .bool false] 25)).drew w9.heap.size 25 #[.int .i64 0, .int .i64 0, .int .i64 0, .int .i64 0, .int .i64 0, .int .i64 0, .int .i64 0, .int .i64 0, .int .i64 0, .bool false] from Blk.new w9 _ _)
      refine wpAnyH_ready (rs := [6]) (by kernel_rfl) (by simp) (AllReadyH.cons rfl (fun K hK => ?_) AllReadyH.nil)
      go_simp
      go_at_call 22
      refine (pick_ok A ln cp zt (some ⟨qa, 0, none⟩) 128 128 Zs _ (IT.out.fr (F6.out.trans hHeld.2.2.out)) (IA.out.fr (F6.out.trans hHeld.2.2.out)) (HTC.out _ (FWW.out.trans (F6.out.trans hHeld.2.2.out)))).mono ?_
      rintro E0 W1 ⟨he, f⟩
      have FW := kf f hHeld.2.2
      rw [HP1.out] at he
      obtain rfl : E0 = .returned (.tuple #[spv (outS o1), .int .i64 (outE o1)]) := he
      (try have MX := hid (Blk.fr MX.out f (fun h => h)))
      (try have hsz1 : w9.heap.size ≤ W1.heap.size := f.size)
      dsimp only
      refine hK.out _ _ ?_ (fun hHeld => ?_)
      · (try dsimp only); (first | (go_split_ands; exact ⟨kc f (by assumption), kc f (by assumption), by assumption⟩) | (go_split_ands; exact ⟨(by assumption), (by assumption), by assumption⟩) | (go_split_ands; exact ⟨kc (fr1 _ _) (by assumption), kc (fr1 _ _) (by assumption), kfa (by assumption)⟩) | (go_split_ands; exact ⟨kc (fr1d _ _) (by assumption), kc (fr1d _ _) (by assumption), kfae (by assumption)⟩) | (exact ⟨kcs hf2 (by simp only []; omega) hHeld.1, kcs hf2 (by simp only []; omega) hHeld.2.1, kfg (by omega) FW hf2⟩) | (exact ⟨kcs hf2 (by simp only []; omega) hHeld.1, kcs hf2 (by simp only []; omega) hHeld.2.1, kfg (by omega) hHeld.2.2 hf2⟩) | (go_split_ands; exact ⟨kcs hf2 (by simp only []; omega) (by assumption), kcs hf2 (by simp only []; omega) (by assumption), kfg (by omega) (by assumption) hf2⟩))
      clear hK K
      try simp only [Act.put, List.getElem_toArray, List.getElem_cons_succ, List.getElem_cons_zero, List.setIfInBounds_toArray, List.set_cons_zero, List.set_cons_succ]
      refine wpAnyH_take (i := 7) (v := ?v95) rfl (by kernel_rfl) (by kernel_rfl) (by kernel_rfl) (fun _ _ _ h => h) (Or.inl ⟨by kernel_rfl, ?y95⟩) (by assumption) ?_
      case y95 => (intro w hSw; (try dsimp only at hSw); go_simp; all_goals with_reducible rfl)
      try simp only [Act.put, List.getElem_toArray, List.getElem_cons_succ, List.getElem_cons_zero, List.setIfInBounds_toArray, List.set_cons_zero, List.set_cons_succ]
      refine wpAnyH_take (i := 8) (v := ?v96) rfl (by kernel_rfl) (by kernel_rfl) (by kernel_rfl) (fun _ _ _ h => h) (Or.inl ⟨by kernel_rfl, ?y96⟩) (by assumption) ?_
      case y96 => (intro w hSw; (try dsimp only at hSw); go_simp; all_goals with_reducible rfl)
      try simp only [Act.put, List.getElem_toArray, List.getElem_cons_succ, List.getElem_cons_zero, List.setIfInBounds_toArray, List.set_cons_zero, List.set_cons_succ]
      refine wpAnyH_take (i := 9) (v := ?v97) rfl (by kernel_rfl) (by kernel_rfl) (by kernel_rfl) (fun _ _ _ h => h) (Or.inl ⟨by kernel_rfl, ?y97⟩) (by assumption) ?_
      case y97 => (intro w hSw; (try dsimp only at hSw); go_simp; all_goals with_reducible rfl)
      try simp only [Act.put, List.getElem_toArray, List.getElem_cons_succ, List.getElem_cons_zero, List.setIfInBounds_toArray, List.set_cons_zero, List.set_cons_succ]
      refine wpAnyH_ready (rs := [11]) (by kernel_rfl) (by simp) (AllReadyH.cons rfl (fun K hK => ?_) AllReadyH.nil)
      refine st_S_step rfl (.tmp 12) (.tmp 76) rfl _ rfl (r := outS o1) rfl MX.out rfl ?_
      intro W2 hb2 hf2
      refine hK.out _ _ ?_ (fun hHeld => ?_)
      · (try dsimp only); (first | (go_split_ands; exact ⟨kc f (by assumption), kc f (by assumption), by assumption⟩) | (go_split_ands; exact ⟨(by assumption), (by assumption), by assumption⟩) | (go_split_ands; exact ⟨kc (fr1 _ _) (by assumption), kc (fr1 _ _) (by assumption), kfa (by assumption)⟩) | (go_split_ands; exact ⟨kc (fr1d _ _) (by assumption), kc (fr1d _ _) (by assumption), kfae (by assumption)⟩) | (exact ⟨kcs hf2 (by simp only []; omega) hHeld.1, kcs hf2 (by simp only []; omega) hHeld.2.1, kfg (by omega) FW hf2⟩) | (exact ⟨kcs hf2 (by simp only []; omega) hHeld.1, kcs hf2 (by simp only []; omega) hHeld.2.1, kfg (by omega) hHeld.2.2 hf2⟩) | (go_split_ands; exact ⟨kcs hf2 (by simp only []; omega) (by assumption), kcs hf2 (by simp only []; omega) (by assumption), kfg (by omega) (by assumption) hf2⟩))
      clear hK K
      try simp only [Act.put, List.getElem_toArray, List.getElem_cons_succ, List.getElem_cons_zero, List.setIfInBounds_toArray, List.set_cons_zero, List.set_cons_succ]
      have FW := hHeld.2.2; have MX := hid hb2; have hne : w9.heap.size ≠ L := (by omega); clear hf2 hb2
      refine wpAnyH_take (i := 12) (v := ?v98) rfl (by kernel_rfl) (by kernel_rfl) (by kernel_rfl) (fun _ _ _ h => h) (Or.inl ⟨by kernel_rfl, ?y98⟩) (by assumption) ?_
      case y98 => (intro w hSw; (try dsimp only at hSw); go_simp; all_goals with_reducible rfl)
      try simp only [Act.put, List.getElem_toArray, List.getElem_cons_succ, List.getElem_cons_zero, List.setIfInBounds_toArray, List.set_cons_zero, List.set_cons_succ]
      refine wpAnyH_done (by kernel_rfl) ?_ _
      refine NoPanic.normal ?_
      go_wp2_with fail
      go_meet
      case rel => exact ⟨_, rfl, rfl, MX.out, hne, FW.out⟩
  case rest =>
    obtain ⟨M12, rfl, rfl, hb12, hne12, f⟩ := hcut
    have B12 := hid hb12
    have HNE12 := hid hne12
    replace F6 := hid (F6.out.trans f)
    replace BL := hid (Blk.fr BL.out f (fun h => h))
    clear hb12 hne12 f l0 l1 hL9 HLR
    have d0 : World.cell? _ ⟨D, 0, none⟩ = some (.int .i64 gn) := Blk.cell (Blk.fr BN.out F6.out (fun h => h)) 0
    have d1 : World.cell? _ ⟨D, 1, none⟩ = some (.int .i64 c) := Blk.cell (Blk.fr BN.out F6.out (fun h => h)) 1
    have d2 : World.cell? _ ⟨D, 2, none⟩ = some (.int .i64 s) := Blk.cell (Blk.fr BN.out F6.out (fun h => h)) 2
    have d3 : World.cell? _ ⟨D, 3, none⟩ = some (.int .i64 n) := Blk.cell (Blk.fr BN.out F6.out (fun h => h)) 3
    have d4 : World.cell? _ ⟨D, 4, none⟩ = some (.int .i64 l) := Blk.cell (Blk.fr BN.out F6.out (fun h => h)) 4
    have d5 : World.cell? _ ⟨D, 5, none⟩ = some (.int .i64 k) := Blk.cell (Blk.fr BN.out F6.out (fun h => h)) 5
    have d6 : World.cell? _ ⟨D, 6, none⟩ = some (.int .i64 tn) := Blk.cell (Blk.fr BN.out F6.out (fun h => h)) 6
    have d7 : World.cell? _ ⟨D, 7, none⟩ = some (.int .i64 ep) := Blk.cell (Blk.fr BN.out F6.out (fun h => h)) 7
    have d8 : World.cell? _ ⟨D, 8, none⟩ = some (.int .i64 fi) := Blk.cell (Blk.fr BN.out F6.out (fun h => h)) 8
    have d9 : World.cell? _ ⟨D, 9, none⟩ = some (.bool b) := Blk.cell (Blk.fr BN.out F6.out (fun h => h)) 9
    go_upto_region 12 with (go_at_call 18; go_loud (refine (copy_lit gn c s n l k tn ep fi b _ 0 HSS.out HMN.out HP.out).mono ?_; rintro e' w11 ⟨rfl, f⟩; replace F6 := hid (F6.out.trans f); replace BL := hid (Blk.fr BL.out f (fun h => h)); replace B12 := hid (Blk.fr B12.out f (fun h => h)); clear f d0 d1 d2 d3 d4 d5 d6 d7 d8 d9; have l0 : w11.cell? ⟨L, 0, none⟩ = some (.slice A ln cp) := Blk.cell BL.out 0; have z0 : w11.frozen? ⟨L, 0, none⟩ = false := Blk.frozen BL.out 0))
    clear l0 z0
    replace F6 := hid (F6.out.setCell (p := ⟨L, 0, none⟩) (fun h => absurd h (by have := HL6.out; simp only []; omega)) (.slice (some ⟨qb, 0, none⟩) 128 128))
    replace BL := hid (show Blk (w11.setCell ⟨L, 0, none⟩ (.slice (some ⟨qb, 0, none⟩) 128 128)) L 26 #[.slice (some ⟨qb, 0, none⟩) 128 128, .slice (some ⟨qa, 0, none⟩) 128 128] from Blk.set_ BL.out 0 (.slice (some ⟨qb, 0, none⟩) 128 128))
    replace B12 := hid (Blk.far B12.out (p := ⟨L, 0, none⟩) (fun h => HNE12.out h) (.slice (some ⟨qb, 0, none⟩) 128 128))
    generalize World.setCell w11 ⟨L, 0, none⟩ (.slice (some ⟨qb, 0, none⟩) 128 128) = w12 at F6 BL B12 ⊢
    have l0 : w12.cell? ⟨L, 0, none⟩ = some (.slice (some ⟨qb, 0, none⟩) 128 128) := Blk.cell BL.out 0
    have l1 : w12.cell? ⟨L, 1, none⟩ = some (.slice (some ⟨qa, 0, none⟩) 128 128) := Blk.cell BL.out 1
    have hL9 : L < w12.heap.size := Blk.lt BL.out
    have HLR := hid hL9
    go_cut [14, 15] (fun mp e wx => ∃ M : Nat, mp = .pointer (some ⟨M, 0, none⟩) ∧ e = .int .i64 (0) ∧ BS wx M (⟨gn, c, s, n, l, k, tn, ep, fi, b⟩) ∧ M ≠ L ∧ Fr No w12 wx)
    case first =>
      have FW : Hid (Fr No w12 w12) := hid (Fr.refl No _)
      have FW := kd FW
      refine wp_region_noPanic ?_
      refine wp_region_held_drew (S := (fun W' => W'.cell? ⟨L, 0, none⟩ = some (.slice (some ⟨qb, 0, none⟩) 128 128) ∧ W'.cell? ⟨L, 1, none⟩ = some (.slice (some ⟨qa, 0, none⟩) 128 128) ∧ Hid (Fr No w12 W'))) (by kernel_rfl) ?_ (fun hHeld => ?_)
      · (try dsimp only); (first | (go_split_ands; exact ⟨kc f (by assumption), kc f (by assumption), by assumption⟩) | (go_split_ands; exact ⟨(by assumption), (by assumption), by assumption⟩) | (go_split_ands; exact ⟨kc (fr1 _ _) (by assumption), kc (fr1 _ _) (by assumption), kfa (by assumption)⟩) | (go_split_ands; exact ⟨kc (fr1d _ _) (by assumption), kc (fr1d _ _) (by assumption), kfae (by assumption)⟩) | (exact ⟨kcs hf2 (by simp only []; omega) hHeld.1, kcs hf2 (by simp only []; omega) hHeld.2.1, kfg (by omega) FW hf2⟩) | (exact ⟨kcs hf2 (by simp only []; omega) hHeld.1, kcs hf2 (by simp only []; omega) hHeld.2.1, kfg (by omega) hHeld.2.2 hf2⟩) | (go_split_ands; exact ⟨kcs hf2 (by simp only []; omega) (by assumption), kcs hf2 (by simp only []; omega) (by assumption), kfg (by omega) (by assumption) hf2⟩))
      refine wpAnyH_take (i := 0) (v := ?v99) rfl (by kernel_rfl) (by kernel_rfl) (by kernel_rfl) (fun _ _ _ h => h) (Or.inl ⟨by kernel_rfl, ?y99⟩) (by assumption) ?_
      case y99 => (intro w hSw; (try dsimp only at hSw); go_simp; all_goals with_reducible rfl)
      try simp only [Act.put, List.getElem_toArray, List.getElem_cons_zero, List.setIfInBounds_toArray, List.set_cons_zero, List.set_cons_succ]
      refine wpAnyH_take (i := 1) (v := ?v100) rfl (by kernel_rfl) (by kernel_rfl) (by kernel_rfl) (fun _ _ _ h => h) (Or.inl ⟨by kernel_rfl, ?y100⟩) (by assumption) ?_
      case y100 => (intro w hSw; (try dsimp only at hSw); go_simp; all_goals with_reducible rfl)
      try simp only [Act.put, List.getElem_toArray, List.getElem_cons_succ, List.getElem_cons_zero, List.setIfInBounds_toArray, List.set_cons_zero, List.set_cons_succ]
      refine wpAnyH_take (i := 2) (v := ?v101) rfl (by kernel_rfl) (by kernel_rfl) (by kernel_rfl) (fun _ _ _ h => h) (Or.inl ⟨by kernel_rfl, ?y101⟩) (by assumption) ?_
      case y101 => (intro w hSw; (try dsimp only at hSw); go_simp; all_goals with_reducible rfl)
      try simp only [Act.put, List.getElem_toArray, List.getElem_cons_succ, List.getElem_cons_zero, List.setIfInBounds_toArray, List.set_cons_zero, List.set_cons_succ]
      refine wpAnyH_take (i := 3) (v := ?v102) rfl (by kernel_rfl) (by kernel_rfl) (by kernel_rfl) (fun _ _ _ h => h) (Or.inl ⟨by kernel_rfl, ?y102⟩) (by assumption) ?_
      case y102 => (intro w hSw; (try dsimp only at hSw); go_simp; all_goals with_reducible rfl)
      try simp only [Act.put, List.getElem_toArray, List.getElem_cons_succ, List.getElem_cons_zero, List.setIfInBounds_toArray, List.set_cons_zero, List.set_cons_succ]
      refine wpAnyH_take (i := 4) (v := ?v103) rfl (by kernel_rfl) (by kernel_rfl) (by kernel_rfl) (fun _ _ _ h => h) (Or.inl ⟨by kernel_rfl, ?y103⟩) (by assumption) ?_
      case y103 => (intro w hSw; (try dsimp only at hSw); go_simp; all_goals with_reducible rfl)
      try simp only [Act.put, List.getElem_toArray, List.getElem_cons_succ, List.getElem_cons_zero, List.setIfInBounds_toArray, List.set_cons_zero, List.set_cons_succ]
      refine wpAnyH_take (i := 5) (v := ?v104) rfl (by kernel_rfl) (by kernel_rfl) (by kernel_rfl) (fun _ _ _ h => h) (Or.inl ⟨by kernel_rfl, ?y104⟩) (by assumption) ?_
      case y104 => (intro w hSw; (try dsimp only at hSw); go_simp; all_goals with_reducible rfl)
      try simp only [Act.put, List.getElem_toArray, List.getElem_cons_succ, List.getElem_cons_zero, List.setIfInBounds_toArray, List.set_cons_zero, List.set_cons_succ]
      refine wpAnyH_ready (rs := [6, 10]) (by kernel_rfl) (by simp) (AllReadyH.cons rfl (fun K hK => ?_) (AllReadyH.cons rfl (fun K hK => ?_) AllReadyH.nil))
      · go_simp
        go_at_call 22
        refine (pick_ok (some ⟨qb, 0, none⟩) 128 128 Zn (some ⟨qa, 0, none⟩) 128 128 Zs _ (IB.out.fr (F6.out.trans hHeld.2.2.out)) (IA.out.fr (F6.out.trans hHeld.2.2.out)) (HTC.out _ (FWW.out.trans (F6.out.trans hHeld.2.2.out)))).mono ?_
        rintro E0 W1 ⟨he, f⟩
        have FW := kf f hHeld.2.2
        rw [HP2.out] at he
        obtain rfl : E0 = .returned (.tuple #[spv (⟨gn, c, s, n, l, k, tn, ep, fi, b⟩), .int .i64 (0)]) := he
        (try have MX := hid (Blk.fr MX.out f (fun h => h)))
        (try have hsz1 : w12.heap.size ≤ W1.heap.size := f.size)
        dsimp only
        refine hK.out _ _ ?_ (fun hHeld => ?_)
        · (try dsimp only); (first | (go_split_ands; exact ⟨kc f (by assumption), kc f (by assumption), by assumption⟩) | (go_split_ands; exact ⟨(by assumption), (by assumption), by assumption⟩) | (go_split_ands; exact ⟨kc (fr1 _ _) (by assumption), kc (fr1 _ _) (by assumption), kfa (by assumption)⟩) | (go_split_ands; exact ⟨kc (fr1d _ _) (by assumption), kc (fr1d _ _) (by assumption), kfae (by assumption)⟩) | (exact ⟨kcs hf2 (by simp only []; omega) hHeld.1, kcs hf2 (by simp only []; omega) hHeld.2.1, kfg (by omega) FW hf2⟩) | (exact ⟨kcs hf2 (by simp only []; omega) hHeld.1, kcs hf2 (by simp only []; omega) hHeld.2.1, kfg (by omega) hHeld.2.2 hf2⟩) | (go_split_ands; exact ⟨kcs hf2 (by simp only []; omega) (by assumption), kcs hf2 (by simp only []; omega) (by assumption), kfg (by omega) (by assumption) hf2⟩))
        clear hK K
        try simp only [Act.put, List.getElem_toArray, List.getElem_cons_succ, List.getElem_cons_zero, List.setIfInBounds_toArray, List.set_cons_zero, List.set_cons_succ]
        refine wpAnyH_take (i := 7) (v := ?v105) rfl (by kernel_rfl) (by kernel_rfl) (by kernel_rfl) (fun _ _ _ h => h) (Or.inl ⟨by kernel_rfl, ?y105⟩) (by assumption) ?_
        case y105 => (intro w hSw; (try dsimp only at hSw); go_simp; all_goals with_reducible rfl)
        try simp only [Act.put, List.getElem_toArray, List.getElem_cons_succ, List.getElem_cons_zero, List.setIfInBounds_toArray, List.set_cons_zero, List.set_cons_succ]
        refine wpAnyH_take (i := 8) (v := ?v106) rfl (by kernel_rfl) (by kernel_rfl) (by kernel_rfl) (fun _ _ _ h => h) (Or.inl ⟨by kernel_rfl, ?y106⟩) (by assumption) ?_
        case y106 => (intro w hSw; (try dsimp only at hSw); go_simp; all_goals with_reducible rfl)
        try simp only [Act.put, List.getElem_toArray, List.getElem_cons_succ, List.getElem_cons_zero, List.setIfInBounds_toArray, List.set_cons_zero, List.set_cons_succ]
        refine wpAnyH_take (i := 9) (v := ?v107) rfl (by kernel_rfl) (by kernel_rfl) (by kernel_rfl) (fun _ _ _ h => h) (Or.inl ⟨by kernel_rfl, ?y107⟩) (by assumption) ?_
        case y107 => (intro w hSw; (try dsimp only at hSw); go_simp; all_goals with_reducible rfl)
        try simp only [Act.put, List.getElem_toArray, List.getElem_cons_succ, List.getElem_cons_zero, List.setIfInBounds_toArray, List.set_cons_zero, List.set_cons_succ]
        refine wpAnyH_ready (rs := [10]) (by kernel_rfl) (by simp) (AllReadyH.cons rfl (fun K hK => ?_) AllReadyH.nil)
        go_simp
        refine hK.out _ _ ?_ (fun hHeld => ?_)
        · (try dsimp only); (first | (go_split_ands; exact ⟨kc f (by assumption), kc f (by assumption), by assumption⟩) | (go_split_ands; exact ⟨(by assumption), (by assumption), by assumption⟩) | (go_split_ands; exact ⟨kc (fr1 _ _) (by assumption), kc (fr1 _ _) (by assumption), kfa (by assumption)⟩) | (go_split_ands; exact ⟨kc (fr1d _ _) (by assumption), kc (fr1d _ _) (by assumption), kfae (by assumption)⟩) | (exact ⟨kcs hf2 (by simp only []; omega) hHeld.1, kcs hf2 (by simp only []; omega) hHeld.2.1, kfg (by omega) FW hf2⟩) | (exact ⟨kcs hf2 (by simp only []; omega) hHeld.1, kcs hf2 (by simp only []; omega) hHeld.2.1, kfg (by omega) hHeld.2.2 hf2⟩) | (go_split_ands; exact ⟨kcs hf2 (by simp only []; omega) (by assumption), kcs hf2 (by simp only []; omega) (by assumption), kfg (by omega) (by assumption) hf2⟩))
        clear hK K
        try simp only [Act.put, List.getElem_toArray, List.getElem_cons_succ, List.getElem_cons_zero, List.setIfInBounds_toArray, List.set_cons_zero, List.set_cons_succ]
        have MX := hid (Blk.new W1 25 #[.int .i64 0, .int .i64 0, .int .i64 0, .int .i64 0, .int .i64 0, .int .i64 0, .int .i64 0, .int .i64 0, .int .i64 0, .bool false])
        refine wpAnyH_ready (rs := [11]) (by kernel_rfl) (by simp) (AllReadyH.cons rfl (fun K hK => ?_) AllReadyH.nil)
        refine st_S_step rfl (.tmp 14) (.tmp 92) rfl _ rfl (r := ⟨gn, c, s, n, l, k, tn, ep, fi, b⟩) rfl MX.out rfl ?_
        intro W2 hb2 hf2
        refine hK.out _ _ ?_ (fun hHeld => ?_)
        · (try dsimp only); (first | (go_split_ands; exact ⟨kc f (by assumption), kc f (by assumption), by assumption⟩) | (go_split_ands; exact ⟨(by assumption), (by assumption), by assumption⟩) | (go_split_ands; exact ⟨kc (fr1 _ _) (by assumption), kc (fr1 _ _) (by assumption), kfa (by assumption)⟩) | (go_split_ands; exact ⟨kc (fr1d _ _) (by assumption), kc (fr1d _ _) (by assumption), kfae (by assumption)⟩) | (exact ⟨kcs hf2 (by simp only []; omega) hHeld.1, kcs hf2 (by simp only []; omega) hHeld.2.1, kfg (by omega) FW hf2⟩) | (exact ⟨kcs hf2 (by simp only []; omega) hHeld.1, kcs hf2 (by simp only []; omega) hHeld.2.1, kfg (by omega) hHeld.2.2 hf2⟩) | (go_split_ands; exact ⟨kcs hf2 (by simp only []; omega) (by assumption), kcs hf2 (by simp only []; omega) (by assumption), kfg (by omega) (by assumption) hf2⟩))
        clear hK K
        try simp only [Act.put, List.getElem_toArray, List.getElem_cons_succ, List.getElem_cons_zero, List.setIfInBounds_toArray, List.set_cons_zero, List.set_cons_succ]
        have FW := hHeld.2.2; have MX := hid hb2; have hne : W1.heap.size ≠ L := (by omega); clear hf2 hb2
        refine wpAnyH_take (i := 12) (v := ?v108) rfl (by kernel_rfl) (by kernel_rfl) (by kernel_rfl) (fun _ _ _ h => h) (Or.inl ⟨by kernel_rfl, ?y108⟩) (by assumption) ?_
        case y108 => (intro w hSw; (try dsimp only at hSw); go_simp; all_goals with_reducible rfl)
        try simp only [Act.put, List.getElem_toArray, List.getElem_cons_succ, List.getElem_cons_zero, List.setIfInBounds_toArray, List.set_cons_zero, List.set_cons_succ]
        refine wpAnyH_done (by kernel_rfl) ?_ _
        refine NoPanic.normal ?_
        go_wp2_with fail
        go_meet
        case rel => exact ⟨_, rfl, rfl, MX.out, hne, FW.out⟩
      · go_simp
        refine hK.out _ _ ?_ (fun hHeld => ?_)
        · (try dsimp only); (first | (go_split_ands; exact ⟨kc f (by assumption), kc f (by assumption), by assumption⟩) | (go_split_ands; exact ⟨(by assumption), (by assumption), by assumption⟩) | (go_split_ands; exact ⟨kc (fr1 _ _) (by assumption), kc (fr1 _ _) (by assumption), kfa (by assumption)⟩) | (go_split_ands; exact ⟨kc (fr1d _ _) (by assumption), kc (fr1d _ _) (by assumption), kfae (by assumption)⟩) | (exact ⟨kcs hf2 (by simp only []; omega) hHeld.1, kcs hf2 (by simp only []; omega) hHeld.2.1, kfg (by omega) FW hf2⟩) | (exact ⟨kcs hf2 (by simp only []; omega) hHeld.1, kcs hf2 (by simp only []; omega) hHeld.2.1, kfg (by omega) hHeld.2.2 hf2⟩) | (go_split_ands; exact ⟨kcs hf2 (by simp only []; omega) (by assumption), kcs hf2 (by simp only []; omega) (by assumption), kfg (by omega) (by assumption) hf2⟩))
        clear hK K
        try simp only [Act.put, List.getElem_toArray, List.getElem_cons_succ, List.getElem_cons_zero, List.setIfInBounds_toArray, List.set_cons_zero, List.set_cons_succ]
        have MX := hid (show Blk (w12.alloc (.cells #[.int .i64 0, .int .i64 0, .int .i64 0, .int .i64 0, .int .i64 0, .int .i64 0, .int .i64 0, .int .i64 0, .int .i64 0, .bool false] 25)).drew w12.heap.size 25 #[.int .i64 0, .int .i64 0, .int .i64 0, .int .i64 0, .int .i64 0, .int .i64 0, .int .i64 0, .int .i64 0, .int .i64 0, .bool false] from Blk.new w12 _ _)
        refine wpAnyH_ready (rs := [6]) (by kernel_rfl) (by simp) (AllReadyH.cons rfl (fun K hK => ?_) AllReadyH.nil)
        go_simp
        go_at_call 22
        refine (pick_ok (some ⟨qb, 0, none⟩) 128 128 Zn (some ⟨qa, 0, none⟩) 128 128 Zs _ (IB.out.fr (F6.out.trans hHeld.2.2.out)) (IA.out.fr (F6.out.trans hHeld.2.2.out)) (HTC.out _ (FWW.out.trans (F6.out.trans hHeld.2.2.out)))).mono ?_
        rintro E0 W1 ⟨he, f⟩
        have FW := kf f hHeld.2.2
        rw [HP2.out] at he
        obtain rfl : E0 = .returned (.tuple #[spv (⟨gn, c, s, n, l, k, tn, ep, fi, b⟩), .int .i64 (0)]) := he
        (try have MX := hid (Blk.fr MX.out f (fun h => h)))
        (try have hsz1 : w12.heap.size ≤ W1.heap.size := f.size)
        dsimp only
        refine hK.out _ _ ?_ (fun hHeld => ?_)
        · (try dsimp only); (first | (go_split_ands; exact ⟨kc f (by assumption), kc f (by assumption), by assumption⟩) | (go_split_ands; exact ⟨(by assumption), (by assumption), by assumption⟩) | (go_split_ands; exact ⟨kc (fr1 _ _) (by assumption), kc (fr1 _ _) (by assumption), kfa (by assumption)⟩) | (go_split_ands; exact ⟨kc (fr1d _ _) (by assumption), kc (fr1d _ _) (by assumption), kfae (by assumption)⟩) | (exact ⟨kcs hf2 (by simp only []; omega) hHeld.1, kcs hf2 (by simp only []; omega) hHeld.2.1, kfg (by omega) FW hf2⟩) | (exact ⟨kcs hf2 (by simp only []; omega) hHeld.1, kcs hf2 (by simp only []; omega) hHeld.2.1, kfg (by omega) hHeld.2.2 hf2⟩) | (go_split_ands; exact ⟨kcs hf2 (by simp only []; omega) (by assumption), kcs hf2 (by simp only []; omega) (by assumption), kfg (by omega) (by assumption) hf2⟩))
        clear hK K
        try simp only [Act.put, List.getElem_toArray, List.getElem_cons_succ, List.getElem_cons_zero, List.setIfInBounds_toArray, List.set_cons_zero, List.set_cons_succ]
        refine wpAnyH_take (i := 7) (v := ?v109) rfl (by kernel_rfl) (by kernel_rfl) (by kernel_rfl) (fun _ _ _ h => h) (Or.inl ⟨by kernel_rfl, ?y109⟩) (by assumption) ?_
        case y109 => (intro w hSw; (try dsimp only at hSw); go_simp; all_goals with_reducible rfl)
        try simp only [Act.put, List.getElem_toArray, List.getElem_cons_succ, List.getElem_cons_zero, List.setIfInBounds_toArray, List.set_cons_zero, List.set_cons_succ]
        refine wpAnyH_take (i := 8) (v := ?v110) rfl (by kernel_rfl) (by kernel_rfl) (by kernel_rfl) (fun _ _ _ h => h) (Or.inl ⟨by kernel_rfl, ?y110⟩) (by assumption) ?_
        case y110 => (intro w hSw; (try dsimp only at hSw); go_simp; all_goals with_reducible rfl)
        try simp only [Act.put, List.getElem_toArray, List.getElem_cons_succ, List.getElem_cons_zero, List.setIfInBounds_toArray, List.set_cons_zero, List.set_cons_succ]
        refine wpAnyH_take (i := 9) (v := ?v111) rfl (by kernel_rfl) (by kernel_rfl) (by kernel_rfl) (fun _ _ _ h => h) (Or.inl ⟨by kernel_rfl, ?y111⟩) (by assumption) ?_
        case y111 => (intro w hSw; (try dsimp only at hSw); go_simp; all_goals with_reducible rfl)
        try simp only [Act.put, List.getElem_toArray, List.getElem_cons_succ, List.getElem_cons_zero, List.setIfInBounds_toArray, List.set_cons_zero, List.set_cons_succ]
        refine wpAnyH_ready (rs := [11]) (by kernel_rfl) (by simp) (AllReadyH.cons rfl (fun K hK => ?_) AllReadyH.nil)
        refine st_S_step rfl (.tmp 14) (.tmp 92) rfl _ rfl (r := ⟨gn, c, s, n, l, k, tn, ep, fi, b⟩) rfl MX.out rfl ?_
        intro W2 hb2 hf2
        refine hK.out _ _ ?_ (fun hHeld => ?_)
        · (try dsimp only); (first | (go_split_ands; exact ⟨kc f (by assumption), kc f (by assumption), by assumption⟩) | (go_split_ands; exact ⟨(by assumption), (by assumption), by assumption⟩) | (go_split_ands; exact ⟨kc (fr1 _ _) (by assumption), kc (fr1 _ _) (by assumption), kfa (by assumption)⟩) | (go_split_ands; exact ⟨kc (fr1d _ _) (by assumption), kc (fr1d _ _) (by assumption), kfae (by assumption)⟩) | (exact ⟨kcs hf2 (by simp only []; omega) hHeld.1, kcs hf2 (by simp only []; omega) hHeld.2.1, kfg (by omega) FW hf2⟩) | (exact ⟨kcs hf2 (by simp only []; omega) hHeld.1, kcs hf2 (by simp only []; omega) hHeld.2.1, kfg (by omega) hHeld.2.2 hf2⟩) | (go_split_ands; exact ⟨kcs hf2 (by simp only []; omega) (by assumption), kcs hf2 (by simp only []; omega) (by assumption), kfg (by omega) (by assumption) hf2⟩))
        clear hK K
        try simp only [Act.put, List.getElem_toArray, List.getElem_cons_succ, List.getElem_cons_zero, List.setIfInBounds_toArray, List.set_cons_zero, List.set_cons_succ]
        have FW := hHeld.2.2; have MX := hid hb2; have hne : w12.heap.size ≠ L := (by omega); clear hf2 hb2
        refine wpAnyH_take (i := 12) (v := ?v112) rfl (by kernel_rfl) (by kernel_rfl) (by kernel_rfl) (fun _ _ _ h => h) (Or.inl ⟨by kernel_rfl, ?y112⟩) (by assumption) ?_
        case y112 => (intro w hSw; (try dsimp only at hSw); go_simp; all_goals with_reducible rfl)
        try simp only [Act.put, List.getElem_toArray, List.getElem_cons_succ, List.getElem_cons_zero, List.setIfInBounds_toArray, List.set_cons_zero, List.set_cons_succ]
        refine wpAnyH_done (by kernel_rfl) ?_ _
        refine NoPanic.normal ?_
        go_wp2_with fail
        go_meet
        case rel => exact ⟨_, rfl, rfl, MX.out, hne, FW.out⟩
    case rest =>
      obtain ⟨M14, rfl, rfl, hb14, hne14, f⟩ := hcut
      replace F6 := hid (F6.out.trans f)
      have B14 := hid hb14
      replace B12 := hid (Blk.fr B12.out f (fun h => h))
      clear hb14 hne14 f l0 l1 hL9 HLR
      go_wp2_with (first | (go_at_call 21; go_loud (refine (rdec_some A ln cp zt _ (IT.out.fr F6.out) HDT.out).mono ?_; rintro e' w15 ⟨rfl, f⟩; replace F6 := hid (F6.out.trans f); replace B14 := hid (Blk.fr B14.out f (fun h => h)); replace B12 := hid (Blk.fr B12.out f (fun h => h)); clear f)) | (refine st_S rfl (.tmp 16) (.tmp 97) rfl w15.heap.size rfl rfl (by simp [Value.oneCell']) (Blk.new w15 _ _) rfl ?_; intro w16 _ f3; have f : Fr No w15 w16 := ((Fr.refl No w15).alloc _).step f3 (fun i hi e => by omega); replace F6 := hid (F6.out.trans f); replace B14 := hid (Blk.fr B14.out f (fun h => h)); replace B12 := hid (Blk.fr B12.out f (fun h => h)); clear f f3; have u0 : w16.cell? ⟨M14, 0, none⟩ = some (.int .i64 gn) := Blk.cell B14.out 0; have u1 : w16.cell? ⟨M14, 1, none⟩ = some (.int .i64 c) := Blk.cell B14.out 1; have u2 : w16.cell? ⟨M14, 2, none⟩ = some (.int .i64 s) := Blk.cell B14.out 2; have u3 : w16.cell? ⟨M14, 3, none⟩ = some (.int .i64 n) := Blk.cell B14.out 3; have u4 : w16.cell? ⟨M14, 4, none⟩ = some (.int .i64 l) := Blk.cell B14.out 4; have u5 : w16.cell? ⟨M14, 5, none⟩ = some (.int .i64 k) := Blk.cell B14.out 5; have u6 : w16.cell? ⟨M14, 6, none⟩ = some (.int .i64 tn) := Blk.cell B14.out 6; have u7 : w16.cell? ⟨M14, 7, none⟩ = some (.int .i64 ep) := Blk.cell B14.out 7; have u8 : w16.cell? ⟨M14, 8, none⟩ = some (.int .i64 fi) := Blk.cell B14.out 8; have u9 : w16.cell? ⟨M14, 9, none⟩ = some (.bool b) := Blk.cell B14.out 9; have d0 : w16.cell? ⟨D, 0, none⟩ = some (.int .i64 gn) := Blk.cell (Blk.fr BN.out F6.out (fun h => h)) 0; have d1 : w16.cell? ⟨D, 1, none⟩ = some (.int .i64 c) := Blk.cell (Blk.fr BN.out F6.out (fun h => h)) 1; have d2 : w16.cell? ⟨D, 2, none⟩ = some (.int .i64 s) := Blk.cell (Blk.fr BN.out F6.out (fun h => h)) 2; have d3 : w16.cell? ⟨D, 3, none⟩ = some (.int .i64 n) := Blk.cell (Blk.fr BN.out F6.out (fun h => h)) 3; have d4 : w16.cell? ⟨D, 4, none⟩ = some (.int .i64 l) := Blk.cell (Blk.fr BN.out F6.out (fun h => h)) 4; have d5 : w16.cell? ⟨D, 5, none⟩ = some (.int .i64 k) := Blk.cell (Blk.fr BN.out F6.out (fun h => h)) 5; have d6 : w16.cell? ⟨D, 6, none⟩ = some (.int .i64 tn) := Blk.cell (Blk.fr BN.out F6.out (fun h => h)) 6; have d7 : w16.cell? ⟨D, 7, none⟩ = some (.int .i64 ep) := Blk.cell (Blk.fr BN.out F6.out (fun h => h)) 7; have d8 : w16.cell? ⟨D, 8, none⟩ = some (.int .i64 fi) := Blk.cell (Blk.fr BN.out F6.out (fun h => h)) 8; have d9 : w16.cell? ⟨D, 9, none⟩ = some (.bool b) := Blk.cell (Blk.fr BN.out F6.out (fun h => h)) 9))
      go_ret
      exact ⟨rfl, FWW.out.trans F6.out⟩
end Go.Proofs.YthhhmhgmmbfjhaaDoor.SuV
