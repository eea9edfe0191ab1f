/- What was encoded is decoded (plain); contract: what must come of every program of layer 8. Condition: the table of sums is as its text lays it. -/
import Derived.Test.YthhhmhgmmbfjhaaDoorSuL
import Derived.Test.YthhhmhgmmbfjhaaDoorSuG
import Derived.Deep.RegionHeld3
import Derived.Deep.DeepCutAuto
namespace Go.Proofs.YthhhmhgmmbfjhaaDoor.SuP
open Go.RowKit MSep MFrame MGeM LeW LeR RdA RcM SuA SuB SuD SuF SuG SuH SuI SuJ SuK SuL CrcA CrcM CrcE Kit

theorem gi_low {n : Nat} {a b v : Int} {ys : List Int} (h0 : 0 ≤ v) (h1 : v < 256 ^ n) (h2 : v < 9223372036854775808) (ha : a ≤ v) (hb : v ≤ b) : gi n a b (some (low n v ++ ys)) = (v, some ys) := by
  have ht : (low n v ++ ys).take n = low n v := by
    have := low_len n v
    rw [List.take_append_of_le_length (by omega), List.take_of_length_le (by omega)]
  have hd : (low n v ++ ys).drop n = ys := by
    have := low_len n v
    rw [List.drop_append_of_le_length (by omega), List.drop_of_length_le (by omega)]
    simp
  have hn : num (low n v) = v := by rw [num_low]; exact Int.emod_eq_of_lt h0 h1
  have hw : wrap64 v = v := w64 v ⟨h0, h2⟩
  rw [gi, if_neg (by rw [List.length_append, low_len]; omega), ht, hd, hn, hw, if_pos ⟨ha, hb⟩]
theorem q1 : (256 : Int) ^ 1 = 256 := by decide
theorem q2 : (256 : Int) ^ 2 = 65536 := by decide
theorem q4 : (256 : Int) ^ 4 = 4294967296 := by decide
theorem q8 : (256 : Int) ^ 8 = 18446744073709551616 := by decide
theorem got {g c s n l k t e f y : Int} {R : List Int} (hg : 1 ≤ g ∧ g ≤ 1099511627776) (hc : 0 ≤ c ∧ c ≤ 65535) (hs : 0 ≤ s ∧ s ≤ 65535) (hn : 0 ≤ n ∧ n ≤ 65535) (hl : 0 ≤ l ∧ l ≤ 65535) (hk : 0 ≤ k ∧ k ≤ 65535) (ht : 0 ≤ t ∧ t ≤ 1) (he : 1 ≤ e ∧ e ≤ 2147483648) (hf : 0 ≤ f ∧ f ≤ 1099511627776) (hy : 0 ≤ y ∧ y ≤ 1) (st : Option (List Int))
    (hst : st = some (low 2 1 ++ (low 8 g ++ (low 2 c ++ (low 2 s ++ (low 2 n ++ (low 2 l ++ (low 2 k ++ (low 1 t ++ (low 4 e ++ (low 8 f ++ (low 1 y ++ (R))))))))))))) : dst st 11 = some R ∧ spO st = ⟨g, c, s, n, l, k, t, e, f, decide (y = 1)⟩ := by
  have e0 := gi_low (n := 2) (a := 1) (b := 1) (v := 1) (ys := low 8 g ++ (low 2 c ++ (low 2 s ++ (low 2 n ++ (low 2 l ++ (low 2 k ++ (low 1 t ++ (low 4 e ++ (low 8 f ++ (low 1 y ++ (R))))))))))) (by omega) (by rw [q2]; omega) (by omega) (by omega) (by omega)
  have d1 : dst st 1 = some (low 8 g ++ (low 2 c ++ (low 2 s ++ (low 2 n ++ (low 2 l ++ (low 2 k ++ (low 1 t ++ (low 4 e ++ (low 8 f ++ (low 1 y ++ (R))))))))))) := by show (gi 2 1 1 st).2 = _; rw [hst, e0]
  have w0 : dvl st 0 = 1 := by show (gi 2 1 1 st).1 = _; rw [hst, e0]
  have e1 := gi_low (n := 8) (a := 1) (b := 1099511627776) (v := g) (ys := low 2 c ++ (low 2 s ++ (low 2 n ++ (low 2 l ++ (low 2 k ++ (low 1 t ++ (low 4 e ++ (low 8 f ++ (low 1 y ++ (R)))))))))) (by omega) (by rw [q8]; omega) (by omega) (by omega) (by omega)
  have d2 : dst st 2 = some (low 2 c ++ (low 2 s ++ (low 2 n ++ (low 2 l ++ (low 2 k ++ (low 1 t ++ (low 4 e ++ (low 8 f ++ (low 1 y ++ (R)))))))))) := by show (gi 8 1 1099511627776 (dst st 1)).2 = _; rw [d1, e1]
  have w1 : dvl st 1 = g := by show (gi 8 1 1099511627776 (dst st 1)).1 = _; rw [d1, e1]
  have e2 := gi_low (n := 2) (a := 0) (b := 65535) (v := c) (ys := low 2 s ++ (low 2 n ++ (low 2 l ++ (low 2 k ++ (low 1 t ++ (low 4 e ++ (low 8 f ++ (low 1 y ++ (R))))))))) (by omega) (by rw [q2]; omega) (by omega) (by omega) (by omega)
  have d3 : dst st 3 = some (low 2 s ++ (low 2 n ++ (low 2 l ++ (low 2 k ++ (low 1 t ++ (low 4 e ++ (low 8 f ++ (low 1 y ++ (R))))))))) := by show (gi 2 0 65535 (dst st 2)).2 = _; rw [d2, e2]
  have w2 : dvl st 2 = c := by show (gi 2 0 65535 (dst st 2)).1 = _; rw [d2, e2]
  have e3 := gi_low (n := 2) (a := 0) (b := 65535) (v := s) (ys := low 2 n ++ (low 2 l ++ (low 2 k ++ (low 1 t ++ (low 4 e ++ (low 8 f ++ (low 1 y ++ (R)))))))) (by omega) (by rw [q2]; omega) (by omega) (by omega) (by omega)
  have d4 : dst st 4 = some (low 2 n ++ (low 2 l ++ (low 2 k ++ (low 1 t ++ (low 4 e ++ (low 8 f ++ (low 1 y ++ (R)))))))) := by show (gi 2 0 65535 (dst st 3)).2 = _; rw [d3, e3]
  have w3 : dvl st 3 = s := by show (gi 2 0 65535 (dst st 3)).1 = _; rw [d3, e3]
  have e4 := gi_low (n := 2) (a := 0) (b := 65535) (v := n) (ys := low 2 l ++ (low 2 k ++ (low 1 t ++ (low 4 e ++ (low 8 f ++ (low 1 y ++ (R))))))) (by omega) (by rw [q2]; omega) (by omega) (by omega) (by omega)
  have d5 : dst st 5 = some (low 2 l ++ (low 2 k ++ (low 1 t ++ (low 4 e ++ (low 8 f ++ (low 1 y ++ (R))))))) := by show (gi 2 0 65535 (dst st 4)).2 = _; rw [d4, e4]
  have w4 : dvl st 4 = n := by show (gi 2 0 65535 (dst st 4)).1 = _; rw [d4, e4]
  have e5 := gi_low (n := 2) (a := 0) (b := 65535) (v := l) (ys := low 2 k ++ (low 1 t ++ (low 4 e ++ (low 8 f ++ (low 1 y ++ (R)))))) (by omega) (by rw [q2]; omega) (by omega) (by omega) (by omega)
  have d6 : dst st 6 = some (low 2 k ++ (low 1 t ++ (low 4 e ++ (low 8 f ++ (low 1 y ++ (R)))))) := by show (gi 2 0 65535 (dst st 5)).2 = _; rw [d5, e5]
  have w5 : dvl st 5 = l := by show (gi 2 0 65535 (dst st 5)).1 = _; rw [d5, e5]
  have e6 := gi_low (n := 2) (a := 0) (b := 65535) (v := k) (ys := low 1 t ++ (low 4 e ++ (low 8 f ++ (low 1 y ++ (R))))) (by omega) (by rw [q2]; omega) (by omega) (by omega) (by omega)
  have d7 : dst st 7 = some (low 1 t ++ (low 4 e ++ (low 8 f ++ (low 1 y ++ (R))))) := by show (gi 2 0 65535 (dst st 6)).2 = _; rw [d6, e6]
  have w6 : dvl st 6 = k := by show (gi 2 0 65535 (dst st 6)).1 = _; rw [d6, e6]
  have e7 := gi_low (n := 1) (a := 0) (b := 1) (v := t) (ys := low 4 e ++ (low 8 f ++ (low 1 y ++ (R)))) (by omega) (by rw [q1]; omega) (by omega) (by omega) (by omega)
  have d8 : dst st 8 = some (low 4 e ++ (low 8 f ++ (low 1 y ++ (R)))) := by show (gi 1 0 1 (dst st 7)).2 = _; rw [d7, e7]
  have w7 : dvl st 7 = t := by show (gi 1 0 1 (dst st 7)).1 = _; rw [d7, e7]
  have e8 := gi_low (n := 4) (a := 1) (b := 2147483648) (v := e) (ys := low 8 f ++ (low 1 y ++ (R))) (by omega) (by rw [q4]; omega) (by omega) (by omega) (by omega)
  have d9 : dst st 9 = some (low 8 f ++ (low 1 y ++ (R))) := by show (gi 4 1 2147483648 (dst st 8)).2 = _; rw [d8, e8]
  have w8 : dvl st 8 = e := by show (gi 4 1 2147483648 (dst st 8)).1 = _; rw [d8, e8]
  have e9 := gi_low (n := 8) (a := 0) (b := 1099511627776) (v := f) (ys := low 1 y ++ (R)) (by omega) (by rw [q8]; omega) (by omega) (by omega) (by omega)
  have d10 : dst st 10 = some (low 1 y ++ (R)) := by show (gi 8 0 1099511627776 (dst st 9)).2 = _; rw [d9, e9]
  have w9 : dvl st 9 = f := by show (gi 8 0 1099511627776 (dst st 9)).1 = _; rw [d9, e9]
  have e10 := gi_low (n := 1) (a := 0) (b := 1) (v := y) (ys := R) (by omega) (by rw [q1]; omega) (by omega) (by omega) (by omega)
  have d11 : dst st 11 = some (R) := by show (gi 1 0 1 (dst st 10)).2 = _; rw [d10, e10]
  have w10 : dvl st 10 = y := by show (gi 1 0 1 (dst st 10)).1 = _; rw [d10, e10]
  refine ⟨d11, ?_⟩
  unfold spO
  rw [w1, w2, w3, w4, w5, w6, w7, w8, w9, w10]
theorem rtS {g c s n l k t e f : Int} (b : Bool) (h : mayS g c s n l k t e f) : dec (seal_ (eTo g c s n l k t e f 1 (if b then 1 else 0) 11)) = some ⟨g, c, s, n, l, k, t, e, f, b⟩ := by
  have hlen := eTo_len g c s n l k t e f 1 (if b then 1 else 0) 11
  obtain ⟨y, hy⟩ : ∃ y : Int, (if b then 1 else 0) = y := ⟨_, rfl⟩
  have hyb : decide (y = 1) = b ∧ 0 ≤ y ∧ y ≤ 1 := by cases b <;> simp at hy <;> subst hy <;> decide
  rw [hy] at hlen ⊢
  obtain ⟨zs, hz⟩ : ∃ zs, eTo g c s n l k t e f 1 y 11 = zs := ⟨_, rfl⟩
  have hzz : zs = mk8 ++ (low 2 1 ++ (low 8 g ++ (low 2 c ++ (low 2 s ++ (low 2 n ++ (low 2 l ++ (low 2 k ++ (low 1 t ++ (low 4 e ++ (low 8 f ++ (low 1 y))))))))))) := by rw [← hz]; simp [eTo, sz, va, mk8]
  rw [hz] at hlen ⊢
  have hs : secOk (seal_ zs) = true := by
    unfold secOk
    rw [seal_len (by omega), CrcG.ld_seal, CrcG.seal_drop]
    simp
  have hdr : (seal_ zs).drop 4 = rest zs := CrcG.seal_drop _
  have hrest : rest zs = mk8 ++ (low 2 1 ++ (low 8 g ++ (low 2 c ++ (low 2 s ++ (low 2 n ++ (low 2 l ++ (low 2 k ++ (low 1 t ++ (low 4 e ++ (low 8 f ++ (low 1 y ++ (List.replicate (124 - zs.length) 0)))))))))))) := by
    have : rest zs = zs ++ List.replicate (124 - zs.length) 0 := rfl
    rw [this]
    generalize List.replicate (124 - zs.length) (0 : Int) = Q
    rw [hzz]
    simp [List.append_assoc]
  have hm : (rest zs).take 8 = mk8 := by rw [hrest]; rfl
  have hd8 : (rest zs).drop 8 = low 2 1 ++ (low 8 g ++ (low 2 c ++ (low 2 s ++ (low 2 n ++ (low 2 l ++ (low 2 k ++ (low 1 t ++ (low 4 e ++ (low 8 f ++ (low 1 y ++ (List.replicate (124 - zs.length) 0))))))))))) := by rw [hrest]; rfl
  rw [dec, if_pos hs, hdr, SuJ.dP, if_pos hm, hd8, dP1]
  obtain ⟨h0, hg, ⟨hc, hss, hn, hl, hk⟩, ht, he, hf⟩ := h
  obtain ⟨k1, k2⟩ := got (R := List.replicate (124 - zs.length) 0) hg hc hss hn hl hk ht he hf hyb.2 _ rfl
  rw [k1, k2, hyb.1]
  have hzr : dn (some (List.replicate (124 - zs.length) 0)) = 0 := by
    rw [dn_zero]
    simp [dy, allZero]
  rw [if_pos ⟨hzr, h0, hg, ⟨hc, hss, hn, hl, hk⟩, ht, he, hf⟩]
set_option maxRecDepth 100000 in
theorem one_ok (g : Int) (w : World) : Calls Tryd.prog 51 #[.int .i64 g] w fun e w' => e = .returned (sv g 2 8 16 3 2 0 5 0 false) ∧ Fr No w w' := by
  have HF := hid (fun o => fr1 w o)
  go_enter Tryd.func51, Tryd.ntmps51
  go_wp2
  exact bodyPost_ret (v := sv g 2 8 16 3 2 0 5 0 false) (by simp [results, Tryd.results51, go_sem]) rfl ⟨rfl, HF.out _⟩
def z7 : List Int := seal_ (eTo 7 2 8 16 3 2 0 5 0 1 0 11)
def z8 : List Int := seal_ (eTo 8 2 8 16 3 2 0 5 0 1 0 11)
theorem may7 : mayS 7 2 8 16 3 2 0 5 0 := by decide
theorem may8 : mayS 8 2 8 16 3 2 0 5 0 := by decide
theorem dec7 : dec z7 = some ⟨7, 2, 8, 16, 3, 2, 0, 5, 0, false⟩ := rtS false may7
theorem dec8 : dec z8 = some ⟨8, 2, 8, 16, 3, 2, 0, 5, 0, false⟩ := rtS false may8
theorem sealB {w : World} {g : Nat} {zs : List Int} (hl : zs.length ≤ 124) (hu : ∀ x ∈ zs, 0 ≤ x ∧ x ≤ 255) (h : Blk w g 5 (cells (seal_ zs)).toArray) : IsB w (some ⟨g, 0, none⟩) 128 128 (seal_ zs) := by
  have hs := seal_len hl
  have hc : (cells (seal_ zs)).length = 128 := by simp [cells, hs]
  refine ⟨?_, Nat.le_refl _, by decide, seal_u8 hu⟩
  have := Rd.blk (off := 0) (n := 128) h (by rw [hc]; decide)
  rw [List.drop_zero, List.take_of_length_le (by rw [hc]; decide)] at this
  exact this
/-- What is encoded of a superblock that may be, as bytes that came in. -/
theorem enc_in (g c s n l k t e f : Int) (b : Bool) (w : World) (hm : mayS g c s n l k t e f) (hT : TabAt w) : Calls Tryd.prog 14 #[sv g c s n l k t e f b] w fun E w' => ∃ q, E = .returned (.tuple #[.slice (some ⟨q, 0, none⟩) 128 128, .int .i64 0]) ∧ IsB w' (some ⟨q, 0, none⟩) 128 128 (seal_ (eTo g c s n l k t e f 1 (if b then 1 else 0) 11)) ∧ Fr No w w' := by
  refine (encS_ok g c s n l k t e f b w (may_s hm) hm hT).mono ?_
  rintro E w' ⟨q, rfl, hb, fr⟩
  exact ⟨q, rfl, sealB (by have := eTo_len g c s n l k t e f 1 (if b then 1 else 0) 11; omega) (eTo_u8 _ _ _ _ _ _ _ _ _ _ _ _) hb, fr⟩
theorem pick_ba (A1 : Option Addr) (l1 c1 : Nat) (A2 : Option Addr) (l2 c2 : Nat) (w : World) (h1 : IsB w A1 l1 c1 z8) (h2 : IsB w A2 l2 c2 z7) (hT : TabAt w) :
    Calls Tryd.prog 22 #[.slice A1 l1 c1, .slice A2 l2 c2] w fun E w' => E = .returned (.tuple #[sv 8 2 8 16 3 2 0 5 0 false, .int .i64 0]) ∧ Fr No w w' := by
  refine (pick_ok A1 l1 c1 z8 A2 l2 c2 z7 w h1 h2 hT).mono ?_
  rintro E w' ⟨h, f⟩
  rw [dec7, dec8] at h
  exact ⟨h, f⟩
theorem pick_ab (A1 : Option Addr) (l1 c1 : Nat) (A2 : Option Addr) (l2 c2 : Nat) (w : World) (h1 : IsB w A1 l1 c1 z7) (h2 : IsB w A2 l2 c2 z8) (hT : TabAt w) :
    Calls Tryd.prog 22 #[.slice A1 l1 c1, .slice A2 l2 c2] w fun E w' => E = .returned (.tuple #[sv 0 0 0 0 0 0 0 0 0 false, .int .i64 80]) ∧ Fr No w w' := by
  refine (pick_ok A1 l1 c1 z7 A2 l2 c2 z8 w h1 h2 hT).mono ?_
  rintro E w' ⟨h, f⟩
  rw [dec7, dec8] at h
  exact ⟨h, f⟩
theorem nx7 : nx ⟨7, 2, 8, 16, 3, 2, 0, 5, 0, false⟩ 1 6 9 true = some ⟨8, 2, 8, 16, 3, 2, 1, 6, 9, true⟩ := by
  have h : nxS ⟨7, 2, 8, 16, 3, 2, 0, 5, 0, false⟩ 1 6 9 true = ⟨8, 2, 8, 16, 3, 2, 1, 6, 9, true⟩ := by
    show (⟨wrap64 (7 + 1), 2, 8, 16, 3, 2, 1, 6, 9, true⟩ : Sp) = _
    rw [show wrap64 (7 + 1) = 8 by unfold wrap64; omega]
  rw [SuL.nx, h]
  exact if_pos ⟨may7, show mayS 8 2 8 16 3 2 1 6 9 by decide⟩
theorem next7 (w : World) : Calls Tryd.prog 24 #[sv 7 2 8 16 3 2 0 5 0 false, .int .i64 1, .int .i64 6, .int .i64 9, .bool true] w fun E w' => E = .returned (.tuple #[sv 8 2 8 16 3 2 1 6 9 true, .int .i64 0]) ∧ Fr No w w' := by
  refine (next_ok 7 2 8 16 3 2 0 5 0 false 1 6 9 true w (by decide)).mono ?_
  rintro E w' ⟨h, f⟩
  rw [nx7] at h
  exact ⟨h, f⟩
set_option maxRecDepth 100000 in
set_option maxHeartbeats 8000000 in
theorem lives_ok (w : World) (hT : TabAt w) : Calls Tryd.prog 15 #[] w fun e w' => e = .returned (.bool true) ∧ Fr No w w' := by
  have FW := hid (Fr.refl No w)
  have HT := hid hT
  have D7 := hid dec7
  have D8 := hid dec8
  clear hT
  go_enter Tryd.func15, Tryd.ntmps15
  go_upto_region 2 with (first | (go_at_call 51; refine (one_ok _ _).mono ?_; rintro e' w2 ⟨rfl, f⟩; replace FW := hid (FW.out.trans f); clear f) | (go_at_call 14; go_loud (refine (enc_in 7 2 8 16 3 2 0 5 0 false _ may7 (HT.out.fr FW.out (fun h => h))).mono ?_; rintro e' w3 ⟨q7, rfl, hq, f⟩; replace FW := hid (FW.out.trans f); clear f; have H7 := hid (show IsB w3 (some ⟨q7, 0, none⟩) 128 128 z7 from hq); clear hq)))
  go_upto_region 3 with (first | (go_at_call 19; go_loud (refine (decode_some _ 128 128 z7 _ H7.out (HT.out.fr FW.out (fun h => h)) D7.out).mono ?_; rintro e' w2 ⟨rfl, f⟩; replace FW := hid (FW.out.trans f); replace H7 := hid (H7.out.fr f); clear f)) | (refine st_S rfl (.tmp 3) (.tmp 21) rfl w2.heap.size rfl rfl (by simp [Value.oneCell']) (Blk.new w2 _ _) rfl ?_; intro w3 HD0 f3; have f : Fr No w2 w3 := ((Fr.refl No w2).alloc _).step f3 (fun i hi e => by omega); replace FW := hid (FW.out.trans f); replace H7 := hid (H7.out.fr f); clear f; have HE3 := hid (show BS w3 w2.heap.size ⟨7, 2, 8, 16, 3, 2, 0, 5, 0, false⟩ from HD0); clear f3 HD0))
  obtain ⟨E3, hE3⟩ : ∃ E3, w2.heap.size = E3 := ⟨_, rfl⟩
  rw [hE3] at HE3 ⊢
  clear hE3
  go_upto_region 4 with (first | (go_at_call 51; refine (one_ok _ _).mono ?_; rintro e' w2 ⟨rfl, f⟩; replace FW := hid (FW.out.trans f); replace H7 := hid (H7.out.fr f); replace HE3 := hid (BS.fr HE3.out f (fun h => h)); clear f) | (go_at_call 14; go_loud (refine (enc_in 8 2 8 16 3 2 0 5 0 false _ may8 (HT.out.fr FW.out (fun h => h))).mono ?_; rintro e' w3 ⟨q8, rfl, hq, f⟩; replace FW := hid (FW.out.trans f); replace H7 := hid (H7.out.fr f); replace HE3 := hid (BS.fr HE3.out f (fun h => h)); clear f; have H8 := hid (show IsB w3 (some ⟨q8, 0, none⟩) 128 128 z8 from hq); clear hq)))
  go_upto_region 5 with (first | (go_at_call 22; go_loud (refine (pick_ba _ 128 128 _ 128 128 _ H8.out H7.out (HT.out.fr FW.out (fun h => h))).mono ?_; rintro e' w2 ⟨rfl, f⟩; replace FW := hid (FW.out.trans f); replace H7 := hid (H7.out.fr f); replace H8 := hid (H8.out.fr f); replace HE3 := hid (BS.fr HE3.out f (fun h => h)); clear f)) | (refine st_S rfl (.tmp 7) (.tmp 32) rfl w2.heap.size rfl rfl (by simp [Value.oneCell']) (Blk.new w2 _ _) rfl ?_; intro w3 HD0 f3; have f : Fr No w2 w3 := ((Fr.refl No w2).alloc _).step f3 (fun i hi e => by omega); replace FW := hid (FW.out.trans f); replace H7 := hid (H7.out.fr f); replace H8 := hid (H8.out.fr f); replace HE3 := hid (BS.fr HE3.out f (fun h => h)); clear f; have HE7 := hid (show BS w3 w2.heap.size ⟨8, 2, 8, 16, 3, 2, 0, 5, 0, false⟩ from HD0); clear f3 HD0))
  obtain ⟨E7, hE7⟩ : ∃ E7, w2.heap.size = E7 := ⟨_, rfl⟩
  rw [hE7] at HE7 ⊢
  clear hE7
  go_upto_region 6 with (first | (go_at_call 22; go_loud (refine (pick_ab _ 128 128 _ 128 128 _ H7.out H8.out (HT.out.fr FW.out (fun h => h))).mono ?_; rintro e' w2 ⟨rfl, f⟩; replace FW := hid (FW.out.trans f); replace H7 := hid (H7.out.fr f); replace H8 := hid (H8.out.fr f); replace HE3 := hid (BS.fr HE3.out f (fun h => h)); replace HE7 := hid (BS.fr HE7.out f (fun h => h)); clear f)) | (refine st_S rfl (.tmp 9) (.tmp 38) rfl w2.heap.size rfl rfl (by simp [Value.oneCell']) (Blk.new w2 _ _) rfl ?_; intro w3 HD0 f3; have f : Fr No w2 w3 := ((Fr.refl No w2).alloc _).step f3 (fun i hi e => by omega); replace FW := hid (FW.out.trans f); replace H7 := hid (H7.out.fr f); replace H8 := hid (H8.out.fr f); replace HE3 := hid (BS.fr HE3.out f (fun h => h)); replace HE7 := hid (BS.fr HE7.out f (fun h => h)); clear f; have HE9 := hid (show BS w3 w2.heap.size rz from HD0); clear f3 HD0))
  clear HE9
  have x30 : w3.cell? ⟨E3, 0, none⟩ = some (.int .i64 7) := Blk.cell HE3.out 0
  have x31 : w3.cell? ⟨E3, 1, none⟩ = some (.int .i64 2) := Blk.cell HE3.out 1
  have x32 : w3.cell? ⟨E3, 2, none⟩ = some (.int .i64 8) := Blk.cell HE3.out 2
  have x33 : w3.cell? ⟨E3, 3, none⟩ = some (.int .i64 16) := Blk.cell HE3.out 3
  have x34 : w3.cell? ⟨E3, 4, none⟩ = some (.int .i64 3) := Blk.cell HE3.out 4
  have x35 : w3.cell? ⟨E3, 5, none⟩ = some (.int .i64 2) := Blk.cell HE3.out 5
  have x36 : w3.cell? ⟨E3, 6, none⟩ = some (.int .i64 0) := Blk.cell HE3.out 6
  have x37 : w3.cell? ⟨E3, 7, none⟩ = some (.int .i64 5) := Blk.cell HE3.out 7
  have x38 : w3.cell? ⟨E3, 8, none⟩ = some (.int .i64 0) := Blk.cell HE3.out 8
  have x39 : w3.cell? ⟨E3, 9, none⟩ = some (.bool false) := Blk.cell HE3.out 9
  go_upto_region 7 with (first | (go_at_call 24; go_loud (refine (next7 _).mono ?_; rintro e' w2 ⟨rfl, f⟩; replace FW := hid (FW.out.trans f); replace HE3 := hid (BS.fr HE3.out f (fun h => h)); replace HE7 := hid (BS.fr HE7.out f (fun h => h)); clear f; clear x30 x31 x32 x33 x34 x35 x36 x37 x38 x39)) | (refine st_S rfl (.tmp 11) (.tmp 43) rfl w2.heap.size rfl rfl (by simp [Value.oneCell']) (Blk.new w2 _ _) rfl ?_; intro w3 HD0 f3; have f : Fr No w2 w3 := ((Fr.refl No w2).alloc _).step f3 (fun i hi e => by omega); replace FW := hid (FW.out.trans f); replace HE3 := hid (BS.fr HE3.out f (fun h => h)); replace HE7 := hid (BS.fr HE7.out f (fun h => h)); clear f; have HE11 := hid (show BS w3 w2.heap.size ⟨8, 2, 8, 16, 3, 2, 1, 6, 9, true⟩ from HD0); clear f3 HD0))
  obtain ⟨E11, hE11⟩ : ∃ E11, w2.heap.size = E11 := ⟨_, rfl⟩
  rw [hE11] at HE11 ⊢
  clear hE11
  have a0 : w3.cell? ⟨E3, 0, none⟩ = some (.int .i64 7) := Blk.cell HE3.out 0
  have a1 : w3.cell? ⟨E3, 1, none⟩ = some (.int .i64 2) := Blk.cell HE3.out 1
  have a2 : w3.cell? ⟨E3, 2, none⟩ = some (.int .i64 8) := Blk.cell HE3.out 2
  have a3 : w3.cell? ⟨E3, 3, none⟩ = some (.int .i64 16) := Blk.cell HE3.out 3
  have a4 : w3.cell? ⟨E3, 4, none⟩ = some (.int .i64 3) := Blk.cell HE3.out 4
  have a5 : w3.cell? ⟨E3, 5, none⟩ = some (.int .i64 2) := Blk.cell HE3.out 5
  have a6 : w3.cell? ⟨E3, 6, none⟩ = some (.int .i64 0) := Blk.cell HE3.out 6
  have a7 : w3.cell? ⟨E3, 7, none⟩ = some (.int .i64 5) := Blk.cell HE3.out 7
  have a8 : w3.cell? ⟨E3, 8, none⟩ = some (.int .i64 0) := Blk.cell HE3.out 8
  have a9 : w3.cell? ⟨E3, 9, none⟩ = some (.bool false) := Blk.cell HE3.out 9
  have b0 : w3.cell? ⟨E7, 0, none⟩ = some (.int .i64 8) := Blk.cell HE7.out 0
  have b1 : w3.cell? ⟨E7, 1, none⟩ = some (.int .i64 2) := Blk.cell HE7.out 1
  have b2 : w3.cell? ⟨E7, 2, none⟩ = some (.int .i64 8) := Blk.cell HE7.out 2
  have b3 : w3.cell? ⟨E7, 3, none⟩ = some (.int .i64 16) := Blk.cell HE7.out 3
  have b4 : w3.cell? ⟨E7, 4, none⟩ = some (.int .i64 3) := Blk.cell HE7.out 4
  have b5 : w3.cell? ⟨E7, 5, none⟩ = some (.int .i64 2) := Blk.cell HE7.out 5
  have b6 : w3.cell? ⟨E7, 6, none⟩ = some (.int .i64 0) := Blk.cell HE7.out 6
  have b7 : w3.cell? ⟨E7, 7, none⟩ = some (.int .i64 5) := Blk.cell HE7.out 7
  have b8 : w3.cell? ⟨E7, 8, none⟩ = some (.int .i64 0) := Blk.cell HE7.out 8
  have b9 : w3.cell? ⟨E7, 9, none⟩ = some (.bool false) := Blk.cell HE7.out 9
  have n0 : w3.cell? ⟨E11, 0, none⟩ = some (.int .i64 8) := Blk.cell HE11.out 0
  have n9 : w3.cell? ⟨E11, 9, none⟩ = some (.bool true) := Blk.cell HE11.out 9
  have FWO := FW
  have FW : Hid (Fr No w3 w3) := hid (Fr.refl No w3)
  have FW := kd FW
  refine wp_region_noPanic ?_
  refine wp_region_held_drew (S := (fun W' => W'.cell? ⟨E3, 0, none⟩ = some (.int .i64 7) ∧ W'.cell? ⟨E3, 1, none⟩ = some (.int .i64 2) ∧ W'.cell? ⟨E3, 2, none⟩ = some (.int .i64 8) ∧ W'.cell? ⟨E3, 3, none⟩ = some (.int .i64 16) ∧ W'.cell? ⟨E3, 4, none⟩ = some (.int .i64 3) ∧ W'.cell? ⟨E3, 5, none⟩ = some (.int .i64 2) ∧ W'.cell? ⟨E3, 6, none⟩ = some (.int .i64 0) ∧ W'.cell? ⟨E3, 7, none⟩ = some (.int .i64 5) ∧ W'.cell? ⟨E3, 8, none⟩ = some (.int .i64 0) ∧ W'.cell? ⟨E3, 9, none⟩ = some (.bool false) ∧ W'.cell? ⟨E7, 0, none⟩ = some (.int .i64 8) ∧ W'.cell? ⟨E7, 1, none⟩ = some (.int .i64 2) ∧ W'.cell? ⟨E7, 2, none⟩ = some (.int .i64 8) ∧ W'.cell? ⟨E7, 3, none⟩ = some (.int .i64 16) ∧ W'.cell? ⟨E7, 4, none⟩ = some (.int .i64 3) ∧ W'.cell? ⟨E7, 5, none⟩ = some (.int .i64 2) ∧ W'.cell? ⟨E7, 6, none⟩ = some (.int .i64 0) ∧ W'.cell? ⟨E7, 7, none⟩ = some (.int .i64 5) ∧ W'.cell? ⟨E7, 8, none⟩ = some (.int .i64 0) ∧ W'.cell? ⟨E7, 9, none⟩ = some (.bool false) ∧ W'.cell? ⟨E11, 0, none⟩ = some (.int .i64 8) ∧ W'.cell? ⟨E11, 9, none⟩ = some (.bool true) ∧ Hid (Fr No w3 W'))) (by kernel_rfl) ?_ (fun hHeld => ?_)
  · (try dsimp only); (first | exact ⟨kc f hHeld.1, kc f hHeld.2.1, kc f hHeld.2.2.1, kc f hHeld.2.2.2.1, kc f hHeld.2.2.2.2.1, kc f hHeld.2.2.2.2.2.1, kc f hHeld.2.2.2.2.2.2.1, kc f hHeld.2.2.2.2.2.2.2.1, kc f hHeld.2.2.2.2.2.2.2.2.1, kc f hHeld.2.2.2.2.2.2.2.2.2.1, kc f hHeld.2.2.2.2.2.2.2.2.2.2.1, kc f hHeld.2.2.2.2.2.2.2.2.2.2.2.1, kc f hHeld.2.2.2.2.2.2.2.2.2.2.2.2.1, kc f hHeld.2.2.2.2.2.2.2.2.2.2.2.2.2.1, kc f hHeld.2.2.2.2.2.2.2.2.2.2.2.2.2.2.1, kc f hHeld.2.2.2.2.2.2.2.2.2.2.2.2.2.2.2.1, kc f hHeld.2.2.2.2.2.2.2.2.2.2.2.2.2.2.2.2.1, kc f hHeld.2.2.2.2.2.2.2.2.2.2.2.2.2.2.2.2.2.1, kc f hHeld.2.2.2.2.2.2.2.2.2.2.2.2.2.2.2.2.2.2.1, kc f hHeld.2.2.2.2.2.2.2.2.2.2.2.2.2.2.2.2.2.2.2.1, kc f hHeld.2.2.2.2.2.2.2.2.2.2.2.2.2.2.2.2.2.2.2.2.1, kc f hHeld.2.2.2.2.2.2.2.2.2.2.2.2.2.2.2.2.2.2.2.2.2.1, FW⟩ | (go_split_ands; exact ⟨kc f (by assumption), kc f (by assumption), kc f (by assumption), kc f (by assumption), kc f (by assumption), kc f (by assumption), kc f (by assumption), kc f (by assumption), kc f (by assumption), kc f (by assumption), kc f (by assumption), kc f (by assumption), kc f (by assumption), kc f (by assumption), kc f (by assumption), kc f (by assumption), kc f (by assumption), kc f (by assumption), kc f (by assumption), kc f (by assumption), kc f (by assumption), kc f (by assumption), by assumption⟩) | (go_split_ands; exact ⟨(by assumption), (by assumption), (by assumption), (by assumption), (by assumption), (by assumption), (by assumption), (by assumption), (by assumption), (by assumption), (by assumption), (by assumption), (by assumption), (by assumption), (by assumption), (by assumption), (by assumption), (by assumption), (by assumption), (by assumption), (by assumption), (by assumption), by assumption⟩) | (go_split_ands; exact ⟨kc (fr1 _ _) (by assumption), kc (fr1 _ _) (by assumption), kc (fr1 _ _) (by assumption), kc (fr1 _ _) (by assumption), kc (fr1 _ _) (by assumption), kc (fr1 _ _) (by assumption), kc (fr1 _ _) (by assumption), kc (fr1 _ _) (by assumption), kc (fr1 _ _) (by assumption), kc (fr1 _ _) (by assumption), kc (fr1 _ _) (by assumption), kc (fr1 _ _) (by assumption), kc (fr1 _ _) (by assumption), kc (fr1 _ _) (by assumption), kc (fr1 _ _) (by assumption), kc (fr1 _ _) (by assumption), kc (fr1 _ _) (by assumption), kc (fr1 _ _) (by assumption), kc (fr1 _ _) (by assumption), kc (fr1 _ _) (by assumption), kc (fr1 _ _) (by assumption), kc (fr1 _ _) (by assumption), kfa (by assumption)⟩))
  refine wpAnyH_take (i := 0) (v := ?v1) rfl (by kernel_rfl) (by kernel_rfl) (by kernel_rfl) (fun _ _ _ h => h) (Or.inl ⟨by kernel_rfl, ?y1⟩) (by assumption) ?_
  case y1 => (intro w hSw; (try dsimp only at hSw); go_simp; all_goals with_reducible rfl)
  try simp only [Act.put, List.getElem_toArray, List.getElem_cons_zero, List.setIfInBounds_toArray, List.set_cons_zero, List.set_cons_succ]
  refine wpAnyH_take (i := 1) (v := (.bool true)) rfl (by kernel_rfl) (by kernel_rfl) (by kernel_rfl) (fun _ _ _ h => h) (Or.inl ⟨by kernel_rfl, fun w hSw => by first | (go_simp; done) | (go_simp; with_reducible rfl) | (go_simp; omega)⟩) (by assumption) ?_
  try simp only [Act.put, List.getElem_toArray, List.getElem_cons_succ, List.getElem_cons_zero, List.setIfInBounds_toArray, List.set_cons_zero, List.set_cons_succ]
  refine wpAnyH_take (i := 2) (v := (.bool true)) rfl (by kernel_rfl) (by kernel_rfl) (by kernel_rfl) (fun _ _ _ h => h) (Or.inl ⟨by kernel_rfl, fun w hSw => by first | (go_simp; done) | (go_simp; with_reducible rfl) | (go_simp; omega)⟩) (by assumption) ?_
  try simp only [Act.put, List.getElem_toArray, List.getElem_cons_succ, List.getElem_cons_zero, List.setIfInBounds_toArray, List.set_cons_zero, List.set_cons_succ]
  refine wpAnyH_take (i := 3) (v := ?v2) rfl (by kernel_rfl) (by kernel_rfl) (by kernel_rfl) (fun _ _ _ h => h) (Or.inl ⟨by kernel_rfl, ?y2⟩) (by assumption) ?_
  case y2 => (intro w hSw; (try dsimp only at hSw); go_simp; all_goals with_reducible rfl)
  try simp only [Act.put, List.getElem_toArray, List.getElem_cons_succ, List.getElem_cons_zero, List.setIfInBounds_toArray, List.set_cons_zero, List.set_cons_succ]
  refine wpAnyH_take (i := 4) (v := (.bool true)) rfl (by kernel_rfl) (by kernel_rfl) (by kernel_rfl) (fun _ _ _ h => h) (Or.inl ⟨by kernel_rfl, fun w hSw => by first | (go_simp; done) | (go_simp; with_reducible rfl) | (go_simp; omega)⟩) (by assumption) ?_
  try simp only [Act.put, List.getElem_toArray, List.getElem_cons_succ, List.getElem_cons_zero, List.setIfInBounds_toArray, List.set_cons_zero, List.set_cons_succ]
  refine wpAnyH_take (i := 5) (v := (.bool true)) rfl (by kernel_rfl) (by kernel_rfl) (by kernel_rfl) (fun _ _ _ h => h) (Or.inl ⟨by kernel_rfl, fun w hSw => by first | (go_simp; done) | (go_simp; with_reducible rfl) | (go_simp; omega)⟩) (by assumption) ?_
  try simp only [Act.put, List.getElem_toArray, List.getElem_cons_succ, List.getElem_cons_zero, List.setIfInBounds_toArray, List.set_cons_zero, List.set_cons_succ]
  refine wpAnyH_take (i := 6) (v := (.bool true)) rfl (by kernel_rfl) (by kernel_rfl) (by kernel_rfl) (fun _ _ _ h => h) (Or.inl ⟨by kernel_rfl, fun w hSw => by first | (go_simp; done) | (go_simp; with_reducible rfl) | (go_simp; omega)⟩) (by assumption) ?_
  try simp only [Act.put, List.getElem_toArray, List.getElem_cons_succ, List.getElem_cons_zero, List.setIfInBounds_toArray, List.set_cons_zero, List.set_cons_succ]
  refine wpAnyH_take (i := 7) (v := ?v3) rfl (by kernel_rfl) (by kernel_rfl) (by kernel_rfl) (fun _ _ _ h => h) (Or.inl ⟨by kernel_rfl, ?y3⟩) (by assumption) ?_
  case y3 => (intro w hSw; (try dsimp only at hSw); go_simp; all_goals with_reducible rfl)
  try simp only [Act.put, List.getElem_toArray, List.getElem_cons_succ, List.getElem_cons_zero, List.setIfInBounds_toArray, List.set_cons_zero, List.set_cons_succ]
  refine wpAnyH_ready (rs := [8]) (by kernel_rfl) (by simp) (AllReadyH.cons rfl (fun K hK => ?_) AllReadyH.nil)
  go_simp
  go_at_call 51
  refine (one_ok _ _).mono ?_
  rintro e W1 ⟨rfl, f⟩
  have FW := kf f hHeld.2.2.2.2.2.2.2.2.2.2.2.2.2.2.2.2.2.2.2.2.2.2
  dsimp only
  refine hK.out _ _ ?_ (fun hHeld => ?_)
  · (try dsimp only); (first | exact ⟨kc f hHeld.1, kc f hHeld.2.1, kc f hHeld.2.2.1, kc f hHeld.2.2.2.1, kc f hHeld.2.2.2.2.1, kc f hHeld.2.2.2.2.2.1, kc f hHeld.2.2.2.2.2.2.1, kc f hHeld.2.2.2.2.2.2.2.1, kc f hHeld.2.2.2.2.2.2.2.2.1, kc f hHeld.2.2.2.2.2.2.2.2.2.1, kc f hHeld.2.2.2.2.2.2.2.2.2.2.1, kc f hHeld.2.2.2.2.2.2.2.2.2.2.2.1, kc f hHeld.2.2.2.2.2.2.2.2.2.2.2.2.1, kc f hHeld.2.2.2.2.2.2.2.2.2.2.2.2.2.1, kc f hHeld.2.2.2.2.2.2.2.2.2.2.2.2.2.2.1, kc f hHeld.2.2.2.2.2.2.2.2.2.2.2.2.2.2.2.1, kc f hHeld.2.2.2.2.2.2.2.2.2.2.2.2.2.2.2.2.1, kc f hHeld.2.2.2.2.2.2.2.2.2.2.2.2.2.2.2.2.2.1, kc f hHeld.2.2.2.2.2.2.2.2.2.2.2.2.2.2.2.2.2.2.1, kc f hHeld.2.2.2.2.2.2.2.2.2.2.2.2.2.2.2.2.2.2.2.1, kc f hHeld.2.2.2.2.2.2.2.2.2.2.2.2.2.2.2.2.2.2.2.2.1, kc f hHeld.2.2.2.2.2.2.2.2.2.2.2.2.2.2.2.2.2.2.2.2.2.1, FW⟩ | (go_split_ands; exact ⟨kc f (by assumption), kc f (by assumption), kc f (by assumption), kc f (by assumption), kc f (by assumption), kc f (by assumption), kc f (by assumption), kc f (by assumption), kc f (by assumption), kc f (by assumption), kc f (by assumption), kc f (by assumption), kc f (by assumption), kc f (by assumption), kc f (by assumption), kc f (by assumption), kc f (by assumption), kc f (by assumption), kc f (by assumption), kc f (by assumption), kc f (by assumption), kc f (by assumption), by assumption⟩) | (go_split_ands; exact ⟨(by assumption), (by assumption), (by assumption), (by assumption), (by assumption), (by assumption), (by assumption), (by assumption), (by assumption), (by assumption), (by assumption), (by assumption), (by assumption), (by assumption), (by assumption), (by assumption), (by assumption), (by assumption), (by assumption), (by assumption), (by assumption), (by assumption), by assumption⟩) | (go_split_ands; exact ⟨kc (fr1 _ _) (by assumption), kc (fr1 _ _) (by assumption), kc (fr1 _ _) (by assumption), kc (fr1 _ _) (by assumption), kc (fr1 _ _) (by assumption), kc (fr1 _ _) (by assumption), kc (fr1 _ _) (by assumption), kc (fr1 _ _) (by assumption), kc (fr1 _ _) (by assumption), kc (fr1 _ _) (by assumption), kc (fr1 _ _) (by assumption), kc (fr1 _ _) (by assumption), kc (fr1 _ _) (by assumption), kc (fr1 _ _) (by assumption), kc (fr1 _ _) (by assumption), kc (fr1 _ _) (by assumption), kc (fr1 _ _) (by assumption), kc (fr1 _ _) (by assumption), kc (fr1 _ _) (by assumption), kc (fr1 _ _) (by assumption), kc (fr1 _ _) (by assumption), kc (fr1 _ _) (by assumption), kfa (by assumption)⟩))
  clear hK K
  try simp only [Act.put, List.getElem_toArray, List.getElem_cons_succ, List.getElem_cons_zero, List.setIfInBounds_toArray, List.set_cons_zero, List.set_cons_succ]
  refine wpAnyH_take (i := 9) (v := (.bool true)) rfl (by kernel_rfl) (by kernel_rfl) (by kernel_rfl) (fun _ _ _ h => h) (Or.inl ⟨by kernel_rfl, fun w hSw => by first | (go_simp; done) | (go_simp; with_reducible rfl) | (go_simp; omega)⟩) (by assumption) ?_
  try simp only [Act.put, List.getElem_toArray, List.getElem_cons_succ, List.getElem_cons_zero, List.setIfInBounds_toArray, List.set_cons_zero, List.set_cons_succ]
  refine wpAnyH_take (i := 10) (v := (.bool true)) rfl (by kernel_rfl) (by kernel_rfl) (by kernel_rfl) (fun _ _ _ h => h) (Or.inl ⟨by kernel_rfl, fun w hSw => by first | (go_simp; done) | (go_simp; with_reducible rfl) | (go_simp; omega)⟩) (by assumption) ?_
  try simp only [Act.put, List.getElem_toArray, List.getElem_cons_succ, List.getElem_cons_zero, List.setIfInBounds_toArray, List.set_cons_zero, List.set_cons_succ]
  refine wpAnyH_take (i := 11) (v := (.bool true)) rfl (by kernel_rfl) (by kernel_rfl) (by kernel_rfl) (fun _ _ _ h => h) (Or.inl ⟨by kernel_rfl, fun w hSw => by first | (go_simp; done) | (go_simp; with_reducible rfl) | (go_simp; omega)⟩) (by assumption) ?_
  try simp only [Act.put, List.getElem_toArray, List.getElem_cons_succ, List.getElem_cons_zero, List.setIfInBounds_toArray, List.set_cons_zero, List.set_cons_succ]
  refine wpAnyH_take (i := 12) (v := ?v4) rfl (by kernel_rfl) (by kernel_rfl) (by kernel_rfl) (fun _ _ _ h => h) (Or.inl ⟨by kernel_rfl, ?y4⟩) (by assumption) ?_
  case y4 => (intro w hSw; (try dsimp only at hSw); go_simp; all_goals with_reducible rfl)
  try simp only [Act.put, List.getElem_toArray, List.getElem_cons_succ, List.getElem_cons_zero, List.setIfInBounds_toArray, List.set_cons_zero, List.set_cons_succ]
  refine wpAnyH_take (i := 13) (v := (.bool true)) rfl (by kernel_rfl) (by kernel_rfl) (by kernel_rfl) (fun _ _ _ h => h) (Or.inl ⟨by kernel_rfl, fun w hSw => by first | (go_simp; done) | (go_simp; with_reducible rfl) | (go_simp; omega)⟩) (by assumption) ?_
  try simp only [Act.put, List.getElem_toArray, List.getElem_cons_succ, List.getElem_cons_zero, List.setIfInBounds_toArray, List.set_cons_zero, List.set_cons_succ]
  refine wpAnyH_take (i := 14) (v := (.bool true)) rfl (by kernel_rfl) (by kernel_rfl) (by kernel_rfl) (fun _ _ _ h => h) (Or.inl ⟨by kernel_rfl, fun w hSw => by first | (go_simp; done) | (go_simp; with_reducible rfl) | (go_simp; omega)⟩) (by assumption) ?_
  try simp only [Act.put, List.getElem_toArray, List.getElem_cons_succ, List.getElem_cons_zero, List.setIfInBounds_toArray, List.set_cons_zero, List.set_cons_succ]
  refine wpAnyH_take (i := 15) (v := (.bool true)) rfl (by kernel_rfl) (by kernel_rfl) (by kernel_rfl) (fun _ _ _ h => h) (Or.inl ⟨by kernel_rfl, fun w hSw => by first | (go_simp; done) | (go_simp; with_reducible rfl) | (go_simp; omega)⟩) (by assumption) ?_
  try simp only [Act.put, List.getElem_toArray, List.getElem_cons_succ, List.getElem_cons_zero, List.setIfInBounds_toArray, List.set_cons_zero, List.set_cons_succ]
  refine wpAnyH_take (i := 16) (v := ?v5) rfl (by kernel_rfl) (by kernel_rfl) (by kernel_rfl) (fun _ _ _ h => h) (Or.inl ⟨by kernel_rfl, ?y5⟩) (by assumption) ?_
  case y5 => (intro w hSw; (try dsimp only at hSw); go_simp; all_goals with_reducible rfl)
  try simp only [Act.put, List.getElem_toArray, List.getElem_cons_succ, List.getElem_cons_zero, List.setIfInBounds_toArray, List.set_cons_zero, List.set_cons_succ]
  refine wpAnyH_take (i := 17) (v := (.bool true)) rfl (by kernel_rfl) (by kernel_rfl) (by kernel_rfl) (fun _ _ _ h => h) (Or.inl ⟨by kernel_rfl, fun w hSw => by first | (go_simp; done) | (go_simp; with_reducible rfl) | (go_simp; omega)⟩) (by assumption) ?_
  try simp only [Act.put, List.getElem_toArray, List.getElem_cons_succ, List.getElem_cons_zero, List.setIfInBounds_toArray, List.set_cons_zero, List.set_cons_succ]
  refine wpAnyH_take (i := 18) (v := (.bool true)) rfl (by kernel_rfl) (by kernel_rfl) (by kernel_rfl) (fun _ _ _ h => h) (Or.inl ⟨by kernel_rfl, fun w hSw => by first | (go_simp; done) | (go_simp; with_reducible rfl) | (go_simp; omega)⟩) (by assumption) ?_
  try simp only [Act.put, List.getElem_toArray, List.getElem_cons_succ, List.getElem_cons_zero, List.setIfInBounds_toArray, List.set_cons_zero, List.set_cons_succ]
  refine wpAnyH_take (i := 19) (v := (.bool true)) rfl (by kernel_rfl) (by kernel_rfl) (by kernel_rfl) (fun _ _ _ h => h) (Or.inl ⟨by kernel_rfl, fun w hSw => by first | (go_simp; done) | (go_simp; with_reducible rfl) | (go_simp; omega)⟩) (by assumption) ?_
  try simp only [Act.put, List.getElem_toArray, List.getElem_cons_succ, List.getElem_cons_zero, List.setIfInBounds_toArray, List.set_cons_zero, List.set_cons_succ]
  refine wpAnyH_take (i := 20) (v := ?v6) rfl (by kernel_rfl) (by kernel_rfl) (by kernel_rfl) (fun _ _ _ h => h) (Or.inl ⟨by kernel_rfl, ?y6⟩) (by assumption) ?_
  case y6 => (intro w hSw; (try dsimp only at hSw); go_simp; all_goals with_reducible rfl)
  try simp only [Act.put, List.getElem_toArray, List.getElem_cons_succ, List.getElem_cons_zero, List.setIfInBounds_toArray, List.set_cons_zero, List.set_cons_succ]
  refine wpAnyH_ready (rs := [21]) (by kernel_rfl) (by simp) (AllReadyH.cons rfl (fun K hK => ?_) AllReadyH.nil)
  go_simp
  go_at_call 51
  refine (one_ok _ _).mono ?_
  rintro e W1 ⟨rfl, f⟩
  have FW := kf f hHeld.2.2.2.2.2.2.2.2.2.2.2.2.2.2.2.2.2.2.2.2.2.2
  dsimp only
  refine hK.out _ _ ?_ (fun hHeld => ?_)
  · (try dsimp only); (first | exact ⟨kc f hHeld.1, kc f hHeld.2.1, kc f hHeld.2.2.1, kc f hHeld.2.2.2.1, kc f hHeld.2.2.2.2.1, kc f hHeld.2.2.2.2.2.1, kc f hHeld.2.2.2.2.2.2.1, kc f hHeld.2.2.2.2.2.2.2.1, kc f hHeld.2.2.2.2.2.2.2.2.1, kc f hHeld.2.2.2.2.2.2.2.2.2.1, kc f hHeld.2.2.2.2.2.2.2.2.2.2.1, kc f hHeld.2.2.2.2.2.2.2.2.2.2.2.1, kc f hHeld.2.2.2.2.2.2.2.2.2.2.2.2.1, kc f hHeld.2.2.2.2.2.2.2.2.2.2.2.2.2.1, kc f hHeld.2.2.2.2.2.2.2.2.2.2.2.2.2.2.1, kc f hHeld.2.2.2.2.2.2.2.2.2.2.2.2.2.2.2.1, kc f hHeld.2.2.2.2.2.2.2.2.2.2.2.2.2.2.2.2.1, kc f hHeld.2.2.2.2.2.2.2.2.2.2.2.2.2.2.2.2.2.1, kc f hHeld.2.2.2.2.2.2.2.2.2.2.2.2.2.2.2.2.2.2.1, kc f hHeld.2.2.2.2.2.2.2.2.2.2.2.2.2.2.2.2.2.2.2.1, kc f hHeld.2.2.2.2.2.2.2.2.2.2.2.2.2.2.2.2.2.2.2.2.1, kc f hHeld.2.2.2.2.2.2.2.2.2.2.2.2.2.2.2.2.2.2.2.2.2.1, FW⟩ | (go_split_ands; exact ⟨kc f (by assumption), kc f (by assumption), kc f (by assumption), kc f (by assumption), kc f (by assumption), kc f (by assumption), kc f (by assumption), kc f (by assumption), kc f (by assumption), kc f (by assumption), kc f (by assumption), kc f (by assumption), kc f (by assumption), kc f (by assumption), kc f (by assumption), kc f (by assumption), kc f (by assumption), kc f (by assumption), kc f (by assumption), kc f (by assumption), kc f (by assumption), kc f (by assumption), by assumption⟩) | (go_split_ands; exact ⟨(by assumption), (by assumption), (by assumption), (by assumption), (by assumption), (by assumption), (by assumption), (by assumption), (by assumption), (by assumption), (by assumption), (by assumption), (by assumption), (by assumption), (by assumption), (by assumption), (by assumption), (by assumption), (by assumption), (by assumption), (by assumption), (by assumption), by assumption⟩) | (go_split_ands; exact ⟨kc (fr1 _ _) (by assumption), kc (fr1 _ _) (by assumption), kc (fr1 _ _) (by assumption), kc (fr1 _ _) (by assumption), kc (fr1 _ _) (by assumption), kc (fr1 _ _) (by assumption), kc (fr1 _ _) (by assumption), kc (fr1 _ _) (by assumption), kc (fr1 _ _) (by assumption), kc (fr1 _ _) (by assumption), kc (fr1 _ _) (by assumption), kc (fr1 _ _) (by assumption), kc (fr1 _ _) (by assumption), kc (fr1 _ _) (by assumption), kc (fr1 _ _) (by assumption), kc (fr1 _ _) (by assumption), kc (fr1 _ _) (by assumption), kc (fr1 _ _) (by assumption), kc (fr1 _ _) (by assumption), kc (fr1 _ _) (by assumption), kc (fr1 _ _) (by assumption), kc (fr1 _ _) (by assumption), kfa (by assumption)⟩))
  clear hK K
  try simp only [Act.put, List.getElem_toArray, List.getElem_cons_succ, List.getElem_cons_zero, List.setIfInBounds_toArray, List.set_cons_zero, List.set_cons_succ]
  refine wpAnyH_take (i := 22) (v := (.bool true)) rfl (by kernel_rfl) (by kernel_rfl) (by kernel_rfl) (fun _ _ _ h => h) (Or.inl ⟨by kernel_rfl, fun w hSw => by first | (go_simp; done) | (go_simp; with_reducible rfl) | (go_simp; omega)⟩) (by assumption) ?_
  try simp only [Act.put, List.getElem_toArray, List.getElem_cons_succ, List.getElem_cons_zero, List.setIfInBounds_toArray, List.set_cons_zero, List.set_cons_succ]
  refine wpAnyH_take (i := 23) (v := (.bool true)) rfl (by kernel_rfl) (by kernel_rfl) (by kernel_rfl) (fun _ _ _ h => h) (Or.inl ⟨by kernel_rfl, fun w hSw => by first | (go_simp; done) | (go_simp; with_reducible rfl) | (go_simp; omega)⟩) (by assumption) ?_
  try simp only [Act.put, List.getElem_toArray, List.getElem_cons_succ, List.getElem_cons_zero, List.setIfInBounds_toArray, List.set_cons_zero, List.set_cons_succ]
  refine wpAnyH_take (i := 24) (v := (.bool true)) rfl (by kernel_rfl) (by kernel_rfl) (by kernel_rfl) (fun _ _ _ h => h) (Or.inl ⟨by kernel_rfl, fun w hSw => by first | (go_simp; done) | (go_simp; with_reducible rfl) | (go_simp; omega)⟩) (by assumption) ?_
  try simp only [Act.put, List.getElem_toArray, List.getElem_cons_succ, List.getElem_cons_zero, List.setIfInBounds_toArray, List.set_cons_zero, List.set_cons_succ]
  refine wpAnyH_take (i := 25) (v := ?v7) rfl (by kernel_rfl) (by kernel_rfl) (by kernel_rfl) (fun _ _ _ h => h) (Or.inl ⟨by kernel_rfl, ?y7⟩) (by assumption) ?_
  case y7 => (intro w hSw; (try dsimp only at hSw); go_simp; all_goals with_reducible rfl)
  try simp only [Act.put, List.getElem_toArray, List.getElem_cons_succ, List.getElem_cons_zero, List.setIfInBounds_toArray, List.set_cons_zero, List.set_cons_succ]
  refine wpAnyH_take (i := 26) (v := (.bool true)) rfl (by kernel_rfl) (by kernel_rfl) (by kernel_rfl) (fun _ _ _ h => h) (Or.inl ⟨by kernel_rfl, fun w hSw => by first | (go_simp; done) | (go_simp; with_reducible rfl) | (go_simp; omega)⟩) (by assumption) ?_
  try simp only [Act.put, List.getElem_toArray, List.getElem_cons_succ, List.getElem_cons_zero, List.setIfInBounds_toArray, List.set_cons_zero, List.set_cons_succ]
  refine wpAnyH_take (i := 27) (v := (.bool true)) rfl (by kernel_rfl) (by kernel_rfl) (by kernel_rfl) (fun _ _ _ h => h) (Or.inl ⟨by kernel_rfl, fun w hSw => by first | (go_simp; done) | (go_simp; with_reducible rfl) | (go_simp; omega)⟩) (by assumption) ?_
  try simp only [Act.put, List.getElem_toArray, List.getElem_cons_succ, List.getElem_cons_zero, List.setIfInBounds_toArray, List.set_cons_zero, List.set_cons_succ]
  refine wpAnyH_take (i := 28) (v := (.bool true)) rfl (by kernel_rfl) (by kernel_rfl) (by kernel_rfl) (fun _ _ _ h => h) (Or.inl ⟨by kernel_rfl, fun w hSw => by first | (go_simp; done) | (go_simp; with_reducible rfl) | (go_simp; omega)⟩) (by assumption) ?_
  try simp only [Act.put, List.getElem_toArray, List.getElem_cons_succ, List.getElem_cons_zero, List.setIfInBounds_toArray, List.set_cons_zero, List.set_cons_succ]
  refine wpAnyH_take (i := 29) (v := ?v8) rfl (by kernel_rfl) (by kernel_rfl) (by kernel_rfl) (fun _ _ _ h => h) (Or.inl ⟨by kernel_rfl, ?y8⟩) (by assumption) ?_
  case y8 => (intro w hSw; (try dsimp only at hSw); go_simp; all_goals with_reducible rfl)
  try simp only [Act.put, List.getElem_toArray, List.getElem_cons_succ, List.getElem_cons_zero, List.setIfInBounds_toArray, List.set_cons_zero, List.set_cons_succ]
  refine wpAnyH_take (i := 30) (v := (.bool true)) rfl (by kernel_rfl) (by kernel_rfl) (by kernel_rfl) (fun _ _ _ h => h) (Or.inl ⟨by kernel_rfl, fun w hSw => by first | (go_simp; done) | (go_simp; with_reducible rfl) | (go_simp; omega)⟩) (by assumption) ?_
  try simp only [Act.put, List.getElem_toArray, List.getElem_cons_succ, List.getElem_cons_zero, List.setIfInBounds_toArray, List.set_cons_zero, List.set_cons_succ]
  refine wpAnyH_take (i := 31) (v := (.bool true)) rfl (by kernel_rfl) (by kernel_rfl) (by kernel_rfl) (fun _ _ _ h => h) (Or.inl ⟨by kernel_rfl, fun w hSw => by first | (go_simp; done) | (go_simp; with_reducible rfl) | (go_simp; omega)⟩) (by assumption) ?_
  try simp only [Act.put, List.getElem_toArray, List.getElem_cons_succ, List.getElem_cons_zero, List.setIfInBounds_toArray, List.set_cons_zero, List.set_cons_succ]
  refine wpAnyH_take (i := 32) (v := (.bool true)) rfl (by kernel_rfl) (by kernel_rfl) (by kernel_rfl) (fun _ _ _ h => h) (Or.inl ⟨by kernel_rfl, fun w hSw => by first | (go_simp; done) | (go_simp; with_reducible rfl) | (go_simp; omega)⟩) (by assumption) ?_
  try simp only [Act.put, List.getElem_toArray, List.getElem_cons_succ, List.getElem_cons_zero, List.setIfInBounds_toArray, List.set_cons_zero, List.set_cons_succ]
  refine wpAnyH_take (i := 33) (v := ?v9) rfl (by kernel_rfl) (by kernel_rfl) (by kernel_rfl) (fun _ _ _ h => h) (Or.inl ⟨by kernel_rfl, ?y9⟩) (by assumption) ?_
  case y9 => (intro w hSw; (try dsimp only at hSw); go_simp; all_goals with_reducible rfl)
  try simp only [Act.put, List.getElem_toArray, List.getElem_cons_succ, List.getElem_cons_zero, List.setIfInBounds_toArray, List.set_cons_zero, List.set_cons_succ]
  refine wpAnyH_take (i := 34) (v := ?v10) rfl (by kernel_rfl) (by kernel_rfl) (by kernel_rfl) (fun _ _ _ h => h) (Or.inl ⟨by kernel_rfl, ?y10⟩) (by assumption) ?_
  case y10 => (intro w hSw; (try dsimp only at hSw); go_simp; all_goals with_reducible rfl)
  try simp only [Act.put, List.getElem_toArray, List.getElem_cons_succ, List.getElem_cons_zero, List.setIfInBounds_toArray, List.set_cons_zero, List.set_cons_succ]
  refine wpAnyH_take (i := 35) (v := (.bool true)) rfl (by kernel_rfl) (by kernel_rfl) (by kernel_rfl) (fun _ _ _ h => h) (Or.inl ⟨by kernel_rfl, fun w hSw => by first | (go_simp; done) | (go_simp; with_reducible rfl) | (go_simp; omega)⟩) (by assumption) ?_
  try simp only [Act.put, List.getElem_toArray, List.getElem_cons_succ, List.getElem_cons_zero, List.setIfInBounds_toArray, List.set_cons_zero, List.set_cons_succ]
  refine wpAnyH_take (i := 36) (v := (.bool true)) rfl (by kernel_rfl) (by kernel_rfl) (by kernel_rfl) (fun _ _ _ h => h) (Or.inl ⟨by kernel_rfl, fun w hSw => by first | (go_simp; done) | (go_simp; with_reducible rfl) | (go_simp; omega)⟩) (by assumption) ?_
  try simp only [Act.put, List.getElem_toArray, List.getElem_cons_succ, List.getElem_cons_zero, List.setIfInBounds_toArray, List.set_cons_zero, List.set_cons_succ]
  refine wpAnyH_take (i := 37) (v := (.bool true)) rfl (by kernel_rfl) (by kernel_rfl) (by kernel_rfl) (fun _ _ _ h => h) (Or.inl ⟨by kernel_rfl, fun w hSw => by first | (go_simp; done) | (go_simp; with_reducible rfl) | (go_simp; omega)⟩) (by assumption) ?_
  try simp only [Act.put, List.getElem_toArray, List.getElem_cons_succ, List.getElem_cons_zero, List.setIfInBounds_toArray, List.set_cons_zero, List.set_cons_succ]
  refine wpAnyH_take (i := 38) (v := ?v11) rfl (by kernel_rfl) (by kernel_rfl) (by kernel_rfl) (fun _ _ _ h => h) (Or.inl ⟨by kernel_rfl, ?y11⟩) (by assumption) ?_
  case y11 => (intro w hSw; (try dsimp only at hSw); go_simp; all_goals with_reducible rfl)
  try simp only [Act.put, List.getElem_toArray, List.getElem_cons_succ, List.getElem_cons_zero, List.setIfInBounds_toArray, List.set_cons_zero, List.set_cons_succ]
  refine wpAnyH_take (i := 39) (v := (.bool true)) rfl (by kernel_rfl) (by kernel_rfl) (by kernel_rfl) (fun _ _ _ h => h) (Or.inl ⟨by kernel_rfl, fun w hSw => by first | (go_simp; done) | (go_simp; with_reducible rfl) | (go_simp; omega)⟩) (by assumption) ?_
  try simp only [Act.put, List.getElem_toArray, List.getElem_cons_succ, List.getElem_cons_zero, List.setIfInBounds_toArray, List.set_cons_zero, List.set_cons_succ]
  refine wpAnyH_take (i := 40) (v := (.bool true)) rfl (by kernel_rfl) (by kernel_rfl) (by kernel_rfl) (fun _ _ _ h => h) (Or.inl ⟨by kernel_rfl, fun w hSw => by first | (go_simp; done) | (go_simp; with_reducible rfl) | (go_simp; omega)⟩) (by assumption) ?_
  try simp only [Act.put, List.getElem_toArray, List.getElem_cons_succ, List.getElem_cons_zero, List.setIfInBounds_toArray, List.set_cons_zero, List.set_cons_succ]
  refine wpAnyH_take (i := 41) (v := (.bool true)) rfl (by kernel_rfl) (by kernel_rfl) (by kernel_rfl) (fun _ _ _ h => h) (Or.inl ⟨by kernel_rfl, fun w hSw => by first | (go_simp; done) | (go_simp; with_reducible rfl) | (go_simp; omega)⟩) (by assumption) ?_
  try simp only [Act.put, List.getElem_toArray, List.getElem_cons_succ, List.getElem_cons_zero, List.setIfInBounds_toArray, List.set_cons_zero, List.set_cons_succ]
  refine wpAnyH_take (i := 42) (v := ?v12) rfl (by kernel_rfl) (by kernel_rfl) (by kernel_rfl) (fun _ _ _ h => h) (Or.inl ⟨by kernel_rfl, ?y12⟩) (by assumption) ?_
  case y12 => (intro w hSw; (try dsimp only at hSw); go_simp; all_goals with_reducible rfl)
  try simp only [Act.put, List.getElem_toArray, List.getElem_cons_succ, List.getElem_cons_zero, List.setIfInBounds_toArray, List.set_cons_zero, List.set_cons_succ]
  refine wpAnyH_ready (rs := [43]) (by kernel_rfl) (by simp) (AllReadyH.cons rfl (fun K hK => ?_) AllReadyH.nil)
  go_simp
  go_at_call 18
  refine (copy_yes 7 2 8 16 3 2 0 5 0 false _ (by decide) may7).mono ?_
  rintro e W1 ⟨rfl, f⟩
  have FW := kf f hHeld.2.2.2.2.2.2.2.2.2.2.2.2.2.2.2.2.2.2.2.2.2.2
  dsimp only
  refine hK.out _ _ ?_ (fun hHeld => ?_)
  · (try dsimp only); (first | exact ⟨kc f hHeld.1, kc f hHeld.2.1, kc f hHeld.2.2.1, kc f hHeld.2.2.2.1, kc f hHeld.2.2.2.2.1, kc f hHeld.2.2.2.2.2.1, kc f hHeld.2.2.2.2.2.2.1, kc f hHeld.2.2.2.2.2.2.2.1, kc f hHeld.2.2.2.2.2.2.2.2.1, kc f hHeld.2.2.2.2.2.2.2.2.2.1, kc f hHeld.2.2.2.2.2.2.2.2.2.2.1, kc f hHeld.2.2.2.2.2.2.2.2.2.2.2.1, kc f hHeld.2.2.2.2.2.2.2.2.2.2.2.2.1, kc f hHeld.2.2.2.2.2.2.2.2.2.2.2.2.2.1, kc f hHeld.2.2.2.2.2.2.2.2.2.2.2.2.2.2.1, kc f hHeld.2.2.2.2.2.2.2.2.2.2.2.2.2.2.2.1, kc f hHeld.2.2.2.2.2.2.2.2.2.2.2.2.2.2.2.2.1, kc f hHeld.2.2.2.2.2.2.2.2.2.2.2.2.2.2.2.2.2.1, kc f hHeld.2.2.2.2.2.2.2.2.2.2.2.2.2.2.2.2.2.2.1, kc f hHeld.2.2.2.2.2.2.2.2.2.2.2.2.2.2.2.2.2.2.2.1, kc f hHeld.2.2.2.2.2.2.2.2.2.2.2.2.2.2.2.2.2.2.2.2.1, kc f hHeld.2.2.2.2.2.2.2.2.2.2.2.2.2.2.2.2.2.2.2.2.2.1, FW⟩ | (go_split_ands; exact ⟨kc f (by assumption), kc f (by assumption), kc f (by assumption), kc f (by assumption), kc f (by assumption), kc f (by assumption), kc f (by assumption), kc f (by assumption), kc f (by assumption), kc f (by assumption), kc f (by assumption), kc f (by assumption), kc f (by assumption), kc f (by assumption), kc f (by assumption), kc f (by assumption), kc f (by assumption), kc f (by assumption), kc f (by assumption), kc f (by assumption), kc f (by assumption), kc f (by assumption), by assumption⟩) | (go_split_ands; exact ⟨(by assumption), (by assumption), (by assumption), (by assumption), (by assumption), (by assumption), (by assumption), (by assumption), (by assumption), (by assumption), (by assumption), (by assumption), (by assumption), (by assumption), (by assumption), (by assumption), (by assumption), (by assumption), (by assumption), (by assumption), (by assumption), (by assumption), by assumption⟩) | (go_split_ands; exact ⟨kc (fr1 _ _) (by assumption), kc (fr1 _ _) (by assumption), kc (fr1 _ _) (by assumption), kc (fr1 _ _) (by assumption), kc (fr1 _ _) (by assumption), kc (fr1 _ _) (by assumption), kc (fr1 _ _) (by assumption), kc (fr1 _ _) (by assumption), kc (fr1 _ _) (by assumption), kc (fr1 _ _) (by assumption), kc (fr1 _ _) (by assumption), kc (fr1 _ _) (by assumption), kc (fr1 _ _) (by assumption), kc (fr1 _ _) (by assumption), kc (fr1 _ _) (by assumption), kc (fr1 _ _) (by assumption), kc (fr1 _ _) (by assumption), kc (fr1 _ _) (by assumption), kc (fr1 _ _) (by assumption), kc (fr1 _ _) (by assumption), kc (fr1 _ _) (by assumption), kc (fr1 _ _) (by assumption), kfa (by assumption)⟩))
  clear hK K
  try simp only [Act.put, List.getElem_toArray, List.getElem_cons_succ, List.getElem_cons_zero, List.setIfInBounds_toArray, List.set_cons_zero, List.set_cons_succ]
  refine wpAnyH_take (i := 44) (v := (.bool true)) rfl (by kernel_rfl) (by kernel_rfl) (by kernel_rfl) (fun _ _ _ h => h) (Or.inl ⟨by kernel_rfl, fun w hSw => by first | (go_simp; done) | (go_simp; with_reducible rfl) | (go_simp; omega)⟩) (by assumption) ?_
  try simp only [Act.put, List.getElem_toArray, List.getElem_cons_succ, List.getElem_cons_zero, List.setIfInBounds_toArray, List.set_cons_zero, List.set_cons_succ]
  refine wpAnyH_take (i := 45) (v := (.bool true)) rfl (by kernel_rfl) (by kernel_rfl) (by kernel_rfl) (fun _ _ _ h => h) (Or.inl ⟨by kernel_rfl, fun w hSw => by first | (go_simp; done) | (go_simp; with_reducible rfl) | (go_simp; omega)⟩) (by assumption) ?_
  try simp only [Act.put, List.getElem_toArray, List.getElem_cons_succ, List.getElem_cons_zero, List.setIfInBounds_toArray, List.set_cons_zero, List.set_cons_succ]
  refine wpAnyH_take (i := 46) (v := (.bool true)) rfl (by kernel_rfl) (by kernel_rfl) (by kernel_rfl) (fun _ _ _ h => h) (Or.inl ⟨by kernel_rfl, fun w hSw => by first | (go_simp; done) | (go_simp; with_reducible rfl) | (go_simp; omega)⟩) (by assumption) ?_
  try simp only [Act.put, List.getElem_toArray, List.getElem_cons_succ, List.getElem_cons_zero, List.setIfInBounds_toArray, List.set_cons_zero, List.set_cons_succ]
  refine wpAnyH_take (i := 47) (v := ?v13) rfl (by kernel_rfl) (by kernel_rfl) (by kernel_rfl) (fun _ _ _ h => h) (Or.inl ⟨by kernel_rfl, ?y13⟩) (by assumption) ?_
  case y13 => (intro w hSw; (try dsimp only at hSw); go_simp; all_goals with_reducible rfl)
  try simp only [Act.put, List.getElem_toArray, List.getElem_cons_succ, List.getElem_cons_zero, List.setIfInBounds_toArray, List.set_cons_zero, List.set_cons_succ]
  refine wpAnyH_ready (rs := [48]) (by kernel_rfl) (by simp) (AllReadyH.cons rfl (fun K hK => ?_) AllReadyH.nil)
  go_simp
  go_at_call 16
  refine (mayS_ok 7 2 8 16 3 2 0 5 0 false _ (by decide)).mono ?_
  rintro e W1 ⟨rfl, f⟩
  have FW := kf f hHeld.2.2.2.2.2.2.2.2.2.2.2.2.2.2.2.2.2.2.2.2.2.2
  rw [decide_eq_true may7]
  dsimp only
  refine hK.out _ _ ?_ (fun hHeld => ?_)
  · (try dsimp only); (first | exact ⟨kc f hHeld.1, kc f hHeld.2.1, kc f hHeld.2.2.1, kc f hHeld.2.2.2.1, kc f hHeld.2.2.2.2.1, kc f hHeld.2.2.2.2.2.1, kc f hHeld.2.2.2.2.2.2.1, kc f hHeld.2.2.2.2.2.2.2.1, kc f hHeld.2.2.2.2.2.2.2.2.1, kc f hHeld.2.2.2.2.2.2.2.2.2.1, kc f hHeld.2.2.2.2.2.2.2.2.2.2.1, kc f hHeld.2.2.2.2.2.2.2.2.2.2.2.1, kc f hHeld.2.2.2.2.2.2.2.2.2.2.2.2.1, kc f hHeld.2.2.2.2.2.2.2.2.2.2.2.2.2.1, kc f hHeld.2.2.2.2.2.2.2.2.2.2.2.2.2.2.1, kc f hHeld.2.2.2.2.2.2.2.2.2.2.2.2.2.2.2.1, kc f hHeld.2.2.2.2.2.2.2.2.2.2.2.2.2.2.2.2.1, kc f hHeld.2.2.2.2.2.2.2.2.2.2.2.2.2.2.2.2.2.1, kc f hHeld.2.2.2.2.2.2.2.2.2.2.2.2.2.2.2.2.2.2.1, kc f hHeld.2.2.2.2.2.2.2.2.2.2.2.2.2.2.2.2.2.2.2.1, kc f hHeld.2.2.2.2.2.2.2.2.2.2.2.2.2.2.2.2.2.2.2.2.1, kc f hHeld.2.2.2.2.2.2.2.2.2.2.2.2.2.2.2.2.2.2.2.2.2.1, FW⟩ | (go_split_ands; exact ⟨kc f (by assumption), kc f (by assumption), kc f (by assumption), kc f (by assumption), kc f (by assumption), kc f (by assumption), kc f (by assumption), kc f (by assumption), kc f (by assumption), kc f (by assumption), kc f (by assumption), kc f (by assumption), kc f (by assumption), kc f (by assumption), kc f (by assumption), kc f (by assumption), kc f (by assumption), kc f (by assumption), kc f (by assumption), kc f (by assumption), kc f (by assumption), kc f (by assumption), by assumption⟩) | (go_split_ands; exact ⟨(by assumption), (by assumption), (by assumption), (by assumption), (by assumption), (by assumption), (by assumption), (by assumption), (by assumption), (by assumption), (by assumption), (by assumption), (by assumption), (by assumption), (by assumption), (by assumption), (by assumption), (by assumption), (by assumption), (by assumption), (by assumption), (by assumption), by assumption⟩) | (go_split_ands; exact ⟨kc (fr1 _ _) (by assumption), kc (fr1 _ _) (by assumption), kc (fr1 _ _) (by assumption), kc (fr1 _ _) (by assumption), kc (fr1 _ _) (by assumption), kc (fr1 _ _) (by assumption), kc (fr1 _ _) (by assumption), kc (fr1 _ _) (by assumption), kc (fr1 _ _) (by assumption), kc (fr1 _ _) (by assumption), kc (fr1 _ _) (by assumption), kc (fr1 _ _) (by assumption), kc (fr1 _ _) (by assumption), kc (fr1 _ _) (by assumption), kc (fr1 _ _) (by assumption), kc (fr1 _ _) (by assumption), kc (fr1 _ _) (by assumption), kc (fr1 _ _) (by assumption), kc (fr1 _ _) (by assumption), kc (fr1 _ _) (by assumption), kc (fr1 _ _) (by assumption), kc (fr1 _ _) (by assumption), kfa (by assumption)⟩))
  clear hK K
  try simp only [Act.put, List.getElem_toArray, List.getElem_cons_succ, List.getElem_cons_zero, List.setIfInBounds_toArray, List.set_cons_zero, List.set_cons_succ]
  refine wpAnyH_take (i := 49) (v := ?v14) rfl (by kernel_rfl) (by kernel_rfl) (by kernel_rfl) (fun _ _ _ h => h) (Or.inl ⟨by kernel_rfl, ?y14⟩) (by assumption) ?_
  case y14 => (intro w hSw; (try dsimp only at hSw); go_simp; all_goals with_reducible rfl)
  try simp only [Act.put, List.getElem_toArray, List.getElem_cons_succ, List.getElem_cons_zero, List.setIfInBounds_toArray, List.set_cons_zero, List.set_cons_succ]
  refine wpAnyH_take (i := 50) (v := ?v15) rfl (by kernel_rfl) (by kernel_rfl) (by kernel_rfl) (fun _ _ _ h => h) (Or.inl ⟨by kernel_rfl, ?y15⟩) (by assumption) ?_
  case y15 => (intro w hSw; (try dsimp only at hSw); go_simp; all_goals with_reducible rfl)
  try simp only [Act.put, List.getElem_toArray, List.getElem_cons_succ, List.getElem_cons_zero, List.setIfInBounds_toArray, List.set_cons_zero]
  refine wpAnyH_done (by kernel_rfl) ?_ _
  refine NoPanic.normal ?_
  go_wp2
  go_ret
  exact ⟨rfl, FWO.out.trans hHeld.2.2.2.2.2.2.2.2.2.2.2.2.2.2.2.2.2.2.2.2.2.2.out⟩
end Go.Proofs.YthhhmhgmmbfjhaaDoor.SuP
