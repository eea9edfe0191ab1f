/- Contract: what any bytes are as a record, by the document. Conditions: they read as bytes. -/
import Derived.Test.YtdepkpdolkipcaaDoorRcK
namespace Go.Proofs.YtdepkpdolkipcaaDoor.RcL
open Go.RowKit MSep MFrame MSepC LeW LeR LeY RdA RcM RcA RcB RcC DlO Kit RcG RcI RcJ RcK CrcM CrcA CrcE

def decR (zs : List Int) : Option Rc := if secOk zs then dR (zs.drop 4) else none
theorem dec_decR (zs : List Int) (h : ∀ x ∈ zs, 0 ≤ x ∧ x ≤ 255) : dec zs = decR zs := by
  unfold dec decR
  by_cases hs : secOk zs = true
  · rw [if_pos hs, if_pos hs]
    have hl : zs.length = 128 := by
      unfold secOk at hs
      simp only [Bool.and_eq_true, beq_iff_eq] at hs
      exact hs.1
    exact dP_dR (fun x hx => h x (List.mem_of_mem_drop hx)) (by rw [List.length_drop, hl])
  · rw [if_neg hs, if_neg hs]
theorem YdO.ap {w : World} {g : Nat} {U : Nat → Prop} {st : Option (List Int)} (h : YdO w U g st) (D i : Nat) (v : Value) (hD : ¬ U D) : YdO (w.setCell ⟨D, i, none⟩ v) U g st := h.fr (Fr.set1 w D i v) (fun k hk e => hD (e ▸ hk))
theorem rDs_go (n : Nat) (st : Option (List Int)) (h : (rD st).2.1 = 0) : rDs (n + 1) st = (rDs n (rD st).2.2).map fun p => ((rD st).1 :: p.1, p.2) := by rw [rDs, if_pos h]
theorem rDs_no (n : Nat) (st : Option (List Int)) (h : ¬ (rD st).2.1 = 0) : rDs (n + 1) st = none := by rw [rDs, if_neg h]
theorem inv_go {N k : Nat} {s4 sk : Option (List Int)} {ds0 : List De} {d : De} {s' : Option (List Int)} (hk : k < N) (h : rDs N s4 = (rDs (N - k) sk).map fun p => (ds0 ++ p.1, p.2)) (hr : rD sk = (d, 0, s')) : rDs N s4 = (rDs (N - (k + 1)) s').map fun p => (ds0 ++ [d] ++ p.1, p.2) := by
  rw [h, show N - k = (N - (k + 1)) + 1 by omega, rDs_go _ _ (by rw [hr]), hr, Option.map_map]
  congr 1
  funext p
  simp
theorem inv_no {N k : Nat} {s4 sk : Option (List Int)} {ds0 : List De} {d : De} {q : Int} {s' : Option (List Int)} (hk : k < N) (h : rDs N s4 = (rDs (N - k) sk).map fun p => (ds0 ++ p.1, p.2)) (hr : rD sk = (d, q, s')) (hq : ¬ q = 0) : rDs N s4 = none := by
  rw [h, show N - k = (N - (k + 1)) + 1 by omega, rDs_no _ _ (by rw [hr]; exact hq)]
  rfl
theorem next_w (n N : Nat) (h : n < N) (h6 : N ≤ 6) : wrap64 ((n : Int) + 1) = ((n + 1 : Nat) : Int) := by
  unfold wrap64
  omega
theorem next_v (n N : Nat) (h : n < N) (h6 : N ≤ 6) : Value.int .i64 (wrap64 ((n : Int) + 1)) = Value.int .i64 ((n + 1 : Nat) : Int) := by rw [next_w n N h h6]
theorem next_m (n N : Nat) (h : n < N) (h6 : N ≤ 6) : N - (intOf (Value.int .i64 (wrap64 ((n : Int) + 1)))).toNat < N - (intOf (Value.int .i64 (n : Int))).toNat := by
  rw [next_w n N h h6]
  simp only [intOf, Int.toNat_natCast]
  omega
theorem len_snoc {α : Type} (l : List α) (a : α) : (l ++ [a]).length = l.length + 1 := by simp
set_option maxRecDepth 100000 in
set_option maxHeartbeats 8000000 in
theorem rdecode_ok (A : Option Addr) (l c : Nat) (zs : List Int) (w : World) (hb : IsB w A l c zs) :
    Calls Tryd.prog 31 #[.slice A l c] w fun E w' =>
      (match decR zs with
        | none => E = .returned (.tuple #[rv 0 0 false 0 none 0 0, .bool false])
        | some r => ∃ A' c', E = .returned (.tuple #[rv r.e r.s r.c r.u A' r.l.length c', .bool true]) ∧ r.l.length ≤ 6 ∧ RdD w' A' r.l.length r.l) ∧ Fr No w w' := by
  have hlen : zs.length = l := by simpa using hb.1.1
  obtain ⟨R, hR⟩ : ∃ R, w.heap.size = R := ⟨_, rfl⟩
  obtain ⟨w1, hw1⟩ : ∃ w1, w.alloc (rx 0 0 false 0 none 0 0) = w1 := ⟨_, rfl⟩
  have FW := hid (show Fr No w w1 by rw [← hw1]; exact (Fr.refl _ w).alloc _)
  have HQ : Blk w1 R 48 #[.int .i64 0, .int .i64 0, .bool false, .int .i64 0, .slice none 0 0] := by
    rw [← hw1, ← hR]
    exact Blk.new w _ _
  have HS1 := hid (show w1.heap.size = R + 1 by rw [← hw1]; simp; omega)
  have HW1 := hid hw1
  have HI := hid (hb.fr FW.out)
  have HI0 := hid hb
  have HLEN := hid hlen
  clear hb hw1 hlen
  obtain ⟨V, hV⟩ : ∃ V, decR zs = V := ⟨_, rfl⟩
  rw [hV]
  by_cases hs : secOk zs = true
  · have HC : Hid ((l == 128 && ld zs 4 == onN 0 (zs.drop 4)) = true) := hid (by rw [← HLEN.out]; exact hs)
    have hl : l = 128 := by have := HC.out; simp only [Bool.and_eq_true, beq_iff_eq] at this; exact this.1
    subst hl
    have HVD := hid (show dR (zs.drop 4) = V by rw [← hV, decR, if_pos hs])
    clear hV hs
    obtain ⟨ga, oa, rfl, hga, _⟩ := HI0.out.1.2 (by omega)
    have hc4 : ¬ c = 4 := by have := HI.out.2.1; omega
    have HGA := hid (show ga < R by omega)
    have HR4 : Hid (Rd w1 (some ⟨ga, oa + 4, none⟩) 124 ((zs.drop 4).map (Value.int .u8))) := hid (by
      have := HI.out.1.cut (k := 4) (c := c) (by omega) HI.out.2.1
      unfold cutA at this
      rw [if_neg hc4] at this
      simpa [add_off, List.map_drop] using this)
    have HU8 := hid (show ∀ x ∈ zs.drop 4, 0 ≤ x ∧ x ≤ 255 from fun x hx => HI.out.2.2.2 x (List.mem_of_mem_drop hx))
    have HCC := hid HI.out.2
    have HD4 := hid (show (zs.drop 4).length = 124 by rw [List.length_drop, HLEN.out])
    obtain ⟨X, hX⟩ : ∃ X, zs.drop 4 = X := ⟨_, rfl⟩
    rw [hX] at HR4 HU8 HVD HD4
    clear hX hga
    have hc4l : (4 : Int) ≤ (128 : Nat) := by decide
    go_enter Tryd.func31, Tryd.ntmps31
    go_upto_region 1 with fail
    rw [show w.alloc (Obj.cells #[Value.int IntKind.i64 0, Value.int IntKind.i64 0, Value.bool false, Value.int IntKind.i64 0, Value.slice none 0 0] 48) = w1 from HW1.out]
    try rw [hR]
    go_upto_region 3 with (go_at_call 62; refine (CrcF.refCheck_any _ _ _ zs _ HI.out).mono ?_; rintro e' w2 ⟨rfl, f2⟩; rw [HC.out]; replace FW := hid (FW.out.trans f2); replace HQ := Blk.fr HQ f2 (fun h => h); replace HR4 := hid (HR4.out.fr f2 (fun _ _ _ h => h)); clear f2)
    obtain ⟨g, hg⟩ : ∃ g, w2.heap.size = g := ⟨_, rfl⟩
    have HGR := hid (show R < g by have := Blk.lt HQ; omega)
    have HY := YdO.new (U := fun k => k = g ∨ k = ga) (g := g) (c := c - 4) (xs := X) (A := some ⟨ga, oa + 4, none⟩) (w := w2.alloc (.cells #[.slice (some ⟨ga, oa + 4, none⟩) 124 (c - 4), .bool false] 108)) (by rw [HD4.out, ← hg]; exact Blk.new w2 _ _) (by rw [HD4.out]; exact HR4.out.fr ((Fr.refl No w2).alloc _) (fun _ _ _ h => h)) (by have := HCC.out.1; have := HD4.out; omega) HU8.out (by have := HD4.out; omega) (fun a h => by cases h; exact ⟨by have := HGA.out; have := HGR.out; simp only []; omega, .inr rfl⟩) (.inl rfl)
    replace FW := hid (FW.out.alloc (.cells #[.slice (some ⟨ga, oa + 4, none⟩) 124 (c - 4), .bool false] 108))
    replace HQ := Blk.alloc HQ (.cells #[.slice (some ⟨ga, oa + 4, none⟩) 124 (c - 4), .bool false] 108)
    have HUlt := hid (show ∀ k, (k = g ∨ k = ga) → k < g + 1 ∧ k ≠ R from fun k h => by have := HGA.out; have := HGR.out; omega)
    have HSZ := hid (show g < (w2.alloc (.cells #[.slice (some ⟨ga, oa + 4, none⟩) 124 (c - 4), .bool false] 108)).heap.size by simp; omega)
    go_upto_region 4 with fail
    try rw [hg]
    generalize w2.alloc (Obj.cells #[Value.slice (some ⟨ga, oa + 4, none⟩) 124 (c - 4), Value.bool false] 108) = w3 at HY FW HQ HSZ ⊢
    clear HR4 HI HI0 hg
    have hmk := mark_eq (ys := X.take 2) (fun x hx => HU8.out x (List.mem_of_mem_take hx))
    by_cases hm : X.take 2 = [74, 82]
    · rw [decide_eq_true hm] at hmk
      have HVM := HVD.out
      rw [dR, if_pos (show marked X from hm)] at HVM
      dsimp only at HVM
      obtain ⟨⟨hh, s4⟩, hhd⟩ : ∃ v, hd (some (X.drop 2)) = v := ⟨_, rfl⟩
      rw [hhd] at HVM
      have HHD := hid hhd
      have HNN := hid (hd_n (some (X.drop 2)))
      rw [hhd] at HNN
      have HVN := hid HVM
      clear HVD hm hhd HVM
      go_upto_region 6 with (go_at_call 63; refine (bytes_yd g 2 _ X _ (by have := HD4.out; omega) HY).mono ?_; rintro e' w4 ⟨A4, c4, rfl, hr4, HY, f4⟩; have hcv := run_str (P := Tryd.prog) w4 26 9 5 Tryd.underlying26 Tryd.underlying5 Tryd.underlying9 A4 2 c4 (X.take 2) (by simpa [List.map_take] using hr4); replace HSZ := hid (Nat.lt_of_lt_of_le HSZ.out f4.size); replace FW := hid (FW.out.step f4 (fun i hi h => by have := HGR.out; omega)); replace HQ := Blk.fr HQ f4 (fun h => by have := HGR.out; omega); clear f4 hr4)
      obtain ⟨⟨v0, s0⟩, h0⟩ : ∃ v, gi 1 0 1 (some (X.drop 2)) = v := ⟨_, rfl⟩
      obtain ⟨b, hb⟩ : ∃ b, (v0 == 1) = b := ⟨_, rfl⟩
      go_upto_region 7 with (go_at_call 65; refine (int_yd g 1 0 1 _ (some (X.drop 2)) _ (by decide) HY).mono ?_; rintro e' w5 ⟨rfl, HY, f⟩; rw [h0] at HY ⊢; dsimp only at HY; replace HSZ := hid (Nat.lt_of_lt_of_le HSZ.out f.size); replace FW := hid (FW.out.step f (fun i hi h => by have := HGR.out; omega)); replace HQ := Blk.fr HQ f (fun h => by have := HGR.out; omega); clear f; dsimp only)
      obtain ⟨D, hD⟩ : ∃ D, w5.heap.size = D := ⟨_, rfl⟩
      have HB : Blk (w5.alloc (rx 0 0 b 0 none 0 0)) D 48 #[.int .i64 0, .int .i64 0, .bool b, .int .i64 0, .slice none 0 0] := by rw [← hD]; exact Blk.new w5 _ _
      replace HY := HY.fr (S := No) ((Fr.refl No w5).alloc (rx 0 0 b 0 none 0 0)) (fun _ _ h => h)
      replace FW := hid (FW.out.alloc (rx 0 0 b 0 none 0 0))
      replace HQ := Blk.alloc HQ (rx 0 0 b 0 none 0 0)
      have HGD := hid (show g < D by have := HSZ.out; omega)
      have HUD := hid (show ¬ (D = g ∨ D = ga) by have := HGA.out; have := HGR.out; have := HGD.out; omega)
      replace HSZ := hid (show g < (w5.alloc (rx 0 0 b 0 none 0 0)).heap.size by have := HSZ.out; simp; omega)
      try rw [hD]
      generalize w5.alloc (Obj.cells #[Value.int IntKind.i64 0, Value.int IntKind.i64 0, Value.bool b, Value.int IntKind.i64 0, Value.slice none 0 0] 48) = w6 at HY FW HQ HB HSZ ⊢
      clear hD
      obtain ⟨⟨v1, s1⟩, h1⟩ : ∃ v, gi 1 0 6 s0 = v := ⟨_, rfl⟩
      go_upto_region 8 with (go_at_call 65; refine (int_yd g 1 0 6 _ s0 _ (by decide) HY).mono ?_; rintro e' w5 ⟨rfl, HY, f⟩; rw [h1] at HY ⊢; dsimp only at HY; replace HSZ := hid (Nat.lt_of_lt_of_le HSZ.out f.size); replace FW := hid (FW.out.step f (fun i hi h => by have := HGR.out; omega)); replace HQ := Blk.fr HQ f (fun h => by have := HGR.out; omega); replace HB := Blk.fr HB f (fun h => by have := HGD.out; omega); clear f; dsimp only)
      obtain ⟨⟨v2, s2⟩, h2⟩ : ∃ v, gi 4 1 2147483648 s1 = v := ⟨_, rfl⟩
      go_upto_region 9 with (go_at_call 65; refine (int_yd g 4 1 2147483648 _ s1 _ (by decide) HY).mono ?_; rintro e' w5 ⟨rfl, HY, f⟩; rw [h2] at HY ⊢; dsimp only at HY; replace HSZ := hid (Nat.lt_of_lt_of_le HSZ.out f.size); replace FW := hid (FW.out.step f (fun i hi h => by have := HGR.out; omega)); replace HQ := Blk.fr HQ f (fun h => by have := HGR.out; omega); replace HB := Blk.fr HB f (fun h => by have := HGD.out; omega); obtain ⟨⟨c0, z0⟩, ⟨c1, z1⟩, ⟨c2, z2⟩, ⟨c3, z3⟩, ⟨c4q, z4⟩⟩ := r5 HB; clear f; dsimp only)
      clear c0 c1 c2 c3 c4q z0 z1 z2 z3 z4
      replace HY := YdO.ap HY D 0 (.int .i64 v2) HUD.out
      replace HB := show Blk _ D 48 #[.int .i64 v2, .int .i64 0, .bool b, .int .i64 0, .slice none 0 0] from Blk.set_ HB 0 (.int .i64 v2)
      replace HSZ := hid (show g < (World.setCell _ ⟨D, 0, none⟩ (.int .i64 v2)).heap.size from Nat.lt_of_lt_of_le HSZ.out (Fr.set1 _ D 0 (.int .i64 v2)).size)
      replace HQ := Blk.far HQ (p := ⟨D, 0, none⟩) (fun h => by simp only [] at h; have := HGD.out; have := HGR.out; omega) (.int .i64 v2)
      replace FW := hid (FW.out.setCell (p := ⟨D, 0, none⟩) (fun h => absurd h (by simp only []; have := HGD.out; have := HGR.out; omega)) (.int .i64 v2))
      generalize World.setCell _ ⟨D, 0, none⟩ (.int .i64 v2) = w5 at HY HB HQ FW HSZ ⊢
      obtain ⟨⟨v3, s3⟩, h3⟩ : ∃ v, gi 8 0 1099511627776 s2 = v := ⟨_, rfl⟩
      go_upto_region 10 with (go_at_call 65; refine (int_yd g 8 0 1099511627776 _ s2 _ (by decide) HY).mono ?_; rintro e' w5 ⟨rfl, HY, f⟩; rw [h3] at HY ⊢; dsimp only at HY; replace HSZ := hid (Nat.lt_of_lt_of_le HSZ.out f.size); replace FW := hid (FW.out.step f (fun i hi h => by have := HGR.out; omega)); replace HQ := Blk.fr HQ f (fun h => by have := HGR.out; omega); replace HB := Blk.fr HB f (fun h => by have := HGD.out; omega); obtain ⟨⟨c0, z0⟩, ⟨c1, z1⟩, ⟨c2, z2⟩, ⟨c3, z3⟩, ⟨c4q, z4⟩⟩ := r5 HB; clear f; dsimp only)
      clear c0 c1 c2 c3 c4q z0 z1 z2 z3 z4
      replace HY := YdO.ap HY D 1 (.int .i64 v3) HUD.out
      replace HB := show Blk _ D 48 #[.int .i64 v2, .int .i64 v3, .bool b, .int .i64 0, .slice none 0 0] from Blk.set_ HB 1 (.int .i64 v3)
      replace HSZ := hid (show g < (World.setCell _ ⟨D, 1, none⟩ (.int .i64 v3)).heap.size from Nat.lt_of_lt_of_le HSZ.out (Fr.set1 _ D 1 (.int .i64 v3)).size)
      replace HQ := Blk.far HQ (p := ⟨D, 1, none⟩) (fun h => by simp only [] at h; have := HGD.out; have := HGR.out; omega) (.int .i64 v3)
      replace FW := hid (FW.out.setCell (p := ⟨D, 1, none⟩) (fun h => absurd h (by simp only []; have := HGD.out; have := HGR.out; omega)) (.int .i64 v3))
      generalize World.setCell _ ⟨D, 1, none⟩ (.int .i64 v3) = w5 at HY HB HQ FW HSZ ⊢
      obtain ⟨⟨v4, s9⟩, h4⟩ : ∃ v, gi 8 0 1099511627776 s3 = v := ⟨_, rfl⟩
      go_upto_region 11 with (go_at_call 65; refine (int_yd g 8 0 1099511627776 _ s3 _ (by decide) HY).mono ?_; rintro e' w5 ⟨rfl, HY, f⟩; rw [h4] at HY ⊢; dsimp only at HY; replace HSZ := hid (Nat.lt_of_lt_of_le HSZ.out f.size); replace FW := hid (FW.out.step f (fun i hi h => by have := HGR.out; omega)); replace HQ := Blk.fr HQ f (fun h => by have := HGR.out; omega); replace HB := Blk.fr HB f (fun h => by have := HGD.out; omega); obtain ⟨⟨c0, z0⟩, ⟨c1, z1⟩, ⟨c2, z2⟩, ⟨c3, z3⟩, ⟨c4q, z4⟩⟩ := r5 HB; clear f; dsimp only)
      clear c0 c1 c2 c3 c4q z0 z1 z2 z3 z4
      replace HY := YdO.ap HY D 3 (.int .i64 v4) HUD.out
      replace HB := show Blk _ D 48 #[.int .i64 v2, .int .i64 v3, .bool b, .int .i64 v4, .slice none 0 0] from Blk.set_ HB 3 (.int .i64 v4)
      replace HSZ := hid (show g < (World.setCell _ ⟨D, 3, none⟩ (.int .i64 v4)).heap.size from Nat.lt_of_lt_of_le HSZ.out (Fr.set1 _ D 3 (.int .i64 v4)).size)
      replace HQ := Blk.far HQ (p := ⟨D, 3, none⟩) (fun h => by simp only [] at h; have := HGD.out; have := HGR.out; omega) (.int .i64 v4)
      replace FW := hid (FW.out.setCell (p := ⟨D, 3, none⟩) (fun h => absurd h (by simp only []; have := HGD.out; have := HGR.out; omega)) (.int .i64 v4))
      generalize World.setCell _ ⟨D, 3, none⟩ (.int .i64 v4) = w5 at HY HB HQ FW HSZ ⊢
      obtain ⟨rfl, rfl⟩ : hh = ⟨v0, v1, v2, v3, v4⟩ ∧ s4 = s9 := by have := HHD.out; simp only [hd, h0, h1, h2, h3, h4, Prod.mk.injEq] at this; exact ⟨this.1.symm, this.2.symm⟩
      dsimp only at HVN HNN
      obtain ⟨N, hN⟩ : ∃ N : Nat, v1 = N := ⟨v1.toNat, by have := HNN.out; omega⟩
      subst hN
      rw [Int.toNat_natCast] at HVN
      have hb2 : decide (v0 = 1) = b := by rw [← hb, Bool.eq_iff_iff, decide_eq_true_iff, beq_iff_eq]
      rw [hb2] at HVN
      have HN6 := hid (show N ≤ 6 by have := HNN.out; omega)
      clear hb hb2 HNN HHD hcv hmk h0 h1 h2 h3 h4
      go_wp2_with fail
      go_loopw [7] (fun i wr => ∃ k : Nat, k ≤ N ∧ i = .int .i64 k ∧ ∃ ds0 sk, Hid (ds0.length = k ∧ rDs N s4 = (rDs (N - k) sk).map fun p => (ds0 ++ p.1, p.2)) ∧ YdO wr (fun k => k = g ∨ k = ga) g sk ∧ Blk wr R 48 #[.int .i64 0, .int .i64 0, .bool false, .int .i64 0, .slice none 0 0] ∧ (∃ A c, Blk wr D 48 #[.int .i64 v2, .int .i64 v3, .bool b, .int .i64 v4, .slice A k c] ∧ DOut (D + 1) wr (.slice A k c) ds0) ∧ Fr No w wr) (fun i _ => N - (intOf i).toNat)
      case atStart => exact ⟨0, by omega, rfl, [], s4, hid ⟨rfl, by simp⟩, HY, HQ, ⟨none, 0, HB, DOut.nil _ _⟩, FW.out⟩
      case round =>
        clear HY HQ HB FW HSZ
        obtain ⟨k, hk, rfl, ds0, sk, HI, HY, HQ, ⟨A, c9, HB, HD⟩, hf⟩ := hrel
        have FW := hid hf
        clear hf
        have hDlt := Blk.lt HB
        have HSZ := hid (show g < wr.heap.size by have := HGD.out; omega)
        clear hDlt
        by_cases hlt : k < N
        · have hlt3 : (k : Int) < (N : Int) := by omega
          have h0k : (0 : Int) ≤ k := by omega
          have HLT := hid hlt
          have HDL := hid HI.out.1
          have HINV := hid HI.out.2
          have HDD := hid HD
          clear HI HD hlt
          obtain ⟨⟨x0, y0⟩, g0⟩ : ∃ v, gt 1 sk = v := ⟨_, rfl⟩
          go_upto_region 15 with (go_at_call 64; refine (get_yd g 1 _ sk _ (by decide) HY).mono ?_; rintro e' w5 ⟨rfl, HY, f⟩; rw [g0] at HY ⊢; dsimp only at HY; replace HSZ := hid (Nat.lt_of_lt_of_le HSZ.out f.size); replace HDD := hid (HDD.out.fr f (fun q hq e => by have := (own_ge HDD.out q hq).1; have := HGD.out; omega)); replace FW := hid (FW.out.step f (fun i hi h => by have := HGR.out; omega)); replace HQ := Blk.fr HQ f (fun h => by have := HGR.out; omega); replace HB := Blk.fr HB f (fun h => by have := HGD.out; omega); clear f; dsimp only)
          obtain ⟨T, hT⟩ : ∃ T, w5.heap.size = T := ⟨_, rfl⟩
          have HTb : Blk (w5.alloc (dx (wrap64 x0) 0 0 0 0)) T 58 #[.int .i64 (wrap64 x0), .int .i64 0, .int .i64 0, .int .i64 0, .int .i64 0] := by rw [← hT]; exact Blk.new w5 _ _
          have HGT := hid (show g < T ∧ D < T ∧ ∀ q, (Value.slice A k c9).ownBlock = some q → q ≠ T from ⟨by have := HSZ.out; omega, by have := Blk.lt HB; omega, fun q hq => by have := (own_ge HDD.out q hq).2; omega⟩)
          have HUT := hid (show ¬ (T = g ∨ T = ga) by have := HGA.out; have := HGR.out; have := HGT.out.1; omega)
          replace HY := HY.fr (S := No) ((Fr.refl No w5).alloc (dx (wrap64 x0) 0 0 0 0)) (fun _ _ h => h)
          replace HDD := hid (HDD.out.fr (S := No) ((Fr.refl No w5).alloc (dx (wrap64 x0) 0 0 0 0)) (fun _ _ h => h))
          replace FW := hid (FW.out.alloc (dx (wrap64 x0) 0 0 0 0))
          replace HQ := Blk.alloc HQ (dx (wrap64 x0) 0 0 0 0)
          replace HB := Blk.alloc HB (dx (wrap64 x0) 0 0 0 0)
          replace HSZ := hid (show g < (w5.alloc (dx (wrap64 x0) 0 0 0 0)).heap.size by have := HSZ.out; simp; omega)
          try rw [hT]
          generalize w5.alloc (Obj.cells #[Value.int IntKind.i64 (wrap64 x0), Value.int IntKind.i64 0, Value.int IntKind.i64 0, Value.int IntKind.i64 0, Value.int IntKind.i64 0] 58) = w6 at HY FW HQ HB HSZ HTb HDD ⊢
          clear hT
          obtain ⟨⟨x1, y1⟩, g1⟩ : ∃ v, gt 1 y0 = v := ⟨_, rfl⟩
          go_upto_region 16 with (go_at_call 64; refine (get_yd g 1 _ y0 _ (by decide) HY).mono ?_; rintro e' w5 ⟨rfl, HY, f⟩; rw [g1] at HY ⊢; dsimp only at HY; replace HSZ := hid (Nat.lt_of_lt_of_le HSZ.out f.size); replace HDD := hid (HDD.out.fr f (fun q hq e => by have := (own_ge HDD.out q hq).1; have := HGD.out; omega)); replace FW := hid (FW.out.step f (fun i hi h => by have := HGR.out; omega)); replace HQ := Blk.fr HQ f (fun h => by have := HGR.out; omega); replace HB := Blk.fr HB f (fun h => by have := HGD.out; omega); replace HTb := Blk.fr HTb f (fun h => by have := HGT.out.1; omega); obtain ⟨⟨d0, z0⟩, ⟨d1, z1⟩, ⟨d2, z2⟩, ⟨d3, z3⟩, ⟨d4, z4⟩⟩ := d5 HTb; clear f; dsimp only)
          clear d0 d1 d2 d3 d4 z0 z1 z2 z3 z4
          replace HY := YdO.ap HY T 3 (.int .i64 (wrap64 x1)) HUT.out
          replace HDD := hid (HDD.out.fr (Fr.set1 _ T 3 (.int .i64 (wrap64 x1))) (fun q hq e => HGT.out.2.2 q hq e))
          replace HTb := show Blk _ T 58 #[.int .i64 (wrap64 x0), .int .i64 0, .int .i64 0, .int .i64 (wrap64 x1), .int .i64 0] from Blk.set_ HTb 3 (.int .i64 (wrap64 x1))
          replace HSZ := hid (show g < (World.setCell _ ⟨T, 3, none⟩ (.int .i64 (wrap64 x1))).heap.size from Nat.lt_of_lt_of_le HSZ.out (Fr.set1 _ T 3 (.int .i64 (wrap64 x1))).size)
          replace HQ := Blk.far HQ (p := ⟨T, 3, none⟩) (fun h => by simp only [] at h; have := HGT.out.1; have := HGR.out; omega) (.int .i64 (wrap64 x1))
          replace HB := Blk.far HB (p := ⟨T, 3, none⟩) (fun h => by simp only [] at h; have := HGT.out.2.1; omega) (.int .i64 (wrap64 x1))
          replace FW := hid (FW.out.setCell (p := ⟨T, 3, none⟩) (fun h => absurd h (by simp only []; have := HGT.out.1; have := HGR.out; omega)) (.int .i64 (wrap64 x1)))
          generalize World.setCell _ ⟨T, 3, none⟩ (.int .i64 (wrap64 x1)) = w5 at HY HB HQ FW HSZ HTb HDD ⊢
          obtain ⟨⟨x2, y2⟩, g2⟩ : ∃ v, gt 2 y1 = v := ⟨_, rfl⟩
          go_upto_region 17 with (go_at_call 64; refine (get_yd g 2 _ y1 _ (by decide) HY).mono ?_; rintro e' w5 ⟨rfl, HY, f⟩; rw [g2] at HY ⊢; dsimp only at HY; replace HSZ := hid (Nat.lt_of_lt_of_le HSZ.out f.size); replace HDD := hid (HDD.out.fr f (fun q hq e => by have := (own_ge HDD.out q hq).1; have := HGD.out; omega)); replace FW := hid (FW.out.step f (fun i hi h => by have := HGR.out; omega)); replace HQ := Blk.fr HQ f (fun h => by have := HGR.out; omega); replace HB := Blk.fr HB f (fun h => by have := HGD.out; omega); replace HTb := Blk.fr HTb f (fun h => by have := HGT.out.1; omega); obtain ⟨⟨d0, z0⟩, ⟨d1, z1⟩, ⟨d2, z2⟩, ⟨d3, z3⟩, ⟨d4, z4⟩⟩ := d5 HTb; clear f; dsimp only)
          clear d0 d1 d2 d3 d4 z0 z1 z2 z3 z4
          replace HY := YdO.ap HY T 2 (.int .i64 (wrap64 x2)) HUT.out
          replace HDD := hid (HDD.out.fr (Fr.set1 _ T 2 (.int .i64 (wrap64 x2))) (fun q hq e => HGT.out.2.2 q hq e))
          replace HTb := show Blk _ T 58 #[.int .i64 (wrap64 x0), .int .i64 0, .int .i64 (wrap64 x2), .int .i64 (wrap64 x1), .int .i64 0] from Blk.set_ HTb 2 (.int .i64 (wrap64 x2))
          replace HSZ := hid (show g < (World.setCell _ ⟨T, 2, none⟩ (.int .i64 (wrap64 x2))).heap.size from Nat.lt_of_lt_of_le HSZ.out (Fr.set1 _ T 2 (.int .i64 (wrap64 x2))).size)
          replace HQ := Blk.far HQ (p := ⟨T, 2, none⟩) (fun h => by simp only [] at h; have := HGT.out.1; have := HGR.out; omega) (.int .i64 (wrap64 x2))
          replace HB := Blk.far HB (p := ⟨T, 2, none⟩) (fun h => by simp only [] at h; have := HGT.out.2.1; omega) (.int .i64 (wrap64 x2))
          replace FW := hid (FW.out.setCell (p := ⟨T, 2, none⟩) (fun h => absurd h (by simp only []; have := HGT.out.1; have := HGR.out; omega)) (.int .i64 (wrap64 x2)))
          generalize World.setCell _ ⟨T, 2, none⟩ (.int .i64 (wrap64 x2)) = w5 at HY HB HQ FW HSZ HTb HDD ⊢
          obtain ⟨⟨x3, y3⟩, g3⟩ : ∃ v, gt 4 y2 = v := ⟨_, rfl⟩
          go_upto_region 18 with (go_at_call 64; refine (get_yd g 4 _ y2 _ (by decide) HY).mono ?_; rintro e' w5 ⟨rfl, HY, f⟩; rw [g3] at HY ⊢; dsimp only at HY; replace HSZ := hid (Nat.lt_of_lt_of_le HSZ.out f.size); replace HDD := hid (HDD.out.fr f (fun q hq e => by have := (own_ge HDD.out q hq).1; have := HGD.out; omega)); replace FW := hid (FW.out.step f (fun i hi h => by have := HGR.out; omega)); replace HQ := Blk.fr HQ f (fun h => by have := HGR.out; omega); replace HB := Blk.fr HB f (fun h => by have := HGD.out; omega); replace HTb := Blk.fr HTb f (fun h => by have := HGT.out.1; omega); obtain ⟨⟨d0, z0⟩, ⟨d1, z1⟩, ⟨d2, z2⟩, ⟨d3, z3⟩, ⟨d4, z4⟩⟩ := d5 HTb; clear f; dsimp only)
          clear d0 d1 d2 d3 d4 z0 z1 z2 z3 z4
          replace HY := YdO.ap HY T 1 (.int .i64 (wrap64 x3)) HUT.out
          replace HDD := hid (HDD.out.fr (Fr.set1 _ T 1 (.int .i64 (wrap64 x3))) (fun q hq e => HGT.out.2.2 q hq e))
          replace HTb := show Blk _ T 58 #[.int .i64 (wrap64 x0), .int .i64 (wrap64 x3), .int .i64 (wrap64 x2), .int .i64 (wrap64 x1), .int .i64 0] from Blk.set_ HTb 1 (.int .i64 (wrap64 x3))
          replace HSZ := hid (show g < (World.setCell _ ⟨T, 1, none⟩ (.int .i64 (wrap64 x3))).heap.size from Nat.lt_of_lt_of_le HSZ.out (Fr.set1 _ T 1 (.int .i64 (wrap64 x3))).size)
          replace HQ := Blk.far HQ (p := ⟨T, 1, none⟩) (fun h => by simp only [] at h; have := HGT.out.1; have := HGR.out; omega) (.int .i64 (wrap64 x3))
          replace HB := Blk.far HB (p := ⟨T, 1, none⟩) (fun h => by simp only [] at h; have := HGT.out.2.1; omega) (.int .i64 (wrap64 x3))
          replace FW := hid (FW.out.setCell (p := ⟨T, 1, none⟩) (fun h => absurd h (by simp only []; have := HGT.out.1; have := HGR.out; omega)) (.int .i64 (wrap64 x3)))
          generalize World.setCell _ ⟨T, 1, none⟩ (.int .i64 (wrap64 x3)) = w5 at HY HB HQ FW HSZ HTb HDD ⊢
          obtain ⟨⟨x4, y4⟩, g4⟩ : ∃ v, gt 4 y3 = v := ⟨_, rfl⟩
          go_upto_region 19 with (go_at_call 64; refine (get_yd g 4 _ y3 _ (by decide) HY).mono ?_; rintro e' w5 ⟨rfl, HY, f⟩; rw [g4] at HY ⊢; dsimp only at HY; replace HSZ := hid (Nat.lt_of_lt_of_le HSZ.out f.size); replace HDD := hid (HDD.out.fr f (fun q hq e => by have := (own_ge HDD.out q hq).1; have := HGD.out; omega)); replace FW := hid (FW.out.step f (fun i hi h => by have := HGR.out; omega)); replace HQ := Blk.fr HQ f (fun h => by have := HGR.out; omega); replace HB := Blk.fr HB f (fun h => by have := HGD.out; omega); replace HTb := Blk.fr HTb f (fun h => by have := HGT.out.1; omega); obtain ⟨⟨d0, z0⟩, ⟨d1, z1⟩, ⟨d2, z2⟩, ⟨d3, z3⟩, ⟨d4, z4⟩⟩ := d5 HTb; clear f; dsimp only)
          clear d0 d1 d2 d3 d4 z0 z1 z2 z3 z4
          replace HY := YdO.ap HY T 4 (.int .i64 (wrap64 x4)) HUT.out
          replace HDD := hid (HDD.out.fr (Fr.set1 _ T 4 (.int .i64 (wrap64 x4))) (fun q hq e => HGT.out.2.2 q hq e))
          replace HTb := show Blk _ T 58 #[.int .i64 (wrap64 x0), .int .i64 (wrap64 x3), .int .i64 (wrap64 x2), .int .i64 (wrap64 x1), .int .i64 (wrap64 x4)] from Blk.set_ HTb 4 (.int .i64 (wrap64 x4))
          replace HSZ := hid (show g < (World.setCell _ ⟨T, 4, none⟩ (.int .i64 (wrap64 x4))).heap.size from Nat.lt_of_lt_of_le HSZ.out (Fr.set1 _ T 4 (.int .i64 (wrap64 x4))).size)
          replace HQ := Blk.far HQ (p := ⟨T, 4, none⟩) (fun h => by simp only [] at h; have := HGT.out.1; have := HGR.out; omega) (.int .i64 (wrap64 x4))
          replace HB := Blk.far HB (p := ⟨T, 4, none⟩) (fun h => by simp only [] at h; have := HGT.out.2.1; omega) (.int .i64 (wrap64 x4))
          replace FW := hid (FW.out.setCell (p := ⟨T, 4, none⟩) (fun h => absurd h (by simp only []; have := HGT.out.1; have := HGR.out; omega)) (.int .i64 (wrap64 x4)))
          generalize World.setCell _ ⟨T, 4, none⟩ (.int .i64 (wrap64 x4)) = w5 at HY HB HQ FW HSZ HTb HDD ⊢
          obtain ⟨⟨x5, y5⟩, g5⟩ : ∃ v, gt 4 y4 = v := ⟨_, rfl⟩
          have HRD : Hid (rD sk = (⟨wrap64 x0, wrap64 x3, wrap64 x2, wrap64 x1, wrap64 x4⟩, x5, y5)) := hid (by simp only [rD, g0, g1, g2, g3, g4, g5])
          by_cases hq : x5 = 0
          · subst hq
            go_wp2_with (first | (go_at_call 64; refine (get_yd g 4 _ y4 _ (by decide) HY).mono ?_; rintro e' w5 ⟨rfl, HY, f⟩; rw [g5] at HY ⊢; dsimp only at HY; replace HSZ := hid (Nat.lt_of_lt_of_le HSZ.out f.size); replace HDD := hid (HDD.out.fr f (fun q hq e => by have := (own_ge HDD.out q hq).1; have := HGD.out; omega)); replace FW := hid (FW.out.step f (fun i hi h => by have := HGR.out; omega)); replace HQ := Blk.fr HQ f (fun h => by have := HGR.out; omega); replace HB := Blk.fr HB f (fun h => by have := HGD.out; omega); replace HTb := Blk.fr HTb f (fun h => by have := HGT.out.1; omega); obtain ⟨⟨d0, z0⟩, ⟨d1, z1⟩, ⟨d2, z2⟩, ⟨d3, z3⟩, ⟨d4, z4⟩⟩ := d5 HTb; obtain ⟨⟨c0, _⟩, ⟨c1, _⟩, ⟨c2, _⟩, ⟨c3, _⟩, ⟨c4q, z4q⟩⟩ := r5 HB; clear f; dsimp only) | (refine app_d rfl (.tmp 67) (.tmp 69) rfl (D + 1) (.slice A k c9) ds0 (by simp [Act.eval, Act.put]) (HDD.out.fr (S := No) ((Fr.refl No w5).alloc (dx (wrap64 x0) (wrap64 x3) (wrap64 x2) (wrap64 x1) (wrap64 x4))) (fun _ _ h => h)) (some ⟨w5.heap.size, 0, none⟩) 1 1 [⟨wrap64 x0, wrap64 x3, wrap64 x2, wrap64 x1, wrap64 x4⟩] (by simp [Act.eval, Act.put]) (lit_d w5 _) (by have := HDL.out; have := HN6.out; have := HLT.out; omega) (by have := Blk.lt HB; simp; omega) ?_; intro A5 k5 w7 hown7 hf7; have hb7 := Blk.fr (Blk.alloc HB (dx (wrap64 x0) (wrap64 x3) (wrap64 x2) (wrap64 x1) (wrap64 x4))) hf7 (fun h => by have := (own_ge HDD.out _ h).1; omega); obtain ⟨_, _, _, _, ⟨e4, u4⟩⟩ := r5 hb7; have HB7 := hid hb7; have HO7 := hid hown7; have HF7 := hid hf7; clear hown7 hf7 hb7))
            obtain ⟨W8, hW8⟩ : ∃ W8, w7.setCell ⟨D, 4, none⟩ (.slice A5 (ds0.length + 1) k5) = W8 := ⟨_, rfl⟩
            have HY8 : YdO W8 (fun k => k = g ∨ k = ga) g y5 := by rw [← hW8]; exact YdO.ap ((HY.fr (S := No) ((Fr.refl No w5).alloc (dx (wrap64 x0) (wrap64 x3) (wrap64 x2) (wrap64 x1) (wrap64 x4))) (fun _ _ h => h)).fr HF7.out (fun q hq h => by have := (own_ge HDD.out q h).1; have := HGA.out; have := HGR.out; have := HGD.out; omega)) D 4 _ HUD.out
            have HQ8 : Blk W8 R 48 #[.int .i64 0, .int .i64 0, .bool false, .int .i64 0, .slice none 0 0] := by rw [← hW8]; exact Blk.far (Blk.fr (Blk.alloc HQ (dx (wrap64 x0) (wrap64 x3) (wrap64 x2) (wrap64 x1) (wrap64 x4))) HF7.out (fun h => by have := (own_ge HDD.out _ h).1; have := HGR.out; have := HGD.out; omega)) (p := ⟨D, 4, none⟩) (fun h => by simp only [] at h; have := HGD.out; have := HGR.out; omega) _
            have HB8 : Blk W8 D 48 #[.int .i64 v2, .int .i64 v3, .bool b, .int .i64 v4, .slice A5 (ds0.length + 1) k5] := by rw [← hW8]; exact HB7.out.set_ 4 _
            have HO8 : DOut (D + 1) W8 (.slice A5 (ds0.length + 1) k5) (ds0 ++ [⟨wrap64 x0, wrap64 x3, wrap64 x2, wrap64 x1, wrap64 x4⟩]) := by rw [← hW8]; exact HO7.out.fr (Fr.set1 w7 D 4 _) (fun q hq h => by have := (own_ge HO7.out q hq).1; omega)
            have HF8 : Fr No w W8 := by rw [← hW8]; exact ((FW.out.alloc (dx (wrap64 x0) (wrap64 x3) (wrap64 x2) (wrap64 x1) (wrap64 x4))).step HF7.out (fun i hi h => by have := (own_ge HDD.out i h).1; have := HGD.out; have := HGR.out; omega)).setCell (p := ⟨D, 4, none⟩) (fun h => by simp only [] at h; have := HGD.out; have := HGR.out; omega) _
            have HDL2 := HDL.out
            have hN6 := HN6.out
            have hLT := HLT.out
            subst HDL2
            rw [hW8]
            clear hW8
            go_wp2
            go_roundw
            case rel => exact ⟨ds0.length + 1, by omega, next_v _ N hLT hN6, ds0 ++ [⟨wrap64 x0, wrap64 x3, wrap64 x2, wrap64 x1, wrap64 x4⟩], y5, hid ⟨len_snoc _ _, inv_go HLT.out HINV.out HRD.out⟩, HY8, HQ8, ⟨A5, k5, HB8, HO8⟩, HF8⟩
            case measure => exact next_m _ N hLT hN6
          · have hqb : (x5 == 0) = false := by simpa using hq
            obtain rfl : V = none := by rw [← HVN.out, inv_no HLT.out HINV.out HRD.out hq]
            clear hq
            go_wp2_with (first | (go_at_call 64; refine (get_yd g 4 _ y4 _ (by decide) HY).mono ?_; rintro e' w5 ⟨rfl, HY, f⟩; rw [g5] at HY ⊢; dsimp only at HY; replace HSZ := hid (Nat.lt_of_lt_of_le HSZ.out f.size); replace HDD := hid (HDD.out.fr f (fun q hq e => by have := (own_ge HDD.out q hq).1; have := HGD.out; omega)); replace FW := hid (FW.out.step f (fun i hi h => by have := HGR.out; omega)); replace HQ := Blk.fr HQ f (fun h => by have := HGR.out; omega); replace HB := Blk.fr HB f (fun h => by have := HGD.out; omega); clear f; dsimp only) | (refine st_5 info5r rfl (.tmp 2) (.tmp 65) rfl R rfl rfl (by simp [Value.oneCell']) HQ rfl ?_; intro w9 HQ9 f9; have HF9 := hid (FW.out.step f9 (fun i hi e => absurd hi (by omega))); clear f9))
            exact bodyPost_ret (v := .tuple #[rv 0 0 false 0 none 0 0, .bool false]) (resR rfl _ _ R 0 0 false 0 none 0 0 (.bool false) rfl rfl HQ9) rfl ⟨rfl, HF9.out⟩
        · obtain rfl : k = N := by omega
          have HDL := hid HI.out.1
          have HE : Hid (rDs k s4 = some (ds0, sk)) := hid (by rw [HI.out.2, Nat.sub_self]; simp [rDs])
          clear HI
          have HVE := HVN.out
          rw [HE.out] at HVE
          dsimp only at HVE
          have HVE := hid HVE
          clear HVN
          have hkN : ¬ (k : Int) < (k : Int) := by omega
          obtain ⟨bd, hbd⟩ : ∃ b, dy sk = b := ⟨_, rfl⟩
          rw [hbd] at HVE
          have HBD := hid hbd
          clear hbd
          cases bd with
          | false =>
            obtain rfl : V = none := by rw [← HVE.out]; simp
            clear HVE
            go_wp2_with (first | (go_at_call 66; refine (done_yd g _ sk _ HY).mono ?_; rintro e' w5 ⟨rfl, rfl⟩; rw [HBD.out]) | (refine st_5 info5r rfl (.tmp 2) (.tmp 80) rfl R rfl rfl (by simp [Value.oneCell']) HQ rfl ?_; intro w9 HQ9 f9; have HF9 := hid (FW.out.step f9 (fun i hi e => absurd hi (by omega))); clear f9))
            exact bodyPost_ret (v := .tuple #[rv 0 0 false 0 none 0 0, .bool false]) (resR rfl _ _ R 0 0 false 0 none 0 0 (.bool false) rfl rfl HQ9) rfl ⟨rfl, HF9.out⟩
          | true =>
            obtain ⟨⟨c0, z0⟩, ⟨c1, z1⟩, ⟨c2, z2⟩, ⟨c3, z3⟩, ⟨c4q, z4⟩⟩ := r5 HB
            clear z0 z1 z2 z3 z4
            have HRd := hid (DOut.rd HDL.out.symm HD)
            by_cases hmy : mayR ⟨v2, v3, b, v4, ds0⟩
            · obtain rfl : V = some ⟨v2, v3, b, v4, ds0⟩ := by rw [← HVE.out, if_pos ⟨rfl, hmy⟩]
              clear HVE
              go_wp2_with (first | (go_at_call 66; refine (done_yd g _ sk _ HY).mono ?_; rintro e' w5 ⟨rfl, rfl⟩; rw [HBD.out]) | (go_at_call 27; refine (rmay_ok _ _ _ _ _ _ _ ds0 _ (by have := HN6.out; simp only [maxLen]; omega) HRd.out).mono ?_; rintro e' w8 ⟨rfl, f8⟩; rw [decide_eq_true hmy]; replace FW := hid (FW.out.trans f8); replace HQ := Blk.fr HQ f8 (fun h => h); replace HB := Blk.fr HB f8 (fun h => h); have HD8 := hid (HD.fr f8 (fun _ _ h => h)); clear f8 c0 c1 c2 c3 c4q; obtain ⟨⟨c0, z0⟩, ⟨c1, z1⟩, ⟨c2, z2⟩, ⟨c3, z3⟩, ⟨c4q, z4⟩⟩ := r5 HB; clear z0 z1 z2 z3 z4) | (refine st_5 info5r rfl (.tmp 2) (.tmp 81) rfl R rfl rfl (by simp [Value.oneCell']) HQ rfl ?_; intro w9 HQ9 f9; have HF9 := hid (FW.out.step f9 (fun i hi e => absurd hi (by omega))); have HD9 := hid (HD8.out.fr f9 (fun q hq e => by have := (own_ge HD8.out q hq).1; have := HGD.out; have := HGR.out; omega)); clear f9))
              refine bodyPost_ret (v := .tuple #[rv v2 v3 b v4 A k c9, .bool true]) (resR rfl _ _ R v2 v3 b v4 A k c9 (.bool true) rfl rfl HQ9) rfl ?_
              have X9 := DOut.rd HDL.out.symm HD9.out
              refine ⟨⟨A, ⟨c9, ?_⟩, ?_, ?_⟩, HF9.out⟩
              · first | rfl | (rw [HDL.out]; done) | (rw [← HDL.out]; done) | (simp only [HDL.out]; done)
              · first | exact HN6.out | (rw [HDL.out]; exact HN6.out) | (rw [← HDL.out]; exact HN6.out)
              · first | exact X9 | (rw [HDL.out]; exact X9) | (rw [← HDL.out]; exact X9)
            · obtain rfl : V = none := by rw [← HVE.out, if_neg (fun h => hmy h.2)]
              clear HVE
              go_wp2_with (first | (go_at_call 66; refine (done_yd g _ sk _ HY).mono ?_; rintro e' w5 ⟨rfl, rfl⟩; rw [HBD.out]) | (go_at_call 27; refine (rmay_ok _ _ _ _ _ _ _ ds0 _ (by have := HN6.out; simp only [maxLen]; omega) HRd.out).mono ?_; rintro e' w8 ⟨rfl, f8⟩; rw [decide_eq_false hmy]; replace FW := hid (FW.out.trans f8); replace HQ := Blk.fr HQ f8 (fun h => h); replace HB := Blk.fr HB f8 (fun h => h); have HD8 := hid (HD.fr f8 (fun _ _ h => h)); clear f8 c0 c1 c2 c3 c4q; obtain ⟨⟨c0, z0⟩, ⟨c1, z1⟩, ⟨c2, z2⟩, ⟨c3, z3⟩, ⟨c4q, z4⟩⟩ := r5 HB; clear z0 z1 z2 z3 z4) | (refine st_5 info5r rfl (.tmp 2) (.tmp 80) rfl R rfl rfl (by simp [Value.oneCell']) HQ rfl ?_; intro w9 HQ9 f9; have HF9 := hid (FW.out.step f9 (fun i hi e => absurd hi (by omega))); clear f9))
              exact bodyPost_ret (v := .tuple #[rv 0 0 false 0 none 0 0, .bool false]) (resR rfl _ _ R 0 0 false 0 none 0 0 (.bool false) rfl rfl HQ9) rfl ⟨rfl, HF9.out⟩
    · rw [decide_eq_false hm] at hmk
      obtain rfl : V = none := by rw [← HVD.out, dR, if_neg (show ¬ marked X from hm)]
      clear hm
      go_wp2_with (first | (go_at_call 63; refine (bytes_yd g 2 _ X _ (by have := HD4.out; omega) HY).mono ?_; rintro e' w4 ⟨A4, c4, rfl, hr4, HY, f4⟩; have hcv := run_str (P := Tryd.prog) w4 26 9 5 Tryd.underlying26 Tryd.underlying5 Tryd.underlying9 A4 2 c4 (X.take 2) (by simpa [List.map_take] using hr4); replace HSZ := hid (Nat.lt_of_lt_of_le HSZ.out f4.size); replace FW := hid (FW.out.step f4 (fun i hi h => by have := HGR.out; omega)); replace HQ := Blk.fr HQ f4 (fun h => by have := HGR.out; omega); clear f4 hr4) | (refine st_5 info5r rfl (.tmp 2) (.tmp 21) rfl R rfl rfl (by simp [Value.oneCell']) HQ rfl ?_; intro w9 HQ9 f9; have HF9 := hid (FW.out.step f9 (fun i hi e => absurd hi (by omega))); clear f9))
      exact bodyPost_ret (v := .tuple #[rv 0 0 false 0 none 0 0, .bool false]) (resR rfl _ _ R 0 0 false 0 none 0 0 (.bool false) rfl rfl HQ9) rfl ⟨rfl, HF9.out⟩
  · obtain rfl : V = none := by rw [← hV, decR, if_neg hs]
    have HC : Hid ((l == 128 && ld zs 4 == onN 0 (zs.drop 4)) = false) := hid (by rw [← HLEN.out]; simpa [secOk] using hs)
    clear hV hs
    go_enter Tryd.func31, Tryd.ntmps31
    go_upto_region 1 with fail
    rw [show w.alloc (Obj.cells #[Value.int IntKind.i64 0, Value.int IntKind.i64 0, Value.bool false, Value.int IntKind.i64 0, Value.slice none 0 0] 48) = w1 from HW1.out]
    try rw [hR]
    go_wp2_with (first | (go_at_call 62; refine (CrcF.refCheck_any _ _ _ zs _ HI.out).mono ?_; rintro e' w2 ⟨rfl, f2⟩; rw [HC.out]; replace FW := hid (FW.out.trans f2); replace HQ := Blk.fr HQ f2 (fun h => h); clear f2) | (refine st_5 info5r rfl (.tmp 2) (.tmp 12) rfl R rfl rfl (by simp [Value.oneCell']) HQ rfl ?_; intro w9 HQ9 f9; have HF9 := hid (FW.out.step f9 (fun i hi e => absurd hi (by omega))); clear f9))
    exact bodyPost_ret (v := .tuple #[rv 0 0 false 0 none 0 0, .bool false]) (resR rfl _ _ R 0 0 false 0 none 0 0 (.bool false) rfl rfl HQ9) rfl ⟨rfl, HF9.out⟩
end Go.Proofs.YtdepkpdolkipcaaDoor.RcL
