/- Contract: what any bytes are as a record, by the program. Conditions: they read as bytes; the table of sums is as its text lays it. -/
import Derived.Test.YtdepkpdolkipcaaDoorRcJ
import Derived.Test.YtdepkpdolkipcaaDoorCrcF
namespace Go.Proofs.YtdepkpdolkipcaaDoor.RcK
open Go.RowKit MSep MFrame MSepC LeW LeR RdA RcM RcA RcB RcC DlO Kit RcG RcI RcJ CrcM CrcA CrcE

def secOk (zs : List Int) : Bool := zs.length == 128 && ld zs 4 == onN 0 (zs.drop 4)
/-- What bytes are as a record. -/
def dec (zs : List Int) : Option Rc := if secOk zs then dP (zs.drop 4) else none
theorem hd_n (st : Option (List Int)) : 0 ≤ (hd st).1.n ∧ (hd st).1.n ≤ 6 := by
  simp only [hd]
  generalize (gi 1 0 1 st).2 = s
  cases s with
  | none => simp [gi]
  | some xs =>
    by_cases h1 : xs.length < 1
    · rw [gi, if_pos h1]
      simp
    · by_cases h2 : 0 ≤ wrap64 (num (xs.take 1)) ∧ wrap64 (num (xs.take 1)) ≤ 6
      · rw [gi, if_neg h1, if_pos h2]
        exact h2
      · rw [gi, if_neg h1, if_neg h2]
        simp
theorem mark_eq {ys : List Int} (h : ∀ x ∈ ys, 0 ≤ x ∧ x ≤ 255) : ((strOfNums ys).toList == ([74, 82] : List UInt8)) = decide (ys = [74, 82]) := by
  rw [CrcF.str_list]
  by_cases e : ys = [74, 82]
  · subst e; rfl
  · rw [decide_eq_false e, beq_eq_false_iff_ne]
    intro h2
    exact e (CrcF.str_inj h (by decide) (h2.trans rfl))
theorem resR {fn : Func} {p q : Tmp} (h : fn.results = #[.cell p 48, .tmp q]) (tmps : Array Value) (w : World) (g : Nat) (e s : Int) (b : Bool) (u : Int) (A : Option Addr) (l c : Nat) (y : Value) (hp : tmps.getD p undef = .pointer (some ⟨g, 0, none⟩)) (hq : tmps.getD q undef = y) (hg : RB w g e s b u A l c) :
    (results fn tmps).run Tryd.prog w = .ok (.tuple #[rv e s b u A l c, y]) w := by
  have hp' : tmps[p]?.getD undef = .pointer (some ⟨g, 0, none⟩) := by simpa using hp
  have hq' : tmps[q]?.getD undef = y := by simpa using hq
  have hl := run_loadVar_row (P := Tryd.prog) w g 48 48 _ (0, 0) _ hg Tryd.underlying48 rfl (by kernel_rfl)
  simp [results, h, hp', hq', asAddr, hl, rv]
set_option maxRecDepth 100000 in
set_option maxHeartbeats 4000000 in
theorem decode_ok (A : Option Addr) (l c : Nat) (zs : List Int) (w : World) (hb : IsB w A l c zs) (hT : TabAt w) :
    Calls Tryd.prog 28 #[.slice A l c] w fun E w' =>
      (match dec zs with
        | none => E = .returned (.tuple #[rv 0 0 false 0 none 0 0, .int .i64 10])
        | some r => ∃ A' c', E = .returned (.tuple #[rv r.e r.s r.c r.u A' r.l.length c', .int .i64 0]) ∧ r.l.length ≤ 6 ∧ RdD w' A' r.l.length r.l) ∧ Fr No w w' := by
  have hlen : zs.length = l := by simpa using hb.1.1
  obtain ⟨R, hR⟩ : ∃ R, w.heap.size = R := ⟨_, rfl⟩
  obtain ⟨D, hD⟩ : ∃ D, R + 1 = D := ⟨_, rfl⟩
  obtain ⟨w1, hw1⟩ : ∃ w1, (w.alloc (rx 0 0 false 0 none 0 0)).alloc (rx 0 0 false 0 none 0 0) = w1 := ⟨_, rfl⟩
  have HF1 := hid (show Fr No w w1 by rw [← hw1]; exact ((Fr.refl _ w).alloc _).alloc _)
  have HB : Blk w1 D 48 #[.int .i64 0, .int .i64 0, .bool false, .int .i64 0, .slice none 0 0] := by
    rw [← hw1, ← hD, ← hR]
    have := Blk.new (w.alloc (rx 0 0 false 0 none 0 0)) 48 #[.int .i64 0, .int .i64 0, .bool false, .int .i64 0, .slice none 0 0]
    rwa [World.size_alloc] at this
  have HQ : Blk w1 R 48 #[.int .i64 0, .int .i64 0, .bool false, .int .i64 0, .slice none 0 0] := by
    rw [← hw1, ← hR]
    exact (Blk.new w _ _).alloc _
  have hs1 : w1.heap.size = D + 1 := by rw [← hw1]; simp; omega
  have HS1 := hid hs1
  have HW1 := hid hw1
  have HI := hid (hb.fr HF1.out)
  have HT1 := hid (hT.fr HF1.out (fun h => h))
  have HLEN := hid hlen
  clear hb hT hw1 hs1 hlen
  obtain ⟨V, hV⟩ : ∃ V, dec zs = V := ⟨_, rfl⟩
  rw [hV]
  by_cases hs : secOk zs = true
  · have HC : Hid ((l == 128 && ld zs 4 == onN 0 (zs.drop 4)) = true) := hid (by rw [← HLEN.out]; exact hs)
    have hl : l = 128 := by have := HC.out; simp only [Bool.and_eq_true, beq_iff_eq] at this; exact this.1
    subst hl
    have hVd : dP (zs.drop 4) = V := by rw [← hV, dec, if_pos hs]
    have HVD := hid hVd
    clear hV hs hVd
    obtain ⟨ga, oa, rfl, hga, _⟩ := HI.out.1.2 (by omega)
    have hc4 : ¬ c = 4 := by have := HI.out.2.1; omega
    have HR4 : Hid (Rd w1 (some ⟨ga, oa + 4, none⟩) 124 ((zs.drop 4).map (Value.int .u8))) := hid (by
      have := HI.out.1.cut (k := 4) (c := c) (by omega) HI.out.2.1
      unfold cutA at this
      rw [if_neg hc4] at this
      simpa [add_off, List.map_drop] using this)
    have HU8 := hid (show ∀ x ∈ zs.drop 4, 0 ≤ x ∧ x ≤ 255 from fun x hx => HI.out.2.2.2 x (List.mem_of_mem_drop hx))
    have HCC := hid HI.out.2
    have HD4 := hid (show (zs.drop 4).length = 124 by rw [List.length_drop, HLEN.out])
    obtain ⟨X, hX⟩ : ∃ X, zs.drop 4 = X := ⟨_, rfl⟩
    rw [hX] at HR4 HU8 HVD HD4
    clear hX
    have hc4l : (4 : Int) ≤ (128 : Nat) := by decide
    have FW := HF1
    go_enter Tryd.func28, Tryd.ntmps28
    go_wp2_with fail
    refine wp_scope_on 0 rfl ?_
    go_upto_region 3 with fail
    rw [show (w.alloc (Obj.cells #[Value.int IntKind.i64 0, Value.int IntKind.i64 0, Value.bool false, Value.int IntKind.i64 0, Value.slice none 0 0] 48)).alloc (Obj.cells #[Value.int IntKind.i64 0, Value.int IntKind.i64 0, Value.bool false, Value.int IntKind.i64 0, Value.slice none 0 0] 48) = w1 from HW1.out]
    try rw [hR]
    try rw [hD]
    go_upto_region 5 with (first | (go_at_call 53; refine (check_any _ _ _ zs _ HI.out HT1.out).mono ?_; rintro e' w2 ⟨rfl, rfl⟩; rw [HC.out]) | (go_at_call 54; refine (take_rd (some ⟨ga, oa + 4, none⟩) 124 (c - 4) X w1 HR4.out HU8.out (by decide)).mono ?_; rintro e' w3 ⟨g, rfl, HS, f3⟩; rw [HS1.out] at HS; replace FW := hid (FW.out.trans f3); replace HQ := Blk.fr HQ f3 (fun h => h); replace HB := Blk.fr HB f3 (fun h => h); have HG := hid (HS.own); have HLT := hid (HS.lt); clear f3))
    have HGR := hid (show g ≠ D ∧ g ≠ R by have := HG.out.1; omega)
    have HUw := hid (show ∀ k, (D + 1 ≤ k ∧ k < w3.heap.size) → k < w3.heap.size from fun k h => h.2)
    have hmk := mark_eq (ys := X.take 2) (fun x hx => HU8.out x (List.mem_of_mem_take hx))
    by_cases hm : X.take 2 = [74, 82]
    · rw [decide_eq_true hm] at hmk
      have HVM : Hid ((let t := tk (some (X.drop 2)); if dn t.2 = 0 ∧ mayR t.1 then some t.1 else none) = V) := hid (by rw [← HVD.out, dP, if_pos (show marked X from hm)])
      obtain ⟨⟨rr, s9⟩, htk⟩ : ∃ v, tk (some (X.drop 2)) = v := ⟨_, rfl⟩
      rw [htk] at HVM
      have HHD := hid (hd_n (some (X.drop 2)))
      have HTK := hid htk
      clear HVD hm htk
      obtain ⟨re, rs, rc, ru, rl⟩ := rr
      go_upto_region 7 with (first | (go_at_call 55; refine (bytes_rd g 2 (D + 1) _ X _ (by have := HD4.out; omega) (by have := Blk.lt HB; omega) HS).mono ?_; rintro e' w4 ⟨A4, c4, rfl, hr4, HS, f4⟩; have hcv := run_str (P := Tryd.prog) w4 26 9 5 Tryd.underlying26 Tryd.underlying5 Tryd.underlying9 A4 2 c4 (X.take 2) (by simpa [List.map_take] using hr4); replace FW := hid (FW.out.step f4 (fun i hi h => by have := HG.out.1; omega)); replace HQ := Blk.fr HQ f4 (fun h => HGR.out.2 h.symm); replace HB := Blk.fr HB f4 (fun h => HGR.out.1 h.symm); have hsz4 := hid f4.size; clear f4 hr4) | (go_at_call 68; refine (take_ok g (D + 1) _ (some (X.drop 2)) w4 HS (fun k h => by have := hsz4.out; omega) HHD.out).mono ?_; rintro e' w5 ⟨A5, c5, rfl, h56, h5r, HS, f5, h5a⟩; have H5A := hid h5a; clear h5a; rw [HTK.out] at h56 h5r HS ⊢; dsimp only at h56 h5r HS ⊢; replace FW := hid (FW.out.step f5 (fun i hi h => by have := HG.out.1; omega)); replace HQ := Blk.fr HQ f5 (fun h => HGR.out.2 h.symm); replace HB := Blk.fr HB f5 (fun h => HGR.out.1 h.symm); have H5R := hid h5r; have H56 := hid h56; clear f5 h5r h56) | (refine st_5 info5r rfl (.tmp 5) (.tmp 17) rfl D rfl rfl (by simp [Value.oneCell']) HB rfl ?_; intro w6 HB6 f6; have H6R := hid (RcD.rdD_fr H5R.out f6 (fun _ q o h e => by have := H5A.out q o h; have := hsz4.out; have := HG.out; omega)); replace HS := HS.fr f6 (fun k hk h => by omega); replace HQ := Blk.fr HQ f6 (fun h => by omega); replace FW := hid (FW.out.step f6 (fun i hi h => by omega)); clear f6 HB; have HB := HB6; clear HB6))
      have HVM2 : Hid ((if dn s9 = 0 ∧ mayR ⟨re, rs, rc, ru, rl⟩ then some (⟨re, rs, rc, ru, rl⟩ : Rc) else none) = V) := HVM
      obtain ⟨d9, hd9⟩ : ∃ d, dn s9 = d := ⟨_, rfl⟩
      rw [hd9] at HVM2
      have HD9 := hid hd9
      clear hd9 HVM
      by_cases h0 : d9 = 0
      · obtain ⟨⟨c0, z0⟩, ⟨c1, z1⟩, ⟨c2, z2⟩, ⟨c3, z3⟩, ⟨c4', z4⟩⟩ := r5 HB
        clear z0 z1 z2 z3 z4
        by_cases hmy : mayR ⟨re, rs, rc, ru, rl⟩
        · obtain rfl : V = some ⟨re, rs, rc, ru, rl⟩ := by rw [← HVM2.out, if_pos ⟨h0, hmy⟩]
          subst h0
          clear HVM2
          go_wp2_with (first | (go_at_call 58; refine (done_rd g (D + 1) _ s9 _ HS).mono ?_; rintro e' w7 ⟨rfl, rfl⟩; rw [HD9.out]) | (go_at_call 26; refine (may_ok _ _ _ _ _ _ _ rl _ (by have := H56.out; simp only [maxLen]; omega) H6R.out).mono ?_; rintro e' w8 ⟨rfl, f8⟩; rw [decide_eq_true hmy]; replace FW := hid (FW.out.trans f8); replace HQ := Blk.fr HQ f8 (fun h => h); replace HB := Blk.fr HB f8 (fun h => h); have H8R := hid (H6R.out.fr f8); clear f8 c0 c1 c2 c3 c4'; obtain ⟨⟨c0, z0⟩, ⟨c1, z1⟩, ⟨c2, z2⟩, ⟨c3, z3⟩, ⟨c4', z4⟩⟩ := r5 HB; clear z0 z1 z2 z3 z4) | (refine st_5 info5r rfl (.tmp 2) (.tmp 24) rfl R rfl rfl (by simp [Value.oneCell']) HQ rfl ?_; intro w9 HQ9 f9; have HF9 := hid (FW.out.step f9 (fun i hi e => absurd hi (by omega))); have H9R := hid (RcD.rdD_fr H8R.out f9 (fun _ q o h e => by have := H5A.out q o h; have := hsz4.out; have := HG.out; omega)); clear f9))
          rw [jump_ret]
          exact bodyPost_ret (v := .tuple #[rv re rs rc ru A5 rl.length c5, .int .i64 0]) (resR rfl _ _ R re rs rc ru A5 rl.length c5 (.int .i64 0) rfl rfl HQ9) rfl ⟨⟨A5, c5, rfl, H56.out, H9R.out⟩, HF9.out⟩
        · obtain rfl : V = none := by rw [← HVM2.out, if_neg (fun h => hmy h.2)]
          subst h0
          clear HVM2
          go_wp2_with (first | (go_at_call 58; refine (done_rd g (D + 1) _ s9 _ HS).mono ?_; rintro e' w7 ⟨rfl, rfl⟩; rw [HD9.out]) | (go_at_call 26; refine (may_ok _ _ _ _ _ _ _ rl _ (by have := H56.out; simp only [maxLen]; omega) H6R.out).mono ?_; rintro e' w8 ⟨rfl, f8⟩; rw [decide_eq_false hmy]; replace FW := hid (FW.out.trans f8); replace HQ := Blk.fr HQ f8 (fun h => h); clear f8))
          go_step3
          refine jump_on ?_
          go_wp2_with (refine st_5 info5r rfl (.tmp 2) (.tmp 25) rfl R rfl rfl (by simp [Value.oneCell']) HQ rfl ?_; intro w9 HQ9 f9; have HF9 := hid (FW.out.step f9 (fun i hi e => absurd hi (by omega))); clear f9)
          rw [Exit.noGoto_ret]
          exact bodyPost_ret (v := .tuple #[rv 0 0 false 0 none 0 0, .int .i64 10]) (resR rfl _ _ R 0 0 false 0 none 0 0 (.int .i64 10) rfl rfl HQ9) rfl ⟨rfl, HF9.out⟩
      · obtain rfl : V = none := by rw [← HVM2.out, if_neg (fun h => h0 h.1)]
        have h0b : (d9 == 0) = false := by simpa using h0
        clear HVM2
        go_wp2_with (go_at_call 58; refine (done_rd g (D + 1) _ s9 _ HS).mono ?_; rintro e' w7 ⟨rfl, rfl⟩; rw [HD9.out])
        go_step3
        refine jump_on ?_
        go_wp2_with (refine st_5 info5r rfl (.tmp 2) (.tmp 25) rfl R rfl rfl (by simp [Value.oneCell']) HQ rfl ?_; intro w9 HQ9 f9; have HF9 := hid (FW.out.step f9 (fun i hi e => absurd hi (by omega))); clear f9)
        rw [Exit.noGoto_ret]
        exact bodyPost_ret (v := .tuple #[rv 0 0 false 0 none 0 0, .int .i64 10]) (resR rfl _ _ R 0 0 false 0 none 0 0 (.int .i64 10) rfl rfl HQ9) rfl ⟨rfl, HF9.out⟩
    · rw [decide_eq_false hm] at hmk
      obtain rfl : V = none := by rw [← HVD.out, dP, if_neg (show ¬ marked X from hm)]
      clear hm
      go_wp2_with (go_at_call 55; refine (bytes_rd g 2 (D + 1) _ X _ (by have := HD4.out; omega) (by have := Blk.lt HB; omega) HS).mono ?_; rintro e' w4 ⟨A4, c4, rfl, hr4, HS, f4⟩; have hcv := run_str (P := Tryd.prog) w4 26 9 5 Tryd.underlying26 Tryd.underlying5 Tryd.underlying9 A4 2 c4 (X.take 2) (by simpa [List.map_take] using hr4); replace FW := hid (FW.out.step f4 (fun i hi h => by have := HG.out.1; omega)); replace HQ := Blk.fr HQ f4 (fun h => HGR.out.2 h.symm); replace HB := Blk.fr HB f4 (fun h => HGR.out.1 h.symm); have hsz4 := hid f4.size; clear f4 hr4)
      go_step3
      refine jump_on ?_
      go_wp2_with (refine st_5 info5r rfl (.tmp 2) (.tmp 25) rfl R rfl rfl (by simp [Value.oneCell']) HQ rfl ?_; intro w9 HQ9 f9; have HF9 := hid (FW.out.step f9 (fun i hi e => absurd hi (by omega))); clear f9)
      rw [Exit.noGoto_ret]
      exact bodyPost_ret (v := .tuple #[rv 0 0 false 0 none 0 0, .int .i64 10]) (resR rfl _ _ R 0 0 false 0 none 0 0 (.int .i64 10) rfl rfl HQ9) rfl ⟨rfl, HF9.out⟩
  · obtain rfl : V = none := by rw [← hV, dec, if_neg hs]
    have HC : Hid ((l == 128 && ld zs 4 == onN 0 (zs.drop 4)) = false) := hid (by rw [← HLEN.out]; simpa [secOk] using hs)
    clear hV hs
    have FW := HF1
    go_enter Tryd.func28, Tryd.ntmps28
    go_wp2_with fail
    refine wp_scope_on 0 rfl ?_
    go_upto_region 3 with fail
    rw [show (w.alloc (Obj.cells #[Value.int IntKind.i64 0, Value.int IntKind.i64 0, Value.bool false, Value.int IntKind.i64 0, Value.slice none 0 0] 48)).alloc (Obj.cells #[Value.int IntKind.i64 0, Value.int IntKind.i64 0, Value.bool false, Value.int IntKind.i64 0, Value.slice none 0 0] 48) = w1 from HW1.out]
    try rw [hR]
    try rw [hD]
    go_wp2_with (go_at_call 53; refine (check_any _ _ _ zs _ HI.out HT1.out).mono ?_; rintro e' w2 ⟨rfl, rfl⟩; rw [HC.out])
    go_step3
    refine jump_on ?_
    go_wp2_with (refine st_5 info5r rfl (.tmp 2) (.tmp 25) rfl R rfl rfl (by simp [Value.oneCell']) HQ rfl ?_; intro w9 HQ9 f9; have HF9 := hid (FW.out.step f9 (fun i hi e => absurd hi (by omega))); clear f9)
    rw [Exit.noGoto_ret]
    exact bodyPost_ret (v := .tuple #[rv 0 0 false 0 none 0 0, .int .i64 10]) (resR rfl _ _ R 0 0 false 0 none 0 0 (.int .i64 10) rfl rfl HQ9) rfl ⟨rfl, HF9.out⟩
end Go.Proofs.YtdepkpdolkipcaaDoor.RcK
