/- RecordReads' walk. Conditions: the table of sums is as its text lays it; what comes in is no longer than what the form's reach allows. -/
import Derived.Test.YtdepkpdolkipcaaDoorRcP
import Derived.Test.YtdepkpdolkipcaaDoorRcL
namespace Go.Proofs.YtdepkpdolkipcaaDoor.RcT
open Go.RowKit MSep MFrame MSepC RcM RcA RcB RcC Kit CrcM CrcA CrcE RcI RcJ RcK RcL RcO RcP

def rz : Rc := ⟨0, 0, false, 0, []⟩
theorem isB_own {w : World} {base : Nat} {A : Option Addr} {l c : Nat} {zs : List Int} (h : w.ownsRow base 5 1 (.slice A l c) l (zs.map (Value.int .u8))) (hu : ∀ x ∈ zs, 0 ≤ x ∧ x ≤ 255) : IsB w A l c zs := by
  refine ⟨Rd.own h, ?_, ?_, hu⟩
  · rcases h.2 with ⟨hv, h0⟩ | ⟨g, cap, cur, hv, _, _, hn, _⟩
    · omega
    · injection hv with _ _ h3
      omega
  · rcases h.2 with ⟨hv, h0⟩ | ⟨g, cap, cur, hv, _, _, _, hm, _⟩
    · injection hv with _ _ h3
      rw [h3]
      exact Nat.zero_le _
    · injection hv with _ _ h3
      rw [h3]
      exact hm
theorem decode_uni (A : Option Addr) (l c : Nat) (zs : List Int) (w : World) (hb : IsB w A l c zs) (hT : TabAt w) :
    Calls Tryd.prog 28 #[.slice A l c] w fun E w' => ∃ (r : Rc) (A' : Option Addr) (c' : Nat) (e : Int), E = .returned (.tuple #[rv r.e r.s r.c r.u A' r.l.length c', .int .i64 e]) ∧ RdD w' A' r.l.length r.l ∧ r.l.length ≤ 6 ∧ Fr No w w' ∧ (dec zs = some r ∧ e = 0 ∨ dec zs = none ∧ e = 10 ∧ r = rz) := by
  refine (decode_ok A l c zs w hb hT).mono ?_
  rintro E w' ⟨h, f⟩
  cases hd : dec zs with
  | none => rw [hd] at h; exact ⟨rz, none, 0, 10, h, RdD.nil _ _, by decide, f, Or.inr ⟨rfl, rfl, rfl⟩⟩
  | some r =>
    rw [hd] at h
    obtain ⟨A', c', h1, h2, h3⟩ := h
    exact ⟨r, A', c', 0, h1, h3, h2, f, Or.inl ⟨rfl, rfl⟩⟩
theorem rdecode_uni (A : Option Addr) (l c : Nat) (zs : List Int) (w : World) (hb : IsB w A l c zs) :
    Calls Tryd.prog 31 #[.slice A l c] w fun E w' => ∃ (r : Rc) (A' : Option Addr) (c' : Nat) (e : Bool), E = .returned (.tuple #[rv r.e r.s r.c r.u A' r.l.length c', .bool e]) ∧ RdD w' A' r.l.length r.l ∧ r.l.length ≤ 6 ∧ Fr No w w' ∧ (decR zs = some r ∧ e = true ∨ decR zs = none ∧ e = false ∧ r = rz) := by
  refine (rdecode_ok A l c zs w hb).mono ?_
  rintro E w' ⟨h, f⟩
  cases hd : decR zs with
  | none => rw [hd] at h; exact ⟨rz, none, 0, false, h, RdD.nil _ _, by decide, f, Or.inr ⟨rfl, rfl, rfl⟩⟩
  | some r =>
    rw [hd] at h
    obtain ⟨A', c', h1, h2, h3⟩ := h
    exact ⟨r, A', c', true, h1, h3, h2, f, Or.inl ⟨rfl, rfl⟩⟩
theorem agree {zs : List Int} {r r' : Rc} {e : Int} {b : Bool} (hd : dec zs = decR zs) (h : dec zs = some r ∧ e = 0 ∨ dec zs = none ∧ e = 10 ∧ r = rz) (h' : decR zs = some r' ∧ b = true ∨ decR zs = none ∧ b = false ∧ r' = rz) : r' = r ∧ (e = 0 ∧ b = true ∨ e = 10 ∧ b = false) := by
  rw [← hd] at h'
  rcases h with ⟨h1, h2⟩ | ⟨h1, h2, h3⟩ <;> rcases h' with ⟨k1, k2⟩ | ⟨k1, k2, k3⟩
  · rw [h1] at k1
    exact ⟨(Option.some.inj k1).symm, Or.inl ⟨h2, k2⟩⟩
  · rw [h1] at k1
    cases k1
  · rw [h1] at k1
    cases k1
  · exact ⟨k3.trans h3.symm, Or.inr ⟨h2, k2⟩⟩
set_option maxRecDepth 100000 in
set_option maxHeartbeats 4000000 in
theorem reads_walk (A : Option Addr) (l c : Nat) (zs : List Int) (w : World) (hb : IsB w A l c zs) (hc : c ≤ reachBytes) (hT : TabAt w) : Calls Tryd.prog 9 #[.slice A l c] w fun e w' => e = .returned (.bool true) ∧ Fr No w w' := by
  obtain ⟨i0, hi, hz0, hz1, hz2⟩ := info_parts u8_info
  have hl2 := hb.2.1
  unfold reachBytes at hc
  have hown0 : (w.alloc (.cells #[] 5)).ownsRow w.heap.size 5 1 (.slice (some ⟨w.heap.size, 0, none⟩) 0 0) 0 [] := World.ownsRow_lit w #[] 0 (Nat.le_refl _) (by simp [maxLen]) rfl
  have HO := hid hown0
  have HA := hid (hb.1.fr (S := No) ((Fr.refl _ w).alloc (.cells #[] 5)) (fun _ _ _ h => h))
  have HAG := hid (dec_decR zs hb.2.2.2)
  have HB := hid hb
  have HT := hid hT
  have hl3 : l ≤ 140737488351232 := by omega
  clear hb hT hown0 hc hl2
  go_enter Tryd.func9, Tryd.ntmps9
  go_upto_region 2 with (at_builtin; go_loud (refine wpList_app rfl (.tmp 8) (.tmp 9) 26 rfl w.heap.size 5 i0 (.int .u8 0) 1 Tryd.underlying26 hi hz0 hz1 hz2 rfl (.slice (some ⟨w.heap.size, 0, none⟩) 0 0) 0 [] rfl HO.out A l c (cells zs) rfl HA.out one_u8s (by simp only [maxLen]; omega) (by omega) (by simp) ?_; intro A1 c1 w1 own1 f1 s1; have hf1 : Fr No w w1 := ((Fr.refl No w).alloc (.cells #[] 5)).step f1 (fun i hi h => by (first | (simp [Value.ownBlock] at h; omega) | (injection h with h; omega) | (exact absurd h (by simp [Value.ownBlock]; omega)))); have HF1 := hid hf1; clear hf1; have HI := hid (isB_own (zs := zs) (by simpa [cells] using own1) HB.out.2.2.2); clear own1 f1 s1))
  go_upto_region 3 with (first | (go_at_call 28; go_loud (refine (decode_uni A1 l c1 zs _ HI.out (HT.out.fr HF1.out (fun h => h))).mono ?_; rintro e' w2 ⟨r, A2, c2, e2, rfl, hd2, h62, f2, hc2⟩; have HF2 := hid (HF1.out.trans f2); have HD2 := hid hd2; have H62 := hid h62; have HC2 := hid hc2; replace HI := hid (HI.out.fr f2); clear f2 hd2 h62 hc2)) | (refine st_5 info5r rfl (.tmp 4) (.tmp 14) rfl w2.heap.size rfl rfl (by simp [Value.oneCell']) (Blk.new w2 _ _) rfl ?_; intro w3 HQ3 f3; have FX : Fr No w2 w3 := ((Fr.refl No w2).alloc _).step f3 (fun i hi e => by omega); have HF3 := hid (HF2.out.trans FX); replace HD2 := hid (HD2.out.fr FX); replace HI := hid (HI.out.fr FX); have HB3 := hid HQ3; clear f3 FX HQ3))
  obtain ⟨D, hD⟩ : ∃ D, w2.heap.size = D := ⟨_, rfl⟩
  rw [hD] at HB3 ⊢
  go_upto_region 4 with (first | (go_at_call 31; go_loud (refine (rdecode_uni A l c zs _ (HB.out.fr HF3.out)).mono ?_; rintro e' w4 ⟨r', A4, c4, b4, rfl, hd4, h64, f4, hc4⟩; have HF4 := hid (HF3.out.trans f4); have HD4 := hid hd4; have HC4 := hid hc4; replace HI := hid (HI.out.fr f4); replace HD2 := hid (HD2.out.fr f4); replace HB3 := hid (Blk.fr HB3.out f4 (fun h => h)); clear f4 hd4 h64 hc4)) | (refine st_5 info5r rfl (.tmp 6) (.tmp 19) rfl w4.heap.size rfl rfl (by simp [Value.oneCell']) (Blk.new w4 _ _) rfl ?_; intro w5 HQ5 f5; have FX : Fr No w4 w5 := ((Fr.refl No w4).alloc _).step f5 (fun i hi e => by omega); have HF5 := hid (HF4.out.trans FX); replace HD2 := hid (HD2.out.fr FX); replace HD4 := hid (HD4.out.fr FX); replace HI := hid (HI.out.fr FX); replace HB3 := hid (Blk.fr HB3.out FX (fun h => h)); have HB5 := hid HQ5; clear f5 FX HQ5))
  obtain ⟨D2, hD2⟩ : ∃ D2, w4.heap.size = D2 := ⟨_, rfl⟩
  rw [hD2] at HB5 ⊢
  obtain ⟨rfl, hcase⟩ := agree HAG.out HC2.out HC4.out
  clear HC2 HC4 hD hD2
  obtain ⟨⟨x0, z0⟩, ⟨x1, z1⟩, ⟨x2, z2⟩, ⟨x3, z3⟩, ⟨x4, z4⟩⟩ := r5 HB3.out
  obtain ⟨⟨y0, z0'⟩, ⟨y1, z1'⟩, ⟨y2, z2'⟩, ⟨y3, z3'⟩, ⟨y4, z4'⟩⟩ := r5 HB5.out
  clear z0 z1 z2 z3 z4 z0' z1' z2' z3' z4'
  obtain ⟨T, hTT⟩ : ∃ T, strOfNums zs = T := ⟨_, rfl⟩
  have HTT := hid hTT
  have HMX := hid (show r'.l.length ≤ maxLen by have := H62.out; simp only [maxLen]; omega)
  clear hTT H62
  rcases hcase with ⟨rfl, rfl⟩ | ⟨rfl, rfl⟩
  all_goals
    go_wp2_with (first | (go_at_call 24; go_loud (refine (lives_ok _ (HT.out.fr HF5.out (fun h => h))).mono ?_; rintro e' w6 ⟨rfl, f6⟩; have HF6 := hid (HF5.out.trans f6); replace HD2 := hid (HD2.out.fr f6); replace HD4 := hid (HD4.out.fr f6); replace HI := hid (HI.out.fr f6); replace x0 := kc f6 x0; replace x1 := kc f6 x1; replace x2 := kc f6 x2; replace x3 := kc f6 x3; replace x4 := kc f6 x4; replace y0 := kc f6 y0; replace y1 := kc f6 y1; replace y2 := kc f6 y2; replace y3 := kc f6 y3; replace y4 := kc f6 y4; clear f6)) | (go_at_call 30; go_loud (refine (rsame_ok _ _ _ _ _ _ _ r'.l _ _ _ _ _ _ _ r'.l _ HMX.out HMX.out HD2.out HD4.out).mono ?_; rintro e' w7 ⟨he, f7⟩; obtain rfl := he.trans (show _ = Ending.returned (.bool true) by simp); have HF7 := hid (HF6.out.trans f7); have s1 := run_str (P := Tryd.prog) w7 26 9 5 Tryd.underlying26 Tryd.underlying5 Tryd.underlying9 A1 l c1 zs (HI.out.fr f7).1; have s2 := run_str (P := Tryd.prog) w7 26 9 5 Tryd.underlying26 Tryd.underlying5 Tryd.underlying9 A l c zs (HB.out.fr HF7.out).1; rw [HTT.out] at s1 s2; clear f7 he)))
    go_ret
    exact ⟨rfl, HF7.out⟩
end Go.Proofs.YtdepkpdolkipcaaDoor.RcT
