/- Contracts: Load; the calls of a nil pool. Conditions: the roles read as a list of numbers; the geometry's Seq has 64 bits. -/
import Derived.Test.YtecngikdfplibaaPlF
namespace Go.Proofs.Ytecngikdfplibaa.PlG
open Go.RowKit MSep MSepC MGeM GeA PlM PlA PlB PlC PlD PlE PlF

set_option maxRecDepth 100000 in
set_option maxHeartbeats 4000000 in
theorem load_n (c s n l k : Int) (A : Option Addr) (ln cp : Nat) (w : World) (hs : inI s) (hm : ¬ mayG ⟨c, s, n, l, k⟩) : Calls Try.prog 28 #[.agg #[.int .i64 c, .int .i64 s, .int .i64 n, .int .i64 l, .int .i64 k], .slice A ln cp] w fun e w' => e = .returned (.tuple #[.pointer none, .int .i64 70]) ∧ Fr No w w' := by
  have HF := hid (fr1 w (bg c s n l k))
  have P0 := hid (BG.new w c s n l k)
  have HL := hid (fun w => new_n c s n l k w hs hm)
  clear hs hm
  go_enter Try.func28, Try.ntmps28
  go_wp2_with (first | ((with_reducible refine ld_geom rfl (.tmp 2) rfl w.heap.size ?_ P0.out ?_); · rfl) | (go_at_call 37; refine (HL.out _).mono ?_; rintro e w1 ⟨rfl, f⟩; replace HF := hid (HF.out.trans f); clear f))
  go_ret2
  exact ⟨rfl, HF.out⟩
set_option maxRecDepth 100000 in
set_option maxHeartbeats 4000000 in
theorem load_len (c s n l k : Int) (A : Option Addr) (cp : Nat) (R : List Int) (w : World) (hm : mayG ⟨c, s, n, l, k⟩) (hl : ¬ (R.length : Int) = s) : Calls Try.prog 28 #[.agg #[.int .i64 c, .int .i64 s, .int .i64 n, .int .i64 l, .int .i64 k], .slice A R.length cp] w fun e w' => e = .returned (.tuple #[.pointer none, .int .i64 141]) ∧ Fr No w w' := by
  have HF := hid (fr1 w (bg c s n l k))
  have P0 := hid (BG.new w c s n l k)
  have HL := hid (fun w => new_y c s n l k w hm)
  have hb : ((R.length : Int) != s) = true := by simpa using hl
  clear hm
  go_enter Try.func28, Try.ntmps28
  go_wp2_with (first | ((with_reducible refine ld_geom rfl (.tmp 2) rfl w.heap.size ?_ P0.out ?_); · rfl) | (go_at_call 37; refine (HL.out _).mono ?_; rintro e w1 ⟨p, q, rfl, _, _, _, f⟩; replace HF := hid (HF.out.trans f); replace P0 := hid (P0.out.fr f); obtain ⟨_, g1, _⟩ := P0.out.cells; clear f))
  go_ret2
  exact ⟨rfl, HF.out⟩
set_option maxRecDepth 100000 in
set_option maxHeartbeats 4000000 in
theorem load_role (c s n l k : Int) (A : Option Addr) (cp : Nat) (R : List Int) (w : World) (hm : mayG ⟨c, s, n, l, k⟩) (hl : (R.length : Int) = s) (hx : RdI w A R.length R) (ho : ¬ ok R) : Calls Try.prog 28 #[.agg #[.int .i64 c, .int .i64 s, .int .i64 n, .int .i64 l, .int .i64 k], .slice A R.length cp] w fun e w' => e = .returned (.tuple #[.pointer none, .int .i64 141]) ∧ Fr No w w' := by
  have HF := hid (fr1 w (bg c s n l k))
  have P0 := hid (BG.new w c s n l k)
  have HL := hid (fun w => new_y c s n l k w hm)
  obtain ⟨_, ⟨h4, h128⟩, _⟩ := may_in hm
  have hb : ((R.length : Int) != s) = false := by simpa using hl
  have HC := hid (fun W (h : RdI W A R.length R) => contains_ok A cp R true W h (by omega) (by simp [ho]))
  have HX := hid hx
  clear hm hx h4 h128
  go_enter Try.func28, Try.ntmps28
  go_wp2_with (first | ((with_reducible refine ld_geom rfl (.tmp 2) rfl w.heap.size ?_ P0.out ?_); · rfl) | (go_at_call 37; refine (HL.out _).mono ?_; rintro e w1 ⟨p, q, rfl, _, _, _, f⟩; replace HF := hid (HF.out.trans f); replace P0 := hid (P0.out.fr f); obtain ⟨_, g1, _⟩ := P0.out.cells; clear f) | (go_at_call 60; refine (HC.out _ (HX.out.fr HF.out)).mono ?_; rintro e w2 ⟨rfl, rfl⟩))
  go_ret2
  exact ⟨rfl, HF.out⟩
/-- What Load has told. -/
def LdP (v : Bool) (w w' : World) (e : Ending) (c s n l k b : Int) (R : List Int) : Prop :=
  (v = true → ∃ p q, e = .returned (.tuple #[.pointer (some ⟨p, 0, none⟩), .int .i64 0]) ∧ PA w' p q c s n l k b R ∧ w.heap.size ≤ p ∧ w.heap.size ≤ q) ∧ (v = false → e = .returned (.tuple #[.pointer none, .int .i64 141]))
set_option maxRecDepth 100000 in
set_option maxHeartbeats 4000000 in
theorem load_s (c s n l k : Int) (A : Option Addr) (cp : Nat) (R : List Int) (v : Bool) (w : World) (hm : mayG ⟨c, s, n, l, k⟩) (hl : (R.length : Int) = s) (hx : RdI w A R.length R) (ho : ok R) (hv : v = true ↔ sound k (s - k - 1) R) : Calls Try.prog 28 #[.agg #[.int .i64 c, .int .i64 s, .int .i64 n, .int .i64 l, .int .i64 k], .slice A R.length cp] w fun e w' =>
    LdP v w w' e c s n l k (s - k - 1) R ∧ Fr No w w' := by
  have HF := hid (fr1 w (bg c s n l k))
  have P0 := hid (BG.new w c s n l k)
  have HL := hid (fun w => new_y c s n l k w hm)
  obtain ⟨_, ⟨h4, h128⟩, _⟩ := may_in hm
  have hb : ((R.length : Int) != s) = false := by simpa using hl
  have HC := hid (fun W (h : RdI W A R.length R) => contains_ok A cp R false W h (by omega) (by simp [ho]))
  have HX := hid hx
  have HM := hid hm
  have HLN := hid hl
  obtain ⟨N, hN⟩ : ∃ N, s.toNat = N := ⟨_, rfl⟩
  have hN2 : R.length = N := by omega
  have HN := hid hN2
  have HV := hid hv
  obtain ⟨B, hB⟩ : ∃ B, s - k - 1 = B := ⟨_, rfl⟩
  rw [hB] at HL HV ⊢
  rw [hN] at HL
  have HB := hid hB
  clear hm hx h4 h128 hv hN hB hN2 ho
  go_enter Try.func28, Try.ntmps28
  go_upto_region 6 with (first | ((with_reducible refine ld_geom rfl (.tmp 2) rfl w.heap.size ?_ P0.out ?_); · rfl) | (go_at_call 37; refine (HL.out _).mono ?_; rintro e w1 ⟨p, q, rfl, hp, hp1, hp2, f⟩; replace HF := hid (HF.out.trans f); replace P0 := hid (P0.out.fr f); have HS := hid f.size; obtain ⟨_, g1, _⟩ := P0.out.cells; clear f) | (go_at_call 60; refine (HC.out _ (HX.out.fr HF.out)).mono ?_; rintro e w2 ⟨rfl, rfl⟩))
  have e6 := hp.cells.2.2.2.2.2.2
  rw [List.length_replicate] at e6
  have HQ := hid hp.hq
  have HP := hid hp
  have hge : w.heap.size + 1 ≤ p ∧ w.heap.size + 1 ≤ q := by simp at hp1 hp2; exact ⟨hp1, hp2⟩
  have HG := hid hge
  clear hp hp1 hp2 hge
  go_upto_region 7 with (refine wpList_cpB rfl (.tmp 28) (.tmp 29) 27 27 rfl 3 Try.underlying27 (by kernel_rfl) q 0 N N A R.length cp (R.map en) ((List.replicate N (0 : Int)).map en) rfl rfl HQ.out (HX.out.fr HF.out).2 en_one (by have := HN.out; omega) (by simp) ?_; intro w3 hb3 f3)
  have h3 : PA w3 p q c s n l k B R := by
    refine ⟨HM.out, HLN.out, HB.out.symm, ?_, ?_⟩
    · have := HP.out.hp.fr f3 (fun h => HP.out.ne h)
      rw [List.length_replicate] at this
      rw [HN.out]
      exact this
    · have e : (List.replicate N (0 : Int)).length = R.length := by rw [List.length_replicate, HN.out]
      have hd : ((List.replicate N (0 : Int)).map en).drop (0 + R.length) = [] := List.drop_eq_nil_of_le (by rw [List.length_map, e]; omega)
      rw [hd, List.take_zero, List.nil_append, List.append_nil] at hb3
      exact hb3
  replace HF := hid (HF.out.step f3 (fun i hi e => by have := HG.out.2; omega))
  have HP3 := hid h3
  clear h3 hb3 f3 e6 HP HQ P0
  have HSD := hid (sound_ok p q c s n l k B R v _ HP3.out HV.out)
  cases v with
  | true =>
    go_wp2_with (go_at_call 36; refine HSD.out.mono ?_; rintro e w4 ⟨rfl, f⟩; have F4 := hid f; clear f)
    go_ret2
    refine ⟨?_, HF.out.trans F4.out⟩
    show LdP true _ _ _ _ _ _ _ _ _ _
    exact ⟨fun _ => ⟨p, q, rfl, HP3.out.fr0 F4.out, by have := HG.out; omega, by have := HG.out; omega⟩, fun h => by cases h⟩
  | false =>
    go_wp2_with (go_at_call 36; refine HSD.out.mono ?_; rintro e w4 ⟨rfl, f⟩; have F4 := hid f; clear f)
    go_ret2
    refine ⟨?_, HF.out.trans F4.out⟩
    show LdP false _ _ _ _ _ _ _ _ _ _
    exact ⟨fun h => (by cases h), fun _ => rfl⟩

/-! A nil pool. -/
set_option maxRecDepth 100000 in
theorem take_nil (r : Int) (w : World) : Calls Try.prog 32 #[.pointer none, .int .i64 r] w fun e w' => e = .returned (.tuple #[.int .i64 0, .int .i64 6]) ∧ w' = w := by
  go_enter Try.func32, Try.ntmps32
  go_wp2
  go_ret2
  exact ⟨rfl, rfl⟩
set_option maxRecDepth 100000 in
theorem set_nil (z r : Int) (w : World) : Calls Try.prog 34 #[.pointer none, .int .i64 z, .int .i64 r] w fun e w' => e = .returned (.int .i64 6) ∧ w' = w := by
  go_enter Try.func34, Try.ntmps34
  go_wp2
  go_ret
  exact ⟨rfl, rfl⟩
set_option maxRecDepth 100000 in
theorem role_nil (z : Int) (w : World) : Calls Try.prog 39 #[.pointer none, .int .i64 z] w fun e w' => e = .returned (.int .i64 (-1)) ∧ w' = w := by
  go_enter Try.func39, Try.ntmps39
  go_wp2
  go_ret
  exact ⟨rfl, rfl⟩
set_option maxRecDepth 100000 in
theorem roles_nil (w : World) : Calls Try.prog 40 #[.pointer none] w fun e w' => e = .returned (.slice none 0 0) ∧ w' = w := by
  go_enter Try.func40, Try.ntmps40
  go_wp2
  go_ret
  exact ⟨rfl, rfl⟩
set_option maxRecDepth 100000 in
theorem list_nil (r : Int) (w : World) : Calls Try.prog 41 #[.pointer none, .int .i64 r] w fun e w' => e = .returned (.slice none 0 0) ∧ w' = w := by
  go_enter Try.func41, Try.ntmps41
  go_wp2
  go_ret
  exact ⟨rfl, rfl⟩
set_option maxRecDepth 100000 in
theorem count_nil (r : Int) (w : World) : Calls Try.prog 38 #[.pointer none, .int .i64 r] w fun e w' => e = .returned (.int .i64 0) ∧ w' = w := by
  go_enter Try.func38, Try.ntmps38
  go_wp2_with (go_at_call 41; refine (list_nil r _).mono ?_; rintro e w1 ⟨rfl, rfl⟩)
  go_ret
  exact ⟨rfl, rfl⟩
set_option maxRecDepth 100000 in
theorem cached_nil (w : World) : Calls Try.prog 42 #[.pointer none] w fun e w' => e = .returned (.int .i64 0) ∧ w' = w := by
  go_enter Try.func42, Try.ntmps42
  go_wp2_with (go_at_call 38; refine (count_nil _ _).mono ?_; rintro e w1 ⟨rfl, rfl⟩)
  go_ret
  exact ⟨rfl, rfl⟩
set_option maxRecDepth 100000 in
theorem sound_nil (w : World) : Calls Try.prog 36 #[.pointer none] w fun e w' => e = .returned (.bool false) ∧ w' = w := by
  go_enter Try.func36, Try.ntmps36
  go_wp2
  go_ret
  exact ⟨rfl, rfl⟩
end Go.Proofs.Ytecngikdfplibaa.PlG
