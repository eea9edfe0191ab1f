/- PoolSpares' walk. Conditions: the geometry's Seq has 64 bits; the calls read as a list. -/
import Derived.Test.YtecngikdfplibaaPlH
import Derived.Test.YtecngikdfplibaaPlOps
import Derived.Test.YtecngikdfplibaaGeEk
namespace Go.Proofs.Ytecngikdfplibaa.PlI
open Go.RowKit MSep MSepC MGeM GeA PlM PlA PlB PlC PlD PlE PlF PlG PlH

theorem rl_y (c s n l k : Int) (w : World) (hm : mayG ⟨c, s, n, l, k⟩) : Calls Try.prog 16 #[.agg #[.int .i64 c, .int .i64 s, .int .i64 n, .int .i64 l, .int .i64 k]] w fun e w' => (∃ a r q d t x u : Int, e = .returned (.tuple #[.agg #[.int .i64 a, .int .i64 r, .int .i64 q, .int .i64 (s - k - 1), .int .i64 d, .int .i64 t, .int .i64 x, .int .i64 u], .bool true])) ∧ Fr No w w' := by
  obtain ⟨_, ⟨h4, h128⟩, _⟩ := may_in hm
  refine (GeEk.rlayout_ok c s n l k w (by omega)).mono ?_
  rintro e w' ⟨rfl, f⟩
  rw [show GeE.rlo ⟨c, s, n, l, k⟩ = (lay ⟨c, s, n, l, k⟩, true) by unfold GeE.rlo; rw [if_pos hm]]
  exact ⟨⟨_, _, _, _, _, _, _, rfl⟩, f⟩
theorem rl_n (c s n l k : Int) (w : World) (hs : inI s) (hm : ¬ mayG ⟨c, s, n, l, k⟩) : Calls Try.prog 16 #[.agg #[.int .i64 c, .int .i64 s, .int .i64 n, .int .i64 l, .int .i64 k]] w fun e w' => e = .returned (.tuple #[.agg #[.int .i64 0, .int .i64 0, .int .i64 0, .int .i64 0, .int .i64 0, .int .i64 0, .int .i64 0, .int .i64 0], .bool false]) ∧ Fr No w w' := by
  refine (GeEk.rlayout_ok c s n l k w hs).mono ?_
  rintro e w' ⟨rfl, f⟩
  rw [show GeE.rlo ⟨c, s, n, l, k⟩ = (z8, false) by unfold GeE.rlo; rw [if_neg hm]]
  exact ⟨rfl, f⟩
set_option maxRecDepth 100000 in
set_option maxHeartbeats 4000000 in
theorem spares_n (c s n l k : Int) (A : Option Addr) (ln cp : Nat) (w : World) (hs : inI s) (hm : ¬ mayG ⟨c, s, n, l, k⟩) : Calls Try.prog 8 #[.agg #[.int .i64 c, .int .i64 s, .int .i64 n, .int .i64 l, .int .i64 k], .slice A ln cp] w fun e w' => e = .returned (.bool true) ∧ Fr No w w' := by
  have HF := hid (fr1 w (bg c s n l k))
  have P0 := hid (BG.new w c s n l k)
  have HL := hid (fun w => new_n c s n l k w hs hm)
  have HR := hid (fun w => rl_n c s n l k w hs hm)
  clear hs hm
  go_enter Try.func8, Try.ntmps8
  go_wp2_with (first | ((with_reducible refine ld_geom rfl (.tmp 2) rfl w.heap.size ?_ P0.out ?_); · rfl) | (go_at_call 37; refine (HL.out _).mono ?_; rintro e w1 ⟨rfl, f⟩; replace HF := hid (HF.out.trans f); replace P0 := hid (P0.out.fr f); clear f) | (go_at_call 16; refine (HR.out _).mono ?_; rintro e w2 ⟨rfl, f⟩; replace HF := hid (HF.out.trans f); clear f) | (go_at_call 27; refine (lives_ok _).mono ?_; rintro e w3 ⟨rfl, f⟩; replace HF := hid ((HF.out.alloc _).trans f); clear f))
  go_ret
  exact ⟨rfl, HF.out⟩
set_option maxRecDepth 100000 in
set_option maxHeartbeats 4000000 in
theorem spares_y (c s n l k : Int) (A : Option Addr) (ln cp : Nat) (os : List (Int × Int × Int)) (w : World) (hm : mayG ⟨c, s, n, l, k⟩) (hO : PlOps.RdO w A ln os) (hI : ∀ t ∈ os, inI t.2.1) (hlc : ln ≤ cp) (hcm : cp ≤ maxLen) : Calls Try.prog 8 #[.agg #[.int .i64 c, .int .i64 s, .int .i64 n, .int .i64 l, .int .i64 k], .slice A ln cp] w fun e w' => e = .returned (.bool true) ∧ Fr No w w' := by
  have HF := hid (fr1 w (bg c s n l k))
  have P0 := hid (BG.new w c s n l k)
  have HL := hid (fun w => new_y c s n l k w hm)
  have HR := hid (fun w => rl_y c s n l k w hm)
  obtain ⟨⟨d1, d2⟩, ⟨d3, d4⟩, ⟨d5, d6⟩⟩ := may_in hm
  obtain ⟨b, hb⟩ : ∃ b, s - k - 1 = b := ⟨_, rfl⟩
  rw [hb] at HL HR
  have HB := hid hb
  have HD := hid (And.intro d1 (And.intro d2 (And.intro d3 (And.intro d4 (And.intro d5 d6)))))
  have HOO := hid hO
  have HI := hid hI
  have HLC := hid (And.intro hlc hcm)
  clear hm hb d1 d2 d3 d4 d5 d6 hO hI hlc hcm
  go_enter Try.func8, Try.ntmps8
  go_upto_region 7 with (first | ((with_reducible refine ld_geom rfl (.tmp 2) rfl w.heap.size ?_ P0.out ?_); · rfl) | (go_at_call 37; refine (HL.out _).mono ?_; rintro e w1 ⟨p, q, rfl, hp, _, hq, f⟩; have hq2 : w.heap.size ≤ q := Nat.le_trans HF.out.size hq; replace HF := hid (HF.out.trans f); replace P0 := hid (P0.out.fr f); have HP := hid hp; have HQ := hid hq2; clear f hp hq hq2) | (go_at_call 16; refine (HR.out _).mono ?_; rintro e w2 ⟨⟨la, lr, lq, ld, lt, lx, lu, rfl⟩, f⟩; replace HF := hid (HF.out.trans f); replace HP := hid (HP.out.fr0 f); clear f) | (go_at_call 27; refine (lives_ok _).mono ?_; rintro e w3 ⟨rfl, f⟩; replace HP := hid (HP.out.fr0 (((Fr.refl No w2).alloc _).trans f)); replace HF := hid ((HF.out.alloc _).trans f); clear f))
  go_wp2
  go_loopw [9] (fun i wr => ∃ j : Nat, i = .int .i64 j ∧ j ≤ ln ∧ ∃ R, PA wr p q c s n l k b R ∧ ok R ∧ sound k b R ∧ cnt R 5 = 0 ∧ Fr No w wr) (fun i _ => ln - (intOf i).toNat)
  case atStart =>
    refine ⟨0, rfl, by omega, _, HP.out, ok_rep _, ?_, by rw [cnt_rep, if_neg (by decide)], HF.out⟩
    have := HD.out
    have := HB.out
    unfold sound cac
    simp only [cnt_rep]
    simp
    omega
  case round =>
    obtain ⟨j, rfl, hj, R, hp, ho, hso, hbd, hf⟩ := hrel
    by_cases hj1 : j < ln
    case neg =>
      obtain rfl : j = ln := by omega
      have HP2 := hid hp
      have HF2 := hid hf
      have HS := hid (sound_ok p q c s n l k b R true wr hp ⟨fun _ => hso, fun _ => rfl⟩)
      clear hp hf ho hso hbd
      go_wp2_with (go_at_call 36; refine HS.out.mono ?_; rintro e w3 ⟨rfl, f⟩; replace HF2 := hid (HF2.out.trans f); clear f)
      go_ret
      exact ⟨rfl, HF2.out⟩
    have hj1z : (j : Int) < (ln : Int) := by omega
    by_cases hj3 : (j : Int) < 300
    case neg =>
      have HP2 := hid hp
      have HF2 := hid hf
      have HS := hid (sound_ok p q c s n l k b R true wr hp ⟨fun _ => hso, fun _ => rfl⟩)
      have hd3 : decide ((j : Int) < 300) = false := decide_eq_false hj3
      clear hp hf ho hso hbd
      go_wp2_with (go_at_call 36; refine HS.out.mono ?_; rintro e w3 ⟨rfl, f⟩; replace HF2 := hid (HF2.out.trans f); clear f)
      go_ret
      exact ⟨rfl, HF2.out⟩
    have hO := HOO.out.fr hf
    obtain ⟨⟨op, z, r⟩, hget⟩ : ∃ t, os[j]? = some t := ⟨os[j]'(by rw [hO.1]; exact hj1), List.getElem?_eq_getElem _⟩
    obtain ⟨g, oo, hA, _, hc⟩ := hO.2 (by omega)
    have hz : inI z := HI.out _ (List.mem_of_getElem? hget)
    obtain ⟨x0, x1, x2⟩ := hc j _ hget
    dsimp only at x0 x1 x2 hz
    have hw1 : wrap64 ((j : Int) + 1) = (j : Int) + 1 := w64 _ (by omega)
    subst hA
    have HP2 := hid hp
    have HO2 := hid ho
    have HS2 := hid hso
    have HB2 := hid hbd
    have HFW := hid hf
    have HZ := hid hz
    have HLEN := hid hp.len
    clear hp ho hso hbd hf hO hget hc hz HP HF
    by_cases h5 : r = 5
    · have e5 : (r == 5) = true := by simpa using h5
      go_wp2
      go_roundw
      case rel => exact ⟨j + 1, by go_num, by omega, R, HP2.out.fr0 (fr1 _ _), HO2.out, HS2.out, HB2.out, HFW.out.alloc _⟩
      case measure => first | exact next_m _ _ hj1 hw1 | (simp only [intOf]; omega)
    · have e5 : (r == 5) = false := by simpa using h5
      have HLN2 : ∀ R' : List Int, (R'.length : Int) = s → ok R' → sound k b R' → cnt R' 5 = 0 → wrap64 ((cnt R' 0 : Int) + (cnt R' 4 : Int)) = (cnt R' 0 : Int) + (cnt R' 4 : Int) ∧ ¬ ((cnt R' 0 : Int) + (cnt R' 4 : Int) < 1) := by
        intro R' a1 a2 a3 a4
        have a5 := spare a2 a3 a4 (by have := HB.out; omega)
        have a6 := cnt_le R' 0
        have a7 := cnt_le R' 4
        have a8 := HD.out
        exact ⟨w64 _ (by omega), by omega⟩
      by_cases h1 : op = 1
      · have e1 : (op == 1) = true := by simpa using h1
        obtain ⟨R', hR'⟩ : ∃ R', tkR k R r = R' := ⟨_, rfl⟩
        have a1 : (R'.length : Int) = s := by rw [← hR', tk_len]; exact HLEN.out
        have a2 : ok R' := by rw [← hR']; exact tk_ok HO2.out
        have a3 : sound k b R' := by rw [← hR']; exact tk_sound HS2.out
        have a4 : cnt R' 5 = 0 := by rw [← hR']; exact tk_bad HB2.out
        obtain ⟨v1, v2⟩ := HLN2 R' a1 a2 a3 a4
        have HO2 := hid a2
        have HS2 := hid a3
        have HB2 := hid a4
        have HT := hid (fun W (h : PA W p q c s n l k b R) => take_ok p q c s n l k b R r W h)
        rw [hR'] at HT
        clear HLN2 a1 a2 a3 a4 hR'
        go_upto_region 15 with (go_at_call 32; refine (HT.out _ (HP2.out.fr0 (fr1 wr _))).mono ?_; rintro e w2 ⟨rfl, hp2, f⟩; have HF := hid ((HFW.out.alloc _).step f (fun i hi e => by have := HQ.out; omega)); have HP2 := hid hp2; clear f hp2)
        go_wp2_with (go_at_call 38; refine (count_ok p q c s n l k b _ _ _ HP2.out).mono ?_; rintro e w3 ⟨rfl, f⟩; replace HF := hid (HF.out.trans f); replace HP2 := hid (HP2.out.fr0 f); clear f)
        go_roundw
        case rel => exact ⟨j + 1, by go_num, by omega, _, HP2.out, HO2.out, HS2.out, HB2.out, HF.out⟩
        case measure => first | exact next_m _ _ hj1 hw1 | (simp only [intOf]; omega)
      · have e1 : (op == 1) = false := by simpa using h1
        obtain ⟨R', hR'⟩ : ∃ R', stR c s b R z r = R' := ⟨_, rfl⟩
        have a1 : (R'.length : Int) = s := by rw [← hR', st_len]; exact HLEN.out
        have a2 : ok R' := by rw [← hR']; exact st_ok HO2.out
        have a3 : sound k b R' := by rw [← hR']; exact st_sound HLEN.out HS2.out
        have a4 : cnt R' 5 = 0 := by rw [← hR']; exact st_bad HLEN.out h5 HB2.out
        obtain ⟨v1, v2⟩ := HLN2 R' a1 a2 a3 a4
        have HT := hid (fun W (h : PA W p q c s n l k b R) => set_ok p q c s n l k b R z r W h HZ.out HO2.out)
        have HO2 := hid a2
        have HS2 := hid a3
        have HB2 := hid a4
        rw [hR'] at HT
        clear HLN2 a1 a2 a3 a4 hR'
        go_upto_region 15 with (go_at_call 34; refine (HT.out _ (HP2.out.fr0 (fr1 wr _))).mono ?_; rintro e w2 ⟨rfl, hp2, f⟩; have HF := hid ((HFW.out.alloc _).step f (fun i hi e => by have := HQ.out; omega)); have HP2 := hid hp2; clear f hp2)
        go_wp2_with (go_at_call 38; refine (count_ok p q c s n l k b _ _ _ HP2.out).mono ?_; rintro e w3 ⟨rfl, f⟩; replace HF := hid (HF.out.trans f); replace HP2 := hid (HP2.out.fr0 f); clear f)
        go_roundw
        case rel => exact ⟨j + 1, by go_num, by omega, _, HP2.out, HO2.out, HS2.out, HB2.out, HF.out⟩
        case measure => first | exact next_m _ _ hj1 hw1 | (simp only [intOf]; omega)
theorem spares_ok (c s n l k : Int) (A : Option Addr) (ln cp : Nat) (os : List (Int × Int × Int)) (w : World) (hs : inI s) (hO : PlOps.RdO w A ln os) (hI : ∀ t ∈ os, inI t.2.1) (hlc : ln ≤ cp) (hcm : cp ≤ maxLen) : Calls Try.prog 8 #[.agg #[.int .i64 c, .int .i64 s, .int .i64 n, .int .i64 l, .int .i64 k], .slice A ln cp] w fun e w' => e = .returned (.bool true) ∧ Fr No w w' := by
  by_cases hm : mayG ⟨c, s, n, l, k⟩
  · exact spares_y c s n l k A ln cp os w hm hO hI hlc hcm
  · exact spares_n c s n l k A ln cp w hs hm
end Go.Proofs.Ytecngikdfplibaa.PlI
