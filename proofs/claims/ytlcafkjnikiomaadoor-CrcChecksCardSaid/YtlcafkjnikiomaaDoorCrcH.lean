/- The walks of package crc's laws: nibbles, sums, checks. Condition: the table is as its text lays it. -/
import Derived.Test.YtlcafkjnikiomaaDoorCrcG
namespace Go.Proofs.YtlcafkjnikiomaaDoor.CrcH
open Go.RowKit MSep MFrame CrcM CrcA CrcB CrcC CrcD CrcE CrcF CrcG

theorem stp_zero (r : Nat) : stp r 0 = s0 r := by
  unfold stp s0
  by_cases h : r % 2 = 1
  · rw [if_pos (by omega), if_pos h]
  · rw [if_neg (by omega), if_neg h]

theorem nibbles_walk (i : Int) (w : World) (hT : TabAt w) : Calls Tryd.prog 4 #[.int .i64 i] w fun e w' => e = .returned (.bool true) ∧ Fr No w w' := by
  have HT := hid hT
  have HN := hid (fun (w1 : World) (f : Fr No w w1) => nibble_any i w1 (hT.fr f (fun h => h)))
  clear hT
  by_cases h : 0 ≤ i ∧ i < 16
  · obtain ⟨j, rfl⟩ := Int.eq_ofNat_of_zero_le h.1
    have h1 : (j : Int) < 16 := h.2
    rw [if_pos h, Int.toNat_natCast] at HN
    clear h
    go_enter Tryd.func4, Tryd.ntmps4
    go_wp2
    go_loop [3, 4] (fun v k => ∃ m : Nat, m ≤ 4 ∧ k = .int .i64 m ∧ v = .int .u32 (it m j : Nat)) (fun _ k => 4 - (intOf k).toNat)
    case atStart => exact ⟨0, by omega, rfl, rfl⟩
    case round =>
      obtain ⟨m, hm, rfl, rfl⟩ := hrel
      by_cases hlt : m < 4
      · have hm3 : (m : Int) < 4 := by omega
        have HS := hid (step_any (it m j) 0 w (it_lt m (by omega)))
        rw [stp_zero, show s0 (it m j) = it (m + 1) j from rfl] at HS
        have hm4 : m + 1 ≤ 4 := hlt
        clear hlt hm
        go_wp2_with fail
        refine HS.out.mono ?_
        rintro e w' ⟨rfl, rfl⟩
        go_wp2
        go_round
        case rel => exact ⟨m + 1, hm4, by go_num, rfl⟩
        case measure => simp [intOf]; omega
      · obtain rfl : m = 4 := by omega
        have hge : ¬ ((4 : Nat) : Int) < 4 := by omega
        clear hlt hm
        go_wp2_with fail
        refine (lives_any w HT.out).mono ?_
        rintro e w1 ⟨rfl, F1⟩
        have HF := hid F1
        clear F1
        go_wp2_with fail
        refine (HN.out w1 HF.out).mono ?_
        rintro e w' ⟨rfl, rfl⟩
        go_wp2
        go_ret
        exact ⟨rfl, HF.out⟩
  · rw [if_neg h] at HN
    have HH := hid h
    rcases Int.lt_or_le i 0 with h0 | h0
    all_goals
      try have h2 : 16 ≤ i := by omega
      clear h
      go_enter Tryd.func4, Tryd.ntmps4
      go_wp2_with fail
      refine (lives_any w HT.out).mono ?_
      rintro e w1 ⟨rfl, F1⟩
      have HF := hid F1
      clear F1
      go_wp2_with fail
      refine (HN.out w1 HF.out).mono ?_
      rintro e w' ⟨rfl, rfl⟩
      go_wp2
      go_ret
      exact ⟨rfl, HF.out⟩

theorem sums_walk (sum : Nat) (A : Option Addr) (l c : Nat) (zs : List Int) (w : World) (hs : sum < 4294967296) (hb : IsB w A l c zs) (hT : TabAt w) : Calls Tryd.prog 3 #[.int .u32 sum, .slice A l c] w fun e w' => e = .returned (.bool true) ∧ Fr No w w' := by
  have hl : l ≤ maxLen := Nat.le_trans hb.2.1 hb.2.2.1
  have HL := hid (lives_any w hT)
  have H1 := hid (fun (w1 : World) (f : Fr No w w1) => sum_any A l c zs w1 (hb.1.fr f (fun _ _ _ h => h)) hb.2.2.2 hl (hT.fr f (fun h => h)))
  have H2 := hid (fun (w1 : World) (f : Fr No w w1) => refSum_any A l c zs w1 (hb.1.fr f (fun _ _ _ h => h)) hb.2.2.2 hl)
  have H3 := hid (fun (w1 : World) (f : Fr No w w1) => on_any sum A l c zs w1 hs (hb.1.fr f (fun _ _ _ h => h)) hb.2.2.2 hl (hT.fr f (fun h => h)))
  have H4 := hid (fun (w1 : World) (f : Fr No w w1) => refOn_any sum A l c zs w1 hs (hb.1.fr f (fun _ _ _ h => h)) hb.2.2.2 hl)
  clear hs hb hT hl
  go_enter Tryd.func3, Tryd.ntmps3
  go_wp2_with fail
  refine HL.out.mono ?_
  rintro e w1 ⟨rfl, F1⟩
  have HF := hid F1
  clear F1
  go_wp2_with fail
  refine (H1.out w1 HF.out).mono ?_
  rintro e w' ⟨rfl, rfl⟩
  go_wp2_with fail
  refine (H2.out w1 HF.out).mono ?_
  rintro e w' ⟨rfl, rfl⟩
  go_wp2_with fail
  refine (H3.out w1 HF.out).mono ?_
  rintro e w' ⟨rfl, rfl⟩
  go_wp2_with fail
  refine (H4.out w1 HF.out).mono ?_
  rintro e w' ⟨rfl, rfl⟩
  go_wp2
  go_ret
  exact ⟨rfl, HF.out⟩

theorem checks_walk (A : Option Addr) (l c : Nat) (zs : List Int) (w : World) (hb : IsB w A l c zs) (hT : TabAt w) : Calls Tryd.prog 9 #[.slice A l c] w fun e w' => e = .returned (.bool true) ∧ Fr No w w' := by
  have HL := hid (lives_any w hT)
  have H1 := hid (fun (w1 : World) (f : Fr No w w1) => check_any A l c zs w1 (hb.fr f) (hT.fr f (fun h => h)))
  have H2 := hid (fun (w1 : World) (f : Fr No w w1) => refCheck_any A l c zs w1 (hb.fr f))
  obtain ⟨b, hb2⟩ : ∃ b, (l == 128 && ld zs 4 == onN 0 (zs.drop 4)) = b := ⟨_, rfl⟩
  rw [hb2] at H1 H2
  clear hb hT hb2
  go_enter Tryd.func9, Tryd.ntmps9
  go_wp2_with fail
  refine HL.out.mono ?_
  rintro e w1 ⟨rfl, F1⟩
  have HF := hid F1
  clear F1
  go_wp2_with fail
  refine (H1.out w1 HF.out).mono ?_
  rintro e w' ⟨rfl, rfl⟩
  go_wp2_with fail
  refine (H2.out w1 HF.out).mono ?_
  rintro e w2 ⟨rfl, F2⟩
  have HF2 := hid (HF.out.trans F2)
  clear F2
  cases b
  all_goals
    go_wp2
    go_ret
    exact ⟨rfl, HF2.out⟩
end Go.Proofs.YtlcafkjnikiomaaDoor.CrcH
