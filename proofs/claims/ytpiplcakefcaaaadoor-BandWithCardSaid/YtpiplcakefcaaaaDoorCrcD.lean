/- Contracts of the plain sums. Condition: what is handed in reads as bytes. -/
import Derived.Test.YtpiplcakefcaaaaDoorCrcA
namespace Go.Proofs.YtpiplcakefcaaaaDoor.CrcD
open Go.RowKit MSep MFrame CrcM CrcA

theorem step_at (r b : Nat) (b' : Int) (w : World) (hr : r < 4294967296) (hb : b' = b) : Calls Tryd.prog 111 #[.int .u32 r, .int .u32 b'] w fun e w' => e = .returned (.int .u32 (stp r b : Nat)) ∧ w = w' := by
  rw [hb]
  exact step_any r b w hr

set_option maxRecDepth 100000 in
theorem refOn_any (sum : Nat) (A : Option Addr) (l c : Nat) (zs : List Int) (w : World) (hs : sum < 4294967296) (hb : Rd w A l (zs.map (Value.int .u8))) (hz : ∀ x ∈ zs, 0 ≤ x ∧ x ≤ 255) (hl : l ≤ maxLen) :
    Calls Tryd.prog 92 #[.int .u32 sum, .slice A l c] w fun e w' => e = .returned (.int .u32 (onN sum zs : Nat)) ∧ w = w' := by
  unfold maxLen at hl
  have hlen : zs.length = l := by simpa using hb.1
  have hnx := nx hs
  have HB := hid hb
  have HZ := hid hz
  have HLEN := hid hlen
  clear hb hz hlen
  go_enter Tryd.func92, Tryd.ntmps92
  go_wp2
  go_loop [5, 6] (fun r i => ∃ k : Nat, k ≤ l ∧ i = .int .i64 k ∧ r = .int .u32 (reg (nt sum) (zs.take k) : Nat)) (fun _ i => l - (intOf i).toNat)
  case atStart => exact ⟨0, by omega, rfl, rfl⟩
  case round =>
    obtain ⟨k, hk, rfl, rfl⟩ := hrel
    obtain ⟨R, hR⟩ : ∃ R, reg (nt sum) (zs.take k) = R := ⟨_, rfl⟩
    have hR2 : R < 4294967296 := by rw [← hR]; exact reg_lt _ (fun x hx => HZ.out x (List.mem_of_mem_take hx)) (nt_lt _)
    rw [hR]
    by_cases hlt : k < l
    · have hkz : k < zs.length := by rw [HLEN.out]; exact hlt
      obtain ⟨d, o, rfl, hd, hc⟩ := HB.out.2 (by omega)
      have hz2 := HZ.out zs[k] (List.getElem_mem hkz)
      obtain ⟨x, hx⟩ := Int.eq_ofNat_of_zero_le hz2.1
      have hcell : w.cell? ⟨d, o + k, none⟩ = some (.int .u8 (x : Nat)) := hc k _ (by rw [List.getElem?_map, List.getElem?_eq_getElem hkz, hx]; rfl)
      have hx2 : x < 256 := by omega
      have hnext : Hid (reg (nt sum) (zs.take (k + 1)) = it 8 (R ^^^ x)) := by
        rw [Hid, List.take_succ_eq_append_getElem hkz, reg_snoc, hR, hx]
        rfl
      have HX := hid hx2
      clear hc hR hz2 hx hkz
      have hx3 : (x : Int) < 256 := by omega
      go_wp2
      go_loop [5, 7] (fun r i => ∃ m : Nat, m ≤ 8 ∧ i = .int .i64 m ∧ r = .int .u32 (prt m R x : Nat)) (fun _ i => 8 - (intOf i).toNat)
      case atStart => exact ⟨0, by omega, rfl, by rw [prt_zero]⟩
      case round =>
        obtain ⟨m, hm, rfl, rfl⟩ := hrel
        by_cases hm2 : m < 8
        · have hm3 : (m : Int) < 8 := by omega
          have HM := hid hm2
          have HP := hid (prt_step m R x)
          have HL := hid (prt_lt m R x hR2 hx2)
          clear hm hm2 hx2
          go_wp2_with fail
          refine (step_at (prt m R x) (x / 2 ^ m % 2) _ w HL.out (by push_cast; rfl)).mono ?_
          rintro e w' ⟨rfl, rfl⟩
          rw [HP.out]
          go_wp2
          go_round
          case rel => exact ⟨m + 1, HM.out, by go_num, rfl⟩
          case measure => simp [intOf]; omega
        · obtain rfl : m = 8 := by omega
          have hge : ¬ ((8 : Nat) : Int) < 8 := by omega
          rw [prt_all R x hx2]
          clear hm hm2 hx2
          go_wp2
          go_round
          case rel => exact ⟨k + 1, by omega, by go_num, by rw [hnext.out]⟩
          case measure => simp [intOf]; omega
    · obtain rfl : k = l := by omega
      rw [List.take_of_length_le (by rw [HLEN.out]; exact Nat.le_refl _)] at hR
      have hn := nx hR2
      have HR := hid hR
      clear hR
      go_wp2
      go_ret
      exact ⟨by rw [onN, HR.out]; rfl, rfl⟩

set_option maxRecDepth 100000 in
theorem refSum_any (A : Option Addr) (l c : Nat) (zs : List Int) (w : World) (hb : Rd w A l (zs.map (Value.int .u8))) (hz : ∀ x ∈ zs, 0 ≤ x ∧ x ≤ 255) (hl : l ≤ maxLen) :
    Calls Tryd.prog 49 #[.slice A l c] w fun e w' => e = .returned (.int .u32 (onN 0 zs : Nat)) ∧ w = w' := by
  have h := refOn_any 0 A l c zs w (by omega) hb hz hl
  have H := hid h
  clear h hb hz hl
  go_enter Tryd.func49, Tryd.ntmps49
  go_wp2_with fail
  refine H.out.mono ?_
  rintro e w' ⟨rfl, rfl⟩
  go_wp2
  go_ret
  exact ⟨rfl, rfl⟩
end Go.Proofs.YtpiplcakefcaaaaDoor.CrcD
