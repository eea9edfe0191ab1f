/- Contracts of package crc's sums and of the plain ones. Conditions: the table is as its text lays it; what is handed in reads as bytes. -/
import Derived.Test.YtkkbgbpmpcoffaaDoorCrcM
import Derived.Test.YtkkbgbpmpcoffaaDoorFrameB
namespace Go.Proofs.YtkkbgbpmpcoffaaDoor.CrcA
open Go.RowKit MSep MFrame CrcM

/-- The table's cells hold its sixteen numbers. -/
def TabAt (w : World) : Prop := ∀ (i x : Nat), tab[i]? = some x → w.cell? ⟨0, i, none⟩ = some (.int .u32 x)
theorem TabAt.fr {w w' : World} {S : Nat → Prop} (h : TabAt w) (hf : Fr S w w') (hn : ¬ S 0) : TabAt w' := fun i x hi => hf.cell_some (h i x hi) hn
theorem tab_it {w : World} (h : TabAt w) (i : Nat) (hi : i < 16) : w.cell? ⟨0, i, none⟩ = some (.int .u32 (it 4 i : Nat)) := h i _ (tab_eq ⟨i, hi⟩)

theorem nx {r : Nat} (h : r < 4294967296) : bits BinOp.xor IntKind.u32 IntKind.u32.max (r : Int) = (nt r : Nat) := by
  have := u32_xor_nat 4294967295 r (by omega) h
  rw [show IntKind.u32.max = ((4294967295 : Nat) : Int) from by decide, this, nt_xor h, Nat.xor_comm]
theorem x2 {a b : Nat} (ha : a < 4294967296) (hb : b < 4294967296) : bits BinOp.xor IntKind.u32 (a : Int) (b : Int) = ((a ^^^ b : Nat) : Int) := u32_xor_nat a b ha hb
theorem and15 {a : Nat} (ha : a < 4294967296) : bits BinOp.and IntKind.u32 (a : Int) 15 = ((a % 16 : Nat) : Int) := by
  have := u32_and_nat a 15 ha (by omega)
  rw [nat_mask4] at this
  exact this

set_option maxRecDepth 100000 in
theorem step_any (r b : Nat) (w : World) (hr : r < 4294967296) : Calls Tryd.prog 78 #[.int .u32 r, .int .u32 b] w fun e w' => e = .returned (.int .u32 (stp r b : Nat)) ∧ w = w' := by
  by_cases h : r % 2 = b
  · have hb : ((r : Int) % 2 != (b : Int)) = false := by rw [bne_eq_false_iff_eq]; omega
    have hs : stp r b = r / 2 := by rw [stp, if_neg (by omega)]
    rw [hs]
    go_enter Tryd.func78, Tryd.ntmps78
    go_wp2
    go_ret
    exact ⟨rfl, rfl⟩
  · have hb : ((r : Int) % 2 != (b : Int)) = true := by rw [bne_iff_ne]; omega
    have hs : stp r b = r / 2 ^^^ 2197175160 := by rw [stp, if_pos h]
    rw [hs]
    go_enter Tryd.func78, Tryd.ntmps78
    go_wp2
    go_ret
    have hx := x2 (a := r / 2) (b := 2197175160) (by omega) (by omega)
    exact ⟨congrArg (fun z => Ending.returned (Value.int .u32 z)) hx, rfl⟩

set_option maxRecDepth 100000 in
theorem on_any (sum : Nat) (A : Option Addr) (l c : Nat) (zs : List Int) (w : World) (hs : sum < 4294967296) (hb : Rd w A l (zs.map (Value.int .u8))) (hz : ∀ x ∈ zs, 0 ≤ x ∧ x ≤ 255) (hl : l ≤ maxLen) (hT : TabAt w) :
    Calls Tryd.prog 57 #[.int .u32 sum, .slice A l c] w fun e w' => e = .returned (.int .u32 (onN sum zs : Nat)) ∧ w = w' := by
  unfold maxLen at hl
  have hlen : zs.length = l := by simpa using hb.1
  have hnx := nx hs
  have HB := hid hb
  have HZ := hid hz
  have HT := hid hT
  have HLEN := hid hlen
  clear hb hz hT hlen
  go_enter Tryd.func57, Tryd.ntmps57
  go_wp2
  go_loop [5, 12] (fun r i => ∃ k : Nat, k ≤ l ∧ i = .int .i64 k ∧ r = .int .u32 (reg (nt sum) (zs.take k) : Nat)) (fun _ i => l - (intOf i).toNat)
  case atStart => exact ⟨0, by omega, rfl, rfl⟩
  case round =>
    obtain ⟨k, hk, rfl, rfl⟩ := hrel
    obtain ⟨R, hR⟩ : ∃ R, reg (nt sum) (zs.take k) = R := ⟨_, rfl⟩
    have hR2 : R < 4294967296 := by rw [← hR]; exact reg_lt _ (fun x hx => HZ.out x (List.mem_of_mem_take hx)) (nt_lt _)
    rw [hR]
    by_cases hlt : k < l
    · have hkz : k < zs.length := by rw [HLEN.out]; exact hlt
      obtain ⟨d, o, rfl, hd, hc⟩ := HB.out.2 (by omega)
      have hz2 := HZ.out zs[k] (List.getElem_mem hkz)
      obtain ⟨x, hx⟩ := Int.eq_ofNat_of_zero_le hz2.1
      have hcell : w.cell? ⟨d, o + k, none⟩ = some (.int .u8 (x : Nat)) := hc k _ (by rw [List.getElem?_map, List.getElem?_eq_getElem hkz, hx]; rfl)
      have hx2 : x < 256 := by omega
      have hnext : Hid (reg (nt sum) (zs.take (k + 1)) = it 8 (R ^^^ x)) := by
        rw [Hid, List.take_succ_eq_append_getElem hkz, reg_snoc, hR, hx]
        rfl
      have hxx := x2 hR2 (show x < 4294967296 by omega)
      clear hc hR hz2 hx hkz
      have hx3 : (x : Int) < 4294967296 := by omega
      go_wp2
      go_loop [5, 20] (fun r i => ∃ m : Nat, m ≤ 2 ∧ i = .int .i64 m ∧ r = .int .u32 (it (4 * m) (R ^^^ x) : Nat)) (fun _ i => 2 - (intOf i).toNat)
      case atStart => exact ⟨0, by omega, rfl, rfl⟩
      case round =>
        obtain ⟨m, hm, rfl, rfl⟩ := hrel
        by_cases hm2 : m < 2
        · obtain ⟨q, hq⟩ : ∃ q, it (4 * m) (R ^^^ x) = q := ⟨_, rfl⟩
          have hq2 : q < 4294967296 := by rw [← hq]; exact it_lt _ (xor_lt hR2 (by omega))
          have ha := and15 hq2
          have ht := tab_it HT.out (q % 16) (by omega)
          have hn := x2 (a := it 4 (q % 16)) (b := q / 16) (it_lt 4 (by omega)) (by omega)
          rw [nib] at hn
          have HQ := hid hq
          rw [hq]
          obtain ⟨p, hp⟩ : ∃ p, q % 16 = p := ⟨_, rfl⟩
          obtain ⟨t, ht2⟩ : ∃ t, it 4 p = t := ⟨_, rfl⟩
          obtain ⟨u, hu⟩ : ∃ u, it 4 q = u := ⟨_, rfl⟩
          have hp2 : (p : Int) < 16 := by omega
          rw [hp] at ha ht hn
          rw [ht2] at ht hn
          rw [hu] at hn
          have hn' : bits BinOp.xor IntKind.u32 (t : Int) ((q : Int) / 16) = (u : Int) := hn
          have HU := hid hu
          clear hq hp ht2 hn hu
          have hm3 : (m : Int) < 2 := by omega
          clear hm hm2
          go_wp2
          go_roundw
          case rel => exact ⟨m + 1, by omega, by go_num, by rw [show 4 * (m + 1) = 4 + 4 * m by omega, it_add, HQ.out, HU.out]⟩
          case measure => simp [intOf]; omega
        · obtain rfl : m = 2 := by omega
          have hge : ¬ ((2 : Nat) : Int) < 2 := by omega
          clear hm hm2
          go_wp2
          go_roundw
          case rel => exact ⟨k + 1, by omega, by go_num, by rw [hnext.out]⟩
          case measure => simp [intOf]; omega
    · obtain rfl : k = l := by omega
      rw [List.take_of_length_le (by rw [HLEN.out]; exact Nat.le_refl _)] at hR
      have hn := nx hR2
      have HR := hid hR
      clear hR
      go_wp2
      go_ret
      exact ⟨by rw [onN, HR.out]; rfl, rfl⟩

set_option maxRecDepth 100000 in
theorem sum_any (A : Option Addr) (l c : Nat) (zs : List Int) (w : World) (hb : Rd w A l (zs.map (Value.int .u8))) (hz : ∀ x ∈ zs, 0 ≤ x ∧ x ≤ 255) (hl : l ≤ maxLen) (hT : TabAt w) :
    Calls Tryd.prog 25 #[.slice A l c] w fun e w' => e = .returned (.int .u32 (onN 0 zs : Nat)) ∧ w = w' := by
  have h := on_any 0 A l c zs w (by omega) hb hz hl hT
  have H := hid h
  clear h hb hz hl hT
  go_enter Tryd.func25, Tryd.ntmps25
  go_wp2_with (go_at_call 57; refine H.out.mono ?_; rintro e w' ⟨rfl, rfl⟩)
  go_ret
  exact ⟨rfl, rfl⟩
end Go.Proofs.YtkkbgbpmpcoffaaDoor.CrcA
