/- Contracts of package crc's step, pass, Zeros and Join. No conditions but the bounds that are named. -/
import Derived.Test.YtlcafkjnikiomaaDoorCrcB
namespace Go.Proofs.YtlcafkjnikiomaaDoor.CrcC
open Go.RowKit MSep MFrame CrcM CrcA CrcB

/-- Behind n rounds of 'step'. -/
def StI (w : World) (g0 g1 : Nat) (i : Value) (wr : World) : Prop := ∃ (n : Nat) (cs : Array Value), n ≤ 31 ∧ i = .int .i64 n ∧ (∃ z, Blk wr g0 46 z ∧ z.size = 32) ∧ Blk wr g1 46 cs ∧ cs.size = 32 ∧ (∀ j, j < n + 1 → cs[j]? = some (.int .u32 (it 1 (2 ^ j) : Nat))) ∧ Fr No w wr
theorem stI_start (w : World) (z1 z2 : Array Value) (h1 : z1.size = 32) (h2 : z2.size = 32) (h3 : z2[0]? = some (.int .u32 2197175160)) :
    StI w w.heap.size (w.heap.size + 1) (.int .i64 0) ((w.alloc (.cells z1 46)).alloc (.cells z2 46)) := by
  have e1 := (Blk.new w 46 z1).alloc (.cells z2 46)
  have e2 := Blk.new (w.alloc (.cells z1 46)) 46 z2
  rw [World.size_alloc] at e2
  refine ⟨0, z2, by omega, rfl, ⟨z1, e1, h1⟩, e2, h2, fun j hj => ?_, ((Fr.refl _ _).alloc _).alloc _⟩
  obtain rfl : j = 0 := by omega
  exact h3
theorem it1_pow (j : Nat) : it 1 (2 ^ (j + 1)) = 2 ^ j := by
  rw [it, it, Nat.pow_succ, Nat.mul_comm, s0_even]
theorem stI_step (w : World) (g0 g1 n : Nat) (z cs : Array Value) (w5 : World) (hn : n + 1 ≤ 31) (b0 : Blk w5 g0 46 z) (hz : z.size = 32) (b1 : Blk w5 g1 46 cs) (hcs : cs.size = 32)
    (hfill : ∀ j, j < n + 1 → cs[j]? = some (.int .u32 (it 1 (2 ^ j) : Nat))) (hf : Fr No w w5) (n1 : g1 ≠ g0) (ns : w.heap.size ≤ g1) (v : Int) (hv : v = (2 ^ n : Nat)) :
    StI w g0 g1 (.int .i64 ((n : Int) + 1)) (w5.setCell ⟨g1, n + 1, none⟩ (.int .u32 v)) := by
  refine ⟨n + 1, _, hn, by go_num, ⟨z, b0.far (p := ⟨g1, n + 1, none⟩) n1.symm _, hz⟩, b1.set_ (n + 1) _, by simp [hcs], fun j hj => ?_, hf.setCell (p := ⟨g1, n + 1, none⟩) (fun h => absurd h (by simp; omega)) _⟩
  rcases Nat.lt_or_ge j (n + 1) with h | h
  · rw [Array.getElem?_setIfInBounds_ne (by omega)]
    exact hfill j h
  · obtain rfl : j = n + 1 := by omega
    rw [Array.getElem?_setIfInBounds_self_of_lt (by omega), it1_pow, hv]

theorem pow_in (n : Nat) (h : n + 1 ≤ 31) : (2 ^ n : Int) % 4294967296 = ((2 ^ n : Nat) : Int) := by
  have h1 : 2 ^ n < 4294967296 := Nat.pow_lt_pow_right (a := 2) (n := 32) (m := n) (by omega) (by omega)
  have h2 : ((2 : Int) ^ n) = ((2 ^ n : Nat) : Int) := by push_cast; rfl
  rw [h2]
  obtain ⟨q, hq⟩ : ∃ q : Nat, 2 ^ n = q := ⟨_, rfl⟩
  rw [hq] at h1 ⊢
  omega

theorem step_is (w : World) : Calls Tryd.prog 25 #[] w fun e w' => e = .returned (.agg (MA 1)) ∧ Fr No w w' := by
  go_enter Tryd.func25, Tryd.ntmps25
  go_wp2
  go_loopw [4] (fun i wr => StI w w.heap.size (w.heap.size + 1) i wr) (fun i _ => 31 - (intOf i).toNat)
  case atStart => exact stI_start w _ _ rfl rfl rfl
  case round =>
    obtain ⟨n, cs, hn, rfl, ⟨z, b0, hz⟩, b1, hcs, hfill, hf⟩ := hrel
    obtain ⟨g0, hg0⟩ : ∃ g, w.heap.size = g := ⟨_, rfl⟩
    obtain ⟨g1, hg1⟩ : ∃ g, w.heap.size + 1 = g := ⟨_, rfl⟩
    have N1 := hid (show g1 ≠ g0 by omega)
    have NS := hid (show w.heap.size ≤ g1 ∧ w.heap.size ≤ g0 by omega)
    rw [hg1] at b1
    rw [hg0] at b0
    rw [hg1, hg0]
    have B0 := hid b0
    have B1 := hid b1
    have F0 := hid hf
    have HFI := hid hfill
    have HCS := hid hcs
    have HZ := hid hz
    by_cases hlt : n < 31
    · have hn3 : (n : Int) < 31 := by omega
      have hlt2 : n + 1 ≤ 31 := hlt
      obtain ⟨vv, hvv⟩ : ∃ v, cs[n + 1]? = some v := ⟨_, Array.getElem?_eq_getElem (by omega)⟩
      have fz := b1.frozen (n + 1)
      have cz := (b1.cell (n + 1)).trans hvv
      clear b0 b1 hf hfill hcs hz hg0 hg1 hn hlt hvv
      go_wp2
      go_roundw
      case rel => exact stI_step w _ _ n z cs wr hlt2 B0.out HZ.out B1.out HCS.out HFI.out F0.out N1.out NS.out.1 _ (pow_in n hlt2)
      case measure => simp [intOf]; omega
    · obtain rfl : n = 31 := by omega
      have hge : ¬ ((31 : Nat) : Int) < 31 := by omega
      have HI2 := hid (info_matrix cs hcs)
      have HO := hid (show z.size = cs.size by omega)
      have hcc := MA_eq 1 cs hcs hfill
      have HC := hid hcc
      have H1 := hid (show cs.all (·.oneCell') = true by rw [hcc]; exact MA_one _)
      clear b0 b1 hf hfill hcs hz hg0 hg1 hn hlt hcc
      go_wp2_with (first | (refine wpList_load_row rfl 46 (.tmp 1) rfl g1 rfl 46 cs (0, 0) _ B1.out Tryd.underlying46 rfl HI2.out ?_) | (refine wpList_store_row rfl 46 (.tmp 0) (.tmp 13) rfl g0 cs rfl rfl 46 z B0.out HI2.out HO.out H1.out ?_))
      have C12 := B0.out.setRow cs
      refine bodyPost_ret (v := .agg (MA 1)) ?_ rfl ?_
      · rw [← HC.out]
        exact results_cell_row rfl _ _ g0 46 cs (0, 0) _ rfl C12 Tryd.underlying46 rfl HI2.out
      · exact ⟨rfl, F0.out.setRow (fun h => absurd h (by have := NS.out; omega)) _⟩
/-- Behind m doublings of 'pass'. -/
def PaI (w : World) (g : Nat) (i : Value) (wr : World) : Prop := ∃ m : Nat, m ≤ 3 ∧ i = .int .i64 m ∧ Blk wr g 46 (MA (2 ^ m)) ∧ Fr No w wr
theorem paI_start (w w1 : World) (z : Array Value) (hf : Fr No w w1) : PaI w w1.heap.size (.int .i64 0) ((w1.alloc (.cells z 46)).setRow w1.heap.size (MA 1)) :=
  ⟨0, by omega, rfl, (Blk.new w1 _ z).setRow _, (hf.alloc _).setRow (fun h => absurd h (by have := hf.size; omega)) _⟩

/-- Behind some rounds of 'pass's second loop. -/
def PbI (r n : Nat) (w : World) (g : Nat) (u i : Value) (wr : World) : Prop := ∃ (R K m : Nat) (x : Int), u = .int .u32 R ∧ i = .int .i64 x ∧ (x = m ∨ x < 0 ∧ m = 0) ∧ R < 4294967296 ∧ m ≤ 2 ^ 63 - 1 ∧ Blk wr g 46 (MA K) ∧ it (K * m) R = it (8 * n) r ∧ Fr No w wr
theorem pb_half (m : Nat) : Value.int .i64 ((m : Int) / 2) = .int .i64 ((m / 2 : Nat) : Int) := by simp
theorem pb_odd (K R m : Nat) (h : m % 2 = 1) : it (2 * K * (m / 2)) (it K R) = it (K * m) R := by
  rw [← it_add]
  congr 1
  have : m = 2 * (m / 2) + 1 := by omega
  conv => rhs; rw [this]
  rw [Nat.mul_add, ← Nat.mul_assoc, Nat.mul_comm K 2, Nat.mul_one]
theorem pb_even (K R m : Nat) (h : m % 2 = 0) : it (2 * K * (m / 2)) R = it (K * m) R := by
  congr 1
  have : m = 2 * (m / 2) := by omega
  conv => rhs; rw [this]
  rw [← Nat.mul_assoc, Nat.mul_comm K 2]

theorem pass_any (r : Nat) (n : Int) (w : World) (hr : r < 4294967296) (hn : n ≤ maxLen) : Calls Tryd.prog 24 #[.int .u32 r, .int .i64 n] w fun e w' => e = .returned (.int .u32 (it (8 * n.toNat) r : Nat)) ∧ Fr No w w' := by
  unfold maxLen at hn
  have HR := hid hr
  go_enter Tryd.func24, Tryd.ntmps24
  go_wp2_with fail
  refine (step_is w).mono ?_
  rintro e w1 ⟨rfl, F1⟩
  have HF1 := hid F1
  have HI := hid (info_matrix (MA 1) (MA_size 1))
  have H1 := hid (MA_one 1)
  have HL := hid (show 32 = (MA 1).size from (MA_size 1).symm)
  clear F1
  go_wp2_with (refine wpList_store_row rfl 46 (.tmp 5) (.tmp 6) rfl w1.heap.size (MA 1) rfl rfl 46 _ (heap_alloc_new w1 _) HI.out HL.out H1.out ?_)
  go_loopw [7] (fun i wr => PaI w w1.heap.size i wr) (fun i _ => 3 - (intOf i).toNat)
  case atStart => exact paI_start w w1 _ HF1.out
  case round =>
    obtain ⟨m, hm, rfl, b0, hf⟩ := hrel
    obtain ⟨g0, hg0⟩ : ∃ g, w1.heap.size = g := ⟨_, rfl⟩
    have NS := hid (show w.heap.size ≤ g0 by have := HF1.out.size; omega)
    rw [hg0] at b0 ⊢
    have B0 := hid b0
    have HF := hid hf
    clear b0 hf hg0
    by_cases hlt : m < 3
    · have hlt3 : (m : Int) < 3 := by omega
      obtain ⟨M, hM⟩ : ∃ M, MA (2 ^ m) = M := ⟨_, rfl⟩
      have hT := twice_any (2 ^ m) wr
      rw [show 2 * 2 ^ m = 2 ^ (m + 1) by rw [Nat.pow_succ, Nat.mul_comm], hM] at hT
      rw [hM] at B0
      obtain ⟨M2, hM2⟩ : ∃ M, MA (2 ^ (m + 1)) = M := ⟨_, rfl⟩
      rw [hM2] at hT
      have HT := hid hT
      have HI1 := hid (info_matrix M (hM ▸ MA_size _))
      have HI2 := hid (info_matrix M2 (hM2 ▸ MA_size _))
      have HL2 := hid (show M.size = M2.size by rw [← hM, ← hM2, MA_size, MA_size])
      have H2 := hid (show M2.all (·.oneCell') = true by rw [← hM2]; exact MA_one _)
      have HM2 := hid hM2
      have hm1 : m + 1 ≤ 3 := hlt
      clear hT hM hM2 hlt hm
      go_wp2_with (refine wpList_load_row rfl 46 (.tmp 5) rfl g0 rfl 46 M (0, 0) _ B0.out Tryd.underlying46 rfl HI1.out ?_)
      refine HT.out.mono ?_
      rintro e w2 ⟨rfl, F2⟩
      have B2 := hid (B0.out.fr F2 (fun h => h))
      have HF2 := hid (HF.out.trans F2)
      clear F2
      go_wp2_with (refine wpList_store_row rfl 46 (.tmp 5) (.tmp 10) rfl g0 M2 rfl rfl 46 M B2.out HI2.out HL2.out H2.out ?_)
      go_roundw
      case rel => exact ⟨m + 1, hm1, by go_num, by rw [HM2.out]; exact B2.out.setRow _, HF2.out.setRow (fun h => absurd h (by have := NS.out; omega)) _⟩
      case measure => simp [intOf]; omega
    · obtain rfl : m = 3 := by omega
      have hge : ¬ ((3 : Nat) : Int) < 3 := by omega
      clear hlt hm
      go_wp2
      go_loopw [0, 1] (fun u i wr => PbI r n.toNat w g0 u i wr) (fun _ i _ => (intOf i).toNat)
      case atStart => exact ⟨r, 8, n.toNat, n, rfl, rfl, by omega, HR.out, by omega, B0.out, rfl, HF.out⟩
      case round =>
        clear B0 HF
        obtain ⟨R, K, m, x, rfl, rfl, hx, hR, hmn, b0, hit, hf⟩ := hrel
        have B0 := hid b0
        have HF := hid hf
        clear b0 hf
        obtain ⟨M, hM⟩ : ∃ M, MA K = M := ⟨_, rfl⟩
        obtain ⟨M2, hM2⟩ : ∃ M, MA (2 * K) = M := ⟨_, rfl⟩
        have HT := hid (fun w => twice_any K w)
        have HO := hid (fun w => of_any K R w hR)
        rw [hM] at HT B0 HO
        rw [hM2] at HT
        have HI1 := hid (info_matrix M (hM ▸ MA_size _))
        have HI2 := hid (info_matrix M2 (hM2 ▸ MA_size _))
        have HL2 := hid (show M.size = M2.size by rw [← hM, ← hM2, MA_size, MA_size])
        have H2 := hid (show M2.all (·.oneCell') = true by rw [← hM2]; exact MA_one _)
        have HM2 := hid hM2
        have HIT := hid hit
        clear hM hM2 hit
        by_cases h0 : 0 < x
        · obtain rfl : x = m := by omega
          have h03 : (0 : Int) < m := by omega
          clear hx
          have HH := hid (pb_half m)
          by_cases h2 : m % 2 = 1
          · have hb : ((m : Int) % 2 == 1) = true := by rw [beq_iff_eq]; omega
            have HN := hid (pb_odd K R m h2)
            have HR2 := hid (it_lt K hR)
            clear h2
            go_wp2_with (first | (refine wpList_load_row rfl 46 (.tmp 5) rfl g0 rfl 46 M (0, 0) _ B0.out Tryd.underlying46 rfl HI1.out ?_) | fail)
            refine (HO.out wr).mono ?_
            rintro e w2 ⟨rfl, F2⟩
            have B2 := hid (B0.out.fr F2 (fun h => h))
            have HF2 := hid (HF.out.trans F2)
            clear F2
            go_wp2_with (first | (refine wpList_load_row rfl 46 (.tmp 5) rfl g0 rfl 46 M (0, 0) _ B2.out Tryd.underlying46 rfl HI1.out ?_) | fail)
            refine (HT.out w2).mono ?_
            rintro e w3 ⟨rfl, F3⟩
            have B3 := hid (B2.out.fr F3 (fun h => h))
            have HF3 := hid (HF2.out.trans F3)
            clear F3
            go_wp2_with (refine wpList_store_row rfl 46 (.tmp 5) (.tmp 23) rfl g0 M2 rfl rfl 46 M B3.out HI2.out HL2.out H2.out ?_)
            go_roundw
            case rel => exact ⟨_, 2 * K, m / 2, _, rfl, HH.out, .inl rfl, HR2.out, by omega, by rw [HM2.out]; exact B3.out.setRow _, HN.out.trans HIT.out, HF3.out.setRow (fun h => absurd h (by have := NS.out; omega)) _⟩
            case measure => simp [intOf]; omega
          · have hb : ((m : Int) % 2 == 1) = false := by rw [beq_eq_false_iff_ne]; omega
            have HN := hid (pb_even K R m (by omega))
            clear h2 HO
            go_wp2_with (first | (refine wpList_load_row rfl 46 (.tmp 5) rfl g0 rfl 46 M (0, 0) _ B0.out Tryd.underlying46 rfl HI1.out ?_) | fail)
            refine (HT.out wr).mono ?_
            rintro e w3 ⟨rfl, F3⟩
            have B3 := hid (B0.out.fr F3 (fun h => h))
            have HF3 := hid (HF.out.trans F3)
            clear F3
            go_wp2_with (refine wpList_store_row rfl 46 (.tmp 5) (.tmp 23) rfl g0 M2 rfl rfl 46 M B3.out HI2.out HL2.out H2.out ?_)
            go_roundw
            case rel => exact ⟨_, 2 * K, m / 2, _, rfl, HH.out, .inl rfl, hR, by omega, by rw [HM2.out]; exact B3.out.setRow _, HN.out.trans HIT.out, HF3.out.setRow (fun h => absurd h (by have := NS.out; omega)) _⟩
            case measure => simp [intOf]; omega
        · obtain rfl : m = 0 := by omega
          clear hx
          go_wp2
          go_ret
          exact ⟨by rw [← HIT.out, Nat.mul_zero, it]; rfl, HF.out⟩

theorem zeros_any (sum : Nat) (n : Int) (w : World) (hs : sum < 4294967296) (hn : n ≤ maxLen) : Calls Tryd.prog 18 #[.int .u32 sum, .int .i64 n] w fun e w' => e = .returned (.int .u32 (nt (it (8 * n.toNat) (nt sum)) : Nat)) ∧ Fr No w w' := by
  have hx := nx hs
  have hx2 := nx (it_lt (8 * n.toNat) (nt_lt sum))
  have HP := hid (fun w => pass_any (nt sum) n w (nt_lt sum) hn)
  obtain ⟨q, hq⟩ : ∃ q, it (8 * n.toNat) (nt sum) = q := ⟨_, rfl⟩
  rw [hq] at HP hx2 ⊢
  clear hq hs hn
  go_enter Tryd.func18, Tryd.ntmps18
  go_wp2_with fail
  refine (HP.out w).mono ?_
  rintro e w1 ⟨rfl, F1⟩
  have HF := hid F1
  clear F1
  go_wp2
  go_ret
  exact ⟨rfl, HF.out⟩

theorem join_any (a b : Nat) (n : Int) (w : World) (ha : a < 4294967296) (hb : b < 4294967296) (hn : n ≤ maxLen) : Calls Tryd.prog 19 #[.int .u32 a, .int .u32 b, .int .i64 n] w fun e w' => e = .returned (.int .u32 (it (8 * n.toNat) a ^^^ b : Nat)) ∧ Fr No w w' := by
  have hx := x2 (it_lt (8 * n.toNat) ha) hb
  have HP := hid (fun w => pass_any a n w ha hn)
  obtain ⟨q, hq⟩ : ∃ q, it (8 * n.toNat) a = q := ⟨_, rfl⟩
  rw [hq] at HP hx ⊢
  clear hq ha hb hn
  go_enter Tryd.func19, Tryd.ntmps19
  go_wp2_with fail
  refine (HP.out w).mono ?_
  rintro e w1 ⟨rfl, F1⟩
  have HF := hid F1
  clear F1
  go_wp2
  go_ret
  exact ⟨rfl, HF.out⟩
end Go.Proofs.YtlcafkjnikiomaaDoor.CrcC
