import Derived.Test.YtkkbgbpmpcoffaaDoorCrcA
import Derived.Test.YtkkbgbpmpcoffaaDoorSepB
import Derived.Lib.EndianBits
import Derived.BigQuiet
import Derived.Deep.QuietTactic
import Derived.WalkLawsBesides
import Derived.WalkSpells
import Derived.Handy
import Derived.Lib.Bytes
import Derived.Lib.SlBytesConst
/- Contracts of package crc's rows of steps. No conditions but the bounds that are named. -/
namespace Go.Proofs.YtkkbgbpmpcoffaaDoor.CrcB
open Go.RowKit MSep MFrame CrcM CrcA

/-- The rows of 'so many steps', as an array's cells. -/
def MA (k : Nat) : Array Value := ((mat k).map fun (x : Nat) => Value.int .u32 x).toArray
theorem MA_size (k : Nat) : (MA k).size = 32 := by simp [MA, mat]
theorem MA_get (k i : Nat) (hi : i < 32) : (MA k)[i]? = some (.int .u32 (it k (2 ^ i) : Nat)) := by
  simp [MA, List.getElem?_map, mat_get k i hi]
theorem MA_one (k : Nat) : (MA k).all (·.oneCell') = true := by
  simp [MA, Value.oneCell']

theorem and1 {a : Nat} {x : Int} (ha : a < 4294967296) (h : (a : Int) = x) : bits BinOp.and IntKind.u32 x 1 = ((a % 2 : Nat) : Int) := by
  have := u32_and_nat a 1 ha (by omega)
  rw [Nat.and_one_is_mod] at this
  rw [← h]
  exact this

theorem it_lt2 (k : Nat) {i : Nat} (hi : i < 32) : it k (2 ^ i) < 4294967296 := it_lt k (Nat.pow_lt_pow_right (a := 2) (n := 32) (m := i) (by omega) hi)
theorem MA_eq (k : Nat) (cs : Array Value) (hs : cs.size = 32) (h : ∀ j, j < 32 → cs[j]? = some (.int .u32 (it k (2 ^ j) : Nat))) : cs = MA k := by
  apply Array.ext_getElem?
  intro j
  rcases Nat.lt_or_ge j 32 with hj | hj
  · rw [h j hj, MA_get k j hj]
  · rw [Array.getElem?_eq_none (by omega), Array.getElem?_eq_none (by rw [MA_size]; omega)]

end Go.Proofs.YtkkbgbpmpcoffaaDoor.CrcB
/- Contracts of package crc's step, pass, Zeros and Join. No conditions but the bounds that are named. -/
namespace Go.Proofs.YtkkbgbpmpcoffaaDoor.CrcC
open Go.RowKit MSep MFrame CrcM CrcA CrcB

theorem it1_pow (j : Nat) : it 1 (2 ^ (j + 1)) = 2 ^ j := by
  rw [it, it, Nat.pow_succ, Nat.mul_comm, s0_even]
theorem pow_in (n : Nat) (h : n + 1 ≤ 31) : (2 ^ n : Int) % 4294967296 = ((2 ^ n : Nat) : Int) := by
  have h1 : 2 ^ n < 4294967296 := Nat.pow_lt_pow_right (a := 2) (n := 32) (m := n) (by omega) (by omega)
  have h2 : ((2 : Int) ^ n) = ((2 ^ n : Nat) : Int) := by push_cast; rfl
  rw [h2]
  obtain ⟨q, hq⟩ : ∃ q : Nat, 2 ^ n = q := ⟨_, rfl⟩
  rw [hq] at h1 ⊢
  omega

theorem pb_half (m : Nat) : Value.int .i64 ((m : Int) / 2) = .int .i64 ((m / 2 : Nat) : Int) := by simp
theorem pb_odd (K R m : Nat) (h : m % 2 = 1) : it (2 * K * (m / 2)) (it K R) = it (K * m) R := by
  rw [← it_add]
  congr 1
  have : m = 2 * (m / 2) + 1 := by omega
  conv => rhs; rw [this]
  rw [Nat.mul_add, ← Nat.mul_assoc, Nat.mul_comm K 2, Nat.mul_one]
theorem pb_even (K R m : Nat) (h : m % 2 = 0) : it (2 * K * (m / 2)) R = it (K * m) R := by
  congr 1
  have : m = 2 * (m / 2) := by omega
  conv => rhs; rw [this]
  rw [← Nat.mul_assoc, Nat.mul_comm K 2]

end Go.Proofs.YtkkbgbpmpcoffaaDoor.CrcC
/- Contracts of the plain sums. Condition: what is handed in reads as bytes. -/
namespace Go.Proofs.YtkkbgbpmpcoffaaDoor.CrcD
open Go.RowKit MSep MFrame CrcM CrcA

theorem step_at (r b : Nat) (b' : Int) (w : World) (hr : r < 4294967296) (hb : b' = b) : Calls Tryd.prog 78 #[.int .u32 r, .int .u32 b'] w fun e w' => e = .returned (.int .u32 (stp r b : Nat)) ∧ w = w' := by
  rw [hb]
  exact step_any r b w hr

set_option maxRecDepth 100000 in
theorem refOn_any (sum : Nat) (A : Option Addr) (l c : Nat) (zs : List Int) (w : World) (hs : sum < 4294967296) (hb : Rd w A l (zs.map (Value.int .u8))) (hz : ∀ x ∈ zs, 0 ≤ x ∧ x ≤ 255) (hl : l ≤ maxLen) :
    Calls Tryd.prog 62 #[.int .u32 sum, .slice A l c] w fun e w' => e = .returned (.int .u32 (onN sum zs : Nat)) ∧ w = w' := by
  unfold maxLen at hl
  have hlen : zs.length = l := by simpa using hb.1
  have hnx := nx hs
  have HB := hid hb
  have HZ := hid hz
  have HLEN := hid hlen
  clear hb hz hlen
  go_enter Tryd.func62, Tryd.ntmps62
  go_wp2
  go_loop [5, 6] (fun r i => ∃ k : Nat, k ≤ l ∧ i = .int .i64 k ∧ r = .int .u32 (reg (nt sum) (zs.take k) : Nat)) (fun _ i => l - (intOf i).toNat)
  case atStart => exact ⟨0, by omega, rfl, rfl⟩
  case round =>
    obtain ⟨k, hk, rfl, rfl⟩ := hrel
    obtain ⟨R, hR⟩ : ∃ R, reg (nt sum) (zs.take k) = R := ⟨_, rfl⟩
    have hR2 : R < 4294967296 := by rw [← hR]; exact reg_lt _ (fun x hx => HZ.out x (List.mem_of_mem_take hx)) (nt_lt _)
    rw [hR]
    by_cases hlt : k < l
    · have hkz : k < zs.length := by rw [HLEN.out]; exact hlt
      obtain ⟨d, o, rfl, hd, hc⟩ := HB.out.2 (by omega)
      have hz2 := HZ.out zs[k] (List.getElem_mem hkz)
      obtain ⟨x, hx⟩ := Int.eq_ofNat_of_zero_le hz2.1
      have hcell : w.cell? ⟨d, o + k, none⟩ = some (.int .u8 (x : Nat)) := hc k _ (by rw [List.getElem?_map, List.getElem?_eq_getElem hkz, hx]; rfl)
      have hx2 : x < 256 := by omega
      have hnext : Hid (reg (nt sum) (zs.take (k + 1)) = it 8 (R ^^^ x)) := by
        rw [Hid, List.take_succ_eq_append_getElem hkz, reg_snoc, hR, hx]
        rfl
      have HX := hid hx2
      clear hc hR hz2 hx hkz
      have hx3 : (x : Int) < 256 := by omega
      go_wp2
      go_loop [5, 7] (fun r i => ∃ m : Nat, m ≤ 8 ∧ i = .int .i64 m ∧ r = .int .u32 (prt m R x : Nat)) (fun _ i => 8 - (intOf i).toNat)
      case atStart => exact ⟨0, by omega, rfl, by rw [prt_zero]⟩
      case round =>
        obtain ⟨m, hm, rfl, rfl⟩ := hrel
        by_cases hm2 : m < 8
        · have hm3 : (m : Int) < 8 := by omega
          have HM := hid hm2
          have HP := hid (prt_step m R x)
          have HL := hid (prt_lt m R x hR2 hx2)
          clear hm hm2 hx2
          go_wp2_with fail
          refine (step_at (prt m R x) (x / 2 ^ m % 2) _ w HL.out (by push_cast; rfl)).mono ?_
          rintro e w' ⟨rfl, rfl⟩
          rw [HP.out]
          go_wp2
          go_round
          case rel => exact ⟨m + 1, HM.out, by go_num, rfl⟩
          case measure => simp [intOf]; omega
        · obtain rfl : m = 8 := by omega
          have hge : ¬ ((8 : Nat) : Int) < 8 := by omega
          rw [prt_all R x hx2]
          clear hm hm2 hx2
          go_wp2
          go_round
          case rel => exact ⟨k + 1, by omega, by go_num, by rw [hnext.out]⟩
          case measure => simp [intOf]; omega
    · obtain rfl : k = l := by omega
      rw [List.take_of_length_le (by rw [HLEN.out]; exact Nat.le_refl _)] at hR
      have hn := nx hR2
      have HR := hid hR
      clear hR
      go_wp2
      go_ret
      exact ⟨by rw [onN, HR.out]; rfl, rfl⟩

set_option maxRecDepth 100000 in
theorem refSum_any (A : Option Addr) (l c : Nat) (zs : List Int) (w : World) (hb : Rd w A l (zs.map (Value.int .u8))) (hz : ∀ x ∈ zs, 0 ≤ x ∧ x ≤ 255) (hl : l ≤ maxLen) :
    Calls Tryd.prog 34 #[.slice A l c] w fun e w' => e = .returned (.int .u32 (onN 0 zs : Nat)) ∧ w = w' := by
  have h := refOn_any 0 A l c zs w (by omega) hb hz hl
  have H := hid h
  clear h hb hz hl
  go_enter Tryd.func34, Tryd.ntmps34
  go_wp2_with fail
  refine H.out.mono ?_
  rintro e w' ⟨rfl, rfl⟩
  go_wp2
  go_ret
  exact ⟨rfl, rfl⟩
end Go.Proofs.YtkkbgbpmpcoffaaDoor.CrcD
/- Sealed sectors: their bytes, plainly, and the contracts of Seal and Check. Condition: what is handed in reads as bytes; the table is as its text lays it. -/
namespace Go.Proofs.YtkkbgbpmpcoffaaDoor.CrcE
open Go.RowKit MSep MFrame CrcM CrcA CrcB CrcC CrcD

/-- The lowest i bytes of S, lowest first, of four places. -/
def lo (S i : Nat) : List Int := (List.range 4).map fun j => if j < i then ((S / 2 ^ (8 * j) % 256 : Nat) : Int) else 0
/-- What a sector holds behind its sum. -/
def rest (zs : List Int) : List Int := zs ++ List.replicate (124 - zs.length) 0
/-- The sealed sector. -/
def seal_ (zs : List Int) : List Int := lo (onN 0 (rest zs)) 4 ++ rest zs
theorem lo_len (S i : Nat) : (lo S i).length = 4 := by simp [lo]
theorem rest_len {zs : List Int} (h : zs.length ≤ 124) : (rest zs).length = 124 := by simp [rest]; omega
theorem seal_len {zs : List Int} (h : zs.length ≤ 124) : (seal_ zs).length = 128 := by rw [seal_, List.length_append, lo_len, rest_len h]
theorem lo_zero (S : Nat) : lo S 0 = [0, 0, 0, 0] := by simp [lo, List.range, List.range.loop]
theorem lo_set (S : Nat) : ∀ i, i < 4 → (lo S i).set i ((S / 2 ^ (8 * i) % 256 : Nat) : Int) = lo S (i + 1) := by
  intro i hi
  match i, hi with
  | 0, _ => simp [lo, List.range, List.range.loop]
  | 1, _ => simp [lo, List.range, List.range.loop]
  | 2, _ => simp [lo, List.range, List.range.loop]
  | 3, _ => simp [lo, List.range, List.range.loop]
theorem lo_u8 (S i : Nat) : ∀ x ∈ lo S i, 0 ≤ x ∧ x ≤ 255 := by
  intro x hx
  obtain ⟨j, _, rfl⟩ := List.mem_map.1 hx
  split <;> omega
theorem rest_u8 {zs : List Int} (h : ∀ x ∈ zs, 0 ≤ x ∧ x ≤ 255) : ∀ x ∈ rest zs, 0 ≤ x ∧ x ≤ 255 := by
  intro x hx
  rcases List.mem_append.1 hx with hx | hx
  · exact h x hx
  · rw [List.eq_of_mem_replicate hx]; omega
theorem seal_u8 {zs : List Int} (h : ∀ x ∈ zs, 0 ≤ x ∧ x ≤ 255) : ∀ x ∈ seal_ zs, 0 ≤ x ∧ x ≤ 255 := by
  intro x hx
  rcases List.mem_append.1 hx with hx | hx
  · exact lo_u8 _ _ x hx
  · exact rest_u8 h x hx

/-- A sector's cells. -/
def cells (xs : List Int) : List Value := xs.map (Value.int .u8)

set_option maxRecDepth 100000 in
theorem seal_long (A : Option Addr) (l c : Nat) (w : World) (hl : 124 < l) (hm : l ≤ maxLen) : Calls Tryd.prog 56 #[.slice A l c] w fun e w' => e = .returned (.tuple #[.slice none 0 0, .int .i64 3]) ∧ w = w' := by
  unfold maxLen at hm
  have h : (124 : Int) < l := by omega
  go_enter Tryd.func56, Tryd.ntmps56
  go_wp2
  go_ret2
  exact ⟨rfl, rfl⟩

theorem u8_info : (Tryd.prog.info? 5).map (fun i => (i.zero, i.size, i.bytes)) = some (some (.int .u8 0), 1, 1) := by kernel_rfl

/-- Behind i rounds of Seal's loop. -/
def SeI (w : World) (g S : Nat) (r : List Int) (i : Value) (wr : World) : Prop := ∃ k : Nat, k ≤ 4 ∧ i = .int .i64 k ∧ Blk wr g 5 (cells (lo S k ++ r)).toArray ∧ Fr No w wr

def z128 : List Int := List.replicate 128 0
theorem start_eq (zs : List Int) (l : Nat) (h : zs.length = l) (hl : l ≤ 124) : (cells z128).take 4 ++ (cells zs ++ (cells z128).drop (4 + l)) = cells (lo 0 0 ++ rest zs) := by
  subst h
  have e1 : z128 = List.replicate 4 0 ++ (List.replicate zs.length 0 ++ List.replicate (124 - zs.length) 0) := by
    rw [z128, List.replicate_append_replicate, List.replicate_append_replicate]
    congr 1
    omega
  have e2 : lo 0 0 = List.replicate 4 0 := by rw [lo_zero]; rfl
  rw [e2, rest, e1, cells, List.map_append, List.take_left' (by simp), ← List.append_assoc, List.map_append, ← List.append_assoc, ← List.map_append, ← List.map_append]
  rw [cells, cells, List.map_append, List.map_append, List.map_append, List.append_assoc]
  congr 2
  rw [List.drop_left' (by simp; omega), ← List.map_append]
theorem z128_len : z128.length = 128 := by simp [z128]
theorem rest_rd {w : World} {g : Nat} {S i : Nat} {zs : List Int} (h : Blk w g 5 (cells (lo S i ++ rest zs)).toArray) (hl : zs.length ≤ 124) : Rd w (some ⟨g, 4, none⟩) 124 ((rest zs).map (Value.int .u8)) := by
  have := Rd.blk (off := 4) (n := 124) h (by simp [cells, lo_len, rest_len hl])
  rw [cells, List.map_append, List.drop_left' (by simp [lo_len]), List.take_of_length_le (by simp [rest_len hl])] at this
  exact this
theorem se_step (w : World) (g S k : Nat) (r : List Int) (wr : World) (hk : k < 4) (b : Blk wr g 5 (cells (lo S k ++ r)).toArray) (f : Fr No w wr) (hg : w.heap.size ≤ g) :
    SeI w g S r (.int .i64 ((k : Int) + 1)) (wr.setCell ⟨g, k, none⟩ (.int .u8 (S / 2 ^ (8 * k) % 256 : Nat))) := by
  refine ⟨k + 1, by omega, by go_num, ?_, f.setCell (p := ⟨g, k, none⟩) (fun h => absurd h (by simp; omega)) _⟩
  have := b.set_ k (.int .u8 (S / 2 ^ (8 * k) % 256 : Nat))
  rw [List.setIfInBounds_toArray, cells, List.map_append, List.set_append_left _ _ (by simp [lo_len]; omega), ← List.map_set, lo_set S k hk, ← List.map_append] at this
  exact this

theorem byte_cast (S k : Nat) : ((S / 2 ^ (8 * k) % 256 : Nat) : Int) = (S : Int) / 2 ^ (8 * k) % 256 := by
  rw [Int.natCast_emod, Int.natCast_ediv, Int.natCast_pow]
  rfl

set_option maxRecDepth 100000 in
theorem seal_ok (A : Option Addr) (l c : Nat) (zs : List Int) (w : World) (hl : l ≤ 124) (hb : Rd w A l (cells zs)) (hz : ∀ x ∈ zs, 0 ≤ x ∧ x ≤ 255) (hT : TabAt w) :
    Calls Tryd.prog 56 #[.slice A l c] w fun e w' => e = .returned (.tuple #[.slice (some ⟨w.heap.size, 0, none⟩) 128 128, .int .i64 0]) ∧ Blk w' w.heap.size 5 (cells (seal_ zs)).toArray ∧ Fr No w w' := by
  obtain ⟨i0, hi, hz0, hz1, hz2⟩ := info_parts u8_info
  have hlen : zs.length = l := by simpa [cells] using hb.1
  have HB := hid hb
  have HZ := hid hz
  have HT := hid hT
  have HLEN := hid hlen
  have hL : ¬ (124 : Int) < l := by omega
  clear hb hz hT hlen
  go_enter Tryd.func56, Tryd.ntmps56
  go_wp2_with (first | (at_make; go_must (refine wpList_make_full _ rfl _ _ 27 rfl w.heap.size 5 i0 (.int .u8 0) 1 Tryd.underlying27 hi hz0 hz1 .i64 .i64 _ _ 128 rfl rfl rfl rfl (by rw [hz2]; omega) (by simp only [maxLen]; omega) (Nat.le_refl _) ?_)))
  intro w1 hown1 hg1
  have hF1 : Fr No w w1 := (Fr.refl _ _).grown hg1 (fun k hk => by cases hk)
  rw [toList_madeCells_one] at hown1
  have B1 := hid (show Blk w1 w.heap.size 5 (cells z128).toArray by rw [cells, z128, List.map_replicate]; exact Blk.of_own hown1)
  have HF1 := hid hF1
  have HA := hid (HB.out.fr hF1 (fun _ _ _ h => h))
  obtain ⟨g, hg⟩ : ∃ g, w.heap.size = g := ⟨_, rfl⟩
  have NG := hid (show w.heap.size ≤ g by omega)
  have HG := hid hg
  rw [hg] at B1 ⊢
  clear hown1 hg1 hF1 hg
  go_wp2_with (refine wpList_cpB rfl (.tmp 12) (.tmp 13) 27 27 rfl 5 Tryd.underlying27 (by kernel_rfl) g 4 124 124 A l c (cells zs) (cells z128) rfl rfl B1.out HA.out one_u8s hl (by simp [cells, z128_len]) ?_)
  intro w2 b2 f2
  have H2 := hid (HF1.out.step f2 (fun i hi h => absurd h (by have := NG.out; omega)))
  rw [show (cells z128).take 4 ++ (cells zs ++ (cells z128).drop (4 + l)) = cells (lo 0 0 ++ rest zs) from start_eq zs l HLEN.out hl] at b2
  have B2 := hid b2
  have HS := hid (sum_any (some ⟨g, 4, none⟩) 124 124 (rest zs) w2 (rest_rd b2 (by rw [HLEN.out]; exact hl)) (rest_u8 HZ.out) (by simp [maxLen]) (HT.out.fr H2.out (fun h => h)))
  clear b2 f2
  go_wp2_with fail
  refine HS.out.mono ?_
  rintro e w' ⟨rfl, rfl⟩
  obtain ⟨S, hS⟩ : ∃ S, onN 0 (rest zs) = S := ⟨_, rfl⟩
  have hS2 : S < 4294967296 := by rw [← hS]; exact nt_lt _
  rw [hS]
  have HSS := hid hS
  clear hS
  go_wp2
  go_loopw [18] (fun i wr => SeI w g S (rest zs) i wr) (fun i _ => 4 - (intOf i).toNat)
  case atStart => exact ⟨0, by omega, rfl, by rw [lo_zero, ← lo_zero 0]; exact B2.out, H2.out⟩
  case round =>
    obtain ⟨k, hk, rfl, b, f⟩ := hrel
    by_cases hlt : k < 4
    · have hk3 : (k : Int) < 4 := by omega
      have hfr := b.frozen k
      obtain ⟨v, hv⟩ : ∃ v, (cells (lo S k ++ rest zs))[k]? = some v := ⟨_, List.getElem?_eq_getElem (by simp [cells, lo_len]; omega)⟩
      have hc := b.cell k
      rw [List.getElem?_toArray, hv] at hc
      have HBK := hid b
      have HFK := hid f
      have HST := hid (se_step w g S k (rest zs) wr hlt b f NG.out)
      clear b f hv hk
      go_wp2
      go_roundw
      case rel =>
        have h := HST.out
        rw [byte_cast] at h
        exact h
      case measure => simp [intOf]; omega
    · obtain rfl : k = 4 := by omega
      have hge : ¬ ((4 : Nat) : Int) < 4 := by omega
      have HBK := hid b
      have HFK := hid f
      clear b f hlt hk
      go_wp2
      go_ret2
      exact ⟨by rw [HG.out]; rfl, by rw [HG.out, seal_, HSS.out]; exact HBK.out, HFK.out⟩

/-- The number of four bytes, lowest first. -/
def ld (bs : List Int) : Nat → Nat
  | 0 => 0
  | i + 1 => ld bs i + 2 ^ (8 * i) * (bs.getD i 0).toNat

theorem ld_lt (bs : List Int) (hz : ∀ x ∈ bs, 0 ≤ x ∧ x ≤ 255) : ∀ i, i ≤ bs.length → ld bs i < 2 ^ (8 * i) := by
  intro i
  induction i with
  | zero => intro _; rw [ld]; exact Nat.two_pow_pos _
  | succ i ih =>
    intro h
    have h1 := ih (by omega)
    have h2 := hz bs[i] (List.getElem_mem (by omega))
    rw [ld, List.getD_eq_getElem?_getD, List.getElem?_eq_getElem (show i < bs.length by omega), Option.getD_some, show 8 * (i + 1) = 8 * i + 8 by omega, Nat.pow_add]
    have h3 : (bs[i]).toNat ≤ 255 := by omega
    have h4 : 2 ^ (8 * i) * (bs[i]).toNat ≤ 2 ^ (8 * i) * 255 := Nat.mul_le_mul_left _ h3
    omega

theorem ld_step (zs : List Int) (hz : ∀ x ∈ zs, 0 ≤ x ∧ x ≤ 255) (k x : Nat) (hk : k < 4) (hkz : k < zs.length) (hx : zs[k] = (x : Int)) (hx2 : x < 256) :
    bits BinOp.or IntKind.u32 (ld zs k : Nat) ((x : Int) * 2 ^ (8 * k) % 4294967296) = (ld zs (k + 1) : Nat) := by
  have h1 := ld_lt zs hz k (by omega)
  have h2 : 2 ^ (8 * k) ≤ 16777216 := Nat.pow_le_pow_right (n := 2) (i := 8 * k) (j := 24) (by omega) (by omega)
  have e : ld zs (k + 1) = ld zs k + 2 ^ (8 * k) * x := by
    rw [ld, List.getD_eq_getElem?_getD, List.getElem?_eq_getElem hkz, Option.getD_some, hx]
    rfl
  have ec : (x : Int) * 2 ^ (8 * k) = ((2 ^ (8 * k) * x : Nat) : Int) := by rw [Int.natCast_mul, Int.natCast_pow, Int.mul_comm]; rfl
  rw [ec, e]
  have h3 : 2 ^ (8 * k) * x ≤ 16777216 * 255 := Nat.mul_le_mul h2 (by omega)
  have h4 := Nat.two_pow_add_eq_or_of_lt h1 x
  obtain ⟨p, hp⟩ : ∃ p, 2 ^ (8 * k) * x = p := ⟨_, rfl⟩
  obtain ⟨q, hq⟩ : ∃ q, 2 ^ (8 * k) = q := ⟨_, rfl⟩
  obtain ⟨r, hr⟩ : ∃ r, ld zs k = r := ⟨_, rfl⟩
  rw [hp] at h3 h4 ⊢
  rw [hq] at h1 h2
  rw [hr] at h1 h4 ⊢
  have h5 : (p : Int) % 4294967296 = (p : Int) := by omega
  rw [h5, u32_or_nat r p (by omega) (by omega), Nat.add_comm r p, h4, Nat.or_comm]

theorem beq_cast (a b : Nat) : (a == b) = ((a : Int) == (b : Int)) := by rw [Bool.eq_iff_iff, beq_iff_eq, beq_iff_eq]; omega

set_option maxRecDepth 100000 in
theorem check_any (A : Option Addr) (l c : Nat) (zs : List Int) (w : World) (hb : IsB w A l c zs) (hT : TabAt w) :
    Calls Tryd.prog 63 #[.slice A l c] w fun e w' => e = .returned (.bool (l == 128 && ld zs 4 == onN 0 (zs.drop 4))) ∧ w = w' := by
  have hlen : zs.length = l := by simpa using hb.1.1
  have hl2 := hb.2.1
  have hc2 := hb.2.2.1
  unfold maxLen at hc2
  have HB := hid hb
  have HT := hid hT
  have HLEN := hid hlen
  clear hb hT hlen
  by_cases h : l = 128
  · have hne : ((l : Int) != 128) = false := by rw [bne_eq_false_iff_eq]; omega
    have hx : (l == 128 && ld zs 4 == onN 0 (zs.drop 4)) = (ld zs 4 == onN 0 (zs.drop 4)) := by rw [show (l == 128) = true by simpa using h, Bool.true_and]
    rw [hx]
    clear hx
    go_enter Tryd.func63, Tryd.ntmps63
    go_wp2
    go_loop [3, 8] (fun s i => ∃ k : Nat, k ≤ 4 ∧ i = .int .i64 k ∧ s = .int .u32 (ld zs k : Nat)) (fun _ i => 4 - (intOf i).toNat)
    case atStart => exact ⟨0, by omega, rfl, rfl⟩
    case round =>
      obtain ⟨k, hk, rfl, rfl⟩ := hrel
      by_cases hlt : k < 4
      · have hk3 : (k : Int) < 4 := by omega
        obtain ⟨d, o, rfl, hd, hc⟩ := HB.out.1.2 (by omega)
        have hkz : k < zs.length := by rw [HLEN.out]; omega
        have hz2 := HB.out.2.2.2 zs[k] (List.getElem_mem hkz)
        obtain ⟨x, hx⟩ := Int.eq_ofNat_of_zero_le hz2.1
        have hcell : w.cell? ⟨d, o + k, none⟩ = some (.int .u8 (x : Nat)) := hc k _ (by rw [List.getElem?_map, List.getElem?_eq_getElem hkz, hx]; rfl)
        have hx2 : x < 256 := by omega
        have hlk : (k : Int) < l := by omega
        clear hc hz2 hk hlt
        have HS := hid (ld_step zs HB.out.2.2.2 k x (by omega) hkz hx hx2)
        have hk4 : k + 1 ≤ 4 := by omega
        clear hx hkz
        go_wp2
        go_roundw
        case rel => exact ⟨k + 1, hk4, by go_num, by rw [HS.out]⟩
        case measure => simp [intOf]; omega
      · obtain rfl : k = 4 := by omega
        have hge : ¬ ((4 : Nat) : Int) < 4 := by omega
        have hS := sum_any (cutA A c 4) (l - 4) (c - 4) (zs.drop 4) w (by have := HB.out.1.cut (k := 4) (by omega) hl2; rw [List.map_drop]; exact this) (fun x hx => HB.out.2.2.2 x (List.mem_of_mem_drop hx)) (by unfold maxLen; omega) HT.out
        obtain ⟨d, o, rfl, hd, hc⟩ := HB.out.1.2 (by omega)
        rw [cutA, if_neg (by omega), Option.map_some, add_off, show l - 4 = 124 by omega] at hS
        have HS := hid hS
        clear hS hc hlt hk
        go_wp2_with fail
        refine HS.out.mono ?_
        rintro e w' ⟨rfl, rfl⟩
        go_wp2
        go_ret
        exact ⟨by rw [beq_cast]; rfl, rfl⟩
  · have hne : ((l : Int) != 128) = true := by rw [bne_iff_ne]; omega
    have hx : (l == 128 && ld zs 4 == onN 0 (zs.drop 4)) = false := by rw [show (l == 128) = false by simpa using h, Bool.false_and]
    rw [hx]
    clear hx h
    go_enter Tryd.func63, Tryd.ntmps63
    go_wp2
    go_ret
    exact ⟨rfl, rfl⟩
end Go.Proofs.YtkkbgbpmpcoffaaDoor.CrcE
/- The plain sealed sector's contracts, and what must come of every program. Condition: what is handed in reads as bytes; the table is as its text lays it. -/
namespace Go.Proofs.YtkkbgbpmpcoffaaDoor.CrcF
open Go.RowKit MSep MFrame CrcM CrcA CrcB CrcC CrcD CrcE

theorem lo4 (S : Nat) (_h : S < 4294967296) : lo S 4 = [(S : Int) % 256, (S : Int) / 256 % 256, (S : Int) / 65536 % 256, (S : Int) / 16777216 % 256] := by
  have e : lo S 4 = [((S / 1 % 256 : Nat) : Int), ((S / 256 % 256 : Nat) : Int), ((S / 65536 % 256 : Nat) : Int), ((S / 16777216 % 256 : Nat) : Int)] := rfl
  rw [e]
  simp

set_option maxRecDepth 100000 in
theorem refSeal_ok (A : Option Addr) (l c : Nat) (zs : List Int) (w : World) (hl : l ≤ 124) (hb : Rd w A l (cells zs)) (hz : ∀ x ∈ zs, 0 ≤ x ∧ x ≤ 255) :
    Calls Tryd.prog 35 #[.slice A l c] w fun e w' => ∃ A' c', e = .returned (.slice A' 128 c') ∧ w'.ownsRow w.heap.size 5 1 (.slice A' 128 c') 128 (cells (seal_ zs)) ∧ Fr No w w' := by
  obtain ⟨i0, hi, hz0, hz1, hz2⟩ := info_parts u8_info
  have hlen : zs.length = l := by simpa [cells] using hb.1
  have HB := hid hb
  have HZ := hid hz
  have HLEN := hid hlen
  have hown0 : (w.alloc (.cells #[] 5)).ownsRow w.heap.size 5 1 (.slice (some ⟨w.heap.size, 0, none⟩) 0 0) 0 [] := World.ownsRow_lit w #[] 0 (Nat.le_refl _) (by simp [maxLen]) rfl
  have HO := hid hown0
  have HA := hid (hb.fr (S := No) ((Fr.refl _ w).alloc (.cells #[] 5)) (fun _ _ _ h => h))
  clear hb hz hlen hown0
  go_enter Tryd.func35, Tryd.ntmps35
  go_wp2_with (first | (at_builtin; refine wpList_app rfl (.tmp 5) (.tmp 6) 27 rfl w.heap.size 5 i0 (.int .u8 0) 1 Tryd.underlying27 hi hz0 hz1 hz2 rfl _ 0 [] rfl HO.out A l c (cells zs) rfl HA.out one_u8s (by simp only [maxLen]; omega) (by omega) (by simp) ?_))
  intro A1 c1 w1 own1 f1 s1
  have hf1 : Fr No w w1 := ((Fr.refl No w).alloc (.cells #[] 5)).step f1 (fun i hi h => by simp [Value.ownBlock] at h; omega)
  have O1 := hid own1
  have F1 := hid hf1
  have S1 := hid s1
  have hsub : (124 : Int) - l = (124 - l : Nat) := by omega
  have HSUB := hid hsub
  clear own1 f1 s1 hf1 hsub
  go_wp2_with (at_builtin; go_loud (refine wpList_appz rfl (.tmp 7) (.tmp 10) 27 3 rfl w.heap.size 5 i0 (.int .u8 0) 1 .i64 .i64 Tryd.underlying27 Tryd.underlying3 hi hz0 hz1 hz2 rfl rfl _ l _ rfl O1.out (124 - l) _ rfl HSUB.out (by simp only [maxLen]; omega) (by omega) F1.out.size ?_))
  intro A2 c2 w2 own2 f2 s2
  have hf2 : Fr No w w2 := F1.out.step f2 (fun i hi h => absurd hi (by rcases S1.out i h with h | h; (simp [Value.ownBlock] at h; omega); omega))
  have hs2 : ∀ k, (Value.slice A2 124 c2).ownBlock = some k → w.heap.size ≤ k := fun k hk => by
    rcases s2 k hk with h | h
    · rcases S1.out k h with h | h
      · simp [Value.ownBlock] at h; omega
      · omega
    · exact Nat.le_trans F1.out.size h
  rw [show cells zs ++ List.replicate (124 - l) (Value.int .u8 0) = cells (rest zs) by rw [rest, HLEN.out, cells, cells, List.map_append, List.map_replicate]] at own2
  have O2 := hid own2
  have F2 := hid hf2
  have S2 := hid hs2
  have HS := hid (refSum_any A2 124 c2 (rest zs) w2 (Rd.own own2) (rest_u8 HZ.out) (by simp [maxLen]))
  clear own2 f2 s2 hf2 hs2 F1 O1 S1
  go_wp2_with fail
  refine HS.out.mono ?_
  rintro e w' ⟨rfl, rfl⟩
  obtain ⟨S, hS⟩ : ∃ S, onN 0 (rest zs) = S := ⟨_, rfl⟩
  have hS2 : S < 4294967296 := by rw [← hS]; exact nt_lt _
  rw [hS]
  have HSS := hid hS
  have hF4 := F2.out.alloc (.cells #[.int .u8 ((S : Int) % 256), .int .u8 ((S : Int) / 256 % 256), .int .u8 ((S : Int) / 65536 % 256), .int .u8 ((S : Int) / 16777216 % 256)] 5)
  have O3 := hid (World.ownsRow_lit (base := w.heap.size) (e := 5) (size := 1) w2 #[.int .u8 ((S : Int) % 256), .int .u8 ((S : Int) / 256 % 256), .int .u8 ((S : Int) / 65536 % 256), .int .u8 ((S : Int) / 16777216 % 256)] 4 F2.out.size (by simp [maxLen]) rfl)
  have A3 := hid ((Rd.own O2.out).fr (S := No) ((Fr.refl _ w2).alloc (.cells #[.int .u8 ((S : Int) % 256), .int .u8 ((S : Int) / 256 % 256), .int .u8 ((S : Int) / 65536 % 256), .int .u8 ((S : Int) / 16777216 % 256)] 5)) (fun _ _ _ h => h))
  have H4 := hid hF4
  have H5 := hid hS2
  clear hS hF4 hS2 O2 S2
  go_wp2_with (at_builtin; go_loud (refine wpList_app rfl (.tmp 25) (.tmp 26) 27 rfl w.heap.size 5 i0 (.int .u8 0) 1 Tryd.underlying27 hi hz0 hz1 hz2 rfl _ 4 _ rfl O3.out A2 124 c2 (cells (rest zs)) rfl A3.out one_u8s (by simp only [maxLen]; omega) (by omega) H4.out.size ?_))
  intro A5 c5 w5 own5 f5 s5
  have hf5 : Fr No w w5 := H4.out.step f5 (fun i hi h => absurd hi (by have := F2.out.size; simp [Value.ownBlock] at h; omega))
  have e5 : cells (seal_ zs) = [.int .u8 ((S : Int) % 256), .int .u8 ((S : Int) / 256 % 256), .int .u8 ((S : Int) / 65536 % 256), .int .u8 ((S : Int) / 16777216 % 256)] ++ cells (rest zs) := by
    rw [seal_, HSS.out, cells, List.map_append, lo4 S H5.out]
    rfl
  have O5 := hid own5
  have H6 := hid hf5
  have E5 := hid e5
  clear own5 f5 s5 hf5 e5
  go_wp2
  go_ret
  exact ⟨A5, c5, rfl, by rw [E5.out]; exact O5.out, H6.out⟩
/-- Bytes as a string: the same string only of the same bytes. -/
theorem str_inj {xs ys : List Int} (hx : ∀ x ∈ xs, 0 ≤ x ∧ x ≤ 255) (hy : ∀ x ∈ ys, 0 ≤ x ∧ x ≤ 255) (h1 : (xs.map fun n => UInt8.ofNat n.toNat) = ys.map fun n => UInt8.ofNat n.toNat) : xs = ys := by
  induction xs generalizing ys with
  | nil =>
    cases ys with
    | nil => rfl
    | cons y ys => simp at h1
  | cons x xs ih =>
    cases ys with
    | nil => simp at h1
    | cons y ys =>
      simp only [List.map_cons, List.cons.injEq] at h1
      have a := hx x (by simp)
      have b := hy y (by simp)
      have e := congrArg UInt8.toNat h1.1
      simp at e
      rw [ih (fun z hz => hx z (by simp [hz])) (fun z hz => hy z (by simp [hz])) h1.2]
      congr 1
      omega
theorem str_list (xs : List Int) : (strOfNums xs).toList = xs.map fun n => UInt8.ofNat n.toNat := by
  rw [Lib.strOfNums_toList]
  rfl
theorem str_beq {xs ys : List Int} (hx : ∀ x ∈ xs, 0 ≤ x ∧ x ≤ 255) (hy : ∀ x ∈ ys, 0 ≤ x ∧ x ≤ 255) : ((strOfNums xs).toList == (strOfNums ys).toList) = (xs == ys) := by
  rw [str_list, str_list, Bool.eq_iff_iff, beq_iff_eq, beq_iff_eq]
  exact ⟨str_inj hx hy, fun h => by rw [h]⟩
theorem chk_eq (zs : List Int) (hl : zs.length = 128) (hz : ∀ x ∈ zs, 0 ≤ x ∧ x ≤ 255) : (seal_ (zs.drop 4) == zs) = (ld zs 4 == onN 0 (zs.drop 4)) := by
  match zs, hl with
  | a :: b :: c :: d :: r, hl =>
    have hr : r.length = 124 := by simpa using hl
    have ha := hz a (by simp)
    have hb := hz b (by simp)
    have hc := hz c (by simp)
    have hd := hz d (by simp)
    have e1 : rest r = r := by rw [rest, hr]; simp
    have e2 : (a :: b :: c :: d :: r).drop 4 = r := rfl
    have hS : onN 0 r < 4294967296 := nt_lt _
    rw [e2, seal_, e1]
    obtain ⟨S, hS2⟩ : ∃ S, onN 0 r = S := ⟨_, rfl⟩
    rw [hS2] at hS ⊢
    have e3 : ld (a :: b :: c :: d :: r) 4 = a.toNat + 256 * b.toNat + 65536 * c.toNat + 16777216 * d.toNat := by
      simp [ld]
    rw [lo4 S hS, e3, Bool.eq_iff_iff, beq_iff_eq, beq_iff_eq]
    simp only [List.cons_append, List.nil_append, List.cons.injEq, and_true]
    omega

set_option maxRecDepth 100000 in
theorem refCheck_any (A : Option Addr) (l c : Nat) (zs : List Int) (w : World) (hb : IsB w A l c zs) :
    Calls Tryd.prog 39 #[.slice A l c] w fun e w' => e = .returned (.bool (l == 128 && ld zs 4 == onN 0 (zs.drop 4))) ∧ Fr No w w' := by
  have hlen : zs.length = l := by simpa using hb.1.1
  have hl2 := hb.2.1
  have hc2 := hb.2.2.1
  unfold maxLen at hc2
  by_cases h : l = 128
  · subst h
    have hx : ((128 : Nat) == 128 && ld zs 4 == onN 0 (zs.drop 4)) = ((strOfNums (seal_ (zs.drop 4))).toList == (strOfNums zs).toList) := by
      rw [show (128 == 128) = true from rfl, Bool.true_and, str_beq (seal_u8 (fun x hx => hb.2.2.2 x (List.mem_of_mem_drop hx))) hb.2.2.2, chk_eq zs hlen hb.2.2.2]
    have HX := hid hx
    obtain ⟨d, o, rfl, hd, hc⟩ := hb.1.2 (by omega)
    have hR : Rd (w.drewN 1) (some ⟨d, o + 4, none⟩) 124 (cells (zs.drop 4)) := by
      have := hb.1.cut (k := 4) (by omega) hl2
      rw [cutA, if_neg (by omega), Option.map_some, add_off, ← List.map_drop] at this
      exact this.drewN 1
    have HS := hid (refSeal_ok _ 124 (c - 4) (zs.drop 4) _ (Nat.le_refl _) hR (fun x hx => hb.2.2.2 x (List.mem_of_mem_drop hx)))
    have hc4 : ¬ c = 4 := by omega
    have s0 := run_str (P := Tryd.prog) w.drew 27 9 5 Tryd.underlying27 Tryd.underlying5 Tryd.underlying9 _ _ c _ (hb.1.drewN 1)
    have HB := hid hb
    obtain ⟨T1, hT1⟩ : ∃ T, strOfNums zs = T := ⟨_, rfl⟩
    obtain ⟨T2, hT2⟩ : ∃ T, strOfNums (seal_ (zs.drop 4)) = T := ⟨_, rfl⟩
    rw [hT1] at HX s0
    rw [hT2] at HX
    rw [HX.out]
    have HT1 := hid hT1
    have HT2 := hid hT2
    clear hb hx hc hR hlen hT1 hT2
    go_enter Tryd.func39, Tryd.ntmps39
    go_wp2_with fail
    refine wp_region_any (by kernel_rfl) ?_
    change wpAny _ _ _ _ _ _ _ (World.drew _)
    refine wpAny_take (i := 0) (v := (.slice (some ⟨d, o, none⟩) 128 c)) rfl (by kernel_rfl) (by kernel_rfl) (by kernel_rfl) (fun _ _ _ h => h) (Or.inl ⟨by kernel_rfl, fun w => (by first | (go_simp; done) | (go_simp; with_reducible rfl))⟩) ?_
    try simp only [Act.put, List.getElem_toArray, List.getElem_cons_zero, List.setIfInBounds_toArray, List.set_cons_zero, List.set_cons_succ]
    refine wpAny_take (i := 1) (v := .int .i64 128) rfl (by kernel_rfl) (by kernel_rfl) (by kernel_rfl) (fun _ _ _ h => h) (Or.inl ⟨by kernel_rfl, fun w => (by first | (go_simp; done) | (go_simp; with_reducible rfl))⟩) ?_
    try simp only [Act.put, List.getElem_toArray, List.getElem_cons_succ, List.getElem_cons_zero, List.setIfInBounds_toArray, List.set_cons_zero, List.set_cons_succ]
    refine wpAny_take (i := 2) (v := .bool true) rfl (by kernel_rfl) (by kernel_rfl) (by kernel_rfl) (fun _ _ _ h => h) (Or.inl ⟨by kernel_rfl, fun w => (by first | (go_simp; done) | (go_simp; with_reducible rfl))⟩) ?_
    try simp only [Act.put, List.getElem_toArray, List.getElem_cons_succ, List.getElem_cons_zero, List.setIfInBounds_toArray, List.set_cons_zero, List.set_cons_succ]
    refine wpAny_take (i := 3) (v := .bool true) rfl (by kernel_rfl) (by kernel_rfl) (by kernel_rfl) (fun _ _ _ h => h) (Or.inl ⟨by kernel_rfl, fun w => (by first | (go_simp; done) | (go_simp; with_reducible rfl))⟩) ?_
    try simp only [Act.put, List.getElem_toArray, List.getElem_cons_succ, List.getElem_cons_zero, List.setIfInBounds_toArray, List.set_cons_zero, List.set_cons_succ]
    refine wpAny_take (i := 4) (v := (.slice (some ⟨d, o, none⟩) 128 c)) rfl (by kernel_rfl) (by kernel_rfl) (by kernel_rfl) (fun _ _ _ h => h) (Or.inl ⟨by kernel_rfl, fun w => (by first | (go_simp; done) | (go_simp; with_reducible rfl))⟩) ?_
    try simp only [Act.put, List.getElem_toArray, List.getElem_cons_succ, List.getElem_cons_zero, List.setIfInBounds_toArray, List.set_cons_zero, List.set_cons_succ]
    refine wpAny_take (i := 8) (v := (.slice (some ⟨d, o, none⟩) 128 c)) rfl (by kernel_rfl) (by kernel_rfl) (by kernel_rfl) (fun _ _ _ h => h) (Or.inl ⟨by kernel_rfl, fun w => (by first | (go_simp; done) | (go_simp; with_reducible rfl))⟩) ?_
    try simp only [Act.put, List.getElem_toArray, List.getElem_cons_succ, List.getElem_cons_zero, List.setIfInBounds_toArray, List.set_cons_zero, List.set_cons_succ]
    refine wpAny_take (i := 5) (v := (.slice (some ⟨d, o + 4, none⟩) 124 (c - 4))) rfl (by kernel_rfl) (by kernel_rfl) (by kernel_rfl) (fun _ _ _ h => h) (Or.inl ⟨by kernel_rfl, fun w => (by first | (go_simp; done) | (go_simp; with_reducible rfl))⟩) ?_
    try simp only [Act.put, List.getElem_toArray, List.getElem_cons_succ, List.getElem_cons_zero, List.setIfInBounds_toArray, List.set_cons_zero, List.set_cons_succ]
    refine wpAny_ready (rs := [6, 9]) (by kernel_rfl) (by simp) (AllReady.cons rfl (fun K hK => ?_) (AllReady.cons rfl (fun K hK => ?_) AllReady.nil))
    · go_simp
      go_at_call 35
      refine HS.out.mono ?_
      rintro e w5 ⟨A5, c5, rfl, own5, F5⟩
      have s1 := run_str (P := Tryd.prog) w5 27 9 5 Tryd.underlying27 Tryd.underlying5 Tryd.underlying9 _ _ c5 _ (Rd.own own5)
      have s2 := run_str (P := Tryd.prog) w5 27 9 5 Tryd.underlying27 Tryd.underlying5 Tryd.underlying9 _ _ c _ ((HB.out.1.drewN 1).fr F5 (fun _ _ _ h => h))
      rw [HT1.out] at s2
      rw [HT2.out] at s1
      have HF5 := hid F5
      clear own5 F5
      go_wp2_with fail
      (try (refine hK _ _ ?_; clear hK K))
      try simp only [Act.put, List.getElem_toArray, List.getElem_cons_succ, List.getElem_cons_zero, List.setIfInBounds_toArray, List.set_cons_zero, List.set_cons_succ]
      refine wpAny_ready (rs := [7, 9]) (by kernel_rfl) (by simp) (AllReady.cons rfl (fun K hK => ?_) (AllReady.cons rfl (fun K hK => ?_) AllReady.nil))
      · go_simp
        (try (refine hK _ _ ?_; clear hK K))
        try simp only [Act.put, List.getElem_toArray, List.getElem_cons_succ, List.getElem_cons_zero, List.setIfInBounds_toArray, List.set_cons_zero, List.set_cons_succ]
        refine wpAny_ready (rs := [9]) (by kernel_rfl) (by simp) (AllReady.cons rfl (fun K hK => ?_) AllReady.nil)
        go_simp
        (try (refine hK _ _ ?_; clear hK K))
        try simp only [Act.put, List.getElem_toArray, List.getElem_cons_succ, List.getElem_cons_zero, List.setIfInBounds_toArray, List.set_cons_zero, List.set_cons_succ]
        refine wpAny_ready (rs := [10]) (by kernel_rfl) (by simp) (AllReady.cons rfl (fun K hK => ?_) AllReady.nil)
        go_simp
        (try (refine hK _ _ ?_; clear hK K))
        try simp only [Act.put, List.getElem_toArray, List.getElem_cons_succ, List.getElem_cons_zero, List.setIfInBounds_toArray, List.set_cons_zero, List.set_cons_succ]
        refine wpAny_ready (rs := [11]) (by kernel_rfl) (by simp) (AllReady.cons rfl (fun K hK => ?_) AllReady.nil)
        go_simp
        (try (refine hK _ _ ?_; clear hK K))
        try simp only [Act.put, List.getElem_toArray, List.getElem_cons_succ, List.getElem_cons_zero, List.setIfInBounds_toArray, List.set_cons_zero, List.set_cons_succ]
        refine wpAny_ready (rs := [12]) (by kernel_rfl) (by simp) (AllReady.cons rfl (fun K hK => ?_) AllReady.nil)
        go_simp
        (try (refine hK _ _ ?_; clear hK K))
        try simp only [Act.put, List.getElem_toArray, List.getElem_cons_succ, List.getElem_cons_zero, List.setIfInBounds_toArray, List.set_cons_zero, List.set_cons_succ]
        refine wpAny_done (by kernel_rfl) ?_ _
        go_wp2
        go_ret
        exact ⟨rfl, ((Fr.refl No w).drewN 1).trans HF5.out⟩
      · go_simp
        (try (refine hK _ _ ?_; clear hK K))
        try simp only [Act.put, List.getElem_toArray, List.getElem_cons_succ, List.getElem_cons_zero, List.setIfInBounds_toArray, List.set_cons_zero, List.set_cons_succ]
        refine wpAny_ready (rs := [7]) (by kernel_rfl) (by simp) (AllReady.cons rfl (fun K hK => ?_) AllReady.nil)
        go_simp
        (try (refine hK _ _ ?_; clear hK K))
        try simp only [Act.put, List.getElem_toArray, List.getElem_cons_succ, List.getElem_cons_zero, List.setIfInBounds_toArray, List.set_cons_zero, List.set_cons_succ]
        refine wpAny_ready (rs := [10]) (by kernel_rfl) (by simp) (AllReady.cons rfl (fun K hK => ?_) AllReady.nil)
        go_simp
        (try (refine hK _ _ ?_; clear hK K))
        try simp only [Act.put, List.getElem_toArray, List.getElem_cons_succ, List.getElem_cons_zero, List.setIfInBounds_toArray, List.set_cons_zero, List.set_cons_succ]
        refine wpAny_ready (rs := [11]) (by kernel_rfl) (by simp) (AllReady.cons rfl (fun K hK => ?_) AllReady.nil)
        go_simp
        (try (refine hK _ _ ?_; clear hK K))
        try simp only [Act.put, List.getElem_toArray, List.getElem_cons_succ, List.getElem_cons_zero, List.setIfInBounds_toArray, List.set_cons_zero, List.set_cons_succ]
        refine wpAny_ready (rs := [12]) (by kernel_rfl) (by simp) (AllReady.cons rfl (fun K hK => ?_) AllReady.nil)
        go_simp
        (try (refine hK _ _ ?_; clear hK K))
        try simp only [Act.put, List.getElem_toArray, List.getElem_cons_succ, List.getElem_cons_zero, List.setIfInBounds_toArray, List.set_cons_zero, List.set_cons_succ]
        refine wpAny_done (by kernel_rfl) ?_ _
        go_wp2
        go_ret
        exact ⟨rfl, ((Fr.refl No w).drewN 1).trans HF5.out⟩
    · go_simp
      (try (refine hK _ _ ?_; clear hK K))
      try simp only [Act.put, List.getElem_toArray, List.getElem_cons_succ, List.getElem_cons_zero, List.setIfInBounds_toArray, List.set_cons_zero, List.set_cons_succ]
      refine wpAny_ready (rs := [6]) (by kernel_rfl) (by simp) (AllReady.cons rfl (fun K hK => ?_) AllReady.nil)
      go_simp
      go_at_call 35
      refine HS.out.mono ?_
      rintro e w5 ⟨A5, c5, rfl, own5, F5⟩
      have s1 := run_str (P := Tryd.prog) w5 27 9 5 Tryd.underlying27 Tryd.underlying5 Tryd.underlying9 _ _ c5 _ (Rd.own own5)
      have s2 := run_str (P := Tryd.prog) w5 27 9 5 Tryd.underlying27 Tryd.underlying5 Tryd.underlying9 _ _ c _ ((HB.out.1.drewN 1).fr F5 (fun _ _ _ h => h))
      rw [HT1.out] at s2
      rw [HT2.out] at s1
      have HF5 := hid F5
      clear own5 F5
      go_wp2_with fail
      (try (refine hK _ _ ?_; clear hK K))
      try simp only [Act.put, List.getElem_toArray, List.getElem_cons_succ, List.getElem_cons_zero, List.setIfInBounds_toArray, List.set_cons_zero, List.set_cons_succ]
      refine wpAny_ready (rs := [7]) (by kernel_rfl) (by simp) (AllReady.cons rfl (fun K hK => ?_) AllReady.nil)
      go_simp
      (try (refine hK _ _ ?_; clear hK K))
      try simp only [Act.put, List.getElem_toArray, List.getElem_cons_succ, List.getElem_cons_zero, List.setIfInBounds_toArray, List.set_cons_zero, List.set_cons_succ]
      refine wpAny_ready (rs := [10]) (by kernel_rfl) (by simp) (AllReady.cons rfl (fun K hK => ?_) AllReady.nil)
      go_simp
      (try (refine hK _ _ ?_; clear hK K))
      try simp only [Act.put, List.getElem_toArray, List.getElem_cons_succ, List.getElem_cons_zero, List.setIfInBounds_toArray, List.set_cons_zero, List.set_cons_succ]
      refine wpAny_ready (rs := [11]) (by kernel_rfl) (by simp) (AllReady.cons rfl (fun K hK => ?_) AllReady.nil)
      go_simp
      (try (refine hK _ _ ?_; clear hK K))
      try simp only [Act.put, List.getElem_toArray, List.getElem_cons_succ, List.getElem_cons_zero, List.setIfInBounds_toArray, List.set_cons_zero, List.set_cons_succ]
      refine wpAny_ready (rs := [12]) (by kernel_rfl) (by simp) (AllReady.cons rfl (fun K hK => ?_) AllReady.nil)
      go_simp
      (try (refine hK _ _ ?_; clear hK K))
      try simp only [Act.put, List.getElem_toArray, List.getElem_cons_succ, List.getElem_cons_zero, List.setIfInBounds_toArray, List.set_cons_zero, List.set_cons_succ]
      refine wpAny_done (by kernel_rfl) ?_ _
      go_wp2
      go_ret
      exact ⟨rfl, ((Fr.refl No w).drewN 1).trans HF5.out⟩
  · have he : ((l : Int) == 128) = false := by rw [beq_eq_false_iff_ne]; omega
    have hx : (l == 128 && ld zs 4 == onN 0 (zs.drop 4)) = false := by rw [show (l == 128) = false by simpa using h, Bool.false_and]
    rw [hx]
    clear hx hb hlen h
    go_enter Tryd.func39, Tryd.ntmps39
    go_wp2_with fail
    go_quiet (fail)
    go_wp2
    go_ret
    exact ⟨rfl, Fr.drewN (Fr.refl No w) _⟩
end Go.Proofs.YtkkbgbpmpcoffaaDoor.CrcF
/- What must come of every program of package crc. Condition: the table is as its text lays it. -/
namespace Go.Proofs.YtkkbgbpmpcoffaaDoor.CrcG
open Go.RowKit MSep MFrame CrcM CrcA CrcB CrcC CrcD CrcE CrcF

theorem seal_drop (zs : List Int) : (seal_ zs).drop 4 = rest zs := by
  rw [seal_, List.drop_left' (lo_len _ _)]
theorem ld_seal (zs : List Int) : ld (seal_ zs) 4 = onN 0 (rest zs) := by
  have hS : onN 0 (rest zs) < 4294967296 := nt_lt _
  rw [seal_]
  obtain ⟨S, hS2⟩ : ∃ S, onN 0 (rest zs) = S := ⟨_, rfl⟩
  obtain ⟨r, hr⟩ : ∃ r, rest zs = r := ⟨_, rfl⟩
  rw [hS2] at hS ⊢
  rw [hr, lo4 S hS]
  simp [ld]
  omega
theorem chk_seal (zs : List Int) : (128 == 128 && ld (seal_ zs) 4 == onN 0 ((seal_ zs).drop 4)) = true := by
  rw [seal_drop, ld_seal]
  simp

theorem lit_rd (w : World) (xs : List Int) (fr : Nat × Nat) : Rd (w.alloc (.cells (cells xs).toArray 5 fr)) (some ⟨w.heap.size, 0, none⟩) xs.length (cells xs) :=
  ⟨by simp [cells], fun _ => ⟨_, _, rfl, by simp, fun j u hu => by
    rw [Nat.zero_add, cell_of_row _ _ j _ _ _ (heap_alloc_new w _)]
    simpa using hu⟩⟩

theorem sums : onN 0 [49, 50, 51, 52, 53, 54, 55, 56, 57] = 3808858755 := by decide +kernel
theorem joined : it 40 (onN 0 [49, 50, 51, 52]) ^^^ onN 0 [53, 54, 55, 56, 57] = 3808858755 := by decide +kernel
theorem nib1 : it 4 1 = 274646895 := by decide +kernel

theorem sum_lit (w : World) (hT : TabAt w) (xs : List Int) (n : Nat) (hn : xs.length = n) (hx : ∀ x ∈ xs, 0 ≤ x ∧ x ≤ 255) (fr : Nat × Nat) (hl : n ≤ 1000) :
    Calls Tryd.prog 25 #[.slice (some ⟨w.heap.size, 0, none⟩) n n] (w.alloc (.cells (cells xs).toArray 5 fr)) fun e w' => e = .returned (.int .u32 (onN 0 xs : Nat)) ∧ Fr No w w' := by
  subst hn
  refine (sum_any (some ⟨w.heap.size, 0, none⟩) xs.length xs.length xs _ (lit_rd w xs fr) hx (by simp only [maxLen]; omega) (hT.fr (S := No) ((Fr.refl _ w).alloc _) (fun h => h))).mono ?_
  rintro e w' ⟨rfl, rfl⟩
  exact ⟨rfl, (Fr.refl _ w).alloc _⟩
theorem check_is (w : World) (g : Nat) (zs : List Int) (hz : ∀ x ∈ zs, 0 ≤ x ∧ x ≤ 255) (hl : zs.length ≤ 124) (hb : Blk w g 5 (cells (seal_ zs)).toArray) (hT : TabAt w) :
    Calls Tryd.prog 63 #[.slice (some ⟨g, 0, none⟩) 128 128] w fun e w' => e = .returned (.bool true) ∧ w = w' := by
  have hr := Rd.blk (off := 0) (n := 128) hb (by simp [cells, seal_len hl])
  rw [List.drop_zero, List.take_of_length_le (by simp [cells, seal_len hl])] at hr
  have h := check_any (some ⟨g, 0, none⟩) 128 128 (seal_ zs) w ⟨hr, Nat.le_refl _, by simp [maxLen], seal_u8 hz⟩ hT
  rw [chk_seal] at h
  exact h
theorem check_not (w : World) (g : Nat) (zs : List Int) (hz : ∀ x ∈ zs, 0 ≤ x ∧ x ≤ 255) (hl : zs.length ≤ 124) (hb : Blk w g 5 (cells (seal_ zs)).toArray) (hT : TabAt w) :
    Calls Tryd.prog 63 #[.slice (some ⟨g, 0, none⟩) 127 128] w fun e w' => e = .returned (.bool false) ∧ w = w' := by
  have hr := Rd.blk (off := 0) (n := 127) hb (by simp [cells, seal_len hl])
  rw [List.drop_zero, cells, ← List.map_take] at hr
  have h := check_any (some ⟨g, 0, none⟩) 127 128 ((seal_ zs).take 127) w ⟨hr, by omega, by simp [maxLen], fun x hx => seal_u8 hz x (List.mem_of_mem_take hx)⟩ hT
  exact h

end Go.Proofs.YtkkbgbpmpcoffaaDoor.CrcG
