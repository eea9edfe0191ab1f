/- Sealed sectors: their bytes, plainly, and the contracts of Seal and Check. Condition: what is handed in reads as bytes; the table is as its text lays it. -/
import Derived.Test.YtpiplcakefcaaaaDoorCrcC
import Derived.Test.YtpiplcakefcaaaaDoorCrcD
import Derived.Test.YtpiplcakefcaaaaDoorSepB
import Derived.Lib.EndianBits
import Derived.BigQuiet
import Derived.Deep.QuietTactic
import Derived.WalkLawsBesides
import Derived.WalkSpells
import Derived.Handy
namespace Go.Proofs.YtpiplcakefcaaaaDoor.CrcE
open Go.RowKit MSep MFrame CrcM CrcA CrcB CrcC CrcD

/-- The lowest i bytes of S, lowest first, of four places. -/
def lo (S i : Nat) : List Int := (List.range 4).map fun j => if j < i then ((S / 2 ^ (8 * j) % 256 : Nat) : Int) else 0
/-- What a sector holds behind its sum. -/
def rest (zs : List Int) : List Int := zs ++ List.replicate (124 - zs.length) 0
/-- The sealed sector. -/
def seal_ (zs : List Int) : List Int := lo (onN 0 (rest zs)) 4 ++ rest zs
theorem lo_len (S i : Nat) : (lo S i).length = 4 := by simp [lo]
theorem rest_len {zs : List Int} (h : zs.length ≤ 124) : (rest zs).length = 124 := by simp [rest]; omega
theorem seal_len {zs : List Int} (h : zs.length ≤ 124) : (seal_ zs).length = 128 := by rw [seal_, List.length_append, lo_len, rest_len h]
theorem lo_zero (S : Nat) : lo S 0 = [0, 0, 0, 0] := by simp [lo, List.range, List.range.loop]
theorem lo_set (S : Nat) : ∀ i, i < 4 → (lo S i).set i ((S / 2 ^ (8 * i) % 256 : Nat) : Int) = lo S (i + 1) := by
  intro i hi
  match i, hi with
  | 0, _ => simp [lo, List.range, List.range.loop]
  | 1, _ => simp [lo, List.range, List.range.loop]
  | 2, _ => simp [lo, List.range, List.range.loop]
  | 3, _ => simp [lo, List.range, List.range.loop]
theorem lo_u8 (S i : Nat) : ∀ x ∈ lo S i, 0 ≤ x ∧ x ≤ 255 := by
  intro x hx
  obtain ⟨j, _, rfl⟩ := List.mem_map.1 hx
  split <;> omega
theorem rest_u8 {zs : List Int} (h : ∀ x ∈ zs, 0 ≤ x ∧ x ≤ 255) : ∀ x ∈ rest zs, 0 ≤ x ∧ x ≤ 255 := by
  intro x hx
  rcases List.mem_append.1 hx with hx | hx
  · exact h x hx
  · rw [List.eq_of_mem_replicate hx]; omega
theorem seal_u8 {zs : List Int} (h : ∀ x ∈ zs, 0 ≤ x ∧ x ≤ 255) : ∀ x ∈ seal_ zs, 0 ≤ x ∧ x ≤ 255 := by
  intro x hx
  rcases List.mem_append.1 hx with hx | hx
  · exact lo_u8 _ _ x hx
  · exact rest_u8 h x hx

/-- A sector's cells. -/
def cells (xs : List Int) : List Value := xs.map (Value.int .u8)

set_option maxRecDepth 100000 in
theorem seal_long (A : Option Addr) (l c : Nat) (w : World) (hl : 124 < l) (hm : l ≤ maxLen) : Calls Tryd.prog 90 #[.slice A l c] w fun e w' => e = .returned (.tuple #[.slice none 0 0, .int .i64 3]) ∧ w = w' := by
  unfold maxLen at hm
  have h : (124 : Int) < l := by omega
  go_enter Tryd.func90, Tryd.ntmps90
  go_wp2
  go_ret2
  exact ⟨rfl, rfl⟩

theorem u8_info : (Tryd.prog.info? 5).map (fun i => (i.zero, i.size, i.bytes)) = some (some (.int .u8 0), 1, 1) := by kernel_rfl

/-- Behind i rounds of Seal's loop. -/
def SeI (w : World) (g S : Nat) (r : List Int) (i : Value) (wr : World) : Prop := ∃ k : Nat, k ≤ 4 ∧ i = .int .i64 k ∧ Blk wr g 5 (cells (lo S k ++ r)).toArray ∧ Fr No w wr

def z128 : List Int := List.replicate 128 0
theorem start_eq (zs : List Int) (l : Nat) (h : zs.length = l) (hl : l ≤ 124) : (cells z128).take 4 ++ (cells zs ++ (cells z128).drop (4 + l)) = cells (lo 0 0 ++ rest zs) := by
  subst h
  have e1 : z128 = List.replicate 4 0 ++ (List.replicate zs.length 0 ++ List.replicate (124 - zs.length) 0) := by
    rw [z128, List.replicate_append_replicate, List.replicate_append_replicate]
    congr 1
    omega
  have e2 : lo 0 0 = List.replicate 4 0 := by rw [lo_zero]; rfl
  rw [e2, rest, e1, cells, List.map_append, List.take_left' (by simp), ← List.append_assoc, List.map_append, ← List.append_assoc, ← List.map_append, ← List.map_append]
  rw [cells, cells, List.map_append, List.map_append, List.map_append, List.append_assoc]
  congr 2
  rw [List.drop_left' (by simp; omega), ← List.map_append]
theorem z128_len : z128.length = 128 := by simp [z128]
theorem rest_rd {w : World} {g : Nat} {S i : Nat} {zs : List Int} (h : Blk w g 5 (cells (lo S i ++ rest zs)).toArray) (hl : zs.length ≤ 124) : Rd w (some ⟨g, 4, none⟩) 124 ((rest zs).map (Value.int .u8)) := by
  have := Rd.blk (off := 4) (n := 124) h (by simp [cells, lo_len, rest_len hl])
  rw [cells, List.map_append, List.drop_left' (by simp [lo_len]), List.take_of_length_le (by simp [rest_len hl])] at this
  exact this
theorem se_step (w : World) (g S k : Nat) (r : List Int) (wr : World) (hk : k < 4) (b : Blk wr g 5 (cells (lo S k ++ r)).toArray) (f : Fr No w wr) (hg : w.heap.size ≤ g) :
    SeI w g S r (.int .i64 ((k : Int) + 1)) (wr.setCell ⟨g, k, none⟩ (.int .u8 (S / 2 ^ (8 * k) % 256 : Nat))) := by
  refine ⟨k + 1, by omega, by go_num, ?_, f.setCell (p := ⟨g, k, none⟩) (fun h => absurd h (by simp; omega)) _⟩
  have := b.set_ k (.int .u8 (S / 2 ^ (8 * k) % 256 : Nat))
  rw [List.setIfInBounds_toArray, cells, List.map_append, List.set_append_left _ _ (by simp [lo_len]; omega), ← List.map_set, lo_set S k hk, ← List.map_append] at this
  exact this

theorem byte_cast (S k : Nat) : ((S / 2 ^ (8 * k) % 256 : Nat) : Int) = (S : Int) / 2 ^ (8 * k) % 256 := by
  rw [Int.natCast_emod, Int.natCast_ediv, Int.natCast_pow]
  rfl

set_option maxRecDepth 100000 in
theorem seal_ok (A : Option Addr) (l c : Nat) (zs : List Int) (w : World) (hl : l ≤ 124) (hb : Rd w A l (cells zs)) (hz : ∀ x ∈ zs, 0 ≤ x ∧ x ≤ 255) (hT : TabAt w) :
    Calls Tryd.prog 90 #[.slice A l c] w fun e w' => e = .returned (.tuple #[.slice (some ⟨w.heap.size, 0, none⟩) 128 128, .int .i64 0]) ∧ Blk w' w.heap.size 5 (cells (seal_ zs)).toArray ∧ Fr No w w' := by
  obtain ⟨i0, hi, hz0, hz1, hz2⟩ := info_parts u8_info
  have hlen : zs.length = l := by simpa [cells] using hb.1
  have HB := hid hb
  have HZ := hid hz
  have HT := hid hT
  have HLEN := hid hlen
  have hL : ¬ (124 : Int) < l := by omega
  clear hb hz hT hlen
  go_enter Tryd.func90, Tryd.ntmps90
  go_wp2_with (first | (at_make; go_must (refine wpList_make_full _ rfl _ _ 27 rfl w.heap.size 5 i0 (.int .u8 0) 1 Tryd.underlying27 hi hz0 hz1 .i64 .i64 _ _ 128 rfl rfl rfl rfl (by rw [hz2]; omega) (by simp only [maxLen]; omega) (Nat.le_refl _) ?_)))
  intro w1 hown1 hg1
  have hF1 : Fr No w w1 := (Fr.refl _ _).grown hg1 (fun k hk => by cases hk)
  rw [toList_madeCells_one] at hown1
  have B1 := hid (show Blk w1 w.heap.size 5 (cells z128).toArray by rw [cells, z128, List.map_replicate]; exact Blk.of_own hown1)
  have HF1 := hid hF1
  have HA := hid (HB.out.fr hF1 (fun _ _ _ h => h))
  obtain ⟨g, hg⟩ : ∃ g, w.heap.size = g := ⟨_, rfl⟩
  have NG := hid (show w.heap.size ≤ g by omega)
  have HG := hid hg
  rw [hg] at B1 ⊢
  clear hown1 hg1 hF1 hg
  go_wp2_with (refine wpList_cpB rfl (.tmp 12) (.tmp 13) 27 27 rfl 5 Tryd.underlying27 (by kernel_rfl) g 4 124 124 A l c (cells zs) (cells z128) rfl rfl B1.out HA.out one_u8s hl (by simp [cells, z128_len]) ?_)
  intro w2 b2 f2
  have H2 := hid (HF1.out.step f2 (fun i hi h => absurd h (by have := NG.out; omega)))
  rw [show (cells z128).take 4 ++ (cells zs ++ (cells z128).drop (4 + l)) = cells (lo 0 0 ++ rest zs) from start_eq zs l HLEN.out hl] at b2
  have B2 := hid b2
  have HS := hid (sum_any (some ⟨g, 4, none⟩) 124 124 (rest zs) w2 (rest_rd b2 (by rw [HLEN.out]; exact hl)) (rest_u8 HZ.out) (by simp [maxLen]) (HT.out.fr H2.out (fun h => h)))
  clear b2 f2
  go_wp2_with fail
  refine HS.out.mono ?_
  rintro e w' ⟨rfl, rfl⟩
  obtain ⟨S, hS⟩ : ∃ S, onN 0 (rest zs) = S := ⟨_, rfl⟩
  have hS2 : S < 4294967296 := by rw [← hS]; exact nt_lt _
  rw [hS]
  have HSS := hid hS
  clear hS
  go_wp2
  go_loopw [18] (fun i wr => SeI w g S (rest zs) i wr) (fun i _ => 4 - (intOf i).toNat)
  case atStart => exact ⟨0, by omega, rfl, by rw [lo_zero, ← lo_zero 0]; exact B2.out, H2.out⟩
  case round =>
    obtain ⟨k, hk, rfl, b, f⟩ := hrel
    by_cases hlt : k < 4
    · have hk3 : (k : Int) < 4 := by omega
      have hfr := b.frozen k
      obtain ⟨v, hv⟩ : ∃ v, (cells (lo S k ++ rest zs))[k]? = some v := ⟨_, List.getElem?_eq_getElem (by simp [cells, lo_len]; omega)⟩
      have hc := b.cell k
      rw [List.getElem?_toArray, hv] at hc
      have HBK := hid b
      have HFK := hid f
      have HST := hid (se_step w g S k (rest zs) wr hlt b f NG.out)
      clear b f hv hk
      go_wp2
      go_roundw
      case rel =>
        have h := HST.out
        rw [byte_cast] at h
        exact h
      case measure => simp [intOf]; omega
    · obtain rfl : k = 4 := by omega
      have hge : ¬ ((4 : Nat) : Int) < 4 := by omega
      have HBK := hid b
      have HFK := hid f
      clear b f hlt hk
      go_wp2
      go_ret2
      exact ⟨by rw [HG.out]; rfl, by rw [HG.out, seal_, HSS.out]; exact HBK.out, HFK.out⟩

/-- The number of four bytes, lowest first. -/
def ld (bs : List Int) : Nat → Nat
  | 0 => 0
  | i + 1 => ld bs i + 2 ^ (8 * i) * (bs.getD i 0).toNat

theorem ld_lt (bs : List Int) (hz : ∀ x ∈ bs, 0 ≤ x ∧ x ≤ 255) : ∀ i, i ≤ bs.length → ld bs i < 2 ^ (8 * i) := by
  intro i
  induction i with
  | zero => intro _; rw [ld]; exact Nat.two_pow_pos _
  | succ i ih =>
    intro h
    have h1 := ih (by omega)
    have h2 := hz bs[i] (List.getElem_mem (by omega))
    rw [ld, List.getD_eq_getElem?_getD, List.getElem?_eq_getElem (show i < bs.length by omega), Option.getD_some, show 8 * (i + 1) = 8 * i + 8 by omega, Nat.pow_add]
    have h3 : (bs[i]).toNat ≤ 255 := by omega
    have h4 : 2 ^ (8 * i) * (bs[i]).toNat ≤ 2 ^ (8 * i) * 255 := Nat.mul_le_mul_left _ h3
    omega

theorem ld_step (zs : List Int) (hz : ∀ x ∈ zs, 0 ≤ x ∧ x ≤ 255) (k x : Nat) (hk : k < 4) (hkz : k < zs.length) (hx : zs[k] = (x : Int)) (hx2 : x < 256) :
    bits BinOp.or IntKind.u32 (ld zs k : Nat) ((x : Int) * 2 ^ (8 * k) % 4294967296) = (ld zs (k + 1) : Nat) := by
  have h1 := ld_lt zs hz k (by omega)
  have h2 : 2 ^ (8 * k) ≤ 16777216 := Nat.pow_le_pow_right (n := 2) (i := 8 * k) (j := 24) (by omega) (by omega)
  have e : ld zs (k + 1) = ld zs k + 2 ^ (8 * k) * x := by
    rw [ld, List.getD_eq_getElem?_getD, List.getElem?_eq_getElem hkz, Option.getD_some, hx]
    rfl
  have ec : (x : Int) * 2 ^ (8 * k) = ((2 ^ (8 * k) * x : Nat) : Int) := by rw [Int.natCast_mul, Int.natCast_pow, Int.mul_comm]; rfl
  rw [ec, e]
  have h3 : 2 ^ (8 * k) * x ≤ 16777216 * 255 := Nat.mul_le_mul h2 (by omega)
  have h4 := Nat.two_pow_add_eq_or_of_lt h1 x
  obtain ⟨p, hp⟩ : ∃ p, 2 ^ (8 * k) * x = p := ⟨_, rfl⟩
  obtain ⟨q, hq⟩ : ∃ q, 2 ^ (8 * k) = q := ⟨_, rfl⟩
  obtain ⟨r, hr⟩ : ∃ r, ld zs k = r := ⟨_, rfl⟩
  rw [hp] at h3 h4 ⊢
  rw [hq] at h1 h2
  rw [hr] at h1 h4 ⊢
  have h5 : (p : Int) % 4294967296 = (p : Int) := by omega
  rw [h5, u32_or_nat r p (by omega) (by omega), Nat.add_comm r p, h4, Nat.or_comm]

theorem beq_cast (a b : Nat) : (a == b) = ((a : Int) == (b : Int)) := by rw [Bool.eq_iff_iff, beq_iff_eq, beq_iff_eq]; omega

set_option maxRecDepth 100000 in
theorem check_any (A : Option Addr) (l c : Nat) (zs : List Int) (w : World) (hb : IsB w A l c zs) (hT : TabAt w) :
    Calls Tryd.prog 100 #[.slice A l c] w fun e w' => e = .returned (.bool (l == 128 && ld zs 4 == onN 0 (zs.drop 4))) ∧ w = w' := by
  have hlen : zs.length = l := by simpa using hb.1.1
  have hl2 := hb.2.1
  have hc2 := hb.2.2.1
  unfold maxLen at hc2
  have HB := hid hb
  have HT := hid hT
  have HLEN := hid hlen
  clear hb hT hlen
  by_cases h : l = 128
  · have hne : ((l : Int) != 128) = false := by rw [bne_eq_false_iff_eq]; omega
    have hx : (l == 128 && ld zs 4 == onN 0 (zs.drop 4)) = (ld zs 4 == onN 0 (zs.drop 4)) := by rw [show (l == 128) = true by simpa using h, Bool.true_and]
    rw [hx]
    clear hx
    go_enter Tryd.func100, Tryd.ntmps100
    go_wp2
    go_loop [3, 8] (fun s i => ∃ k : Nat, k ≤ 4 ∧ i = .int .i64 k ∧ s = .int .u32 (ld zs k : Nat)) (fun _ i => 4 - (intOf i).toNat)
    case atStart => exact ⟨0, by omega, rfl, rfl⟩
    case round =>
      obtain ⟨k, hk, rfl, rfl⟩ := hrel
      by_cases hlt : k < 4
      · have hk3 : (k : Int) < 4 := by omega
        obtain ⟨d, o, rfl, hd, hc⟩ := HB.out.1.2 (by omega)
        have hkz : k < zs.length := by rw [HLEN.out]; omega
        have hz2 := HB.out.2.2.2 zs[k] (List.getElem_mem hkz)
        obtain ⟨x, hx⟩ := Int.eq_ofNat_of_zero_le hz2.1
        have hcell : w.cell? ⟨d, o + k, none⟩ = some (.int .u8 (x : Nat)) := hc k _ (by rw [List.getElem?_map, List.getElem?_eq_getElem hkz, hx]; rfl)
        have hx2 : x < 256 := by omega
        have hlk : (k : Int) < l := by omega
        clear hc hz2 hk hlt
        have HS := hid (ld_step zs HB.out.2.2.2 k x (by omega) hkz hx hx2)
        have hk4 : k + 1 ≤ 4 := by omega
        clear hx hkz
        go_wp2
        go_roundw
        case rel => exact ⟨k + 1, hk4, by go_num, by rw [HS.out]⟩
        case measure => simp [intOf]; omega
      · obtain rfl : k = 4 := by omega
        have hge : ¬ ((4 : Nat) : Int) < 4 := by omega
        have hS := sum_any (cutA A c 4) (l - 4) (c - 4) (zs.drop 4) w (by have := HB.out.1.cut (k := 4) (by omega) hl2; rw [List.map_drop]; exact this) (fun x hx => HB.out.2.2.2 x (List.mem_of_mem_drop hx)) (by unfold maxLen; omega) HT.out
        obtain ⟨d, o, rfl, hd, hc⟩ := HB.out.1.2 (by omega)
        rw [cutA, if_neg (by omega), Option.map_some, add_off, show l - 4 = 124 by omega] at hS
        have HS := hid hS
        clear hS hc hlt hk
        go_wp2_with fail
        refine HS.out.mono ?_
        rintro e w' ⟨rfl, rfl⟩
        go_wp2
        go_ret
        exact ⟨by rw [beq_cast]; rfl, rfl⟩
  · have hne : ((l : Int) != 128) = true := by rw [bne_iff_ne]; omega
    have hx : (l == 128 && ld zs 4 == onN 0 (zs.drop 4)) = false := by rw [show (l == 128) = false by simpa using h, Bool.false_and]
    rw [hx]
    clear hx h
    go_enter Tryd.func100, Tryd.ntmps100
    go_wp2
    go_ret
    exact ⟨rfl, rfl⟩
end Go.Proofs.YtpiplcakefcaaaaDoor.CrcE
