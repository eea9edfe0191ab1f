/- Contracts: sectors that are told apart; the geometry of the statements of layer 18. Condition: no more than some thousands of sectors. -/
import Derived.Test.YtpiplcakefcaaaaDoorBdJ
namespace Go.Proofs.YtpiplcakefcaaaaDoor.BdN
open Go.RowKit MSep MFrame Kit MGeM CrcA CrcM CrcE BdM BdA BdB BdF BdC BdD

theorem ob_fr {B : Nat} {w w' : World} {v : Value} {l : List Int} (h : OB B w v l) (f : Fr No w w') : OB B w' v l := own_fr h f (fun _ _ h => h)
set_option maxRecDepth 100000 in
theorem geometry_ok (w : World) : Calls Tryd.prog 41 #[] w fun e w' => e = .returned (.agg #[.int .i64 2, .int .i64 6, .int .i64 16, .int .i64 3, .int .i64 2]) ∧ Fr No w w' := by
  have HF := hid (fun o => fr1 w o)
  go_enter Tryd.func41, Tryd.ntmps41
  go_wp2
  exact bodyPost_ret (v := .agg #[.int .i64 2, .int .i64 6, .int .i64 16, .int .i64 3, .int .i64 2]) (by simp [results, Tryd.results41, go_sem]) rfl ⟨rfl, HF.out _⟩
/-- The bytes of so many sectors that are told apart. -/
def fs (b : Int) (i : Nat) : List Int := b :: (i : Int) % 256 :: (List.replicate 125 0 ++ [bits BinOp.xor IntKind.u8 b 255])
def fill (b : Int) : Nat → List Int
  | 0 => []
  | n + 1 => fill b n ++ fs b n
theorem fs_len (b : Int) (i : Nat) : (fs b i).length = 128 := by simp [fs]
theorem xor_all : ∀ n : Fin 256, 0 ≤ bits BinOp.xor IntKind.u8 (n.val : Int) 255 ∧ bits BinOp.xor IntKind.u8 (n.val : Int) 255 ≤ 255 := by decide +kernel
theorem xor_in {b : Int} (hb : 0 ≤ b ∧ b ≤ 255) : 0 ≤ bits BinOp.xor IntKind.u8 b 255 ∧ bits BinOp.xor IntKind.u8 b 255 ≤ 255 := by
  have := xor_all ⟨b.toNat, by omega⟩
  rwa [show ((b.toNat : Nat) : Int) = b by omega] at this
theorem fs_u8 {b : Int} (hb : 0 ≤ b ∧ b ≤ 255) (i : Nat) : ∀ x ∈ fs b i, 0 ≤ x ∧ x ≤ 255 := by
  intro x hx
  unfold fs at hx
  simp only [List.mem_cons, List.mem_append, List.not_mem_nil, or_false] at hx
  rcases hx with rfl | rfl | hx | rfl
  · exact hb
  · omega
  · rw [List.eq_of_mem_replicate hx]; decide
  · exact xor_in hb
theorem fill_u8 {b : Int} (hb : 0 ≤ b ∧ b ≤ 255) : ∀ n, ∀ x ∈ fill b n, 0 ≤ x ∧ x ≤ 255
  | 0 => fun x hx => by cases hx
  | n + 1 => fun x hx => by
    rw [fill, List.mem_append] at hx
    rcases hx with hx | hx
    · exact fill_u8 hb n x hx
    · exact fs_u8 hb n x hx
theorem fs_set (b : Int) (k : Nat) : (((CrcE.cells z128).toArray.setIfInBounds 0 (.int .u8 b)).setIfInBounds 1 (.int .u8 ((k : Int) % 256))).setIfInBounds 127 (.int .u8 (bits BinOp.xor IntKind.u8 b 255)) = (CrcE.cells (fs b k)).toArray := by
  simp only [CrcE.cells, z128, fs, List.setIfInBounds_toArray]
  rfl
theorem fill_len (b : Int) : ∀ n, (fill b n).length = 128 * n
  | 0 => rfl
  | n + 1 => by rw [fill, List.length_append, fill_len b n, fs_len]; omega
set_option maxRecDepth 100000 in
set_option maxHeartbeats 4000000 in
theorem fill_ok (b : Int) (n : Nat) (w : World) (hb : 0 ≤ b ∧ b ≤ 255) (hn : n ≤ 2000) :
    Calls Tryd.prog 23 #[.int .u8 b, .int .i64 n] w fun e w' => RetI w w' e (fill b n) := by
  obtain ⟨i0, hi, hz0, hz1, hz2⟩ := info_parts u8_info
  have HI := hid (And.intro hi (And.intro hz0 (And.intro hz1 hz2)))
  have HN := hid hn
  clear hn
  go_enter Tryd.func23, Tryd.ntmps23
  go_wp2
  go_loopw [5, 6] (fun v i wr => ∃ (k : Nat) (A' : Option Addr) (c' : Nat), k ≤ n ∧ i = .int .i64 k ∧ v = .slice A' (fill b k).length c' ∧ OB w.heap.size wr v (fill b k) ∧ Fr No w wr) (fun _ i _ => n - (intOf i).toNat)
  case atStart => exact ⟨0, none, 0, by omega, rfl, rfl, World.ownsRow_nil _ _ _ _, Fr.refl _ _⟩
  case round =>
    obtain ⟨k, A', c', hk, rfl, rfl, ho, hf⟩ := hrel
    by_cases hlt : k < n
    · have hlt3 : (k : Int) < n := by omega
      have h0k : (0 : Int) ≤ k := by omega
      have hw1 : wrap64 ((k : Int) + 1) = (k : Int) + 1 := by have := HN.out; exact w64 _ (by omega)
      have HO := hid ho
      have HF := hid hf
      have HSZ := hid hf.size
      clear ho hf
      go_upto_region 6 with (first | (at_make; go_must (refine wpList_make_full _ rfl _ _ 27 rfl wr.heap.size 5 i0 (.int .u8 0) 1 Tryd.underlying27 hi hz0 hz1 .i64 .i64 _ _ 128 rfl rfl rfl rfl (by rw [hz2]; omega) (by simp only [maxLen]; omega) (Nat.le_refl _) ?_)))
      intro w1 hown1 hg1
      have hF1 : Fr No wr w1 := (Fr.refl _ _).grown hg1 (fun k hk => by cases hk)
      rw [toList_madeCells_one] at hown1
      have B1 := hid (show Blk w1 wr.heap.size 5 (CrcE.cells z128).toArray by rw [CrcE.cells, z128, List.map_replicate]; exact Blk.of_own hown1)
      obtain ⟨g, hg⟩ : ∃ g, wr.heap.size = g := ⟨_, rfl⟩
      rw [hg] at B1
      try rw [hg]
      have HGG := hid hg
      have c0 : w1.cell? ⟨g, 0, none⟩ = some (.int .u8 0) := B1.out.cell 0
      have c1 : w1.cell? ⟨g, 1, none⟩ = some (.int .u8 0) := B1.out.cell 1
      have c127 : w1.cell? ⟨g, 127, none⟩ = some (.int .u8 0) := B1.out.cell 127
      have z0 : w1.frozen? ⟨g, 0, none⟩ = false := B1.out.frozen 0
      have z1 : w1.frozen? ⟨g, 1, none⟩ = false := B1.out.frozen 1
      have z127 : w1.frozen? ⟨g, 127, none⟩ = false := B1.out.frozen 127
      have HF1 := hid hF1
      clear hown1 hg1 hF1 hg HI hi hz0 hz1 hz2
      go_upto_region 7 with fail
      obtain ⟨w4, hw4⟩ : ∃ w4, (((w1.setCell ⟨g, 0, none⟩ (.int .u8 b)).setCell ⟨g, 1, none⟩ (.int .u8 ((k : Int) % 256))).setCell ⟨g, 127, none⟩ (.int .u8 (bits BinOp.xor IntKind.u8 b 255))) = w4 := ⟨_, rfl⟩
      have B4 := hid (show Blk w4 g 5 (CrcE.cells (fs b k)).toArray by
        rw [← hw4, ← fs_set]
        exact ((B1.out.set_ 0 _).set_ 1 _).set_ 127 _)
      have F4 := hid (show Fr No wr w4 by
        rw [← hw4]
        have q := (((Fr.set1 w1 g 0 (.int .u8 b)).trans (Fr.set1 _ g 1 (.int .u8 ((k : Int) % 256)))).trans (Fr.set1 _ g 127 (.int .u8 (bits BinOp.xor IntKind.u8 b 255))))
        exact HF1.out.step q (fun i hi e => by have := HGG.out; omega))
      rw [hw4]
      clear c0 c1 c127 z0 z1 z127 hw4
      have HO4 := hid (ob_fr HO.out F4.out)
      have HF4 := hid (HF.out.trans F4.out)
      have HR4 := hid (show Rd w4 (some ⟨g, 0, none⟩) 128 ((fs b k).map (Value.int .u8)) by have := Rd.blk (off := 0) (n := 128) B4.out (by rw [cells_len, fs_len]; decide); rwa [List.drop_zero, List.take_of_length_le (by rw [cells_len, fs_len]; decide)] at this)
      have HLIM := hid (show (fill b k).length + 128 ≤ 100000000000000 by rw [fill_len]; have := HN.out; omega)
      have HLN := hid (show (fill b k).length + 128 = (fill b (k + 1)).length by rw [fill_len, fill_len]; omega)
      go_wp2_with (at_builtin; go_loud (refine app_b rfl (.tmp 25) (.tmp 26) rfl w.heap.size (.slice A' (fill b k).length c') (fill b k) rfl HO4.out (some ⟨g, 0, none⟩) 128 128 (fs b k) rfl HR4.out HLIM.out HF4.out.size ?_; intro A7 c7 w7 ho7 f7; have HO7 := hid ho7; have HF7 := hid (HF4.out.step f7 (fun i hi h => by have := HO4.out.ge i h; omega)); clear ho7 f7))
      go_roundw
      case rel => exact ⟨k + 1, A7, c7, by omega, by go_num, by rw [HLN.out], by rw [HLN.out]; have := HO7.out; rw [HLN.out] at this; exact this, HF7.out⟩
      case measure => first | exact next_m _ _ hlt hw1 | (simp [intOf]; omega)
    · obtain rfl : k = n := by omega
      have HO := hid ho
      have HF := hid hf
      clear ho hf
      go_wp2
      go_ret
      exact ⟨A', c', rfl, ⟨OB.rd rfl HO.out, HO.out.lim.1, HO.out.lim.2, fill_u8 hb _⟩, HF.out⟩
end Go.Proofs.YtpiplcakefcaaaaDoor.BdN
