/- The law of a zone that is written sector by sector, walked. Condition: the number is 64 bits. -/
import Derived.Test.YtjmagbmdobiccaaZnH
import Derived.Test.YtjmagbmdobiccaaZnFM
import Derived.LoopTactic
namespace Go.Proofs.Ytjmagbmdobiccaa.ZnFills
open Go.RowKit MSep MZnM MZnFM ZnA ZnB ZnC ZnD ZnF ZnG ZnH

theorem nw_yes {l : Int} (h : 1 ≤ l ∧ l ≤ 4096) : nw 0 2 0 l = (⟨0, 2, 1, 0, l, 0⟩, 0) := by
  have hm : mayP ⟨0, 2, 1, 0, l, 0⟩ := by unfold mayP goesP seqP; dsimp only; omega
  unfold nw
  rw [if_pos rfl, if_pos hm]
theorem nw_no {l : Int} (h : ¬ (1 ≤ l ∧ l ≤ 4096)) : nw 0 2 0 l = (⟨0, 0, 0, 0, 0, 0⟩, 1) := by
  have hm : ¬ mayP ⟨0, 2, 1, 0, l, 0⟩ := by unfold mayP; dsimp only; omega
  unfold nw
  rw [if_pos rfl, if_neg hm]
  rfl

set_option maxRecDepth 100000 in
set_option maxHeartbeats 8000000 in
theorem fill_ok (o : Bool) (L : Nat) (w : World) (h1 : 1 ≤ L) (h2 : L ≤ 300) : Calls Try.prog 7 #[.int .i64 L, .bool o] w fun e w' => e = .returned (.bool true) ∧ Fr No w w' := by
  have HN := hid (fun w => (new_ok 0 2 0 L w).mono (fun e w' h => RetZ.mk h (nw_yes (l := (L : Int)) ⟨by omega, by omega⟩)))
  have HO := hid (fun w => (open_ok 0 2 1 0 L 0 w).mono (fun e w' h => RetZ.mk h (start_opn h1 h2)))
  have HE := hid (fun w => (write_ok 0 2 5 0 L L ((L : Int) - 1) 1 w).mono (fun e w' h => RetZ.mk h (end_wrt h1 h2)))
  have HRD := hid (fun w => read_ok 0 2 5 0 L L 0 L w)
  rw [end_red h1 h2] at HRD
  have i1 : (1 : Int) ≤ L := by omega
  have i2 : (L : Int) ≤ 300 := by omega
  have H1 := hid h1
  have H2 := hid h2
  clear h1 h2
  cases o
  · go_enter Try.func7, Try.ntmps7
    go_wp2_with fail
    refine (HN.out _).mono ?_
    rintro e w1 ⟨rfl, f1⟩
    have FW := hid (f1.alloc (bz 0 2 1 0 L 0))
    have P0 := hid (BZ.new w1 0 2 1 0 L 0)
    have HG := hid (show w.heap.size ≤ w1.heap.size from f1.size)
    clear f1
    go_wp2_with fail
    refine (lives_ok _).mono ?_
    rintro e w2 ⟨rfl, f2⟩
    have FW := kf f2 FW
    have P0 := hid (P0.out.fr f2)
    clear f2
    go_wp2
    have PS := hid (show BZ w2 w1.heap.size 0 2 (st false 0 L) 0 L (0 : Nat) by rw [show st false 0 L = 1 by unfold st; rw [if_neg (by have := H1.out; omega)]; rfl]; exact P0.out)
    clear P0 HN HO
    go_loopw [7] (fun i wr => ∃ k : Nat, k ≤ L ∧ i = .int .i64 k ∧ BZ wr w1.heap.size 0 2 (st false k L) 0 L k ∧ Fr No w wr) (fun i _ => L - (intOf i).toNat)
    case atStart => exact ⟨0, by omega, rfl, PS.out, FW.out⟩
    case round =>
      obtain ⟨k, hk, rfl, hz, hf⟩ := hrel
      clear FW PS
      have FW := hid hf
      have P0 := hid hz
      by_cases hlt : k < L
      · have HP := hid (fun w => pointer_ok 0 2 (st false k L) 0 L k w)
        rw [st_ptr hlt H2.out] at HP
        have HLf := hid (fun w => left_ok 0 2 (st false k L) 0 L k w)
        rw [st_lft hlt H2.out] at HLf
        have HWr := hid (fun w => (write_ok 0 2 (st false k L) 0 L k k 1 w).mono (fun e w' h => RetZ.mk h (st_wrt hlt H2.out)))
        obtain ⟨s, hs⟩ : ∃ s, st false k L = s := ⟨_, rfl⟩
        have h5 : (s == 5) = false := by have := (st_five (o := false) hlt).1; rw [hs] at this; simpa using this
        rw [hs] at HP HLf HWr P0 hz
        have HK := hid hlt
        have ilt : (k : Int) < L := by omega
        have i0 : (0 : Int) ≤ k := by omega
        obtain ⟨s', hs'⟩ : ∃ s', st false (k + 1) L = s' := ⟨_, rfl⟩
        have HS' := hid hs'
        rw [hs'] at HWr
        clear hs hs' hz hf hlt hk
        obtain ⟨c0, c1, c2, c3, c4, c5⟩ := P0.out.cells
        go_wp2_with fail
        refine (HP.out _).mono ?_
        rintro e w5 ⟨rfl, f5⟩
        have FW := kf f5 FW
        have P0 := hid (P0.out.fr f5)
        clear f5 c0 c1 c2 c3 c4 c5
        obtain ⟨c0, c1, c2, c3, c4, c5⟩ := P0.out.cells
        go_wp2_with fail
        refine (HLf.out _).mono ?_
        rintro e w6 ⟨rfl, f6⟩
        have FW := kf f6 FW
        have P0 := hid (P0.out.fr f6)
        clear f6 c0 c1 c2 c3 c4 c5
        obtain ⟨c0, c1, c2, c3, c4, c5⟩ := P0.out.cells
        go_wp2_with fail
        refine (HWr.out _).mono ?_
        rintro e w7 ⟨rfl, f7⟩
        have FW := kf f7 FW
        have P0 := hid (P0.out.fr f7)
        clear f7 c0 c1 c2 c3 c4 c5
        by_cases he : k + 1 = L
        · have hn : ¬ (k : Int) < L - 1 := by omega
          have HEQ := hid he
          clear he
          go_wp2_with ((with_reducible refine st_zone rfl (.tmp 5) (.tmp 68) rfl w1.heap.size ?_ (n' := 0) (k' := 2) (s' := s') (a' := 0) (l' := (L : Int)) (u' := (k : Int) + 1) ?_ P0.out ?_); (· rfl); (· rfl); intro W' hb hf; have P1 := hid hb; have FW := kfg HG.out FW hf; obtain ⟨d0, d1, d2, d3, d4, d5⟩ := hb.cells; clear hb hf)
          go_roundw
          case rel => exact ⟨k + 1, HK.out, by go_num, by rw [HS'.out]; exact P1.out, FW.out⟩
          case measure => have := HK.out; simp [intOf]; omega
        · have hn : (k : Int) < L - 1 := by omega
          obtain rfl : s' = 2 := by rw [← HS'.out]; unfold st; rw [if_neg he]; rw [if_neg (by decide), if_neg (by omega)]
          clear he
          go_wp2_with ((with_reducible refine st_zone rfl (.tmp 5) (.tmp 68) rfl w1.heap.size ?_ (n' := 0) (k' := 2) (s' := 2) (a' := 0) (l' := (L : Int)) (u' := (k : Int) + 1) ?_ P0.out ?_); (· rfl); (· rfl); intro W' hb hf; have P1 := hid hb; have FW := kfg HG.out FW hf; obtain ⟨d0, d1, d2, d3, d4, d5⟩ := hb.cells; clear hb hf)
          go_roundw
          case rel => exact ⟨k + 1, HK.out, by go_num, by rw [HS'.out]; exact P1.out, FW.out⟩
          case measure => have := HK.out; simp [intOf]; omega
      · obtain rfl : L = k := by omega
        rw [st_end] at P0
        clear hz hf hlt hk
        obtain ⟨c0, c1, c2, c3, c4, c5⟩ := P0.out.cells
        go_wp2_with fail
        refine (HE.out _).mono ?_
        rintro e w5 ⟨rfl, f5⟩
        have FW := hid ((FW.out.trans f5).alloc (bz 0 0 0 0 0 0))
        have P0 := hid ((P0.out.fr f5).fr ((Fr.refl No w5).alloc (bz 0 0 0 0 0 0)))
        clear f5 c0 c1 c2 c3 c4 c5
        obtain ⟨c0, c1, c2, c3, c4, c5⟩ := P0.out.cells
        go_wp2_with fail
        refine (HRD.out _).mono ?_
        rintro e w6 ⟨rfl, f6⟩
        have FW := kf f6 FW
        clear f6
        go_wp2
        go_ret
        exact ⟨rfl, FW.out⟩
  · go_enter Try.func7, Try.ntmps7
    go_wp2_with fail
    refine (HN.out _).mono ?_
    rintro e w1 ⟨rfl, f1⟩
    have FW := hid (f1.alloc (bz 0 2 1 0 L 0))
    have P0 := hid (BZ.new w1 0 2 1 0 L 0)
    have HG := hid (show w.heap.size ≤ w1.heap.size from f1.size)
    clear f1
    go_wp2_with fail
    refine (lives_ok _).mono ?_
    rintro e w2 ⟨rfl, f2⟩
    have FW := kf f2 FW
    have P0 := hid (P0.out.fr f2)
    clear f2
    go_wp2_with ((with_reducible refine ld_zone rfl (.tmp 5) rfl w1.heap.size ?_ P0.out ?_); · rfl)
    refine (HO.out _).mono ?_
    rintro e w3 ⟨rfl, f3⟩
    have FW := kf f3 FW
    have P0 := hid (P0.out.fr f3)
    clear f3
    go_wp2_with ((with_reducible refine st_zone rfl (.tmp 5) (.tmp 38) rfl w1.heap.size ?_ (n' := 0) (k' := 2) (s' := 3) (a' := 0) (l' := (L : Int)) (u' := 0) ?_ P0.out ?_); (· rfl); (· rfl); intro W' hb hf; have P0 := hid hb; have FW := kfg HG.out FW hf; clear hb hf)
    obtain ⟨w4, rfl⟩ : ∃ w4 : World, w4 = W' := ⟨_, rfl⟩
    have PS := hid (show BZ w4 w1.heap.size 0 2 (st true 0 L) 0 L (0 : Nat) by rw [show st true 0 L = 3 by unfold st; rw [if_neg (by have := H1.out; omega)]; rfl]; exact P0.out)
    clear P0 HN HO
    go_loopw [7] (fun i wr => ∃ k : Nat, k ≤ L ∧ i = .int .i64 k ∧ BZ wr w1.heap.size 0 2 (st true k L) 0 L k ∧ Fr No w wr) (fun i _ => L - (intOf i).toNat)
    case atStart => exact ⟨0, by omega, rfl, PS.out, FW.out⟩
    case round =>
      obtain ⟨k, hk, rfl, hz, hf⟩ := hrel
      clear FW PS
      have FW := hid hf
      have P0 := hid hz
      by_cases hlt : k < L
      · have HP := hid (fun w => pointer_ok 0 2 (st true k L) 0 L k w)
        rw [st_ptr hlt H2.out] at HP
        have HLf := hid (fun w => left_ok 0 2 (st true k L) 0 L k w)
        rw [st_lft hlt H2.out] at HLf
        have HWr := hid (fun w => (write_ok 0 2 (st true k L) 0 L k k 1 w).mono (fun e w' h => RetZ.mk h (st_wrt hlt H2.out)))
        obtain ⟨s, hs⟩ : ∃ s, st true k L = s := ⟨_, rfl⟩
        have h5 : (s == 5) = false := by have := (st_five (o := true) hlt).1; rw [hs] at this; simpa using this
        rw [hs] at HP HLf HWr P0 hz
        have HK := hid hlt
        have ilt : (k : Int) < L := by omega
        have i0 : (0 : Int) ≤ k := by omega
        obtain ⟨s', hs'⟩ : ∃ s', st true (k + 1) L = s' := ⟨_, rfl⟩
        have HS' := hid hs'
        rw [hs'] at HWr
        clear hs hs' hz hf hlt hk
        obtain ⟨c0, c1, c2, c3, c4, c5⟩ := P0.out.cells
        go_wp2_with fail
        refine (HP.out _).mono ?_
        rintro e w5 ⟨rfl, f5⟩
        have FW := kf f5 FW
        have P0 := hid (P0.out.fr f5)
        clear f5 c0 c1 c2 c3 c4 c5
        obtain ⟨c0, c1, c2, c3, c4, c5⟩ := P0.out.cells
        go_wp2_with fail
        refine (HLf.out _).mono ?_
        rintro e w6 ⟨rfl, f6⟩
        have FW := kf f6 FW
        have P0 := hid (P0.out.fr f6)
        clear f6 c0 c1 c2 c3 c4 c5
        obtain ⟨c0, c1, c2, c3, c4, c5⟩ := P0.out.cells
        go_wp2_with fail
        refine (HWr.out _).mono ?_
        rintro e w7 ⟨rfl, f7⟩
        have FW := kf f7 FW
        have P0 := hid (P0.out.fr f7)
        clear f7 c0 c1 c2 c3 c4 c5
        by_cases he : k + 1 = L
        · have hn : ¬ (k : Int) < L - 1 := by omega
          have HEQ := hid he
          clear he
          go_wp2_with ((with_reducible refine st_zone rfl (.tmp 5) (.tmp 68) rfl w1.heap.size ?_ (n' := 0) (k' := 2) (s' := s') (a' := 0) (l' := (L : Int)) (u' := (k : Int) + 1) ?_ P0.out ?_); (· rfl); (· rfl); intro W' hb hf; have P1 := hid hb; have FW := kfg HG.out FW hf; obtain ⟨d0, d1, d2, d3, d4, d5⟩ := hb.cells; clear hb hf)
          go_roundw
          case rel => exact ⟨k + 1, HK.out, by go_num, by rw [HS'.out]; exact P1.out, FW.out⟩
          case measure => have := HK.out; simp [intOf]; omega
        · have hn : (k : Int) < L - 1 := by omega
          obtain rfl : s' = 3 := by rw [← HS'.out]; unfold st; rw [if_neg he]; rfl
          clear he
          go_wp2_with ((with_reducible refine st_zone rfl (.tmp 5) (.tmp 68) rfl w1.heap.size ?_ (n' := 0) (k' := 2) (s' := 3) (a' := 0) (l' := (L : Int)) (u' := (k : Int) + 1) ?_ P0.out ?_); (· rfl); (· rfl); intro W' hb hf; have P1 := hid hb; have FW := kfg HG.out FW hf; obtain ⟨d0, d1, d2, d3, d4, d5⟩ := hb.cells; clear hb hf)
          go_roundw
          case rel => exact ⟨k + 1, HK.out, by go_num, by rw [HS'.out]; exact P1.out, FW.out⟩
          case measure => have := HK.out; simp [intOf]; omega
      · obtain rfl : L = k := by omega
        rw [st_end] at P0
        clear hz hf hlt hk
        obtain ⟨c0, c1, c2, c3, c4, c5⟩ := P0.out.cells
        go_wp2_with fail
        refine (HE.out _).mono ?_
        rintro e w5 ⟨rfl, f5⟩
        have FW := hid ((FW.out.trans f5).alloc (bz 0 0 0 0 0 0))
        have P0 := hid ((P0.out.fr f5).fr ((Fr.refl No w5).alloc (bz 0 0 0 0 0 0)))
        clear f5 c0 c1 c2 c3 c4 c5
        obtain ⟨c0, c1, c2, c3, c4, c5⟩ := P0.out.cells
        go_wp2_with fail
        refine (HRD.out _).mono ?_
        rintro e w6 ⟨rfl, f6⟩
        have FW := kf f6 FW
        clear f6
        go_wp2
        go_ret
        exact ⟨rfl, FW.out⟩

set_option maxRecDepth 100000 in
set_option maxHeartbeats 4000000 in
theorem law_ok (l : Int) (o : Bool) (w : World) : Calls Try.prog 7 #[.int .i64 l, .bool o] w fun e w' => e = .returned (.bool true) ∧ Fr No w w' := by
  by_cases h : 1 ≤ l ∧ l ≤ 300
  · obtain ⟨L, rfl⟩ := Int.eq_ofNat_of_zero_le (show 0 ≤ l by omega)
    exact fill_ok o L w (by omega) (by omega)
  by_cases h4 : 1 ≤ l ∧ l ≤ 4096
  · have HN := hid (fun w => (new_ok 0 2 0 l w).mono (fun e w' h => RetZ.mk h (nw_yes h4)))
    have hl : 300 < l := by omega
    have hn : ¬ l < 1 := by omega
    clear h h4
    go_enter Try.func7, Try.ntmps7
    go_wp2_with fail
    refine (HN.out _).mono ?_
    rintro e w1 ⟨rfl, f1⟩
    have FW := hid (f1.alloc (bz 0 2 1 0 l 0))
    clear f1
    go_wp2_with fail
    refine (lives_ok _).mono ?_
    rintro e w2 ⟨rfl, f2⟩
    have FW := kf f2 FW
    clear f2
    go_wp2_with fail
    refine (lives_ok _).mono ?_
    rintro e w3 ⟨rfl, f3⟩
    have FW := kf f3 FW
    clear f3
    go_wp2
    go_ret
    exact ⟨rfl, FW.out⟩
  · have HN := hid (fun w => (new_ok 0 2 0 l w).mono (fun e w' h => RetZ.mk h (nw_no h4)))
    have ho : l < 1 ∨ 300 < l := by omega
    clear h h4
    rcases ho with ho | ho
    · skip
      go_enter Try.func7, Try.ntmps7
      go_wp2_with fail
      refine (HN.out _).mono ?_
      rintro e w1 ⟨rfl, f1⟩
      have FW := hid (f1.alloc (bz 0 0 0 0 0 0))
      clear f1
      go_wp2_with fail
      refine (lives_ok _).mono ?_
      rintro e w2 ⟨rfl, f2⟩
      have FW := kf f2 FW
      clear f2
      go_wp2_with fail
      refine (lives_ok _).mono ?_
      rintro e w3 ⟨rfl, f3⟩
      have FW := kf f3 FW
      clear f3
      go_wp2
      go_ret
      exact ⟨rfl, FW.out⟩
    · have hn : ¬ l < 1 := by omega
      go_enter Try.func7, Try.ntmps7
      go_wp2_with fail
      refine (HN.out _).mono ?_
      rintro e w1 ⟨rfl, f1⟩
      have FW := hid (f1.alloc (bz 0 0 0 0 0 0))
      clear f1
      go_wp2_with fail
      refine (lives_ok _).mono ?_
      rintro e w2 ⟨rfl, f2⟩
      have FW := kf f2 FW
      clear f2
      go_wp2_with fail
      refine (lives_ok _).mono ?_
      rintro e w3 ⟨rfl, f3⟩
      have FW := kf f3 FW
      clear f3
      go_wp2
      go_ret
      exact ⟨rfl, FW.out⟩
end Go.Proofs.Ytjmagbmdobiccaa.ZnFills
