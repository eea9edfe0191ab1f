/- LeBits: the walk. -/
import Derived.Test.YtlcafkjnikiomaaLeP
import Derived.Deep.RegionHeld3
namespace Go.Proofs.Ytlcafkjnikiomaa.LeBits
open Go.RowKit MSep MFrame LeA LeW LeR LeB LeL LeX LeU LeV LeP

theorem set_any (i : Int) (is : Bool) {w : World} {B g n : Nat} {A : Option Addr} {c : Nat} {bs : List Int} (h : BOk w B g n A c bs) :
    Calls Try.prog 31 #[.pointer (some ⟨g, 0, none⟩), .int .i64 i, .bool is] w fun e w' => e = .returned (.bool (setB n bs i is)) ∧ BOk w' B g n A c (setL n bs i is) ∧ Fr (BF g A) w w' := by
  cases hs : setB n bs i is with
  | false =>
    refine (set_same i is hs h).mono ?_
    rintro e w' ⟨rfl, rfl⟩
    refine ⟨rfl, ?_, Fr.refl _ _⟩
    rw [setL, if_neg (by rw [hs]; decide)]
    exact h
  | true => exact set_other i is hs h

set_option maxHeartbeats 1000000 in
theorem walk_out (n : Int) (A : Option Addr) (l c : Nat) (w : World) (hr : n < 0 ∨ 65536 < n) :
    Calls Try.prog 6 #[.int .i64 n, .slice A l c] w fun e w' => e = .returned (.bool true) ∧ Below w.heap.size w w' := by
  go_enter Try.func6, Try.ntmps6
  go_wp2_with fail
  refine (newBits_out n _ hr).mono ?_
  rintro e w' ⟨rfl, rfl⟩
  go_wp2_with fail
  refine (lives_any _).mono ?_
  rintro e w5 ⟨rfl, F5⟩
  rcases hr with hr | hr
  · go_wp2
    go_ret
    exact ⟨rfl, F5.below (Nat.le_refl _) (fun _ h => h.elim)⟩
  · have h0 : ¬ n < 0 := by omega
    go_wp2
    go_ret
    exact ⟨rfl, F5.below (Nat.le_refl _) (fun _ h => h.elim)⟩

set_option maxHeartbeats 1000000 in
theorem walk_big (n : Nat) (A : Option Addr) (l c : Nat) (w : World) (h0 : 3000 < n) (h1 : n ≤ 65536) :
    Calls Try.prog 6 #[.int .i64 n, .slice A l c] w fun e w' => e = .returned (.bool true) ∧ Below w.heap.size w w' := by
  have q0 : ¬ (n : Int) < 0 := by omega
  have q1 : ¬ 65536 < (n : Int) := by omega
  have q2 : 3000 < (n : Int) := by omega
  go_enter Try.func6, Try.ntmps6
  go_wp2_with fail
  refine (newBits_in n w.heap.size _ h1 (Nat.le_refl _)).mono ?_
  rintro e w4 ⟨g, A4, c4, rfl, B4, F4, hg4⟩
  go_wp2_with fail
  refine (lives_any _).mono ?_
  rintro e w5 ⟨rfl, F5⟩
  have B5 := B4.fr F5 (fun _ _ h => h)
  have C5 := count_any B5
  rw [cnt_zero] at C5
  have HC := hid C5
  have G5 := F4.trans F5
  clear B4 B5 F4 F5 hg4 C5
  go_wp2_with fail
  refine HC.out.mono ?_
  rintro e w' ⟨rfl, rfl⟩
  go_wp2
  go_ret
  exact ⟨rfl, G5.below (Nat.le_refl _) (fun _ h => h.elim)⟩

set_option maxRecDepth 100000 in
set_option maxHeartbeats 2000000 in
theorem walk_low (n : Nat) (A : Option Addr) (l c : Nat) (ops : List OpV) (w : World) (h1 : n ≤ 3000) (hops : OpsAt w A l ops) :
    Calls Try.prog 6 #[.int .i64 n, .slice A l c] w fun e w' => e = .returned (.bool true) ∧ Below w.heap.size w w' := by
  obtain ⟨i0, hi, hz0, hz1, hz2⟩ := info_parts bool_info
  have q0 : ¬ (n : Int) < 0 := by omega
  have q1 : ¬ 65536 < (n : Int) := by omega
  have q2 : ¬ 3000 < (n : Int) := by omega
  have hlm := hops.2.1
  unfold maxLen at hlm
  go_enter Try.func6, Try.ntmps6
  go_wp2_with fail
  refine (newBits_in n w.heap.size _ (by omega) (Nat.le_refl _)).mono ?_
  rintro e w4 ⟨g, A4, c4, rfl, B4, F4, hg4⟩
  go_wp2_with fail
  refine (lives_any _).mono ?_
  rintro e w5 ⟨rfl, F5⟩
  have B5 := B4.fr F5 (fun _ _ h => h)
  have G5 := F4.trans F5
  have L5 := G5.size
  have HB5 := hid B5
  have HG5 := hid G5
  have hBF : ∀ q, BF g A4 q → q < w5.heap.size := B5.lt
  have HBF := hid hBF
  have HGE := hid hg4
  clear B4 B5 F4 F5 hg4 G5 hBF
  go_wp2_with (at_make; go_must (refine wpList_make_full _ rfl _ _ 56 rfl w.heap.size 4 i0 (.bool false) 1 Try.underlying56 hi hz0 hz1 .i64 .i64 _ _ n rfl rfl rfl rfl (by rw [hz2]; omega) (by simp only [maxLen]; omega) L5 ?_))
  intro w6 hown6 hg6
  obtain ⟨d, hd⟩ : ∃ d, w5.heap.size = d := ⟨_, rfl⟩
  have F56 : Fr No w5 w6 := (Fr.refl _ _).grown hg6 (fun k hk => by cases hk)
  have hown7 : w6.ownsRow w.heap.size 4 1 (.slice (some ⟨w5.heap.size, 0, none⟩) n n) n (bits_ n (List.replicate ((n + 7) / 8) 0)) := by
    rw [bits_zero]
    simpa [toList_madeCells_one] using hown6
  have HO := hid hown7
  have HF : Hid (Fr No w w6) := HG5.out.trans F56
  have HB6 : Hid (BOk w6 w.heap.size g n A4 c4 (List.replicate ((n + 7) / 8) 0)) := HB5.out.fr F56 (fun _ _ h => h)
  have HNE : Hid (∀ q, BF g A4 q → q ≠ d) := fun q h => by have := HBF.out q h; omega
  have hdd : w.heap.size ≤ d := by omega
  rw [hd] at HO ⊢
  clear hown6 hown7 hg6 F56 HB5 HG5 HBF hd L5
  go_wp2
  go_loopw [7] (fun i wr => ∃ (k : Nat) (bs : List Int), k ≤ l ∧ i = .int .i64 k ∧ BOk wr w.heap.size g n A4 c4 bs ∧ tailOk n bs = true ∧
    wr.ownsRow w.heap.size 4 1 (.slice (some ⟨d, 0, none⟩) n n) n (bits_ n bs) ∧ Fr No w wr) (fun i _ => l - (intOf i).toNat)
  case atStart => exact ⟨0, _, by omega, rfl, HB6.out, tail_zero _ _, HO.out, HF.out⟩
  case round =>
    obtain ⟨k, bs, hk, rfl, hB, ht, hown, hF⟩ := hrel
    by_cases hlt : k < l ∧ k < 100
    · obtain ⟨hlt, hlt2⟩ := hlt
      obtain ⟨v, gg, o, rfl, hv, hfit, f0, f1, f2, f3, f4, f5⟩ := hops.at_ hF hlt
      have hkd := hfit.kind
      have hle := hfit.least
      have hmo := hfit.most
      have HB := hid hB
      have HT := hid ht
      have HOW := hid hown
      have HF2 := hid hF
      have hgg : gg < w.heap.size := by
        obtain ⟨_, g', o', e, h, _⟩ := hops.2.2 k v hv
        injection e with e
        injection e with e
        omega
      obtain ⟨is, his⟩ : ∃ is, (v.kind.tmod 2 == 1) = is := ⟨_, rfl⟩
      clear hB ht hown hF hfit hv f1 f2 f3
      go_wp2
      go_quiet (fail)
      obtain ⟨wq, hwq⟩ : ∃ wq, wr.drewN nq = wq := ⟨_, rfl⟩
      have HBq : Hid (BOk wq w.heap.size g n A4 c4 bs) := by rw [← hwq]; exact HB.out.fr ((Fr.refl No _).drewN _) (fun _ _ h => h)
      have HOq : Hid (wq.ownsRow w.heap.size 4 1 (.slice (some ⟨d, 0, none⟩) n n) n (bits_ n bs)) := by rw [← hwq]; exact own_drewN HOW.out _
      have HFq : Hid (Fr No w wq) := by rw [← hwq]; exact HF2.out.drewN _
      have f5q : wq.cell? ⟨gg, o + k * 6 + 5, none⟩ = some (.int .i64 v.most) := by rw [← hwq]; exact f5
      rw [hwq]
      clear hwq his hkd f0 f4 f5 HB HOW HF2
      by_cases hr : 0 ≤ v.least ∧ v.least < n
      · obtain ⟨j, hj⟩ := Int.eq_ofNat_of_zero_le hr.1
        obtain ⟨hr0, hr1⟩ := hr
        rw [hj] at hr0 hr1 hle ⊢
        have hjn : j < n := by omega
        have c0 : wq.cell? ⟨d, j, none⟩ = some (.bool (bitOf bs j)) := (HOq.out.cellAt j (by omega)).trans (bits_get n j bs hjn)
        have fr0 := HOq.out.frozenAt j
        have HST := hid (HOq.out.stored j (Value.bool is))
        have HSV : Hid (setB n bs j is = (bitOf bs j != is)) := by simp [Hid, setB, inB, hjn]
        have HHV : Hid (hasB n (setL n bs j is) j = is) := by
          rw [Hid, hasB_in hjn, bit_setL n bs HBq.out.u8 HBq.out.nb j hjn is j, if_pos rfl]
        obtain ⟨bt, hbt⟩ : ∃ bt, bitOf bs j = bt := ⟨_, rfl⟩
        rw [hbt] at c0 HSV
        clear hbt
        cases is <;> cases bt
        all_goals
          go_wp2_with fail
          refine (set_any _ _ (HBq.out.fr (Fr.set1 _ d j _) (fun q h e => HNE.out q h e))).mono ?_
          rintro e w8 ⟨rfl, B8, F8⟩
          have own8 := own_fr HST.out.1 F8 (fun q hq h => by
            simp [Value.ownBlock] at hq
            exact HNE.out q h hq.symm)
          rw [← bits_setL n bs HBq.out.u8 HBq.out.nb j hjn] at own8
          have FS : Fr No w _ := (HFq.out.grown HST.out.2 (fun q hq h => by injection hq with hq; omega)).step F8 (fun q hq h => by have := HGE.out q h; omega)
          have f5s := F8.cell_some (p := ⟨gg, o + k * 6 + 5, none⟩) ((Fr.set1 wq d j _).cell_some (p := ⟨gg, o + k * 6 + 5, none⟩) f5q (fun h => by simp only at h; omega)) (fun h => by have := HGE.out _ h; simp only at this; omega)
          have HB8 := hid B8
          have HO8 := hid own8
          have HFS := hid FS
          rw [HSV.out]
          clear B8 own8 FS F8
          go_wp2_with fail
          refine (has_any _ HB8.out).mono ?_
          rintro e w' ⟨rfl, rfl⟩
          rw [HHV.out]
          go_wp2_with fail
          refine (looks_any v.most hmo HB8.out _ _ (Rd.own HO8.out)).mono ?_
          rintro e w' ⟨rfl, rfl⟩
          go_wp2
          go_roundw
          case rel => exact ⟨k + 1, _, by omega, by go_num, HB8.out, tail_setL n bs HBq.out.u8 HBq.out.nb j hjn _ HT.out, HO8.out, HFS.out⟩
          case measure => simp [intOf]; omega
      · have hs : setB n bs v.least is = false := by
          have : inB n v.least = false := by simp only [inB]; rcases Int.lt_or_le v.least 0 with h | h <;> simp <;> omega
          rw [setB, this]
          rfl
        have hh : hasB n bs v.least = false := by
          have : inB n v.least = false := by simp only [inB]; rcases Int.lt_or_le v.least 0 with h | h <;> simp <;> omega
          rw [hasB, this]
          rfl
        have HS := hid (set_same v.least is hs HBq.out)
        have HH := hid (has_any v.least HBq.out)
        rw [hh] at HH
        have HLQ := hid (looks_any v.most hmo HBq.out _ n (Rd.own HOq.out))
        clear hs hh
        rcases Int.lt_or_le v.least 0 with h0 | h0
        all_goals
          try have h2 : ¬ v.least < n := by omega
          try have h3 : ¬ 0 ≤ v.least := by omega
          clear hr
          go_wp2_with fail
          refine HS.out.mono ?_
          rintro e w' ⟨rfl, rfl⟩
          go_wp2_with fail
          refine HH.out.mono ?_
          rintro e w' ⟨rfl, rfl⟩
          go_wp2_with fail
          refine HLQ.out.mono ?_
          rintro e w' ⟨rfl, rfl⟩
          go_wp2
          go_roundw
          case rel => exact ⟨k + 1, _, by omega, by go_num, HBq.out, HT.out, HOq.out, HFq.out⟩
          case measure => simp [intOf]; omega
    · have HB := hid hB
      have HT := hid ht
      have HOW := hid hown
      have HF2 := hid hF
      have L2 := hF.size
      have hend : k = l ∨ (k < l ∧ 100 ≤ k) := by omega
      have HP0 := hid (pack_any (B := w.heap.size) L2 hB)
      have HBO := hid hB
      clear hB ht hown hF hlt
      rcases hend with rfl | ⟨hend, hend2⟩
      all_goals
        go_wp2_with fail
        refine HP0.out.mono ?_
        rintro e w8 ⟨A8, c8, rfl, own8, F8, _⟩
        have HU8 := hid (unpack_ok n A8 bs.length c8 bs w.heap.size w8 (by omega) HBO.out.nb (isB_own own8 HBO.out.u8) HT.out (by have := F8.size; omega))
        have HF8 := hid F8
        clear own8 F8
        go_wp2_with fail
        refine HU8.out.mono ?_
        rintro e w9 ⟨g9, A9, c9, rfl, B9, F9, _⟩
        have HB9 := hid B9
        have F89 := HF8.out.trans F9
        have HG9 := hid (HF2.out.trans F89)
        have HO9 := hid (own_fr HOW.out F89 (fun _ _ h => h))
        have BB := HBO.out.fr F89 (fun _ _ h => h)
        have HP := hid (pack_any (B := w.heap.size) (w := w9.drewN 1) (by have := HG9.out.size; exact this) (BB.fr (S := No) ((Fr.refl _ _).drewN 1) (fun _ _ h => h)))
        clear B9 F9 F89 BB
        go_wp2_with fail
        refine wp_region_any (by kernel_rfl) ?_
        change wpAny _ _ _ _ _ _ _ (World.drew _)
        refine wpAny_take (i := 0) (v := (.pointer (some ⟨g, 0, none⟩))) rfl (by kernel_rfl) (by kernel_rfl) (by kernel_rfl) (fun _ _ _ h => h) (Or.inl ⟨by kernel_rfl, fun w => (by first | (go_simp; done) | (go_simp; with_reducible rfl))⟩) ?_
        try simp only [Act.put, List.getElem_toArray, List.getElem_cons_succ, List.getElem_cons_zero, List.setIfInBounds_toArray, List.set_cons_zero, List.set_cons_succ]
        refine wpAny_take (i := 3) (v := (.slice (some ⟨d, 0, none⟩) n n)) rfl (by kernel_rfl) (by kernel_rfl) (by kernel_rfl) (fun _ _ _ h => h) (Or.inl ⟨by kernel_rfl, fun w => (by first | (go_simp; done) | (go_simp; with_reducible rfl))⟩) ?_
        try simp only [Act.put, List.getElem_toArray, List.getElem_cons_succ, List.getElem_cons_zero, List.setIfInBounds_toArray, List.set_cons_zero, List.set_cons_succ]
        refine wpAny_ready (rs := [1]) (by kernel_rfl) (by simp) (AllReady.cons rfl (fun K hK => ?_) AllReady.nil)
        go_simp
        go_at_call 35
        refine HP.out.mono ?_
        rintro e w10 ⟨A10, c10, rfl, own10, F10, _⟩
        have s10 := run_str (P := Try.prog) w10 27 9 5 Try.underlying27 Try.underlying5 Try.underlying9 A10 _ c10 _ (Rd.own own10)
        have HO10 := hid own10
        have HF10 := hid F10
        clear own10 F10
        go_wp2_with fail
        (try (refine hK _ _ ?_; clear hK K))
        try simp only [Act.put, List.getElem_toArray, List.getElem_cons_succ, List.getElem_cons_zero, List.setIfInBounds_toArray, List.set_cons_zero, List.set_cons_succ]
        refine wpAny_ready (rs := [2, 4]) (by kernel_rfl) (by simp) (AllReady.cons rfl (fun K hK => ?_) (AllReady.cons rfl (fun K hK => ?_) AllReady.nil))
        · go_simp
          (try (refine hK _ _ ?_; clear hK K))
          try simp only [Act.put, List.getElem_toArray, List.getElem_cons_succ, List.getElem_cons_zero, List.setIfInBounds_toArray, List.set_cons_zero, List.set_cons_succ]
          refine wpAny_ready (rs := [4]) (by kernel_rfl) (by simp) (AllReady.cons rfl (fun K hK => ?_) AllReady.nil)
          go_simp
          go_at_call 36
          refine (ypack_any n (some ⟨d, 0, none⟩) n bs w.heap.size w10 (Rd.own (c := n) (own_fr (w := w9.drewN 1) HO9.out HF10.out (fun _ _ h => h))) (by omega) HBO.out.nb HBO.out.u8 HT.out (by have h1 := HG9.out.size; have h2 : w9.heap.size ≤ w10.heap.size := HF10.out.size; omega)).mono ?_
          rintro e w11 ⟨rfl, own11, F11⟩
          have s11 := run_str (P := Try.prog) w11 27 9 5 Try.underlying27 Try.underlying5 Try.underlying9 (some ⟨w10.heap.size, 0, none⟩) bs.length bs.length _ (Rd.own own11)
          have s12 := run_str (P := Try.prog) w11 27 9 5 Try.underlying27 Try.underlying5 Try.underlying9 A10 _ c10 _ (Rd.own (own_fr HO10.out F11 (fun _ _ h => h)))
          have HG11 := hid ((HG9.out.drewN 1).trans (HF10.out.trans F11))
          have HLK := hid (looks_any 0 (by omega) ((HB9.out.fr ((Fr.refl No _).drewN 1) (fun _ _ h => h)).fr (HF10.out.trans F11) (fun _ _ h => h)) (some ⟨d, 0, none⟩) n (Rd.own (c := n) (own_fr (w := w9.drewN 1) HO9.out (HF10.out.trans F11) (fun _ _ h => h))))
          clear own11 F11
          go_wp2_with fail
          (try (refine hK _ _ ?_; clear hK K))
          try simp only [Act.put, List.getElem_toArray, List.getElem_cons_succ, List.getElem_cons_zero, List.setIfInBounds_toArray, List.set_cons_zero, List.set_cons_succ]
          refine wpAny_ready (rs := [5]) (by kernel_rfl) (by simp) (AllReady.cons rfl (fun K hK => ?_) AllReady.nil)
          go_simp
          (try (refine hK _ _ ?_; clear hK K))
          try simp only [Act.put, List.getElem_toArray, List.getElem_cons_succ, List.getElem_cons_zero, List.setIfInBounds_toArray, List.set_cons_zero, List.set_cons_succ]
          refine wpAny_take (i := 6) (v := (.bool true)) rfl (by kernel_rfl) (by kernel_rfl) (by kernel_rfl) (fun _ _ _ h => h) (Or.inl ⟨by kernel_rfl, fun w => (by first | (go_simp; done) | (go_simp; with_reducible rfl))⟩) ?_
          try simp only [Act.put, List.getElem_toArray, List.getElem_cons_succ, List.getElem_cons_zero, List.setIfInBounds_toArray, List.set_cons_zero, List.set_cons_succ]
          refine wpAny_take (i := 7) (v := (.bool true)) rfl (by kernel_rfl) (by kernel_rfl) (by kernel_rfl) (fun _ _ _ h => h) (Or.inl ⟨by kernel_rfl, fun w => (by first | (go_simp; done) | (go_simp; with_reducible rfl))⟩) ?_
          try simp only [Act.put, List.getElem_toArray, List.getElem_cons_succ, List.getElem_cons_zero, List.setIfInBounds_toArray, List.set_cons_zero, List.set_cons_succ]
          refine wpAny_take (i := 8) (v := (.int .i64 0)) rfl (by kernel_rfl) (by kernel_rfl) (by kernel_rfl) (fun _ _ _ h => h) (Or.inl ⟨by kernel_rfl, fun w => (by first | (go_simp; done) | (go_simp; with_reducible rfl))⟩) ?_
          try simp only [Act.put, List.getElem_toArray, List.getElem_cons_succ, List.getElem_cons_zero, List.setIfInBounds_toArray, List.set_cons_zero, List.set_cons_succ]
          refine wpAny_take (i := 9) (v := (.bool true)) rfl (by kernel_rfl) (by kernel_rfl) (by kernel_rfl) (fun _ _ _ h => h) (Or.inl ⟨by kernel_rfl, fun w => (by first | (go_simp; done) | (go_simp; with_reducible rfl))⟩) ?_
          try simp only [Act.put, List.getElem_toArray, List.getElem_cons_succ, List.getElem_cons_zero, List.setIfInBounds_toArray, List.set_cons_zero, List.set_cons_succ]
          refine wpAny_take (i := 10) (v := (.bool true)) rfl (by kernel_rfl) (by kernel_rfl) (by kernel_rfl) (fun _ _ _ h => h) (Or.inl ⟨by kernel_rfl, fun w => (by first | (go_simp; done) | (go_simp; with_reducible rfl))⟩) ?_
          try simp only [Act.put, List.getElem_toArray, List.getElem_cons_succ, List.getElem_cons_zero, List.setIfInBounds_toArray, List.set_cons_zero, List.set_cons_succ]
          refine wpAny_take (i := 11) (v := (.bool true)) rfl (by kernel_rfl) (by kernel_rfl) (by kernel_rfl) (fun _ _ _ h => h) (Or.inl ⟨by kernel_rfl, fun w => (by first | (go_simp; done) | (go_simp; with_reducible rfl))⟩) ?_
          try simp only [Act.put, List.getElem_toArray, List.getElem_cons_succ, List.getElem_cons_zero, List.setIfInBounds_toArray, List.set_cons_zero, List.set_cons_succ]
          refine wpAny_take (i := 12) (v := (.pointer (some ⟨g9, 0, none⟩))) rfl (by kernel_rfl) (by kernel_rfl) (by kernel_rfl) (fun _ _ _ h => h) (Or.inl ⟨by kernel_rfl, fun w => (by first | (go_simp; done) | (go_simp; with_reducible rfl))⟩) ?_
          try simp only [Act.put, List.getElem_toArray, List.getElem_cons_succ, List.getElem_cons_zero, List.setIfInBounds_toArray, List.set_cons_zero, List.set_cons_succ]
          refine wpAny_take (i := 13) (v := (.bool true)) rfl (by kernel_rfl) (by kernel_rfl) (by kernel_rfl) (fun _ _ _ h => h) (Or.inl ⟨by kernel_rfl, fun w => (by first | (go_simp; done) | (go_simp; with_reducible rfl))⟩) ?_
          try simp only [Act.put, List.getElem_toArray, List.getElem_cons_succ, List.getElem_cons_zero, List.setIfInBounds_toArray, List.set_cons_zero, List.set_cons_succ]
          refine wpAny_take (i := 14) (v := (.bool true)) rfl (by kernel_rfl) (by kernel_rfl) (by kernel_rfl) (fun _ _ _ h => h) (Or.inl ⟨by kernel_rfl, fun w => (by first | (go_simp; done) | (go_simp; with_reducible rfl))⟩) ?_
          try simp only [Act.put, List.getElem_toArray, List.getElem_cons_succ, List.getElem_cons_zero, List.setIfInBounds_toArray, List.set_cons_zero, List.set_cons_succ]
          refine wpAny_take (i := 15) (v := (.bool true)) rfl (by kernel_rfl) (by kernel_rfl) (by kernel_rfl) (fun _ _ _ h => h) (Or.inl ⟨by kernel_rfl, fun w => (by first | (go_simp; done) | (go_simp; with_reducible rfl))⟩) ?_
          try simp only [Act.put, List.getElem_toArray, List.getElem_cons_succ, List.getElem_cons_zero, List.setIfInBounds_toArray, List.set_cons_zero, List.set_cons_succ]
          refine wpAny_take (i := 16) (v := (.pointer (some ⟨g9, 0, none⟩))) rfl (by kernel_rfl) (by kernel_rfl) (by kernel_rfl) (fun _ _ _ h => h) (Or.inl ⟨by kernel_rfl, fun w => (by first | (go_simp; done) | (go_simp; with_reducible rfl))⟩) ?_
          try simp only [Act.put, List.getElem_toArray, List.getElem_cons_succ, List.getElem_cons_zero, List.setIfInBounds_toArray, List.set_cons_zero, List.set_cons_succ]
          refine wpAny_take (i := 17) (v := (.slice (some ⟨d, 0, none⟩) n n)) rfl (by kernel_rfl) (by kernel_rfl) (by kernel_rfl) (fun _ _ _ h => h) (Or.inl ⟨by kernel_rfl, fun w => (by first | (go_simp; done) | (go_simp; with_reducible rfl))⟩) ?_
          try simp only [Act.put, List.getElem_toArray, List.getElem_cons_succ, List.getElem_cons_zero, List.setIfInBounds_toArray, List.set_cons_zero, List.set_cons_succ]
          refine wpAny_ready (rs := [18]) (by kernel_rfl) (by simp) (AllReady.cons rfl (fun K hK => ?_) AllReady.nil)
          go_simp
          go_at_call 33
          refine HLK.out.mono ?_
          rintro e w' ⟨rfl, rfl⟩
          go_wp2_with fail
          (try (refine hK _ _ ?_; clear hK K))
          try simp only [Act.put, List.getElem_toArray, List.getElem_cons_succ, List.getElem_cons_zero, List.setIfInBounds_toArray, List.set_cons_zero, List.set_cons_succ]
          refine wpAny_take (i := 19) (v := (.bool true)) rfl (by kernel_rfl) (by kernel_rfl) (by kernel_rfl) (fun _ _ _ h => h) (Or.inl ⟨by kernel_rfl, fun w => (by first | (go_simp; done) | (go_simp; with_reducible rfl))⟩) ?_
          try simp only [Act.put, List.getElem_toArray, List.getElem_cons_succ, List.getElem_cons_zero, List.setIfInBounds_toArray, List.set_cons_zero, List.set_cons_succ]
          refine wpAny_take (i := 20) (v := (.bool true)) rfl (by kernel_rfl) (by kernel_rfl) (by kernel_rfl) (fun _ _ _ h => h) (Or.inl ⟨by kernel_rfl, fun w => (by first | (go_simp; done) | (go_simp; with_reducible rfl))⟩) ?_
          try simp only [Act.put, List.getElem_toArray, List.getElem_cons_succ, List.getElem_cons_zero, List.setIfInBounds_toArray, List.set_cons_zero, List.set_cons_succ]
          refine wpAny_done (by kernel_rfl) ?_ _
          go_wp2
          go_ret
          exact ⟨rfl, HG11.out.below (Nat.le_refl _) (fun _ h => h.elim)⟩
        · go_simp
          go_at_call 36
          refine (ypack_any n (some ⟨d, 0, none⟩) n bs w.heap.size w10 (Rd.own (c := n) (own_fr (w := w9.drewN 1) HO9.out HF10.out (fun _ _ h => h))) (by omega) HBO.out.nb HBO.out.u8 HT.out (by have h1 := HG9.out.size; have h2 : w9.heap.size ≤ w10.heap.size := HF10.out.size; omega)).mono ?_
          rintro e w11 ⟨rfl, own11, F11⟩
          have s11 := run_str (P := Try.prog) w11 27 9 5 Try.underlying27 Try.underlying5 Try.underlying9 (some ⟨w10.heap.size, 0, none⟩) bs.length bs.length _ (Rd.own own11)
          have s12 := run_str (P := Try.prog) w11 27 9 5 Try.underlying27 Try.underlying5 Try.underlying9 A10 _ c10 _ (Rd.own (own_fr HO10.out F11 (fun _ _ h => h)))
          have HG11 := hid ((HG9.out.drewN 1).trans (HF10.out.trans F11))
          have HLK := hid (looks_any 0 (by omega) ((HB9.out.fr ((Fr.refl No _).drewN 1) (fun _ _ h => h)).fr (HF10.out.trans F11) (fun _ _ h => h)) (some ⟨d, 0, none⟩) n (Rd.own (c := n) (own_fr (w := w9.drewN 1) HO9.out (HF10.out.trans F11) (fun _ _ h => h))))
          clear own11 F11
          go_wp2_with fail
          (try (refine hK _ _ ?_; clear hK K))
          try simp only [Act.put, List.getElem_toArray, List.getElem_cons_succ, List.getElem_cons_zero, List.setIfInBounds_toArray, List.set_cons_zero, List.set_cons_succ]
          refine wpAny_ready (rs := [2, 5]) (by kernel_rfl) (by simp) (AllReady.cons rfl (fun K hK => ?_) (AllReady.cons rfl (fun K hK => ?_) AllReady.nil))
          · go_simp
            (try (refine hK _ _ ?_; clear hK K))
            try simp only [Act.put, List.getElem_toArray, List.getElem_cons_succ, List.getElem_cons_zero, List.setIfInBounds_toArray, List.set_cons_zero, List.set_cons_succ]
            refine wpAny_ready (rs := [5]) (by kernel_rfl) (by simp) (AllReady.cons rfl (fun K hK => ?_) AllReady.nil)
            go_simp
            (try (refine hK _ _ ?_; clear hK K))
            try simp only [Act.put, List.getElem_toArray, List.getElem_cons_succ, List.getElem_cons_zero, List.setIfInBounds_toArray, List.set_cons_zero, List.set_cons_succ]
            refine wpAny_take (i := 6) (v := (.bool true)) rfl (by kernel_rfl) (by kernel_rfl) (by kernel_rfl) (fun _ _ _ h => h) (Or.inl ⟨by kernel_rfl, fun w => (by first | (go_simp; done) | (go_simp; with_reducible rfl))⟩) ?_
            try simp only [Act.put, List.getElem_toArray, List.getElem_cons_succ, List.getElem_cons_zero, List.setIfInBounds_toArray, List.set_cons_zero, List.set_cons_succ]
            refine wpAny_take (i := 7) (v := (.bool true)) rfl (by kernel_rfl) (by kernel_rfl) (by kernel_rfl) (fun _ _ _ h => h) (Or.inl ⟨by kernel_rfl, fun w => (by first | (go_simp; done) | (go_simp; with_reducible rfl))⟩) ?_
            try simp only [Act.put, List.getElem_toArray, List.getElem_cons_succ, List.getElem_cons_zero, List.setIfInBounds_toArray, List.set_cons_zero, List.set_cons_succ]
            refine wpAny_take (i := 8) (v := (.int .i64 0)) rfl (by kernel_rfl) (by kernel_rfl) (by kernel_rfl) (fun _ _ _ h => h) (Or.inl ⟨by kernel_rfl, fun w => (by first | (go_simp; done) | (go_simp; with_reducible rfl))⟩) ?_
            try simp only [Act.put, List.getElem_toArray, List.getElem_cons_succ, List.getElem_cons_zero, List.setIfInBounds_toArray, List.set_cons_zero, List.set_cons_succ]
            refine wpAny_take (i := 9) (v := (.bool true)) rfl (by kernel_rfl) (by kernel_rfl) (by kernel_rfl) (fun _ _ _ h => h) (Or.inl ⟨by kernel_rfl, fun w => (by first | (go_simp; done) | (go_simp; with_reducible rfl))⟩) ?_
            try simp only [Act.put, List.getElem_toArray, List.getElem_cons_succ, List.getElem_cons_zero, List.setIfInBounds_toArray, List.set_cons_zero, List.set_cons_succ]
            refine wpAny_take (i := 10) (v := (.bool true)) rfl (by kernel_rfl) (by kernel_rfl) (by kernel_rfl) (fun _ _ _ h => h) (Or.inl ⟨by kernel_rfl, fun w => (by first | (go_simp; done) | (go_simp; with_reducible rfl))⟩) ?_
            try simp only [Act.put, List.getElem_toArray, List.getElem_cons_succ, List.getElem_cons_zero, List.setIfInBounds_toArray, List.set_cons_zero, List.set_cons_succ]
            refine wpAny_take (i := 11) (v := (.bool true)) rfl (by kernel_rfl) (by kernel_rfl) (by kernel_rfl) (fun _ _ _ h => h) (Or.inl ⟨by kernel_rfl, fun w => (by first | (go_simp; done) | (go_simp; with_reducible rfl))⟩) ?_
            try simp only [Act.put, List.getElem_toArray, List.getElem_cons_succ, List.getElem_cons_zero, List.setIfInBounds_toArray, List.set_cons_zero, List.set_cons_succ]
            refine wpAny_take (i := 12) (v := (.pointer (some ⟨g9, 0, none⟩))) rfl (by kernel_rfl) (by kernel_rfl) (by kernel_rfl) (fun _ _ _ h => h) (Or.inl ⟨by kernel_rfl, fun w => (by first | (go_simp; done) | (go_simp; with_reducible rfl))⟩) ?_
            try simp only [Act.put, List.getElem_toArray, List.getElem_cons_succ, List.getElem_cons_zero, List.setIfInBounds_toArray, List.set_cons_zero, List.set_cons_succ]
            refine wpAny_take (i := 13) (v := (.bool true)) rfl (by kernel_rfl) (by kernel_rfl) (by kernel_rfl) (fun _ _ _ h => h) (Or.inl ⟨by kernel_rfl, fun w => (by first | (go_simp; done) | (go_simp; with_reducible rfl))⟩) ?_
            try simp only [Act.put, List.getElem_toArray, List.getElem_cons_succ, List.getElem_cons_zero, List.setIfInBounds_toArray, List.set_cons_zero, List.set_cons_succ]
            refine wpAny_take (i := 14) (v := (.bool true)) rfl (by kernel_rfl) (by kernel_rfl) (by kernel_rfl) (fun _ _ _ h => h) (Or.inl ⟨by kernel_rfl, fun w => (by first | (go_simp; done) | (go_simp; with_reducible rfl))⟩) ?_
            try simp only [Act.put, List.getElem_toArray, List.getElem_cons_succ, List.getElem_cons_zero, List.setIfInBounds_toArray, List.set_cons_zero, List.set_cons_succ]
            refine wpAny_take (i := 15) (v := (.bool true)) rfl (by kernel_rfl) (by kernel_rfl) (by kernel_rfl) (fun _ _ _ h => h) (Or.inl ⟨by kernel_rfl, fun w => (by first | (go_simp; done) | (go_simp; with_reducible rfl))⟩) ?_
            try simp only [Act.put, List.getElem_toArray, List.getElem_cons_succ, List.getElem_cons_zero, List.setIfInBounds_toArray, List.set_cons_zero, List.set_cons_succ]
            refine wpAny_take (i := 16) (v := (.pointer (some ⟨g9, 0, none⟩))) rfl (by kernel_rfl) (by kernel_rfl) (by kernel_rfl) (fun _ _ _ h => h) (Or.inl ⟨by kernel_rfl, fun w => (by first | (go_simp; done) | (go_simp; with_reducible rfl))⟩) ?_
            try simp only [Act.put, List.getElem_toArray, List.getElem_cons_succ, List.getElem_cons_zero, List.setIfInBounds_toArray, List.set_cons_zero, List.set_cons_succ]
            refine wpAny_take (i := 17) (v := (.slice (some ⟨d, 0, none⟩) n n)) rfl (by kernel_rfl) (by kernel_rfl) (by kernel_rfl) (fun _ _ _ h => h) (Or.inl ⟨by kernel_rfl, fun w => (by first | (go_simp; done) | (go_simp; with_reducible rfl))⟩) ?_
            try simp only [Act.put, List.getElem_toArray, List.getElem_cons_succ, List.getElem_cons_zero, List.setIfInBounds_toArray, List.set_cons_zero, List.set_cons_succ]
            refine wpAny_ready (rs := [18]) (by kernel_rfl) (by simp) (AllReady.cons rfl (fun K hK => ?_) AllReady.nil)
            go_simp
            go_at_call 33
            refine HLK.out.mono ?_
            rintro e w' ⟨rfl, rfl⟩
            go_wp2_with fail
            (try (refine hK _ _ ?_; clear hK K))
            try simp only [Act.put, List.getElem_toArray, List.getElem_cons_succ, List.getElem_cons_zero, List.setIfInBounds_toArray, List.set_cons_zero, List.set_cons_succ]
            refine wpAny_take (i := 19) (v := (.bool true)) rfl (by kernel_rfl) (by kernel_rfl) (by kernel_rfl) (fun _ _ _ h => h) (Or.inl ⟨by kernel_rfl, fun w => (by first | (go_simp; done) | (go_simp; with_reducible rfl))⟩) ?_
            try simp only [Act.put, List.getElem_toArray, List.getElem_cons_succ, List.getElem_cons_zero, List.setIfInBounds_toArray, List.set_cons_zero, List.set_cons_succ]
            refine wpAny_take (i := 20) (v := (.bool true)) rfl (by kernel_rfl) (by kernel_rfl) (by kernel_rfl) (fun _ _ _ h => h) (Or.inl ⟨by kernel_rfl, fun w => (by first | (go_simp; done) | (go_simp; with_reducible rfl))⟩) ?_
            try simp only [Act.put, List.getElem_toArray, List.getElem_cons_succ, List.getElem_cons_zero, List.setIfInBounds_toArray, List.set_cons_zero, List.set_cons_succ]
            refine wpAny_done (by kernel_rfl) ?_ _
            go_wp2
            go_ret
            exact ⟨rfl, HG11.out.below (Nat.le_refl _) (fun _ h => h.elim)⟩
          · go_simp
            (try (refine hK _ _ ?_; clear hK K))
            try simp only [Act.put, List.getElem_toArray, List.getElem_cons_succ, List.getElem_cons_zero, List.setIfInBounds_toArray, List.set_cons_zero, List.set_cons_succ]
            refine wpAny_ready (rs := [2]) (by kernel_rfl) (by simp) (AllReady.cons rfl (fun K hK => ?_) AllReady.nil)
            go_simp
            (try (refine hK _ _ ?_; clear hK K))
            try simp only [Act.put, List.getElem_toArray, List.getElem_cons_succ, List.getElem_cons_zero, List.setIfInBounds_toArray, List.set_cons_zero, List.set_cons_succ]
            refine wpAny_take (i := 6) (v := (.bool true)) rfl (by kernel_rfl) (by kernel_rfl) (by kernel_rfl) (fun _ _ _ h => h) (Or.inl ⟨by kernel_rfl, fun w => (by first | (go_simp; done) | (go_simp; with_reducible rfl))⟩) ?_
            try simp only [Act.put, List.getElem_toArray, List.getElem_cons_succ, List.getElem_cons_zero, List.setIfInBounds_toArray, List.set_cons_zero, List.set_cons_succ]
            refine wpAny_take (i := 7) (v := (.bool true)) rfl (by kernel_rfl) (by kernel_rfl) (by kernel_rfl) (fun _ _ _ h => h) (Or.inl ⟨by kernel_rfl, fun w => (by first | (go_simp; done) | (go_simp; with_reducible rfl))⟩) ?_
            try simp only [Act.put, List.getElem_toArray, List.getElem_cons_succ, List.getElem_cons_zero, List.setIfInBounds_toArray, List.set_cons_zero, List.set_cons_succ]
            refine wpAny_take (i := 8) (v := (.int .i64 0)) rfl (by kernel_rfl) (by kernel_rfl) (by kernel_rfl) (fun _ _ _ h => h) (Or.inl ⟨by kernel_rfl, fun w => (by first | (go_simp; done) | (go_simp; with_reducible rfl))⟩) ?_
            try simp only [Act.put, List.getElem_toArray, List.getElem_cons_succ, List.getElem_cons_zero, List.setIfInBounds_toArray, List.set_cons_zero, List.set_cons_succ]
            refine wpAny_take (i := 9) (v := (.bool true)) rfl (by kernel_rfl) (by kernel_rfl) (by kernel_rfl) (fun _ _ _ h => h) (Or.inl ⟨by kernel_rfl, fun w => (by first | (go_simp; done) | (go_simp; with_reducible rfl))⟩) ?_
            try simp only [Act.put, List.getElem_toArray, List.getElem_cons_succ, List.getElem_cons_zero, List.setIfInBounds_toArray, List.set_cons_zero, List.set_cons_succ]
            refine wpAny_take (i := 10) (v := (.bool true)) rfl (by kernel_rfl) (by kernel_rfl) (by kernel_rfl) (fun _ _ _ h => h) (Or.inl ⟨by kernel_rfl, fun w => (by first | (go_simp; done) | (go_simp; with_reducible rfl))⟩) ?_
            try simp only [Act.put, List.getElem_toArray, List.getElem_cons_succ, List.getElem_cons_zero, List.setIfInBounds_toArray, List.set_cons_zero, List.set_cons_succ]
            refine wpAny_take (i := 11) (v := (.bool true)) rfl (by kernel_rfl) (by kernel_rfl) (by kernel_rfl) (fun _ _ _ h => h) (Or.inl ⟨by kernel_rfl, fun w => (by first | (go_simp; done) | (go_simp; with_reducible rfl))⟩) ?_
            try simp only [Act.put, List.getElem_toArray, List.getElem_cons_succ, List.getElem_cons_zero, List.setIfInBounds_toArray, List.set_cons_zero, List.set_cons_succ]
            refine wpAny_take (i := 12) (v := (.pointer (some ⟨g9, 0, none⟩))) rfl (by kernel_rfl) (by kernel_rfl) (by kernel_rfl) (fun _ _ _ h => h) (Or.inl ⟨by kernel_rfl, fun w => (by first | (go_simp; done) | (go_simp; with_reducible rfl))⟩) ?_
            try simp only [Act.put, List.getElem_toArray, List.getElem_cons_succ, List.getElem_cons_zero, List.setIfInBounds_toArray, List.set_cons_zero, List.set_cons_succ]
            refine wpAny_take (i := 13) (v := (.bool true)) rfl (by kernel_rfl) (by kernel_rfl) (by kernel_rfl) (fun _ _ _ h => h) (Or.inl ⟨by kernel_rfl, fun w => (by first | (go_simp; done) | (go_simp; with_reducible rfl))⟩) ?_
            try simp only [Act.put, List.getElem_toArray, List.getElem_cons_succ, List.getElem_cons_zero, List.setIfInBounds_toArray, List.set_cons_zero, List.set_cons_succ]
            refine wpAny_take (i := 14) (v := (.bool true)) rfl (by kernel_rfl) (by kernel_rfl) (by kernel_rfl) (fun _ _ _ h => h) (Or.inl ⟨by kernel_rfl, fun w => (by first | (go_simp; done) | (go_simp; with_reducible rfl))⟩) ?_
            try simp only [Act.put, List.getElem_toArray, List.getElem_cons_succ, List.getElem_cons_zero, List.setIfInBounds_toArray, List.set_cons_zero, List.set_cons_succ]
            refine wpAny_take (i := 15) (v := (.bool true)) rfl (by kernel_rfl) (by kernel_rfl) (by kernel_rfl) (fun _ _ _ h => h) (Or.inl ⟨by kernel_rfl, fun w => (by first | (go_simp; done) | (go_simp; with_reducible rfl))⟩) ?_
            try simp only [Act.put, List.getElem_toArray, List.getElem_cons_succ, List.getElem_cons_zero, List.setIfInBounds_toArray, List.set_cons_zero, List.set_cons_succ]
            refine wpAny_take (i := 16) (v := (.pointer (some ⟨g9, 0, none⟩))) rfl (by kernel_rfl) (by kernel_rfl) (by kernel_rfl) (fun _ _ _ h => h) (Or.inl ⟨by kernel_rfl, fun w => (by first | (go_simp; done) | (go_simp; with_reducible rfl))⟩) ?_
            try simp only [Act.put, List.getElem_toArray, List.getElem_cons_succ, List.getElem_cons_zero, List.setIfInBounds_toArray, List.set_cons_zero, List.set_cons_succ]
            refine wpAny_take (i := 17) (v := (.slice (some ⟨d, 0, none⟩) n n)) rfl (by kernel_rfl) (by kernel_rfl) (by kernel_rfl) (fun _ _ _ h => h) (Or.inl ⟨by kernel_rfl, fun w => (by first | (go_simp; done) | (go_simp; with_reducible rfl))⟩) ?_
            try simp only [Act.put, List.getElem_toArray, List.getElem_cons_succ, List.getElem_cons_zero, List.setIfInBounds_toArray, List.set_cons_zero, List.set_cons_succ]
            refine wpAny_ready (rs := [18]) (by kernel_rfl) (by simp) (AllReady.cons rfl (fun K hK => ?_) AllReady.nil)
            go_simp
            go_at_call 33
            refine HLK.out.mono ?_
            rintro e w' ⟨rfl, rfl⟩
            go_wp2_with fail
            (try (refine hK _ _ ?_; clear hK K))
            try simp only [Act.put, List.getElem_toArray, List.getElem_cons_succ, List.getElem_cons_zero, List.setIfInBounds_toArray, List.set_cons_zero, List.set_cons_succ]
            refine wpAny_take (i := 19) (v := (.bool true)) rfl (by kernel_rfl) (by kernel_rfl) (by kernel_rfl) (fun _ _ _ h => h) (Or.inl ⟨by kernel_rfl, fun w => (by first | (go_simp; done) | (go_simp; with_reducible rfl))⟩) ?_
            try simp only [Act.put, List.getElem_toArray, List.getElem_cons_succ, List.getElem_cons_zero, List.setIfInBounds_toArray, List.set_cons_zero, List.set_cons_succ]
            refine wpAny_take (i := 20) (v := (.bool true)) rfl (by kernel_rfl) (by kernel_rfl) (by kernel_rfl) (fun _ _ _ h => h) (Or.inl ⟨by kernel_rfl, fun w => (by first | (go_simp; done) | (go_simp; with_reducible rfl))⟩) ?_
            try simp only [Act.put, List.getElem_toArray, List.getElem_cons_succ, List.getElem_cons_zero, List.setIfInBounds_toArray, List.set_cons_zero, List.set_cons_succ]
            refine wpAny_done (by kernel_rfl) ?_ _
            go_wp2
            go_ret
            exact ⟨rfl, HG11.out.below (Nat.le_refl _) (fun _ h => h.elim)⟩

theorem walk (n : Int) (A : Option Addr) (l c : Nat) (ops : List OpV) (w : World) (_hb : -9223372036854775808 ≤ n ∧ n ≤ 9223372036854775807) (hops : OpsAt w A l ops) :
    Calls Try.prog 6 #[.int .i64 n, .slice A l c] w fun e w' => e = .returned (.bool true) ∧ Below w.heap.size w w' := by
  by_cases h : n < 0 ∨ 65536 < n
  · exact walk_out n A l c w h
  · obtain ⟨m, rfl⟩ := Int.eq_ofNat_of_zero_le (show 0 ≤ n by omega)
    by_cases h2 : 3000 < m
    · exact walk_big m A l c w h2 (by omega)
    · exact walk_low m A l c ops w (by omega) hops
end Go.Proofs.Ytlcafkjnikiomaa.LeBits
