/- The walk of CrcZeros. Condition: the table is as its text lays it. -/
import Derived.Test.YtlcafkjnikiomaaDoorCrcG
namespace Go.Proofs.YtlcafkjnikiomaaDoor.CrcI
open Go.RowKit MSep MFrame CrcM CrcA CrcB CrcC CrcD CrcE CrcF CrcG

/-- A sum gone on with n bytes 0. -/
def zer (s n : Nat) : Nat := nt (it (8 * n) (nt s))
theorem zer_lt (s n : Nat) : zer s n < 4294967296 := nt_lt _
theorem zer_zer (s a b : Nat) : zer (zer s a) b = zer s (a + b) := by
  unfold zer
  rw [nt_nt (it_lt _ (nt_lt _)), ← it_add, Nat.mul_add, Nat.add_comm]
theorem zer_zero (s : Nat) (h : s < 4294967296) : zer s 0 = s := by
  unfold zer
  rw [Nat.mul_zero, it, nt_nt h]
theorem zer_on (s n : Nat) : onN s (List.replicate n 0) = zer s n := by
  rw [onN, reg_zeros, zer]
theorem zeros_at (sum : Nat) (n : Int) (w : World) (hs : sum < 4294967296) (hn : n ≤ maxLen) : Calls Tryd.prog 18 #[.int .u32 sum, .int .i64 n] w fun e w' => e = .returned (.int .u32 (zer sum n.toNat : Nat)) ∧ Fr No w w' := zeros_any sum n w hs hn

set_option maxHeartbeats 1000000 in
theorem zeros_walk (sum : Nat) (n : Int) (w : World) (hs : sum < 4294967296) (hn : -9223372036854775808 ≤ n ∧ n ≤ 9223372036854775807) (hT : TabAt w) : Calls Tryd.prog 5 #[.int .u32 sum, .int .i64 n] w fun e w' => e = .returned (.bool true) ∧ Fr No w w' := by
  have HL := hid (lives_any w hT)
  have HD := hid (lives_any w.drew hT)
  have hn1 := hn.1
  have hn2 := hn.2
  clear hT
  by_cases hneg : n < 0
  · have HZ := hid (fun w => zeros_at sum n w hs (by simp only [maxLen]; omega))
    rw [show n.toNat = 0 by omega, zer_zero sum hs] at HZ
    clear hs hn
    go_enter Tryd.func5, Tryd.ntmps5
    go_wp2_with fail
    refine HL.out.mono ?_
    rintro e w1 ⟨rfl, F1⟩
    have HF := hid F1
    clear F1
    go_wp2_with fail
    refine (HZ.out w1).mono ?_
    rintro e w2 ⟨rfl, F2⟩
    have HF2 := hid (HF.out.trans F2)
    clear F2
    go_wp2
    go_ret
    exact ⟨rfl, HF2.out⟩
  · obtain ⟨n, rfl⟩ := Int.eq_ofNat_of_zero_le (show 0 ≤ n by omega)
    by_cases hbig : (3000 : Int) < n
    · have HZ := hid (fun w => zeros_at sum n w hs (by simp only [maxLen]; omega))
      have HA := hid (fun w => zeros_at sum ((n : Int) / 2) w hs (by simp only [maxLen]; omega))
      have HB := hid (fun w => zeros_at (zer sum (n / 2)) ((n : Int) - (n : Int) / 2) w (zer_lt _ _) (by simp only [maxLen]; omega))
      rw [show ((n : Int) / 2).toNat = n / 2 by omega] at HA
      rw [show ((n : Int) - (n : Int) / 2).toNat = n - n / 2 by omega, zer_zer, show n / 2 + (n - n / 2) = n by omega] at HB
      rw [Int.toNat_natCast] at HZ
      obtain ⟨z, hz⟩ : ∃ z, zer sum n = z := ⟨_, rfl⟩
      rw [hz] at HZ HB
      obtain ⟨y, hy⟩ : ∃ y, zer sum (n / 2) = y := ⟨_, rfl⟩
      rw [hy] at HA HB
      clear hs hn hz hy
      go_enter Tryd.func5, Tryd.ntmps5
      go_wp2_with fail
      refine HL.out.mono ?_
      rintro e w1 ⟨rfl, F1⟩
      have HF := hid F1
      clear F1
      go_wp2_with fail
      refine (HZ.out w1).mono ?_
      rintro e w2 ⟨rfl, F2⟩
      have HF2 := hid (HF.out.trans F2)
      clear F2
      go_wp2_with fail
      refine (HA.out w2).mono ?_
      rintro e w3 ⟨rfl, F3⟩
      have HF3 := hid (HF2.out.trans F3)
      clear F3
      go_wp2_with fail
      refine (HB.out w3).mono ?_
      rintro e w4 ⟨rfl, F4⟩
      have HF4 := hid (HF3.out.trans F4)
      clear F4
      go_wp2
      go_ret
      exact ⟨rfl, HF4.out⟩
    · obtain ⟨i0, hi, hz0, hz1, hz2⟩ := info_parts u8_info
      have HZ := hid (fun w => zeros_at sum n w hs (by simp only [maxLen]; omega))
      have HO := hid (fun (w : World) (A : Option Addr) (h : Rd w A n (List.replicate n (Value.int .u8 0))) => refOn_any sum A n n (List.replicate n 0) w hs (by rw [List.map_replicate]; exact h) (fun x hx => by rw [List.eq_of_mem_replicate hx]; omega) (by simp only [maxLen]; omega))
      rw [zer_on] at HO
      rw [Int.toNat_natCast] at HZ
      obtain ⟨z, hz⟩ : ∃ z, zer sum n = z := ⟨_, rfl⟩
      rw [hz] at HZ HO
      clear hs hn hz
      go_enter Tryd.func5, Tryd.ntmps5
      go_wp2_with fail
      refine wp_region_any (by kernel_rfl) ?_
      change wpAny _ _ _ _ _ _ _ (World.drew _)
      refine wpAny_ready (rs := [0]) (by kernel_rfl) (by simp) (AllReady.cons rfl (fun K hK => ?_) AllReady.nil)
      go_simp
      go_at_call 11
      refine HD.out.mono ?_
      rintro e w1 ⟨rfl, F1⟩
      have HF := hid (((Fr.refl No w).drewN 1).trans F1)
      clear F1
      go_wp2_with fail
      (try (refine hK _ _ ?_; clear hK K))
      try simp only [Act.put, List.getElem_toArray, List.getElem_cons_succ, List.getElem_cons_zero, List.setIfInBounds_toArray, List.set_cons_zero, List.set_cons_succ]
      refine wpAny_take (i := 1) (v := .bool true) rfl (by kernel_rfl) (by kernel_rfl) (by kernel_rfl) (fun _ _ _ h => h) (Or.inl ⟨by kernel_rfl, fun w => (by first | (go_simp; done) | (go_simp; with_reducible rfl))⟩) ?_
      try simp only [Act.put, List.getElem_toArray, List.getElem_cons_succ, List.getElem_cons_zero, List.setIfInBounds_toArray, List.set_cons_zero, List.set_cons_succ]
      refine wpAny_take (i := 2) (v := .int .u32 sum) rfl (by kernel_rfl) (by kernel_rfl) (by kernel_rfl) (fun _ _ _ h => h) (Or.inl ⟨by kernel_rfl, fun w => (by first | (go_simp; done) | (go_simp; with_reducible rfl))⟩) ?_
      try simp only [Act.put, List.getElem_toArray, List.getElem_cons_succ, List.getElem_cons_zero, List.setIfInBounds_toArray, List.set_cons_zero, List.set_cons_succ]
      refine wpAny_take (i := 3) (v := .int .i64 n) rfl (by kernel_rfl) (by kernel_rfl) (by kernel_rfl) (fun _ _ _ h => h) (Or.inl ⟨by kernel_rfl, fun w => (by first | (go_simp; done) | (go_simp; with_reducible rfl))⟩) ?_
      try simp only [Act.put, List.getElem_toArray, List.getElem_cons_succ, List.getElem_cons_zero, List.setIfInBounds_toArray, List.set_cons_zero, List.set_cons_succ]
      refine wpAny_take (i := 5) (v := .int .u32 sum) rfl (by kernel_rfl) (by kernel_rfl) (by kernel_rfl) (fun _ _ _ h => h) (Or.inl ⟨by kernel_rfl, fun w => (by first | (go_simp; done) | (go_simp; with_reducible rfl))⟩) ?_
      try simp only [Act.put, List.getElem_toArray, List.getElem_cons_succ, List.getElem_cons_zero, List.setIfInBounds_toArray, List.set_cons_zero, List.set_cons_succ]
      refine wpAny_take (i := 6) (v := .int .i64 n) rfl (by kernel_rfl) (by kernel_rfl) (by kernel_rfl) (fun _ _ _ h => h) (Or.inl ⟨by kernel_rfl, fun w => (by first | (go_simp; done) | (go_simp; with_reducible rfl))⟩) ?_
      try simp only [Act.put, List.getElem_toArray, List.getElem_cons_succ, List.getElem_cons_zero, List.setIfInBounds_toArray, List.set_cons_zero, List.set_cons_succ]
      refine wpAny_ready (rs := [4, 7]) (by kernel_rfl) (by simp) (AllReady.cons rfl (fun K hK => ?_) (AllReady.cons rfl (fun K hK => ?_) AllReady.nil))
      · go_simp
        go_at_call 18
        refine (HZ.out w1).mono ?_
        rintro e w2 ⟨rfl, F⟩
        have HF2 := hid (HF.out.trans F)
        clear F
        go_wp2_with fail
        (try (refine hK _ _ ?_; clear hK K))
        try simp only [Act.put, List.getElem_toArray, List.getElem_cons_succ, List.getElem_cons_zero, List.setIfInBounds_toArray, List.set_cons_zero, List.set_cons_succ]
        refine wpAny_ready (rs := [7]) (by kernel_rfl) (by simp) (AllReady.cons rfl (fun K hK => ?_) AllReady.nil)
        refine step_make (by kernel_rfl) (.tmp 43) (.tmp 43) 23 rfl 5 i0 (.int .u8 0) 1 Tryd.underlying23 hi hz0 hz1 hz2 rfl .i64 .i64 _ _ n rfl rfl rfl rfl (by omega) (by simp only [maxLen]; omega) ?_
        intro w3 own F
        have HF3 := hid (HF2.out.trans F)
        have RD := hid (Rd.own own)
        clear own F
        refine hK _ _ ?_
        clear hK K
        (try (refine hK _ _ ?_; clear hK K))
        try simp only [Act.put, List.getElem_toArray, List.getElem_cons_succ, List.getElem_cons_zero, List.setIfInBounds_toArray, List.set_cons_zero, List.set_cons_succ]
        refine wpAny_ready (rs := [8]) (by kernel_rfl) (by simp) (AllReady.cons rfl (fun K hK => ?_) AllReady.nil)
        go_simp
        go_at_call 15
        refine (HO.out _ _ RD.out).mono ?_
        rintro e w' ⟨rfl, rfl⟩
        go_wp2_with fail
        (try (refine hK _ _ ?_; clear hK K))
        try simp only [Act.put, List.getElem_toArray, List.getElem_cons_succ, List.getElem_cons_zero, List.setIfInBounds_toArray, List.set_cons_zero, List.set_cons_succ]
        refine wpAny_ready (rs := [9]) (by kernel_rfl) (by simp) (AllReady.cons rfl (fun K hK => ?_) AllReady.nil)
        go_simp
        (try (refine hK _ _ ?_; clear hK K))
        try simp only [Act.put, List.getElem_toArray, List.getElem_cons_succ, List.getElem_cons_zero, List.setIfInBounds_toArray, List.set_cons_zero, List.set_cons_succ]
        refine wpAny_ready (rs := [10]) (by kernel_rfl) (by simp) (AllReady.cons rfl (fun K hK => ?_) AllReady.nil)
        go_simp
        (try (refine hK _ _ ?_; clear hK K))
        try simp only [Act.put, List.getElem_toArray, List.getElem_cons_succ, List.getElem_cons_zero, List.setIfInBounds_toArray, List.set_cons_zero, List.set_cons_succ]
        refine wpAny_ready (rs := [11]) (by kernel_rfl) (by simp) (AllReady.cons rfl (fun K hK => ?_) AllReady.nil)
        go_simp
        (try (refine hK _ _ ?_; clear hK K))
        try simp only [Act.put, List.getElem_toArray, List.getElem_cons_succ, List.getElem_cons_zero, List.setIfInBounds_toArray, List.set_cons_zero, List.set_cons_succ]
        refine wpAny_done (by kernel_rfl) ?_ _
        go_wp2
        go_ret
        exact ⟨rfl, HF3.out⟩
      · refine step_make (by kernel_rfl) (.tmp 43) (.tmp 43) 23 rfl 5 i0 (.int .u8 0) 1 Tryd.underlying23 hi hz0 hz1 hz2 rfl .i64 .i64 _ _ n rfl rfl rfl rfl (by omega) (by simp only [maxLen]; omega) ?_
        intro w2 own F
        have HF2 := hid (HF.out.trans F)
        have RD0 := Rd.own own
        have OB := hid own
        clear own F
        have RD1 := hid RD0
        clear RD0
        refine hK _ _ ?_
        clear hK K
        (try (refine hK _ _ ?_; clear hK K))
        try simp only [Act.put, List.getElem_toArray, List.getElem_cons_succ, List.getElem_cons_zero, List.setIfInBounds_toArray, List.set_cons_zero, List.set_cons_succ]
        refine wpAny_ready (rs := [4]) (by kernel_rfl) (by simp) (AllReady.cons rfl (fun K hK => ?_) AllReady.nil)
        go_simp
        go_at_call 18
        refine (HZ.out w2).mono ?_
        rintro e w3 ⟨rfl, F⟩
        have HF3 := hid (HF2.out.trans F)
        have RD := hid (RD1.out.fr F (fun _ _ _ h => h))
        clear F
        go_wp2_with fail
        (try (refine hK _ _ ?_; clear hK K))
        try simp only [Act.put, List.getElem_toArray, List.getElem_cons_succ, List.getElem_cons_zero, List.setIfInBounds_toArray, List.set_cons_zero, List.set_cons_succ]
        refine wpAny_ready (rs := [8]) (by kernel_rfl) (by simp) (AllReady.cons rfl (fun K hK => ?_) AllReady.nil)
        go_simp
        go_at_call 15
        refine (HO.out _ _ RD.out).mono ?_
        rintro e w' ⟨rfl, rfl⟩
        go_wp2_with fail
        (try (refine hK _ _ ?_; clear hK K))
        try simp only [Act.put, List.getElem_toArray, List.getElem_cons_succ, List.getElem_cons_zero, List.setIfInBounds_toArray, List.set_cons_zero, List.set_cons_succ]
        refine wpAny_ready (rs := [9]) (by kernel_rfl) (by simp) (AllReady.cons rfl (fun K hK => ?_) AllReady.nil)
        go_simp
        (try (refine hK _ _ ?_; clear hK K))
        try simp only [Act.put, List.getElem_toArray, List.getElem_cons_succ, List.getElem_cons_zero, List.setIfInBounds_toArray, List.set_cons_zero, List.set_cons_succ]
        refine wpAny_ready (rs := [10]) (by kernel_rfl) (by simp) (AllReady.cons rfl (fun K hK => ?_) AllReady.nil)
        go_simp
        (try (refine hK _ _ ?_; clear hK K))
        try simp only [Act.put, List.getElem_toArray, List.getElem_cons_succ, List.getElem_cons_zero, List.setIfInBounds_toArray, List.set_cons_zero, List.set_cons_succ]
        refine wpAny_ready (rs := [11]) (by kernel_rfl) (by simp) (AllReady.cons rfl (fun K hK => ?_) AllReady.nil)
        go_simp
        (try (refine hK _ _ ?_; clear hK K))
        try simp only [Act.put, List.getElem_toArray, List.getElem_cons_succ, List.getElem_cons_zero, List.setIfInBounds_toArray, List.set_cons_zero, List.set_cons_succ]
        refine wpAny_done (by kernel_rfl) ?_ _
        go_wp2
        go_ret
        exact ⟨rfl, HF3.out⟩
end Go.Proofs.YtlcafkjnikiomaaDoor.CrcI
