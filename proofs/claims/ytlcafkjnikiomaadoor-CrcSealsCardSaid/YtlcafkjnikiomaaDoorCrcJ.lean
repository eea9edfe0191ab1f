/- The walk of CrcSeals. Condition: the table is as its text lays it. -/
import Derived.Test.YtlcafkjnikiomaaDoorCrcG
namespace Go.Proofs.YtlcafkjnikiomaaDoor.CrcJ
open Go.RowKit MSep MFrame CrcM CrcA CrcB CrcC CrcD CrcE CrcF CrcG

set_option maxHeartbeats 1000000 in
theorem seals_walk (A : Option Addr) (l c : Nat) (zs : List Int) (w : World) (hb : IsB w A l c zs) (hc : c ≤ reachBytes) (hT : TabAt w) : Calls Tryd.prog 8 #[.slice A l c] w fun e w' => e = .returned (.bool true) ∧ Fr No w w' := by
  obtain ⟨i0, hi, hz0, hz1, hz2⟩ := info_parts u8_info
  have hlen : zs.length = l := by simpa using hb.1.1
  have hl2 := hb.2.1
  unfold reachBytes at hc
  have hown0 : (w.alloc (.cells #[] 5)).ownsRow w.heap.size 5 1 (.slice (some ⟨w.heap.size, 0, none⟩) 0 0) 0 [] := World.ownsRow_lit w #[] 0 (Nat.le_refl _) (by simp [maxLen]) rfl
  have HO := hid hown0
  have HA := hid (hb.1.fr (S := No) ((Fr.refl _ w).alloc (.cells #[] 5)) (fun _ _ _ h => h))
  have HB := hid hb
  have HT := hid hT
  have HLN := hid hlen
  have hl3 : l ≤ 140737488351232 := by omega
  clear hb hT hlen hown0 hc hl2
  go_enter Tryd.func8, Tryd.ntmps8
  go_wp2_with (at_builtin; refine wpList_app rfl (.tmp 6) (.tmp 7) 23 rfl w.heap.size 5 i0 (.int .u8 0) 1 Tryd.underlying23 hi hz0 hz1 hz2 rfl _ 0 [] rfl HO.out A l c (cells zs) rfl HA.out one_u8s (by simp only [maxLen]; omega) (by omega) (by simp) ?_)
  intro A1 c1 w1 own1 f1 s1
  have hf1 : Fr No w w1 := ((Fr.refl No w).alloc (.cells #[] 5)).step f1 (fun i hi h => by simp [Value.ownBlock] at h; omega)
  have HR1 := hid (Rd.own own1)
  have HF1 := hid hf1
  clear own1 f1 s1 hf1
  by_cases hbig : 124 < l
  · have HS := hid (seal_long A1 l c1 w1 hbig (by simp only [maxLen]; omega))
    have h124 : (124 : Int) < l := by omega
    clear hbig
    go_wp2_with fail
    refine HS.out.mono ?_
    rintro e w' ⟨rfl, rfl⟩
    go_wp2_with fail
    refine (lives_any w1 (HT.out.fr HF1.out (fun h => h))).mono ?_
    rintro e w4 ⟨rfl, F4⟩
    have HF4 := hid (HF1.out.trans F4)
    have s1 := run_str (P := Tryd.prog) w4 23 9 5 Tryd.underlying23 Tryd.underlying5 Tryd.underlying9 A1 l c1 zs (HR1.out.fr F4 (fun _ _ _ h => h))
    have s2 := run_str (P := Tryd.prog) w4 23 9 5 Tryd.underlying23 Tryd.underlying5 Tryd.underlying9 A l c zs (HB.out.1.fr HF4.out (fun _ _ _ h => h))
    obtain ⟨T, hTT⟩ : ∃ T, strOfNums zs = T := ⟨_, rfl⟩
    rw [hTT] at s1 s2
    clear F4 hTT
    go_wp2
    go_ret
    exact ⟨rfl, HF4.out⟩
  · have h124 : (l : Int) ≤ 124 := by omega
    have hl4 : l ≤ 124 := by omega
    have HS := hid (seal_ok A1 l c1 zs w1 hl4 HR1.out HB.out.2.2.2 (HT.out.fr HF1.out (fun h => h)))
    have HLEN := hid (show zs.length ≤ 124 by rw [HLN.out]; exact hl4)
    clear hbig
    go_wp2_with fail
    refine HS.out.mono ?_
    rintro e w2 ⟨rfl, B2, F2⟩
    obtain ⟨g, hg⟩ : ∃ g, w1.heap.size = g := ⟨_, rfl⟩
    rw [hg] at B2 ⊢
    have HF2 := hid (HF1.out.trans F2)
    have HR2 := hid (HR1.out.fr F2 (fun _ _ _ h => h))
    have HB2 := hid B2
    clear F2 B2 hg
    go_wp2_with fail
    refine (lives_any w2 (HT.out.fr HF2.out (fun h => h))).mono ?_
    rintro e w4 ⟨rfl, F4⟩
    have HF4 := hid ((HF2.out.trans F4).drewN 1)
    have s3 := run_str (P := Tryd.prog) w4 23 9 5 Tryd.underlying23 Tryd.underlying5 Tryd.underlying9 A1 l c1 zs (HR2.out.fr F4 (fun _ _ _ h => h))
    have s4 := run_str (P := Tryd.prog) w4 23 9 5 Tryd.underlying23 Tryd.underlying5 Tryd.underlying9 A l c zs (HB.out.1.fr (HF2.out.trans F4) (fun _ _ _ h => h))
    have b4 := HB2.out.fr F4 (fun h => h)
    have HB4 := hid (b4.drewN 1)
    have hr := Rd.blk (off := 0) (n := 128) b4 (by simp [cells, seal_len HLEN.out])
    rw [List.drop_zero, List.take_of_length_le (by simp [cells, seal_len HLEN.out])] at hr
    have HSR := hid (hr.drewN 1)
    have s0 := run_str (P := Tryd.prog) w4.drew 23 9 5 Tryd.underlying23 Tryd.underlying5 Tryd.underlying9 (some ⟨g, 0, none⟩) 128 128 (seal_ zs) (hr.drewN 1)
    have HRS := hid (refSeal_ok A l c zs (w4.drewN 1) hl4 (HB.out.1.fr HF4.out (fun _ _ _ h => h)) HB.out.2.2.2)
    obtain ⟨T, hTT⟩ : ∃ T, strOfNums zs = T := ⟨_, rfl⟩
    obtain ⟨TT, hTT2⟩ : ∃ T, strOfNums (seal_ zs) = T := ⟨_, rfl⟩
    rw [hTT] at s3 s4
    rw [hTT2] at s0
    have HTT := hid hTT2
    clear F4 hTT hTT2 b4 hr
    go_wp2_with fail
    refine wp_region_any (by kernel_rfl) ?_
    change wpAny _ _ _ _ _ _ _ (World.drew _)
    refine wpAny_take (i := 0) (v := .int .i64 0) rfl (by kernel_rfl) (by kernel_rfl) (by kernel_rfl) (fun _ _ _ h => h) (Or.inl ⟨by kernel_rfl, fun w => (by first | (go_simp; done) | (go_simp; with_reducible rfl))⟩) ?_
    try simp only [Act.put, List.getElem_toArray, List.getElem_cons_zero, List.setIfInBounds_toArray, List.set_cons_zero, List.set_cons_succ]
    refine wpAny_take (i := 1) (v := .bool true) rfl (by kernel_rfl) (by kernel_rfl) (by kernel_rfl) (fun _ _ _ h => h) (Or.inl ⟨by kernel_rfl, fun w => (by first | (go_simp; done) | (go_simp; with_reducible rfl))⟩) ?_
    try simp only [Act.put, List.getElem_toArray, List.getElem_cons_succ, List.getElem_cons_zero, List.setIfInBounds_toArray, List.set_cons_zero, List.set_cons_succ]
    refine wpAny_take (i := 2) (v := .bool true) rfl (by kernel_rfl) (by kernel_rfl) (by kernel_rfl) (fun _ _ _ h => h) (Or.inl ⟨by kernel_rfl, fun w => (by first | (go_simp; done) | (go_simp; with_reducible rfl))⟩) ?_
    try simp only [Act.put, List.getElem_toArray, List.getElem_cons_succ, List.getElem_cons_zero, List.setIfInBounds_toArray, List.set_cons_zero, List.set_cons_succ]
    refine wpAny_take (i := 3) (v := (.slice (some ⟨g, 0, none⟩) 128 128)) rfl (by kernel_rfl) (by kernel_rfl) (by kernel_rfl) (fun _ _ _ h => h) (Or.inl ⟨by kernel_rfl, fun w => (by first | (go_simp; done) | (go_simp; with_reducible rfl))⟩) ?_
    try simp only [Act.put, List.getElem_toArray, List.getElem_cons_succ, List.getElem_cons_zero, List.setIfInBounds_toArray, List.set_cons_zero, List.set_cons_succ]
    refine wpAny_take (i := 5) (v := (.slice A l c)) rfl (by kernel_rfl) (by kernel_rfl) (by kernel_rfl) (fun _ _ _ h => h) (Or.inl ⟨by kernel_rfl, fun w => (by first | (go_simp; done) | (go_simp; with_reducible rfl))⟩) ?_
    try simp only [Act.put, List.getElem_toArray, List.getElem_cons_succ, List.getElem_cons_zero, List.setIfInBounds_toArray, List.set_cons_zero, List.set_cons_succ]
    refine wpAny_ready (rs := [4, 6]) (by kernel_rfl) (by simp) (AllReady.cons rfl (fun K hK => ?_) (AllReady.cons rfl (fun K hK => ?_) AllReady.nil))
    · go_simp
      (try (refine hK _ _ ?_; clear hK K))
      try simp only [Act.put, List.getElem_toArray, List.getElem_cons_succ, List.getElem_cons_zero, List.setIfInBounds_toArray, List.set_cons_zero, List.set_cons_succ]
      refine wpAny_ready (rs := [6]) (by kernel_rfl) (by simp) (AllReady.cons rfl (fun K hK => ?_) AllReady.nil)
      go_simp
      go_at_call 21
      refine HRS.out.mono ?_
      rintro e w5 ⟨A5, c5, rfl, own5, F5⟩
      have s1 := run_str (P := Tryd.prog) w5 23 9 5 Tryd.underlying23 Tryd.underlying5 Tryd.underlying9 _ _ c5 _ (Rd.own own5)
      have s2 := run_str (P := Tryd.prog) w5 23 9 5 Tryd.underlying23 Tryd.underlying5 Tryd.underlying9 _ 128 128 _ (HSR.out.fr F5 (fun _ _ _ h => h))
      rw [HTT.out] at s1 s2
      have HF5 := hid (HF4.out.trans F5)
      have HB5 := hid (HB4.out.fr F5 (fun h => h))
      clear own5 F5
      go_wp2_with fail
      (try (refine hK _ _ ?_; clear hK K))
      try simp only [Act.put, List.getElem_toArray, List.getElem_cons_succ, List.getElem_cons_zero, List.setIfInBounds_toArray, List.set_cons_zero, List.set_cons_succ]
      refine wpAny_ready (rs := [7]) (by kernel_rfl) (by simp) (AllReady.cons rfl (fun K hK => ?_) AllReady.nil)
      go_simp
      (try (refine hK _ _ ?_; clear hK K))
      try simp only [Act.put, List.getElem_toArray, List.getElem_cons_succ, List.getElem_cons_zero, List.setIfInBounds_toArray, List.set_cons_zero, List.set_cons_succ]
      refine wpAny_ready (rs := [8]) (by kernel_rfl) (by simp) (AllReady.cons rfl (fun K hK => ?_) AllReady.nil)
      go_simp
      (try (refine hK _ _ ?_; clear hK K))
      try simp only [Act.put, List.getElem_toArray, List.getElem_cons_succ, List.getElem_cons_zero, List.setIfInBounds_toArray, List.set_cons_zero, List.set_cons_succ]
      refine wpAny_ready (rs := [9]) (by kernel_rfl) (by simp) (AllReady.cons rfl (fun K hK => ?_) AllReady.nil)
      go_simp
      (try (refine hK _ _ ?_; clear hK K))
      try simp only [Act.put, List.getElem_toArray, List.getElem_cons_succ, List.getElem_cons_zero, List.setIfInBounds_toArray, List.set_cons_zero, List.set_cons_succ]
      refine wpAny_ready (rs := [10]) (by kernel_rfl) (by simp) (AllReady.cons rfl (fun K hK => ?_) AllReady.nil)
      go_simp
      (try (refine hK _ _ ?_; clear hK K))
      try simp only [Act.put, List.getElem_toArray, List.getElem_cons_succ, List.getElem_cons_zero, List.setIfInBounds_toArray, List.set_cons_zero, List.set_cons_succ]
      refine wpAny_ready (rs := [11]) (by kernel_rfl) (by simp) (AllReady.cons rfl (fun K hK => ?_) AllReady.nil)
      go_simp
      (try (refine hK _ _ ?_; clear hK K))
      try simp only [Act.put, List.getElem_toArray, List.getElem_cons_succ, List.getElem_cons_zero, List.setIfInBounds_toArray, List.set_cons_zero, List.set_cons_succ]
      refine wpAny_ready (rs := [12]) (by kernel_rfl) (by simp) (AllReady.cons rfl (fun K hK => ?_) AllReady.nil)
      go_simp
      go_at_call 22
      refine (check_is w5 g zs HB.out.2.2.2 HLEN.out HB5.out (HT.out.fr HF5.out (fun h => h))).mono ?_
      rintro e w' ⟨rfl, rfl⟩
      go_wp2_with fail
      (try (refine hK _ _ ?_; clear hK K))
      try simp only [Act.put, List.getElem_toArray, List.getElem_cons_succ, List.getElem_cons_zero, List.setIfInBounds_toArray, List.set_cons_zero, List.set_cons_succ]
      refine wpAny_ready (rs := [13]) (by kernel_rfl) (by simp) (AllReady.cons rfl (fun K hK => ?_) AllReady.nil)
      go_simp
      (try (refine hK _ _ ?_; clear hK K))
      try simp only [Act.put, List.getElem_toArray, List.getElem_cons_succ, List.getElem_cons_zero, List.setIfInBounds_toArray, List.set_cons_zero, List.set_cons_succ]
      refine wpAny_ready (rs := [14]) (by kernel_rfl) (by simp) (AllReady.cons rfl (fun K hK => ?_) AllReady.nil)
      go_simp
      (try (refine hK _ _ ?_; clear hK K))
      try simp only [Act.put, List.getElem_toArray, List.getElem_cons_succ, List.getElem_cons_zero, List.setIfInBounds_toArray, List.set_cons_zero, List.set_cons_succ]
      refine wpAny_done (by kernel_rfl) ?_ _
      go_wp2
      go_ret
      exact ⟨rfl, HF5.out⟩
    · go_simp
      go_at_call 21
      refine HRS.out.mono ?_
      rintro e w5 ⟨A5, c5, rfl, own5, F5⟩
      have s1 := run_str (P := Tryd.prog) w5 23 9 5 Tryd.underlying23 Tryd.underlying5 Tryd.underlying9 _ _ c5 _ (Rd.own own5)
      have s2 := run_str (P := Tryd.prog) w5 23 9 5 Tryd.underlying23 Tryd.underlying5 Tryd.underlying9 _ 128 128 _ (HSR.out.fr F5 (fun _ _ _ h => h))
      rw [HTT.out] at s1 s2
      have HF5 := hid (HF4.out.trans F5)
      have HB5 := hid (HB4.out.fr F5 (fun h => h))
      clear own5 F5
      go_wp2_with fail
      (try (refine hK _ _ ?_; clear hK K))
      try simp only [Act.put, List.getElem_toArray, List.getElem_cons_succ, List.getElem_cons_zero, List.setIfInBounds_toArray, List.set_cons_zero, List.set_cons_succ]
      refine wpAny_ready (rs := [4, 7]) (by kernel_rfl) (by simp) (AllReady.cons rfl (fun K hK => ?_) (AllReady.cons rfl (fun K hK => ?_) AllReady.nil))
      · go_simp
        (try (refine hK _ _ ?_; clear hK K))
        try simp only [Act.put, List.getElem_toArray, List.getElem_cons_succ, List.getElem_cons_zero, List.setIfInBounds_toArray, List.set_cons_zero, List.set_cons_succ]
        refine wpAny_ready (rs := [7]) (by kernel_rfl) (by simp) (AllReady.cons rfl (fun K hK => ?_) AllReady.nil)
        go_simp
        (try (refine hK _ _ ?_; clear hK K))
        try simp only [Act.put, List.getElem_toArray, List.getElem_cons_succ, List.getElem_cons_zero, List.setIfInBounds_toArray, List.set_cons_zero, List.set_cons_succ]
        refine wpAny_ready (rs := [8]) (by kernel_rfl) (by simp) (AllReady.cons rfl (fun K hK => ?_) AllReady.nil)
        go_simp
        (try (refine hK _ _ ?_; clear hK K))
        try simp only [Act.put, List.getElem_toArray, List.getElem_cons_succ, List.getElem_cons_zero, List.setIfInBounds_toArray, List.set_cons_zero, List.set_cons_succ]
        refine wpAny_ready (rs := [9]) (by kernel_rfl) (by simp) (AllReady.cons rfl (fun K hK => ?_) AllReady.nil)
        go_simp
        (try (refine hK _ _ ?_; clear hK K))
        try simp only [Act.put, List.getElem_toArray, List.getElem_cons_succ, List.getElem_cons_zero, List.setIfInBounds_toArray, List.set_cons_zero, List.set_cons_succ]
        refine wpAny_ready (rs := [10]) (by kernel_rfl) (by simp) (AllReady.cons rfl (fun K hK => ?_) AllReady.nil)
        go_simp
        (try (refine hK _ _ ?_; clear hK K))
        try simp only [Act.put, List.getElem_toArray, List.getElem_cons_succ, List.getElem_cons_zero, List.setIfInBounds_toArray, List.set_cons_zero, List.set_cons_succ]
        refine wpAny_ready (rs := [11]) (by kernel_rfl) (by simp) (AllReady.cons rfl (fun K hK => ?_) AllReady.nil)
        go_simp
        (try (refine hK _ _ ?_; clear hK K))
        try simp only [Act.put, List.getElem_toArray, List.getElem_cons_succ, List.getElem_cons_zero, List.setIfInBounds_toArray, List.set_cons_zero, List.set_cons_succ]
        refine wpAny_ready (rs := [12]) (by kernel_rfl) (by simp) (AllReady.cons rfl (fun K hK => ?_) AllReady.nil)
        go_simp
        go_at_call 22
        refine (check_is w5 g zs HB.out.2.2.2 HLEN.out HB5.out (HT.out.fr HF5.out (fun h => h))).mono ?_
        rintro e w' ⟨rfl, rfl⟩
        go_wp2_with fail
        (try (refine hK _ _ ?_; clear hK K))
        try simp only [Act.put, List.getElem_toArray, List.getElem_cons_succ, List.getElem_cons_zero, List.setIfInBounds_toArray, List.set_cons_zero, List.set_cons_succ]
        refine wpAny_ready (rs := [13]) (by kernel_rfl) (by simp) (AllReady.cons rfl (fun K hK => ?_) AllReady.nil)
        go_simp
        (try (refine hK _ _ ?_; clear hK K))
        try simp only [Act.put, List.getElem_toArray, List.getElem_cons_succ, List.getElem_cons_zero, List.setIfInBounds_toArray, List.set_cons_zero, List.set_cons_succ]
        refine wpAny_ready (rs := [14]) (by kernel_rfl) (by simp) (AllReady.cons rfl (fun K hK => ?_) AllReady.nil)
        go_simp
        (try (refine hK _ _ ?_; clear hK K))
        try simp only [Act.put, List.getElem_toArray, List.getElem_cons_succ, List.getElem_cons_zero, List.setIfInBounds_toArray, List.set_cons_zero, List.set_cons_succ]
        refine wpAny_done (by kernel_rfl) ?_ _
        go_wp2
        go_ret
        exact ⟨rfl, HF5.out⟩
      · go_simp
        (try (refine hK _ _ ?_; clear hK K))
        try simp only [Act.put, List.getElem_toArray, List.getElem_cons_succ, List.getElem_cons_zero, List.setIfInBounds_toArray, List.set_cons_zero, List.set_cons_succ]
        refine wpAny_ready (rs := [4]) (by kernel_rfl) (by simp) (AllReady.cons rfl (fun K hK => ?_) AllReady.nil)
        go_simp
        (try (refine hK _ _ ?_; clear hK K))
        try simp only [Act.put, List.getElem_toArray, List.getElem_cons_succ, List.getElem_cons_zero, List.setIfInBounds_toArray, List.set_cons_zero, List.set_cons_succ]
        refine wpAny_ready (rs := [8]) (by kernel_rfl) (by simp) (AllReady.cons rfl (fun K hK => ?_) AllReady.nil)
        go_simp
        (try (refine hK _ _ ?_; clear hK K))
        try simp only [Act.put, List.getElem_toArray, List.getElem_cons_succ, List.getElem_cons_zero, List.setIfInBounds_toArray, List.set_cons_zero, List.set_cons_succ]
        refine wpAny_ready (rs := [9]) (by kernel_rfl) (by simp) (AllReady.cons rfl (fun K hK => ?_) AllReady.nil)
        go_simp
        (try (refine hK _ _ ?_; clear hK K))
        try simp only [Act.put, List.getElem_toArray, List.getElem_cons_succ, List.getElem_cons_zero, List.setIfInBounds_toArray, List.set_cons_zero, List.set_cons_succ]
        refine wpAny_ready (rs := [10]) (by kernel_rfl) (by simp) (AllReady.cons rfl (fun K hK => ?_) AllReady.nil)
        go_simp
        (try (refine hK _ _ ?_; clear hK K))
        try simp only [Act.put, List.getElem_toArray, List.getElem_cons_succ, List.getElem_cons_zero, List.setIfInBounds_toArray, List.set_cons_zero, List.set_cons_succ]
        refine wpAny_ready (rs := [11]) (by kernel_rfl) (by simp) (AllReady.cons rfl (fun K hK => ?_) AllReady.nil)
        go_simp
        (try (refine hK _ _ ?_; clear hK K))
        try simp only [Act.put, List.getElem_toArray, List.getElem_cons_succ, List.getElem_cons_zero, List.setIfInBounds_toArray, List.set_cons_zero, List.set_cons_succ]
        refine wpAny_ready (rs := [12]) (by kernel_rfl) (by simp) (AllReady.cons rfl (fun K hK => ?_) AllReady.nil)
        go_simp
        go_at_call 22
        refine (check_is w5 g zs HB.out.2.2.2 HLEN.out HB5.out (HT.out.fr HF5.out (fun h => h))).mono ?_
        rintro e w' ⟨rfl, rfl⟩
        go_wp2_with fail
        (try (refine hK _ _ ?_; clear hK K))
        try simp only [Act.put, List.getElem_toArray, List.getElem_cons_succ, List.getElem_cons_zero, List.setIfInBounds_toArray, List.set_cons_zero, List.set_cons_succ]
        refine wpAny_ready (rs := [13]) (by kernel_rfl) (by simp) (AllReady.cons rfl (fun K hK => ?_) AllReady.nil)
        go_simp
        (try (refine hK _ _ ?_; clear hK K))
        try simp only [Act.put, List.getElem_toArray, List.getElem_cons_succ, List.getElem_cons_zero, List.setIfInBounds_toArray, List.set_cons_zero, List.set_cons_succ]
        refine wpAny_ready (rs := [14]) (by kernel_rfl) (by simp) (AllReady.cons rfl (fun K hK => ?_) AllReady.nil)
        go_simp
        (try (refine hK _ _ ?_; clear hK K))
        try simp only [Act.put, List.getElem_toArray, List.getElem_cons_succ, List.getElem_cons_zero, List.setIfInBounds_toArray, List.set_cons_zero, List.set_cons_succ]
        refine wpAny_done (by kernel_rfl) ?_ _
        go_wp2
        go_ret
        exact ⟨rfl, HF5.out⟩
end Go.Proofs.YtlcafkjnikiomaaDoor.CrcJ
