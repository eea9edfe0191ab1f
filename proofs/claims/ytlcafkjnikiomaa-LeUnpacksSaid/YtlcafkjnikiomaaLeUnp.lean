/- LeUnpacks: the walk. -/
import Derived.Test.YtlcafkjnikiomaaLeV
import Derived.Deep.RegionHeld3
namespace Go.Proofs.Ytlcafkjnikiomaa.LeUnp
open Go.RowKit MSep MFrame LeA LeW LeR LeB LeL LeX LeU LeV

theorem isB_own {w : World} {base : Nat} {A : Option Addr} {l c : Nat} {zs : List Int} (h : w.ownsRow base 5 1 (.slice A l c) l (zs.map (Value.int .u8))) (hu : ∀ x ∈ zs, 0 ≤ x ∧ x ≤ 255) : IsB w A l c zs := by
  refine ⟨Rd.own h, ?_, ?_, hu⟩
  · rcases h.2 with ⟨hv, h0⟩ | ⟨g, cap, cur, hv, _, _, hn, _⟩
    · omega
    · injection hv with _ _ h3
      omega
  · rcases h.2 with ⟨hv, h0⟩ | ⟨g, cap, cur, hv, _, _, _, hm, _⟩
    · injection hv with _ _ h3
      rw [h3]
      exact Nat.zero_le _
    · injection hv with _ _ h3
      rw [h3]
      exact hm

set_option maxHeartbeats 1600000 in
theorem walk (n : Int) (A : Option Addr) (l c : Nat) (zs : List Int) (w : World) (hn : -9223372036854775808 ≤ n ∧ n ≤ 9223372036854775807) (hb : IsB w A l c zs) (hc : c ≤ reachBytes) :
    Calls Try.prog 7 #[.int .i64 n, .slice A l c] w fun e w' => e = .returned (.bool true) ∧ Below w.heap.size w w' := by
  obtain ⟨i0, hi, hz0, hz1, hz2⟩ := info_parts u8_info
  have hlc := hb.2.1
  unfold reachBytes at hc
  have hlen : zs.length = l := by simpa using hb.1.1
  have HLEN := hid hlen
  have HBB := hid hb
  clear hb hlen
  have hown0 : (w.alloc (.cells #[] 5)).ownsRow w.heap.size 5 1 (.slice (some ⟨w.heap.size, 0, none⟩) 0 0) 0 [] := World.ownsRow_lit w #[] 0 (Nat.le_refl _) (by simp [maxLen]) rfl
  have hrd1 : Rd (w.alloc (.cells #[] 5)) A l (zs.map (Value.int .u8)) := HBB.out.1.fr (S := No) ((Fr.refl _ _).alloc _) (fun _ _ _ h => h)
  go_enter Try.func7, Try.ntmps7
  go_wp2_with (at_builtin; go_must (refine wpList_app rfl (.tmp 10) (.tmp 11) 27 rfl w.heap.size 5 i0 (.int .u8 0) 1 Try.underlying27 hi hz0 hz1 hz2 rfl _ 0 [] rfl hown0 A _ c _ rfl hrd1 one_u8s (by simp only [maxLen]; omega) (by omega) (by simp) ?_))
  intro A2 c2 w2 hown2 hF2 hO2
  have G2 : Fr No w w2 := ((Fr.refl _ w).alloc _).step hF2 (fun i hi h => by simp [Value.ownBlock] at h; omega)
  have hown3 : w2.ownsRow w.heap.size 5 1 (.slice A2 l c2) l (zs.map (Value.int .u8)) := by simpa using hown2
  have L2 := G2.size
  have HO3 := hid hown3
  clear hown0 hrd1 hown2 hF2 hO2 hown3
  have HU := hid HBB.out.2.2.2
  have hB2 := isB_own HO3.out HU.out
  have HB2 := hid hB2
  clear hB2
  go_wp2_with fail
  -- what le.Unpack answers
  by_cases hr : n < 0 ∨ 65536 < n
  · refine (unpack_arg n A2 l c2 w2 hr).mono ?_
    rintro e w' ⟨rfl, rfl⟩
    go_wp2_with fail
    refine (lives_any _).mono ?_
    rintro e w5 ⟨rfl, F5⟩
    have G5 := G2.trans F5
    have st1 := run_str (P := Try.prog) w5 27 9 5 Try.underlying27 Try.underlying5 Try.underlying9 A2 l c2 _ ((HB2.out.fr F5).1)
    have st2 := run_str (P := Try.prog) w5 27 9 5 Try.underlying27 Try.underlying5 Try.underlying9 A l c _ ((HBB.out.fr G5).1)
    have hd : (decide (n < 0) || decide (65536 < n)) = true := by simpa using hr
    rcases hr with hr | hr
    · go_wp2
      go_ret
      exact ⟨rfl, G5.below (Nat.le_refl _) (fun _ h => h.elim)⟩
    · have h0 : ¬ n < 0 := by omega
      go_wp2
      go_ret
      exact ⟨rfl, G5.below (Nat.le_refl _) (fun _ h => h.elim)⟩
  · obtain ⟨m, rfl⟩ := Int.eq_ofNat_of_zero_le (show 0 ≤ n by omega)
    have hm : m ≤ 65536 := by omega
    have q0 : ¬ (m : Int) < 0 := by omega
    have q1 : ¬ 65536 < (m : Int) := by omega
    clear hr
    by_cases hl : l = (m + 7) / 8
    · cases ht : tailOk m zs with
      | true =>
        have HL0 := hid hl
        have HT0 := hid ht
        clear hl ht
        refine (unpack_ok m A2 l c2 zs w.heap.size w2 hm HL0.out HB2.out HT0.out L2).mono ?_
        rintro e w4 ⟨g, A4, c4, rfl, B4, F4, hg4⟩
        go_wp2_with fail
        refine (lives_any _).mono ?_
        rintro e w5 ⟨rfl, F5⟩
        have F25 := F4.trans F5
        have G5 := G2.trans F25
        have L5 := G5.size
        have B5 := B4.fr F5 (fun _ _ h => h)
        have st1 := run_str (P := Try.prog) w5 27 9 5 Try.underlying27 Try.underlying5 Try.underlying9 A2 l c2 _ ((HB2.out.fr F25).1)
        have st2 := run_str (P := Try.prog) w5 27 9 5 Try.underlying27 Try.underlying5 Try.underlying9 A l c _ ((HBB.out.fr G5).1)
        have HB5 := hid B5
        have YU := hid (yunpack_ok m A l c zs w.heap.size w5 hm HL0.out (HBB.out.fr G5) HT0.out L5)
        clear B4 B5 F4 F5 F25 hg4
        go_wp2_with fail
        refine YU.out.mono ?_
        rintro e w6 ⟨rfl, own6, F6⟩
        have G6 := G5.trans F6
        have L6 := G6.size
        have B6 := HB5.out.fr F6 (fun _ _ h => h)
        have HB6 := hid B6
        have HL := hid (looks_any 0 (by omega) (B6.fr (S := No) ((Fr.refl _ _).drewN 1) (fun _ _ h => h)) _ m (by exact Rd.own own6))
        have HP := hid (pack_any (B := w.heap.size) (w := w6.drewN 1) (by exact L6) (B6.fr (S := No) ((Fr.refl _ _).drewN 1) (fun _ _ h => h)))
        have HG6 := hid G6
        have st3 := run_str (P := Try.prog) (w6.drewN 1) 27 9 5 Try.underlying27 Try.underlying5 Try.underlying9 A l c _ (by exact (HBB.out.fr G6).1)
        clear B6 G6 F6 st1 st2 own6
        go_wp2_with fail
        refine wp_region_any (by kernel_rfl) ?_
        change wpAny _ _ _ _ _ _ _ (World.drew _)
        refine wpAny_take (i := 0) (v := (.int .i64 0)) rfl (by kernel_rfl) (by kernel_rfl) (by kernel_rfl) (fun _ _ _ h => h) (Or.inl ⟨by kernel_rfl, fun w => (by first | (go_simp; done) | (go_simp; with_reducible rfl))⟩) ?_
        try simp only [Act.put, List.getElem_toArray, List.getElem_cons_succ, List.getElem_cons_zero, List.setIfInBounds_toArray, List.set_cons_zero, List.set_cons_succ]
        refine wpAny_take (i := 1) (v := (.bool true)) rfl (by kernel_rfl) (by kernel_rfl) (by kernel_rfl) (fun _ _ _ h => h) (Or.inl ⟨by kernel_rfl, fun w => (by first | (go_simp; done) | (go_simp; with_reducible rfl))⟩) ?_
        try simp only [Act.put, List.getElem_toArray, List.getElem_cons_succ, List.getElem_cons_zero, List.setIfInBounds_toArray, List.set_cons_zero, List.set_cons_succ]
        refine wpAny_take (i := 2) (v := (.bool true)) rfl (by kernel_rfl) (by kernel_rfl) (by kernel_rfl) (fun _ _ _ h => h) (Or.inl ⟨by kernel_rfl, fun w => (by first | (go_simp; done) | (go_simp; with_reducible rfl))⟩) ?_
        try simp only [Act.put, List.getElem_toArray, List.getElem_cons_succ, List.getElem_cons_zero, List.setIfInBounds_toArray, List.set_cons_zero, List.set_cons_succ]
        refine wpAny_take (i := 3) (v := (.pointer (some ⟨g, 0, none⟩))) rfl (by kernel_rfl) (by kernel_rfl) (by kernel_rfl) (fun _ _ _ h => h) (Or.inl ⟨by kernel_rfl, fun w => (by first | (go_simp; done) | (go_simp; with_reducible rfl))⟩) ?_
        try simp only [Act.put, List.getElem_toArray, List.getElem_cons_succ, List.getElem_cons_zero, List.setIfInBounds_toArray, List.set_cons_zero, List.set_cons_succ]
        refine wpAny_take (i := 4) (v := (.bool true)) rfl (by kernel_rfl) (by kernel_rfl) (by kernel_rfl) (fun _ _ _ h => h) (Or.inl ⟨by kernel_rfl, fun w => (by first | (go_simp; done) | (go_simp; with_reducible rfl))⟩) ?_
        try simp only [Act.put, List.getElem_toArray, List.getElem_cons_succ, List.getElem_cons_zero, List.setIfInBounds_toArray, List.set_cons_zero, List.set_cons_succ]
        refine wpAny_take (i := 5) (v := (.bool true)) rfl (by kernel_rfl) (by kernel_rfl) (by kernel_rfl) (fun _ _ _ h => h) (Or.inl ⟨by kernel_rfl, fun w => (by first | (go_simp; done) | (go_simp; with_reducible rfl))⟩) ?_
        try simp only [Act.put, List.getElem_toArray, List.getElem_cons_succ, List.getElem_cons_zero, List.setIfInBounds_toArray, List.set_cons_zero, List.set_cons_succ]
        refine wpAny_take (i := 6) (v := (.bool true)) rfl (by kernel_rfl) (by kernel_rfl) (by kernel_rfl) (fun _ _ _ h => h) (Or.inl ⟨by kernel_rfl, fun w => (by first | (go_simp; done) | (go_simp; with_reducible rfl))⟩) ?_
        try simp only [Act.put, List.getElem_toArray, List.getElem_cons_succ, List.getElem_cons_zero, List.setIfInBounds_toArray, List.set_cons_zero, List.set_cons_succ]
        refine wpAny_take (i := 7) (v := (.pointer (some ⟨g, 0, none⟩))) rfl (by kernel_rfl) (by kernel_rfl) (by kernel_rfl) (fun _ _ _ h => h) (Or.inl ⟨by kernel_rfl, fun w => (by first | (go_simp; done) | (go_simp; with_reducible rfl))⟩) ?_
        try simp only [Act.put, List.getElem_toArray, List.getElem_cons_succ, List.getElem_cons_zero, List.setIfInBounds_toArray, List.set_cons_zero, List.set_cons_succ]
        refine wpAny_take (i := 8) (v := (.slice (some ⟨w5.heap.size, 0, none⟩) m m)) rfl (by kernel_rfl) (by kernel_rfl) (by kernel_rfl) (fun _ _ _ h => h) (Or.inl ⟨by kernel_rfl, fun w => (by first | (go_simp; done) | (go_simp; with_reducible rfl))⟩) ?_
        try simp only [Act.put, List.getElem_toArray, List.getElem_cons_succ, List.getElem_cons_zero, List.setIfInBounds_toArray, List.set_cons_zero, List.set_cons_succ]
        refine wpAny_ready (rs := [9]) (by kernel_rfl) (by simp) (AllReady.cons rfl (fun K hK => ?_) AllReady.nil)
        go_simp
        go_at_call 33
        refine HL.out.mono ?_
        rintro e w' ⟨rfl, rfl⟩
        go_wp2_with fail
        (try (refine hK _ _ ?_; clear hK K))
        try simp only [Act.put, List.getElem_toArray, List.getElem_cons_succ, List.getElem_cons_zero, List.setIfInBounds_toArray, List.set_cons_zero, List.set_cons_succ]
        refine wpAny_take (i := 10) (v := (.bool true)) rfl (by kernel_rfl) (by kernel_rfl) (by kernel_rfl) (fun _ _ _ h => h) (Or.inl ⟨by kernel_rfl, fun w => (by first | (go_simp; done) | (go_simp; with_reducible rfl))⟩) ?_
        try simp only [Act.put, List.getElem_toArray, List.getElem_cons_succ, List.getElem_cons_zero, List.setIfInBounds_toArray, List.set_cons_zero, List.set_cons_succ]
        refine wpAny_take (i := 11) (v := (.bool true)) rfl (by kernel_rfl) (by kernel_rfl) (by kernel_rfl) (fun _ _ _ h => h) (Or.inl ⟨by kernel_rfl, fun w => (by first | (go_simp; done) | (go_simp; with_reducible rfl))⟩) ?_
        try simp only [Act.put, List.getElem_toArray, List.getElem_cons_succ, List.getElem_cons_zero, List.setIfInBounds_toArray, List.set_cons_zero, List.set_cons_succ]
        refine wpAny_take (i := 12) (v := (.pointer (some ⟨g, 0, none⟩))) rfl (by kernel_rfl) (by kernel_rfl) (by kernel_rfl) (fun _ _ _ h => h) (Or.inl ⟨by kernel_rfl, fun w => (by first | (go_simp; done) | (go_simp; with_reducible rfl))⟩) ?_
        try simp only [Act.put, List.getElem_toArray, List.getElem_cons_succ, List.getElem_cons_zero, List.setIfInBounds_toArray, List.set_cons_zero, List.set_cons_succ]
        refine wpAny_take (i := 15) (v := (.slice A l c)) rfl (by kernel_rfl) (by kernel_rfl) (by kernel_rfl) (fun _ _ _ h => h) (Or.inl ⟨by kernel_rfl, fun w => (by first | (go_simp; done) | (go_simp; with_reducible rfl))⟩) ?_
        try simp only [Act.put, List.getElem_toArray, List.getElem_cons_succ, List.getElem_cons_zero, List.setIfInBounds_toArray, List.set_cons_zero, List.set_cons_succ]
        refine wpAny_ready (rs := [13, 16]) (by kernel_rfl) (by simp) (AllReady.cons rfl (fun K hK => ?_) (AllReady.cons rfl (fun K hK => ?_) AllReady.nil))
        · go_simp
          go_at_call 35
          refine HP.out.mono ?_
          rintro e w7 ⟨A7, c7, rfl, own7, F7, _⟩
          have st4 := run_str (P := Try.prog) w7 27 9 5 Try.underlying27 Try.underlying5 Try.underlying9 A7 _ c7 _ (Rd.own own7)
          have st5 := run_str (P := Try.prog) w7 27 9 5 Try.underlying27 Try.underlying5 Try.underlying9 A l c _ ((HBB.out.fr ((HG6.out.drewN 1).trans F7)).1)
          have G7 := (HG6.out.drewN 1).trans F7
          clear own7 F7
          go_wp2_with fail
          (try (refine hK _ _ ?_; clear hK K))
          try simp only [Act.put, List.getElem_toArray, List.getElem_cons_succ, List.getElem_cons_zero, List.setIfInBounds_toArray, List.set_cons_zero, List.set_cons_succ]
          refine wpAny_ready (rs := [14, 16]) (by kernel_rfl) (by simp) (AllReady.cons rfl (fun K hK => ?_) (AllReady.cons rfl (fun K hK => ?_) AllReady.nil))
          · go_simp
            (try (refine hK _ _ ?_; clear hK K))
            try simp only [Act.put, List.getElem_toArray, List.getElem_cons_succ, List.getElem_cons_zero, List.setIfInBounds_toArray, List.set_cons_zero, List.set_cons_succ]
            refine wpAny_ready (rs := [16]) (by kernel_rfl) (by simp) (AllReady.cons rfl (fun K hK => ?_) AllReady.nil)
            go_simp
            (try (refine hK _ _ ?_; clear hK K))
            try simp only [Act.put, List.getElem_toArray, List.getElem_cons_succ, List.getElem_cons_zero, List.setIfInBounds_toArray, List.set_cons_zero, List.set_cons_succ]
            refine wpAny_take (i := 17) (v := (.bool true)) rfl (by kernel_rfl) (by kernel_rfl) (by kernel_rfl) (fun _ _ _ h => h) (Or.inl ⟨by kernel_rfl, fun w => (by first | (go_simp; done) | (go_simp; with_reducible rfl))⟩) ?_
            try simp only [Act.put, List.getElem_toArray, List.getElem_cons_succ, List.getElem_cons_zero, List.setIfInBounds_toArray, List.set_cons_zero, List.set_cons_succ]
            refine wpAny_take (i := 18) (v := (.bool true)) rfl (by kernel_rfl) (by kernel_rfl) (by kernel_rfl) (fun _ _ _ h => h) (Or.inl ⟨by kernel_rfl, fun w => (by first | (go_simp; done) | (go_simp; with_reducible rfl))⟩) ?_
            try simp only [Act.put, List.getElem_toArray, List.getElem_cons_succ, List.getElem_cons_zero, List.setIfInBounds_toArray, List.set_cons_zero, List.set_cons_succ]
            refine wpAny_take (i := 19) (v := (.bool true)) rfl (by kernel_rfl) (by kernel_rfl) (by kernel_rfl) (fun _ _ _ h => h) (Or.inl ⟨by kernel_rfl, fun w => (by first | (go_simp; done) | (go_simp; with_reducible rfl))⟩) ?_
            try simp only [Act.put, List.getElem_toArray, List.getElem_cons_succ, List.getElem_cons_zero, List.setIfInBounds_toArray, List.set_cons_zero, List.set_cons_succ]
            refine wpAny_done (by kernel_rfl) ?_ _
            go_wp2
            go_ret
            exact ⟨rfl, G7.below (Nat.le_refl _) (fun _ h => h.elim)⟩
          · go_simp
            (try (refine hK _ _ ?_; clear hK K))
            try simp only [Act.put, List.getElem_toArray, List.getElem_cons_succ, List.getElem_cons_zero, List.setIfInBounds_toArray, List.set_cons_zero, List.set_cons_succ]
            refine wpAny_ready (rs := [14]) (by kernel_rfl) (by simp) (AllReady.cons rfl (fun K hK => ?_) AllReady.nil)
            go_simp
            (try (refine hK _ _ ?_; clear hK K))
            try simp only [Act.put, List.getElem_toArray, List.getElem_cons_succ, List.getElem_cons_zero, List.setIfInBounds_toArray, List.set_cons_zero, List.set_cons_succ]
            refine wpAny_take (i := 17) (v := (.bool true)) rfl (by kernel_rfl) (by kernel_rfl) (by kernel_rfl) (fun _ _ _ h => h) (Or.inl ⟨by kernel_rfl, fun w => (by first | (go_simp; done) | (go_simp; with_reducible rfl))⟩) ?_
            try simp only [Act.put, List.getElem_toArray, List.getElem_cons_succ, List.getElem_cons_zero, List.setIfInBounds_toArray, List.set_cons_zero, List.set_cons_succ]
            refine wpAny_take (i := 18) (v := (.bool true)) rfl (by kernel_rfl) (by kernel_rfl) (by kernel_rfl) (fun _ _ _ h => h) (Or.inl ⟨by kernel_rfl, fun w => (by first | (go_simp; done) | (go_simp; with_reducible rfl))⟩) ?_
            try simp only [Act.put, List.getElem_toArray, List.getElem_cons_succ, List.getElem_cons_zero, List.setIfInBounds_toArray, List.set_cons_zero, List.set_cons_succ]
            refine wpAny_take (i := 19) (v := (.bool true)) rfl (by kernel_rfl) (by kernel_rfl) (by kernel_rfl) (fun _ _ _ h => h) (Or.inl ⟨by kernel_rfl, fun w => (by first | (go_simp; done) | (go_simp; with_reducible rfl))⟩) ?_
            try simp only [Act.put, List.getElem_toArray, List.getElem_cons_succ, List.getElem_cons_zero, List.setIfInBounds_toArray, List.set_cons_zero, List.set_cons_succ]
            refine wpAny_done (by kernel_rfl) ?_ _
            go_wp2
            go_ret
            exact ⟨rfl, G7.below (Nat.le_refl _) (fun _ h => h.elim)⟩
        · go_simp
          (try (refine hK _ _ ?_; clear hK K))
          try simp only [Act.put, List.getElem_toArray, List.getElem_cons_succ, List.getElem_cons_zero, List.setIfInBounds_toArray, List.set_cons_zero, List.set_cons_succ]
          refine wpAny_ready (rs := [13]) (by kernel_rfl) (by simp) (AllReady.cons rfl (fun K hK => ?_) AllReady.nil)
          go_simp
          go_at_call 35
          refine HP.out.mono ?_
          rintro e w7 ⟨A7, c7, rfl, own7, F7, _⟩
          have st4 := run_str (P := Try.prog) w7 27 9 5 Try.underlying27 Try.underlying5 Try.underlying9 A7 _ c7 _ (Rd.own own7)
          have st5 := run_str (P := Try.prog) w7 27 9 5 Try.underlying27 Try.underlying5 Try.underlying9 A l c _ ((HBB.out.fr ((HG6.out.drewN 1).trans F7)).1)
          have G7 := (HG6.out.drewN 1).trans F7
          clear own7 F7
          go_wp2_with fail
          (try (refine hK _ _ ?_; clear hK K))
          try simp only [Act.put, List.getElem_toArray, List.getElem_cons_succ, List.getElem_cons_zero, List.setIfInBounds_toArray, List.set_cons_zero, List.set_cons_succ]
          refine wpAny_ready (rs := [14]) (by kernel_rfl) (by simp) (AllReady.cons rfl (fun K hK => ?_) AllReady.nil)
          go_simp
          (try (refine hK _ _ ?_; clear hK K))
          try simp only [Act.put, List.getElem_toArray, List.getElem_cons_succ, List.getElem_cons_zero, List.setIfInBounds_toArray, List.set_cons_zero, List.set_cons_succ]
          refine wpAny_take (i := 17) (v := (.bool true)) rfl (by kernel_rfl) (by kernel_rfl) (by kernel_rfl) (fun _ _ _ h => h) (Or.inl ⟨by kernel_rfl, fun w => (by first | (go_simp; done) | (go_simp; with_reducible rfl))⟩) ?_
          try simp only [Act.put, List.getElem_toArray, List.getElem_cons_succ, List.getElem_cons_zero, List.setIfInBounds_toArray, List.set_cons_zero, List.set_cons_succ]
          refine wpAny_take (i := 18) (v := (.bool true)) rfl (by kernel_rfl) (by kernel_rfl) (by kernel_rfl) (fun _ _ _ h => h) (Or.inl ⟨by kernel_rfl, fun w => (by first | (go_simp; done) | (go_simp; with_reducible rfl))⟩) ?_
          try simp only [Act.put, List.getElem_toArray, List.getElem_cons_succ, List.getElem_cons_zero, List.setIfInBounds_toArray, List.set_cons_zero, List.set_cons_succ]
          refine wpAny_take (i := 19) (v := (.bool true)) rfl (by kernel_rfl) (by kernel_rfl) (by kernel_rfl) (fun _ _ _ h => h) (Or.inl ⟨by kernel_rfl, fun w => (by first | (go_simp; done) | (go_simp; with_reducible rfl))⟩) ?_
          try simp only [Act.put, List.getElem_toArray, List.getElem_cons_succ, List.getElem_cons_zero, List.setIfInBounds_toArray, List.set_cons_zero, List.set_cons_succ]
          refine wpAny_done (by kernel_rfl) ?_ _
          go_wp2
          go_ret
          exact ⟨rfl, G7.below (Nat.le_refl _) (fun _ h => h.elim)⟩
      | false =>
        have HL0 := hid hl
        have HT0 := hid ht
        clear hl ht
        refine (unpack_tail m A2 l c2 zs w2 hm HL0.out HB2.out HT0.out).mono ?_
        rintro e w4 ⟨rfl, rfl⟩
        go_wp2_with fail
        refine (lives_any _).mono ?_
        rintro e w5 ⟨rfl, F5⟩
        have G5 := G2.trans F5
        have L5 := G5.size
        have st1 := run_str (P := Try.prog) w5 27 9 5 Try.underlying27 Try.underlying5 Try.underlying9 A2 l c2 _ ((HB2.out.fr F5).1)
        have st2 := run_str (P := Try.prog) w5 27 9 5 Try.underlying27 Try.underlying5 Try.underlying9 A l c _ ((HBB.out.fr G5).1)
        have YU := hid (yunpack_bad m A l c zs w.heap.size w5 hm HL0.out (HBB.out.fr G5) HT0.out L5)
        go_wp2_with fail
        refine YU.out.mono ?_
        rintro e w6 ⟨rfl, F6⟩
        have G6 := G5.trans F6
        go_wp2
        go_ret
        exact ⟨rfl, G6.below (Nat.le_refl _) (fun _ h => h.elim)⟩
    · have HL0 := hid hl
      clear hl
      have hml : l ≤ maxLen := by unfold maxLen; omega
      have HML := hid hml
      clear hml
      refine (unpack_len m A2 l c2 w2 hm HL0.out HML.out).mono ?_
      rintro e w4 ⟨rfl, rfl⟩
      go_wp2_with fail
      refine (lives_any _).mono ?_
      rintro e w5 ⟨rfl, F5⟩
      have G5 := G2.trans F5
      have L5 := G5.size
      have st1 := run_str (P := Try.prog) w5 27 9 5 Try.underlying27 Try.underlying5 Try.underlying9 A2 l c2 _ ((HB2.out.fr F5).1)
      have st2 := run_str (P := Try.prog) w5 27 9 5 Try.underlying27 Try.underlying5 Try.underlying9 A l c _ ((HBB.out.fr G5).1)
      have YU := hid (yunpack_len m A l c w5 hm HL0.out HML.out)
      go_wp2_with fail
      refine YU.out.mono ?_
      rintro e w6 ⟨rfl, rfl⟩
      go_wp2
      go_ret
      exact ⟨rfl, G5.below (Nat.le_refl _) (fun _ h => h.elim)⟩
end Go.Proofs.Ytlcafkjnikiomaa.LeUnp
