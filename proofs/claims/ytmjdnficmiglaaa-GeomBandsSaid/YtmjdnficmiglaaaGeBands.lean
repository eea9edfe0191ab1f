/- The law of bands, walked: in which band any sector is, and which sectors a band has. Condition: all numbers are 64 bits. -/
import Derived.Test.YtmjdnficmiglaaaGeL
namespace Go.Proofs.Ytmjdnficmiglaaa.GeBands
open Go.RowKit MSep MSepC MGeM GeA GeB GeC GeD GeE GeEk GeF MGeG SqU GeH GeL

set_option maxRecDepth 100000 in
set_option maxHeartbeats 4000000 in
theorem law_ok (c s n l k i j : Int) (w : World) (hs : -9223372036854775808 ≤ s ∧ s ≤ 9223372036854775807) (hi : -9223372036854775808 ≤ i ∧ i ≤ 9223372036854775807) (hj : -9223372036854775808 ≤ j ∧ j ≤ 9223372036854775807) : Calls Try.prog 5 #[.agg #[.int .i64 c, .int .i64 s, .int .i64 n, .int .i64 l, .int .i64 k], .int .i64 i, .int .i64 j] w fun e w' => e = .returned (.bool true) ∧ Fr No w w' := by
  have HA := hid (fun W => band_ok c s n l k i W hs hi)
  have HB := hid (fun W => rband_ok c s n l k i W hs hi)
  have HL := hid (fun W => rlayout_ok c s n l k W hs)
  have HP := hid (fun x h W => bandspan_ok c s n l k x W hs h)
  have HV := hid lives_ok
  have HF := hid (fr1 w (bg c s n l k))
  have P0 := hid (BG.new w c s n l k)
  by_cases hm : mayG ⟨c, s, n, l, k⟩
  · have hg := good hm.1
    rw [show rlo ⟨c, s, n, l, k⟩ = (lay ⟨c, s, n, l, k⟩, true) by unfold rlo; rw [if_pos hm]] at HL
    by_cases j0 : j < 0
    · skip
      by_cases i0 : i < 0
      · skip
        have HPJ := hid (fun W => HP.out j hj W)
        rw [show bso ⟨c, s, n, l, k⟩ j = (0, 0) by unfold bso; rw [if_neg (by omega)]] at HPJ
        rw [show bno ⟨c, s, n, l, k⟩ i = (-1, -1) by unfold bno; rw [if_neg (by omega)]] at HA HB
        obtain ⟨y, hy⟩ : ∃ y, lay ⟨c, s, n, l, k⟩ = y := ⟨_, rfl⟩
        try rw [hy] at HA
        try rw [hy] at HB
        try rw [hy] at HL
        try rw [hy] at HPJ
        try rw [hy] at HPA
        try rw [hy] at hg
        try rw [hy] at j1
        try rw [hy] at i1
        try rw [hy] at hia
        obtain ⟨a, r, q, b, d, t, x, u⟩ := y
        obtain ⟨hC, C0, C1, a0, a1, a2, a3, r0, q0, b0, b1, b2, d0, d1, d2, t0, t1, t2, x0, x1, u0, u1, u2, u3⟩ := hg
        dsimp only at hC C0 C1 a0 a1 a2 a3 r0 q0 b0 b1 b2 d0 d1 d2 t0 t1 t2 x0 x1 u0 u1 u2 u3
        try dsimp only at HA
        try dsimp only at HB
        try dsimp only at HL
        try dsimp only at HPJ
        try dsimp only at HPA
        try dsimp only at j1
        try dsimp only at i1
        try dsimp only at hia
        clear hC C0 C1 a0 a1 a2 a3 r0 q0 b0 d0 t0 t1 t2 x0 x1 u0 u1 u2 u3 hy hm HP
        go_enter Try.func5, Try.ntmps5
        go_wp2_with ((with_reducible refine ld_geom rfl (.tmp 3) rfl w.heap.size ?_ P0.out ?_); · rfl)
        refine (HA.out _).mono ?_
        rintro e w1 ⟨rfl, f1⟩
        have HF := kf f1 HF
        have P0 := hid (P0.out.fr f1)
        clear f1 HA
        go_wp2_with ((with_reducible refine ld_geom rfl (.tmp 3) rfl w.heap.size ?_ P0.out ?_); · rfl)
        refine (HB.out _).mono ?_
        rintro e w2 ⟨rfl, f2⟩
        have HF := kf f2 HF
        have P0 := hid (P0.out.fr f2)
        clear f2 HB
        go_wp2_with ((with_reducible refine ld_geom rfl (.tmp 3) rfl w.heap.size ?_ P0.out ?_); · rfl)
        refine (HL.out _).mono ?_
        rintro e w3 ⟨rfl, f3⟩
        have S3 : w.heap.size + 1 ≤ w3.heap.size := by have h1 := P0.out; have h2 := Blk.lt (P0.out.fr f3); omega
        have HF := hid (((HF.out.trans f3).alloc (by_ a r q b d t x u)).alloc (bs_ (0) (0)))
        have P0 := hid (show BG ((w3.alloc (by_ a r q b d t x u)).alloc (bs_ (0) (0))) w.heap.size c s n l k from ((P0.out.fr f3 : Blk _ _ _ _).alloc _).alloc _)
        have P2 := hid (show BL ((w3.alloc (by_ a r q b d t x u)).alloc (bs_ (0) (0))) w3.heap.size a r q b d t x u from (BL.new w3 a r q b d t x u : Blk _ _ _ _).alloc _)
        have P3 := hid (BS.new2 w3 (by_ a r q b d t x u) (0) (0))
        clear f3 HL
        go_wp2_with ((with_reducible refine ld_geom rfl (.tmp 3) rfl w.heap.size ?_ P0.out ?_); · rfl)
        refine (HPJ.out _).mono ?_
        rintro e w4 ⟨rfl, f4⟩
        have HF := hid ((HF.out.trans f4).alloc (bs_ (0) (0)))
        have P0 := hid (show BG (w4.alloc (bs_ (0) (0))) w.heap.size c s n l k from (P0.out.fr f4 : Blk _ _ _ _).alloc _)
        have P2 := hid (show BL (w4.alloc (bs_ (0) (0))) w3.heap.size a r q b d t x u from (P2.out.fr f4 : Blk _ _ _ _).alloc _)
        have P3 := hid (show BS (w4.alloc (bs_ (0) (0))) (w3.heap.size + 1) (0) (0) from (P3.out.fr f4 : Blk _ _ _ _).alloc _)
        have P4 := hid (BS.new w4 (0) (0))
        clear f4 HPJ
        go_wp2_with fail
        refine (HV.out _).mono ?_
        rintro e w5 ⟨rfl, f5⟩
        have HF := kf f5 HF
        obtain ⟨c0, c1, c2, c3, c4⟩ := (P0.out.fr f5).cells
        obtain ⟨_, _, _, _, e4, _, _, _⟩ := (P2.out.fr f5).cells
        obtain ⟨g0, g1⟩ := (P3.out.fr f5).cells
        obtain ⟨h0, h1'⟩ := (P4.out.fr f5).cells
        have P2 := hid (P2.out.fr f5)
        clear f5 HV P3 P4 P0
        go_wp2_with fail
        go_ret
        exact ⟨rfl, HF.out⟩
      by_cases i1 : (lay ⟨c, s, n, l, k⟩).t ≤ i
      · skip
        have HPJ := hid (fun W => HP.out j hj W)
        rw [show bso ⟨c, s, n, l, k⟩ j = (0, 0) by unfold bso; rw [if_neg (by omega)]] at HPJ
        rw [show bno ⟨c, s, n, l, k⟩ i = (-1, -1) by unfold bno; rw [if_neg (by omega)]] at HA HB
        obtain ⟨y, hy⟩ : ∃ y, lay ⟨c, s, n, l, k⟩ = y := ⟨_, rfl⟩
        try rw [hy] at HA
        try rw [hy] at HB
        try rw [hy] at HL
        try rw [hy] at HPJ
        try rw [hy] at HPA
        try rw [hy] at hg
        try rw [hy] at j1
        try rw [hy] at i1
        try rw [hy] at hia
        obtain ⟨a, r, q, b, d, t, x, u⟩ := y
        obtain ⟨hC, C0, C1, a0, a1, a2, a3, r0, q0, b0, b1, b2, d0, d1, d2, t0, t1, t2, x0, x1, u0, u1, u2, u3⟩ := hg
        dsimp only at hC C0 C1 a0 a1 a2 a3 r0 q0 b0 b1 b2 d0 d1 d2 t0 t1 t2 x0 x1 u0 u1 u2 u3
        try dsimp only at HA
        try dsimp only at HB
        try dsimp only at HL
        try dsimp only at HPJ
        try dsimp only at HPA
        try dsimp only at j1
        try dsimp only at i1
        try dsimp only at hia
        clear hC C0 C1 a0 a1 a2 a3 r0 q0 b0 d0 t0 t1 t2 x0 x1 u0 u1 u2 u3 hy hm HP
        go_enter Try.func5, Try.ntmps5
        go_wp2_with ((with_reducible refine ld_geom rfl (.tmp 3) rfl w.heap.size ?_ P0.out ?_); · rfl)
        refine (HA.out _).mono ?_
        rintro e w1 ⟨rfl, f1⟩
        have HF := kf f1 HF
        have P0 := hid (P0.out.fr f1)
        clear f1 HA
        go_wp2_with ((with_reducible refine ld_geom rfl (.tmp 3) rfl w.heap.size ?_ P0.out ?_); · rfl)
        refine (HB.out _).mono ?_
        rintro e w2 ⟨rfl, f2⟩
        have HF := kf f2 HF
        have P0 := hid (P0.out.fr f2)
        clear f2 HB
        go_wp2_with ((with_reducible refine ld_geom rfl (.tmp 3) rfl w.heap.size ?_ P0.out ?_); · rfl)
        refine (HL.out _).mono ?_
        rintro e w3 ⟨rfl, f3⟩
        have S3 : w.heap.size + 1 ≤ w3.heap.size := by have h1 := P0.out; have h2 := Blk.lt (P0.out.fr f3); omega
        have HF := hid (((HF.out.trans f3).alloc (by_ a r q b d t x u)).alloc (bs_ (0) (0)))
        have P0 := hid (show BG ((w3.alloc (by_ a r q b d t x u)).alloc (bs_ (0) (0))) w.heap.size c s n l k from ((P0.out.fr f3 : Blk _ _ _ _).alloc _).alloc _)
        have P2 := hid (show BL ((w3.alloc (by_ a r q b d t x u)).alloc (bs_ (0) (0))) w3.heap.size a r q b d t x u from (BL.new w3 a r q b d t x u : Blk _ _ _ _).alloc _)
        have P3 := hid (BS.new2 w3 (by_ a r q b d t x u) (0) (0))
        clear f3 HL
        go_wp2_with ((with_reducible refine ld_geom rfl (.tmp 3) rfl w.heap.size ?_ P0.out ?_); · rfl)
        refine (HPJ.out _).mono ?_
        rintro e w4 ⟨rfl, f4⟩
        have HF := hid ((HF.out.trans f4).alloc (bs_ (0) (0)))
        have P0 := hid (show BG (w4.alloc (bs_ (0) (0))) w.heap.size c s n l k from (P0.out.fr f4 : Blk _ _ _ _).alloc _)
        have P2 := hid (show BL (w4.alloc (bs_ (0) (0))) w3.heap.size a r q b d t x u from (P2.out.fr f4 : Blk _ _ _ _).alloc _)
        have P3 := hid (show BS (w4.alloc (bs_ (0) (0))) (w3.heap.size + 1) (0) (0) from (P3.out.fr f4 : Blk _ _ _ _).alloc _)
        have P4 := hid (BS.new w4 (0) (0))
        clear f4 HPJ
        go_wp2_with fail
        refine (HV.out _).mono ?_
        rintro e w5 ⟨rfl, f5⟩
        have HF := kf f5 HF
        obtain ⟨c0, c1, c2, c3, c4⟩ := (P0.out.fr f5).cells
        obtain ⟨_, _, _, _, e4, _, _, _⟩ := (P2.out.fr f5).cells
        obtain ⟨g0, g1⟩ := (P3.out.fr f5).cells
        obtain ⟨h0, h1'⟩ := (P4.out.fr f5).cells
        have P2 := hid (P2.out.fr f5)
        clear f5 HV P3 P4 P0
        go_wp2_with fail
        go_ret
        exact ⟨rfl, HF.out⟩
      have HPJ := hid (fun W => HP.out j hj W)
      rw [show bso ⟨c, s, n, l, k⟩ j = (0, 0) by unfold bso; rw [if_neg (by omega)]] at HPJ
      rw [show bno ⟨c, s, n, l, k⟩ i = (i / (lay ⟨c, s, n, l, k⟩).d, i % (lay ⟨c, s, n, l, k⟩).d) by unfold bno; rw [if_pos ⟨hm, by omega, by omega⟩]] at HA HB
      have hia : 0 ≤ i / (lay ⟨c, s, n, l, k⟩).d ∧ i / (lay ⟨c, s, n, l, k⟩).d < (lay ⟨c, s, n, l, k⟩).b := ⟨Int.ediv_nonneg (by omega) (by have := hg.d1; omega), Int.ediv_lt_of_lt_mul (by have := hg.d1; omega) (by have := hg.t0; omega)⟩
      have HPA := hid (fun W => HP.out (i / (lay ⟨c, s, n, l, k⟩).d) (by have := hg.b2; omega) W)
      rw [show bso ⟨c, s, n, l, k⟩ (i / (lay ⟨c, s, n, l, k⟩).d) = (i / (lay ⟨c, s, n, l, k⟩).d * (lay ⟨c, s, n, l, k⟩).d, (lay ⟨c, s, n, l, k⟩).d) by unfold bso; rw [if_pos ⟨hm, by omega, by omega⟩]] at HPA
      obtain ⟨y, hy⟩ : ∃ y, lay ⟨c, s, n, l, k⟩ = y := ⟨_, rfl⟩
      try rw [hy] at HA
      try rw [hy] at HB
      try rw [hy] at HL
      try rw [hy] at HPJ
      try rw [hy] at HPA
      try rw [hy] at hg
      try rw [hy] at j1
      try rw [hy] at i1
      try rw [hy] at hia
      obtain ⟨a, r, q, b, d, t, x, u⟩ := y
      obtain ⟨hC, C0, C1, a0, a1, a2, a3, r0, q0, b0, b1, b2, d0, d1, d2, t0, t1, t2, x0, x1, u0, u1, u2, u3⟩ := hg
      dsimp only at hC C0 C1 a0 a1 a2 a3 r0 q0 b0 b1 b2 d0 d1 d2 t0 t1 t2 x0 x1 u0 u1 u2 u3
      try dsimp only at HA
      try dsimp only at HB
      try dsimp only at HL
      try dsimp only at HPJ
      try dsimp only at HPA
      try dsimp only at j1
      try dsimp only at i1
      try dsimp only at hia
      have hid1 := Int.emod_nonneg i (show d ≠ 0 by omega)
      have hid2 := Int.emod_lt_of_pos i (show 0 < d by omega)
      have hid3 := Int.ediv_mul_add_emod i d
      obtain ⟨QA, hQA⟩ : ∃ QA, i / d = QA := ⟨_, rfl⟩
      obtain ⟨RA, hRA⟩ : ∃ RA, i % d = RA := ⟨_, rfl⟩
      rw [hQA] at HA HB HPA hia hid3
      rw [hRA] at HA HB hid1 hid2 hid3
      have hq0 : ¬ QA < 0 := by omega
      have m2 : wrap64 (i - RA) = QA * d := by rw [show i - RA = QA * d by omega]; exact w64 _ (by omega)
      have m3 : (QA * d == i - RA) = true := by simp; omega
      have m4 : QA * d = i - RA := by omega
      clear hQA hRA hid3
      clear hC C0 C1 a0 a1 a2 a3 r0 q0 b0 d0 t0 t1 t2 x0 x1 u0 u1 u2 u3 hy hm HP
      go_enter Try.func5, Try.ntmps5
      go_wp2_with ((with_reducible refine ld_geom rfl (.tmp 3) rfl w.heap.size ?_ P0.out ?_); · rfl)
      refine (HA.out _).mono ?_
      rintro e w1 ⟨rfl, f1⟩
      have HF := kf f1 HF
      have P0 := hid (P0.out.fr f1)
      clear f1 HA
      go_wp2_with ((with_reducible refine ld_geom rfl (.tmp 3) rfl w.heap.size ?_ P0.out ?_); · rfl)
      refine (HB.out _).mono ?_
      rintro e w2 ⟨rfl, f2⟩
      have HF := kf f2 HF
      have P0 := hid (P0.out.fr f2)
      clear f2 HB
      go_wp2_with ((with_reducible refine ld_geom rfl (.tmp 3) rfl w.heap.size ?_ P0.out ?_); · rfl)
      refine (HL.out _).mono ?_
      rintro e w3 ⟨rfl, f3⟩
      have S3 : w.heap.size + 1 ≤ w3.heap.size := by have h1 := P0.out; have h2 := Blk.lt (P0.out.fr f3); omega
      have HF := hid (((HF.out.trans f3).alloc (by_ a r q b d t x u)).alloc (bs_ (0) (0)))
      have P0 := hid (show BG ((w3.alloc (by_ a r q b d t x u)).alloc (bs_ (0) (0))) w.heap.size c s n l k from ((P0.out.fr f3 : Blk _ _ _ _).alloc _).alloc _)
      have P2 := hid (show BL ((w3.alloc (by_ a r q b d t x u)).alloc (bs_ (0) (0))) w3.heap.size a r q b d t x u from (BL.new w3 a r q b d t x u : Blk _ _ _ _).alloc _)
      have P3 := hid (BS.new2 w3 (by_ a r q b d t x u) (0) (0))
      clear f3 HL
      go_wp2_with ((with_reducible refine ld_geom rfl (.tmp 3) rfl w.heap.size ?_ P0.out ?_); · rfl)
      refine (HPJ.out _).mono ?_
      rintro e w4 ⟨rfl, f4⟩
      have HF := hid ((HF.out.trans f4).alloc (bs_ (0) (0)))
      have P0 := hid (show BG (w4.alloc (bs_ (0) (0))) w.heap.size c s n l k from (P0.out.fr f4 : Blk _ _ _ _).alloc _)
      have P2 := hid (show BL (w4.alloc (bs_ (0) (0))) w3.heap.size a r q b d t x u from (P2.out.fr f4 : Blk _ _ _ _).alloc _)
      have P3 := hid (show BS (w4.alloc (bs_ (0) (0))) (w3.heap.size + 1) (0) (0) from (P3.out.fr f4 : Blk _ _ _ _).alloc _)
      have P4 := hid (BS.new w4 (0) (0))
      clear f4 HPJ
      go_wp2_with fail
      refine (HV.out _).mono ?_
      rintro e w5 ⟨rfl, f5⟩
      have HF := kf f5 HF
      obtain ⟨c0, c1, c2, c3, c4⟩ := (P0.out.fr f5).cells
      obtain ⟨_, _, _, _, e4, _, _, _⟩ := (P2.out.fr f5).cells
      obtain ⟨g0, g1⟩ := (P3.out.fr f5).cells
      obtain ⟨h0, h1'⟩ := (P4.out.fr f5).cells
      have P2 := hid (P2.out.fr f5)
      clear f5 HV P3 P4 P0
      go_wp2_with fail
      have hfd : ∀ (A D : Int) (w : World), (Instr.field 38 (.agg #[.int .i64 A, .int .i64 D]) 0).run Try.prog w = .ok (.int .i64 A) w := fun _ _ _ => by kernel_rfl
      refine (HPA.out _).mono ?_
      rintro e w6 ⟨rfl, f6⟩
      have HF := kf f6 HF
      obtain ⟨_, _, _, _, e4, _, _, _⟩ := (P2.out.fr f6).cells
      clear f6
      go_wp2_with fail
      go_ret
      exact ⟨rfl, HF.out⟩
    by_cases j1 : (lay ⟨c, s, n, l, k⟩).b ≤ j
    · skip
      by_cases i0 : i < 0
      · skip
        have HPJ := hid (fun W => HP.out j hj W)
        rw [show bso ⟨c, s, n, l, k⟩ j = (0, 0) by unfold bso; rw [if_neg (by omega)]] at HPJ
        rw [show bno ⟨c, s, n, l, k⟩ i = (-1, -1) by unfold bno; rw [if_neg (by omega)]] at HA HB
        obtain ⟨y, hy⟩ : ∃ y, lay ⟨c, s, n, l, k⟩ = y := ⟨_, rfl⟩
        try rw [hy] at HA
        try rw [hy] at HB
        try rw [hy] at HL
        try rw [hy] at HPJ
        try rw [hy] at HPA
        try rw [hy] at hg
        try rw [hy] at j1
        try rw [hy] at i1
        try rw [hy] at hia
        obtain ⟨a, r, q, b, d, t, x, u⟩ := y
        obtain ⟨hC, C0, C1, a0, a1, a2, a3, r0, q0, b0, b1, b2, d0, d1, d2, t0, t1, t2, x0, x1, u0, u1, u2, u3⟩ := hg
        dsimp only at hC C0 C1 a0 a1 a2 a3 r0 q0 b0 b1 b2 d0 d1 d2 t0 t1 t2 x0 x1 u0 u1 u2 u3
        try dsimp only at HA
        try dsimp only at HB
        try dsimp only at HL
        try dsimp only at HPJ
        try dsimp only at HPA
        try dsimp only at j1
        try dsimp only at i1
        try dsimp only at hia
        clear hC C0 C1 a0 a1 a2 a3 r0 q0 b0 d0 t0 t1 t2 x0 x1 u0 u1 u2 u3 hy hm HP
        go_enter Try.func5, Try.ntmps5
        go_wp2_with ((with_reducible refine ld_geom rfl (.tmp 3) rfl w.heap.size ?_ P0.out ?_); · rfl)
        refine (HA.out _).mono ?_
        rintro e w1 ⟨rfl, f1⟩
        have HF := kf f1 HF
        have P0 := hid (P0.out.fr f1)
        clear f1 HA
        go_wp2_with ((with_reducible refine ld_geom rfl (.tmp 3) rfl w.heap.size ?_ P0.out ?_); · rfl)
        refine (HB.out _).mono ?_
        rintro e w2 ⟨rfl, f2⟩
        have HF := kf f2 HF
        have P0 := hid (P0.out.fr f2)
        clear f2 HB
        go_wp2_with ((with_reducible refine ld_geom rfl (.tmp 3) rfl w.heap.size ?_ P0.out ?_); · rfl)
        refine (HL.out _).mono ?_
        rintro e w3 ⟨rfl, f3⟩
        have S3 : w.heap.size + 1 ≤ w3.heap.size := by have h1 := P0.out; have h2 := Blk.lt (P0.out.fr f3); omega
        have HF := hid (((HF.out.trans f3).alloc (by_ a r q b d t x u)).alloc (bs_ (0) (0)))
        have P0 := hid (show BG ((w3.alloc (by_ a r q b d t x u)).alloc (bs_ (0) (0))) w.heap.size c s n l k from ((P0.out.fr f3 : Blk _ _ _ _).alloc _).alloc _)
        have P2 := hid (show BL ((w3.alloc (by_ a r q b d t x u)).alloc (bs_ (0) (0))) w3.heap.size a r q b d t x u from (BL.new w3 a r q b d t x u : Blk _ _ _ _).alloc _)
        have P3 := hid (BS.new2 w3 (by_ a r q b d t x u) (0) (0))
        clear f3 HL
        go_wp2_with ((with_reducible refine ld_geom rfl (.tmp 3) rfl w.heap.size ?_ P0.out ?_); · rfl)
        refine (HPJ.out _).mono ?_
        rintro e w4 ⟨rfl, f4⟩
        have HF := hid ((HF.out.trans f4).alloc (bs_ (0) (0)))
        have P0 := hid (show BG (w4.alloc (bs_ (0) (0))) w.heap.size c s n l k from (P0.out.fr f4 : Blk _ _ _ _).alloc _)
        have P2 := hid (show BL (w4.alloc (bs_ (0) (0))) w3.heap.size a r q b d t x u from (P2.out.fr f4 : Blk _ _ _ _).alloc _)
        have P3 := hid (show BS (w4.alloc (bs_ (0) (0))) (w3.heap.size + 1) (0) (0) from (P3.out.fr f4 : Blk _ _ _ _).alloc _)
        have P4 := hid (BS.new w4 (0) (0))
        clear f4 HPJ
        go_wp2_with fail
        refine (HV.out _).mono ?_
        rintro e w5 ⟨rfl, f5⟩
        have HF := kf f5 HF
        obtain ⟨c0, c1, c2, c3, c4⟩ := (P0.out.fr f5).cells
        obtain ⟨_, _, _, _, e4, _, _, _⟩ := (P2.out.fr f5).cells
        obtain ⟨g0, g1⟩ := (P3.out.fr f5).cells
        obtain ⟨h0, h1'⟩ := (P4.out.fr f5).cells
        have P2 := hid (P2.out.fr f5)
        clear f5 HV P3 P4 P0
        go_wp2_with fail
        go_ret
        exact ⟨rfl, HF.out⟩
      by_cases i1 : (lay ⟨c, s, n, l, k⟩).t ≤ i
      · skip
        have HPJ := hid (fun W => HP.out j hj W)
        rw [show bso ⟨c, s, n, l, k⟩ j = (0, 0) by unfold bso; rw [if_neg (by omega)]] at HPJ
        rw [show bno ⟨c, s, n, l, k⟩ i = (-1, -1) by unfold bno; rw [if_neg (by omega)]] at HA HB
        obtain ⟨y, hy⟩ : ∃ y, lay ⟨c, s, n, l, k⟩ = y := ⟨_, rfl⟩
        try rw [hy] at HA
        try rw [hy] at HB
        try rw [hy] at HL
        try rw [hy] at HPJ
        try rw [hy] at HPA
        try rw [hy] at hg
        try rw [hy] at j1
        try rw [hy] at i1
        try rw [hy] at hia
        obtain ⟨a, r, q, b, d, t, x, u⟩ := y
        obtain ⟨hC, C0, C1, a0, a1, a2, a3, r0, q0, b0, b1, b2, d0, d1, d2, t0, t1, t2, x0, x1, u0, u1, u2, u3⟩ := hg
        dsimp only at hC C0 C1 a0 a1 a2 a3 r0 q0 b0 b1 b2 d0 d1 d2 t0 t1 t2 x0 x1 u0 u1 u2 u3
        try dsimp only at HA
        try dsimp only at HB
        try dsimp only at HL
        try dsimp only at HPJ
        try dsimp only at HPA
        try dsimp only at j1
        try dsimp only at i1
        try dsimp only at hia
        clear hC C0 C1 a0 a1 a2 a3 r0 q0 b0 d0 t0 t1 t2 x0 x1 u0 u1 u2 u3 hy hm HP
        go_enter Try.func5, Try.ntmps5
        go_wp2_with ((with_reducible refine ld_geom rfl (.tmp 3) rfl w.heap.size ?_ P0.out ?_); · rfl)
        refine (HA.out _).mono ?_
        rintro e w1 ⟨rfl, f1⟩
        have HF := kf f1 HF
        have P0 := hid (P0.out.fr f1)
        clear f1 HA
        go_wp2_with ((with_reducible refine ld_geom rfl (.tmp 3) rfl w.heap.size ?_ P0.out ?_); · rfl)
        refine (HB.out _).mono ?_
        rintro e w2 ⟨rfl, f2⟩
        have HF := kf f2 HF
        have P0 := hid (P0.out.fr f2)
        clear f2 HB
        go_wp2_with ((with_reducible refine ld_geom rfl (.tmp 3) rfl w.heap.size ?_ P0.out ?_); · rfl)
        refine (HL.out _).mono ?_
        rintro e w3 ⟨rfl, f3⟩
        have S3 : w.heap.size + 1 ≤ w3.heap.size := by have h1 := P0.out; have h2 := Blk.lt (P0.out.fr f3); omega
        have HF := hid (((HF.out.trans f3).alloc (by_ a r q b d t x u)).alloc (bs_ (0) (0)))
        have P0 := hid (show BG ((w3.alloc (by_ a r q b d t x u)).alloc (bs_ (0) (0))) w.heap.size c s n l k from ((P0.out.fr f3 : Blk _ _ _ _).alloc _).alloc _)
        have P2 := hid (show BL ((w3.alloc (by_ a r q b d t x u)).alloc (bs_ (0) (0))) w3.heap.size a r q b d t x u from (BL.new w3 a r q b d t x u : Blk _ _ _ _).alloc _)
        have P3 := hid (BS.new2 w3 (by_ a r q b d t x u) (0) (0))
        clear f3 HL
        go_wp2_with ((with_reducible refine ld_geom rfl (.tmp 3) rfl w.heap.size ?_ P0.out ?_); · rfl)
        refine (HPJ.out _).mono ?_
        rintro e w4 ⟨rfl, f4⟩
        have HF := hid ((HF.out.trans f4).alloc (bs_ (0) (0)))
        have P0 := hid (show BG (w4.alloc (bs_ (0) (0))) w.heap.size c s n l k from (P0.out.fr f4 : Blk _ _ _ _).alloc _)
        have P2 := hid (show BL (w4.alloc (bs_ (0) (0))) w3.heap.size a r q b d t x u from (P2.out.fr f4 : Blk _ _ _ _).alloc _)
        have P3 := hid (show BS (w4.alloc (bs_ (0) (0))) (w3.heap.size + 1) (0) (0) from (P3.out.fr f4 : Blk _ _ _ _).alloc _)
        have P4 := hid (BS.new w4 (0) (0))
        clear f4 HPJ
        go_wp2_with fail
        refine (HV.out _).mono ?_
        rintro e w5 ⟨rfl, f5⟩
        have HF := kf f5 HF
        obtain ⟨c0, c1, c2, c3, c4⟩ := (P0.out.fr f5).cells
        obtain ⟨_, _, _, _, e4, _, _, _⟩ := (P2.out.fr f5).cells
        obtain ⟨g0, g1⟩ := (P3.out.fr f5).cells
        obtain ⟨h0, h1'⟩ := (P4.out.fr f5).cells
        have P2 := hid (P2.out.fr f5)
        clear f5 HV P3 P4 P0
        go_wp2_with fail
        go_ret
        exact ⟨rfl, HF.out⟩
      have HPJ := hid (fun W => HP.out j hj W)
      rw [show bso ⟨c, s, n, l, k⟩ j = (0, 0) by unfold bso; rw [if_neg (by omega)]] at HPJ
      rw [show bno ⟨c, s, n, l, k⟩ i = (i / (lay ⟨c, s, n, l, k⟩).d, i % (lay ⟨c, s, n, l, k⟩).d) by unfold bno; rw [if_pos ⟨hm, by omega, by omega⟩]] at HA HB
      have hia : 0 ≤ i / (lay ⟨c, s, n, l, k⟩).d ∧ i / (lay ⟨c, s, n, l, k⟩).d < (lay ⟨c, s, n, l, k⟩).b := ⟨Int.ediv_nonneg (by omega) (by have := hg.d1; omega), Int.ediv_lt_of_lt_mul (by have := hg.d1; omega) (by have := hg.t0; omega)⟩
      have HPA := hid (fun W => HP.out (i / (lay ⟨c, s, n, l, k⟩).d) (by have := hg.b2; omega) W)
      rw [show bso ⟨c, s, n, l, k⟩ (i / (lay ⟨c, s, n, l, k⟩).d) = (i / (lay ⟨c, s, n, l, k⟩).d * (lay ⟨c, s, n, l, k⟩).d, (lay ⟨c, s, n, l, k⟩).d) by unfold bso; rw [if_pos ⟨hm, by omega, by omega⟩]] at HPA
      obtain ⟨y, hy⟩ : ∃ y, lay ⟨c, s, n, l, k⟩ = y := ⟨_, rfl⟩
      try rw [hy] at HA
      try rw [hy] at HB
      try rw [hy] at HL
      try rw [hy] at HPJ
      try rw [hy] at HPA
      try rw [hy] at hg
      try rw [hy] at j1
      try rw [hy] at i1
      try rw [hy] at hia
      obtain ⟨a, r, q, b, d, t, x, u⟩ := y
      obtain ⟨hC, C0, C1, a0, a1, a2, a3, r0, q0, b0, b1, b2, d0, d1, d2, t0, t1, t2, x0, x1, u0, u1, u2, u3⟩ := hg
      dsimp only at hC C0 C1 a0 a1 a2 a3 r0 q0 b0 b1 b2 d0 d1 d2 t0 t1 t2 x0 x1 u0 u1 u2 u3
      try dsimp only at HA
      try dsimp only at HB
      try dsimp only at HL
      try dsimp only at HPJ
      try dsimp only at HPA
      try dsimp only at j1
      try dsimp only at i1
      try dsimp only at hia
      have hid1 := Int.emod_nonneg i (show d ≠ 0 by omega)
      have hid2 := Int.emod_lt_of_pos i (show 0 < d by omega)
      have hid3 := Int.ediv_mul_add_emod i d
      obtain ⟨QA, hQA⟩ : ∃ QA, i / d = QA := ⟨_, rfl⟩
      obtain ⟨RA, hRA⟩ : ∃ RA, i % d = RA := ⟨_, rfl⟩
      rw [hQA] at HA HB HPA hia hid3
      rw [hRA] at HA HB hid1 hid2 hid3
      have hq0 : ¬ QA < 0 := by omega
      have m2 : wrap64 (i - RA) = QA * d := by rw [show i - RA = QA * d by omega]; exact w64 _ (by omega)
      have m3 : (QA * d == i - RA) = true := by simp; omega
      have m4 : QA * d = i - RA := by omega
      clear hQA hRA hid3
      clear hC C0 C1 a0 a1 a2 a3 r0 q0 b0 d0 t0 t1 t2 x0 x1 u0 u1 u2 u3 hy hm HP
      go_enter Try.func5, Try.ntmps5
      go_wp2_with ((with_reducible refine ld_geom rfl (.tmp 3) rfl w.heap.size ?_ P0.out ?_); · rfl)
      refine (HA.out _).mono ?_
      rintro e w1 ⟨rfl, f1⟩
      have HF := kf f1 HF
      have P0 := hid (P0.out.fr f1)
      clear f1 HA
      go_wp2_with ((with_reducible refine ld_geom rfl (.tmp 3) rfl w.heap.size ?_ P0.out ?_); · rfl)
      refine (HB.out _).mono ?_
      rintro e w2 ⟨rfl, f2⟩
      have HF := kf f2 HF
      have P0 := hid (P0.out.fr f2)
      clear f2 HB
      go_wp2_with ((with_reducible refine ld_geom rfl (.tmp 3) rfl w.heap.size ?_ P0.out ?_); · rfl)
      refine (HL.out _).mono ?_
      rintro e w3 ⟨rfl, f3⟩
      have S3 : w.heap.size + 1 ≤ w3.heap.size := by have h1 := P0.out; have h2 := Blk.lt (P0.out.fr f3); omega
      have HF := hid (((HF.out.trans f3).alloc (by_ a r q b d t x u)).alloc (bs_ (0) (0)))
      have P0 := hid (show BG ((w3.alloc (by_ a r q b d t x u)).alloc (bs_ (0) (0))) w.heap.size c s n l k from ((P0.out.fr f3 : Blk _ _ _ _).alloc _).alloc _)
      have P2 := hid (show BL ((w3.alloc (by_ a r q b d t x u)).alloc (bs_ (0) (0))) w3.heap.size a r q b d t x u from (BL.new w3 a r q b d t x u : Blk _ _ _ _).alloc _)
      have P3 := hid (BS.new2 w3 (by_ a r q b d t x u) (0) (0))
      clear f3 HL
      go_wp2_with ((with_reducible refine ld_geom rfl (.tmp 3) rfl w.heap.size ?_ P0.out ?_); · rfl)
      refine (HPJ.out _).mono ?_
      rintro e w4 ⟨rfl, f4⟩
      have HF := hid ((HF.out.trans f4).alloc (bs_ (0) (0)))
      have P0 := hid (show BG (w4.alloc (bs_ (0) (0))) w.heap.size c s n l k from (P0.out.fr f4 : Blk _ _ _ _).alloc _)
      have P2 := hid (show BL (w4.alloc (bs_ (0) (0))) w3.heap.size a r q b d t x u from (P2.out.fr f4 : Blk _ _ _ _).alloc _)
      have P3 := hid (show BS (w4.alloc (bs_ (0) (0))) (w3.heap.size + 1) (0) (0) from (P3.out.fr f4 : Blk _ _ _ _).alloc _)
      have P4 := hid (BS.new w4 (0) (0))
      clear f4 HPJ
      go_wp2_with fail
      refine (HV.out _).mono ?_
      rintro e w5 ⟨rfl, f5⟩
      have HF := kf f5 HF
      obtain ⟨c0, c1, c2, c3, c4⟩ := (P0.out.fr f5).cells
      obtain ⟨_, _, _, _, e4, _, _, _⟩ := (P2.out.fr f5).cells
      obtain ⟨g0, g1⟩ := (P3.out.fr f5).cells
      obtain ⟨h0, h1'⟩ := (P4.out.fr f5).cells
      have P2 := hid (P2.out.fr f5)
      clear f5 HV P3 P4 P0
      go_wp2_with fail
      have hfd : ∀ (A D : Int) (w : World), (Instr.field 38 (.agg #[.int .i64 A, .int .i64 D]) 0).run Try.prog w = .ok (.int .i64 A) w := fun _ _ _ => by kernel_rfl
      refine (HPA.out _).mono ?_
      rintro e w6 ⟨rfl, f6⟩
      have HF := kf f6 HF
      obtain ⟨_, _, _, _, e4, _, _, _⟩ := (P2.out.fr f6).cells
      clear f6
      go_wp2_with fail
      go_ret
      exact ⟨rfl, HF.out⟩
    by_cases i0 : i < 0
    · skip
      have HPJ := hid (fun W => HP.out j hj W)
      rw [show bso ⟨c, s, n, l, k⟩ j = (j * (lay ⟨c, s, n, l, k⟩).d, (lay ⟨c, s, n, l, k⟩).d) by unfold bso; rw [if_pos ⟨hm, by omega, by omega⟩]] at HPJ
      rw [show bno ⟨c, s, n, l, k⟩ i = (-1, -1) by unfold bno; rw [if_neg (by omega)]] at HA HB
      obtain ⟨y, hy⟩ : ∃ y, lay ⟨c, s, n, l, k⟩ = y := ⟨_, rfl⟩
      try rw [hy] at HA
      try rw [hy] at HB
      try rw [hy] at HL
      try rw [hy] at HPJ
      try rw [hy] at HPA
      try rw [hy] at hg
      try rw [hy] at j1
      try rw [hy] at i1
      try rw [hy] at hia
      obtain ⟨a, r, q, b, d, t, x, u⟩ := y
      obtain ⟨hC, C0, C1, a0, a1, a2, a3, r0, q0, b0, b1, b2, d0, d1, d2, t0, t1, t2, x0, x1, u0, u1, u2, u3⟩ := hg
      dsimp only at hC C0 C1 a0 a1 a2 a3 r0 q0 b0 b1 b2 d0 d1 d2 t0 t1 t2 x0 x1 u0 u1 u2 u3
      try dsimp only at HA
      try dsimp only at HB
      try dsimp only at HL
      try dsimp only at HPJ
      try dsimp only at HPA
      try dsimp only at j1
      try dsimp only at i1
      try dsimp only at hia
      have hjb : 0 ≤ j ∧ j < b := ⟨by omega, by omega⟩
      obtain ⟨Z, hZ⟩ : ∃ Z, j * d = Z := ⟨_, rfl⟩
      have hp := Int.mul_le_mul (show j ≤ 126 by omega) d2 (by omega) (by omega)
      have hp0 := Int.mul_nonneg (show 0 ≤ j by omega) (show 0 ≤ d by omega)
      rw [hZ] at HPJ hp hp0
      have m1 : wrap64 (j * d) = Z := by rw [hZ]; exact w64 _ (by omega)
      clear hp hp0 hZ
      clear hC C0 C1 a0 a1 a2 a3 r0 q0 b0 d0 t0 t1 t2 x0 x1 u0 u1 u2 u3 hy hm HP
      go_enter Try.func5, Try.ntmps5
      go_wp2_with ((with_reducible refine ld_geom rfl (.tmp 3) rfl w.heap.size ?_ P0.out ?_); · rfl)
      refine (HA.out _).mono ?_
      rintro e w1 ⟨rfl, f1⟩
      have HF := kf f1 HF
      have P0 := hid (P0.out.fr f1)
      clear f1 HA
      go_wp2_with ((with_reducible refine ld_geom rfl (.tmp 3) rfl w.heap.size ?_ P0.out ?_); · rfl)
      refine (HB.out _).mono ?_
      rintro e w2 ⟨rfl, f2⟩
      have HF := kf f2 HF
      have P0 := hid (P0.out.fr f2)
      clear f2 HB
      go_wp2_with ((with_reducible refine ld_geom rfl (.tmp 3) rfl w.heap.size ?_ P0.out ?_); · rfl)
      refine (HL.out _).mono ?_
      rintro e w3 ⟨rfl, f3⟩
      have S3 : w.heap.size + 1 ≤ w3.heap.size := by have h1 := P0.out; have h2 := Blk.lt (P0.out.fr f3); omega
      have HF := hid (((HF.out.trans f3).alloc (by_ a r q b d t x u)).alloc (bs_ (Z) (d)))
      have P0 := hid (show BG ((w3.alloc (by_ a r q b d t x u)).alloc (bs_ (Z) (d))) w.heap.size c s n l k from ((P0.out.fr f3 : Blk _ _ _ _).alloc _).alloc _)
      have P2 := hid (show BL ((w3.alloc (by_ a r q b d t x u)).alloc (bs_ (Z) (d))) w3.heap.size a r q b d t x u from (BL.new w3 a r q b d t x u : Blk _ _ _ _).alloc _)
      have P3 := hid (BS.new2 w3 (by_ a r q b d t x u) (Z) (d))
      clear f3 HL
      go_wp2_with ((with_reducible refine ld_geom rfl (.tmp 3) rfl w.heap.size ?_ P0.out ?_); · rfl)
      refine (HPJ.out _).mono ?_
      rintro e w4 ⟨rfl, f4⟩
      have HF := hid ((HF.out.trans f4).alloc (bs_ (Z) (d)))
      have P0 := hid (show BG (w4.alloc (bs_ (Z) (d))) w.heap.size c s n l k from (P0.out.fr f4 : Blk _ _ _ _).alloc _)
      have P2 := hid (show BL (w4.alloc (bs_ (Z) (d))) w3.heap.size a r q b d t x u from (P2.out.fr f4 : Blk _ _ _ _).alloc _)
      have P3 := hid (show BS (w4.alloc (bs_ (Z) (d))) (w3.heap.size + 1) (Z) (d) from (P3.out.fr f4 : Blk _ _ _ _).alloc _)
      have P4 := hid (BS.new w4 (Z) (d))
      clear f4 HPJ
      go_wp2_with fail
      refine (HV.out _).mono ?_
      rintro e w5 ⟨rfl, f5⟩
      have HF := kf f5 HF
      obtain ⟨c0, c1, c2, c3, c4⟩ := (P0.out.fr f5).cells
      obtain ⟨_, _, _, _, e4, _, _, _⟩ := (P2.out.fr f5).cells
      obtain ⟨g0, g1⟩ := (P3.out.fr f5).cells
      obtain ⟨h0, h1'⟩ := (P4.out.fr f5).cells
      have P2 := hid (P2.out.fr f5)
      clear f5 HV P3 P4 P0
      go_wp2_with fail
      go_ret
      exact ⟨rfl, HF.out⟩
    by_cases i1 : (lay ⟨c, s, n, l, k⟩).t ≤ i
    · skip
      have HPJ := hid (fun W => HP.out j hj W)
      rw [show bso ⟨c, s, n, l, k⟩ j = (j * (lay ⟨c, s, n, l, k⟩).d, (lay ⟨c, s, n, l, k⟩).d) by unfold bso; rw [if_pos ⟨hm, by omega, by omega⟩]] at HPJ
      rw [show bno ⟨c, s, n, l, k⟩ i = (-1, -1) by unfold bno; rw [if_neg (by omega)]] at HA HB
      obtain ⟨y, hy⟩ : ∃ y, lay ⟨c, s, n, l, k⟩ = y := ⟨_, rfl⟩
      try rw [hy] at HA
      try rw [hy] at HB
      try rw [hy] at HL
      try rw [hy] at HPJ
      try rw [hy] at HPA
      try rw [hy] at hg
      try rw [hy] at j1
      try rw [hy] at i1
      try rw [hy] at hia
      obtain ⟨a, r, q, b, d, t, x, u⟩ := y
      obtain ⟨hC, C0, C1, a0, a1, a2, a3, r0, q0, b0, b1, b2, d0, d1, d2, t0, t1, t2, x0, x1, u0, u1, u2, u3⟩ := hg
      dsimp only at hC C0 C1 a0 a1 a2 a3 r0 q0 b0 b1 b2 d0 d1 d2 t0 t1 t2 x0 x1 u0 u1 u2 u3
      try dsimp only at HA
      try dsimp only at HB
      try dsimp only at HL
      try dsimp only at HPJ
      try dsimp only at HPA
      try dsimp only at j1
      try dsimp only at i1
      try dsimp only at hia
      have hjb : 0 ≤ j ∧ j < b := ⟨by omega, by omega⟩
      obtain ⟨Z, hZ⟩ : ∃ Z, j * d = Z := ⟨_, rfl⟩
      have hp := Int.mul_le_mul (show j ≤ 126 by omega) d2 (by omega) (by omega)
      have hp0 := Int.mul_nonneg (show 0 ≤ j by omega) (show 0 ≤ d by omega)
      rw [hZ] at HPJ hp hp0
      have m1 : wrap64 (j * d) = Z := by rw [hZ]; exact w64 _ (by omega)
      clear hp hp0 hZ
      clear hC C0 C1 a0 a1 a2 a3 r0 q0 b0 d0 t0 t1 t2 x0 x1 u0 u1 u2 u3 hy hm HP
      go_enter Try.func5, Try.ntmps5
      go_wp2_with ((with_reducible refine ld_geom rfl (.tmp 3) rfl w.heap.size ?_ P0.out ?_); · rfl)
      refine (HA.out _).mono ?_
      rintro e w1 ⟨rfl, f1⟩
      have HF := kf f1 HF
      have P0 := hid (P0.out.fr f1)
      clear f1 HA
      go_wp2_with ((with_reducible refine ld_geom rfl (.tmp 3) rfl w.heap.size ?_ P0.out ?_); · rfl)
      refine (HB.out _).mono ?_
      rintro e w2 ⟨rfl, f2⟩
      have HF := kf f2 HF
      have P0 := hid (P0.out.fr f2)
      clear f2 HB
      go_wp2_with ((with_reducible refine ld_geom rfl (.tmp 3) rfl w.heap.size ?_ P0.out ?_); · rfl)
      refine (HL.out _).mono ?_
      rintro e w3 ⟨rfl, f3⟩
      have S3 : w.heap.size + 1 ≤ w3.heap.size := by have h1 := P0.out; have h2 := Blk.lt (P0.out.fr f3); omega
      have HF := hid (((HF.out.trans f3).alloc (by_ a r q b d t x u)).alloc (bs_ (Z) (d)))
      have P0 := hid (show BG ((w3.alloc (by_ a r q b d t x u)).alloc (bs_ (Z) (d))) w.heap.size c s n l k from ((P0.out.fr f3 : Blk _ _ _ _).alloc _).alloc _)
      have P2 := hid (show BL ((w3.alloc (by_ a r q b d t x u)).alloc (bs_ (Z) (d))) w3.heap.size a r q b d t x u from (BL.new w3 a r q b d t x u : Blk _ _ _ _).alloc _)
      have P3 := hid (BS.new2 w3 (by_ a r q b d t x u) (Z) (d))
      clear f3 HL
      go_wp2_with ((with_reducible refine ld_geom rfl (.tmp 3) rfl w.heap.size ?_ P0.out ?_); · rfl)
      refine (HPJ.out _).mono ?_
      rintro e w4 ⟨rfl, f4⟩
      have HF := hid ((HF.out.trans f4).alloc (bs_ (Z) (d)))
      have P0 := hid (show BG (w4.alloc (bs_ (Z) (d))) w.heap.size c s n l k from (P0.out.fr f4 : Blk _ _ _ _).alloc _)
      have P2 := hid (show BL (w4.alloc (bs_ (Z) (d))) w3.heap.size a r q b d t x u from (P2.out.fr f4 : Blk _ _ _ _).alloc _)
      have P3 := hid (show BS (w4.alloc (bs_ (Z) (d))) (w3.heap.size + 1) (Z) (d) from (P3.out.fr f4 : Blk _ _ _ _).alloc _)
      have P4 := hid (BS.new w4 (Z) (d))
      clear f4 HPJ
      go_wp2_with fail
      refine (HV.out _).mono ?_
      rintro e w5 ⟨rfl, f5⟩
      have HF := kf f5 HF
      obtain ⟨c0, c1, c2, c3, c4⟩ := (P0.out.fr f5).cells
      obtain ⟨_, _, _, _, e4, _, _, _⟩ := (P2.out.fr f5).cells
      obtain ⟨g0, g1⟩ := (P3.out.fr f5).cells
      obtain ⟨h0, h1'⟩ := (P4.out.fr f5).cells
      have P2 := hid (P2.out.fr f5)
      clear f5 HV P3 P4 P0
      go_wp2_with fail
      go_ret
      exact ⟨rfl, HF.out⟩
    have HPJ := hid (fun W => HP.out j hj W)
    rw [show bso ⟨c, s, n, l, k⟩ j = (j * (lay ⟨c, s, n, l, k⟩).d, (lay ⟨c, s, n, l, k⟩).d) by unfold bso; rw [if_pos ⟨hm, by omega, by omega⟩]] at HPJ
    rw [show bno ⟨c, s, n, l, k⟩ i = (i / (lay ⟨c, s, n, l, k⟩).d, i % (lay ⟨c, s, n, l, k⟩).d) by unfold bno; rw [if_pos ⟨hm, by omega, by omega⟩]] at HA HB
    have hia : 0 ≤ i / (lay ⟨c, s, n, l, k⟩).d ∧ i / (lay ⟨c, s, n, l, k⟩).d < (lay ⟨c, s, n, l, k⟩).b := ⟨Int.ediv_nonneg (by omega) (by have := hg.d1; omega), Int.ediv_lt_of_lt_mul (by have := hg.d1; omega) (by have := hg.t0; omega)⟩
    have HPA := hid (fun W => HP.out (i / (lay ⟨c, s, n, l, k⟩).d) (by have := hg.b2; omega) W)
    rw [show bso ⟨c, s, n, l, k⟩ (i / (lay ⟨c, s, n, l, k⟩).d) = (i / (lay ⟨c, s, n, l, k⟩).d * (lay ⟨c, s, n, l, k⟩).d, (lay ⟨c, s, n, l, k⟩).d) by unfold bso; rw [if_pos ⟨hm, by omega, by omega⟩]] at HPA
    obtain ⟨y, hy⟩ : ∃ y, lay ⟨c, s, n, l, k⟩ = y := ⟨_, rfl⟩
    try rw [hy] at HA
    try rw [hy] at HB
    try rw [hy] at HL
    try rw [hy] at HPJ
    try rw [hy] at HPA
    try rw [hy] at hg
    try rw [hy] at j1
    try rw [hy] at i1
    try rw [hy] at hia
    obtain ⟨a, r, q, b, d, t, x, u⟩ := y
    obtain ⟨hC, C0, C1, a0, a1, a2, a3, r0, q0, b0, b1, b2, d0, d1, d2, t0, t1, t2, x0, x1, u0, u1, u2, u3⟩ := hg
    dsimp only at hC C0 C1 a0 a1 a2 a3 r0 q0 b0 b1 b2 d0 d1 d2 t0 t1 t2 x0 x1 u0 u1 u2 u3
    try dsimp only at HA
    try dsimp only at HB
    try dsimp only at HL
    try dsimp only at HPJ
    try dsimp only at HPA
    try dsimp only at j1
    try dsimp only at i1
    try dsimp only at hia
    have hjb : 0 ≤ j ∧ j < b := ⟨by omega, by omega⟩
    obtain ⟨Z, hZ⟩ : ∃ Z, j * d = Z := ⟨_, rfl⟩
    have hp := Int.mul_le_mul (show j ≤ 126 by omega) d2 (by omega) (by omega)
    have hp0 := Int.mul_nonneg (show 0 ≤ j by omega) (show 0 ≤ d by omega)
    rw [hZ] at HPJ hp hp0
    have m1 : wrap64 (j * d) = Z := by rw [hZ]; exact w64 _ (by omega)
    clear hp hp0 hZ
    have hid1 := Int.emod_nonneg i (show d ≠ 0 by omega)
    have hid2 := Int.emod_lt_of_pos i (show 0 < d by omega)
    have hid3 := Int.ediv_mul_add_emod i d
    obtain ⟨QA, hQA⟩ : ∃ QA, i / d = QA := ⟨_, rfl⟩
    obtain ⟨RA, hRA⟩ : ∃ RA, i % d = RA := ⟨_, rfl⟩
    rw [hQA] at HA HB HPA hia hid3
    rw [hRA] at HA HB hid1 hid2 hid3
    have hq0 : ¬ QA < 0 := by omega
    have m2 : wrap64 (i - RA) = QA * d := by rw [show i - RA = QA * d by omega]; exact w64 _ (by omega)
    have m3 : (QA * d == i - RA) = true := by simp; omega
    have m4 : QA * d = i - RA := by omega
    clear hQA hRA hid3
    clear hC C0 C1 a0 a1 a2 a3 r0 q0 b0 d0 t0 t1 t2 x0 x1 u0 u1 u2 u3 hy hm HP
    go_enter Try.func5, Try.ntmps5
    go_wp2_with ((with_reducible refine ld_geom rfl (.tmp 3) rfl w.heap.size ?_ P0.out ?_); · rfl)
    refine (HA.out _).mono ?_
    rintro e w1 ⟨rfl, f1⟩
    have HF := kf f1 HF
    have P0 := hid (P0.out.fr f1)
    clear f1 HA
    go_wp2_with ((with_reducible refine ld_geom rfl (.tmp 3) rfl w.heap.size ?_ P0.out ?_); · rfl)
    refine (HB.out _).mono ?_
    rintro e w2 ⟨rfl, f2⟩
    have HF := kf f2 HF
    have P0 := hid (P0.out.fr f2)
    clear f2 HB
    go_wp2_with ((with_reducible refine ld_geom rfl (.tmp 3) rfl w.heap.size ?_ P0.out ?_); · rfl)
    refine (HL.out _).mono ?_
    rintro e w3 ⟨rfl, f3⟩
    have S3 : w.heap.size + 1 ≤ w3.heap.size := by have h1 := P0.out; have h2 := Blk.lt (P0.out.fr f3); omega
    have HF := hid (((HF.out.trans f3).alloc (by_ a r q b d t x u)).alloc (bs_ (Z) (d)))
    have P0 := hid (show BG ((w3.alloc (by_ a r q b d t x u)).alloc (bs_ (Z) (d))) w.heap.size c s n l k from ((P0.out.fr f3 : Blk _ _ _ _).alloc _).alloc _)
    have P2 := hid (show BL ((w3.alloc (by_ a r q b d t x u)).alloc (bs_ (Z) (d))) w3.heap.size a r q b d t x u from (BL.new w3 a r q b d t x u : Blk _ _ _ _).alloc _)
    have P3 := hid (BS.new2 w3 (by_ a r q b d t x u) (Z) (d))
    clear f3 HL
    go_wp2_with ((with_reducible refine ld_geom rfl (.tmp 3) rfl w.heap.size ?_ P0.out ?_); · rfl)
    refine (HPJ.out _).mono ?_
    rintro e w4 ⟨rfl, f4⟩
    have HF := hid ((HF.out.trans f4).alloc (bs_ (Z) (d)))
    have P0 := hid (show BG (w4.alloc (bs_ (Z) (d))) w.heap.size c s n l k from (P0.out.fr f4 : Blk _ _ _ _).alloc _)
    have P2 := hid (show BL (w4.alloc (bs_ (Z) (d))) w3.heap.size a r q b d t x u from (P2.out.fr f4 : Blk _ _ _ _).alloc _)
    have P3 := hid (show BS (w4.alloc (bs_ (Z) (d))) (w3.heap.size + 1) (Z) (d) from (P3.out.fr f4 : Blk _ _ _ _).alloc _)
    have P4 := hid (BS.new w4 (Z) (d))
    clear f4 HPJ
    go_wp2_with fail
    refine (HV.out _).mono ?_
    rintro e w5 ⟨rfl, f5⟩
    have HF := kf f5 HF
    obtain ⟨c0, c1, c2, c3, c4⟩ := (P0.out.fr f5).cells
    obtain ⟨_, _, _, _, e4, _, _, _⟩ := (P2.out.fr f5).cells
    obtain ⟨g0, g1⟩ := (P3.out.fr f5).cells
    obtain ⟨h0, h1'⟩ := (P4.out.fr f5).cells
    have P2 := hid (P2.out.fr f5)
    clear f5 HV P3 P4 P0
    go_wp2_with fail
    have hfd : ∀ (A D : Int) (w : World), (Instr.field 38 (.agg #[.int .i64 A, .int .i64 D]) 0).run Try.prog w = .ok (.int .i64 A) w := fun _ _ _ => by kernel_rfl
    refine (HPA.out _).mono ?_
    rintro e w6 ⟨rfl, f6⟩
    have HF := kf f6 HF
    obtain ⟨_, _, _, _, e4, _, _, _⟩ := (P2.out.fr f6).cells
    clear f6
    go_wp2_with fail
    go_ret
    exact ⟨rfl, HF.out⟩
  · rw [show rlo ⟨c, s, n, l, k⟩ = (z8, false) by unfold rlo; rw [if_neg hm]] at HL
    rw [show bno ⟨c, s, n, l, k⟩ i = (-1, -1) by unfold bno; rw [if_neg (fun h => hm h.1)]] at HA HB
    have HPJ := hid (fun W => HP.out j hj W)
    rw [show bso ⟨c, s, n, l, k⟩ j = (0, 0) by unfold bso; rw [if_neg (fun h => hm h.1)]] at HPJ
    unfold z8 at HL
    dsimp only at HL HA HB HPJ
    clear hm HP
    go_enter Try.func5, Try.ntmps5
    go_wp2_with ((with_reducible refine ld_geom rfl (.tmp 3) rfl w.heap.size ?_ P0.out ?_); · rfl)
    refine (HA.out _).mono ?_
    rintro e w1 ⟨rfl, f1⟩
    have HF := kf f1 HF
    have P0 := hid (P0.out.fr f1)
    clear f1 HA
    go_wp2_with ((with_reducible refine ld_geom rfl (.tmp 3) rfl w.heap.size ?_ P0.out ?_); · rfl)
    refine (HB.out _).mono ?_
    rintro e w2 ⟨rfl, f2⟩
    have HF := kf f2 HF
    have P0 := hid (P0.out.fr f2)
    clear f2 HB
    go_wp2_with ((with_reducible refine ld_geom rfl (.tmp 3) rfl w.heap.size ?_ P0.out ?_); · rfl)
    refine (HL.out _).mono ?_
    rintro e w3 ⟨rfl, f3⟩
    have S3 : w.heap.size + 1 ≤ w3.heap.size := by have h1 := P0.out; have h2 := Blk.lt (P0.out.fr f3); omega
    have HF := hid (((HF.out.trans f3).alloc (by_ 0 0 0 0 0 0 0 0)).alloc (bs_ (0) (0)))
    have P0 := hid (show BG ((w3.alloc (by_ 0 0 0 0 0 0 0 0)).alloc (bs_ (0) (0))) w.heap.size c s n l k from ((P0.out.fr f3 : Blk _ _ _ _).alloc _).alloc _)
    have P2 := hid (show BL ((w3.alloc (by_ 0 0 0 0 0 0 0 0)).alloc (bs_ (0) (0))) w3.heap.size 0 0 0 0 0 0 0 0 from (BL.new w3 0 0 0 0 0 0 0 0 : Blk _ _ _ _).alloc _)
    have P3 := hid (BS.new2 w3 (by_ 0 0 0 0 0 0 0 0) (0) (0))
    clear f3 HL
    go_wp2_with ((with_reducible refine ld_geom rfl (.tmp 3) rfl w.heap.size ?_ P0.out ?_); · rfl)
    refine (HPJ.out _).mono ?_
    rintro e w4 ⟨rfl, f4⟩
    have HF := hid ((HF.out.trans f4).alloc (bs_ (0) (0)))
    have P0 := hid (show BG (w4.alloc (bs_ (0) (0))) w.heap.size c s n l k from (P0.out.fr f4 : Blk _ _ _ _).alloc _)
    have P2 := hid (show BL (w4.alloc (bs_ (0) (0))) w3.heap.size 0 0 0 0 0 0 0 0 from (P2.out.fr f4 : Blk _ _ _ _).alloc _)
    have P3 := hid (show BS (w4.alloc (bs_ (0) (0))) (w3.heap.size + 1) (0) (0) from (P3.out.fr f4 : Blk _ _ _ _).alloc _)
    have P4 := hid (BS.new w4 (0) (0))
    clear f4 HPJ
    go_wp2_with fail
    refine (HV.out _).mono ?_
    rintro e w5 ⟨rfl, f5⟩
    have HF := kf f5 HF
    obtain ⟨c0, c1, c2, c3, c4⟩ := (P0.out.fr f5).cells
    obtain ⟨_, _, _, _, e4, _, _, _⟩ := (P2.out.fr f5).cells
    obtain ⟨g0, g1⟩ := (P3.out.fr f5).cells
    obtain ⟨h0, h1'⟩ := (P4.out.fr f5).cells
    have P2 := hid (P2.out.fr f5)
    clear f5 HV P3 P4 P0
    go_wp2_with fail
    go_ret
    exact ⟨rfl, HF.out⟩
end Go.Proofs.Ytmjdnficmiglaaa.GeBands
