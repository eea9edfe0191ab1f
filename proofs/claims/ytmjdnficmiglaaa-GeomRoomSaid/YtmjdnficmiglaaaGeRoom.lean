/- The law of the room of a geometry, walked. Condition: all numbers are 64 bits. -/
import Derived.Test.YtmjdnficmiglaaaGeL
namespace Go.Proofs.Ytmjdnficmiglaaa.GeRoom
open Go.RowKit MSep MSepC MGeM GeA GeB GeC GeD GeE GeEk GeF MGeG SqU GeH GeL

set_option maxRecDepth 100000 in
set_option maxHeartbeats 4000000 in
theorem law_ok (c s n l k : Int) (w : World) (hs : -9223372036854775808 ≤ s ∧ s ≤ 9223372036854775807) : Calls Try.prog 8 #[.agg #[.int .i64 c, .int .i64 s, .int .i64 n, .int .i64 l, .int .i64 k]] w fun e w' => e = .returned (.bool true) ∧ Fr No w w' := by
  have HL := hid (fun W => layout_ok c s n l k W hs)
  have HV := hid lives_ok
  have HF := hid (fr1 w (bg c s n l k))
  have P0 := hid (BG.new w c s n l k)
  by_cases hm : mayG ⟨c, s, n, l, k⟩
  · have hg := good hm.1
    rw [show lyo ⟨c, s, n, l, k⟩ = (lay ⟨c, s, n, l, k⟩, 0) by unfold lyo; rw [if_pos hm]] at HL
    have hq8 := hm.2.1
    have hx8 := hm.2.2
    obtain ⟨y, hy⟩ : ∃ y, lay ⟨c, s, n, l, k⟩ = y := ⟨_, rfl⟩
    rw [hy] at HL hg hq8 hx8
    obtain ⟨a, r, q, b, d, t, x, u⟩ := y
    obtain ⟨hC, C0, C1, a0, a1, a2, a3, r0, q0, b0, b1, b2, d0, d1, d2, t0, t1, t2, x0, x1, u0, u1, u2, u3⟩ := hg
    dsimp only at hC C0 C1 a0 a1 a2 a3 r0 q0 b0 b1 b2 d0 d1 d2 t0 t1 t2 x0 x1 u0 u1 u2 u3 HL
    dsimp only at hq8 hx8
    obtain ⟨⟨B1, B2⟩, ⟨B3, B4⟩, ⟨B5, B6⟩, ⟨B7, B8⟩, B9, B10⟩ := hm.1
    dsimp only at B1 B2 B3 B4 B5 B6 B7 B8 B9 B10
    have k1 : wrap64 (b + k + 1) = s := by rw [show b + k + 1 = s by omega]; exact w64 _ (by omega)
    have k2 : wrap64 (b + k) = b + k := w64 _ (by omega)
    have k3 : wrap64 (b * d) = t := by rw [← t0]; exact w64 _ (by omega)
    have k4 : wrap64 (u + 1) = u + 1 := w64 _ (by omega)
    have k5 : u + 1 ≤ d := by omega
    have k6 : 1 ≤ u := by omega
    have k7 : (t == t) = true := by simp
    have k8 : (b + k + 1 == s) = true := by simp; omega
    clear hC C0 C1 a0 a1 a2 a3 r0 q0 b0 b2 d0 d1 d2 t0 t1 t2 x0 x1 u0 u1 u2 u3 hy hm B1 B2 B3 B4 B5 B6 B7 B8 B9 B10
    go_enter Try.func8, Try.ntmps8
    go_wp2_with ((with_reducible refine ld_geom rfl (.tmp 1) rfl w.heap.size ?_ P0.out ?_); · rfl)
    refine (HL.out _).mono ?_
    rintro e w1 ⟨rfl, f1⟩
    have HF := hid ((HF.out.trans f1).alloc (by_ a r q b d t x u))
    have P0 := hid (show BG (w1.alloc (by_ a r q b d t x u)) w.heap.size c s n l k from (P0.out.fr f1 : Blk _ _ _ _).alloc _)
    have P2 := hid (BL.new w1 a r q b d t x u)
    clear f1 HL
    go_wp2_with fail
    refine (HV.out _).mono ?_
    rintro e w2 ⟨rfl, f2⟩
    have HF := kf f2 HF
    obtain ⟨c0, c1, c2, c3, c4⟩ := (P0.out.fr f2).cells
    obtain ⟨e0, e1, e2, e3, e4, e5, e6, e7⟩ := (P2.out.fr f2).cells
    clear f2 HV P0 P2
    go_wp2
    go_ret
    exact ⟨rfl, HF.out⟩
  · rw [show lyo ⟨c, s, n, l, k⟩ = (z8, 70) by unfold lyo; rw [if_neg hm]] at HL
    unfold z8 at HL
    dsimp only at HL
    clear hm
    go_enter Try.func8, Try.ntmps8
    go_wp2_with ((with_reducible refine ld_geom rfl (.tmp 1) rfl w.heap.size ?_ P0.out ?_); · rfl)
    refine (HL.out _).mono ?_
    rintro e w1 ⟨rfl, f1⟩
    have HF := hid ((HF.out.trans f1).alloc (by_ 0 0 0 0 0 0 0 0))
    have P0 := hid (show BG (w1.alloc (by_ 0 0 0 0 0 0 0 0)) w.heap.size c s n l k from (P0.out.fr f1 : Blk _ _ _ _).alloc _)
    have P2 := hid (BL.new w1 0 0 0 0 0 0 0 0)
    clear f1 HL
    go_wp2_with fail
    refine (HV.out _).mono ?_
    rintro e w2 ⟨rfl, f2⟩
    have HF := kf f2 HF
    obtain ⟨c0, c1, c2, c3, c4⟩ := (P0.out.fr f2).cells
    obtain ⟨e0, e1, e2, e3, e4, e5, e6, e7⟩ := (P2.out.fr f2).cells
    clear f2 HV P0 P2
    go_wp2
    go_ret
    exact ⟨rfl, HF.out⟩
end Go.Proofs.Ytmjdnficmiglaaa.GeRoom
