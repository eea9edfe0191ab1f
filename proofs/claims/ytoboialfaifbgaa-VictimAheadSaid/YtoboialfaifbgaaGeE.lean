/- Contracts: what follows from a geometry, by the document. Condition: all numbers are 64 bits. -/
import Derived.Test.YtoboialfaifbgaaGeD
namespace Go.Proofs.Ytoboialfaifbgaa.GeE
open Go.RowKit MSep MGeM GeA GeB GeC GeD

theorem bh_new (w : World) (c s n l : Int) : BH (w.alloc (bh c s n l)) w.heap.size c s n l := Blk.new w _ _
theorem bh_cells {w : World} {g : Nat} {c s n l : Int} (h : BH w g c s n l) : w.cell? ⟨g, 0, none⟩ = some (.int .i64 c) ∧ w.cell? ⟨g, 1, none⟩ = some (.int .i64 s) ∧ w.cell? ⟨g, 2, none⟩ = some (.int .i64 n) ∧ w.cell? ⟨g, 3, none⟩ = some (.int .i64 l) := ⟨Blk.cell h 0, Blk.cell h 1, Blk.cell h 2, Blk.cell h 3⟩
set_option maxRecDepth 100000 in
set_option maxHeartbeats 2000000 in
theorem rshape_ok (c s n l : Int) (w : World) : Calls Try.prog 47 #[.agg #[.int .i64 c, .int .i64 s, .int .i64 n, .int .i64 l]] w fun e w' => e = .returned (.bool (decide (shpB c s n l))) ∧ Fr No w w' := by
  have HF := hid (fr1 w (bh c s n l))
  obtain ⟨c0, c1, c2, c3⟩ := bh_cells (bh_new w c s n l)
  by_cases h0 : 1 ≤ c
  rotate_left
  · rw [decide_eq_false (show ¬ shpB c s n l by unfold shpB; omega)]
    go_enter Try.func47, Try.ntmps47
    go_wp2
    go_ret
    exact ⟨by first | rfl | exact retb (by simp; omega), HF.out⟩
  by_cases h1 : c ≤ 16
  rotate_left
  · rw [decide_eq_false (show ¬ shpB c s n l by unfold shpB; omega)]
    go_enter Try.func47, Try.ntmps47
    go_wp2
    go_ret
    exact ⟨by first | rfl | exact retb (by simp; omega), HF.out⟩
  by_cases h2 : 1 ≤ s
  rotate_left
  · rw [decide_eq_false (show ¬ shpB c s n l by unfold shpB; omega)]
    go_enter Try.func47, Try.ntmps47
    go_wp2
    go_ret
    exact ⟨by first | rfl | exact retb (by simp; omega), HF.out⟩
  by_cases h3 : s ≤ 128
  rotate_left
  · rw [decide_eq_false (show ¬ shpB c s n l by unfold shpB; omega)]
    go_enter Try.func47, Try.ntmps47
    go_wp2
    go_ret
    exact ⟨by first | rfl | exact retb (by simp; omega), HF.out⟩
  by_cases h4 : 4 ≤ n
  rotate_left
  · rw [decide_eq_false (show ¬ shpB c s n l by unfold shpB; omega)]
    go_enter Try.func47, Try.ntmps47
    go_wp2
    go_ret
    exact ⟨by first | rfl | exact retb (by simp; omega), HF.out⟩
  by_cases h5 : n ≤ 1024
  rotate_left
  · rw [decide_eq_false (show ¬ shpB c s n l by unfold shpB; omega)]
    go_enter Try.func47, Try.ntmps47
    go_wp2
    go_ret
    exact ⟨by first | rfl | exact retb (by simp; omega), HF.out⟩
  by_cases h6 : 1 ≤ l
  rotate_left
  · rw [decide_eq_false (show ¬ shpB c s n l by unfold shpB; omega)]
    go_enter Try.func47, Try.ntmps47
    go_wp2
    go_ret
    exact ⟨by first | rfl | exact retb (by simp; omega), HF.out⟩
  by_cases h7 : l ≤ s
  · rw [decide_eq_true (show shpB c s n l by unfold shpB; omega)]
    go_enter Try.func47, Try.ntmps47
    go_wp2
    go_ret
    exact ⟨by first | rfl | exact retb (by simp; omega), HF.out⟩
  · rw [decide_eq_false (show ¬ shpB c s n l by unfold shpB; omega)]
    go_enter Try.func47, Try.ntmps47
    go_wp2
    go_ret
    exact ⟨by first | rfl | exact retb (by simp; omega), HF.out⟩
/-- What the document's Layout answers. -/
def rlo (g : Ge) : Ly × Bool := if mayG g then (lay g, true) else (z8, false)
theorem resLb {fn : Func} {p q' : Tmp} (h : fn.results = #[.cell p 50, .tmp q']) (tmps : Array Value) (w : World) (g : Nat) (a r q b d t x u : Int) (e : Bool) (hp : tmps.getD p undef = .pointer (some ⟨g, 0, none⟩)) (hq : tmps.getD q' undef = .bool e) (hg : BL w g a r q b d t x u) :
    (results fn tmps).run Try.prog w = .ok (.tuple #[.agg #[.int .i64 a, .int .i64 r, .int .i64 q, .int .i64 b, .int .i64 d, .int .i64 t, .int .i64 x, .int .i64 u], .bool e]) w := by
  have hp' : tmps[p]?.getD undef = .pointer (some ⟨g, 0, none⟩) := by simpa using hp
  have hq' : tmps[q']?.getD undef = .bool e := by simpa using hq
  have hl := run_loadVar_row (P := Try.prog) w g 50 50 _ (0, 0) _ hg Try.underlying50 rfl (by kernel_rfl)
  simp [results, h, hp', hq', asAddr, hl]
set_option maxRecDepth 100000 in
set_option maxHeartbeats 2000000 in
theorem rlayout_out (c s n l k : Int) (w : World) (hs : -9223372036854775808 ≤ s ∧ s ≤ 9223372036854775807) (hB : ¬ inB ⟨c, s, n, l, k⟩) : Calls Try.prog 22 #[.agg #[.int .i64 c, .int .i64 s, .int .i64 n, .int .i64 l, .int .i64 k]] w fun e w' => e = .returned (.tuple #[yv (rlo ⟨c, s, n, l, k⟩).1, .bool (rlo ⟨c, s, n, l, k⟩).2]) ∧ Fr No w w' := by
  have HF := hid ((fr1 w (bg c s n l k)).alloc zy)
  have P0 := hid (BG2 w c s n l k zy)
  have P1 := hid (BL.new2 w (bg c s n l k) 0 0 0 0 0 0 0 0)
  have HS := hid (fun W => rshape_ok c s n l W)
  rw [show rlo ⟨c, s, n, l, k⟩ = (z8, false) by unfold rlo; rw [if_neg (fun h => hB h.1)]]
  unfold inB at hB
  dsimp only at hB
  by_cases hS : shpB c s n l
  · rw [decide_eq_true hS] at HS
    unfold shpB at hS
    by_cases g0 : c < 2
    · clear hB
      go_enter Try.func22, Try.ntmps22
      go_wp2_with fail
      refine (HS.out _).mono ?_
      rintro e w1 ⟨rfl, f1⟩
      have S1 : w.heap.size + 2 ≤ w1.heap.size := by have := f1.size; simp at this; omega
      have HF := kf f1 HF
      have P0 := hid (P0.out.fr f1)
      have P1 := hid (P1.out.fr f1)
      clear f1 HS
      obtain ⟨c0, c1, c2, c3, c4⟩ := P0.out.cells
      go_wp2_with ((with_reducible refine st_lay rfl (.tmp 2) (.tmp 51) rfl (w.heap.size + 1) ?_ (a' := 0) (r' := 0) (q' := 0) (b' := 0) (d' := 0) (t' := 0) (x' := 0) (u' := 0) ?_ P1.out ?_); (· rfl); (· rfl); intro W' hb hf; have HB := hid hb; have HF := kfg (by omega) HF hf; clear hb hf)
      exact bodyPost_ret (v := .tuple #[yv z8, .bool false]) (resLb rfl _ _ (w.heap.size + 1) 0 0 0 0 0 0 0 0 false rfl rfl HB.out) rfl ⟨rfl, HF.out⟩
    by_cases g1 : s < 4
    · clear hB
      go_enter Try.func22, Try.ntmps22
      go_wp2_with fail
      refine (HS.out _).mono ?_
      rintro e w1 ⟨rfl, f1⟩
      have S1 : w.heap.size + 2 ≤ w1.heap.size := by have := f1.size; simp at this; omega
      have HF := kf f1 HF
      have P0 := hid (P0.out.fr f1)
      have P1 := hid (P1.out.fr f1)
      clear f1 HS
      obtain ⟨c0, c1, c2, c3, c4⟩ := P0.out.cells
      go_wp2_with ((with_reducible refine st_lay rfl (.tmp 2) (.tmp 51) rfl (w.heap.size + 1) ?_ (a' := 0) (r' := 0) (q' := 0) (b' := 0) (d' := 0) (t' := 0) (x' := 0) (u' := 0) ?_ P1.out ?_); (· rfl); (· rfl); intro W' hb hf; have HB := hid hb; have HF := kfg (by omega) HF hf; clear hb hf)
      exact bodyPost_ret (v := .tuple #[yv z8, .bool false]) (resLb rfl _ _ (w.heap.size + 1) 0 0 0 0 0 0 0 0 false rfl rfl HB.out) rfl ⟨rfl, HF.out⟩
    by_cases g2 : n < 8
    · clear hB
      go_enter Try.func22, Try.ntmps22
      go_wp2_with fail
      refine (HS.out _).mono ?_
      rintro e w1 ⟨rfl, f1⟩
      have S1 : w.heap.size + 2 ≤ w1.heap.size := by have := f1.size; simp at this; omega
      have HF := kf f1 HF
      have P0 := hid (P0.out.fr f1)
      have P1 := hid (P1.out.fr f1)
      clear f1 HS
      obtain ⟨c0, c1, c2, c3, c4⟩ := P0.out.cells
      go_wp2_with ((with_reducible refine st_lay rfl (.tmp 2) (.tmp 51) rfl (w.heap.size + 1) ?_ (a' := 0) (r' := 0) (q' := 0) (b' := 0) (d' := 0) (t' := 0) (x' := 0) (u' := 0) ?_ P1.out ?_); (· rfl); (· rfl); intro W' hb hf; have HB := hid hb; have HF := kfg (by omega) HF hf; clear hb hf)
      exact bodyPost_ret (v := .tuple #[yv z8, .bool false]) (resLb rfl _ _ (w.heap.size + 1) 0 0 0 0 0 0 0 0 false rfl rfl HB.out) rfl ⟨rfl, HF.out⟩
    by_cases g3 : l < 2
    · clear hB
      go_enter Try.func22, Try.ntmps22
      go_wp2_with fail
      refine (HS.out _).mono ?_
      rintro e w1 ⟨rfl, f1⟩
      have S1 : w.heap.size + 2 ≤ w1.heap.size := by have := f1.size; simp at this; omega
      have HF := kf f1 HF
      have P0 := hid (P0.out.fr f1)
      have P1 := hid (P1.out.fr f1)
      clear f1 HS
      obtain ⟨c0, c1, c2, c3, c4⟩ := P0.out.cells
      go_wp2_with ((with_reducible refine st_lay rfl (.tmp 2) (.tmp 51) rfl (w.heap.size + 1) ?_ (a' := 0) (r' := 0) (q' := 0) (b' := 0) (d' := 0) (t' := 0) (x' := 0) (u' := 0) ?_ P1.out ?_); (· rfl); (· rfl); intro W' hb hf; have HB := hid hb; have HF := kfg (by omega) HF hf; clear hb hf)
      exact bodyPost_ret (v := .tuple #[yv z8, .bool false]) (resLb rfl _ _ (w.heap.size + 1) 0 0 0 0 0 0 0 0 false rfl rfl HB.out) rfl ⟨rfl, HF.out⟩
    by_cases g4 : k < 1
    · clear hB
      go_enter Try.func22, Try.ntmps22
      go_wp2_with fail
      refine (HS.out _).mono ?_
      rintro e w1 ⟨rfl, f1⟩
      have S1 : w.heap.size + 2 ≤ w1.heap.size := by have := f1.size; simp at this; omega
      have HF := kf f1 HF
      have P0 := hid (P0.out.fr f1)
      have P1 := hid (P1.out.fr f1)
      clear f1 HS
      obtain ⟨c0, c1, c2, c3, c4⟩ := P0.out.cells
      go_wp2_with ((with_reducible refine st_lay rfl (.tmp 2) (.tmp 51) rfl (w.heap.size + 1) ?_ (a' := 0) (r' := 0) (q' := 0) (b' := 0) (d' := 0) (t' := 0) (x' := 0) (u' := 0) ?_ P1.out ?_); (· rfl); (· rfl); intro W' hb hf; have HB := hid hb; have HF := kfg (by omega) HF hf; clear hb hf)
      exact bodyPost_ret (v := .tuple #[yv z8, .bool false]) (resLb rfl _ _ (w.heap.size + 1) 0 0 0 0 0 0 0 0 false rfl rfl HB.out) rfl ⟨rfl, HF.out⟩
    have g5 : s - 2 < k := by omega
    clear hB
    go_enter Try.func22, Try.ntmps22
    go_wp2_with fail
    refine (HS.out _).mono ?_
    rintro e w1 ⟨rfl, f1⟩
    have S1 : w.heap.size + 2 ≤ w1.heap.size := by have := f1.size; simp at this; omega
    have HF := kf f1 HF
    have P0 := hid (P0.out.fr f1)
    have P1 := hid (P1.out.fr f1)
    clear f1 HS
    obtain ⟨c0, c1, c2, c3, c4⟩ := P0.out.cells
    go_wp2_with ((with_reducible refine st_lay rfl (.tmp 2) (.tmp 51) rfl (w.heap.size + 1) ?_ (a' := 0) (r' := 0) (q' := 0) (b' := 0) (d' := 0) (t' := 0) (x' := 0) (u' := 0) ?_ P1.out ?_); (· rfl); (· rfl); intro W' hb hf; have HB := hid hb; have HF := kfg (by omega) HF hf; clear hb hf)
    exact bodyPost_ret (v := .tuple #[yv z8, .bool false]) (resLb rfl _ _ (w.heap.size + 1) 0 0 0 0 0 0 0 0 false rfl rfl HB.out) rfl ⟨rfl, HF.out⟩
  · rw [decide_eq_false hS] at HS
    clear hB hS
    go_enter Try.func22, Try.ntmps22
    go_wp2_with fail
    refine (HS.out _).mono ?_
    rintro e w1 ⟨rfl, f1⟩
    have S1 : w.heap.size + 2 ≤ w1.heap.size := by have := f1.size; simp at this; omega
    have HF := kf f1 HF
    have P0 := hid (P0.out.fr f1)
    have P1 := hid (P1.out.fr f1)
    clear f1 HS
    obtain ⟨c0, c1, c2, c3, c4⟩ := P0.out.cells
    go_wp2_with ((with_reducible refine st_lay rfl (.tmp 2) (.tmp 51) rfl (w.heap.size + 1) ?_ (a' := 0) (r' := 0) (q' := 0) (b' := 0) (d' := 0) (t' := 0) (x' := 0) (u' := 0) ?_ P1.out ?_); (· rfl); (· rfl); intro W' hb hf; have HB := hid hb; have HF := kfg (by omega) HF hf; clear hb hf)
    exact bodyPost_ret (v := .tuple #[yv z8, .bool false]) (resLb rfl _ _ (w.heap.size + 1) 0 0 0 0 0 0 0 0 false rfl rfl HB.out) rfl ⟨rfl, HF.out⟩
end Go.Proofs.Ytoboialfaifbgaa.GeE
