/- Contracts: the idle job, Holds, whether bands rise, without, the document's next. Condition: lists that read as lists. -/
import Derived.Test.YtgjcpepfggkieaaClE
namespace Go.Proofs.Ytgjcpepfggkieaa.ClB
open Go.RowKit MSep MGeM GeA GeC GeD PlA PlB ClM ClA ClE

set_option maxRecDepth 100000 in
set_option maxHeartbeats 2000000 in
theorem idle_ok (w : World) : Calls Try.prog 41 #[] w fun e w' => e = .returned (.agg #[.int .i64 0, .int .i64 255, .slice none 0 0, .int .i64 255, .int .i64 0]) ∧ Fr No w w' := by
  go_enter Try.func41, Try.ntmps41
  go_wp2
  exact bodyPost_ret (v := .agg #[.int .i64 0, .int .i64 255, .slice none 0 0, .int .i64 255, .int .i64 0]) (resJ rfl _ _ w.heap.size 0 255 none 0 0 255 0 rfl (BJ.at_ 0 255 none 0 0 255 0 rfl)) rfl ⟨rfl, fr1 _ _⟩
set_option maxRecDepth 100000 in
set_option maxHeartbeats 2000000 in
theorem ridle_ok (w : World) : Calls Try.prog 72 #[] w fun e w' => e = .returned (.agg #[.int .i64 0, .int .i64 255, .slice none 0 0, .int .i64 255, .int .i64 0]) ∧ Fr No w w' := by
  go_enter Try.func72, Try.ntmps72
  go_wp2
  exact bodyPost_ret (v := .agg #[.int .i64 0, .int .i64 255, .slice none 0 0, .int .i64 255, .int .i64 0]) (resJ rfl _ _ w.heap.size 0 255 none 0 0 255 0 rfl (BJ.at_ 0 255 none 0 0 255 0 rfl)) rfl ⟨rfl, fr1 _ _⟩
set_option maxRecDepth 100000 in
set_option maxHeartbeats 2000000 in
theorem chunk_ok (n : Int) (w : World) : Calls Try.prog 36 #[.int .i64 n] w fun e w' => e = .returned (.bool (chB n)) ∧ w = w' := by
  obtain ⟨R, hR⟩ : ∃ R, chB n = R := ⟨_, rfl⟩
  rw [hR]
  have HR := hid hR
  clear hR
  go_enter Try.func36, Try.ntmps36
  go_wp2
  all_goals
    go_ret
    exact ⟨retb (by rw [← HR.out]; unfold chB; simp <;> omega), rfl⟩
set_option maxRecDepth 100000 in
set_option maxHeartbeats 2000000 in
theorem holds_ok (st z : Int) (A : Option Addr) (l c : Nat) (sp nx : Int) (_bs : List Int) (w : World) : Calls Try.prog 33 #[.agg #[.int .i64 st, .int .i64 z, .slice A l c, .int .i64 sp, .int .i64 nx]] w fun e w' => e = .returned (.tuple #[.int .i64 sp, .bool (sp != 255)]) ∧ Fr No w w' := by
  go_enter Try.func33, Try.ntmps33
  go_wp2
  go_quiet (fail)
  go_wp2
  go_ret2
  exact ⟨rfl, (fr1 _ _).drewN _⟩
set_option maxRecDepth 100000 in
set_option maxHeartbeats 2000000 in
theorem areBands_ok (ya yr yq yb yd yt yx yu : Int) (A : Option Addr) (l c : Nat) (bs : List Int) (w : World) (hb : yb ≤ 1000000) (hi : InI w A l c bs) :
    Calls Try.prog 67 #[.agg #[.int .i64 ya, .int .i64 yr, .int .i64 yq, .int .i64 yb, .int .i64 yd, .int .i64 yt, .int .i64 yx, .int .i64 yu], .slice A l c] w fun e w' => e = .returned (.bool (rises yb 0 bs)) ∧ Fr No w w' := by
  have hlm := hi.lm
  unfold maxLen at hlm
  obtain ⟨R, hR⟩ : ∃ R, rises yb 0 bs = R := ⟨_, rfl⟩
  rw [hR]
  have HR := hid hR
  have HI := hid (hi.fr (fr1 w (by_ ya yr yq yb yd yt yx yu)))
  have HF := hid (fr1 w (by_ ya yr yq yb yd yt yx yu))
  clear hR hi
  go_enter Try.func67, Try.ntmps67
  go_wp2
  go_loop [5, 10] (fun u i => ∃ k : Nat, k ≤ l ∧ i = .int .i64 k ∧ ∃ lo : Int, u = .int .i64 lo ∧ Hid (least 0 (bs.take k) = lo) ∧ Hid (0 ≤ lo) ∧ Hid (rises yb 0 (bs.take k) = true)) (fun _ i => l - (intOf i).toNat)
  case atStart => exact ⟨0, by omega, rfl, 0, rfl, hid rfl, hid (Int.le_refl 0), hid rfl⟩
  case round =>
    obtain ⟨k, hk, rfl, lo, rfl, HL, HLO, HK⟩ := hrel
    by_cases hlt : k < l
    · obtain ⟨x, hx⟩ : ∃ x, bs[k]? = some x := ⟨_, List.getElem?_eq_getElem (by rw [HI.out.len]; exact hlt)⟩
      obtain ⟨g, o, rfl, hg, hc⟩ := HI.out.rd.at_ (by omega)
      have c0 := hc k x hx
      have HX := hid hx
      have hlt3 : (k : Int) < l := by omega
      have h0 : (0 : Int) ≤ k := by omega
      clear hc hg hx
      by_cases h1 : x < lo
      · have HN := hid (show R = false by rw [← HR.out]; exact rises_bad HX.out (by rw [HL.out]; omega))
        go_wp2
        go_ret
        exact ⟨retb HN.out.symm, HF.out⟩
      by_cases h2 : yb ≤ x
      · have HN := hid (show R = false by rw [← HR.out]; exact rises_bad HX.out (by omega))
        go_wp2
        go_ret
        exact ⟨retb HN.out.symm, HF.out⟩
      have HK2 := hid (rises_good HX.out HK.out (by rw [HL.out]; omega) (by omega))
      have HL2 := hid (least_take HX.out 0)
      have hx0 : -9223372036854775808 ≤ x := by have := HLO.out; omega
      go_wp2
      go_round
      case rel => exact ⟨k + 1, by omega, by go_num, x + 1, rfl, HL2, hid (by have := HLO.out; omega), HK2⟩
      case measure => simp [intOf]; omega
    · obtain rfl : k = l := by omega
      have HD := hid (show R = true by
        rw [← HR.out]
        have q := HK.out
        rw [List.take_of_length_le (by rw [HI.out.len]; omega)] at q
        exact q)
      go_wp2
      go_ret
      exact ⟨retb HD.out.symm, HF.out⟩
end Go.Proofs.Ytgjcpepfggkieaa.ClB
