/- Contracts: what is left of a span without another one, as the document's answer and as the program reckon it. Condition: both may be (the program's: 64 bits). -/
import Derived.Test.YthldppgbopiaiaaSpO
namespace Go.Proofs.Ythldppgbopiaiaa.SpE
open Go.RowKit MSep MSepC MSpM SpA SpB SpO

theorem lit_rd2 (W : World) (x y : Int) (g : Nat) (hg : g = W.heap.size) : RdS (W.alloc (.cells #[.int .i64 x, .int .i64 y] 23)) (some ⟨g, 0, none⟩) 1 [(x, y)] := by
  subst hg
  exact lit_rd W x y
theorem Out.nilb {B : Nat} {w : World} : Out B w (.slice none 0 0) [] := Out.nil B w

set_option maxRecDepth 100000 in
set_option maxHeartbeats 1000000 in
theorem rCut_ok (a n b m : Int) (w : World) (ha : may (a, n)) (hb : may (b, m)) : Calls Try.prog 20 #[.agg #[.int .i64 a, .int .i64 n], .agg #[.int .i64 b, .int .i64 m]] w fun e w' =>
    RetS w w' e (cut0 (a, n) (b, m)) := by
  have HM := rMeet_ok a n b m ((w.alloc (.cells #[.int .i64 a, .int .i64 n] 23)).alloc (.cells #[.int .i64 b, .int .i64 m] 23)) ha hb
  obtain ⟨⟨p, q⟩, hX⟩ : ∃ X, meet0 (a, n) (b, m) = X := ⟨_, rfl⟩
  rw [hX] at HM
  obtain ⟨L, hL⟩ : ∃ L, cut0 (a, n) (b, m) = L := ⟨_, rfl⟩
  rw [hL]
  unfold cut0 at hL
  rw [hX] at hL
  have hs : 0 < q → a ≤ p ∧ b ≤ p ∧ p + q ≤ a + n ∧ p + q ≤ b + m := by
    have := @meet0_sub (a, n) (b, m)
    rw [hX] at this
    exact this
  have hq : 0 ≤ q := by
    have := meet0_nonneg (a, n) (b, m)
    rw [hX] at this
    exact this
  have HMM := hid HM
  have HW := hid (fr2 w (.cells #[.int .i64 a, .int .i64 n] 23) (.cells #[.int .i64 b, .int .i64 m] 23))
  have B0 := hid ((Blk.new w 23 #[.int .i64 a, .int .i64 n]).alloc (.cells #[.int .i64 b, .int .i64 m] 23))
  simp only [] at hL
  unfold may at ha hb
  simp only [] at ha hb
  clear HM hX
  go_enter Try.func20, Try.ntmps20
  go_wp2_with fail
  refine HMM.out.mono ?_
  rintro e w1 ⟨rfl, f1⟩
  have HW1 := kf f1 HW
  have B1 := kb f1 B0
  have HW2 := hid (HW1.out.alloc (.cells #[.int .i64 p, .int .i64 q] 23))
  have HS := hid (show w.heap.size < w1.heap.size from B1.out.lt)
  have B2 := hid (B1.out.alloc (.cells #[.int .i64 p, .int .i64 q] 23))
  have M2 := hid (Blk.new w1 23 #[.int .i64 p, .int .i64 q])
  have c0 := B2.out.cell 0
  have c1 := B2.out.cell 1
  simp only [List.getElem?_toArray, List.getElem?_cons_zero, List.getElem?_cons_succ] at c0 c1
  clear f1 HMM B0 HW
  by_cases hq0 : q = 0
  · subst hq0
    rw [if_pos rfl] at hL
    by_cases hn0 : n = 0
    · subst hn0
      rw [if_pos rfl] at hL
      subst hL
      go_wp2
      go_ret
      exact .mk (RdS.nil _ _) HW2.out
    · rw [if_neg hn0] at hL
      subst hL
      have HR := hid (lit_rd2 (w1.alloc (.cells #[.int .i64 p, .int .i64 0] 23)) a n (w1.heap.size + 1) (by simp))
      go_wp2
      go_ret
      exact .mk HR.out (HW2.out.alloc _)
  · rw [if_neg hq0] at hL
    have hs := hs (by omega)
    have w1a : wrap64 (p - a) = p - a := w64 _ (by omega)
    have w1b : wrap64 (p + q) = p + q := w64 _ (by omega)
    have w1c : wrap64 (a + n) = a + n := w64 _ (by omega)
    have w1d : wrap64 (a + n - p) = a + n - p := w64 _ (by omega)
    have w1e : wrap64 (a + n - p - q) = a + n - p - q := w64 _ (by omega)
    have e1 : a + n - (p + q) = a + n - p - q := by omega
    rw [e1] at hL
    have HB := hid (show w1.heap.size + 1 ≤ (w1.alloc (.cells #[.int .i64 p, .int .i64 q] 23)).heap.size by simp)
    by_cases h1 : a < p
    · rw [if_pos h1] at hL
      go_wp2_with (at_builtin; refine app_sp rfl (.tmp 23) (.tmp 32) rfl (w1.heap.size + 1) _ [] rfl Out.nilb _ 1 _ [(a, p - a)] rfl (lit_rd2 _ _ _ _ (by simp)) (by simp) (by simp) ?_)
      intro A2 c2 w2 o2 f2
      have HF2 := hid (fr_own (HW2.out.alloc (.cells #[.int .i64 a, .int .i64 (p - a)] 23)) (Out.nilb (B := w1.heap.size + 1)) (by have := HS.out; omega) f2)
      have B3 := hid (kbo (B2.out.alloc (.cells #[.int .i64 a, .int .i64 (p - a)] 23)) (Out.nilb (B := w1.heap.size + 1)) (by have := HS.out; omega) f2)
      have M3 := hid (kbo (M2.out.alloc (.cells #[.int .i64 a, .int .i64 (p - a)] 23)) (Out.nilb (B := w1.heap.size + 1)) (by omega) f2)
      have HZ2 := hid (show w1.heap.size + 1 ≤ w2.heap.size from M3.out.lt)
      have O2 := hid o2
      clear o2 f2 c0 c1
      have c0 := B3.out.cell 0
      have c1 := B3.out.cell 1
      have d0 := M3.out.cell 0
      have d1 := M3.out.cell 1
      simp only [List.getElem?_toArray, List.getElem?_cons_zero, List.getElem?_cons_succ] at c0 c1 d0 d1
      by_cases h2 : p + q < a + n
      · rw [if_pos h2] at hL
        subst hL
        go_wp2_with (at_builtin; refine app_sp rfl (.tmp 45) (.tmp 63) rfl (w1.heap.size + 1) _ [(a, p - a)] rfl (O2.out.fr (fr1 _ _)) _ 1 _ [(p + q, a + n - p - q)] rfl (lit_rd2 _ _ _ _ (by simp)) (by simp) (by have := HZ2.out; simp; omega) ?_)
        intro A3 c3 w3 o3 f3
        have HF3 := hid (fr_own (HF2.out.alloc (.cells #[.int .i64 (p + q), .int .i64 (a + n - p - q)] 23)) (O2.out.fr (fr1 _ _)) (by have := HS.out; omega) f3)
        have O3 := hid o3
        clear o3 f3
        go_wp2
        go_ret
        exact .mk O3.out.rd HF3.out
      · rw [if_neg h2] at hL
        subst hL
        go_wp2
        go_ret
        exact .mk (by simpa using O2.out.rd) HF2.out
    · rw [if_neg h1] at hL
      by_cases h2 : p + q < a + n
      · rw [if_pos h2] at hL
        subst hL
        go_wp2_with (at_builtin; refine app_sp rfl (.tmp 45) (.tmp 63) rfl (w1.heap.size + 1) _ [] rfl Out.nilb _ 1 _ [(p + q, a + n - p - q)] rfl (lit_rd2 _ _ _ _ (by simp)) (by simp) (by simp) ?_)
        intro A3 c3 w3 o3 f3
        have HF3 := hid (fr_own (HW2.out.alloc (.cells #[.int .i64 (p + q), .int .i64 (a + n - p - q)] 23)) (Out.nilb (B := w1.heap.size + 1)) (by have := HS.out; omega) f3)
        have O3 := hid o3
        clear o3 f3
        go_wp2
        go_ret
        exact .mk O3.out.rd HF3.out
      · rw [if_neg h2] at hL
        subst hL
        go_wp2
        go_ret
        exact .mk (RdS.nil _ _) HW2.out
end Go.Proofs.Ythldppgbopiaiaa.SpE
