/- Contract: a set without a span, as the document's answer reckons it. Condition: the slice reads as a set's spans. -/
import Derived.Test.YthldppgbopiaiaaSpH
namespace Go.Proofs.Ythldppgbopiaiaa.SpI
open Go.RowKit MSep MSepC MSpM SpA SpB SpO SpE SpF SpG SpH

set_option maxRecDepth 100000 in
set_option maxHeartbeats 4000000 in
theorem rDrop_ok (A : Option Addr) (l c : Nat) (xs : List Sp) (a n : Int) (w : World) (hl : l ≤ 100000) (hx : RdS w A l xs) (hr : ∀ s ∈ xs, may s) (hs : may (a, n)) : Calls Try.prog 30 #[.slice A l c, .agg #[.int .i64 a, .int .i64 n]] w fun e w' =>
    RetS w w' e (drop xs (a, n)) := by
  have HX := hid hx
  have HR := hid hr
  have HS := hid hs
  have FW := hid (fr1 w (.cells #[.int .i64 a, .int .i64 n] 23))
  have BX := hid (Blk.new w 23 #[.int .i64 a, .int .i64 n])
  clear hx hr hs
  go_enter Try.func30, Try.ntmps30
  go_wp2
  go_loopw [5, 6] (fun v i wr => DrI w xs (a, n) l v i wr) (fun _ i _ => l - (intOf i).toNat)
  case atStart => exact drI_start FW BX
  case round =>
    obtain ⟨k, Av, cv, hk, rfl, rfl, ho, hf, hb⟩ := hrel
    by_cases hlt : k < l
    · have hk1 : k < xs.length := by rw [HX.out.1]; exact hlt
      obtain ⟨⟨b, m⟩, hx⟩ : ∃ x, xs[k]? = some x := ⟨_, List.getElem?_eq_getElem hk1⟩
      have HXk := hid hx
      have HMB := hid (HR.out _ (List.mem_of_getElem? hx))
      obtain ⟨g, o, rfl, hg, hc⟩ := HX.out.at_ (by omega)
      obtain ⟨p0, p1⟩ := hc k _ HXk.out
      simp only [] at p0 p1
      have P0 := hid p0
      have P1 := hid p1
      have c0 := kc hf p0
      have c1 := kc hf p1
      have hlt3 : (k : Int) < l := by omega
      have h0k : (0 : Int) ≤ k := by omega
      have FW := hid hf
      have BX := hid hb
      have OX := hid ho
      have d0 := BX.out.cell 0
      have d1 := BX.out.cell 1
      simp only [List.getElem?_toArray, List.getElem?_cons_zero, List.getElem?_cons_succ] at d0 d1
      have HK := hid hlt
      clear hc hg hx hk1 hf hb ho hk hlt p0 p1
      go_wp2_with fail
      have FW := kd FW
      refine wp_region_noPanic ?_
      refine wp_region_held_drew (S := (fun W' => W'.cell? ⟨g, o + k * 2, none⟩ = some (.int .i64 b) ∧ W'.cell? ⟨g, o + k * 2 + 1, none⟩ = some (.int .i64 m) ∧ W'.cell? ⟨w.heap.size, 0, none⟩ = some (.int .i64 a) ∧ W'.cell? ⟨w.heap.size, 1, none⟩ = some (.int .i64 n) ∧ Hid (Fr No w W'))) (by kernel_rfl) ?_ (fun hHeld => ?_)
      · (try dsimp only); (first | (go_split_ands; exact ⟨kc f (by assumption), kc f (by assumption), kc f (by assumption), kc f (by assumption), by assumption⟩) | (go_split_ands; exact ⟨(by assumption), (by assumption), (by assumption), (by assumption), by assumption⟩) | (go_split_ands; exact ⟨kc (fr1 _ _) (by assumption), kc (fr1 _ _) (by assumption), kc (fr1 _ _) (by assumption), kc (fr1 _ _) (by assumption), kfa (by assumption)⟩))
      refine wpAnyH_take (i := 0) (v := ?v1) rfl (by kernel_rfl) (by kernel_rfl) (by kernel_rfl) (fun _ _ _ h => h) (Or.inl ⟨by kernel_rfl, ?y1⟩) (by assumption) ?_
      case y1 => (intro w hSw; (try dsimp only at hSw); go_simp; all_goals with_reducible rfl)
      try simp only [Act.put, List.getElem_toArray, List.getElem_cons_zero, List.setIfInBounds_toArray, List.set_cons_zero, List.set_cons_succ]
      refine wpAnyH_take (i := 1) (v := ?v2) rfl (by kernel_rfl) (by kernel_rfl) (by kernel_rfl) (fun _ _ _ h => h) (Or.inl ⟨by kernel_rfl, ?y2⟩) (by assumption) ?_
      case y2 => (intro w hSw; (try dsimp only at hSw); go_simp; all_goals with_reducible rfl)
      try simp only [Act.put, List.getElem_toArray, List.getElem_cons_succ, List.getElem_cons_zero, List.setIfInBounds_toArray, List.set_cons_zero, List.set_cons_succ]
      refine wpAnyH_take (i := 2) (v := ?v3) rfl (by kernel_rfl) (by kernel_rfl) (by kernel_rfl) (fun _ _ _ h => h) (Or.inl ⟨by kernel_rfl, ?y3⟩) (by assumption) ?_
      case y3 => (intro w hSw; (try dsimp only at hSw); go_simp; all_goals with_reducible rfl)
      try simp only [Act.put, List.getElem_toArray, List.getElem_cons_succ, List.getElem_cons_zero, List.setIfInBounds_toArray, List.set_cons_zero, List.set_cons_succ]
      refine wpAnyH_take (i := 3) (v := ?v4) rfl (by kernel_rfl) (by kernel_rfl) (by kernel_rfl) (fun _ _ _ h => h) (Or.inl ⟨by kernel_rfl, ?y4⟩) (by assumption) ?_
      case y4 => (intro w hSw; (try dsimp only at hSw); go_simp; all_goals with_reducible rfl)
      try simp only [Act.put, List.getElem_toArray, List.getElem_cons_succ, List.getElem_cons_zero, List.setIfInBounds_toArray, List.set_cons_zero, List.set_cons_succ]
      refine wpAnyH_take (i := 4) (v := ?v5) rfl (by kernel_rfl) (by kernel_rfl) (by kernel_rfl) (fun _ _ _ h => h) (Or.inl ⟨by kernel_rfl, ?y5⟩) (by assumption) ?_
      case y5 => (intro w hSw; (try dsimp only at hSw); go_simp; all_goals with_reducible rfl)
      try simp only [Act.put, List.getElem_toArray, List.getElem_cons_succ, List.getElem_cons_zero, List.setIfInBounds_toArray, List.set_cons_zero, List.set_cons_succ]
      refine wpAnyH_take (i := 5) (v := ?v6) rfl (by kernel_rfl) (by kernel_rfl) (by kernel_rfl) (fun _ _ _ h => h) (Or.inl ⟨by kernel_rfl, ?y6⟩) (by assumption) ?_
      case y6 => (intro w hSw; (try dsimp only at hSw); go_simp; all_goals with_reducible rfl)
      try simp only [Act.put, List.getElem_toArray, List.getElem_cons_succ, List.getElem_cons_zero, List.setIfInBounds_toArray, List.set_cons_zero, List.set_cons_succ]
      refine wpAnyH_ready (rs := [6]) (by kernel_rfl) (by simp) (AllReadyH.cons rfl (fun K hK => ?_) AllReadyH.nil)
      go_simp
      go_at_call 20
      refine (rCut_ok b m a n _ HMB.out HS.out).mono ?_
      rintro e W1 ⟨A3, k3, c3, rfl, r3, f⟩
      have FW := kf f hHeld.2.2.2.2
      have BX := kb f BX
      have OX := ko f OX
      have HR3 := hid r3
      clear r3
      dsimp only
      refine hK.out _ _ ?_ (fun hHeld => ?_)
      · (try dsimp only); (first | (go_split_ands; exact ⟨kc f (by assumption), kc f (by assumption), kc f (by assumption), kc f (by assumption), by assumption⟩) | (go_split_ands; exact ⟨(by assumption), (by assumption), (by assumption), (by assumption), by assumption⟩) | (go_split_ands; exact ⟨kc (fr1 _ _) (by assumption), kc (fr1 _ _) (by assumption), kc (fr1 _ _) (by assumption), kc (fr1 _ _) (by assumption), kfa (by assumption)⟩))
      clear hK K
      try simp only [Act.put, List.getElem_toArray, List.getElem_cons_succ, List.getElem_cons_zero, List.setIfInBounds_toArray, List.set_cons_zero, List.set_cons_succ]
      refine wpAnyH_ready (rs := [7]) (by kernel_rfl) (by simp) (AllReadyH.cons rfl (fun K hK => ?_) AllReadyH.nil)
      refine app_sp_step (by rfl) (.tmp 13) (.tmp 19) (by rfl) (w.heap.size + 1) _ (drop (xs.take k) (a, n)) (by rfl) OX.out _ k3 _ (cut0 (b, m) (a, n)) (by rfl) HR3.out (by have h1 := drop_len2 (k := k) (a, n) HX.out.1; have h2 := cut0_len (b, m) (a, n); rw [HR3.out.1] at h2; omega) (by have := BX.out.lt; omega) ?_
      intro A4 c4 w4 o4 f4
      have FW := hid (fr_own FW.out OX.out (by omega) f4)
      have BX := hid (kbo BX.out OX.out (by omega) f4)
      have c0 := kc FW.out P0.out
      have c1 := kc FW.out P1.out
      have d0 := BX.out.cell 0
      have d1 := BX.out.cell 1
      simp only [List.getElem?_toArray, List.getElem?_cons_zero, List.getElem?_cons_succ] at d0 d1
      have O4 := hid o4
      clear o4 f4
      refine hK.out _ _ ?_ (fun hHeld => ?_)
      · (try dsimp only); (first | (go_split_ands; exact ⟨kc f (by assumption), kc f (by assumption), kc f (by assumption), kc f (by assumption), by assumption⟩) | (go_split_ands; exact ⟨(by assumption), (by assumption), (by assumption), (by assumption), by assumption⟩) | (go_split_ands; exact ⟨kc (fr1 _ _) (by assumption), kc (fr1 _ _) (by assumption), kc (fr1 _ _) (by assumption), kc (fr1 _ _) (by assumption), kfa (by assumption)⟩))
      clear hK K
      try simp only [Act.put, List.getElem_toArray, List.getElem_cons_succ, List.getElem_cons_zero, List.setIfInBounds_toArray, List.set_cons_zero, List.set_cons_succ]
      refine wpAnyH_take (i := 8) (v := ?v7) rfl (by kernel_rfl) (by kernel_rfl) (by kernel_rfl) (fun _ _ _ h => h) (Or.inl ⟨by kernel_rfl, ?y7⟩) (by assumption) ?_
      case y7 => (intro w hSw; (try dsimp only at hSw); go_simp; all_goals with_reducible rfl)
      try simp only [Act.put, List.getElem_toArray, List.getElem_cons_succ, List.getElem_cons_zero, List.setIfInBounds_toArray, List.set_cons_zero, List.set_cons_succ]
      refine wpAnyH_done (by kernel_rfl) ?_ _
      refine NoPanic.normal ?_
      have E4 := hid (show (drop (xs.take k) (a, n)).length + k3 = (drop (xs.take (k + 1)) (a, n)).length by rw [drop_snoc HXk.out, List.length_append, HR3.out.1])
      go_wp2
      go_roundw
      case rel => exact ⟨k + 1, A4, c4, HK.out, by go_num, by rw [E4.out], by rw [drop_snoc HXk.out]; exact O4.out, FW.out, BX.out⟩
      case measure => have := HK.out; simp [intOf]; omega
    · obtain rfl : k = l := by omega
      have hE : xs.take k = xs := List.take_of_length_le (by rw [HX.out.1]; exact Nat.le_refl _)
      rw [hE] at ho ⊢
      have HO := hid ho
      have FW := hid hf
      clear hE ho hf hb
      go_wp2
      go_ret
      exact .mk HO.out.rd FW.out
end Go.Proofs.Ythldppgbopiaiaa.SpI
