/- A span cut at multiples of a unit: plain numbers, and the program's contracts. Condition: all numbers are 64 bits. -/
import Derived.Test.YtllolilpchmkiaaDoorSpH
namespace Go.Proofs.YtllolilpchmkiaaDoor.SpU
open Go.RowKit MSep MSepC MSpM SpA SpB SpO SpE SpF SpG SpH

/-- Where piece i begins; piece i; the first k pieces. -/
def frm (a u F : Int) (i : Nat) : Int := if i = 0 then a else (F + i) * u
def too (a n u F : Int) (K i : Nat) : Int := if i = K then a + n else (F + i + 1) * u
def pc (a n u F : Int) (K i : Nat) : Sp := (frm a u F i, too a n u F K i - frm a u F i)
def spl (a n u F : Int) (K k : Nat) : List Sp := (List.range k).map (pc a n u F K)
theorem spl_len (a n u F : Int) (K k : Nat) : (spl a n u F K k).length = k := by simp [spl]
theorem spl_succ (a n u F : Int) (K k : Nat) : spl a n u F K (k + 1) = spl a n u F K k ++ [pc a n u F K k] := by simp [spl, List.range_succ]
theorem spl_at (a n u F : Int) {K k i : Nat} (h : i < k) : (spl a n u F K k)[i]? = some (pc a n u F K i) := by simp [spl, h]

/-- A span that may be, with sectors; a unit; its first and last multiple. -/
structure Gd (a n u F : Int) (K : Nat) : Prop where
  m : may (a, n)
  n0 : 0 < n
  u1 : 1 ≤ u
  hF : a / u = F
  hG : (a + n - 1) / u = F + K
theorem div_of {x u q : Int} (hu : 0 < u) (h1 : q * u ≤ x) (h2 : x < (q + 1) * u) : x / u = q := by
  have a1 : q ≤ x / u := (Int.le_ediv_iff_mul_le hu).2 h1
  have a2 : x / u < q + 1 := (Int.ediv_lt_iff_lt_mul hu).2 h2
  omega
theorem div_in (x : Int) {u : Int} (hu : 0 < u) : (x / u) * u ≤ x ∧ x < (x / u + 1) * u := ⟨Int.ediv_mul_le x (by omega), Int.lt_ediv_add_one_mul_self x hu⟩
theorem Gd.base {a n u F : Int} {K : Nat} (h : Gd a n u F K) : 0 ≤ a ∧ a + n ≤ 1099511627776 ∧ 0 ≤ F ∧ F * u ≤ a ∧ a < (F + 1) * u ∧ (F + K) * u ≤ a + n - 1 ∧ a + n - 1 < (F + K + 1) * u ∧ F + K ≤ a + n - 1 := by
  obtain ⟨m, n0, u1, hF, hG⟩ := h
  unfold may at m
  simp only [] at m
  have h1 := div_in a (show 0 < u by omega)
  have h2 := div_in (a + n - 1) (show 0 < u by omega)
  rw [hF] at h1
  rw [hG] at h2
  have h3 : 0 ≤ F := by rw [← hF]; exact Int.ediv_nonneg (by omega) (by omega)
  have h4 : F + K ≤ a + n - 1 := by rw [← hG]; exact Int.ediv_le_self _ (by omega)
  exact ⟨m.1, m.2.2, h3, h1.1, h1.2, h2.1, h2.2, h4⟩
theorem step_u (F u : Int) (i : Nat) : (F + i + 1) * u = (F + i) * u + u := by rw [Int.add_mul, Int.one_mul]
theorem Gd.mid {a n u F : Int} {K i : Nat} (h : Gd a n u F K) (hi : i < K) : (F + i) * u + u ≤ a + n - 1 := by
  have b := h.base
  have u1 := h.u1
  have := Int.mul_le_mul_of_nonneg_right (show F + i + 1 ≤ F + K by omega) (show 0 ≤ u by omega)
  rw [step_u] at this
  omega
theorem Gd.low {a n u F : Int} {K i : Nat} (h : Gd a n u F K) (hi : 0 < i) : a < (F + i) * u := by
  have b := h.base
  have u1 := h.u1
  have := Int.mul_le_mul_of_nonneg_right (show F + 1 ≤ F + i by omega) (show 0 ≤ u by omega)
  omega
theorem Gd.frm_in {a n u F : Int} {K i : Nat} (h : Gd a n u F K) (hi : i ≤ K) : a ≤ frm a u F i ∧ frm a u F i ≤ a + n - 1 ∧ (F + i) * u ≤ frm a u F i ∧ frm a u F i < (F + i) * u + u := by
  have b := h.base
  have n0 := h.n0
  have u1 := h.u1
  unfold frm
  split
  · rename_i h0
    subst h0
    have e : (F + 1) * u = F * u + u := by rw [Int.add_mul, Int.one_mul]
    simp only [Int.cast_ofNat_Int, Int.add_zero] at *
    omega
  · have l := h.low (i := i) (by omega)
    have := Int.mul_le_mul_of_nonneg_right (show F + i ≤ F + K by omega) (show 0 ≤ u by omega)
    omega
theorem Gd.too_in {a n u F : Int} {K i : Nat} (h : Gd a n u F K) (hi : i ≤ K) : frm a u F i < too a n u F K i ∧ too a n u F K i ≤ a + n ∧ too a n u F K i - 1 < (F + i) * u + u := by
  have b := h.base
  have f := h.frm_in hi
  have u1 := h.u1
  unfold too
  split
  · rename_i h0
    subst h0
    rw [step_u] at b
    omega
  · have := h.mid (i := i) (by omega)
    rw [step_u]
    omega
theorem Gd.pc_ok {a n u F : Int} {K i : Nat} (h : Gd a n u F K) (hi : i ≤ K) : (pc a n u F K i).1 = frm a u F i ∧ 1 ≤ (pc a n u F K i).2 ∧ (pc a n u F K i).2 ≤ a + n - frm a u F i ∧ (pc a n u F K i).1 / u = F + i ∧ ((pc a n u F K i).1 + (pc a n u F K i).2 - 1) / u = F + i ∧ frm a u F i + (pc a n u F K i).2 = too a n u F K i := by
  have f := h.frm_in hi
  have t := h.too_in hi
  have u1 := h.u1
  have e := step_u F u i
  unfold pc
  simp only []
  exact ⟨trivial, by omega, by omega, div_of (by omega) (by omega) (by omega), div_of (by omega) (by omega) (by omega), by omega⟩
theorem too_frm (a n u F : Int) {K i : Nat} (hi : i < K) : too a n u F K i = frm a u F (i + 1) := by
  unfold too frm
  rw [if_neg (by omega), if_neg (by omega)]
  congr 1
  omega

set_option maxRecDepth 100000 in
set_option maxHeartbeats 4000000 in
theorem split_bad (a n u : Int) (w : World) (ha : wf (a, n)) (hu : -9223372036854775808 ≤ u ∧ u ≤ 9223372036854775807) (hn : ¬ (may (a, n) ∧ n ≠ 0 ∧ 1 ≤ u)) : Calls Tryd.prog 76 #[.agg #[.int .i64 a, .int .i64 n], .int .i64 u] w fun e w' => RetS w w' e [] := by
  have _hu := hu
  have HA := hid ha
  have FW := hid (fr1 w (.cells #[.int .i64 a, .int .i64 n] 57))
  have BX := hid (Blk.new w 57 #[.int .i64 a, .int .i64 n])
  have c0 := BX.out.cell 0
  have c1 := BX.out.cell 1
  simp only [List.getElem?_toArray, List.getElem?_cons_zero, List.getElem?_cons_succ] at c0 c1
  clear ha
  have hcase : Hid (¬ may (a, n)) ∨ Hid (may (a, n)) ∧ (n == 0) = true ∨ Hid (may (a, n)) ∧ (n == 0) = false ∧ ¬ 1 ≤ u := by
    by_cases h1 : may (a, n)
    · by_cases h2 : n = 0
      · exact .inr (.inl ⟨h1, by simp [h2]⟩)
      · exact .inr (.inr ⟨h1, by simp [h2], fun h => hn ⟨h1, h2, h⟩⟩)
    · exact .inl h1
  clear hn
  rcases hcase with HM | ⟨HM, hnb⟩ | ⟨HM, hnb, hu1⟩
  · go_enter Tryd.func76, Tryd.ntmps76
    go_wp2_with fail
    refine (may_ok a n _ HA.out).mono ?_
    rintro e w1 ⟨rfl, f1⟩
    rw [decide_eq_false HM.out]
    have FW := kf f1 FW
    have BX := kb f1 BX
    clear f1 c0 c1
    go_wp2
    go_ret
    exact .mk (RdS.nil _ _) FW.out
  · go_enter Tryd.func76, Tryd.ntmps76
    go_wp2_with fail
    refine (may_ok a n _ HA.out).mono ?_
    rintro e w1 ⟨rfl, f1⟩
    rw [decide_eq_true HM.out]
    have FW := kf f1 FW
    have BX := kb f1 BX
    clear f1 c0 c1
    have c0 := BX.out.cell 0
    have c1 := BX.out.cell 1
    simp only [List.getElem?_toArray, List.getElem?_cons_zero, List.getElem?_cons_succ] at c0 c1
    go_wp2
    go_ret
    exact .mk (RdS.nil _ _) FW.out
  · go_enter Tryd.func76, Tryd.ntmps76
    go_wp2_with fail
    refine (may_ok a n _ HA.out).mono ?_
    rintro e w1 ⟨rfl, f1⟩
    rw [decide_eq_true HM.out]
    have FW := kf f1 FW
    have BX := kb f1 BX
    clear f1 c0 c1
    have c0 := BX.out.cell 0
    have c1 := BX.out.cell 1
    simp only [List.getElem?_toArray, List.getElem?_cons_zero, List.getElem?_cons_succ] at c0 c1
    have hu2 : u < 1 := by omega
    go_wp2
    go_ret
    exact .mk (RdS.nil _ _) FW.out

set_option maxRecDepth 100000 in
set_option maxHeartbeats 4000000 in
theorem split_far (a n u F : Int) (K : Nat) (w : World) (hg : Gd a n u F K) (hu : u ≤ 9223372036854775807) (hK : 4096 ≤ K) : Calls Tryd.prog 76 #[.agg #[.int .i64 a, .int .i64 n], .int .i64 u] w fun e w' => RetS w w' e [] := by
  have HG := hid hg
  have FW := hid (fr1 w (.cells #[.int .i64 a, .int .i64 n] 57))
  have BX := hid (Blk.new w 57 #[.int .i64 a, .int .i64 n])
  have c0 := BX.out.cell 0
  have c1 := BX.out.cell 1
  simp only [List.getElem?_toArray, List.getElem?_cons_zero, List.getElem?_cons_succ] at c0 c1
  clear hg
  have hu0 := HG.out.u1
  have hF := HG.out.hF
  have hGG := HG.out.hG
  have hb := HG.out.base
  have n0 := HG.out.n0
  obtain ⟨hb1, hb2, hb3, _, _, _, _, hb8⟩ := hb
  have hnb : (n == 0) = false := by simp; omega
  have hun : ¬ u < 1 := by omega
  have hq1 : IntKind.i64.wrap (a.tdiv u) = F := (Go.IntWalk.i64_quo a u ⟨by omega, by omega, by omega⟩).trans hF
  have hq2 : IntKind.i64.wrap ((a + n - 1).tdiv u) = F + K := (Go.IntWalk.i64_quo (a + n - 1) u ⟨by omega, by omega, by omega⟩).trans hGG
  have hw1 : IntKind.i64.wrap (a + n - 1) = a + n - 1 := by rw [IntKind.wrap_i64]; omega
  have hw2 : wrap64 (a + n - 1) = a + n - 1 := w64 _ (by omega)
  go_enter Tryd.func76, Tryd.ntmps76
  go_wp2_with fail
  refine (may_ok a n _ (wf_may HG.out.m)).mono ?_
  rintro e w1 ⟨rfl, f1⟩
  rw [decide_eq_true HG.out.m]
  have FW := kf f1 FW
  have BX := kb f1 BX
  clear f1 c0 c1
  have c0 := BX.out.cell 0
  have c1 := BX.out.cell 1
  simp only [List.getElem?_toArray, List.getElem?_cons_zero, List.getElem?_cons_succ] at c0 c1
  go_wp2_with fail
  have FW := kd FW
  refine wp_region_noPanic ?_
  refine wp_region_held_drew (S := (fun W' => W'.cell? ⟨w.heap.size, 0, none⟩ = some (.int .i64 a) ∧ W'.cell? ⟨w.heap.size, 1, none⟩ = some (.int .i64 n) ∧ Hid (Fr No w W'))) (by kernel_rfl) ?_ (fun hHeld => ?_)
  · (try dsimp only); (first | (go_split_ands; exact ⟨kc f (by assumption), kc f (by assumption), by assumption⟩) | (go_split_ands; exact ⟨(by assumption), (by assumption), by assumption⟩) | (go_split_ands; exact ⟨kc (fr1 _ _) (by assumption), kc (fr1 _ _) (by assumption), kfa (by assumption)⟩))
  refine wpAnyH_take (i := 0) (v := ?v1) rfl (by kernel_rfl) (by kernel_rfl) (by kernel_rfl) (fun _ _ _ h => h) (Or.inl ⟨by kernel_rfl, ?y1⟩) (by assumption) ?_
  case y1 => (intro w hSw; (try dsimp only at hSw); go_simp; all_goals with_reducible rfl)
  try simp only [Act.put, List.getElem_toArray, List.getElem_cons_zero, List.setIfInBounds_toArray, List.set_cons_zero, List.set_cons_succ]
  refine wpAnyH_take (i := 1) (v := ?v2) rfl (by kernel_rfl) (by kernel_rfl) (by kernel_rfl) (fun _ _ _ h => h) (Or.inl ⟨by kernel_rfl, ?y2⟩) (by assumption) ?_
  case y2 => (intro w hSw; (try dsimp only at hSw); go_simp; all_goals with_reducible rfl)
  try simp only [Act.put, List.getElem_toArray, List.getElem_cons_succ, List.getElem_cons_zero, List.setIfInBounds_toArray, List.set_cons_zero, List.set_cons_succ]
  refine wpAnyH_take (i := 2) (v := ?v3) rfl (by kernel_rfl) (by kernel_rfl) (by kernel_rfl) (fun _ _ _ h => h) (Or.inl ⟨by kernel_rfl, ?y3⟩) (by assumption) ?_
  case y3 => (intro w hSw; (try dsimp only at hSw); go_simp; all_goals with_reducible rfl)
  try simp only [Act.put, List.getElem_toArray, List.getElem_cons_succ, List.getElem_cons_zero, List.setIfInBounds_toArray, List.set_cons_zero, List.set_cons_succ]
  refine wpAnyH_take (i := 3) (v := (.int .i64 F)) rfl (by kernel_rfl) (by kernel_rfl) (by kernel_rfl) (fun _ _ _ h => h) (Or.inl ⟨by kernel_rfl, fun w hSw => by first | (go_simp; done) | (go_simp; with_reducible rfl) | (go_simp; omega)⟩) (by assumption) ?_
  try simp only [Act.put, List.getElem_toArray, List.getElem_cons_succ, List.getElem_cons_zero, List.setIfInBounds_toArray, List.set_cons_zero, List.set_cons_succ]
  refine wpAnyH_take (i := 4) (v := ?v4) rfl (by kernel_rfl) (by kernel_rfl) (by kernel_rfl) (fun _ _ _ h => h) (Or.inl ⟨by kernel_rfl, ?y4⟩) (by assumption) ?_
  case y4 => (intro w hSw; (try dsimp only at hSw); go_simp; all_goals with_reducible rfl)
  try simp only [Act.put, List.getElem_toArray, List.getElem_cons_succ, List.getElem_cons_zero, List.setIfInBounds_toArray, List.set_cons_zero, List.set_cons_succ]
  refine wpAnyH_take (i := 7) (v := ?v5) rfl (by kernel_rfl) (by kernel_rfl) (by kernel_rfl) (fun _ _ _ h => h) (Or.inl ⟨by kernel_rfl, ?y5⟩) (by assumption) ?_
  case y5 => (intro w hSw; (try dsimp only at hSw); go_simp; all_goals with_reducible rfl)
  try simp only [Act.put, List.getElem_toArray, List.getElem_cons_succ, List.getElem_cons_zero, List.setIfInBounds_toArray, List.set_cons_zero, List.set_cons_succ]
  refine wpAnyH_ready (rs := [5]) (by kernel_rfl) (by simp) (AllReadyH.cons rfl (fun K hK => ?_) AllReadyH.nil)
  go_simp
  go_at_call 75
  refine (end_may a n _ HG.out.m).mono ?_
  rintro e W1 ⟨rfl, f⟩
  have FW := kf f hHeld.2.2
  have BX := kb f BX
  dsimp only
  refine hK.out _ _ ?_ (fun hHeld => ?_)
  · (try dsimp only); (first | (go_split_ands; exact ⟨kc f (by assumption), kc f (by assumption), by assumption⟩) | (go_split_ands; exact ⟨(by assumption), (by assumption), by assumption⟩) | (go_split_ands; exact ⟨kc (fr1 _ _) (by assumption), kc (fr1 _ _) (by assumption), kfa (by assumption)⟩))
  clear hK K
  try simp only [Act.put, List.getElem_toArray, List.getElem_cons_succ, List.getElem_cons_zero, List.setIfInBounds_toArray, List.set_cons_zero, List.set_cons_succ]
  refine wpAnyH_take (i := 6) (v := (.int .i64 (a + n - 1))) rfl (by kernel_rfl) (by kernel_rfl) (by kernel_rfl) (fun _ _ _ h => h) (Or.inl ⟨by kernel_rfl, fun w hSw => by first | (go_simp; done) | (go_simp; with_reducible rfl) | (go_simp; omega)⟩) (by assumption) ?_
  try simp only [Act.put, List.getElem_toArray, List.getElem_cons_succ, List.getElem_cons_zero, List.setIfInBounds_toArray, List.set_cons_zero, List.set_cons_succ]
  refine wpAnyH_take (i := 8) (v := (.int .i64 (F + K))) rfl (by kernel_rfl) (by kernel_rfl) (by kernel_rfl) (fun _ _ _ h => h) (Or.inl ⟨by kernel_rfl, fun w hSw => by first | (go_simp; done) | (go_simp; with_reducible rfl) | (go_simp; omega)⟩) (by assumption) ?_
  try simp only [Act.put, List.getElem_toArray, List.getElem_cons_succ, List.getElem_cons_zero, List.setIfInBounds_toArray, List.set_cons_zero, List.set_cons_succ]
  refine wpAnyH_take (i := 9) (v := ?v6) rfl (by kernel_rfl) (by kernel_rfl) (by kernel_rfl) (fun _ _ _ h => h) (Or.inl ⟨by kernel_rfl, ?y6⟩) (by assumption) ?_
  case y6 => (intro w hSw; (try dsimp only at hSw); go_simp; all_goals with_reducible rfl)
  try simp only [Act.put, List.getElem_toArray, List.getElem_cons_succ, List.getElem_cons_zero, List.setIfInBounds_toArray, List.set_cons_zero, List.set_cons_succ]
  refine wpAnyH_take (i := 10) (v := ?v7) rfl (by kernel_rfl) (by kernel_rfl) (by kernel_rfl) (fun _ _ _ h => h) (Or.inl ⟨by kernel_rfl, ?y7⟩) (by assumption) ?_
  case y7 => (intro w hSw; (try dsimp only at hSw); go_simp; all_goals with_reducible rfl)
  try simp only [Act.put, List.getElem_toArray, List.getElem_cons_succ, List.getElem_cons_zero, List.setIfInBounds_toArray, List.set_cons_zero, List.set_cons_succ]
  refine wpAnyH_done (by kernel_rfl) ?_ _
  refine NoPanic.normal ?_
  go_wp2
  go_ret
  exact .mk (RdS.nil _ _) FW.out

set_option maxRecDepth 100000 in
set_option maxHeartbeats 4000000 in
theorem split_own (a n u F : Int) (K : Nat) (w : World) (hg : Gd a n u F K) (hu : u ≤ 9223372036854775807) (hK : K < 4096) : Calls Tryd.prog 76 #[.agg #[.int .i64 a, .int .i64 n], .int .i64 u] w fun e w' => ∃ A c, e = .returned (.slice A (K + 1) c) ∧ Out (w.heap.size + 1) w' (.slice A (K + 1) c) (spl a n u F K (K + 1)) ∧ Fr No w w' := by
  obtain ⟨i0, z0, hi, hz0, hz1, hz2, hz3⟩ := info23
  have HG := hid hg
  have FW := hid (fr1 w (.cells #[.int .i64 a, .int .i64 n] 57))
  have BX := hid (Blk.new w 57 #[.int .i64 a, .int .i64 n])
  have c0 := BX.out.cell 0
  have c1 := BX.out.cell 1
  simp only [List.getElem?_toArray, List.getElem?_cons_zero, List.getElem?_cons_succ] at c0 c1
  clear hg
  have hu0 := HG.out.u1
  have hF := HG.out.hF
  have hGG := HG.out.hG
  have hb := HG.out.base
  have n0 := HG.out.n0
  obtain ⟨hb1, hb2, hb3, _, _, _, _, hb8⟩ := hb
  have hnb : (n == 0) = false := by simp; omega
  have hun : ¬ u < 1 := by omega
  have hq1 : IntKind.i64.wrap (a.tdiv u) = F := (Go.IntWalk.i64_quo a u ⟨by omega, by omega, by omega⟩).trans hF
  have hq2 : IntKind.i64.wrap ((a + n - 1).tdiv u) = F + K := (Go.IntWalk.i64_quo (a + n - 1) u ⟨by omega, by omega, by omega⟩).trans hGG
  have hw1 : IntKind.i64.wrap (a + n - 1) = a + n - 1 := by rw [IntKind.wrap_i64]; omega
  have hw2 : wrap64 (a + n - 1) = a + n - 1 := w64 _ (by omega)
  go_enter Tryd.func76, Tryd.ntmps76
  go_wp2_with fail
  refine (may_ok a n _ (wf_may HG.out.m)).mono ?_
  rintro e w1 ⟨rfl, f1⟩
  rw [decide_eq_true HG.out.m]
  have FW := kf f1 FW
  have BX := kb f1 BX
  clear f1 c0 c1
  have c0 := BX.out.cell 0
  have c1 := BX.out.cell 1
  simp only [List.getElem?_toArray, List.getElem?_cons_zero, List.getElem?_cons_succ] at c0 c1
  go_wp2_with fail
  have FW := kd FW
  refine wp_region_noPanic ?_
  refine wp_region_held_drew (S := (fun W' => W'.cell? ⟨w.heap.size, 0, none⟩ = some (.int .i64 a) ∧ W'.cell? ⟨w.heap.size, 1, none⟩ = some (.int .i64 n) ∧ Hid (Fr No w W'))) (by kernel_rfl) ?_ (fun hHeld => ?_)
  · (try dsimp only); (first | (go_split_ands; exact ⟨kc f (by assumption), kc f (by assumption), by assumption⟩) | (go_split_ands; exact ⟨(by assumption), (by assumption), by assumption⟩) | (go_split_ands; exact ⟨kc (fr1 _ _) (by assumption), kc (fr1 _ _) (by assumption), kfa (by assumption)⟩))
  refine wpAnyH_take (i := 0) (v := ?v8) rfl (by kernel_rfl) (by kernel_rfl) (by kernel_rfl) (fun _ _ _ h => h) (Or.inl ⟨by kernel_rfl, ?y8⟩) (by assumption) ?_
  case y8 => (intro w hSw; (try dsimp only at hSw); go_simp; all_goals with_reducible rfl)
  try simp only [Act.put, List.getElem_toArray, List.getElem_cons_zero, List.setIfInBounds_toArray, List.set_cons_zero, List.set_cons_succ]
  refine wpAnyH_take (i := 1) (v := ?v9) rfl (by kernel_rfl) (by kernel_rfl) (by kernel_rfl) (fun _ _ _ h => h) (Or.inl ⟨by kernel_rfl, ?y9⟩) (by assumption) ?_
  case y9 => (intro w hSw; (try dsimp only at hSw); go_simp; all_goals with_reducible rfl)
  try simp only [Act.put, List.getElem_toArray, List.getElem_cons_succ, List.getElem_cons_zero, List.setIfInBounds_toArray, List.set_cons_zero, List.set_cons_succ]
  refine wpAnyH_take (i := 2) (v := ?v10) rfl (by kernel_rfl) (by kernel_rfl) (by kernel_rfl) (fun _ _ _ h => h) (Or.inl ⟨by kernel_rfl, ?y10⟩) (by assumption) ?_
  case y10 => (intro w hSw; (try dsimp only at hSw); go_simp; all_goals with_reducible rfl)
  try simp only [Act.put, List.getElem_toArray, List.getElem_cons_succ, List.getElem_cons_zero, List.setIfInBounds_toArray, List.set_cons_zero, List.set_cons_succ]
  refine wpAnyH_take (i := 3) (v := (.int .i64 F)) rfl (by kernel_rfl) (by kernel_rfl) (by kernel_rfl) (fun _ _ _ h => h) (Or.inl ⟨by kernel_rfl, fun w hSw => by first | (go_simp; done) | (go_simp; with_reducible rfl) | (go_simp; omega)⟩) (by assumption) ?_
  try simp only [Act.put, List.getElem_toArray, List.getElem_cons_succ, List.getElem_cons_zero, List.setIfInBounds_toArray, List.set_cons_zero, List.set_cons_succ]
  refine wpAnyH_take (i := 4) (v := ?v11) rfl (by kernel_rfl) (by kernel_rfl) (by kernel_rfl) (fun _ _ _ h => h) (Or.inl ⟨by kernel_rfl, ?y11⟩) (by assumption) ?_
  case y11 => (intro w hSw; (try dsimp only at hSw); go_simp; all_goals with_reducible rfl)
  try simp only [Act.put, List.getElem_toArray, List.getElem_cons_succ, List.getElem_cons_zero, List.setIfInBounds_toArray, List.set_cons_zero, List.set_cons_succ]
  refine wpAnyH_take (i := 7) (v := ?v12) rfl (by kernel_rfl) (by kernel_rfl) (by kernel_rfl) (fun _ _ _ h => h) (Or.inl ⟨by kernel_rfl, ?y12⟩) (by assumption) ?_
  case y12 => (intro w hSw; (try dsimp only at hSw); go_simp; all_goals with_reducible rfl)
  try simp only [Act.put, List.getElem_toArray, List.getElem_cons_succ, List.getElem_cons_zero, List.setIfInBounds_toArray, List.set_cons_zero, List.set_cons_succ]
  refine wpAnyH_ready (rs := [5]) (by kernel_rfl) (by simp) (AllReadyH.cons rfl (fun K hK => ?_) AllReadyH.nil)
  go_simp
  go_at_call 75
  refine (end_may a n _ HG.out.m).mono ?_
  rintro e W1 ⟨rfl, f⟩
  have FW := kf f hHeld.2.2
  have BX := kb f BX
  dsimp only
  refine hK.out _ _ ?_ (fun hHeld => ?_)
  · (try dsimp only); (first | (go_split_ands; exact ⟨kc f (by assumption), kc f (by assumption), by assumption⟩) | (go_split_ands; exact ⟨(by assumption), (by assumption), by assumption⟩) | (go_split_ands; exact ⟨kc (fr1 _ _) (by assumption), kc (fr1 _ _) (by assumption), kfa (by assumption)⟩))
  clear hK K
  try simp only [Act.put, List.getElem_toArray, List.getElem_cons_succ, List.getElem_cons_zero, List.setIfInBounds_toArray, List.set_cons_zero, List.set_cons_succ]
  refine wpAnyH_take (i := 6) (v := (.int .i64 (a + n - 1))) rfl (by kernel_rfl) (by kernel_rfl) (by kernel_rfl) (fun _ _ _ h => h) (Or.inl ⟨by kernel_rfl, fun w hSw => by first | (go_simp; done) | (go_simp; with_reducible rfl) | (go_simp; omega)⟩) (by assumption) ?_
  try simp only [Act.put, List.getElem_toArray, List.getElem_cons_succ, List.getElem_cons_zero, List.setIfInBounds_toArray, List.set_cons_zero, List.set_cons_succ]
  refine wpAnyH_take (i := 8) (v := (.int .i64 (F + K))) rfl (by kernel_rfl) (by kernel_rfl) (by kernel_rfl) (fun _ _ _ h => h) (Or.inl ⟨by kernel_rfl, fun w hSw => by first | (go_simp; done) | (go_simp; with_reducible rfl) | (go_simp; omega)⟩) (by assumption) ?_
  try simp only [Act.put, List.getElem_toArray, List.getElem_cons_succ, List.getElem_cons_zero, List.setIfInBounds_toArray, List.set_cons_zero, List.set_cons_succ]
  refine wpAnyH_take (i := 9) (v := ?v13) rfl (by kernel_rfl) (by kernel_rfl) (by kernel_rfl) (fun _ _ _ h => h) (Or.inl ⟨by kernel_rfl, ?y13⟩) (by assumption) ?_
  case y13 => (intro w hSw; (try dsimp only at hSw); go_simp; all_goals with_reducible rfl)
  try simp only [Act.put, List.getElem_toArray, List.getElem_cons_succ, List.getElem_cons_zero, List.setIfInBounds_toArray, List.set_cons_zero, List.set_cons_succ]
  refine wpAnyH_take (i := 10) (v := ?v14) rfl (by kernel_rfl) (by kernel_rfl) (by kernel_rfl) (fun _ _ _ h => h) (Or.inl ⟨by kernel_rfl, ?y14⟩) (by assumption) ?_
  case y14 => (intro w hSw; (try dsimp only at hSw); go_simp; all_goals with_reducible rfl)
  try simp only [Act.put, List.getElem_toArray, List.getElem_cons_succ, List.getElem_cons_zero, List.setIfInBounds_toArray, List.set_cons_zero, List.set_cons_succ]
  refine wpAnyH_done (by kernel_rfl) ?_ _
  refine NoPanic.normal ?_
  clear hF hGG hq1 hq2
  have HH := hid (show w.heap.size + 1 ≤ _ from BX.out.lt)
  go_wp2_with (at_make; refine wpList_make_own _ rfl _ _ 24 rfl (w.heap.size + 1) 57 i0 z0 2 Tryd.underlying24 hi hz0 hz1 .i64 .i64 _ (K + 1) rfl rfl (by first | rfl | (push_cast; omega) | omega) (by rw [hz2]; omega) (by unfold maxLen; omega) HH.out ?_)
  intro w4 o4 gr4
  have f4 := (Fr.refl (fun q => (Value.slice none 0 0).ownBlock = some q) _).grown gr4 (fun _ hq _ => hq)
  have FW := hid (fr_own FW.out (Out.nil (w.heap.size + 1) _) (by omega) f4)
  have BX := hid (kbo BX.out (Out.nil (w.heap.size + 1) _) (by omega) f4)
  have O4 := hid (show Out (w.heap.size + 1) w4 _ [] from o4)
  clear o4 gr4 f4 HH c0 c1
  have c0 := BX.out.cell 0
  have c1 := BX.out.cell 1
  simp only [List.getElem?_toArray, List.getElem?_cons_zero, List.getElem?_cons_succ] at c0 c1
  go_wp2
  clear c0 c1
  go_loopw [7, 8, 9] (fun v fr i wr => ∃ (k : Nat) (A : Option Addr) (c : Nat), k ≤ K ∧ i = .int .i64 (F + k) ∧ fr = .int .i64 (frm a u F k) ∧ v = .slice A k c ∧ Out (w.heap.size + 1) wr v (spl a n u F K k) ∧ Fr No w wr ∧ Blk wr w.heap.size 57 #[.int .i64 a, .int .i64 n]) (fun _ _ i _ => K - (intOf i - F).toNat)
  case atStart => exact ⟨0, _, _, by omega, by simp, rfl, rfl, O4.out, FW.out, BX.out⟩
  case round =>
    obtain ⟨k, Av, cv, hk, rfl, rfl, rfl, ho, hf, hb⟩ := hrel
    have hfr := HG.out.frm_in hk
    have HK := hid hk
    have HL := hid (spl_len a n u F K k)
    by_cases hlt : k < K
    · have hmid := HG.out.mid hlt
      have hstep := step_u F u k
      have hf0 := hfr.1
      have hf1 := hfr.2.1
      have hF0 : 0 ≤ F * u := Int.mul_nonneg hb3 (by omega)
      have HLT := hid hlt
      obtain ⟨p, hp⟩ : ∃ p, frm a u F k = p := ⟨_, rfl⟩
      obtain ⟨q, hq⟩ : ∃ q, (F + k) * u + u = q := ⟨_, rfl⟩
      have hq0 : 0 ≤ q := by rw [← hq, ← hstep]; exact Int.mul_nonneg (by omega) (by omega)
      have HT := hid (show too a n u F K k = q by unfold too; rw [if_neg (by omega), hstep, hq])
      have HPC := hid (show pc a n u F K k = (p, q - p) by unfold pc; rw [HT.out, hp])
      have HNX := hid (show frm a u F (k + 1) = q by rw [← too_frm a n u F hlt, HT.out])
      rw [hp] at hf0 hf1 ⊢
      rw [hq] at hstep hmid
      have hlt3 : F + (k : Int) < F + (K : Int) := by omega
      have hm1 : IntKind.i64.wrap ((F + k + 1) * u) = q := by rw [hstep, IntKind.wrap_i64]; omega
      have hm2 : wrap64 ((F + k + 1) * u) = q := by rw [hstep]; exact w64 _ (by omega)
      have FW := hid hf
      have BX := hid hb
      have OX := hid ho
      clear hf hb ho hfr hk hlt hp
      go_wp2_with fail
      try rw [hq]
      refine (between_ok p q _ (by omega)).mono ?_
      rintro e w5 ⟨rfl, f5⟩
      have FW := kf f5 FW
      have BX := kb f5 BX
      have OX := ko f5 OX
      clear f5
      go_wp2_with (at_builtin; refine app_sp rfl (.tmp 53) (.tmp 57) rfl (w.heap.size + 1) (.slice Av k cv) (spl a n u F K k) rfl (ko (fr1 _ _) OX).out _ 1 _ [(p, q - p)] rfl (lit_rd2 _ _ _ _ (by simp)) (by rw [HL.out]; omega) (by have := BX.out.lt; simp; omega) ?_)
      intro A6 c6 w6 o6 f6
      have FW := hid (fr_own (FW.out.alloc _) (ko (fr1 _ _) OX).out (by omega) f6)
      have BX := hid (kbo (BX.out.alloc _) (ko (fr1 _ _) OX).out (by omega) f6)
      have O6 := hid (show Out (w.heap.size + 1) w6 (.slice A6 (k + 1) c6) (spl a n u F K (k + 1)) by rw [spl_succ, HPC.out]; rw [HL.out] at o6; exact o6)
      clear o6 f6
      go_wp2
      go_roundw
      case rel => exact ⟨k + 1, A6, c6, HLT.out, by first | (push_cast; rw [Int.add_assoc]) | go_num, by rw [HNX.out], by rw [HL.out], by rw [HL.out]; exact O6.out, FW.out, BX.out⟩
      case measure => have := HLT.out; simp [intOf]; omega
    · obtain rfl : k = K := by omega
      have HT := hid (show too a n u F k k = a + n by unfold too; rw [if_pos rfl])
      have hf0 := hfr.1
      have hf1 := hfr.2.1
      obtain ⟨p, hp⟩ : ∃ p, frm a u F k = p := ⟨_, rfl⟩
      have HPC := hid (show pc a n u F k k = (p, a + n - p) by unfold pc; rw [HT.out, hp])
      rw [hp] at hf0 hf1 ⊢
      have FW := hid hf
      have BX := hid hb
      have OX := hid ho
      have c0 := BX.out.cell 0
      have c1 := BX.out.cell 1
      simp only [List.getElem?_toArray, List.getElem?_cons_zero, List.getElem?_cons_succ] at c0 c1
      clear hf hb ho hfr hk hlt hp
      go_wp2_with fail
      refine (end_may a n _ HG.out.m).mono ?_
      rintro e w5 ⟨rfl, f5⟩
      have FW := kf f5 FW
      have BX := kb f5 BX
      have OX := ko f5 OX
      clear f5 c0 c1
      go_wp2_with fail
      refine (between_ok p (a + n) _ (by omega)).mono ?_
      rintro e w6 ⟨rfl, f6⟩
      have FW := kf f6 FW
      have BX := kb f6 BX
      have OX := ko f6 OX
      clear f6
      go_wp2_with (at_builtin; refine app_sp rfl (.tmp 60) (.tmp 65) rfl (w.heap.size + 1) (.slice Av k cv) (spl a n u F k k) rfl (ko (fr1 _ _) OX).out _ 1 _ [(p, a + n - p)] rfl (lit_rd2 _ _ _ _ (by simp)) (by rw [HL.out]; omega) (by have := BX.out.lt; simp; omega) ?_)
      intro A6 c6 w7 o6 f6
      have FW := hid (fr_own (FW.out.alloc _) (ko (fr1 _ _) OX).out (by omega) f6)
      have O6 := hid (show Out (w.heap.size + 1) w7 (.slice A6 (k + 1) c6) (spl a n u F k (k + 1)) by rw [spl_succ, HPC.out]; rw [HL.out] at o6; exact o6)
      clear o6 f6
      go_wp2
      go_ret
      rw [HL.out]
      exact ⟨_, _, rfl, O6.out, FW.out⟩
theorem split_ok (a n u F : Int) (K : Nat) (w : World) (hg : Gd a n u F K) (hu : u ≤ 9223372036854775807) (hK : K < 4096) : Calls Tryd.prog 76 #[.agg #[.int .i64 a, .int .i64 n], .int .i64 u] w fun e w' => RetS w w' e (spl a n u F K (K + 1)) := by
  refine (split_own a n u F K w hg hu hK).mono ?_
  rintro e w' ⟨A, c, rfl, ho, hf⟩
  exact .mk ho.rd hf
end Go.Proofs.YtllolilpchmkiaaDoor.SpU
