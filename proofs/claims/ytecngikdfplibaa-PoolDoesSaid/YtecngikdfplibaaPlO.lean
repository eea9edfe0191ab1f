/- Contracts: two lists of numbers held against each other; the document's own Load; whether a pool is as it should be. Conditions: the pools lie in memory as PlB says; numbers of zones and the geometry's Seq have 64 bits. -/
import Derived.Test.YtecngikdfplibaaPlK
import Derived.BigQuiet
namespace Go.Proofs.Ytecngikdfplibaa.PlO
open Go.RowKit MSep MSepC MGeM GeA PlM PlA PlB PlC PlD PlE PlH PlI PlJ PlK

set_option maxRecDepth 100000 in
theorem same_ok (A B : Option Addr) (n1 c1 n2 c2 : Nat) (L : List Int) (w : World) (h1 : RdI w A n1 L) (h2 : RdI w B n2 L) (hl : L.length ≤ 17592186044416) : Calls Try.prog 29 #[.slice A n1 c1, .slice B n2 c2] w fun e w' => e = .returned (.bool true) ∧ Fr No w w' := by
  obtain rfl : L.length = n1 := h1.1
  obtain rfl : L.length = n2 := h2.1
  have H1 := hid h1
  have H2 := hid h2
  have HL := hid hl
  clear h1 h2 hl
  go_enter Try.func29, Try.ntmps29
  go_wp2
  go_loopw [5] (fun i wr => ∃ j : Nat, i = .int .i64 j ∧ j ≤ L.length ∧ Fr No w wr) (fun i _ => L.length - (intOf i).toNat)
  case atStart => exact ⟨0, rfl, by omega, Fr.refl _ _⟩
  case round =>
    obtain ⟨j, rfl, hj, hf⟩ := hrel
    by_cases hlt : j < L.length
    case neg =>
      obtain rfl : j = L.length := by omega
      go_wp2
      go_ret
      exact ⟨rfl, hf⟩
    obtain ⟨y, hy⟩ : ∃ y, L[j]? = some y := ⟨_, List.getElem?_eq_getElem hlt⟩
    obtain ⟨g, oo, rfl, _, hc⟩ := (H1.out.fr hf).at_ (by omega)
    obtain ⟨g2, oo2, rfl, _, hc2⟩ := (H2.out.fr hf).at_ (by omega)
    have cj := hc j y hy
    have cj2 := hc2 j y hy
    have hjz : (j : Int) < (L.length : Int) := by omega
    have hw1 : wrap64 ((j : Int) + 1) = (j : Int) + 1 := by have := HL.out; exact w64 _ (by omega)
    have HF := hid hf
    clear hc hc2 hy hf
    go_upto_region 6 with fail
    go_quiet (fail)
    go_wp2
    go_roundw
    case rel => exact ⟨j + 1, by go_num, by omega, HF.out.drewN _⟩
    case measure => first | exact next_m _ _ hlt hw1 | (simp only [intOf]; omega)

set_option maxRecDepth 100000 in
set_option maxHeartbeats 4000000 in
theorem rload_len (A : Option Addr) (cp : Nat) (c s n l k : Int) (R : List Int) (w : World) (hl : ¬ (R.length : Int) = s) : Calls Try.prog 30 #[.agg #[.int .i64 c, .int .i64 s, .int .i64 n, .int .i64 l, .int .i64 k], .slice A R.length cp] w fun e w' => e = .returned (.tuple #[.pointer none, .bool false]) ∧ Fr No w w' := by
  have HF := hid (fr1 w (bg c s n l k))
  have P0 := hid (BG.new w c s n l k)
  obtain ⟨_, g1, _⟩ := P0.out.cells
  have hb : ((R.length : Int) != s) = true := by simpa using hl
  clear hl
  go_enter Try.func30, Try.ntmps30
  go_wp2
  go_ret2
  exact ⟨rfl, HF.out⟩
set_option maxRecDepth 100000 in
set_option maxHeartbeats 4000000 in
theorem rload_role (A : Option Addr) (cp : Nat) (c s n l k : Int) (R : List Int) (ho : ¬ ok R) (w : World) (hl : (R.length : Int) = s) (hln : R.length ≤ 1000000) (hx : RdI w A R.length R) : Calls Try.prog 30 #[.agg #[.int .i64 c, .int .i64 s, .int .i64 n, .int .i64 l, .int .i64 k], .slice A R.length cp] w fun e w' => e = .returned (.tuple #[.pointer none, .bool false]) ∧ Fr No w w' := by
  have HF := hid (fr1 w (bg c s n l k))
  have P0 := hid (BG.new w c s n l k)
  obtain ⟨_, g1, _⟩ := P0.out.cells
  have hb : ((R.length : Int) != s) = false := by simpa using hl
  have HX := hid hx
  have HLN := hid hln
  have HO := hid ho
  clear ho
  clear hl hln hx
  go_enter Try.func30, Try.ntmps30
  go_wp2
  obtain ⟨W, hW⟩ : ∃ W, w.alloc (.cells #[.int .i64 c, .int .i64 s, .int .i64 n, .int .i64 l, .int .i64 k] 23) = W := ⟨_, rfl⟩
  rw [hW] at HF P0 g1 ⊢
  go_loopw [6] (fun i wr => ∃ j : Nat, i = .int .i64 j ∧ j ≤ R.length ∧ wr = W ∧ Hid (∀ i y, i < j → R[i]? = some y → 0 ≤ y ∧ y ≤ 5)) (fun i _ => R.length - (intOf i).toNat)
  case atStart => exact ⟨0, rfl, by omega, rfl, hid (fun _ _ h => absurd h (by omega))⟩
  case round =>
    obtain ⟨j, rfl, hj, hwr, HB⟩ := hrel
    subst wr
    by_cases hlt : j < R.length
    case pos =>
      obtain ⟨y, hy⟩ : ∃ y, R[j]? = some y := ⟨_, List.getElem?_eq_getElem hlt⟩
      obtain ⟨g, oo, rfl, _, hc⟩ := (HX.out.fr HF.out).at_ (by omega)
      have cj := hc j y hy
      have hjz : (j : Int) < (R.length : Int) := by omega
      have hw1 : wrap64 ((j : Int) + 1) = (j : Int) + 1 := by have := HLN.out; exact w64 _ (by omega)
      by_cases h1 : y < 0
      · clear hy hc
        go_wp2
        go_ret2
        exact ⟨rfl, HF.out⟩
      by_cases h2 : 5 < y
      · have d1 : decide (y < 0) = false := decide_eq_false h1
        clear hy hc
        go_wp2
        go_ret2
        exact ⟨rfl, HF.out⟩
      have d1 : decide (y < 0) = false := decide_eq_false h1
      have d2 : decide (5 < y) = false := decide_eq_false h2
      have HB2 : Hid (∀ i y, i < j + 1 → R[i]? = some y → 0 ≤ y ∧ y ≤ 5) := hid (by
        intro i y' hi hy'
        by_cases hij : i = j
        · subst hij
          rw [hy] at hy'
          injection hy' with hy'
          omega
        · exact HB.out i y' (by omega) hy')
      clear hy hc HB
      go_wp2
      go_roundw
      case rel => exact ⟨j + 1, by go_num, by omega, by trivial, HB2⟩
      case measure => first | exact next_m _ _ hlt hw1 | (simp only [intOf]; omega)
    obtain rfl : j = R.length := by omega
    exact absurd (fun y hy => by
      obtain ⟨i, hi⟩ := List.getElem?_of_mem hy
      exact HB.out i y (List.getElem?_eq_some_iff.1 hi).1 hi) HO.out
set_option maxRecDepth 100000 in
set_option maxHeartbeats 4000000 in
theorem rload_s (A : Option Addr) (cp : Nat) (c s n l k : Int) (R : List Int) (ho : ok R) (v : Bool) (hm : mayG ⟨c, s, n, l, k⟩) (hv : v = true ↔ sound k (s - k - 1) R) (w : World) (hl : (R.length : Int) = s) (hln : R.length ≤ 1000000) (hx : RdI w A R.length R) : Calls Try.prog 30 #[.agg #[.int .i64 c, .int .i64 s, .int .i64 n, .int .i64 l, .int .i64 k], .slice A R.length cp] w fun e w' => ∃ x A' cp', e = .returned (.tuple #[.pointer (some ⟨x, 0, none⟩), .bool v]) ∧ QA w' x A' cp' c s n l k R ∧ w.heap.size ≤ x ∧ (∀ g, (Value.slice A' R.length cp').ownBlock = some g → w.heap.size ≤ g) ∧ Fr No w w' := by
  have HF := hid (fr1 w (bg c s n l k))
  have P0 := hid (BG.new w c s n l k)
  obtain ⟨_, g1, _⟩ := P0.out.cells
  have hb : ((R.length : Int) != s) = false := by simpa using hl
  have HX := hid hx
  have HLN := hid hln
  have HO := hid ho
  clear ho
  have HV := hid hv
  have HM := hid hm
  clear hv hm
  clear hl hln hx
  go_enter Try.func30, Try.ntmps30
  go_wp2
  obtain ⟨W, hW⟩ : ∃ W, w.alloc (.cells #[.int .i64 c, .int .i64 s, .int .i64 n, .int .i64 l, .int .i64 k] 23) = W := ⟨_, rfl⟩
  rw [hW] at HF P0 g1 ⊢
  go_loopw [6] (fun i wr => ∃ j : Nat, i = .int .i64 j ∧ j ≤ R.length ∧ wr = W) (fun i _ => R.length - (intOf i).toNat)
  case atStart => exact ⟨0, rfl, by omega, rfl⟩
  case round =>
    obtain ⟨j, rfl, hj, hwr⟩ := hrel
    subst wr
    by_cases hlt : j < R.length
    case pos =>
      obtain ⟨y, hy⟩ : ∃ y, R[j]? = some y := ⟨_, List.getElem?_eq_getElem hlt⟩
      obtain ⟨g, oo, rfl, _, hc⟩ := (HX.out.fr HF.out).at_ (by omega)
      have cj := hc j y hy
      have hjz : (j : Int) < (R.length : Int) := by omega
      have hw1 : wrap64 ((j : Int) + 1) = (j : Int) + 1 := by have := HLN.out; exact w64 _ (by omega)
      have hyo := HO.out y (List.mem_of_getElem? hy)
      have d1 : decide (y < 0) = false := decide_eq_false (by omega)
      have d2 : decide (5 < y) = false := decide_eq_false (by omega)
      clear hy hc
      go_wp2
      go_roundw
      case rel => exact ⟨j + 1, by go_num, by omega, by trivial⟩
      case measure => first | exact next_m _ _ hlt hw1 | (simp only [intOf]; omega)
    have hjR : j = R.length := by omega
    subst j
    obtain ⟨q0, q1, q2, q3, q4⟩ := P0.out.cells
    have hP0lt := HF.out.size
    obtain ⟨G0, hG0⟩ : ∃ G0, w.heap.size = G0 := ⟨_, rfl⟩
    go_upto_region 8 with fail
    have FW : Hid (Fr No W W) := hid (Fr.refl No _)
    rw [hG0] at q0 q1 q2 q3 q4 ⊢
    have FW := kd FW
    refine wp_region_noPanic ?_
    refine wp_region_held_drew (S := (fun W' => W'.cell? ⟨G0, 0, none⟩ = some (.int .i64 c) ∧ W'.cell? ⟨G0, 1, none⟩ = some (.int .i64 s) ∧ W'.cell? ⟨G0, 2, none⟩ = some (.int .i64 n) ∧ W'.cell? ⟨G0, 3, none⟩ = some (.int .i64 l) ∧ W'.cell? ⟨G0, 4, none⟩ = some (.int .i64 k) ∧ Hid (Fr No W W'))) (by kernel_rfl) ?_ (fun hHeld => ?_)
    · (try dsimp only); (first | (go_split_ands; exact ⟨kc f (by assumption), kc f (by assumption), kc f (by assumption), kc f (by assumption), kc f (by assumption), by assumption⟩) | (go_split_ands; exact ⟨(by assumption), (by assumption), (by assumption), (by assumption), (by assumption), by assumption⟩) | (go_split_ands; exact ⟨kc (fr1 _ _) (by assumption), kc (fr1 _ _) (by assumption), kc (fr1 _ _) (by assumption), kc (fr1 _ _) (by assumption), kc (fr1 _ _) (by assumption), kfa (by assumption)⟩) | (go_split_ands; exact ⟨kc (fr1d _ _) (by assumption), kc (fr1d _ _) (by assumption), kc (fr1d _ _) (by assumption), kc (fr1d _ _) (by assumption), kc (fr1d _ _) (by assumption), kfae (by assumption)⟩))
    refine wpAnyH_take (i := 0) (v := (.agg #[.int .i64 c, .int .i64 s, .int .i64 n, .int .i64 l, .int .i64 k])) rfl (by kernel_rfl) (by kernel_rfl) (by kernel_rfl) (fun _ _ _ h => h) (Or.inl ⟨by kernel_rfl, fun w hSw => by first | (go_simp; done) | (go_simp; with_reducible rfl) | (go_simp; omega)⟩) (by assumption) ?_
    try simp only [Act.put, List.getElem_toArray, List.getElem_cons_zero, List.setIfInBounds_toArray, List.set_cons_zero, List.set_cons_succ]
    refine wpAnyH_take (i := 2) (v := ?v1) rfl (by kernel_rfl) (by kernel_rfl) (by kernel_rfl) (fun _ _ _ h => h) (Or.inl ⟨by kernel_rfl, ?y1⟩) (by assumption) ?_
    case y1 => (intro w hSw; (try dsimp only at hSw); go_simp; all_goals with_reducible rfl)
    try simp only [Act.put, List.getElem_toArray, List.getElem_cons_succ, List.getElem_cons_zero, List.setIfInBounds_toArray, List.set_cons_zero, List.set_cons_succ]
    refine wpAnyH_ready (rs := [1]) (by kernel_rfl) (by simp) (AllReadyH.cons rfl (fun K hK => ?_) AllReadyH.nil)
    go_simp
    refine hK.out _ _ ?_ (fun hHeld => ?_)
    · (try dsimp only); (first | (go_split_ands; exact ⟨kc f (by assumption), kc f (by assumption), kc f (by assumption), kc f (by assumption), kc f (by assumption), by assumption⟩) | (go_split_ands; exact ⟨(by assumption), (by assumption), (by assumption), (by assumption), (by assumption), by assumption⟩) | (go_split_ands; exact ⟨kc (fr1 _ _) (by assumption), kc (fr1 _ _) (by assumption), kc (fr1 _ _) (by assumption), kc (fr1 _ _) (by assumption), kc (fr1 _ _) (by assumption), kfa (by assumption)⟩) | (go_split_ands; exact ⟨kc (fr1d _ _) (by assumption), kc (fr1d _ _) (by assumption), kc (fr1d _ _) (by assumption), kc (fr1d _ _) (by assumption), kc (fr1d _ _) (by assumption), kfae (by assumption)⟩))
    clear hK K
    try simp only [Act.put, List.getElem_toArray, List.getElem_cons_succ, List.getElem_cons_zero, List.setIfInBounds_toArray, List.set_cons_zero, List.set_cons_succ]
    have O0 := hid (own_lit W.drew)
    have FW := hHeld.2.2.2.2.2
    refine wpAnyH_ready (rs := [3]) (by kernel_rfl) (by simp) (AllReadyH.cons rfl (fun K hK => ?_) AllReadyH.nil)
    refine app_i_step (by rfl) (.tmp 32) (.tmp 33) (by rfl) W.drew.heap.size _ [] (by rfl) O0.out _ R.length _ R (by rfl) ((HX.out.fr HF.out).fr FW.out) (by have := HLN.out; simp; omega) (by simp) ?_
    intro A1 c1 w1 o1 f1
    try simp only [List.length_nil, Nat.zero_add, List.nil_append] at o1
    try simp only [List.length_nil, Nat.zero_add]
    have FW := hid (fr_ownI FW.out (lit_ge W.drew) (Nat.le_refl _) f1)
    have FW1 := FW
    have HG := hid (fun g (hg : (Value.slice A1 R.length c1).ownBlock = some g) => Nat.le_trans HF.out.size (own_ge o1 g hg).1)
    have O1 := hid o1
    have q0 := kc FW.out q0
    have q1 := kc FW.out q1
    have q2 := kc FW.out q2
    have q3 := kc FW.out q3
    have q4 := kc FW.out q4
    clear o1 f1
    refine hK.out _ _ ?_ (fun hHeld => ?_)
    · (try dsimp only); (first | (go_split_ands; exact ⟨kc f (by assumption), kc f (by assumption), kc f (by assumption), kc f (by assumption), kc f (by assumption), by assumption⟩) | (go_split_ands; exact ⟨(by assumption), (by assumption), (by assumption), (by assumption), (by assumption), by assumption⟩) | (go_split_ands; exact ⟨kc (fr1 _ _) (by assumption), kc (fr1 _ _) (by assumption), kc (fr1 _ _) (by assumption), kc (fr1 _ _) (by assumption), kc (fr1 _ _) (by assumption), kfa (by assumption)⟩) | (go_split_ands; exact ⟨kc (fr1d _ _) (by assumption), kc (fr1d _ _) (by assumption), kc (fr1d _ _) (by assumption), kc (fr1d _ _) (by assumption), kc (fr1d _ _) (by assumption), kfae (by assumption)⟩))
    clear hK K
    try simp only [Act.put, List.getElem_toArray, List.getElem_cons_succ, List.getElem_cons_zero, List.setIfInBounds_toArray, List.set_cons_zero, List.set_cons_succ]
    refine wpAnyH_take (i := 4) (v := ?v2) rfl (by kernel_rfl) (by kernel_rfl) (by kernel_rfl) (fun _ _ _ h => h) (Or.inl ⟨by kernel_rfl, ?y2⟩) (by assumption) ?_
    case y2 => (intro w hSw; (try dsimp only at hSw); go_simp; all_goals with_reducible rfl)
    try simp only [Act.put, List.getElem_toArray, List.getElem_cons_succ, List.getElem_cons_zero, List.setIfInBounds_toArray, List.set_cons_zero, List.set_cons_succ]
    refine wpAnyH_ready (rs := [5]) (by kernel_rfl) (by simp) (AllReadyH.cons rfl (fun K hK => ?_) AllReadyH.nil)
    go_simp
    refine hK.out _ _ ?_ (fun hHeld => ?_)
    · (try dsimp only); (first | (go_split_ands; exact ⟨kc f (by assumption), kc f (by assumption), kc f (by assumption), kc f (by assumption), kc f (by assumption), by assumption⟩) | (go_split_ands; exact ⟨(by assumption), (by assumption), (by assumption), (by assumption), (by assumption), by assumption⟩) | (go_split_ands; exact ⟨kc (fr1 _ _) (by assumption), kc (fr1 _ _) (by assumption), kc (fr1 _ _) (by assumption), kc (fr1 _ _) (by assumption), kc (fr1 _ _) (by assumption), kfa (by assumption)⟩) | (go_split_ands; exact ⟨kc (fr1d _ _) (by assumption), kc (fr1d _ _) (by assumption), kc (fr1d _ _) (by assumption), kc (fr1d _ _) (by assumption), kc (fr1d _ _) (by assumption), kfae (by assumption)⟩))
    clear hK K
    try simp only [Act.put, List.getElem_toArray, List.getElem_cons_succ, List.getElem_cons_zero, List.setIfInBounds_toArray, List.set_cons_zero, List.set_cons_succ]
    have HQ : Hid (QA _ w1.heap.size A1 c1 c s n l k R) := hid (PlK.QA.mk2 rfl (Blk.new w1 _ _) (OutI.fr0 O1.out (fr1 _ _)))
    refine wpAnyH_take (i := 6) (v := ?v3) rfl (by kernel_rfl) (by kernel_rfl) (by kernel_rfl) (fun _ _ _ h => h) (Or.inl ⟨by kernel_rfl, ?y3⟩) (by assumption) ?_
    case y3 => (intro w hSw; (try dsimp only at hSw); go_simp; all_goals with_reducible rfl)
    try simp only [Act.put, List.getElem_toArray, List.getElem_cons_succ, List.getElem_cons_zero, List.setIfInBounds_toArray, List.set_cons_zero, List.set_cons_succ]
    refine wpAnyH_done (by kernel_rfl) ?_ _
    refine NoPanic.normal ?_
    have HS := hid (rsound_ok _ A1 c1 c s n l k R (s - k - 1) v _ HM.out rfl HQ.out HLN.out HV.out)
    go_wp2_with (go_at_call 62; refine HS.out.mono ?_; rintro e w3 ⟨rfl, f⟩; replace HQ := hid (HQ.out.fr0 f); have F3 := hid f; clear f)
    go_ret2
    exact ⟨_, A1, c1, rfl, HQ.out, Nat.le_trans HF.out.size FW1.out.size, HG.out, HF.out.trans ((FW1.out.alloc _).trans F3.out)⟩
end Go.Proofs.Ytecngikdfplibaa.PlO
