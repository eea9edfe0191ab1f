/- Contract: the sector of a record that may be, by the program. Conditions: its deltas read as a list; the table of sums is as its text lays it. -/
import Derived.Test.YtdepkpdolkipcaaDoorRcF
import Derived.Test.YtdepkpdolkipcaaDoorWrB
import Derived.Test.YtdepkpdolkipcaaDoorCrcG
import Derived.Lib.SlBytesConst
namespace Go.Proofs.YtdepkpdolkipcaaDoor.RcG
open Go.RowKit MSep MSepC LeW LeR RcM RcA RcB RcC DlO Kit WrB CrcM CrcA CrcE

theorem u64w (n : Int) (h : 0 ≤ n ∧ n < 18446744073709551616) : IntKind.u64.wrap n = n := by rw [IntKind.wrap_u64]; omega
theorem pad_rest (zs : List Int) (h : zs.length ≤ 124) : seal_ (padded 124 zs) = seal_ zs := by
  have : rest (padded 124 zs) = rest zs := by
    unfold rest padded
    rw [List.length_append, List.length_replicate]
    rw [show 124 - (zs.length + (124 - zs.length)) = 0 by omega]
    simp
  unfold seal_
  rw [this]
theorem pad_u8 (zs : List Int) (h : ∀ x ∈ zs, 0 ≤ x ∧ x ≤ 255) : ∀ x ∈ padded 124 zs, 0 ≤ x ∧ x ≤ 255 := by
  intro x hx
  unfold padded at hx
  rcases List.mem_append.1 hx with hx | hx
  · exact h x hx
  · rw [List.eq_of_mem_replicate hx]; decide
theorem TabAt.pos {w : World} (h : TabAt w) : 0 < w.heap.size := World.block_lt_of_cell? w _ (h 0 _ (by rfl))
theorem rdD_fr2 {B : Nat} {w w' : World} {A : Option Addr} {n : Nat} {l : List De} (h : RdD w A n l) (hf : Fr (NP B w.heap.size) w w') (hB : w.heap.size < B) : RdD w' A n l :=
  RcD.rdD_fr h hf (fun h0 g o hg => by
    obtain ⟨g', o', h1, h2, _⟩ := h.at_ h0
    rw [hg] at h1
    cases h1
    unfold NP
    omega)
theorem ds6 {n : Nat} {x y : List Int} (h : x.length = 16 * n) (h2 : n ≤ 5) (h3 : y.length = 24) : (y ++ x).length ≤ 104 := by rw [List.length_append]; omega
theorem fl_snoc {xs : List De} {k : Nat} {d : De} (h : xs[k]? = some d) : (xs.take (k + 1)).flatMap eD = (xs.take k).flatMap eD ++ eD d := by
  rw [RcB.take_snoc h]; simp
set_option maxRecDepth 100000 in
set_option maxHeartbeats 4000000 in
theorem encode_yes (e s : Int) (b : Bool) (u : Int) (A : Option Addr) (l c : Nat) (xs : List De) (w : World) (hl : l ≤ maxLen) (hx : RdD w A l xs) (hm : mayR ⟨e, s, b, u, xs⟩) (hT : TabAt w) :
    Calls Tryd.prog 25 #[rv e s b u A l c] w fun E w' => ∃ g, E = .returned (.tuple #[.slice (some ⟨g, 0, none⟩) 128 128, .int .i64 0]) ∧ Blk w' g 5 (cells (seal_ (eR ⟨e, s, b, u, xs⟩))).toArray ∧ Fr No w w' := by
  have h6 : l ≤ 6 := by rw [← hx.1]; exact hm.2.1
  have hlx := hx.1
  subst hlx
  have HE := hid hm.1
  have HAll := hid hm.2.2
  have hpos := TabAt.pos hT

  have HF0 := hid ((Fr.refl No w).alloc (rx e s b u A xs.length c))
  have HR0 := hid (show RB (w.alloc (rx e s b u A xs.length c)) w.heap.size e s b u A xs.length c from Blk.new w _ _)
  have HT := hid hT
  have HX := hid hx
  clear hT hx
  have HMay := hid (fun W (f : Fr No w W) => may_ok e s b u A xs.length c xs W hl (HX.out.fr f))
  have u1 : IntKind.u64.wrap e = e := u64w e (by have := HE.out; unfold mayH at this; simp only [] at this; omega)
  have u2 : IntKind.u64.wrap s = s := u64w s (by have := HE.out; unfold mayH at this; simp only [] at this; omega)
  have u3 : IntKind.u64.wrap u = u := u64w u (by have := HE.out; unfold mayH at this; simp only [] at this; omega)
  have u4 : IntKind.u64.wrap (xs.length : Int) = (xs.length : Int) := u64w _ (by omega)
  have kcv := fun w C n c => Lib.run_convert_bytes_const (P := Tryd.prog) w 26 5 C n c Tryd.underlying26 Tryd.underlying5
  cases b
  · go_enter Tryd.func25, Tryd.ntmps25
    go_wp2_with (first | (go_at_call 26; refine (HMay.out _ HF0.out).mono ?_; rintro e' w1 ⟨rfl, f1⟩; rw [decide_eq_true hm]; have HF1 := hid (HF0.out.trans f1); have HR1 := hid (RB.fr HR0.out f1 (fun h => h)); obtain ⟨r0, r1, r2, r3, r4⟩ := RB.cells HR1.out; clear f1 hm) | (go_at_call 41; refine (new_wp w.heap.size _ (Blk.lt HR1.out)).mono ?_; rintro e' w2 ⟨rfl, HW, f2⟩; obtain ⟨B, hB⟩ : ∃ B, w1.heap.size = B := ⟨_, rfl⟩; have hGB : w.heap.size < B := (by rw [← hB]; exact Blk.lt HR1.out); rw [hB] at HW ⊢; have HF2 := hid (HF1.out.trans f2); have HR2 := hid (RB.fr HR1.out f2 (fun h => h)); clear f2 r0 r1 r2 r3 r4 hB) | (go_at_call 42; go_loud (refine (bytes_wp B _ 2 2 [74, 82] B w.heap.size [] _ (by decide) (CrcG.lit_rd w2 [74, 82] (2, 3)) (HW.fr ((Fr.refl No _).alloc _))).mono ?_; rintro e' w3 ⟨rfl, HW, f3⟩; have FW : Hid (Fr (NP B w.heap.size) w w3) := hid (((HF2.out.alloc _).mono fun _ _ h => h.elim).trans f3); obtain ⟨r0, r1, r2, r3, r4⟩ := RB.cells (RB.fr (HR2.out.alloc (.cells #[.int .u8 74, .int .u8 82] 5 (2, 3))) f3 (by unfold NP; omega)); clear f3)))
    have HW := HW.drew
    have FW := kdN FW
    refine wp_region_noPanic ?_
    refine wp_region_held_drew (S := (fun W' => W'.cell? ⟨w.heap.size, 0, none⟩ = some (.int .i64 e) ∧ W'.cell? ⟨w.heap.size, 1, none⟩ = some (.int .i64 s) ∧ W'.cell? ⟨w.heap.size, 2, none⟩ = some (.bool false) ∧ W'.cell? ⟨w.heap.size, 3, none⟩ = some (.int .i64 u) ∧ W'.cell? ⟨w.heap.size, 4, none⟩ = some (.slice A xs.length c) ∧ Hid (Fr (NP B w.heap.size) w W'))) (by kernel_rfl) ?_ (fun hHeld => ?_)
    · (try dsimp only); (first | (go_split_ands; exact ⟨kcN f (by assumption), kcN f (by assumption), kcN f (by assumption), kcN f (by assumption), kcN f (by assumption), by assumption⟩) | (go_split_ands; exact ⟨(by assumption), (by assumption), (by assumption), (by assumption), (by assumption), by assumption⟩) | (go_split_ands; exact ⟨kcN (fr1 _ _) (by assumption), kcN (fr1 _ _) (by assumption), kcN (fr1 _ _) (by assumption), kcN (fr1 _ _) (by assumption), kcN (fr1 _ _) (by assumption), kfaN (by assumption)⟩))
    refine wpAnyH_take (i := 0) (v := ?v1) rfl (by kernel_rfl) (by kernel_rfl) (by kernel_rfl) (fun _ _ _ h => h) (Or.inl ⟨by kernel_rfl, ?y1⟩) (by assumption) ?_
    case y1 => (intro w hSw; (try dsimp only at hSw); go_simp; all_goals with_reducible rfl)
    try simp only [Act.put, List.getElem_toArray, List.getElem_cons_zero, List.setIfInBounds_toArray, List.set_cons_zero, List.set_cons_succ]
    refine wpAnyH_take (i := 1) (v := ?v2) rfl (by kernel_rfl) (by kernel_rfl) (by kernel_rfl) (fun _ _ _ h => h) (Or.inl ⟨by kernel_rfl, ?y2⟩) (by assumption) ?_
    case y2 => (intro w hSw; (try dsimp only at hSw); go_simp; all_goals with_reducible rfl)
    try simp only [Act.put, List.getElem_toArray, List.getElem_cons_succ, List.getElem_cons_zero, List.setIfInBounds_toArray, List.set_cons_zero, List.set_cons_succ]
    refine wpAnyH_take (i := 3) (v := ?v3) rfl (by kernel_rfl) (by kernel_rfl) (by kernel_rfl) (fun _ _ _ h => h) (Or.inl ⟨by kernel_rfl, ?y3⟩) (by assumption) ?_
    case y3 => (intro w hSw; (try dsimp only at hSw); go_simp; all_goals with_reducible rfl)
    try simp only [Act.put, List.getElem_toArray, List.getElem_cons_succ, List.getElem_cons_zero, List.setIfInBounds_toArray, List.set_cons_zero, List.set_cons_succ]
    refine wpAnyH_take (i := 4) (v := ?v4) rfl (by kernel_rfl) (by kernel_rfl) (by kernel_rfl) (fun _ _ _ h => h) (Or.inl ⟨by kernel_rfl, ?y4⟩) (by assumption) ?_
    case y4 => (intro w hSw; (try dsimp only at hSw); go_simp; all_goals with_reducible rfl)
    try simp only [Act.put, List.getElem_toArray, List.getElem_cons_succ, List.getElem_cons_zero, List.setIfInBounds_toArray, List.set_cons_zero, List.set_cons_succ]
    refine wpAnyH_take (i := 5) (v := ?v5) rfl (by kernel_rfl) (by kernel_rfl) (by kernel_rfl) (fun _ _ _ h => h) (Or.inl ⟨by kernel_rfl, ?y5⟩) (by assumption) ?_
    case y5 => (intro w hSw; (try dsimp only at hSw); go_simp; all_goals with_reducible rfl)
    try simp only [Act.put, List.getElem_toArray, List.getElem_cons_succ, List.getElem_cons_zero, List.setIfInBounds_toArray, List.set_cons_zero, List.set_cons_succ]
    refine wpAnyH_take (i := 6) (v := ?v6) rfl (by kernel_rfl) (by kernel_rfl) (by kernel_rfl) (fun _ _ _ h => h) (Or.inl ⟨by kernel_rfl, ?y6⟩) (by assumption) ?_
    case y6 => (intro w hSw; (try dsimp only at hSw); go_simp; all_goals with_reducible rfl)
    try simp only [Act.put, List.getElem_toArray, List.getElem_cons_succ, List.getElem_cons_zero, List.setIfInBounds_toArray, List.set_cons_zero, List.set_cons_succ]
    refine wpAnyH_ready (rs := [2]) (by kernel_rfl) (by simp) (AllReadyH.cons rfl (fun K hK => ?_) AllReadyH.nil)
    go_simp
    go_at_call 46
    refine (put_wp B _ _ B w.heap.size _ _ (by decide) (by first | (simp [low_len]; done) | (simp [low_len]; omega) | omega) (by first | decide | omega | (have := HE.out; unfold mayH at this; omega)) HW).mono ?_
    rintro e W1 ⟨rfl, HW, f⟩
    have FW := kfN f hHeld.2.2.2.2.2
    dsimp only
    refine hK.out _ _ ?_ (fun hHeld => ?_)
    · (try dsimp only); (first | (go_split_ands; exact ⟨kcN f (by assumption), kcN f (by assumption), kcN f (by assumption), kcN f (by assumption), kcN f (by assumption), by assumption⟩) | (go_split_ands; exact ⟨(by assumption), (by assumption), (by assumption), (by assumption), (by assumption), by assumption⟩) | (go_split_ands; exact ⟨kcN (fr1 _ _) (by assumption), kcN (fr1 _ _) (by assumption), kcN (fr1 _ _) (by assumption), kcN (fr1 _ _) (by assumption), kcN (fr1 _ _) (by assumption), kfaN (by assumption)⟩))
    clear hK K
    try simp only [Act.put, List.getElem_toArray, List.getElem_cons_succ, List.getElem_cons_zero, List.setIfInBounds_toArray, List.set_cons_zero, List.set_cons_succ]
    refine wpAnyH_ready (rs := [7]) (by kernel_rfl) (by simp) (AllReadyH.cons rfl (fun K hK => ?_) AllReadyH.nil)
    go_simp
    go_at_call 46
    refine (put_wp B _ _ B w.heap.size _ _ (by decide) (by first | (simp [low_len]; done) | (simp [low_len]; omega) | omega) (by first | decide | omega | (have := HE.out; unfold mayH at this; omega)) HW).mono ?_
    rintro e W1 ⟨rfl, HW, f⟩
    have FW := kfN f hHeld.2.2.2.2.2
    dsimp only
    refine hK.out _ _ ?_ (fun hHeld => ?_)
    · (try dsimp only); (first | (go_split_ands; exact ⟨kcN f (by assumption), kcN f (by assumption), kcN f (by assumption), kcN f (by assumption), kcN f (by assumption), by assumption⟩) | (go_split_ands; exact ⟨(by assumption), (by assumption), (by assumption), (by assumption), (by assumption), by assumption⟩) | (go_split_ands; exact ⟨kcN (fr1 _ _) (by assumption), kcN (fr1 _ _) (by assumption), kcN (fr1 _ _) (by assumption), kcN (fr1 _ _) (by assumption), kcN (fr1 _ _) (by assumption), kfaN (by assumption)⟩))
    clear hK K
    try simp only [Act.put, List.getElem_toArray, List.getElem_cons_succ, List.getElem_cons_zero, List.setIfInBounds_toArray, List.set_cons_zero, List.set_cons_succ]
    refine wpAnyH_done (by kernel_rfl) ?_ _
    refine NoPanic.normal ?_
    go_split_ands
    go_wp2_with fail
    have HW := HW.drew
    have FW := kdN FW
    refine wp_region_noPanic ?_
    refine wp_region_held_drew (S := (fun W' => W'.cell? ⟨w.heap.size, 0, none⟩ = some (.int .i64 e) ∧ W'.cell? ⟨w.heap.size, 1, none⟩ = some (.int .i64 s) ∧ W'.cell? ⟨w.heap.size, 2, none⟩ = some (.bool false) ∧ W'.cell? ⟨w.heap.size, 3, none⟩ = some (.int .i64 u) ∧ W'.cell? ⟨w.heap.size, 4, none⟩ = some (.slice A xs.length c) ∧ Hid (Fr (NP B w.heap.size) w W'))) (by kernel_rfl) ?_ (fun hHeld => ?_)
    · (try dsimp only); (first | (go_split_ands; exact ⟨kcN f (by assumption), kcN f (by assumption), kcN f (by assumption), kcN f (by assumption), kcN f (by assumption), by assumption⟩) | (go_split_ands; exact ⟨(by assumption), (by assumption), (by assumption), (by assumption), (by assumption), by assumption⟩) | (go_split_ands; exact ⟨kcN (fr1 _ _) (by assumption), kcN (fr1 _ _) (by assumption), kcN (fr1 _ _) (by assumption), kcN (fr1 _ _) (by assumption), kcN (fr1 _ _) (by assumption), kfaN (by assumption)⟩))
    refine wpAnyH_take (i := 0) (v := ?v7) rfl (by kernel_rfl) (by kernel_rfl) (by kernel_rfl) (fun _ _ _ h => h) (Or.inl ⟨by kernel_rfl, ?y7⟩) (by assumption) ?_
    case y7 => (intro w hSw; (try dsimp only at hSw); go_simp; all_goals with_reducible rfl)
    try simp only [Act.put, List.getElem_toArray, List.getElem_cons_zero, List.setIfInBounds_toArray, List.set_cons_zero, List.set_cons_succ]
    refine wpAnyH_take (i := 1) (v := ?v8) rfl (by kernel_rfl) (by kernel_rfl) (by kernel_rfl) (fun _ _ _ h => h) (Or.inl ⟨by kernel_rfl, ?y8⟩) (by assumption) ?_
    case y8 => (intro w hSw; (try dsimp only at hSw); go_simp; all_goals with_reducible rfl)
    try simp only [Act.put, List.getElem_toArray, List.getElem_cons_succ, List.getElem_cons_zero, List.setIfInBounds_toArray, List.set_cons_zero, List.set_cons_succ]
    refine wpAnyH_take (i := 2) (v := ?v9) rfl (by kernel_rfl) (by kernel_rfl) (by kernel_rfl) (fun _ _ _ h => h) (Or.inl ⟨by kernel_rfl, ?y9⟩) (by assumption) ?_
    case y9 => (intro w hSw; (try dsimp only at hSw); go_simp; all_goals with_reducible rfl)
    try simp only [Act.put, List.getElem_toArray, List.getElem_cons_succ, List.getElem_cons_zero, List.setIfInBounds_toArray, List.set_cons_zero, List.set_cons_succ]
    refine wpAnyH_take (i := 3) (v := ?v10) rfl (by kernel_rfl) (by kernel_rfl) (by kernel_rfl) (fun _ _ _ h => h) (Or.inl ⟨by kernel_rfl, ?y10⟩) (by assumption) ?_
    case y10 => (intro w hSw; (try dsimp only at hSw); go_simp; all_goals with_reducible rfl)
    try simp only [Act.put, List.getElem_toArray, List.getElem_cons_succ, List.getElem_cons_zero, List.setIfInBounds_toArray, List.set_cons_zero, List.set_cons_succ]
    refine wpAnyH_take (i := 5) (v := ?v11) rfl (by kernel_rfl) (by kernel_rfl) (by kernel_rfl) (fun _ _ _ h => h) (Or.inl ⟨by kernel_rfl, ?y11⟩) (by assumption) ?_
    case y11 => (intro w hSw; (try dsimp only at hSw); go_simp; all_goals with_reducible rfl)
    try simp only [Act.put, List.getElem_toArray, List.getElem_cons_succ, List.getElem_cons_zero, List.setIfInBounds_toArray, List.set_cons_zero, List.set_cons_succ]
    refine wpAnyH_take (i := 6) (v := ?v12) rfl (by kernel_rfl) (by kernel_rfl) (by kernel_rfl) (fun _ _ _ h => h) (Or.inl ⟨by kernel_rfl, ?y12⟩) (by assumption) ?_
    case y12 => (intro w hSw; (try dsimp only at hSw); go_simp; all_goals with_reducible rfl)
    try simp only [Act.put, List.getElem_toArray, List.getElem_cons_succ, List.getElem_cons_zero, List.setIfInBounds_toArray, List.set_cons_zero, List.set_cons_succ]
    refine wpAnyH_take (i := 7) (v := ?v13) rfl (by kernel_rfl) (by kernel_rfl) (by kernel_rfl) (fun _ _ _ h => h) (Or.inl ⟨by kernel_rfl, ?y13⟩) (by assumption) ?_
    case y13 => (intro w hSw; (try dsimp only at hSw); go_simp; all_goals with_reducible rfl)
    try simp only [Act.put, List.getElem_toArray, List.getElem_cons_succ, List.getElem_cons_zero, List.setIfInBounds_toArray, List.set_cons_zero, List.set_cons_succ]
    refine wpAnyH_take (i := 9) (v := ?v14) rfl (by kernel_rfl) (by kernel_rfl) (by kernel_rfl) (fun _ _ _ h => h) (Or.inl ⟨by kernel_rfl, ?y14⟩) (by assumption) ?_
    case y14 => (intro w hSw; (try dsimp only at hSw); go_simp; all_goals with_reducible rfl)
    try simp only [Act.put, List.getElem_toArray, List.getElem_cons_succ, List.getElem_cons_zero, List.setIfInBounds_toArray, List.set_cons_zero, List.set_cons_succ]
    refine wpAnyH_take (i := 10) (v := ?v15) rfl (by kernel_rfl) (by kernel_rfl) (by kernel_rfl) (fun _ _ _ h => h) (Or.inl ⟨by kernel_rfl, ?y15⟩) (by assumption) ?_
    case y15 => (intro w hSw; (try dsimp only at hSw); go_simp; all_goals with_reducible rfl)
    try simp only [Act.put, List.getElem_toArray, List.getElem_cons_succ, List.getElem_cons_zero, List.setIfInBounds_toArray, List.set_cons_zero, List.set_cons_succ]
    refine wpAnyH_take (i := 11) (v := ?v16) rfl (by kernel_rfl) (by kernel_rfl) (by kernel_rfl) (fun _ _ _ h => h) (Or.inl ⟨by kernel_rfl, ?y16⟩) (by assumption) ?_
    case y16 => (intro w hSw; (try dsimp only at hSw); go_simp; all_goals with_reducible rfl)
    try simp only [Act.put, List.getElem_toArray, List.getElem_cons_succ, List.getElem_cons_zero, List.setIfInBounds_toArray, List.set_cons_zero, List.set_cons_succ]
    refine wpAnyH_ready (rs := [4]) (by kernel_rfl) (by simp) (AllReadyH.cons rfl (fun K hK => ?_) AllReadyH.nil)
    go_simp
    go_at_call 46
    refine (put_wp B _ _ B w.heap.size _ _ (by decide) (by first | (simp [low_len]; done) | (simp [low_len]; omega) | omega) (by first | decide | omega | (have := HE.out; unfold mayH at this; omega)) HW).mono ?_
    rintro e W1 ⟨rfl, HW, f⟩
    have FW := kfN f hHeld.2.2.2.2.2
    dsimp only
    refine hK.out _ _ ?_ (fun hHeld => ?_)
    · (try dsimp only); (first | (go_split_ands; exact ⟨kcN f (by assumption), kcN f (by assumption), kcN f (by assumption), kcN f (by assumption), kcN f (by assumption), by assumption⟩) | (go_split_ands; exact ⟨(by assumption), (by assumption), (by assumption), (by assumption), (by assumption), by assumption⟩) | (go_split_ands; exact ⟨kcN (fr1 _ _) (by assumption), kcN (fr1 _ _) (by assumption), kcN (fr1 _ _) (by assumption), kcN (fr1 _ _) (by assumption), kcN (fr1 _ _) (by assumption), kfaN (by assumption)⟩))
    clear hK K
    try simp only [Act.put, List.getElem_toArray, List.getElem_cons_succ, List.getElem_cons_zero, List.setIfInBounds_toArray, List.set_cons_zero, List.set_cons_succ]
    refine wpAnyH_ready (rs := [8]) (by kernel_rfl) (by simp) (AllReadyH.cons rfl (fun K hK => ?_) AllReadyH.nil)
    go_simp
    go_at_call 46
    refine (put_wp B _ _ B w.heap.size _ _ (by decide) (by first | (simp [low_len]; done) | (simp [low_len]; omega) | omega) (by first | decide | omega | (have := HE.out; unfold mayH at this; omega)) HW).mono ?_
    rintro e W1 ⟨rfl, HW, f⟩
    have FW := kfN f hHeld.2.2.2.2.2
    dsimp only
    refine hK.out _ _ ?_ (fun hHeld => ?_)
    · (try dsimp only); (first | (go_split_ands; exact ⟨kcN f (by assumption), kcN f (by assumption), kcN f (by assumption), kcN f (by assumption), kcN f (by assumption), by assumption⟩) | (go_split_ands; exact ⟨(by assumption), (by assumption), (by assumption), (by assumption), (by assumption), by assumption⟩) | (go_split_ands; exact ⟨kcN (fr1 _ _) (by assumption), kcN (fr1 _ _) (by assumption), kcN (fr1 _ _) (by assumption), kcN (fr1 _ _) (by assumption), kcN (fr1 _ _) (by assumption), kfaN (by assumption)⟩))
    clear hK K
    try simp only [Act.put, List.getElem_toArray, List.getElem_cons_succ, List.getElem_cons_zero, List.setIfInBounds_toArray, List.set_cons_zero, List.set_cons_succ]
    refine wpAnyH_ready (rs := [12]) (by kernel_rfl) (by simp) (AllReadyH.cons rfl (fun K hK => ?_) AllReadyH.nil)
    go_simp
    go_at_call 46
    refine (put_wp B _ _ B w.heap.size _ _ (by decide) (by first | (simp [low_len]; done) | (simp [low_len]; omega) | omega) (by first | decide | omega | (have := HE.out; unfold mayH at this; omega)) HW).mono ?_
    rintro e W1 ⟨rfl, HW, f⟩
    have FW := kfN f hHeld.2.2.2.2.2
    dsimp only
    refine hK.out _ _ ?_ (fun hHeld => ?_)
    · (try dsimp only); (first | (go_split_ands; exact ⟨kcN f (by assumption), kcN f (by assumption), kcN f (by assumption), kcN f (by assumption), kcN f (by assumption), by assumption⟩) | (go_split_ands; exact ⟨(by assumption), (by assumption), (by assumption), (by assumption), (by assumption), by assumption⟩) | (go_split_ands; exact ⟨kcN (fr1 _ _) (by assumption), kcN (fr1 _ _) (by assumption), kcN (fr1 _ _) (by assumption), kcN (fr1 _ _) (by assumption), kcN (fr1 _ _) (by assumption), kfaN (by assumption)⟩))
    clear hK K
    try simp only [Act.put, List.getElem_toArray, List.getElem_cons_succ, List.getElem_cons_zero, List.setIfInBounds_toArray, List.set_cons_zero, List.set_cons_succ]
    refine wpAnyH_done (by kernel_rfl) ?_ _
    refine NoPanic.normal ?_
    go_split_ands
    go_wp2_with fail
    go_loopw [43] (fun i wr => ∃ k : Nat, k ≤ xs.length ∧ i = .int .i64 k ∧ WrP wr B w.heap.size B (eH ⟨e, s, false, u, xs⟩ ++ (xs.take k).flatMap eD) ∧ Fr (NP B w.heap.size) w wr) (fun i _ => xs.length - (intOf i).toNat)
    case atStart => exact ⟨0, by omega, rfl, by simpa [eH, b01, List.append_assoc] using HW, FW.out⟩
    case round =>
      clear FW HW
      obtain ⟨k, hk, rfl, HW, hf⟩ := hrel
      have HXk := rdD_fr2 HX.out hf hGB
      by_cases hlt : k < xs.length
      · obtain ⟨d, hd⟩ : ∃ d, xs[k]? = some d := ⟨_, List.getElem?_eq_getElem hlt⟩
        obtain ⟨g, o, rfl, hg, hc⟩ := HXk.at_ (by omega)
        obtain ⟨c0, c1, c2, c3, c4⟩ := hc k d hd
        have hmd := mayD_in (HAll.out d (List.mem_of_getElem? hd))
        have hlt3 : (k : Int) < xs.length := by omega
        have h0 : (0 : Int) ≤ k := by omega
        have HD := hid hd
        have HFk := hid hf
        have hle := ds6 (fl_len (xs.take k)) (by rw [List.length_take]; omega) (eH_len ⟨e, s, false, u, xs⟩)
        obtain ⟨X, hX⟩ : ∃ X, eH ⟨e, s, false, u, xs⟩ ++ (xs.take k).flatMap eD = X := ⟨_, rfl⟩
        rw [hX] at HW hle
        have HX2 := hid hX
        obtain ⟨dk, da, dn, dz, dq⟩ := d
        simp only [] at c0 c1 c2 c3 c4 hmd
        obtain ⟨m1, m2, m3, m4, m5⟩ := hmd
        have v1 := u64w dk (by omega)
        have v2 := u64w da (by omega)
        have v3 := u64w dn (by omega)
        have v4 := u64w dz (by omega)
        have v5 := u64w dq (by omega)
        clear hX hd hf hc HXk r0 r1 r2 r3 r4 u1 u2 u3 u4
        go_wp2_with fail
        have HW := HW.box (dx dk da dn dz dq)
        obtain ⟨T, hT⟩ : ∃ T, wr.heap.size = T := ⟨_, rfl⟩
        have HBk := hid (show Blk (wr.alloc (dx dk da dn dz dq)) T 58 #[.int .i64 dk, .int .i64 da, .int .i64 dn, .int .i64 dz, .int .i64 dq] by rw [← hT]; exact Blk.new wr _ _)
        have FW : Hid (Fr (NP B w.heap.size) w (wr.alloc (dx dk da dn dz dq))) := hid (HFk.out.alloc _)
        obtain ⟨W2, hW2⟩ : ∃ W2, wr.alloc (dx dk da dn dz dq) = W2 := ⟨_, rfl⟩
        rw [hT, hW2] at HW
        rw [hW2] at HBk FW
        rw [hT, show wr.alloc (Obj.cells #[Value.int IntKind.i64 dk, Value.int IntKind.i64 da, Value.int IntKind.i64 dn, Value.int IntKind.i64 dz, Value.int IntKind.i64 dq] 58) = W2 from hW2]
        clear hW2
        obtain ⟨d0, d1, d2, d3, d4⟩ : W2.cell? ⟨T, 0, none⟩ = some (.int .i64 dk) ∧ W2.cell? ⟨T, 1, none⟩ = some (.int .i64 da) ∧ W2.cell? ⟨T, 2, none⟩ = some (.int .i64 dn) ∧ W2.cell? ⟨T, 3, none⟩ = some (.int .i64 dz) ∧ W2.cell? ⟨T, 4, none⟩ = some (.int .i64 dq) := ⟨HBk.out.cell 0, HBk.out.cell 1, HBk.out.cell 2, HBk.out.cell 3, HBk.out.cell 4⟩
        have FK := FW
        have FW : Hid (Fr (NP B T) W2 W2) := hid (Fr.refl _ _)
        clear c0 c1 c2 c3 c4
        have HW := HW.drew
        have FW := kdN FW
        refine wp_region_noPanic ?_
        refine wp_region_held_drew (S := (fun W' => W'.cell? ⟨T, 0, none⟩ = some (.int .i64 dk) ∧ W'.cell? ⟨T, 1, none⟩ = some (.int .i64 da) ∧ W'.cell? ⟨T, 2, none⟩ = some (.int .i64 dn) ∧ W'.cell? ⟨T, 3, none⟩ = some (.int .i64 dz) ∧ W'.cell? ⟨T, 4, none⟩ = some (.int .i64 dq) ∧ Hid (Fr (NP B T) W2 W'))) (by kernel_rfl) ?_ (fun hHeld => ?_)
        · (try dsimp only); (first | (go_split_ands; exact ⟨kcN f (by assumption), kcN f (by assumption), kcN f (by assumption), kcN f (by assumption), kcN f (by assumption), by assumption⟩) | (go_split_ands; exact ⟨(by assumption), (by assumption), (by assumption), (by assumption), (by assumption), by assumption⟩) | (go_split_ands; exact ⟨kcN (fr1 _ _) (by assumption), kcN (fr1 _ _) (by assumption), kcN (fr1 _ _) (by assumption), kcN (fr1 _ _) (by assumption), kcN (fr1 _ _) (by assumption), kfaN (by assumption)⟩))
        refine wpAnyH_take (i := 0) (v := ?v17) rfl (by kernel_rfl) (by kernel_rfl) (by kernel_rfl) (fun _ _ _ h => h) (Or.inl ⟨by kernel_rfl, ?y17⟩) (by assumption) ?_
        case y17 => (intro w hSw; (try dsimp only at hSw); go_simp; all_goals with_reducible rfl)
        try simp only [Act.put, List.getElem_toArray, List.getElem_cons_zero, List.setIfInBounds_toArray, List.set_cons_zero, List.set_cons_succ]
        refine wpAnyH_take (i := 1) (v := ?v18) rfl (by kernel_rfl) (by kernel_rfl) (by kernel_rfl) (fun _ _ _ h => h) (Or.inl ⟨by kernel_rfl, ?y18⟩) (by assumption) ?_
        case y18 => (intro w hSw; (try dsimp only at hSw); go_simp; all_goals with_reducible rfl)
        try simp only [Act.put, List.getElem_toArray, List.getElem_cons_succ, List.getElem_cons_zero, List.setIfInBounds_toArray, List.set_cons_zero, List.set_cons_succ]
        refine wpAnyH_take (i := 2) (v := ?v19) rfl (by kernel_rfl) (by kernel_rfl) (by kernel_rfl) (fun _ _ _ h => h) (Or.inl ⟨by kernel_rfl, ?y19⟩) (by assumption) ?_
        case y19 => (intro w hSw; (try dsimp only at hSw); go_simp; all_goals with_reducible rfl)
        try simp only [Act.put, List.getElem_toArray, List.getElem_cons_succ, List.getElem_cons_zero, List.setIfInBounds_toArray, List.set_cons_zero, List.set_cons_succ]
        refine wpAnyH_take (i := 3) (v := ?v20) rfl (by kernel_rfl) (by kernel_rfl) (by kernel_rfl) (fun _ _ _ h => h) (Or.inl ⟨by kernel_rfl, ?y20⟩) (by assumption) ?_
        case y20 => (intro w hSw; (try dsimp only at hSw); go_simp; all_goals with_reducible rfl)
        try simp only [Act.put, List.getElem_toArray, List.getElem_cons_succ, List.getElem_cons_zero, List.setIfInBounds_toArray, List.set_cons_zero, List.set_cons_succ]
        refine wpAnyH_take (i := 5) (v := ?v21) rfl (by kernel_rfl) (by kernel_rfl) (by kernel_rfl) (fun _ _ _ h => h) (Or.inl ⟨by kernel_rfl, ?y21⟩) (by assumption) ?_
        case y21 => (intro w hSw; (try dsimp only at hSw); go_simp; all_goals with_reducible rfl)
        try simp only [Act.put, List.getElem_toArray, List.getElem_cons_succ, List.getElem_cons_zero, List.setIfInBounds_toArray, List.set_cons_zero, List.set_cons_succ]
        refine wpAnyH_take (i := 6) (v := ?v22) rfl (by kernel_rfl) (by kernel_rfl) (by kernel_rfl) (fun _ _ _ h => h) (Or.inl ⟨by kernel_rfl, ?y22⟩) (by assumption) ?_
        case y22 => (intro w hSw; (try dsimp only at hSw); go_simp; all_goals with_reducible rfl)
        try simp only [Act.put, List.getElem_toArray, List.getElem_cons_succ, List.getElem_cons_zero, List.setIfInBounds_toArray, List.set_cons_zero, List.set_cons_succ]
        refine wpAnyH_take (i := 7) (v := ?v23) rfl (by kernel_rfl) (by kernel_rfl) (by kernel_rfl) (fun _ _ _ h => h) (Or.inl ⟨by kernel_rfl, ?y23⟩) (by assumption) ?_
        case y23 => (intro w hSw; (try dsimp only at hSw); go_simp; all_goals with_reducible rfl)
        try simp only [Act.put, List.getElem_toArray, List.getElem_cons_succ, List.getElem_cons_zero, List.setIfInBounds_toArray, List.set_cons_zero, List.set_cons_succ]
        refine wpAnyH_take (i := 9) (v := ?v24) rfl (by kernel_rfl) (by kernel_rfl) (by kernel_rfl) (fun _ _ _ h => h) (Or.inl ⟨by kernel_rfl, ?y24⟩) (by assumption) ?_
        case y24 => (intro w hSw; (try dsimp only at hSw); go_simp; all_goals with_reducible rfl)
        try simp only [Act.put, List.getElem_toArray, List.getElem_cons_succ, List.getElem_cons_zero, List.setIfInBounds_toArray, List.set_cons_zero, List.set_cons_succ]
        refine wpAnyH_take (i := 10) (v := ?v25) rfl (by kernel_rfl) (by kernel_rfl) (by kernel_rfl) (fun _ _ _ h => h) (Or.inl ⟨by kernel_rfl, ?y25⟩) (by assumption) ?_
        case y25 => (intro w hSw; (try dsimp only at hSw); go_simp; all_goals with_reducible rfl)
        try simp only [Act.put, List.getElem_toArray, List.getElem_cons_succ, List.getElem_cons_zero, List.setIfInBounds_toArray, List.set_cons_zero, List.set_cons_succ]
        refine wpAnyH_take (i := 11) (v := ?v26) rfl (by kernel_rfl) (by kernel_rfl) (by kernel_rfl) (fun _ _ _ h => h) (Or.inl ⟨by kernel_rfl, ?y26⟩) (by assumption) ?_
        case y26 => (intro w hSw; (try dsimp only at hSw); go_simp; all_goals with_reducible rfl)
        try simp only [Act.put, List.getElem_toArray, List.getElem_cons_succ, List.getElem_cons_zero, List.setIfInBounds_toArray, List.set_cons_zero, List.set_cons_succ]
        refine wpAnyH_ready (rs := [4]) (by kernel_rfl) (by simp) (AllReadyH.cons rfl (fun K hK => ?_) AllReadyH.nil)
        go_simp
        go_at_call 46
        refine (put_wp B _ _ B T _ _ (by decide) (by first | (simp [low_len]; done) | (simp [low_len]; omega) | omega) (by first | decide | omega) HW).mono ?_
        rintro e W1 ⟨rfl, HW, f⟩
        have FW := kfN f hHeld.2.2.2.2.2
        dsimp only
        refine hK.out _ _ ?_ (fun hHeld => ?_)
        · (try dsimp only); (first | (go_split_ands; exact ⟨kcN f (by assumption), kcN f (by assumption), kcN f (by assumption), kcN f (by assumption), kcN f (by assumption), by assumption⟩) | (go_split_ands; exact ⟨(by assumption), (by assumption), (by assumption), (by assumption), (by assumption), by assumption⟩) | (go_split_ands; exact ⟨kcN (fr1 _ _) (by assumption), kcN (fr1 _ _) (by assumption), kcN (fr1 _ _) (by assumption), kcN (fr1 _ _) (by assumption), kcN (fr1 _ _) (by assumption), kfaN (by assumption)⟩))
        clear hK K
        try simp only [Act.put, List.getElem_toArray, List.getElem_cons_succ, List.getElem_cons_zero, List.setIfInBounds_toArray, List.set_cons_zero, List.set_cons_succ]
        refine wpAnyH_ready (rs := [8]) (by kernel_rfl) (by simp) (AllReadyH.cons rfl (fun K hK => ?_) AllReadyH.nil)
        go_simp
        go_at_call 46
        refine (put_wp B _ _ B T _ _ (by decide) (by first | (simp [low_len]; done) | (simp [low_len]; omega) | omega) (by first | decide | omega) HW).mono ?_
        rintro e W1 ⟨rfl, HW, f⟩
        have FW := kfN f hHeld.2.2.2.2.2
        dsimp only
        refine hK.out _ _ ?_ (fun hHeld => ?_)
        · (try dsimp only); (first | (go_split_ands; exact ⟨kcN f (by assumption), kcN f (by assumption), kcN f (by assumption), kcN f (by assumption), kcN f (by assumption), by assumption⟩) | (go_split_ands; exact ⟨(by assumption), (by assumption), (by assumption), (by assumption), (by assumption), by assumption⟩) | (go_split_ands; exact ⟨kcN (fr1 _ _) (by assumption), kcN (fr1 _ _) (by assumption), kcN (fr1 _ _) (by assumption), kcN (fr1 _ _) (by assumption), kcN (fr1 _ _) (by assumption), kfaN (by assumption)⟩))
        clear hK K
        try simp only [Act.put, List.getElem_toArray, List.getElem_cons_succ, List.getElem_cons_zero, List.setIfInBounds_toArray, List.set_cons_zero, List.set_cons_succ]
        refine wpAnyH_ready (rs := [12]) (by kernel_rfl) (by simp) (AllReadyH.cons rfl (fun K hK => ?_) AllReadyH.nil)
        go_simp
        go_at_call 46
        refine (put_wp B _ _ B T _ _ (by decide) (by first | (simp [low_len]; done) | (simp [low_len]; omega) | omega) (by first | decide | omega) HW).mono ?_
        rintro e W1 ⟨rfl, HW, f⟩
        have FW := kfN f hHeld.2.2.2.2.2
        dsimp only
        refine hK.out _ _ ?_ (fun hHeld => ?_)
        · (try dsimp only); (first | (go_split_ands; exact ⟨kcN f (by assumption), kcN f (by assumption), kcN f (by assumption), kcN f (by assumption), kcN f (by assumption), by assumption⟩) | (go_split_ands; exact ⟨(by assumption), (by assumption), (by assumption), (by assumption), (by assumption), by assumption⟩) | (go_split_ands; exact ⟨kcN (fr1 _ _) (by assumption), kcN (fr1 _ _) (by assumption), kcN (fr1 _ _) (by assumption), kcN (fr1 _ _) (by assumption), kcN (fr1 _ _) (by assumption), kfaN (by assumption)⟩))
        clear hK K
        try simp only [Act.put, List.getElem_toArray, List.getElem_cons_succ, List.getElem_cons_zero, List.setIfInBounds_toArray, List.set_cons_zero, List.set_cons_succ]
        refine wpAnyH_done (by kernel_rfl) ?_ _
        refine NoPanic.normal ?_
        go_split_ands
        go_wp2_with fail
        have HW := HW.drew
        have FW := kdN FW
        refine wp_region_noPanic ?_
        refine wp_region_held_drew (S := (fun W' => W'.cell? ⟨T, 0, none⟩ = some (.int .i64 dk) ∧ W'.cell? ⟨T, 1, none⟩ = some (.int .i64 da) ∧ W'.cell? ⟨T, 2, none⟩ = some (.int .i64 dn) ∧ W'.cell? ⟨T, 3, none⟩ = some (.int .i64 dz) ∧ W'.cell? ⟨T, 4, none⟩ = some (.int .i64 dq) ∧ Hid (Fr (NP B T) W2 W'))) (by kernel_rfl) ?_ (fun hHeld => ?_)
        · (try dsimp only); (first | (go_split_ands; exact ⟨kcN f (by assumption), kcN f (by assumption), kcN f (by assumption), kcN f (by assumption), kcN f (by assumption), by assumption⟩) | (go_split_ands; exact ⟨(by assumption), (by assumption), (by assumption), (by assumption), (by assumption), by assumption⟩) | (go_split_ands; exact ⟨kcN (fr1 _ _) (by assumption), kcN (fr1 _ _) (by assumption), kcN (fr1 _ _) (by assumption), kcN (fr1 _ _) (by assumption), kcN (fr1 _ _) (by assumption), kfaN (by assumption)⟩))
        refine wpAnyH_take (i := 0) (v := ?v27) rfl (by kernel_rfl) (by kernel_rfl) (by kernel_rfl) (fun _ _ _ h => h) (Or.inl ⟨by kernel_rfl, ?y27⟩) (by assumption) ?_
        case y27 => (intro w hSw; (try dsimp only at hSw); go_simp; all_goals with_reducible rfl)
        try simp only [Act.put, List.getElem_toArray, List.getElem_cons_zero, List.setIfInBounds_toArray, List.set_cons_zero, List.set_cons_succ]
        refine wpAnyH_take (i := 1) (v := ?v28) rfl (by kernel_rfl) (by kernel_rfl) (by kernel_rfl) (fun _ _ _ h => h) (Or.inl ⟨by kernel_rfl, ?y28⟩) (by assumption) ?_
        case y28 => (intro w hSw; (try dsimp only at hSw); go_simp; all_goals with_reducible rfl)
        try simp only [Act.put, List.getElem_toArray, List.getElem_cons_succ, List.getElem_cons_zero, List.setIfInBounds_toArray, List.set_cons_zero, List.set_cons_succ]
        refine wpAnyH_take (i := 2) (v := ?v29) rfl (by kernel_rfl) (by kernel_rfl) (by kernel_rfl) (fun _ _ _ h => h) (Or.inl ⟨by kernel_rfl, ?y29⟩) (by assumption) ?_
        case y29 => (intro w hSw; (try dsimp only at hSw); go_simp; all_goals with_reducible rfl)
        try simp only [Act.put, List.getElem_toArray, List.getElem_cons_succ, List.getElem_cons_zero, List.setIfInBounds_toArray, List.set_cons_zero, List.set_cons_succ]
        refine wpAnyH_take (i := 3) (v := ?v30) rfl (by kernel_rfl) (by kernel_rfl) (by kernel_rfl) (fun _ _ _ h => h) (Or.inl ⟨by kernel_rfl, ?y30⟩) (by assumption) ?_
        case y30 => (intro w hSw; (try dsimp only at hSw); go_simp; all_goals with_reducible rfl)
        try simp only [Act.put, List.getElem_toArray, List.getElem_cons_succ, List.getElem_cons_zero, List.setIfInBounds_toArray, List.set_cons_zero, List.set_cons_succ]
        refine wpAnyH_take (i := 5) (v := ?v31) rfl (by kernel_rfl) (by kernel_rfl) (by kernel_rfl) (fun _ _ _ h => h) (Or.inl ⟨by kernel_rfl, ?y31⟩) (by assumption) ?_
        case y31 => (intro w hSw; (try dsimp only at hSw); go_simp; all_goals with_reducible rfl)
        try simp only [Act.put, List.getElem_toArray, List.getElem_cons_succ, List.getElem_cons_zero, List.setIfInBounds_toArray, List.set_cons_zero, List.set_cons_succ]
        refine wpAnyH_take (i := 6) (v := ?v32) rfl (by kernel_rfl) (by kernel_rfl) (by kernel_rfl) (fun _ _ _ h => h) (Or.inl ⟨by kernel_rfl, ?y32⟩) (by assumption) ?_
        case y32 => (intro w hSw; (try dsimp only at hSw); go_simp; all_goals with_reducible rfl)
        try simp only [Act.put, List.getElem_toArray, List.getElem_cons_succ, List.getElem_cons_zero, List.setIfInBounds_toArray, List.set_cons_zero, List.set_cons_succ]
        refine wpAnyH_take (i := 7) (v := ?v33) rfl (by kernel_rfl) (by kernel_rfl) (by kernel_rfl) (fun _ _ _ h => h) (Or.inl ⟨by kernel_rfl, ?y33⟩) (by assumption) ?_
        case y33 => (intro w hSw; (try dsimp only at hSw); go_simp; all_goals with_reducible rfl)
        try simp only [Act.put, List.getElem_toArray, List.getElem_cons_succ, List.getElem_cons_zero, List.setIfInBounds_toArray, List.set_cons_zero, List.set_cons_succ]
        refine wpAnyH_ready (rs := [4]) (by kernel_rfl) (by simp) (AllReadyH.cons rfl (fun K hK => ?_) AllReadyH.nil)
        go_simp
        go_at_call 46
        refine (put_wp B _ _ B T _ _ (by decide) (by first | (simp [low_len]; done) | (simp [low_len]; omega) | omega) (by first | decide | omega) HW).mono ?_
        rintro e W1 ⟨rfl, HW, f⟩
        have FW := kfN f hHeld.2.2.2.2.2
        dsimp only
        refine hK.out _ _ ?_ (fun hHeld => ?_)
        · (try dsimp only); (first | (go_split_ands; exact ⟨kcN f (by assumption), kcN f (by assumption), kcN f (by assumption), kcN f (by assumption), kcN f (by assumption), by assumption⟩) | (go_split_ands; exact ⟨(by assumption), (by assumption), (by assumption), (by assumption), (by assumption), by assumption⟩) | (go_split_ands; exact ⟨kcN (fr1 _ _) (by assumption), kcN (fr1 _ _) (by assumption), kcN (fr1 _ _) (by assumption), kcN (fr1 _ _) (by assumption), kcN (fr1 _ _) (by assumption), kfaN (by assumption)⟩))
        clear hK K
        try simp only [Act.put, List.getElem_toArray, List.getElem_cons_succ, List.getElem_cons_zero, List.setIfInBounds_toArray, List.set_cons_zero, List.set_cons_succ]
        refine wpAnyH_ready (rs := [8]) (by kernel_rfl) (by simp) (AllReadyH.cons rfl (fun K hK => ?_) AllReadyH.nil)
        go_simp
        go_at_call 46
        refine (put_wp B _ _ B T _ _ (by decide) (by first | (simp [low_len]; done) | (simp [low_len]; omega) | omega) (by first | decide | omega) HW).mono ?_
        rintro e W1 ⟨rfl, HW, f⟩
        have FW := kfN f hHeld.2.2.2.2.2
        dsimp only
        refine hK.out _ _ ?_ (fun hHeld => ?_)
        · (try dsimp only); (first | (go_split_ands; exact ⟨kcN f (by assumption), kcN f (by assumption), kcN f (by assumption), kcN f (by assumption), kcN f (by assumption), by assumption⟩) | (go_split_ands; exact ⟨(by assumption), (by assumption), (by assumption), (by assumption), (by assumption), by assumption⟩) | (go_split_ands; exact ⟨kcN (fr1 _ _) (by assumption), kcN (fr1 _ _) (by assumption), kcN (fr1 _ _) (by assumption), kcN (fr1 _ _) (by assumption), kcN (fr1 _ _) (by assumption), kfaN (by assumption)⟩))
        clear hK K
        try simp only [Act.put, List.getElem_toArray, List.getElem_cons_succ, List.getElem_cons_zero, List.setIfInBounds_toArray, List.set_cons_zero, List.set_cons_succ]
        refine wpAnyH_ready (rs := [9]) (by kernel_rfl) (by simp) (AllReadyH.cons rfl (fun K hK => ?_) AllReadyH.nil)
        go_simp
        go_at_call 46
        refine (put_wp B _ _ B T _ _ (by decide) (by first | (simp [low_len]; done) | (simp [low_len]; omega) | omega) (by first | decide | omega) HW).mono ?_
        rintro e W1 ⟨rfl, HW, f⟩
        have FW := kfN f hHeld.2.2.2.2.2
        dsimp only
        refine hK.out _ _ ?_ (fun hHeld => ?_)
        · (try dsimp only); (first | (go_split_ands; exact ⟨kcN f (by assumption), kcN f (by assumption), kcN f (by assumption), kcN f (by assumption), kcN f (by assumption), by assumption⟩) | (go_split_ands; exact ⟨(by assumption), (by assumption), (by assumption), (by assumption), (by assumption), by assumption⟩) | (go_split_ands; exact ⟨kcN (fr1 _ _) (by assumption), kcN (fr1 _ _) (by assumption), kcN (fr1 _ _) (by assumption), kcN (fr1 _ _) (by assumption), kcN (fr1 _ _) (by assumption), kfaN (by assumption)⟩))
        clear hK K
        try simp only [Act.put, List.getElem_toArray, List.getElem_cons_succ, List.getElem_cons_zero, List.setIfInBounds_toArray, List.set_cons_zero, List.set_cons_succ]
        refine wpAnyH_done (by kernel_rfl) ?_ _
        refine NoPanic.normal ?_
        go_split_ands
        go_wp2
        go_roundw
        case rel =>
          refine ⟨k + 1, by omega, by go_num, ?_, FK.out.trans (np_mono hGB FW.out)⟩
          rw [fl_snoc HD.out, ← List.append_assoc, HX2.out]
          have := HW.un hGB
          simpa [eD, List.append_assoc] using this
        case measure => simp [intOf]; omega
      · obtain rfl : k = xs.length := by omega
        rw [List.take_length] at HW
        have HFk := hid hf
        have hlenR := HW.len
        have HTk := hid (HT.out.fr hf (by unfold NP; omega))
        clear hf HXk r0 r1 r2 r3 r4 u1 u2 u3 u4
        go_wp2_with (first | (go_at_call 47; refine (done_wp _ _ _ _ _ HW).mono ?_; rintro e' w4 ⟨A4, rfl, HD4, f4⟩; have HF4 := hid (HFk.out.trans (f4.mono fun _ _ h => h.elim)); have HT4 := hid (HTk.out.fr f4 (fun h => h)); clear f4) | (go_at_call 48; refine (seal_ok _ _ _ _ _ (by decide) HD4 (pad_u8 _ (eR_u8 ⟨e, s, false, u, xs⟩)) HT4.out).mono ?_; rintro e' w5 ⟨rfl, hb5, f5⟩; rw [pad_rest _ hlenR] at hb5; have HB5 := hid hb5; have HF5 := hid (HF4.out.trans (f5.mono fun _ _ h => h.elim)); clear f5 hb5))
        go_ret2
        exact ⟨_, rfl, HB5.out, HF5.out.mono fun k hk h => by unfold NP at h; omega⟩
  · go_enter Tryd.func25, Tryd.ntmps25
    go_wp2_with (first | (go_at_call 26; refine (HMay.out _ HF0.out).mono ?_; rintro e' w1 ⟨rfl, f1⟩; rw [decide_eq_true hm]; have HF1 := hid (HF0.out.trans f1); have HR1 := hid (RB.fr HR0.out f1 (fun h => h)); obtain ⟨r0, r1, r2, r3, r4⟩ := RB.cells HR1.out; clear f1 hm) | (go_at_call 41; refine (new_wp w.heap.size _ (Blk.lt HR1.out)).mono ?_; rintro e' w2 ⟨rfl, HW, f2⟩; obtain ⟨B, hB⟩ : ∃ B, w1.heap.size = B := ⟨_, rfl⟩; have hGB : w.heap.size < B := (by rw [← hB]; exact Blk.lt HR1.out); rw [hB] at HW ⊢; have HF2 := hid (HF1.out.trans f2); have HR2 := hid (RB.fr HR1.out f2 (fun h => h)); clear f2 r0 r1 r2 r3 r4 hB) | (go_at_call 42; go_loud (refine (bytes_wp B _ 2 2 [74, 82] B w.heap.size [] _ (by decide) (CrcG.lit_rd w2 [74, 82] (2, 3)) (HW.fr ((Fr.refl No _).alloc _))).mono ?_; rintro e' w3 ⟨rfl, HW, f3⟩; have FW : Hid (Fr (NP B w.heap.size) w w3) := hid (((HF2.out.alloc _).mono fun _ _ h => h.elim).trans f3); obtain ⟨r0, r1, r2, r3, r4⟩ := RB.cells (RB.fr (HR2.out.alloc (.cells #[.int .u8 74, .int .u8 82] 5 (2, 3))) f3 (by unfold NP; omega)); clear f3)))
    have HW := HW.drew
    have FW := kdN FW
    refine wp_region_noPanic ?_
    refine wp_region_held_drew (S := (fun W' => W'.cell? ⟨w.heap.size, 0, none⟩ = some (.int .i64 e) ∧ W'.cell? ⟨w.heap.size, 1, none⟩ = some (.int .i64 s) ∧ W'.cell? ⟨w.heap.size, 2, none⟩ = some (.bool true) ∧ W'.cell? ⟨w.heap.size, 3, none⟩ = some (.int .i64 u) ∧ W'.cell? ⟨w.heap.size, 4, none⟩ = some (.slice A xs.length c) ∧ Hid (Fr (NP B w.heap.size) w W'))) (by kernel_rfl) ?_ (fun hHeld => ?_)
    · (try dsimp only); (first | (go_split_ands; exact ⟨kcN f (by assumption), kcN f (by assumption), kcN f (by assumption), kcN f (by assumption), kcN f (by assumption), by assumption⟩) | (go_split_ands; exact ⟨(by assumption), (by assumption), (by assumption), (by assumption), (by assumption), by assumption⟩) | (go_split_ands; exact ⟨kcN (fr1 _ _) (by assumption), kcN (fr1 _ _) (by assumption), kcN (fr1 _ _) (by assumption), kcN (fr1 _ _) (by assumption), kcN (fr1 _ _) (by assumption), kfaN (by assumption)⟩))
    refine wpAnyH_take (i := 0) (v := ?v34) rfl (by kernel_rfl) (by kernel_rfl) (by kernel_rfl) (fun _ _ _ h => h) (Or.inl ⟨by kernel_rfl, ?y34⟩) (by assumption) ?_
    case y34 => (intro w hSw; (try dsimp only at hSw); go_simp; all_goals with_reducible rfl)
    try simp only [Act.put, List.getElem_toArray, List.getElem_cons_zero, List.setIfInBounds_toArray, List.set_cons_zero, List.set_cons_succ]
    refine wpAnyH_take (i := 1) (v := ?v35) rfl (by kernel_rfl) (by kernel_rfl) (by kernel_rfl) (fun _ _ _ h => h) (Or.inl ⟨by kernel_rfl, ?y35⟩) (by assumption) ?_
    case y35 => (intro w hSw; (try dsimp only at hSw); go_simp; all_goals with_reducible rfl)
    try simp only [Act.put, List.getElem_toArray, List.getElem_cons_succ, List.getElem_cons_zero, List.setIfInBounds_toArray, List.set_cons_zero, List.set_cons_succ]
    refine wpAnyH_take (i := 3) (v := ?v36) rfl (by kernel_rfl) (by kernel_rfl) (by kernel_rfl) (fun _ _ _ h => h) (Or.inl ⟨by kernel_rfl, ?y36⟩) (by assumption) ?_
    case y36 => (intro w hSw; (try dsimp only at hSw); go_simp; all_goals with_reducible rfl)
    try simp only [Act.put, List.getElem_toArray, List.getElem_cons_succ, List.getElem_cons_zero, List.setIfInBounds_toArray, List.set_cons_zero, List.set_cons_succ]
    refine wpAnyH_take (i := 4) (v := ?v37) rfl (by kernel_rfl) (by kernel_rfl) (by kernel_rfl) (fun _ _ _ h => h) (Or.inl ⟨by kernel_rfl, ?y37⟩) (by assumption) ?_
    case y37 => (intro w hSw; (try dsimp only at hSw); go_simp; all_goals with_reducible rfl)
    try simp only [Act.put, List.getElem_toArray, List.getElem_cons_succ, List.getElem_cons_zero, List.setIfInBounds_toArray, List.set_cons_zero, List.set_cons_succ]
    refine wpAnyH_take (i := 5) (v := ?v38) rfl (by kernel_rfl) (by kernel_rfl) (by kernel_rfl) (fun _ _ _ h => h) (Or.inl ⟨by kernel_rfl, ?y38⟩) (by assumption) ?_
    case y38 => (intro w hSw; (try dsimp only at hSw); go_simp; all_goals with_reducible rfl)
    try simp only [Act.put, List.getElem_toArray, List.getElem_cons_succ, List.getElem_cons_zero, List.setIfInBounds_toArray, List.set_cons_zero, List.set_cons_succ]
    refine wpAnyH_take (i := 6) (v := ?v39) rfl (by kernel_rfl) (by kernel_rfl) (by kernel_rfl) (fun _ _ _ h => h) (Or.inl ⟨by kernel_rfl, ?y39⟩) (by assumption) ?_
    case y39 => (intro w hSw; (try dsimp only at hSw); go_simp; all_goals with_reducible rfl)
    try simp only [Act.put, List.getElem_toArray, List.getElem_cons_succ, List.getElem_cons_zero, List.setIfInBounds_toArray, List.set_cons_zero, List.set_cons_succ]
    refine wpAnyH_ready (rs := [2]) (by kernel_rfl) (by simp) (AllReadyH.cons rfl (fun K hK => ?_) AllReadyH.nil)
    go_simp
    go_at_call 46
    refine (put_wp B _ _ B w.heap.size _ _ (by decide) (by first | (simp [low_len]; done) | (simp [low_len]; omega) | omega) (by first | decide | omega | (have := HE.out; unfold mayH at this; omega)) HW).mono ?_
    rintro e W1 ⟨rfl, HW, f⟩
    have FW := kfN f hHeld.2.2.2.2.2
    dsimp only
    refine hK.out _ _ ?_ (fun hHeld => ?_)
    · (try dsimp only); (first | (go_split_ands; exact ⟨kcN f (by assumption), kcN f (by assumption), kcN f (by assumption), kcN f (by assumption), kcN f (by assumption), by assumption⟩) | (go_split_ands; exact ⟨(by assumption), (by assumption), (by assumption), (by assumption), (by assumption), by assumption⟩) | (go_split_ands; exact ⟨kcN (fr1 _ _) (by assumption), kcN (fr1 _ _) (by assumption), kcN (fr1 _ _) (by assumption), kcN (fr1 _ _) (by assumption), kcN (fr1 _ _) (by assumption), kfaN (by assumption)⟩))
    clear hK K
    try simp only [Act.put, List.getElem_toArray, List.getElem_cons_succ, List.getElem_cons_zero, List.setIfInBounds_toArray, List.set_cons_zero, List.set_cons_succ]
    refine wpAnyH_ready (rs := [7]) (by kernel_rfl) (by simp) (AllReadyH.cons rfl (fun K hK => ?_) AllReadyH.nil)
    go_simp
    go_at_call 46
    refine (put_wp B _ _ B w.heap.size _ _ (by decide) (by first | (simp [low_len]; done) | (simp [low_len]; omega) | omega) (by first | decide | omega | (have := HE.out; unfold mayH at this; omega)) HW).mono ?_
    rintro e W1 ⟨rfl, HW, f⟩
    have FW := kfN f hHeld.2.2.2.2.2
    dsimp only
    refine hK.out _ _ ?_ (fun hHeld => ?_)
    · (try dsimp only); (first | (go_split_ands; exact ⟨kcN f (by assumption), kcN f (by assumption), kcN f (by assumption), kcN f (by assumption), kcN f (by assumption), by assumption⟩) | (go_split_ands; exact ⟨(by assumption), (by assumption), (by assumption), (by assumption), (by assumption), by assumption⟩) | (go_split_ands; exact ⟨kcN (fr1 _ _) (by assumption), kcN (fr1 _ _) (by assumption), kcN (fr1 _ _) (by assumption), kcN (fr1 _ _) (by assumption), kcN (fr1 _ _) (by assumption), kfaN (by assumption)⟩))
    clear hK K
    try simp only [Act.put, List.getElem_toArray, List.getElem_cons_succ, List.getElem_cons_zero, List.setIfInBounds_toArray, List.set_cons_zero, List.set_cons_succ]
    refine wpAnyH_done (by kernel_rfl) ?_ _
    refine NoPanic.normal ?_
    go_split_ands
    go_wp2_with fail
    have HW := HW.drew
    have FW := kdN FW
    refine wp_region_noPanic ?_
    refine wp_region_held_drew (S := (fun W' => W'.cell? ⟨w.heap.size, 0, none⟩ = some (.int .i64 e) ∧ W'.cell? ⟨w.heap.size, 1, none⟩ = some (.int .i64 s) ∧ W'.cell? ⟨w.heap.size, 2, none⟩ = some (.bool true) ∧ W'.cell? ⟨w.heap.size, 3, none⟩ = some (.int .i64 u) ∧ W'.cell? ⟨w.heap.size, 4, none⟩ = some (.slice A xs.length c) ∧ Hid (Fr (NP B w.heap.size) w W'))) (by kernel_rfl) ?_ (fun hHeld => ?_)
    · (try dsimp only); (first | (go_split_ands; exact ⟨kcN f (by assumption), kcN f (by assumption), kcN f (by assumption), kcN f (by assumption), kcN f (by assumption), by assumption⟩) | (go_split_ands; exact ⟨(by assumption), (by assumption), (by assumption), (by assumption), (by assumption), by assumption⟩) | (go_split_ands; exact ⟨kcN (fr1 _ _) (by assumption), kcN (fr1 _ _) (by assumption), kcN (fr1 _ _) (by assumption), kcN (fr1 _ _) (by assumption), kcN (fr1 _ _) (by assumption), kfaN (by assumption)⟩))
    refine wpAnyH_take (i := 0) (v := ?v40) rfl (by kernel_rfl) (by kernel_rfl) (by kernel_rfl) (fun _ _ _ h => h) (Or.inl ⟨by kernel_rfl, ?y40⟩) (by assumption) ?_
    case y40 => (intro w hSw; (try dsimp only at hSw); go_simp; all_goals with_reducible rfl)
    try simp only [Act.put, List.getElem_toArray, List.getElem_cons_zero, List.setIfInBounds_toArray, List.set_cons_zero, List.set_cons_succ]
    refine wpAnyH_take (i := 1) (v := ?v41) rfl (by kernel_rfl) (by kernel_rfl) (by kernel_rfl) (fun _ _ _ h => h) (Or.inl ⟨by kernel_rfl, ?y41⟩) (by assumption) ?_
    case y41 => (intro w hSw; (try dsimp only at hSw); go_simp; all_goals with_reducible rfl)
    try simp only [Act.put, List.getElem_toArray, List.getElem_cons_succ, List.getElem_cons_zero, List.setIfInBounds_toArray, List.set_cons_zero, List.set_cons_succ]
    refine wpAnyH_take (i := 2) (v := ?v42) rfl (by kernel_rfl) (by kernel_rfl) (by kernel_rfl) (fun _ _ _ h => h) (Or.inl ⟨by kernel_rfl, ?y42⟩) (by assumption) ?_
    case y42 => (intro w hSw; (try dsimp only at hSw); go_simp; all_goals with_reducible rfl)
    try simp only [Act.put, List.getElem_toArray, List.getElem_cons_succ, List.getElem_cons_zero, List.setIfInBounds_toArray, List.set_cons_zero, List.set_cons_succ]
    refine wpAnyH_take (i := 3) (v := ?v43) rfl (by kernel_rfl) (by kernel_rfl) (by kernel_rfl) (fun _ _ _ h => h) (Or.inl ⟨by kernel_rfl, ?y43⟩) (by assumption) ?_
    case y43 => (intro w hSw; (try dsimp only at hSw); go_simp; all_goals with_reducible rfl)
    try simp only [Act.put, List.getElem_toArray, List.getElem_cons_succ, List.getElem_cons_zero, List.setIfInBounds_toArray, List.set_cons_zero, List.set_cons_succ]
    refine wpAnyH_take (i := 5) (v := ?v44) rfl (by kernel_rfl) (by kernel_rfl) (by kernel_rfl) (fun _ _ _ h => h) (Or.inl ⟨by kernel_rfl, ?y44⟩) (by assumption) ?_
    case y44 => (intro w hSw; (try dsimp only at hSw); go_simp; all_goals with_reducible rfl)
    try simp only [Act.put, List.getElem_toArray, List.getElem_cons_succ, List.getElem_cons_zero, List.setIfInBounds_toArray, List.set_cons_zero, List.set_cons_succ]
    refine wpAnyH_take (i := 6) (v := ?v45) rfl (by kernel_rfl) (by kernel_rfl) (by kernel_rfl) (fun _ _ _ h => h) (Or.inl ⟨by kernel_rfl, ?y45⟩) (by assumption) ?_
    case y45 => (intro w hSw; (try dsimp only at hSw); go_simp; all_goals with_reducible rfl)
    try simp only [Act.put, List.getElem_toArray, List.getElem_cons_succ, List.getElem_cons_zero, List.setIfInBounds_toArray, List.set_cons_zero, List.set_cons_succ]
    refine wpAnyH_take (i := 7) (v := ?v46) rfl (by kernel_rfl) (by kernel_rfl) (by kernel_rfl) (fun _ _ _ h => h) (Or.inl ⟨by kernel_rfl, ?y46⟩) (by assumption) ?_
    case y46 => (intro w hSw; (try dsimp only at hSw); go_simp; all_goals with_reducible rfl)
    try simp only [Act.put, List.getElem_toArray, List.getElem_cons_succ, List.getElem_cons_zero, List.setIfInBounds_toArray, List.set_cons_zero, List.set_cons_succ]
    refine wpAnyH_take (i := 9) (v := ?v47) rfl (by kernel_rfl) (by kernel_rfl) (by kernel_rfl) (fun _ _ _ h => h) (Or.inl ⟨by kernel_rfl, ?y47⟩) (by assumption) ?_
    case y47 => (intro w hSw; (try dsimp only at hSw); go_simp; all_goals with_reducible rfl)
    try simp only [Act.put, List.getElem_toArray, List.getElem_cons_succ, List.getElem_cons_zero, List.setIfInBounds_toArray, List.set_cons_zero, List.set_cons_succ]
    refine wpAnyH_take (i := 10) (v := ?v48) rfl (by kernel_rfl) (by kernel_rfl) (by kernel_rfl) (fun _ _ _ h => h) (Or.inl ⟨by kernel_rfl, ?y48⟩) (by assumption) ?_
    case y48 => (intro w hSw; (try dsimp only at hSw); go_simp; all_goals with_reducible rfl)
    try simp only [Act.put, List.getElem_toArray, List.getElem_cons_succ, List.getElem_cons_zero, List.setIfInBounds_toArray, List.set_cons_zero, List.set_cons_succ]
    refine wpAnyH_take (i := 11) (v := ?v49) rfl (by kernel_rfl) (by kernel_rfl) (by kernel_rfl) (fun _ _ _ h => h) (Or.inl ⟨by kernel_rfl, ?y49⟩) (by assumption) ?_
    case y49 => (intro w hSw; (try dsimp only at hSw); go_simp; all_goals with_reducible rfl)
    try simp only [Act.put, List.getElem_toArray, List.getElem_cons_succ, List.getElem_cons_zero, List.setIfInBounds_toArray, List.set_cons_zero, List.set_cons_succ]
    refine wpAnyH_ready (rs := [4]) (by kernel_rfl) (by simp) (AllReadyH.cons rfl (fun K hK => ?_) AllReadyH.nil)
    go_simp
    go_at_call 46
    refine (put_wp B _ _ B w.heap.size _ _ (by decide) (by first | (simp [low_len]; done) | (simp [low_len]; omega) | omega) (by first | decide | omega | (have := HE.out; unfold mayH at this; omega)) HW).mono ?_
    rintro e W1 ⟨rfl, HW, f⟩
    have FW := kfN f hHeld.2.2.2.2.2
    dsimp only
    refine hK.out _ _ ?_ (fun hHeld => ?_)
    · (try dsimp only); (first | (go_split_ands; exact ⟨kcN f (by assumption), kcN f (by assumption), kcN f (by assumption), kcN f (by assumption), kcN f (by assumption), by assumption⟩) | (go_split_ands; exact ⟨(by assumption), (by assumption), (by assumption), (by assumption), (by assumption), by assumption⟩) | (go_split_ands; exact ⟨kcN (fr1 _ _) (by assumption), kcN (fr1 _ _) (by assumption), kcN (fr1 _ _) (by assumption), kcN (fr1 _ _) (by assumption), kcN (fr1 _ _) (by assumption), kfaN (by assumption)⟩))
    clear hK K
    try simp only [Act.put, List.getElem_toArray, List.getElem_cons_succ, List.getElem_cons_zero, List.setIfInBounds_toArray, List.set_cons_zero, List.set_cons_succ]
    refine wpAnyH_ready (rs := [8]) (by kernel_rfl) (by simp) (AllReadyH.cons rfl (fun K hK => ?_) AllReadyH.nil)
    go_simp
    go_at_call 46
    refine (put_wp B _ _ B w.heap.size _ _ (by decide) (by first | (simp [low_len]; done) | (simp [low_len]; omega) | omega) (by first | decide | omega | (have := HE.out; unfold mayH at this; omega)) HW).mono ?_
    rintro e W1 ⟨rfl, HW, f⟩
    have FW := kfN f hHeld.2.2.2.2.2
    dsimp only
    refine hK.out _ _ ?_ (fun hHeld => ?_)
    · (try dsimp only); (first | (go_split_ands; exact ⟨kcN f (by assumption), kcN f (by assumption), kcN f (by assumption), kcN f (by assumption), kcN f (by assumption), by assumption⟩) | (go_split_ands; exact ⟨(by assumption), (by assumption), (by assumption), (by assumption), (by assumption), by assumption⟩) | (go_split_ands; exact ⟨kcN (fr1 _ _) (by assumption), kcN (fr1 _ _) (by assumption), kcN (fr1 _ _) (by assumption), kcN (fr1 _ _) (by assumption), kcN (fr1 _ _) (by assumption), kfaN (by assumption)⟩))
    clear hK K
    try simp only [Act.put, List.getElem_toArray, List.getElem_cons_succ, List.getElem_cons_zero, List.setIfInBounds_toArray, List.set_cons_zero, List.set_cons_succ]
    refine wpAnyH_ready (rs := [12]) (by kernel_rfl) (by simp) (AllReadyH.cons rfl (fun K hK => ?_) AllReadyH.nil)
    go_simp
    go_at_call 46
    refine (put_wp B _ _ B w.heap.size _ _ (by decide) (by first | (simp [low_len]; done) | (simp [low_len]; omega) | omega) (by first | decide | omega | (have := HE.out; unfold mayH at this; omega)) HW).mono ?_
    rintro e W1 ⟨rfl, HW, f⟩
    have FW := kfN f hHeld.2.2.2.2.2
    dsimp only
    refine hK.out _ _ ?_ (fun hHeld => ?_)
    · (try dsimp only); (first | (go_split_ands; exact ⟨kcN f (by assumption), kcN f (by assumption), kcN f (by assumption), kcN f (by assumption), kcN f (by assumption), by assumption⟩) | (go_split_ands; exact ⟨(by assumption), (by assumption), (by assumption), (by assumption), (by assumption), by assumption⟩) | (go_split_ands; exact ⟨kcN (fr1 _ _) (by assumption), kcN (fr1 _ _) (by assumption), kcN (fr1 _ _) (by assumption), kcN (fr1 _ _) (by assumption), kcN (fr1 _ _) (by assumption), kfaN (by assumption)⟩))
    clear hK K
    try simp only [Act.put, List.getElem_toArray, List.getElem_cons_succ, List.getElem_cons_zero, List.setIfInBounds_toArray, List.set_cons_zero, List.set_cons_succ]
    refine wpAnyH_done (by kernel_rfl) ?_ _
    refine NoPanic.normal ?_
    go_split_ands
    go_wp2_with fail
    go_loopw [43] (fun i wr => ∃ k : Nat, k ≤ xs.length ∧ i = .int .i64 k ∧ WrP wr B w.heap.size B (eH ⟨e, s, true, u, xs⟩ ++ (xs.take k).flatMap eD) ∧ Fr (NP B w.heap.size) w wr) (fun i _ => xs.length - (intOf i).toNat)
    case atStart => exact ⟨0, by omega, rfl, by simpa [eH, b01, List.append_assoc] using HW, FW.out⟩
    case round =>
      clear FW HW
      obtain ⟨k, hk, rfl, HW, hf⟩ := hrel
      have HXk := rdD_fr2 HX.out hf hGB
      by_cases hlt : k < xs.length
      · obtain ⟨d, hd⟩ : ∃ d, xs[k]? = some d := ⟨_, List.getElem?_eq_getElem hlt⟩
        obtain ⟨g, o, rfl, hg, hc⟩ := HXk.at_ (by omega)
        obtain ⟨c0, c1, c2, c3, c4⟩ := hc k d hd
        have hmd := mayD_in (HAll.out d (List.mem_of_getElem? hd))
        have hlt3 : (k : Int) < xs.length := by omega
        have h0 : (0 : Int) ≤ k := by omega
        have HD := hid hd
        have HFk := hid hf
        have hle := ds6 (fl_len (xs.take k)) (by rw [List.length_take]; omega) (eH_len ⟨e, s, true, u, xs⟩)
        obtain ⟨X, hX⟩ : ∃ X, eH ⟨e, s, true, u, xs⟩ ++ (xs.take k).flatMap eD = X := ⟨_, rfl⟩
        rw [hX] at HW hle
        have HX2 := hid hX
        obtain ⟨dk, da, dn, dz, dq⟩ := d
        simp only [] at c0 c1 c2 c3 c4 hmd
        obtain ⟨m1, m2, m3, m4, m5⟩ := hmd
        have v1 := u64w dk (by omega)
        have v2 := u64w da (by omega)
        have v3 := u64w dn (by omega)
        have v4 := u64w dz (by omega)
        have v5 := u64w dq (by omega)
        clear hX hd hf hc HXk r0 r1 r2 r3 r4 u1 u2 u3 u4
        go_wp2_with fail
        have HW := HW.box (dx dk da dn dz dq)
        obtain ⟨T, hT⟩ : ∃ T, wr.heap.size = T := ⟨_, rfl⟩
        have HBk := hid (show Blk (wr.alloc (dx dk da dn dz dq)) T 58 #[.int .i64 dk, .int .i64 da, .int .i64 dn, .int .i64 dz, .int .i64 dq] by rw [← hT]; exact Blk.new wr _ _)
        have FW : Hid (Fr (NP B w.heap.size) w (wr.alloc (dx dk da dn dz dq))) := hid (HFk.out.alloc _)
        obtain ⟨W2, hW2⟩ : ∃ W2, wr.alloc (dx dk da dn dz dq) = W2 := ⟨_, rfl⟩
        rw [hT, hW2] at HW
        rw [hW2] at HBk FW
        rw [hT, show wr.alloc (Obj.cells #[Value.int IntKind.i64 dk, Value.int IntKind.i64 da, Value.int IntKind.i64 dn, Value.int IntKind.i64 dz, Value.int IntKind.i64 dq] 58) = W2 from hW2]
        clear hW2
        obtain ⟨d0, d1, d2, d3, d4⟩ : W2.cell? ⟨T, 0, none⟩ = some (.int .i64 dk) ∧ W2.cell? ⟨T, 1, none⟩ = some (.int .i64 da) ∧ W2.cell? ⟨T, 2, none⟩ = some (.int .i64 dn) ∧ W2.cell? ⟨T, 3, none⟩ = some (.int .i64 dz) ∧ W2.cell? ⟨T, 4, none⟩ = some (.int .i64 dq) := ⟨HBk.out.cell 0, HBk.out.cell 1, HBk.out.cell 2, HBk.out.cell 3, HBk.out.cell 4⟩
        have FK := FW
        have FW : Hid (Fr (NP B T) W2 W2) := hid (Fr.refl _ _)
        clear c0 c1 c2 c3 c4
        have HW := HW.drew
        have FW := kdN FW
        refine wp_region_noPanic ?_
        refine wp_region_held_drew (S := (fun W' => W'.cell? ⟨T, 0, none⟩ = some (.int .i64 dk) ∧ W'.cell? ⟨T, 1, none⟩ = some (.int .i64 da) ∧ W'.cell? ⟨T, 2, none⟩ = some (.int .i64 dn) ∧ W'.cell? ⟨T, 3, none⟩ = some (.int .i64 dz) ∧ W'.cell? ⟨T, 4, none⟩ = some (.int .i64 dq) ∧ Hid (Fr (NP B T) W2 W'))) (by kernel_rfl) ?_ (fun hHeld => ?_)
        · (try dsimp only); (first | (go_split_ands; exact ⟨kcN f (by assumption), kcN f (by assumption), kcN f (by assumption), kcN f (by assumption), kcN f (by assumption), by assumption⟩) | (go_split_ands; exact ⟨(by assumption), (by assumption), (by assumption), (by assumption), (by assumption), by assumption⟩) | (go_split_ands; exact ⟨kcN (fr1 _ _) (by assumption), kcN (fr1 _ _) (by assumption), kcN (fr1 _ _) (by assumption), kcN (fr1 _ _) (by assumption), kcN (fr1 _ _) (by assumption), kfaN (by assumption)⟩))
        refine wpAnyH_take (i := 0) (v := ?v50) rfl (by kernel_rfl) (by kernel_rfl) (by kernel_rfl) (fun _ _ _ h => h) (Or.inl ⟨by kernel_rfl, ?y50⟩) (by assumption) ?_
        case y50 => (intro w hSw; (try dsimp only at hSw); go_simp; all_goals with_reducible rfl)
        try simp only [Act.put, List.getElem_toArray, List.getElem_cons_zero, List.setIfInBounds_toArray, List.set_cons_zero, List.set_cons_succ]
        refine wpAnyH_take (i := 1) (v := ?v51) rfl (by kernel_rfl) (by kernel_rfl) (by kernel_rfl) (fun _ _ _ h => h) (Or.inl ⟨by kernel_rfl, ?y51⟩) (by assumption) ?_
        case y51 => (intro w hSw; (try dsimp only at hSw); go_simp; all_goals with_reducible rfl)
        try simp only [Act.put, List.getElem_toArray, List.getElem_cons_succ, List.getElem_cons_zero, List.setIfInBounds_toArray, List.set_cons_zero, List.set_cons_succ]
        refine wpAnyH_take (i := 2) (v := ?v52) rfl (by kernel_rfl) (by kernel_rfl) (by kernel_rfl) (fun _ _ _ h => h) (Or.inl ⟨by kernel_rfl, ?y52⟩) (by assumption) ?_
        case y52 => (intro w hSw; (try dsimp only at hSw); go_simp; all_goals with_reducible rfl)
        try simp only [Act.put, List.getElem_toArray, List.getElem_cons_succ, List.getElem_cons_zero, List.setIfInBounds_toArray, List.set_cons_zero, List.set_cons_succ]
        refine wpAnyH_take (i := 3) (v := ?v53) rfl (by kernel_rfl) (by kernel_rfl) (by kernel_rfl) (fun _ _ _ h => h) (Or.inl ⟨by kernel_rfl, ?y53⟩) (by assumption) ?_
        case y53 => (intro w hSw; (try dsimp only at hSw); go_simp; all_goals with_reducible rfl)
        try simp only [Act.put, List.getElem_toArray, List.getElem_cons_succ, List.getElem_cons_zero, List.setIfInBounds_toArray, List.set_cons_zero, List.set_cons_succ]
        refine wpAnyH_take (i := 5) (v := ?v54) rfl (by kernel_rfl) (by kernel_rfl) (by kernel_rfl) (fun _ _ _ h => h) (Or.inl ⟨by kernel_rfl, ?y54⟩) (by assumption) ?_
        case y54 => (intro w hSw; (try dsimp only at hSw); go_simp; all_goals with_reducible rfl)
        try simp only [Act.put, List.getElem_toArray, List.getElem_cons_succ, List.getElem_cons_zero, List.setIfInBounds_toArray, List.set_cons_zero, List.set_cons_succ]
        refine wpAnyH_take (i := 6) (v := ?v55) rfl (by kernel_rfl) (by kernel_rfl) (by kernel_rfl) (fun _ _ _ h => h) (Or.inl ⟨by kernel_rfl, ?y55⟩) (by assumption) ?_
        case y55 => (intro w hSw; (try dsimp only at hSw); go_simp; all_goals with_reducible rfl)
        try simp only [Act.put, List.getElem_toArray, List.getElem_cons_succ, List.getElem_cons_zero, List.setIfInBounds_toArray, List.set_cons_zero, List.set_cons_succ]
        refine wpAnyH_take (i := 7) (v := ?v56) rfl (by kernel_rfl) (by kernel_rfl) (by kernel_rfl) (fun _ _ _ h => h) (Or.inl ⟨by kernel_rfl, ?y56⟩) (by assumption) ?_
        case y56 => (intro w hSw; (try dsimp only at hSw); go_simp; all_goals with_reducible rfl)
        try simp only [Act.put, List.getElem_toArray, List.getElem_cons_succ, List.getElem_cons_zero, List.setIfInBounds_toArray, List.set_cons_zero, List.set_cons_succ]
        refine wpAnyH_take (i := 9) (v := ?v57) rfl (by kernel_rfl) (by kernel_rfl) (by kernel_rfl) (fun _ _ _ h => h) (Or.inl ⟨by kernel_rfl, ?y57⟩) (by assumption) ?_
        case y57 => (intro w hSw; (try dsimp only at hSw); go_simp; all_goals with_reducible rfl)
        try simp only [Act.put, List.getElem_toArray, List.getElem_cons_succ, List.getElem_cons_zero, List.setIfInBounds_toArray, List.set_cons_zero, List.set_cons_succ]
        refine wpAnyH_take (i := 10) (v := ?v58) rfl (by kernel_rfl) (by kernel_rfl) (by kernel_rfl) (fun _ _ _ h => h) (Or.inl ⟨by kernel_rfl, ?y58⟩) (by assumption) ?_
        case y58 => (intro w hSw; (try dsimp only at hSw); go_simp; all_goals with_reducible rfl)
        try simp only [Act.put, List.getElem_toArray, List.getElem_cons_succ, List.getElem_cons_zero, List.setIfInBounds_toArray, List.set_cons_zero, List.set_cons_succ]
        refine wpAnyH_take (i := 11) (v := ?v59) rfl (by kernel_rfl) (by kernel_rfl) (by kernel_rfl) (fun _ _ _ h => h) (Or.inl ⟨by kernel_rfl, ?y59⟩) (by assumption) ?_
        case y59 => (intro w hSw; (try dsimp only at hSw); go_simp; all_goals with_reducible rfl)
        try simp only [Act.put, List.getElem_toArray, List.getElem_cons_succ, List.getElem_cons_zero, List.setIfInBounds_toArray, List.set_cons_zero, List.set_cons_succ]
        refine wpAnyH_ready (rs := [4]) (by kernel_rfl) (by simp) (AllReadyH.cons rfl (fun K hK => ?_) AllReadyH.nil)
        go_simp
        go_at_call 46
        refine (put_wp B _ _ B T _ _ (by decide) (by first | (simp [low_len]; done) | (simp [low_len]; omega) | omega) (by first | decide | omega) HW).mono ?_
        rintro e W1 ⟨rfl, HW, f⟩
        have FW := kfN f hHeld.2.2.2.2.2
        dsimp only
        refine hK.out _ _ ?_ (fun hHeld => ?_)
        · (try dsimp only); (first | (go_split_ands; exact ⟨kcN f (by assumption), kcN f (by assumption), kcN f (by assumption), kcN f (by assumption), kcN f (by assumption), by assumption⟩) | (go_split_ands; exact ⟨(by assumption), (by assumption), (by assumption), (by assumption), (by assumption), by assumption⟩) | (go_split_ands; exact ⟨kcN (fr1 _ _) (by assumption), kcN (fr1 _ _) (by assumption), kcN (fr1 _ _) (by assumption), kcN (fr1 _ _) (by assumption), kcN (fr1 _ _) (by assumption), kfaN (by assumption)⟩))
        clear hK K
        try simp only [Act.put, List.getElem_toArray, List.getElem_cons_succ, List.getElem_cons_zero, List.setIfInBounds_toArray, List.set_cons_zero, List.set_cons_succ]
        refine wpAnyH_ready (rs := [8]) (by kernel_rfl) (by simp) (AllReadyH.cons rfl (fun K hK => ?_) AllReadyH.nil)
        go_simp
        go_at_call 46
        refine (put_wp B _ _ B T _ _ (by decide) (by first | (simp [low_len]; done) | (simp [low_len]; omega) | omega) (by first | decide | omega) HW).mono ?_
        rintro e W1 ⟨rfl, HW, f⟩
        have FW := kfN f hHeld.2.2.2.2.2
        dsimp only
        refine hK.out _ _ ?_ (fun hHeld => ?_)
        · (try dsimp only); (first | (go_split_ands; exact ⟨kcN f (by assumption), kcN f (by assumption), kcN f (by assumption), kcN f (by assumption), kcN f (by assumption), by assumption⟩) | (go_split_ands; exact ⟨(by assumption), (by assumption), (by assumption), (by assumption), (by assumption), by assumption⟩) | (go_split_ands; exact ⟨kcN (fr1 _ _) (by assumption), kcN (fr1 _ _) (by assumption), kcN (fr1 _ _) (by assumption), kcN (fr1 _ _) (by assumption), kcN (fr1 _ _) (by assumption), kfaN (by assumption)⟩))
        clear hK K
        try simp only [Act.put, List.getElem_toArray, List.getElem_cons_succ, List.getElem_cons_zero, List.setIfInBounds_toArray, List.set_cons_zero, List.set_cons_succ]
        refine wpAnyH_ready (rs := [12]) (by kernel_rfl) (by simp) (AllReadyH.cons rfl (fun K hK => ?_) AllReadyH.nil)
        go_simp
        go_at_call 46
        refine (put_wp B _ _ B T _ _ (by decide) (by first | (simp [low_len]; done) | (simp [low_len]; omega) | omega) (by first | decide | omega) HW).mono ?_
        rintro e W1 ⟨rfl, HW, f⟩
        have FW := kfN f hHeld.2.2.2.2.2
        dsimp only
        refine hK.out _ _ ?_ (fun hHeld => ?_)
        · (try dsimp only); (first | (go_split_ands; exact ⟨kcN f (by assumption), kcN f (by assumption), kcN f (by assumption), kcN f (by assumption), kcN f (by assumption), by assumption⟩) | (go_split_ands; exact ⟨(by assumption), (by assumption), (by assumption), (by assumption), (by assumption), by assumption⟩) | (go_split_ands; exact ⟨kcN (fr1 _ _) (by assumption), kcN (fr1 _ _) (by assumption), kcN (fr1 _ _) (by assumption), kcN (fr1 _ _) (by assumption), kcN (fr1 _ _) (by assumption), kfaN (by assumption)⟩))
        clear hK K
        try simp only [Act.put, List.getElem_toArray, List.getElem_cons_succ, List.getElem_cons_zero, List.setIfInBounds_toArray, List.set_cons_zero, List.set_cons_succ]
        refine wpAnyH_done (by kernel_rfl) ?_ _
        refine NoPanic.normal ?_
        go_split_ands
        go_wp2_with fail
        have HW := HW.drew
        have FW := kdN FW
        refine wp_region_noPanic ?_
        refine wp_region_held_drew (S := (fun W' => W'.cell? ⟨T, 0, none⟩ = some (.int .i64 dk) ∧ W'.cell? ⟨T, 1, none⟩ = some (.int .i64 da) ∧ W'.cell? ⟨T, 2, none⟩ = some (.int .i64 dn) ∧ W'.cell? ⟨T, 3, none⟩ = some (.int .i64 dz) ∧ W'.cell? ⟨T, 4, none⟩ = some (.int .i64 dq) ∧ Hid (Fr (NP B T) W2 W'))) (by kernel_rfl) ?_ (fun hHeld => ?_)
        · (try dsimp only); (first | (go_split_ands; exact ⟨kcN f (by assumption), kcN f (by assumption), kcN f (by assumption), kcN f (by assumption), kcN f (by assumption), by assumption⟩) | (go_split_ands; exact ⟨(by assumption), (by assumption), (by assumption), (by assumption), (by assumption), by assumption⟩) | (go_split_ands; exact ⟨kcN (fr1 _ _) (by assumption), kcN (fr1 _ _) (by assumption), kcN (fr1 _ _) (by assumption), kcN (fr1 _ _) (by assumption), kcN (fr1 _ _) (by assumption), kfaN (by assumption)⟩))
        refine wpAnyH_take (i := 0) (v := ?v60) rfl (by kernel_rfl) (by kernel_rfl) (by kernel_rfl) (fun _ _ _ h => h) (Or.inl ⟨by kernel_rfl, ?y60⟩) (by assumption) ?_
        case y60 => (intro w hSw; (try dsimp only at hSw); go_simp; all_goals with_reducible rfl)
        try simp only [Act.put, List.getElem_toArray, List.getElem_cons_zero, List.setIfInBounds_toArray, List.set_cons_zero, List.set_cons_succ]
        refine wpAnyH_take (i := 1) (v := ?v61) rfl (by kernel_rfl) (by kernel_rfl) (by kernel_rfl) (fun _ _ _ h => h) (Or.inl ⟨by kernel_rfl, ?y61⟩) (by assumption) ?_
        case y61 => (intro w hSw; (try dsimp only at hSw); go_simp; all_goals with_reducible rfl)
        try simp only [Act.put, List.getElem_toArray, List.getElem_cons_succ, List.getElem_cons_zero, List.setIfInBounds_toArray, List.set_cons_zero, List.set_cons_succ]
        refine wpAnyH_take (i := 2) (v := ?v62) rfl (by kernel_rfl) (by kernel_rfl) (by kernel_rfl) (fun _ _ _ h => h) (Or.inl ⟨by kernel_rfl, ?y62⟩) (by assumption) ?_
        case y62 => (intro w hSw; (try dsimp only at hSw); go_simp; all_goals with_reducible rfl)
        try simp only [Act.put, List.getElem_toArray, List.getElem_cons_succ, List.getElem_cons_zero, List.setIfInBounds_toArray, List.set_cons_zero, List.set_cons_succ]
        refine wpAnyH_take (i := 3) (v := ?v63) rfl (by kernel_rfl) (by kernel_rfl) (by kernel_rfl) (fun _ _ _ h => h) (Or.inl ⟨by kernel_rfl, ?y63⟩) (by assumption) ?_
        case y63 => (intro w hSw; (try dsimp only at hSw); go_simp; all_goals with_reducible rfl)
        try simp only [Act.put, List.getElem_toArray, List.getElem_cons_succ, List.getElem_cons_zero, List.setIfInBounds_toArray, List.set_cons_zero, List.set_cons_succ]
        refine wpAnyH_take (i := 5) (v := ?v64) rfl (by kernel_rfl) (by kernel_rfl) (by kernel_rfl) (fun _ _ _ h => h) (Or.inl ⟨by kernel_rfl, ?y64⟩) (by assumption) ?_
        case y64 => (intro w hSw; (try dsimp only at hSw); go_simp; all_goals with_reducible rfl)
        try simp only [Act.put, List.getElem_toArray, List.getElem_cons_succ, List.getElem_cons_zero, List.setIfInBounds_toArray, List.set_cons_zero, List.set_cons_succ]
        refine wpAnyH_take (i := 6) (v := ?v65) rfl (by kernel_rfl) (by kernel_rfl) (by kernel_rfl) (fun _ _ _ h => h) (Or.inl ⟨by kernel_rfl, ?y65⟩) (by assumption) ?_
        case y65 => (intro w hSw; (try dsimp only at hSw); go_simp; all_goals with_reducible rfl)
        try simp only [Act.put, List.getElem_toArray, List.getElem_cons_succ, List.getElem_cons_zero, List.setIfInBounds_toArray, List.set_cons_zero, List.set_cons_succ]
        refine wpAnyH_take (i := 7) (v := ?v66) rfl (by kernel_rfl) (by kernel_rfl) (by kernel_rfl) (fun _ _ _ h => h) (Or.inl ⟨by kernel_rfl, ?y66⟩) (by assumption) ?_
        case y66 => (intro w hSw; (try dsimp only at hSw); go_simp; all_goals with_reducible rfl)
        try simp only [Act.put, List.getElem_toArray, List.getElem_cons_succ, List.getElem_cons_zero, List.setIfInBounds_toArray, List.set_cons_zero, List.set_cons_succ]
        refine wpAnyH_ready (rs := [4]) (by kernel_rfl) (by simp) (AllReadyH.cons rfl (fun K hK => ?_) AllReadyH.nil)
        go_simp
        go_at_call 46
        refine (put_wp B _ _ B T _ _ (by decide) (by first | (simp [low_len]; done) | (simp [low_len]; omega) | omega) (by first | decide | omega) HW).mono ?_
        rintro e W1 ⟨rfl, HW, f⟩
        have FW := kfN f hHeld.2.2.2.2.2
        dsimp only
        refine hK.out _ _ ?_ (fun hHeld => ?_)
        · (try dsimp only); (first | (go_split_ands; exact ⟨kcN f (by assumption), kcN f (by assumption), kcN f (by assumption), kcN f (by assumption), kcN f (by assumption), by assumption⟩) | (go_split_ands; exact ⟨(by assumption), (by assumption), (by assumption), (by assumption), (by assumption), by assumption⟩) | (go_split_ands; exact ⟨kcN (fr1 _ _) (by assumption), kcN (fr1 _ _) (by assumption), kcN (fr1 _ _) (by assumption), kcN (fr1 _ _) (by assumption), kcN (fr1 _ _) (by assumption), kfaN (by assumption)⟩))
        clear hK K
        try simp only [Act.put, List.getElem_toArray, List.getElem_cons_succ, List.getElem_cons_zero, List.setIfInBounds_toArray, List.set_cons_zero, List.set_cons_succ]
        refine wpAnyH_ready (rs := [8]) (by kernel_rfl) (by simp) (AllReadyH.cons rfl (fun K hK => ?_) AllReadyH.nil)
        go_simp
        go_at_call 46
        refine (put_wp B _ _ B T _ _ (by decide) (by first | (simp [low_len]; done) | (simp [low_len]; omega) | omega) (by first | decide | omega) HW).mono ?_
        rintro e W1 ⟨rfl, HW, f⟩
        have FW := kfN f hHeld.2.2.2.2.2
        dsimp only
        refine hK.out _ _ ?_ (fun hHeld => ?_)
        · (try dsimp only); (first | (go_split_ands; exact ⟨kcN f (by assumption), kcN f (by assumption), kcN f (by assumption), kcN f (by assumption), kcN f (by assumption), by assumption⟩) | (go_split_ands; exact ⟨(by assumption), (by assumption), (by assumption), (by assumption), (by assumption), by assumption⟩) | (go_split_ands; exact ⟨kcN (fr1 _ _) (by assumption), kcN (fr1 _ _) (by assumption), kcN (fr1 _ _) (by assumption), kcN (fr1 _ _) (by assumption), kcN (fr1 _ _) (by assumption), kfaN (by assumption)⟩))
        clear hK K
        try simp only [Act.put, List.getElem_toArray, List.getElem_cons_succ, List.getElem_cons_zero, List.setIfInBounds_toArray, List.set_cons_zero, List.set_cons_succ]
        refine wpAnyH_ready (rs := [9]) (by kernel_rfl) (by simp) (AllReadyH.cons rfl (fun K hK => ?_) AllReadyH.nil)
        go_simp
        go_at_call 46
        refine (put_wp B _ _ B T _ _ (by decide) (by first | (simp [low_len]; done) | (simp [low_len]; omega) | omega) (by first | decide | omega) HW).mono ?_
        rintro e W1 ⟨rfl, HW, f⟩
        have FW := kfN f hHeld.2.2.2.2.2
        dsimp only
        refine hK.out _ _ ?_ (fun hHeld => ?_)
        · (try dsimp only); (first | (go_split_ands; exact ⟨kcN f (by assumption), kcN f (by assumption), kcN f (by assumption), kcN f (by assumption), kcN f (by assumption), by assumption⟩) | (go_split_ands; exact ⟨(by assumption), (by assumption), (by assumption), (by assumption), (by assumption), by assumption⟩) | (go_split_ands; exact ⟨kcN (fr1 _ _) (by assumption), kcN (fr1 _ _) (by assumption), kcN (fr1 _ _) (by assumption), kcN (fr1 _ _) (by assumption), kcN (fr1 _ _) (by assumption), kfaN (by assumption)⟩))
        clear hK K
        try simp only [Act.put, List.getElem_toArray, List.getElem_cons_succ, List.getElem_cons_zero, List.setIfInBounds_toArray, List.set_cons_zero, List.set_cons_succ]
        refine wpAnyH_done (by kernel_rfl) ?_ _
        refine NoPanic.normal ?_
        go_split_ands
        go_wp2
        go_roundw
        case rel =>
          refine ⟨k + 1, by omega, by go_num, ?_, FK.out.trans (np_mono hGB FW.out)⟩
          rw [fl_snoc HD.out, ← List.append_assoc, HX2.out]
          have := HW.un hGB
          simpa [eD, List.append_assoc] using this
        case measure => simp [intOf]; omega
      · obtain rfl : k = xs.length := by omega
        rw [List.take_length] at HW
        have HFk := hid hf
        have hlenR := HW.len
        have HTk := hid (HT.out.fr hf (by unfold NP; omega))
        clear hf HXk r0 r1 r2 r3 r4 u1 u2 u3 u4
        go_wp2_with (first | (go_at_call 47; refine (done_wp _ _ _ _ _ HW).mono ?_; rintro e' w4 ⟨A4, rfl, HD4, f4⟩; have HF4 := hid (HFk.out.trans (f4.mono fun _ _ h => h.elim)); have HT4 := hid (HTk.out.fr f4 (fun h => h)); clear f4) | (go_at_call 48; refine (seal_ok _ _ _ _ _ (by decide) HD4 (pad_u8 _ (eR_u8 ⟨e, s, true, u, xs⟩)) HT4.out).mono ?_; rintro e' w5 ⟨rfl, hb5, f5⟩; rw [pad_rest _ hlenR] at hb5; have HB5 := hid hb5; have HF5 := hid (HF4.out.trans (f5.mono fun _ _ h => h.elim)); clear f5 hb5))
        go_ret2
        exact ⟨_, rfl, HB5.out, HF5.out.mono fun k hk h => by unfold NP at h; omega⟩
end Go.Proofs.YtdepkpdolkipcaaDoor.RcG
