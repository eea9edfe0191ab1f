/- Contract: the sector of a label, by the program. Conditions: the geometry's count of zones is 64 bits; the table of sums is as its text lays it. -/
import Derived.Test.YtpiplcakefcaaaaDoorBdE
import Derived.Test.YtpiplcakefcaaaaDoorWrB
import Derived.Lib.SlBytesConst
namespace Go.Proofs.YtpiplcakefcaaaaDoor.BdG
open Go.RowKit MSep MFrame Kit LeA LeW LeR LeX WrB MGeM CrcA CrcM CrcE CrcG BdM BdA BdB BdC
open GeA (bg BG BL ld_geom ld_lay by_)

theorem u64w (n : Int) (h : 0 ≤ n ∧ n < 18446744073709551616) : IntKind.u64.wrap n = n := by rw [IntKind.wrap_u64]; omega
theorem TabAt.pos {w : World} (h : TabAt w) : 0 < w.heap.size := World.block_lt_of_cell? w _ (h 0 _ (by rfl))
theorem done_np (g : Nat) (B T : Nat) (xs : List Int) (w : World) (h : WrP w B T g xs) :
    Calls Tryd.prog 89 #[.pointer (some ⟨g, 0, none⟩)] w fun e w' => ∃ A, e = .returned (.tuple #[.slice A 124 124, .int .i64 0]) ∧ Rd w' A 124 ((padded 124 xs).map (Value.int .u8)) ∧ Fr (NP B T) w w' :=
  (done_wp _ _ _ _ _ h).mono (by rintro e w' ⟨A, rfl, h1, f⟩; exact ⟨A, rfl, h1, f.mono fun _ _ h => h.elim⟩)
theorem sealB {w : World} {g : Nat} {zs : List Int} (hl : zs.length ≤ 124) (hu : ∀ x ∈ zs, 0 ≤ x ∧ x ≤ 255) (h : Blk w g 5 (cells (seal_ zs)).toArray) : IsB w (some ⟨g, 0, none⟩) 128 128 (seal_ zs) := by
  have hs := seal_len hl
  have hc : (cells (seal_ zs)).length = 128 := by simp [cells, hs]
  refine ⟨?_, Nat.le_refl _, by decide, seal_u8 hu⟩
  have := Rd.blk (off := 0) (n := 128) h (by rw [hc]; decide)
  rw [List.drop_zero, List.take_of_length_le (by rw [hc]; decide)] at this
  exact this
def encF (g : Ge) (t : Lb) : List Int × Int := if mayG g then (if mayLb g t then (seal_ (eLb t), 0) else ([], 1)) else ([], 70)
set_option maxRecDepth 100000 in
set_option maxHeartbeats 8000000 in
theorem enc_ok (gc gs gn gl gk b u s : Int) (w : World) (hs : r64 gs) (hT : TabAt w) :
    Calls Tryd.prog 42 #[.agg #[.int .i64 gc, .int .i64 gs, .int .i64 gn, .int .i64 gl, .int .i64 gk], lv b u s] w fun e w' => RetT w w' e (encF ⟨gc, gs, gn, gl, gk⟩ ⟨b, u, s⟩) := by
  obtain ⟨G, hG⟩ : ∃ G, w.heap.size = G := ⟨_, rfl⟩
  obtain ⟨w1, hw1⟩ : ∃ w1, (w.alloc (bg gc gs gn gl gk)).alloc (.cells (lcs b u s) 76) = w1 := ⟨_, rfl⟩
  have FG := hid (show Fr No w w1 by rw [← hw1]; exact (fr1 _ _).alloc _)
  have P0 := hid (show BG w1 G gc gs gn gl gk by rw [← hw1, ← hG]; exact (BG.new w gc gs gn gl gk : Blk _ _ _ _).alloc _)
  have P1 := hid (show LB w1 (G + 1) b u s by
    rw [← hw1, ← hG]
    have := LB.new (w.alloc (bg gc gs gn gl gk)) b u s
    rwa [World.size_alloc] at this)
  have HW1 := hid hw1
  have HGG := hid hG
  have HMG := hid (fun W => GeC.may_ok gc gs gn gl gk W hs)
  have HMY := hid (fun v W hv => maylb_ok gc gs gn gl gk b u s v W hs hv)
  have HT := hid hT
  obtain ⟨V, hV⟩ : ∃ V, encF ⟨gc, gs, gn, gl, gk⟩ ⟨b, u, s⟩ = V := ⟨_, rfl⟩
  rw [hV]
  have HVV := hid hV
  clear hs hT hV hw1
  go_enter Tryd.func42, Tryd.ntmps42
  go_upto_region 1 with fail
  try rw [show (w.alloc (Obj.cells #[.int .i64 gc, .int .i64 gs, .int .i64 gn, .int .i64 gl, .int .i64 gk] 23)).alloc (Obj.cells #[.int .i64 b, .int .i64 u, .int .i64 s] 76) = w1 from HW1.out]
  try rw [hG]
  clear hG
  by_cases hm : mayG ⟨gc, gs, gn, gl, gk⟩
  case neg =>
    obtain rfl : V = ([], 70) := by rw [← HVV.out]; exact if_neg hm
    rw [decide_eq_false hm] at HMG
    clear hm HVV
    go_wp2_with (first | ((with_reducible refine ld_geom rfl (.tmp 2) rfl G ?_ P0.out ?_); · rfl) | (go_at_call 53; refine (HMG.out _).mono ?_; rintro e w2 ⟨rfl, f2⟩; replace FG := hid (FG.out.trans f2); clear f2))
    go_ret2
    exact RetT.no 70 FG.out
  rw [decide_eq_true hm] at HMG
  by_cases hq : mayLb ⟨gc, gs, gn, gl, gk⟩ ⟨b, u, s⟩
  case neg =>
    obtain rfl : V = ([], 1) := by rw [← HVV.out, encF, if_pos hm, if_neg hq]
    have HMQ := hid (fun W => HMY.out false W (by simpa using hq))
    clear hm hq HVV HMY
    go_wp2_with (first | ((with_reducible refine ld_geom rfl (.tmp 2) rfl G ?_ P0.out ?_); · rfl) | ((with_reducible refine ld_lb rfl (.tmp 3) rfl (G + 1) ?_ P1.out ?_); · rfl) | (go_at_call 53; refine (HMG.out _).mono ?_; rintro e w2 ⟨rfl, f2⟩; replace FG := hid (FG.out.trans f2); replace P0 := hid (P0.out.fr f2); replace P1 := hid (P1.out.fr f2); clear f2) | (go_at_call 43; refine (HMQ.out _).mono ?_; rintro e w7 ⟨rfl, f4⟩; replace FG := hid (FG.out.trans f4); clear f4))
    go_ret2
    exact RetT.no 1 FG.out
  obtain rfl : V = (seal_ (eLb ⟨b, u, s⟩), 0) := by rw [← HVV.out, encF, if_pos hm, if_pos hq]
  have HMQ := hid (fun W => HMY.out true W (by simpa using hq))
  obtain ⟨_, ⟨b0, _⟩, ⟨u0, u1⟩, s0, s1⟩ := id hq
  have b1 := mayLb_b hq
  dsimp only at b0 b1 u0 u1 s0 s1
  clear hm hq HVV HMY
  have v1 : IntKind.u64.wrap b = b := u64w b (by omega)
  have v2 : IntKind.u64.wrap u = u := u64w u (by omega)
  have v3 : IntKind.u64.wrap s = s := u64w s (by omega)
  have kcv := fun w C n c => Lib.run_convert_bytes_const (P := Tryd.prog) w 27 5 C n c Tryd.underlying27 Tryd.underlying5
  go_upto_region 6 with (first | ((with_reducible refine ld_geom rfl (.tmp 2) rfl G ?_ P0.out ?_); · rfl) | ((with_reducible refine ld_lb rfl (.tmp 3) rfl (G + 1) ?_ P1.out ?_); · rfl) | (go_at_call 53; refine (HMG.out _).mono ?_; rintro e w2 ⟨rfl, f2⟩; replace FG := hid (FG.out.trans f2); replace P0 := hid (P0.out.fr f2); replace P1 := hid (P1.out.fr f2); clear f2) | (go_at_call 43; refine (HMQ.out _).mono ?_; rintro e w7 ⟨rfl, f4⟩; replace FG := hid (FG.out.trans f4); replace P1 := hid (P1.out.fr f4); clear f4) | (go_at_call 86; refine (new_wp (G + 1) _ (Blk.lt P1.out)).mono ?_; rintro e' w2 ⟨rfl, HW, f2⟩; obtain ⟨B, hB⟩ : ∃ B, w7.heap.size = B := ⟨_, rfl⟩; have hGB : G + 1 < B := (by rw [← hB]; exact Blk.lt P1.out); rw [hB] at HW ⊢; have HF2 := hid (FG.out.trans f2); replace P1 := hid (P1.out.fr f2); clear f2 hB) | (go_at_call 87; go_loud (refine (bytes_wp B _ 2 2 [76, 66] B (G + 1) [] _ (by decide) (CrcG.lit_rd w2 [76, 66] (2, 3)) (HW.fr ((Fr.refl No _).alloc _))).mono ?_; rintro e' w3 ⟨rfl, HW, f3⟩; have FW : Hid (Fr (NP B (G + 1)) w w3) := hid (((HF2.out.alloc _).mono fun _ _ h => h.elim).trans f3); have HR3 := hid (show LB w3 (G + 1) b u s from Blk.fr (Blk.alloc P1.out (.cells #[.int .u8 76, .int .u8 66] 5 (2, 3))) f3 (by unfold NP; omega)); clear f3)))
  obtain ⟨r0, r1, r2⟩ := LB.cells HR3.out
  clear P0 P1 FG HMG HMQ
  have HW := HW.drew
  have FW := kdN FW
  refine wp_region_noPanic ?_
  refine wp_region_held_drew (S := (fun W' => W'.cell? ⟨G + 1, 0, none⟩ = some (.int .i64 b) ∧ W'.cell? ⟨G + 1, 1, none⟩ = some (.int .i64 u) ∧ W'.cell? ⟨G + 1, 2, none⟩ = some (.int .i64 s) ∧ Hid (Fr (NP B (G + 1)) w W'))) (by kernel_rfl) ?_ (fun hHeld => ?_)
  · (try dsimp only); (first | (go_split_ands; exact ⟨kcN f (by assumption), kcN f (by assumption), kcN f (by assumption), by assumption⟩) | (go_split_ands; exact ⟨(by assumption), (by assumption), (by assumption), by assumption⟩) | (go_split_ands; exact ⟨kcN (fr1 _ _) (by assumption), kcN (fr1 _ _) (by assumption), kcN (fr1 _ _) (by assumption), kfaN (by assumption)⟩))
  refine wpAnyH_take (i := 0) (v := ?v1) rfl (by kernel_rfl) (by kernel_rfl) (by kernel_rfl) (fun _ _ _ h => h) (Or.inl ⟨by kernel_rfl, ?y1⟩) (by assumption) ?_
  case y1 => (intro w hSw; (try dsimp only at hSw); go_simp; all_goals with_reducible rfl)
  try simp only [Act.put, List.getElem_toArray, List.getElem_cons_zero, List.setIfInBounds_toArray, List.set_cons_zero, List.set_cons_succ]
  refine wpAnyH_take (i := 1) (v := ?v2) rfl (by kernel_rfl) (by kernel_rfl) (by kernel_rfl) (fun _ _ _ h => h) (Or.inl ⟨by kernel_rfl, ?y2⟩) (by assumption) ?_
  case y2 => (intro w hSw; (try dsimp only at hSw); go_simp; all_goals with_reducible rfl)
  try simp only [Act.put, List.getElem_toArray, List.getElem_cons_succ, List.getElem_cons_zero, List.setIfInBounds_toArray, List.set_cons_zero, List.set_cons_succ]
  refine wpAnyH_take (i := 2) (v := ?v3) rfl (by kernel_rfl) (by kernel_rfl) (by kernel_rfl) (fun _ _ _ h => h) (Or.inl ⟨by kernel_rfl, ?y3⟩) (by assumption) ?_
  case y3 => (intro w hSw; (try dsimp only at hSw); go_simp; all_goals with_reducible rfl)
  try simp only [Act.put, List.getElem_toArray, List.getElem_cons_succ, List.getElem_cons_zero, List.setIfInBounds_toArray, List.set_cons_zero, List.set_cons_succ]
  refine wpAnyH_take (i := 3) (v := ?v4) rfl (by kernel_rfl) (by kernel_rfl) (by kernel_rfl) (fun _ _ _ h => h) (Or.inl ⟨by kernel_rfl, ?y4⟩) (by assumption) ?_
  case y4 => (intro w hSw; (try dsimp only at hSw); go_simp; all_goals with_reducible rfl)
  try simp only [Act.put, List.getElem_toArray, List.getElem_cons_succ, List.getElem_cons_zero, List.setIfInBounds_toArray, List.set_cons_zero, List.set_cons_succ]
  refine wpAnyH_take (i := 5) (v := ?v5) rfl (by kernel_rfl) (by kernel_rfl) (by kernel_rfl) (fun _ _ _ h => h) (Or.inl ⟨by kernel_rfl, ?y5⟩) (by assumption) ?_
  case y5 => (intro w hSw; (try dsimp only at hSw); go_simp; all_goals with_reducible rfl)
  try simp only [Act.put, List.getElem_toArray, List.getElem_cons_succ, List.getElem_cons_zero, List.setIfInBounds_toArray, List.set_cons_zero, List.set_cons_succ]
  refine wpAnyH_take (i := 6) (v := ?v6) rfl (by kernel_rfl) (by kernel_rfl) (by kernel_rfl) (fun _ _ _ h => h) (Or.inl ⟨by kernel_rfl, ?y6⟩) (by assumption) ?_
  case y6 => (intro w hSw; (try dsimp only at hSw); go_simp; all_goals with_reducible rfl)
  try simp only [Act.put, List.getElem_toArray, List.getElem_cons_succ, List.getElem_cons_zero, List.setIfInBounds_toArray, List.set_cons_zero, List.set_cons_succ]
  refine wpAnyH_take (i := 7) (v := ?v7) rfl (by kernel_rfl) (by kernel_rfl) (by kernel_rfl) (fun _ _ _ h => h) (Or.inl ⟨by kernel_rfl, ?y7⟩) (by assumption) ?_
  case y7 => (intro w hSw; (try dsimp only at hSw); go_simp; all_goals with_reducible rfl)
  try simp only [Act.put, List.getElem_toArray, List.getElem_cons_succ, List.getElem_cons_zero, List.setIfInBounds_toArray, List.set_cons_zero, List.set_cons_succ]
  refine wpAnyH_take (i := 9) (v := ?v8) rfl (by kernel_rfl) (by kernel_rfl) (by kernel_rfl) (fun _ _ _ h => h) (Or.inl ⟨by kernel_rfl, ?y8⟩) (by assumption) ?_
  case y8 => (intro w hSw; (try dsimp only at hSw); go_simp; all_goals with_reducible rfl)
  try simp only [Act.put, List.getElem_toArray, List.getElem_cons_succ, List.getElem_cons_zero, List.setIfInBounds_toArray, List.set_cons_zero, List.set_cons_succ]
  refine wpAnyH_take (i := 10) (v := ?v9) rfl (by kernel_rfl) (by kernel_rfl) (by kernel_rfl) (fun _ _ _ h => h) (Or.inl ⟨by kernel_rfl, ?y9⟩) (by assumption) ?_
  case y9 => (intro w hSw; (try dsimp only at hSw); go_simp; all_goals with_reducible rfl)
  try simp only [Act.put, List.getElem_toArray, List.getElem_cons_succ, List.getElem_cons_zero, List.setIfInBounds_toArray, List.set_cons_zero, List.set_cons_succ]
  refine wpAnyH_take (i := 11) (v := ?v10) rfl (by kernel_rfl) (by kernel_rfl) (by kernel_rfl) (fun _ _ _ h => h) (Or.inl ⟨by kernel_rfl, ?y10⟩) (by assumption) ?_
  case y10 => (intro w hSw; (try dsimp only at hSw); go_simp; all_goals with_reducible rfl)
  try simp only [Act.put, List.getElem_toArray, List.getElem_cons_succ, List.getElem_cons_zero, List.setIfInBounds_toArray, List.set_cons_zero, List.set_cons_succ]
  refine wpAnyH_ready (rs := [4]) (by kernel_rfl) (by simp) (AllReadyH.cons rfl (fun K hK => ?_) AllReadyH.nil)
  go_simp
  go_at_call 88
  refine (put_wp B _ _ B (G + 1) _ _ (by decide) (by first | (simp []; done) | (simp [low_len]; omega) | omega) (by first | decide | omega) HW).mono ?_
  rintro e W1 ⟨rfl, HW, f⟩
  have FW := kfN f hHeld.2.2.2
  dsimp only
  refine hK.out _ _ ?_ (fun hHeld => ?_)
  · (try dsimp only); (first | (go_split_ands; exact ⟨kcN f (by assumption), kcN f (by assumption), kcN f (by assumption), by assumption⟩) | (go_split_ands; exact ⟨(by assumption), (by assumption), (by assumption), by assumption⟩) | (go_split_ands; exact ⟨kcN (fr1 _ _) (by assumption), kcN (fr1 _ _) (by assumption), kcN (fr1 _ _) (by assumption), kfaN (by assumption)⟩))
  clear hK K
  try simp only [Act.put, List.getElem_toArray, List.getElem_cons_succ, List.getElem_cons_zero, List.setIfInBounds_toArray, List.set_cons_zero, List.set_cons_succ]
  refine wpAnyH_ready (rs := [8]) (by kernel_rfl) (by simp) (AllReadyH.cons rfl (fun K hK => ?_) AllReadyH.nil)
  go_simp
  go_at_call 88
  refine (put_wp B _ _ B (G + 1) _ _ (by decide) (by first | (simp [low_len]; done) | (simp [low_len]; omega) | omega) (by first | decide | omega) HW).mono ?_
  rintro e W1 ⟨rfl, HW, f⟩
  have FW := kfN f hHeld.2.2.2
  dsimp only
  refine hK.out _ _ ?_ (fun hHeld => ?_)
  · (try dsimp only); (first | (go_split_ands; exact ⟨kcN f (by assumption), kcN f (by assumption), kcN f (by assumption), by assumption⟩) | (go_split_ands; exact ⟨(by assumption), (by assumption), (by assumption), by assumption⟩) | (go_split_ands; exact ⟨kcN (fr1 _ _) (by assumption), kcN (fr1 _ _) (by assumption), kcN (fr1 _ _) (by assumption), kfaN (by assumption)⟩))
  clear hK K
  try simp only [Act.put, List.getElem_toArray, List.getElem_cons_succ, List.getElem_cons_zero, List.setIfInBounds_toArray, List.set_cons_zero, List.set_cons_succ]
  refine wpAnyH_ready (rs := [12]) (by kernel_rfl) (by simp) (AllReadyH.cons rfl (fun K hK => ?_) AllReadyH.nil)
  go_simp
  go_at_call 88
  refine (put_wp B _ _ B (G + 1) _ _ (by decide) (by first | (simp [low_len]; done) | (simp [low_len]; omega) | omega) (by first | decide | omega) HW).mono ?_
  rintro e W1 ⟨rfl, HW, f⟩
  have FW := kfN f hHeld.2.2.2
  dsimp only
  refine hK.out _ _ ?_ (fun hHeld => ?_)
  · (try dsimp only); (first | (go_split_ands; exact ⟨kcN f (by assumption), kcN f (by assumption), kcN f (by assumption), by assumption⟩) | (go_split_ands; exact ⟨(by assumption), (by assumption), (by assumption), by assumption⟩) | (go_split_ands; exact ⟨kcN (fr1 _ _) (by assumption), kcN (fr1 _ _) (by assumption), kcN (fr1 _ _) (by assumption), kfaN (by assumption)⟩))
  clear hK K
  try simp only [Act.put, List.getElem_toArray, List.getElem_cons_succ, List.getElem_cons_zero, List.setIfInBounds_toArray, List.set_cons_zero, List.set_cons_succ]
  refine wpAnyH_ready (rs := [13]) (by kernel_rfl) (by simp) (AllReadyH.cons rfl (fun K hK => ?_) AllReadyH.nil)
  go_simp
  go_at_call 89
  refine (done_np _ _ _ _ _ HW).mono ?_
  rintro e W1 ⟨A4, rfl, HD4, f⟩
  have FW := kfN f hHeld.2.2.2
  have HD5 := hid HD4
  dsimp only
  refine hK.out _ _ ?_ (fun hHeld => ?_)
  · (try dsimp only); (first | (go_split_ands; exact ⟨kcN f (by assumption), kcN f (by assumption), kcN f (by assumption), by assumption⟩) | (go_split_ands; exact ⟨(by assumption), (by assumption), (by assumption), by assumption⟩) | (go_split_ands; exact ⟨kcN (fr1 _ _) (by assumption), kcN (fr1 _ _) (by assumption), kcN (fr1 _ _) (by assumption), kfaN (by assumption)⟩))
  clear hK K
  try simp only [Act.put, List.getElem_toArray, List.getElem_cons_succ, List.getElem_cons_zero, List.setIfInBounds_toArray, List.set_cons_zero, List.set_cons_succ]
  refine wpAnyH_take (i := 14) (v := ?v11) rfl (by kernel_rfl) (by kernel_rfl) (by kernel_rfl) (fun _ _ _ h => h) (Or.inl ⟨by kernel_rfl, ?y11⟩) (by assumption) ?_
  case y11 => (intro w hSw; (try dsimp only at hSw); go_simp; all_goals with_reducible rfl)
  try simp only [Act.put, List.getElem_toArray, List.getElem_cons_succ, List.getElem_cons_zero, List.setIfInBounds_toArray, List.set_cons_zero, List.set_cons_succ]
  refine wpAnyH_take (i := 15) (v := ?v12) rfl (by kernel_rfl) (by kernel_rfl) (by kernel_rfl) (fun _ _ _ h => h) (Or.inl ⟨by kernel_rfl, ?y12⟩) (by assumption) ?_
  case y12 => (intro w hSw; (try dsimp only at hSw); go_simp; all_goals with_reducible rfl)
  try simp only [Act.put, List.getElem_toArray, List.getElem_cons_succ, List.getElem_cons_zero, List.setIfInBounds_toArray, List.set_cons_zero, List.set_cons_succ]
  refine wpAnyH_take (i := 16) (v := ?v13) rfl (by kernel_rfl) (by kernel_rfl) (by kernel_rfl) (fun _ _ _ h => h) (Or.inl ⟨by kernel_rfl, ?y13⟩) (by assumption) ?_
  case y13 => (intro w hSw; (try dsimp only at hSw); go_simp; all_goals with_reducible rfl)
  try simp only [Act.put, List.getElem_toArray, List.getElem_cons_succ, List.getElem_cons_zero, List.setIfInBounds_toArray, List.set_cons_zero, List.set_cons_succ]
  refine wpAnyH_take (i := 17) (v := ?v14) rfl (by kernel_rfl) (by kernel_rfl) (by kernel_rfl) (fun _ _ _ h => h) (Or.inl ⟨by kernel_rfl, ?y14⟩) (by assumption) ?_
  case y14 => (intro w hSw; (try dsimp only at hSw); go_simp; all_goals with_reducible rfl)
  try simp only [Act.put, List.getElem_toArray, List.getElem_cons_succ, List.getElem_cons_zero, List.setIfInBounds_toArray, List.set_cons_zero, List.set_cons_succ]
  refine wpAnyH_take (i := 18) (v := ?v15) rfl (by kernel_rfl) (by kernel_rfl) (by kernel_rfl) (fun _ _ _ h => h) (Or.inl ⟨by kernel_rfl, ?y15⟩) (by assumption) ?_
  case y15 => (intro w hSw; (try dsimp only at hSw); go_simp; all_goals with_reducible rfl)
  try simp only [Act.put, List.getElem_toArray, List.getElem_cons_succ, List.getElem_cons_zero, List.setIfInBounds_toArray, List.set_cons_zero, List.set_cons_succ]
  refine wpAnyH_done (by kernel_rfl) ?_ _
  refine NoPanic.normal ?_
  have FW := hHeld.2.2.2
  clear hHeld
  have HTk := hid (HT.out.fr FW.out (by unfold NP; have h1 := TabAt.pos HT.out; have h2 := HGG.out; omega))
  have HEL := hid (show (eLb ⟨b, u, s⟩).length ≤ 124 by rw [eLb_len]; omega)
  have HEU := hid (eLb_u8 ⟨b, u, s⟩)
  obtain ⟨E, hE⟩ : ∃ E, eLb ⟨b, u, s⟩ = E := ⟨_, rfl⟩
  have HD6 := hid (show Rd _ A4 124 ((padded 124 E).map (Value.int .u8)) by rw [← hE]; simpa [eLb, List.append_assoc] using HD5.out)
  rw [hE] at HEL HEU
  have HEE := hid hE
  clear hE HD4 HD5 v1 v2 v3 b0 b1 u0 u1 s0 s1 kcv
  go_wp2_with (go_at_call 90; refine (CrcE.seal_ok _ _ _ _ _ (by decide) HD6.out (pad_u8 _ HEU.out) HTk.out).mono ?_; rintro e' w5 ⟨rfl, hb5, f5⟩; rw [pad_rest _ HEL.out] at hb5; have HB5 := hid hb5; have HF5 := hid (FW.out.trans (f5.mono fun _ _ h => h.elim)); clear f5 hb5)
  go_ret2
  have HFF := hid (HF5.out.mono (T := No) fun k hk h => by unfold NP at h; have := HGG.out; omega)
  refine ⟨some ⟨W1.heap.size, 0, none⟩, 128, ?_, ?_, HFF.out⟩
  · dsimp only
    rw [HEE.out, seal_len HEL.out]
    rfl
  · dsimp only
    rw [HEE.out, seal_len HEL.out]
    exact sealB HEL.out HEU.out HB5.out
end Go.Proofs.YtpiplcakefcaaaaDoor.BdG
