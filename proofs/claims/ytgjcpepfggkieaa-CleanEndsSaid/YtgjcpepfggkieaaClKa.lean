/- Contract: what becomes of a job as what it wanted was done, by the program. Condition: lists that read as lists; numbers of 64 bits; the job may be. -/
import Derived.Test.YtgjcpepfggkieaaClK
namespace Go.Proofs.Ytgjcpepfggkieaa.ClKa
open Go.RowKit MSep MGeM GeA GeC GeD PlA PlB ClM ClA ClE ClB ClC ClD ClG ClH ClI ClJ ClK

set_option maxRecDepth 100000 in
set_option maxHeartbeats 2000000 in
theorem bec_1 (gc gs gn gl gk b d ch : Int) (z : Int) (A : Option Addr) (l c : Nat) (sp nx : Int) (bs : List Int) (dz db : Int) (B : Option Addr) (m e : Nat) (ys : List Int) (w : World) (hs : -9223372036854775808 ≤ gs ∧ gs ≤ 9223372036854775807) (hm : mayG ⟨gc, gs, gn, gl, gk⟩) (hlb : (lay ⟨gc, gs, gn, gl, gk⟩).b = b ∧ (lay ⟨gc, gs, gn, gl, gk⟩).d = d) (hz : inI z) (hp : inI sp) (hdz : inI dz) (hi : InI w A l c bs) (hy : InI w B m e ys) (ho : okJ d ⟨1, z, bs, sp, nx⟩) (hc : 1 ≤ ch ∧ ch ≤ 1000000) :
    Calls Try.prog 70 #[.agg #[.int .i64 gc, .int .i64 gs, .int .i64 gn, .int .i64 gl, .int .i64 gk, .int .i64 b, .int .i64 d, .int .i64 ch], .agg #[.int .i64 1, .int .i64 z, .slice A l c, .int .i64 sp, .int .i64 nx], .agg #[.int .i64 2, .int .i64 dz, .int .i64 db, .slice B m e]] w fun r w' => RetB w (if mayB ⟨gc, gs, gn, gl, gk⟩ (turnJ d ch 2 ⟨1, z, bs, sp, nx⟩ ⟨2, dz, db, ys⟩) then (turnJ d ch 2 ⟨1, z, bs, sp, nx⟩ ⟨2, dz, db, ys⟩, 0) else (zero, 1)) r w' := by
  have hd2 : d ≤ 1000000 := by have := (good hm.1).d2; have h2 := hlb.2; omega
  have hd1 : 1 ≤ d := by have := (good hm.1).d1; have h2 := hlb.2; omega
  have HII := hid (in_turn (d := d) (ch := ch) (k := 2) (_dz := dz) (j := ⟨1, z, bs, sp, nx⟩) (v := ⟨2, dz, db, ys⟩) hz hp hdz)
  obtain ⟨tj, htj⟩ : ∃ j, turnJ d ch 2 ⟨1, z, bs, sp, nx⟩ ⟨2, dz, db, ys⟩ = j := ⟨_, rfl⟩
  rw [htj] at HII
  rw [htj]
  have HTJ := hid (show tj = ⟨3, z, bs, dz, nx⟩ by rw [← htj]; simp [turnJ])
  have HWA := hid (fun W (h : InI W A l c bs) => wants_ok gc gs gn gl gk b d ch 1 z A l c sp nx bs W h ho (by omega) (by omega))
  rw [w_band] at HWA
  dsimp only [tv] at HWA
  have hfd : ∀ (x1 x2 x3 x4 x5 : Int) (w : World), (Instr.field 63 (.agg #[.int .i64 x1, .int .i64 x2, .int .i64 x3, .int .i64 x4, .int .i64 x5]) 0).run Try.prog w = .ok (.int .i64 x1) w := fun _ _ _ _ _ _ => by kernel_rfl
  have HM := hid (fun st' z' (B' : Option Addr) (m' d' : Nat) sp' nx' W (h1 : inI z') (h2 : inI sp') (h3 : InI W B' m' d' tj.bs) => may_ok gc gs gn gl gk st' z' B' m' d' sp' nx' tj.bs W hs h1 h2 h3)
  obtain ⟨mb, hmb⟩ : ∃ b, mayB ⟨gc, gs, gn, gl, gk⟩ tj = b := ⟨_, rfl⟩
  rw [hmb]
  have HMB := hid hmb
  have HNE := hid (ho.2.1 (by simp))
  clear htj hmb hdz
  have P0 := hid ((((BW.at_ (w := w) (g := w.heap.size) gc gs gn gl gk b d ch rfl).up (oJ 1 z A l c sp nx)).up (oD 2 dz db B m e)).up (oJ 0 0 none 0 0 0 0))
  have P1 := hid (((BJ.at_ (w := w.alloc (oW gc gs gn gl gk b d ch)) (g := w.heap.size + 1) 1 z A l c sp nx (by simp)).up (oD 2 dz db B m e)).up (oJ 0 0 none 0 0 0 0))
  have P2 := hid ((BD.at_ (w := (w.alloc (oW gc gs gn gl gk b d ch)).alloc (oJ 1 z A l c sp nx)) (g := w.heap.size + 1 + 1) 2 dz db B m e (by simp)).up (oJ 0 0 none 0 0 0 0))
  have P3 := hid (BJ.at_ (w := ((w.alloc (oW gc gs gn gl gk b d ch)).alloc (oJ 1 z A l c sp nx)).alloc (oD 2 dz db B m e)) (g := w.heap.size + 1 + 1 + 1) 0 0 none 0 0 0 0 (by simp))
  have HF := hid ((((fr1 w (oW gc gs gn gl gk b d ch)).alloc (oJ 1 z A l c sp nx)).alloc (oD 2 dz db B m e)).alloc (oJ 0 0 none 0 0 0 0))
  have HIW := hid hi
  have HYW := hid hy
  have HI := hid (hi.fr HF.out)
  have HY := hid (hy.fr HF.out)
  have HC := hid hc
  clear hi hy ho hm hlb hz hp
  go_enter Try.func70, Try.ntmps70
  go_wp2_with fail
  refine (HWA.out _ HI.out).mono ?_
  rintro r w2 ⟨rfl, f2⟩
  have HF := kf f2 HF
  have HI := hid (HI.out.fr f2)
  have HY := hid (HY.out.fr f2)
  have P0 := hid (P0.out.fr f2)
  have P1 := hid (P1.out.fr f2)
  have P2 := hid (P2.out.fr f2)
  have P3 := hid (P3.out.fr f2)
  have hlt2 : w.heap.size + 1 + 1 + 1 < w2.heap.size := (P3.out : Blk _ _ _ _).lt
  clear f2 HWA
  go_upto_region 9 with fail
  obtain ⟨e0, e1, e2, e3, e4, e5, e6, e7⟩ := P0.out.cells
  obtain ⟨c0, c1, c2, c3, c4⟩ := P1.out.cells
  obtain ⟨d0, d1, d2, d3⟩ := P2.out.cells
  go_cut [8] (TurnR w w2 tj)
  case first =>
    have FW := hid (Fr.refl No w2)
    have FW := kd FW
    refine wp_region_noPanic ?_
    refine wp_region_held_drew (S := (fun W' => W'.cell? ⟨w.heap.size, 0, none⟩ = some (.int .i64 gc) ∧ W'.cell? ⟨w.heap.size, 1, none⟩ = some (.int .i64 gs) ∧ W'.cell? ⟨w.heap.size, 2, none⟩ = some (.int .i64 gn) ∧ W'.cell? ⟨w.heap.size, 3, none⟩ = some (.int .i64 gl) ∧ W'.cell? ⟨w.heap.size, 4, none⟩ = some (.int .i64 gk) ∧ W'.cell? ⟨w.heap.size, 5, none⟩ = some (.int .i64 b) ∧ W'.cell? ⟨w.heap.size, 6, none⟩ = some (.int .i64 d) ∧ W'.cell? ⟨w.heap.size, 7, none⟩ = some (.int .i64 ch) ∧ W'.cell? ⟨w.heap.size + 1, 0, none⟩ = some (.int .i64 1) ∧ W'.cell? ⟨w.heap.size + 1, 1, none⟩ = some (.int .i64 z) ∧ W'.cell? ⟨w.heap.size + 1, 2, none⟩ = some (.slice A l c) ∧ W'.cell? ⟨w.heap.size + 1, 3, none⟩ = some (.int .i64 sp) ∧ W'.cell? ⟨w.heap.size + 1, 4, none⟩ = some (.int .i64 nx) ∧ W'.cell? ⟨w.heap.size + 1 + 1, 0, none⟩ = some (.int .i64 2) ∧ W'.cell? ⟨w.heap.size + 1 + 1, 1, none⟩ = some (.int .i64 dz) ∧ W'.cell? ⟨w.heap.size + 1 + 1, 2, none⟩ = some (.int .i64 db) ∧ W'.cell? ⟨w.heap.size + 1 + 1, 3, none⟩ = some (.slice B m e) ∧ Hid (Fr No w2 W'))) (by kernel_rfl) ?_ (fun hHeld => ?_)
    · (try dsimp only); (first | exact ⟨kc f hHeld.1, kc f hHeld.2.1, kc f hHeld.2.2.1, kc f hHeld.2.2.2.1, kc f hHeld.2.2.2.2.1, kc f hHeld.2.2.2.2.2.1, kc f hHeld.2.2.2.2.2.2.1, kc f hHeld.2.2.2.2.2.2.2.1, kc f hHeld.2.2.2.2.2.2.2.2.1, kc f hHeld.2.2.2.2.2.2.2.2.2.1, kc f hHeld.2.2.2.2.2.2.2.2.2.2.1, kc f hHeld.2.2.2.2.2.2.2.2.2.2.2.1, kc f hHeld.2.2.2.2.2.2.2.2.2.2.2.2.1, kc f hHeld.2.2.2.2.2.2.2.2.2.2.2.2.2.1, kc f hHeld.2.2.2.2.2.2.2.2.2.2.2.2.2.2.1, kc f hHeld.2.2.2.2.2.2.2.2.2.2.2.2.2.2.2.1, kc f hHeld.2.2.2.2.2.2.2.2.2.2.2.2.2.2.2.2.1, FW⟩ | (go_split_ands; exact ⟨kc f (by assumption), kc f (by assumption), kc f (by assumption), kc f (by assumption), kc f (by assumption), kc f (by assumption), kc f (by assumption), kc f (by assumption), kc f (by assumption), kc f (by assumption), kc f (by assumption), kc f (by assumption), kc f (by assumption), kc f (by assumption), kc f (by assumption), kc f (by assumption), kc f (by assumption), by assumption⟩) | (go_split_ands; exact ⟨(by assumption), (by assumption), (by assumption), (by assumption), (by assumption), (by assumption), (by assumption), (by assumption), (by assumption), (by assumption), (by assumption), (by assumption), (by assumption), (by assumption), (by assumption), (by assumption), (by assumption), by assumption⟩) | (go_split_ands; exact ⟨kc (fr1 _ _) (by assumption), kc (fr1 _ _) (by assumption), kc (fr1 _ _) (by assumption), kc (fr1 _ _) (by assumption), kc (fr1 _ _) (by assumption), kc (fr1 _ _) (by assumption), kc (fr1 _ _) (by assumption), kc (fr1 _ _) (by assumption), kc (fr1 _ _) (by assumption), kc (fr1 _ _) (by assumption), kc (fr1 _ _) (by assumption), kc (fr1 _ _) (by assumption), kc (fr1 _ _) (by assumption), kc (fr1 _ _) (by assumption), kc (fr1 _ _) (by assumption), kc (fr1 _ _) (by assumption), kc (fr1 _ _) (by assumption), kfa (by assumption)⟩) | (go_split_ands; exact ⟨kc (fr1d _ _) (by assumption), kc (fr1d _ _) (by assumption), kc (fr1d _ _) (by assumption), kc (fr1d _ _) (by assumption), kc (fr1d _ _) (by assumption), kc (fr1d _ _) (by assumption), kc (fr1d _ _) (by assumption), kc (fr1d _ _) (by assumption), kc (fr1d _ _) (by assumption), kc (fr1d _ _) (by assumption), kc (fr1d _ _) (by assumption), kc (fr1d _ _) (by assumption), kc (fr1d _ _) (by assumption), kc (fr1d _ _) (by assumption), kc (fr1d _ _) (by assumption), kc (fr1d _ _) (by assumption), kc (fr1d _ _) (by assumption), kfae (by assumption)⟩) | (exact ⟨kc (fr1 _ _) hHeld.1, kc (fr1 _ _) hHeld.2.1, kc (fr1 _ _) hHeld.2.2.1, kc (fr1 _ _) hHeld.2.2.2.1, kc (fr1 _ _) hHeld.2.2.2.2.1, kc (fr1 _ _) hHeld.2.2.2.2.2.1, kc (fr1 _ _) hHeld.2.2.2.2.2.2.1, kc (fr1 _ _) hHeld.2.2.2.2.2.2.2.1, kc (fr1 _ _) hHeld.2.2.2.2.2.2.2.2.1, kc (fr1 _ _) hHeld.2.2.2.2.2.2.2.2.2.1, kc (fr1 _ _) hHeld.2.2.2.2.2.2.2.2.2.2.1, kc (fr1 _ _) hHeld.2.2.2.2.2.2.2.2.2.2.2.1, kc (fr1 _ _) hHeld.2.2.2.2.2.2.2.2.2.2.2.2.1, kc (fr1 _ _) hHeld.2.2.2.2.2.2.2.2.2.2.2.2.2.1, kc (fr1 _ _) hHeld.2.2.2.2.2.2.2.2.2.2.2.2.2.2.1, kc (fr1 _ _) hHeld.2.2.2.2.2.2.2.2.2.2.2.2.2.2.2.1, kc (fr1 _ _) hHeld.2.2.2.2.2.2.2.2.2.2.2.2.2.2.2.2.1, kfa (hHeld.2.2.2.2.2.2.2.2.2.2.2.2.2.2.2.2.2)⟩) | (exact hHeld))
    refine wpAnyH_take (i := 0) (v := ?v1) rfl (by kernel_rfl) (by kernel_rfl) (by kernel_rfl) (fun _ _ _ h => h) (Or.inl ⟨by kernel_rfl, ?y1⟩) (by assumption) ?_
    case y1 => (intro w hSw; (try dsimp only at hSw); go_simp; all_goals with_reducible rfl)
    try simp only [Act.put, List.getElem_toArray, List.getElem_cons_zero, List.setIfInBounds_toArray, List.set_cons_zero, List.set_cons_succ]
    refine wpAnyH_take (i := 2) (v := ?v2) rfl (by kernel_rfl) (by kernel_rfl) (by kernel_rfl) (fun _ _ _ h => h) (Or.inl ⟨by kernel_rfl, ?y2⟩) (by assumption) ?_
    case y2 => (intro w hSw; (try dsimp only at hSw); go_simp; all_goals with_reducible rfl)
    try simp only [Act.put, List.getElem_toArray, List.getElem_cons_succ, List.getElem_cons_zero, List.setIfInBounds_toArray, List.set_cons_zero, List.set_cons_succ]
    refine wpAnyH_take (i := 3) (v := ?v3) rfl (by kernel_rfl) (by kernel_rfl) (by kernel_rfl) (fun _ _ _ h => h) (Or.inl ⟨by kernel_rfl, ?y3⟩) (by assumption) ?_
    case y3 => (intro w hSw; (try dsimp only at hSw); go_simp; all_goals with_reducible rfl)
    try simp only [Act.put, List.getElem_toArray, List.getElem_cons_succ, List.getElem_cons_zero, List.setIfInBounds_toArray, List.set_cons_zero, List.set_cons_succ]
    refine wpAnyH_take (i := 6) (v := ?v4) rfl (by kernel_rfl) (by kernel_rfl) (by kernel_rfl) (fun _ _ _ h => h) (Or.inl ⟨by kernel_rfl, ?y4⟩) (by assumption) ?_
    case y4 => (intro w hSw; (try dsimp only at hSw); go_simp; all_goals with_reducible rfl)
    try simp only [Act.put, List.getElem_toArray, List.getElem_cons_succ, List.getElem_cons_zero, List.setIfInBounds_toArray, List.set_cons_zero, List.set_cons_succ]
    refine wpAnyH_take (i := 7) (v := ?v5) rfl (by kernel_rfl) (by kernel_rfl) (by kernel_rfl) (fun _ _ _ h => h) (Or.inl ⟨by kernel_rfl, ?y5⟩) (by assumption) ?_
    case y5 => (intro w hSw; (try dsimp only at hSw); go_simp; all_goals with_reducible rfl)
    try simp only [Act.put, List.getElem_toArray, List.getElem_cons_succ, List.getElem_cons_zero, List.setIfInBounds_toArray, List.set_cons_zero, List.set_cons_succ]
    refine wpAnyH_ready (rs := [1, 9]) (by kernel_rfl) (by simp) (AllReadyH.cons rfl (fun K hK => ?_) (AllReadyH.cons rfl (fun K hK => ?_) AllReadyH.nil))
    · go_simp
      go_at_call 74
      refine (turns_ok gc gs gn gl gk b d ch _).mono ?_
      rintro e W1 ⟨gt, gw, rfl, ht, hg1, hg2, f⟩
      have FW := kf f hHeld.2.2.2.2.2.2.2.2.2.2.2.2.2.2.2.2.2
      have HT := hid ht
      (try have MX := hid (MX.out.fr f))
      clear ht
      dsimp only
      refine hK.out _ _ ?_ (fun hHeld => ?_)
      · (try dsimp only); exact ⟨kc f hHeld.1, kc f hHeld.2.1, kc f hHeld.2.2.1, kc f hHeld.2.2.2.1, kc f hHeld.2.2.2.2.1, kc f hHeld.2.2.2.2.2.1, kc f hHeld.2.2.2.2.2.2.1, kc f hHeld.2.2.2.2.2.2.2.1, kc f hHeld.2.2.2.2.2.2.2.2.1, kc f hHeld.2.2.2.2.2.2.2.2.2.1, kc f hHeld.2.2.2.2.2.2.2.2.2.2.1, kc f hHeld.2.2.2.2.2.2.2.2.2.2.2.1, kc f hHeld.2.2.2.2.2.2.2.2.2.2.2.2.1, kc f hHeld.2.2.2.2.2.2.2.2.2.2.2.2.2.1, kc f hHeld.2.2.2.2.2.2.2.2.2.2.2.2.2.2.1, kc f hHeld.2.2.2.2.2.2.2.2.2.2.2.2.2.2.2.1, kc f hHeld.2.2.2.2.2.2.2.2.2.2.2.2.2.2.2.2.1, FW⟩
      clear hK K
      try simp only [Act.put, List.getElem_toArray, List.getElem_cons_succ, List.getElem_cons_zero, List.setIfInBounds_toArray, List.set_cons_zero, List.set_cons_succ]
      have tk := HT.out.cells.2.1
      refine wpAnyH_take (i := 4) (v := ?v6) rfl (by kernel_rfl) (by kernel_rfl) (by kernel_rfl) (fun _ _ _ h => h) (Or.inl ⟨by kernel_rfl, ?y6⟩) (by assumption) ?_
      case y6 => (intro w hSw; (try dsimp only at hSw); go_simp; all_goals with_reducible rfl)
      try simp only [Act.put, List.getElem_toArray, List.getElem_cons_succ, List.getElem_cons_zero, List.setIfInBounds_toArray, List.set_cons_zero, List.set_cons_succ]
      refine wpAnyH_ready (rs := [5, 9]) (by kernel_rfl) (by simp) (AllReadyH.cons rfl (fun K hK => ?_) (AllReadyH.cons rfl (fun K hK => ?_) AllReadyH.nil))
      · go_simp
        refine hK.out _ _ ?_ (fun hHeld => ?_)
        · (try dsimp only); (exact hHeld)
        clear hK K
        try simp only [Act.put, List.getElem_toArray, List.getElem_cons_succ, List.getElem_cons_zero, List.setIfInBounds_toArray, List.set_cons_zero, List.set_cons_succ]
        refine wpAnyH_ready (rs := [8, 9]) (by kernel_rfl) (by simp) (AllReadyH.cons rfl (fun K hK => ?_) (AllReadyH.cons rfl (fun K hK => ?_) AllReadyH.nil))
        · go_simp
          go_at_call 95
          refine (turn2_ok 1 z A l c sp nx bs 2 dz db B m e w _ HIW.out (HI.out.fr hHeld.2.2.2.2.2.2.2.2.2.2.2.2.2.2.2.2.2.out)).mono ?_
          rintro e W1 ⟨st', z', B', m', d', sp', nx', rfl, hn, hi, f⟩
          have FW := kf f hHeld.2.2.2.2.2.2.2.2.2.2.2.2.2.2.2.2.2
          have HT := hid (HT.out.fr f)
          (try have MX := hid (MX.out.fr f))
          have HN := hid hn
          have HIN := hid hi
          clear hn hi
          dsimp only
          refine hK.out _ _ ?_ (fun hHeld => ?_)
          · (try dsimp only); exact ⟨kc f hHeld.1, kc f hHeld.2.1, kc f hHeld.2.2.1, kc f hHeld.2.2.2.1, kc f hHeld.2.2.2.2.1, kc f hHeld.2.2.2.2.2.1, kc f hHeld.2.2.2.2.2.2.1, kc f hHeld.2.2.2.2.2.2.2.1, kc f hHeld.2.2.2.2.2.2.2.2.1, kc f hHeld.2.2.2.2.2.2.2.2.2.1, kc f hHeld.2.2.2.2.2.2.2.2.2.2.1, kc f hHeld.2.2.2.2.2.2.2.2.2.2.2.1, kc f hHeld.2.2.2.2.2.2.2.2.2.2.2.2.1, kc f hHeld.2.2.2.2.2.2.2.2.2.2.2.2.2.1, kc f hHeld.2.2.2.2.2.2.2.2.2.2.2.2.2.2.1, kc f hHeld.2.2.2.2.2.2.2.2.2.2.2.2.2.2.2.1, kc f hHeld.2.2.2.2.2.2.2.2.2.2.2.2.2.2.2.2.1, FW⟩
          clear hK K
          try simp only [Act.put, List.getElem_toArray, List.getElem_cons_succ, List.getElem_cons_zero, List.setIfInBounds_toArray, List.set_cons_zero, List.set_cons_succ]
          refine wpAnyH_ready (rs := [9]) (by kernel_rfl) (by simp) (AllReadyH.cons rfl (fun K hK => ?_) AllReadyH.nil)
          go_simp
          refine hK.out _ _ ?_ (fun hHeld => ?_)
          · (try dsimp only); (first | exact ⟨kc f hHeld.1, kc f hHeld.2.1, kc f hHeld.2.2.1, kc f hHeld.2.2.2.1, kc f hHeld.2.2.2.2.1, kc f hHeld.2.2.2.2.2.1, kc f hHeld.2.2.2.2.2.2.1, kc f hHeld.2.2.2.2.2.2.2.1, kc f hHeld.2.2.2.2.2.2.2.2.1, kc f hHeld.2.2.2.2.2.2.2.2.2.1, kc f hHeld.2.2.2.2.2.2.2.2.2.2.1, kc f hHeld.2.2.2.2.2.2.2.2.2.2.2.1, kc f hHeld.2.2.2.2.2.2.2.2.2.2.2.2.1, kc f hHeld.2.2.2.2.2.2.2.2.2.2.2.2.2.1, kc f hHeld.2.2.2.2.2.2.2.2.2.2.2.2.2.2.1, kc f hHeld.2.2.2.2.2.2.2.2.2.2.2.2.2.2.2.1, kc f hHeld.2.2.2.2.2.2.2.2.2.2.2.2.2.2.2.2.1, FW⟩ | (go_split_ands; exact ⟨kc f (by assumption), kc f (by assumption), kc f (by assumption), kc f (by assumption), kc f (by assumption), kc f (by assumption), kc f (by assumption), kc f (by assumption), kc f (by assumption), kc f (by assumption), kc f (by assumption), kc f (by assumption), kc f (by assumption), kc f (by assumption), kc f (by assumption), kc f (by assumption), kc f (by assumption), by assumption⟩) | (go_split_ands; exact ⟨(by assumption), (by assumption), (by assumption), (by assumption), (by assumption), (by assumption), (by assumption), (by assumption), (by assumption), (by assumption), (by assumption), (by assumption), (by assumption), (by assumption), (by assumption), (by assumption), (by assumption), by assumption⟩) | (go_split_ands; exact ⟨kc (fr1 _ _) (by assumption), kc (fr1 _ _) (by assumption), kc (fr1 _ _) (by assumption), kc (fr1 _ _) (by assumption), kc (fr1 _ _) (by assumption), kc (fr1 _ _) (by assumption), kc (fr1 _ _) (by assumption), kc (fr1 _ _) (by assumption), kc (fr1 _ _) (by assumption), kc (fr1 _ _) (by assumption), kc (fr1 _ _) (by assumption), kc (fr1 _ _) (by assumption), kc (fr1 _ _) (by assumption), kc (fr1 _ _) (by assumption), kc (fr1 _ _) (by assumption), kc (fr1 _ _) (by assumption), kc (fr1 _ _) (by assumption), kfa (by assumption)⟩) | (go_split_ands; exact ⟨kc (fr1d _ _) (by assumption), kc (fr1d _ _) (by assumption), kc (fr1d _ _) (by assumption), kc (fr1d _ _) (by assumption), kc (fr1d _ _) (by assumption), kc (fr1d _ _) (by assumption), kc (fr1d _ _) (by assumption), kc (fr1d _ _) (by assumption), kc (fr1d _ _) (by assumption), kc (fr1d _ _) (by assumption), kc (fr1d _ _) (by assumption), kc (fr1d _ _) (by assumption), kc (fr1d _ _) (by assumption), kc (fr1d _ _) (by assumption), kc (fr1d _ _) (by assumption), kc (fr1d _ _) (by assumption), kc (fr1d _ _) (by assumption), kfae (by assumption)⟩) | (exact ⟨kc (fr1 _ _) hHeld.1, kc (fr1 _ _) hHeld.2.1, kc (fr1 _ _) hHeld.2.2.1, kc (fr1 _ _) hHeld.2.2.2.1, kc (fr1 _ _) hHeld.2.2.2.2.1, kc (fr1 _ _) hHeld.2.2.2.2.2.1, kc (fr1 _ _) hHeld.2.2.2.2.2.2.1, kc (fr1 _ _) hHeld.2.2.2.2.2.2.2.1, kc (fr1 _ _) hHeld.2.2.2.2.2.2.2.2.1, kc (fr1 _ _) hHeld.2.2.2.2.2.2.2.2.2.1, kc (fr1 _ _) hHeld.2.2.2.2.2.2.2.2.2.2.1, kc (fr1 _ _) hHeld.2.2.2.2.2.2.2.2.2.2.2.1, kc (fr1 _ _) hHeld.2.2.2.2.2.2.2.2.2.2.2.2.1, kc (fr1 _ _) hHeld.2.2.2.2.2.2.2.2.2.2.2.2.2.1, kc (fr1 _ _) hHeld.2.2.2.2.2.2.2.2.2.2.2.2.2.2.1, kc (fr1 _ _) hHeld.2.2.2.2.2.2.2.2.2.2.2.2.2.2.2.1, kc (fr1 _ _) hHeld.2.2.2.2.2.2.2.2.2.2.2.2.2.2.2.2.1, kfa (hHeld.2.2.2.2.2.2.2.2.2.2.2.2.2.2.2.2.2)⟩) | (exact hHeld))
          clear hK K
          try simp only [Act.put, List.getElem_toArray, List.getElem_cons_succ, List.getElem_cons_zero, List.setIfInBounds_toArray, List.set_cons_zero, List.set_cons_succ]
          have hsz9 : w2.heap.size ≤ W1.heap.size := FW.out.size; have MX := hid (BJ.at_ (w := W1) 0 0 none 0 0 0 0 rfl); have HT := hid (HT.out.fr (fr1 W1 (oJ 0 0 none 0 0 0 0))); have tk := HT.out.cells.2.1
          refine wpAnyH_ready (rs := [10]) (by kernel_rfl) (by simp) (AllReadyH.cons rfl (fun K hK => ?_) AllReadyH.nil)
          refine stJ_step rfl (.tmp 8) (.tmp 45) rfl _ rfl (st' := st') (z' := z') (A' := B') (l' := m') (c' := d') (sp' := sp') (nx' := nx') rfl MX.out ?_
          intro W2 hb2 hf2
          refine hK.out _ _ ?_ (fun hHeld => ?_)
          · (try dsimp only); (first | (exact ⟨kcs hf2 (by simp only []; omega) hHeld.1, kcs hf2 (by simp only []; omega) hHeld.2.1, kcs hf2 (by simp only []; omega) hHeld.2.2.1, kcs hf2 (by simp only []; omega) hHeld.2.2.2.1, kcs hf2 (by simp only []; omega) hHeld.2.2.2.2.1, kcs hf2 (by simp only []; omega) hHeld.2.2.2.2.2.1, kcs hf2 (by simp only []; omega) hHeld.2.2.2.2.2.2.1, kcs hf2 (by simp only []; omega) hHeld.2.2.2.2.2.2.2.1, kcs hf2 (by simp only []; omega) hHeld.2.2.2.2.2.2.2.2.1, kcs hf2 (by simp only []; omega) hHeld.2.2.2.2.2.2.2.2.2.1, kcs hf2 (by simp only []; omega) hHeld.2.2.2.2.2.2.2.2.2.2.1, kcs hf2 (by simp only []; omega) hHeld.2.2.2.2.2.2.2.2.2.2.2.1, kcs hf2 (by simp only []; omega) hHeld.2.2.2.2.2.2.2.2.2.2.2.2.1, kcs hf2 (by simp only []; omega) hHeld.2.2.2.2.2.2.2.2.2.2.2.2.2.1, kcs hf2 (by simp only []; omega) hHeld.2.2.2.2.2.2.2.2.2.2.2.2.2.2.1, kcs hf2 (by simp only []; omega) hHeld.2.2.2.2.2.2.2.2.2.2.2.2.2.2.2.1, kcs hf2 (by simp only []; omega) hHeld.2.2.2.2.2.2.2.2.2.2.2.2.2.2.2.2.1, kfg (by omega) FW hf2⟩) | (exact ⟨kcs hf2 (by simp only []; omega) hHeld.1, kcs hf2 (by simp only []; omega) hHeld.2.1, kcs hf2 (by simp only []; omega) hHeld.2.2.1, kcs hf2 (by simp only []; omega) hHeld.2.2.2.1, kcs hf2 (by simp only []; omega) hHeld.2.2.2.2.1, kcs hf2 (by simp only []; omega) hHeld.2.2.2.2.2.1, kcs hf2 (by simp only []; omega) hHeld.2.2.2.2.2.2.1, kcs hf2 (by simp only []; omega) hHeld.2.2.2.2.2.2.2.1, kcs hf2 (by simp only []; omega) hHeld.2.2.2.2.2.2.2.2.1, kcs hf2 (by simp only []; omega) hHeld.2.2.2.2.2.2.2.2.2.1, kcs hf2 (by simp only []; omega) hHeld.2.2.2.2.2.2.2.2.2.2.1, kcs hf2 (by simp only []; omega) hHeld.2.2.2.2.2.2.2.2.2.2.2.1, kcs hf2 (by simp only []; omega) hHeld.2.2.2.2.2.2.2.2.2.2.2.2.1, kcs hf2 (by simp only []; omega) hHeld.2.2.2.2.2.2.2.2.2.2.2.2.2.1, kcs hf2 (by simp only []; omega) hHeld.2.2.2.2.2.2.2.2.2.2.2.2.2.2.1, kcs hf2 (by simp only []; omega) hHeld.2.2.2.2.2.2.2.2.2.2.2.2.2.2.2.1, kcs hf2 (by simp only []; omega) hHeld.2.2.2.2.2.2.2.2.2.2.2.2.2.2.2.2.1, kfg (by omega) hHeld.2.2.2.2.2.2.2.2.2.2.2.2.2.2.2.2.2 hf2⟩))
          clear hK K
          try simp only [Act.put, List.getElem_toArray, List.getElem_cons_succ, List.getElem_cons_zero]
          have FW := hid (show Fr No w2 W2 from (hHeld.2.2.2.2.2.2.2.2.2.2.2.2.2.2.2.2.2).out); have MX := hid hb2; clear hf2 hb2
          refine wpAnyH_done (by kernel_rfl) ?_ _
          refine NoPanic.normal ?_
          go_wp2_with fail
          go_meet
          case rel => exact ⟨_, st', z', B', m', d', sp', nx', rfl, MX.out, (by rw [HTJ.out]; exact HN.out), (by rw [HTJ.out]; exact HIN.out), hsz9, FW.out⟩
        · go_simp
          refine hK.out _ _ ?_ (fun hHeld => ?_)
          · (try dsimp only); (first | exact ⟨kc f hHeld.1, kc f hHeld.2.1, kc f hHeld.2.2.1, kc f hHeld.2.2.2.1, kc f hHeld.2.2.2.2.1, kc f hHeld.2.2.2.2.2.1, kc f hHeld.2.2.2.2.2.2.1, kc f hHeld.2.2.2.2.2.2.2.1, kc f hHeld.2.2.2.2.2.2.2.2.1, kc f hHeld.2.2.2.2.2.2.2.2.2.1, kc f hHeld.2.2.2.2.2.2.2.2.2.2.1, kc f hHeld.2.2.2.2.2.2.2.2.2.2.2.1, kc f hHeld.2.2.2.2.2.2.2.2.2.2.2.2.1, kc f hHeld.2.2.2.2.2.2.2.2.2.2.2.2.2.1, kc f hHeld.2.2.2.2.2.2.2.2.2.2.2.2.2.2.1, kc f hHeld.2.2.2.2.2.2.2.2.2.2.2.2.2.2.2.1, kc f hHeld.2.2.2.2.2.2.2.2.2.2.2.2.2.2.2.2.1, FW⟩ | (go_split_ands; exact ⟨kc f (by assumption), kc f (by assumption), kc f (by assumption), kc f (by assumption), kc f (by assumption), kc f (by assumption), kc f (by assumption), kc f (by assumption), kc f (by assumption), kc f (by assumption), kc f (by assumption), kc f (by assumption), kc f (by assumption), kc f (by assumption), kc f (by assumption), kc f (by assumption), kc f (by assumption), by assumption⟩) | (go_split_ands; exact ⟨(by assumption), (by assumption), (by assumption), (by assumption), (by assumption), (by assumption), (by assumption), (by assumption), (by assumption), (by assumption), (by assumption), (by assumption), (by assumption), (by assumption), (by assumption), (by assumption), (by assumption), by assumption⟩) | (go_split_ands; exact ⟨kc (fr1 _ _) (by assumption), kc (fr1 _ _) (by assumption), kc (fr1 _ _) (by assumption), kc (fr1 _ _) (by assumption), kc (fr1 _ _) (by assumption), kc (fr1 _ _) (by assumption), kc (fr1 _ _) (by assumption), kc (fr1 _ _) (by assumption), kc (fr1 _ _) (by assumption), kc (fr1 _ _) (by assumption), kc (fr1 _ _) (by assumption), kc (fr1 _ _) (by assumption), kc (fr1 _ _) (by assumption), kc (fr1 _ _) (by assumption), kc (fr1 _ _) (by assumption), kc (fr1 _ _) (by assumption), kc (fr1 _ _) (by assumption), kfa (by assumption)⟩) | (go_split_ands; exact ⟨kc (fr1d _ _) (by assumption), kc (fr1d _ _) (by assumption), kc (fr1d _ _) (by assumption), kc (fr1d _ _) (by assumption), kc (fr1d _ _) (by assumption), kc (fr1d _ _) (by assumption), kc (fr1d _ _) (by assumption), kc (fr1d _ _) (by assumption), kc (fr1d _ _) (by assumption), kc (fr1d _ _) (by assumption), kc (fr1d _ _) (by assumption), kc (fr1d _ _) (by assumption), kc (fr1d _ _) (by assumption), kc (fr1d _ _) (by assumption), kc (fr1d _ _) (by assumption), kc (fr1d _ _) (by assumption), kc (fr1d _ _) (by assumption), kfae (by assumption)⟩) | (exact ⟨kc (fr1 _ _) hHeld.1, kc (fr1 _ _) hHeld.2.1, kc (fr1 _ _) hHeld.2.2.1, kc (fr1 _ _) hHeld.2.2.2.1, kc (fr1 _ _) hHeld.2.2.2.2.1, kc (fr1 _ _) hHeld.2.2.2.2.2.1, kc (fr1 _ _) hHeld.2.2.2.2.2.2.1, kc (fr1 _ _) hHeld.2.2.2.2.2.2.2.1, kc (fr1 _ _) hHeld.2.2.2.2.2.2.2.2.1, kc (fr1 _ _) hHeld.2.2.2.2.2.2.2.2.2.1, kc (fr1 _ _) hHeld.2.2.2.2.2.2.2.2.2.2.1, kc (fr1 _ _) hHeld.2.2.2.2.2.2.2.2.2.2.2.1, kc (fr1 _ _) hHeld.2.2.2.2.2.2.2.2.2.2.2.2.1, kc (fr1 _ _) hHeld.2.2.2.2.2.2.2.2.2.2.2.2.2.1, kc (fr1 _ _) hHeld.2.2.2.2.2.2.2.2.2.2.2.2.2.2.1, kc (fr1 _ _) hHeld.2.2.2.2.2.2.2.2.2.2.2.2.2.2.2.1, kc (fr1 _ _) hHeld.2.2.2.2.2.2.2.2.2.2.2.2.2.2.2.2.1, kfa (hHeld.2.2.2.2.2.2.2.2.2.2.2.2.2.2.2.2.2)⟩) | (exact hHeld))
          clear hK K
          try simp only [Act.put, List.getElem_toArray, List.getElem_cons_succ, List.getElem_cons_zero, List.setIfInBounds_toArray, List.set_cons_zero, List.set_cons_succ]
          have hsz9 : w2.heap.size ≤ W1.heap.size := FW.out.size; have MX := hid (BJ.at_ (w := W1) 0 0 none 0 0 0 0 rfl); have HT := hid (HT.out.fr (fr1 W1 (oJ 0 0 none 0 0 0 0))); have tk := HT.out.cells.2.1
          refine wpAnyH_ready (rs := [8]) (by kernel_rfl) (by simp) (AllReadyH.cons rfl (fun K hK => ?_) AllReadyH.nil)
          go_simp
          go_at_call 95
          refine (turn2_ok 1 z A l c sp nx bs 2 dz db B m e w _ HIW.out (HI.out.fr hHeld.2.2.2.2.2.2.2.2.2.2.2.2.2.2.2.2.2.out)).mono ?_
          rintro e W1 ⟨st', z', B', m', d', sp', nx', rfl, hn, hi, f⟩
          have FW := kf f hHeld.2.2.2.2.2.2.2.2.2.2.2.2.2.2.2.2.2
          have HT := hid (HT.out.fr f)
          (try have MX := hid (MX.out.fr f))
          have HN := hid hn
          have HIN := hid hi
          clear hn hi
          dsimp only
          refine hK.out _ _ ?_ (fun hHeld => ?_)
          · (try dsimp only); exact ⟨kc f hHeld.1, kc f hHeld.2.1, kc f hHeld.2.2.1, kc f hHeld.2.2.2.1, kc f hHeld.2.2.2.2.1, kc f hHeld.2.2.2.2.2.1, kc f hHeld.2.2.2.2.2.2.1, kc f hHeld.2.2.2.2.2.2.2.1, kc f hHeld.2.2.2.2.2.2.2.2.1, kc f hHeld.2.2.2.2.2.2.2.2.2.1, kc f hHeld.2.2.2.2.2.2.2.2.2.2.1, kc f hHeld.2.2.2.2.2.2.2.2.2.2.2.1, kc f hHeld.2.2.2.2.2.2.2.2.2.2.2.2.1, kc f hHeld.2.2.2.2.2.2.2.2.2.2.2.2.2.1, kc f hHeld.2.2.2.2.2.2.2.2.2.2.2.2.2.2.1, kc f hHeld.2.2.2.2.2.2.2.2.2.2.2.2.2.2.2.1, kc f hHeld.2.2.2.2.2.2.2.2.2.2.2.2.2.2.2.2.1, FW⟩
          clear hK K
          try simp only [Act.put, List.getElem_toArray, List.getElem_cons_succ, List.getElem_cons_zero, List.setIfInBounds_toArray, List.set_cons_zero, List.set_cons_succ]
          refine wpAnyH_ready (rs := [10]) (by kernel_rfl) (by simp) (AllReadyH.cons rfl (fun K hK => ?_) AllReadyH.nil)
          refine stJ_step rfl (.tmp 8) (.tmp 45) rfl _ rfl (st' := st') (z' := z') (A' := B') (l' := m') (c' := d') (sp' := sp') (nx' := nx') rfl MX.out ?_
          intro W2 hb2 hf2
          refine hK.out _ _ ?_ (fun hHeld => ?_)
          · (try dsimp only); (first | (exact ⟨kcs hf2 (by simp only []; omega) hHeld.1, kcs hf2 (by simp only []; omega) hHeld.2.1, kcs hf2 (by simp only []; omega) hHeld.2.2.1, kcs hf2 (by simp only []; omega) hHeld.2.2.2.1, kcs hf2 (by simp only []; omega) hHeld.2.2.2.2.1, kcs hf2 (by simp only []; omega) hHeld.2.2.2.2.2.1, kcs hf2 (by simp only []; omega) hHeld.2.2.2.2.2.2.1, kcs hf2 (by simp only []; omega) hHeld.2.2.2.2.2.2.2.1, kcs hf2 (by simp only []; omega) hHeld.2.2.2.2.2.2.2.2.1, kcs hf2 (by simp only []; omega) hHeld.2.2.2.2.2.2.2.2.2.1, kcs hf2 (by simp only []; omega) hHeld.2.2.2.2.2.2.2.2.2.2.1, kcs hf2 (by simp only []; omega) hHeld.2.2.2.2.2.2.2.2.2.2.2.1, kcs hf2 (by simp only []; omega) hHeld.2.2.2.2.2.2.2.2.2.2.2.2.1, kcs hf2 (by simp only []; omega) hHeld.2.2.2.2.2.2.2.2.2.2.2.2.2.1, kcs hf2 (by simp only []; omega) hHeld.2.2.2.2.2.2.2.2.2.2.2.2.2.2.1, kcs hf2 (by simp only []; omega) hHeld.2.2.2.2.2.2.2.2.2.2.2.2.2.2.2.1, kcs hf2 (by simp only []; omega) hHeld.2.2.2.2.2.2.2.2.2.2.2.2.2.2.2.2.1, kfg (by omega) FW hf2⟩) | (exact ⟨kcs hf2 (by simp only []; omega) hHeld.1, kcs hf2 (by simp only []; omega) hHeld.2.1, kcs hf2 (by simp only []; omega) hHeld.2.2.1, kcs hf2 (by simp only []; omega) hHeld.2.2.2.1, kcs hf2 (by simp only []; omega) hHeld.2.2.2.2.1, kcs hf2 (by simp only []; omega) hHeld.2.2.2.2.2.1, kcs hf2 (by simp only []; omega) hHeld.2.2.2.2.2.2.1, kcs hf2 (by simp only []; omega) hHeld.2.2.2.2.2.2.2.1, kcs hf2 (by simp only []; omega) hHeld.2.2.2.2.2.2.2.2.1, kcs hf2 (by simp only []; omega) hHeld.2.2.2.2.2.2.2.2.2.1, kcs hf2 (by simp only []; omega) hHeld.2.2.2.2.2.2.2.2.2.2.1, kcs hf2 (by simp only []; omega) hHeld.2.2.2.2.2.2.2.2.2.2.2.1, kcs hf2 (by simp only []; omega) hHeld.2.2.2.2.2.2.2.2.2.2.2.2.1, kcs hf2 (by simp only []; omega) hHeld.2.2.2.2.2.2.2.2.2.2.2.2.2.1, kcs hf2 (by simp only []; omega) hHeld.2.2.2.2.2.2.2.2.2.2.2.2.2.2.1, kcs hf2 (by simp only []; omega) hHeld.2.2.2.2.2.2.2.2.2.2.2.2.2.2.2.1, kcs hf2 (by simp only []; omega) hHeld.2.2.2.2.2.2.2.2.2.2.2.2.2.2.2.2.1, kfg (by omega) hHeld.2.2.2.2.2.2.2.2.2.2.2.2.2.2.2.2.2 hf2⟩))
          clear hK K
          try simp only [Act.put, List.getElem_toArray, List.getElem_cons_succ, List.getElem_cons_zero]
          have FW := hid (show Fr No w2 W2 from (hHeld.2.2.2.2.2.2.2.2.2.2.2.2.2.2.2.2.2).out); have MX := hid hb2; clear hf2 hb2
          refine wpAnyH_done (by kernel_rfl) ?_ _
          refine NoPanic.normal ?_
          go_wp2_with fail
          go_meet
          case rel => exact ⟨_, st', z', B', m', d', sp', nx', rfl, MX.out, (by rw [HTJ.out]; exact HN.out), (by rw [HTJ.out]; exact HIN.out), hsz9, FW.out⟩
      · go_simp
        refine hK.out _ _ ?_ (fun hHeld => ?_)
        · (try dsimp only); (first | exact ⟨kc f hHeld.1, kc f hHeld.2.1, kc f hHeld.2.2.1, kc f hHeld.2.2.2.1, kc f hHeld.2.2.2.2.1, kc f hHeld.2.2.2.2.2.1, kc f hHeld.2.2.2.2.2.2.1, kc f hHeld.2.2.2.2.2.2.2.1, kc f hHeld.2.2.2.2.2.2.2.2.1, kc f hHeld.2.2.2.2.2.2.2.2.2.1, kc f hHeld.2.2.2.2.2.2.2.2.2.2.1, kc f hHeld.2.2.2.2.2.2.2.2.2.2.2.1, kc f hHeld.2.2.2.2.2.2.2.2.2.2.2.2.1, kc f hHeld.2.2.2.2.2.2.2.2.2.2.2.2.2.1, kc f hHeld.2.2.2.2.2.2.2.2.2.2.2.2.2.2.1, kc f hHeld.2.2.2.2.2.2.2.2.2.2.2.2.2.2.2.1, kc f hHeld.2.2.2.2.2.2.2.2.2.2.2.2.2.2.2.2.1, FW⟩ | (go_split_ands; exact ⟨kc f (by assumption), kc f (by assumption), kc f (by assumption), kc f (by assumption), kc f (by assumption), kc f (by assumption), kc f (by assumption), kc f (by assumption), kc f (by assumption), kc f (by assumption), kc f (by assumption), kc f (by assumption), kc f (by assumption), kc f (by assumption), kc f (by assumption), kc f (by assumption), kc f (by assumption), by assumption⟩) | (go_split_ands; exact ⟨(by assumption), (by assumption), (by assumption), (by assumption), (by assumption), (by assumption), (by assumption), (by assumption), (by assumption), (by assumption), (by assumption), (by assumption), (by assumption), (by assumption), (by assumption), (by assumption), (by assumption), by assumption⟩) | (go_split_ands; exact ⟨kc (fr1 _ _) (by assumption), kc (fr1 _ _) (by assumption), kc (fr1 _ _) (by assumption), kc (fr1 _ _) (by assumption), kc (fr1 _ _) (by assumption), kc (fr1 _ _) (by assumption), kc (fr1 _ _) (by assumption), kc (fr1 _ _) (by assumption), kc (fr1 _ _) (by assumption), kc (fr1 _ _) (by assumption), kc (fr1 _ _) (by assumption), kc (fr1 _ _) (by assumption), kc (fr1 _ _) (by assumption), kc (fr1 _ _) (by assumption), kc (fr1 _ _) (by assumption), kc (fr1 _ _) (by assumption), kc (fr1 _ _) (by assumption), kfa (by assumption)⟩) | (go_split_ands; exact ⟨kc (fr1d _ _) (by assumption), kc (fr1d _ _) (by assumption), kc (fr1d _ _) (by assumption), kc (fr1d _ _) (by assumption), kc (fr1d _ _) (by assumption), kc (fr1d _ _) (by assumption), kc (fr1d _ _) (by assumption), kc (fr1d _ _) (by assumption), kc (fr1d _ _) (by assumption), kc (fr1d _ _) (by assumption), kc (fr1d _ _) (by assumption), kc (fr1d _ _) (by assumption), kc (fr1d _ _) (by assumption), kc (fr1d _ _) (by assumption), kc (fr1d _ _) (by assumption), kc (fr1d _ _) (by assumption), kc (fr1d _ _) (by assumption), kfae (by assumption)⟩) | (exact ⟨kc (fr1 _ _) hHeld.1, kc (fr1 _ _) hHeld.2.1, kc (fr1 _ _) hHeld.2.2.1, kc (fr1 _ _) hHeld.2.2.2.1, kc (fr1 _ _) hHeld.2.2.2.2.1, kc (fr1 _ _) hHeld.2.2.2.2.2.1, kc (fr1 _ _) hHeld.2.2.2.2.2.2.1, kc (fr1 _ _) hHeld.2.2.2.2.2.2.2.1, kc (fr1 _ _) hHeld.2.2.2.2.2.2.2.2.1, kc (fr1 _ _) hHeld.2.2.2.2.2.2.2.2.2.1, kc (fr1 _ _) hHeld.2.2.2.2.2.2.2.2.2.2.1, kc (fr1 _ _) hHeld.2.2.2.2.2.2.2.2.2.2.2.1, kc (fr1 _ _) hHeld.2.2.2.2.2.2.2.2.2.2.2.2.1, kc (fr1 _ _) hHeld.2.2.2.2.2.2.2.2.2.2.2.2.2.1, kc (fr1 _ _) hHeld.2.2.2.2.2.2.2.2.2.2.2.2.2.2.1, kc (fr1 _ _) hHeld.2.2.2.2.2.2.2.2.2.2.2.2.2.2.2.1, kc (fr1 _ _) hHeld.2.2.2.2.2.2.2.2.2.2.2.2.2.2.2.2.1, kfa (hHeld.2.2.2.2.2.2.2.2.2.2.2.2.2.2.2.2.2)⟩) | (exact hHeld))
        clear hK K
        try simp only [Act.put, List.getElem_toArray, List.getElem_cons_succ, List.getElem_cons_zero, List.setIfInBounds_toArray, List.set_cons_zero, List.set_cons_succ]
        have hsz9 : w2.heap.size ≤ W1.heap.size := FW.out.size; have MX := hid (BJ.at_ (w := W1) 0 0 none 0 0 0 0 rfl); have HT := hid (HT.out.fr (fr1 W1 (oJ 0 0 none 0 0 0 0))); have tk := HT.out.cells.2.1
        refine wpAnyH_ready (rs := [5]) (by kernel_rfl) (by simp) (AllReadyH.cons rfl (fun K hK => ?_) AllReadyH.nil)
        go_simp
        refine hK.out _ _ ?_ (fun hHeld => ?_)
        · (try dsimp only); (exact hHeld)
        clear hK K
        try simp only [Act.put, List.getElem_toArray, List.getElem_cons_succ, List.getElem_cons_zero, List.setIfInBounds_toArray, List.set_cons_zero, List.set_cons_succ]
        refine wpAnyH_ready (rs := [8]) (by kernel_rfl) (by simp) (AllReadyH.cons rfl (fun K hK => ?_) AllReadyH.nil)
        go_simp
        go_at_call 95
        refine (turn2_ok 1 z A l c sp nx bs 2 dz db B m e w _ HIW.out (HI.out.fr hHeld.2.2.2.2.2.2.2.2.2.2.2.2.2.2.2.2.2.out)).mono ?_
        rintro e W1 ⟨st', z', B', m', d', sp', nx', rfl, hn, hi, f⟩
        have FW := kf f hHeld.2.2.2.2.2.2.2.2.2.2.2.2.2.2.2.2.2
        have HT := hid (HT.out.fr f)
        (try have MX := hid (MX.out.fr f))
        have HN := hid hn
        have HIN := hid hi
        clear hn hi
        dsimp only
        refine hK.out _ _ ?_ (fun hHeld => ?_)
        · (try dsimp only); exact ⟨kc f hHeld.1, kc f hHeld.2.1, kc f hHeld.2.2.1, kc f hHeld.2.2.2.1, kc f hHeld.2.2.2.2.1, kc f hHeld.2.2.2.2.2.1, kc f hHeld.2.2.2.2.2.2.1, kc f hHeld.2.2.2.2.2.2.2.1, kc f hHeld.2.2.2.2.2.2.2.2.1, kc f hHeld.2.2.2.2.2.2.2.2.2.1, kc f hHeld.2.2.2.2.2.2.2.2.2.2.1, kc f hHeld.2.2.2.2.2.2.2.2.2.2.2.1, kc f hHeld.2.2.2.2.2.2.2.2.2.2.2.2.1, kc f hHeld.2.2.2.2.2.2.2.2.2.2.2.2.2.1, kc f hHeld.2.2.2.2.2.2.2.2.2.2.2.2.2.2.1, kc f hHeld.2.2.2.2.2.2.2.2.2.2.2.2.2.2.2.1, kc f hHeld.2.2.2.2.2.2.2.2.2.2.2.2.2.2.2.2.1, FW⟩
        clear hK K
        try simp only [Act.put, List.getElem_toArray, List.getElem_cons_succ, List.getElem_cons_zero, List.setIfInBounds_toArray, List.set_cons_zero, List.set_cons_succ]
        refine wpAnyH_ready (rs := [10]) (by kernel_rfl) (by simp) (AllReadyH.cons rfl (fun K hK => ?_) AllReadyH.nil)
        refine stJ_step rfl (.tmp 8) (.tmp 45) rfl _ rfl (st' := st') (z' := z') (A' := B') (l' := m') (c' := d') (sp' := sp') (nx' := nx') rfl MX.out ?_
        intro W2 hb2 hf2
        refine hK.out _ _ ?_ (fun hHeld => ?_)
        · (try dsimp only); (first | (exact ⟨kcs hf2 (by simp only []; omega) hHeld.1, kcs hf2 (by simp only []; omega) hHeld.2.1, kcs hf2 (by simp only []; omega) hHeld.2.2.1, kcs hf2 (by simp only []; omega) hHeld.2.2.2.1, kcs hf2 (by simp only []; omega) hHeld.2.2.2.2.1, kcs hf2 (by simp only []; omega) hHeld.2.2.2.2.2.1, kcs hf2 (by simp only []; omega) hHeld.2.2.2.2.2.2.1, kcs hf2 (by simp only []; omega) hHeld.2.2.2.2.2.2.2.1, kcs hf2 (by simp only []; omega) hHeld.2.2.2.2.2.2.2.2.1, kcs hf2 (by simp only []; omega) hHeld.2.2.2.2.2.2.2.2.2.1, kcs hf2 (by simp only []; omega) hHeld.2.2.2.2.2.2.2.2.2.2.1, kcs hf2 (by simp only []; omega) hHeld.2.2.2.2.2.2.2.2.2.2.2.1, kcs hf2 (by simp only []; omega) hHeld.2.2.2.2.2.2.2.2.2.2.2.2.1, kcs hf2 (by simp only []; omega) hHeld.2.2.2.2.2.2.2.2.2.2.2.2.2.1, kcs hf2 (by simp only []; omega) hHeld.2.2.2.2.2.2.2.2.2.2.2.2.2.2.1, kcs hf2 (by simp only []; omega) hHeld.2.2.2.2.2.2.2.2.2.2.2.2.2.2.2.1, kcs hf2 (by simp only []; omega) hHeld.2.2.2.2.2.2.2.2.2.2.2.2.2.2.2.2.1, kfg (by omega) FW hf2⟩) | (exact ⟨kcs hf2 (by simp only []; omega) hHeld.1, kcs hf2 (by simp only []; omega) hHeld.2.1, kcs hf2 (by simp only []; omega) hHeld.2.2.1, kcs hf2 (by simp only []; omega) hHeld.2.2.2.1, kcs hf2 (by simp only []; omega) hHeld.2.2.2.2.1, kcs hf2 (by simp only []; omega) hHeld.2.2.2.2.2.1, kcs hf2 (by simp only []; omega) hHeld.2.2.2.2.2.2.1, kcs hf2 (by simp only []; omega) hHeld.2.2.2.2.2.2.2.1, kcs hf2 (by simp only []; omega) hHeld.2.2.2.2.2.2.2.2.1, kcs hf2 (by simp only []; omega) hHeld.2.2.2.2.2.2.2.2.2.1, kcs hf2 (by simp only []; omega) hHeld.2.2.2.2.2.2.2.2.2.2.1, kcs hf2 (by simp only []; omega) hHeld.2.2.2.2.2.2.2.2.2.2.2.1, kcs hf2 (by simp only []; omega) hHeld.2.2.2.2.2.2.2.2.2.2.2.2.1, kcs hf2 (by simp only []; omega) hHeld.2.2.2.2.2.2.2.2.2.2.2.2.2.1, kcs hf2 (by simp only []; omega) hHeld.2.2.2.2.2.2.2.2.2.2.2.2.2.2.1, kcs hf2 (by simp only []; omega) hHeld.2.2.2.2.2.2.2.2.2.2.2.2.2.2.2.1, kcs hf2 (by simp only []; omega) hHeld.2.2.2.2.2.2.2.2.2.2.2.2.2.2.2.2.1, kfg (by omega) hHeld.2.2.2.2.2.2.2.2.2.2.2.2.2.2.2.2.2 hf2⟩))
        clear hK K
        try simp only [Act.put, List.getElem_toArray, List.getElem_cons_succ, List.getElem_cons_zero]
        have FW := hid (show Fr No w2 W2 from (hHeld.2.2.2.2.2.2.2.2.2.2.2.2.2.2.2.2.2).out); have MX := hid hb2; clear hf2 hb2
        refine wpAnyH_done (by kernel_rfl) ?_ _
        refine NoPanic.normal ?_
        go_wp2_with fail
        go_meet
        case rel => exact ⟨_, st', z', B', m', d', sp', nx', rfl, MX.out, (by rw [HTJ.out]; exact HN.out), (by rw [HTJ.out]; exact HIN.out), hsz9, FW.out⟩
    · go_simp
      refine hK.out _ _ ?_ (fun hHeld => ?_)
      · (try dsimp only); (first | exact ⟨kc f hHeld.1, kc f hHeld.2.1, kc f hHeld.2.2.1, kc f hHeld.2.2.2.1, kc f hHeld.2.2.2.2.1, kc f hHeld.2.2.2.2.2.1, kc f hHeld.2.2.2.2.2.2.1, kc f hHeld.2.2.2.2.2.2.2.1, kc f hHeld.2.2.2.2.2.2.2.2.1, kc f hHeld.2.2.2.2.2.2.2.2.2.1, kc f hHeld.2.2.2.2.2.2.2.2.2.2.1, kc f hHeld.2.2.2.2.2.2.2.2.2.2.2.1, kc f hHeld.2.2.2.2.2.2.2.2.2.2.2.2.1, kc f hHeld.2.2.2.2.2.2.2.2.2.2.2.2.2.1, kc f hHeld.2.2.2.2.2.2.2.2.2.2.2.2.2.2.1, kc f hHeld.2.2.2.2.2.2.2.2.2.2.2.2.2.2.2.1, kc f hHeld.2.2.2.2.2.2.2.2.2.2.2.2.2.2.2.2.1, FW⟩ | (go_split_ands; exact ⟨kc f (by assumption), kc f (by assumption), kc f (by assumption), kc f (by assumption), kc f (by assumption), kc f (by assumption), kc f (by assumption), kc f (by assumption), kc f (by assumption), kc f (by assumption), kc f (by assumption), kc f (by assumption), kc f (by assumption), kc f (by assumption), kc f (by assumption), kc f (by assumption), kc f (by assumption), by assumption⟩) | (go_split_ands; exact ⟨(by assumption), (by assumption), (by assumption), (by assumption), (by assumption), (by assumption), (by assumption), (by assumption), (by assumption), (by assumption), (by assumption), (by assumption), (by assumption), (by assumption), (by assumption), (by assumption), (by assumption), by assumption⟩) | (go_split_ands; exact ⟨kc (fr1 _ _) (by assumption), kc (fr1 _ _) (by assumption), kc (fr1 _ _) (by assumption), kc (fr1 _ _) (by assumption), kc (fr1 _ _) (by assumption), kc (fr1 _ _) (by assumption), kc (fr1 _ _) (by assumption), kc (fr1 _ _) (by assumption), kc (fr1 _ _) (by assumption), kc (fr1 _ _) (by assumption), kc (fr1 _ _) (by assumption), kc (fr1 _ _) (by assumption), kc (fr1 _ _) (by assumption), kc (fr1 _ _) (by assumption), kc (fr1 _ _) (by assumption), kc (fr1 _ _) (by assumption), kc (fr1 _ _) (by assumption), kfa (by assumption)⟩) | (go_split_ands; exact ⟨kc (fr1d _ _) (by assumption), kc (fr1d _ _) (by assumption), kc (fr1d _ _) (by assumption), kc (fr1d _ _) (by assumption), kc (fr1d _ _) (by assumption), kc (fr1d _ _) (by assumption), kc (fr1d _ _) (by assumption), kc (fr1d _ _) (by assumption), kc (fr1d _ _) (by assumption), kc (fr1d _ _) (by assumption), kc (fr1d _ _) (by assumption), kc (fr1d _ _) (by assumption), kc (fr1d _ _) (by assumption), kc (fr1d _ _) (by assumption), kc (fr1d _ _) (by assumption), kc (fr1d _ _) (by assumption), kc (fr1d _ _) (by assumption), kfae (by assumption)⟩) | (exact ⟨kc (fr1 _ _) hHeld.1, kc (fr1 _ _) hHeld.2.1, kc (fr1 _ _) hHeld.2.2.1, kc (fr1 _ _) hHeld.2.2.2.1, kc (fr1 _ _) hHeld.2.2.2.2.1, kc (fr1 _ _) hHeld.2.2.2.2.2.1, kc (fr1 _ _) hHeld.2.2.2.2.2.2.1, kc (fr1 _ _) hHeld.2.2.2.2.2.2.2.1, kc (fr1 _ _) hHeld.2.2.2.2.2.2.2.2.1, kc (fr1 _ _) hHeld.2.2.2.2.2.2.2.2.2.1, kc (fr1 _ _) hHeld.2.2.2.2.2.2.2.2.2.2.1, kc (fr1 _ _) hHeld.2.2.2.2.2.2.2.2.2.2.2.1, kc (fr1 _ _) hHeld.2.2.2.2.2.2.2.2.2.2.2.2.1, kc (fr1 _ _) hHeld.2.2.2.2.2.2.2.2.2.2.2.2.2.1, kc (fr1 _ _) hHeld.2.2.2.2.2.2.2.2.2.2.2.2.2.2.1, kc (fr1 _ _) hHeld.2.2.2.2.2.2.2.2.2.2.2.2.2.2.2.1, kc (fr1 _ _) hHeld.2.2.2.2.2.2.2.2.2.2.2.2.2.2.2.2.1, kfa (hHeld.2.2.2.2.2.2.2.2.2.2.2.2.2.2.2.2.2)⟩) | (exact hHeld))
      clear hK K
      try simp only [Act.put, List.getElem_toArray, List.getElem_cons_succ, List.getElem_cons_zero, List.setIfInBounds_toArray, List.set_cons_zero, List.set_cons_succ]
      have hsz9 : w2.heap.size ≤ w2.heap.size := Nat.le_refl _; have MX := hid (show BJ (World.drew (w2.alloc (oJ 0 0 none 0 0 0 0))) w2.heap.size 0 0 none 0 0 0 0 from (BJ.at_ (w := w2) 0 0 none 0 0 0 0 rfl))
      refine wpAnyH_ready (rs := [1]) (by kernel_rfl) (by simp) (AllReadyH.cons rfl (fun K hK => ?_) AllReadyH.nil)
      go_simp
      go_at_call 74
      refine (turns_ok gc gs gn gl gk b d ch _).mono ?_
      rintro e W1 ⟨gt, gw, rfl, ht, hg1, hg2, f⟩
      have FW := kf f hHeld.2.2.2.2.2.2.2.2.2.2.2.2.2.2.2.2.2
      have HT := hid ht
      (try have MX := hid (MX.out.fr f))
      clear ht
      dsimp only
      refine hK.out _ _ ?_ (fun hHeld => ?_)
      · (try dsimp only); exact ⟨kc f hHeld.1, kc f hHeld.2.1, kc f hHeld.2.2.1, kc f hHeld.2.2.2.1, kc f hHeld.2.2.2.2.1, kc f hHeld.2.2.2.2.2.1, kc f hHeld.2.2.2.2.2.2.1, kc f hHeld.2.2.2.2.2.2.2.1, kc f hHeld.2.2.2.2.2.2.2.2.1, kc f hHeld.2.2.2.2.2.2.2.2.2.1, kc f hHeld.2.2.2.2.2.2.2.2.2.2.1, kc f hHeld.2.2.2.2.2.2.2.2.2.2.2.1, kc f hHeld.2.2.2.2.2.2.2.2.2.2.2.2.1, kc f hHeld.2.2.2.2.2.2.2.2.2.2.2.2.2.1, kc f hHeld.2.2.2.2.2.2.2.2.2.2.2.2.2.2.1, kc f hHeld.2.2.2.2.2.2.2.2.2.2.2.2.2.2.2.1, kc f hHeld.2.2.2.2.2.2.2.2.2.2.2.2.2.2.2.2.1, FW⟩
      clear hK K
      try simp only [Act.put, List.getElem_toArray, List.getElem_cons_succ, List.getElem_cons_zero, List.setIfInBounds_toArray, List.set_cons_zero, List.set_cons_succ]
      have tk := HT.out.cells.2.1
      refine wpAnyH_take (i := 4) (v := ?v7) rfl (by kernel_rfl) (by kernel_rfl) (by kernel_rfl) (fun _ _ _ h => h) (Or.inl ⟨by kernel_rfl, ?y7⟩) (by assumption) ?_
      case y7 => (intro w hSw; (try dsimp only at hSw); go_simp; all_goals with_reducible rfl)
      try simp only [Act.put, List.getElem_toArray, List.getElem_cons_succ, List.getElem_cons_zero, List.setIfInBounds_toArray, List.set_cons_zero, List.set_cons_succ]
      refine wpAnyH_ready (rs := [5]) (by kernel_rfl) (by simp) (AllReadyH.cons rfl (fun K hK => ?_) AllReadyH.nil)
      go_simp
      refine hK.out _ _ ?_ (fun hHeld => ?_)
      · (try dsimp only); (exact hHeld)
      clear hK K
      try simp only [Act.put, List.getElem_toArray, List.getElem_cons_succ, List.getElem_cons_zero, List.setIfInBounds_toArray, List.set_cons_zero, List.set_cons_succ]
      refine wpAnyH_ready (rs := [8]) (by kernel_rfl) (by simp) (AllReadyH.cons rfl (fun K hK => ?_) AllReadyH.nil)
      go_simp
      go_at_call 95
      refine (turn2_ok 1 z A l c sp nx bs 2 dz db B m e w _ HIW.out (HI.out.fr hHeld.2.2.2.2.2.2.2.2.2.2.2.2.2.2.2.2.2.out)).mono ?_
      rintro e W1 ⟨st', z', B', m', d', sp', nx', rfl, hn, hi, f⟩
      have FW := kf f hHeld.2.2.2.2.2.2.2.2.2.2.2.2.2.2.2.2.2
      have HT := hid (HT.out.fr f)
      (try have MX := hid (MX.out.fr f))
      have HN := hid hn
      have HIN := hid hi
      clear hn hi
      dsimp only
      refine hK.out _ _ ?_ (fun hHeld => ?_)
      · (try dsimp only); exact ⟨kc f hHeld.1, kc f hHeld.2.1, kc f hHeld.2.2.1, kc f hHeld.2.2.2.1, kc f hHeld.2.2.2.2.1, kc f hHeld.2.2.2.2.2.1, kc f hHeld.2.2.2.2.2.2.1, kc f hHeld.2.2.2.2.2.2.2.1, kc f hHeld.2.2.2.2.2.2.2.2.1, kc f hHeld.2.2.2.2.2.2.2.2.2.1, kc f hHeld.2.2.2.2.2.2.2.2.2.2.1, kc f hHeld.2.2.2.2.2.2.2.2.2.2.2.1, kc f hHeld.2.2.2.2.2.2.2.2.2.2.2.2.1, kc f hHeld.2.2.2.2.2.2.2.2.2.2.2.2.2.1, kc f hHeld.2.2.2.2.2.2.2.2.2.2.2.2.2.2.1, kc f hHeld.2.2.2.2.2.2.2.2.2.2.2.2.2.2.2.1, kc f hHeld.2.2.2.2.2.2.2.2.2.2.2.2.2.2.2.2.1, FW⟩
      clear hK K
      try simp only [Act.put, List.getElem_toArray, List.getElem_cons_succ, List.getElem_cons_zero, List.setIfInBounds_toArray, List.set_cons_zero, List.set_cons_succ]
      refine wpAnyH_ready (rs := [10]) (by kernel_rfl) (by simp) (AllReadyH.cons rfl (fun K hK => ?_) AllReadyH.nil)
      refine stJ_step rfl (.tmp 8) (.tmp 45) rfl _ rfl (st' := st') (z' := z') (A' := B') (l' := m') (c' := d') (sp' := sp') (nx' := nx') rfl MX.out ?_
      intro W2 hb2 hf2
      refine hK.out _ _ ?_ (fun hHeld => ?_)
      · (try dsimp only); (first | (exact ⟨kcs hf2 (by simp only []; omega) hHeld.1, kcs hf2 (by simp only []; omega) hHeld.2.1, kcs hf2 (by simp only []; omega) hHeld.2.2.1, kcs hf2 (by simp only []; omega) hHeld.2.2.2.1, kcs hf2 (by simp only []; omega) hHeld.2.2.2.2.1, kcs hf2 (by simp only []; omega) hHeld.2.2.2.2.2.1, kcs hf2 (by simp only []; omega) hHeld.2.2.2.2.2.2.1, kcs hf2 (by simp only []; omega) hHeld.2.2.2.2.2.2.2.1, kcs hf2 (by simp only []; omega) hHeld.2.2.2.2.2.2.2.2.1, kcs hf2 (by simp only []; omega) hHeld.2.2.2.2.2.2.2.2.2.1, kcs hf2 (by simp only []; omega) hHeld.2.2.2.2.2.2.2.2.2.2.1, kcs hf2 (by simp only []; omega) hHeld.2.2.2.2.2.2.2.2.2.2.2.1, kcs hf2 (by simp only []; omega) hHeld.2.2.2.2.2.2.2.2.2.2.2.2.1, kcs hf2 (by simp only []; omega) hHeld.2.2.2.2.2.2.2.2.2.2.2.2.2.1, kcs hf2 (by simp only []; omega) hHeld.2.2.2.2.2.2.2.2.2.2.2.2.2.2.1, kcs hf2 (by simp only []; omega) hHeld.2.2.2.2.2.2.2.2.2.2.2.2.2.2.2.1, kcs hf2 (by simp only []; omega) hHeld.2.2.2.2.2.2.2.2.2.2.2.2.2.2.2.2.1, kfg (by omega) FW hf2⟩) | (exact ⟨kcs hf2 (by simp only []; omega) hHeld.1, kcs hf2 (by simp only []; omega) hHeld.2.1, kcs hf2 (by simp only []; omega) hHeld.2.2.1, kcs hf2 (by simp only []; omega) hHeld.2.2.2.1, kcs hf2 (by simp only []; omega) hHeld.2.2.2.2.1, kcs hf2 (by simp only []; omega) hHeld.2.2.2.2.2.1, kcs hf2 (by simp only []; omega) hHeld.2.2.2.2.2.2.1, kcs hf2 (by simp only []; omega) hHeld.2.2.2.2.2.2.2.1, kcs hf2 (by simp only []; omega) hHeld.2.2.2.2.2.2.2.2.1, kcs hf2 (by simp only []; omega) hHeld.2.2.2.2.2.2.2.2.2.1, kcs hf2 (by simp only []; omega) hHeld.2.2.2.2.2.2.2.2.2.2.1, kcs hf2 (by simp only []; omega) hHeld.2.2.2.2.2.2.2.2.2.2.2.1, kcs hf2 (by simp only []; omega) hHeld.2.2.2.2.2.2.2.2.2.2.2.2.1, kcs hf2 (by simp only []; omega) hHeld.2.2.2.2.2.2.2.2.2.2.2.2.2.1, kcs hf2 (by simp only []; omega) hHeld.2.2.2.2.2.2.2.2.2.2.2.2.2.2.1, kcs hf2 (by simp only []; omega) hHeld.2.2.2.2.2.2.2.2.2.2.2.2.2.2.2.1, kcs hf2 (by simp only []; omega) hHeld.2.2.2.2.2.2.2.2.2.2.2.2.2.2.2.2.1, kfg (by omega) hHeld.2.2.2.2.2.2.2.2.2.2.2.2.2.2.2.2.2 hf2⟩))
      clear hK K
      try simp only [Act.put, List.getElem_toArray, List.getElem_cons_succ, List.getElem_cons_zero]
      have FW := hid (show Fr No w2 W2 from (hHeld.2.2.2.2.2.2.2.2.2.2.2.2.2.2.2.2.2).out); have MX := hid hb2; clear hf2 hb2
      refine wpAnyH_done (by kernel_rfl) ?_ _
      refine NoPanic.normal ?_
      go_wp2_with fail
      go_meet
      case rel => exact ⟨_, st', z', B', m', d', sp', nx', rfl, MX.out, (by rw [HTJ.out]; exact HN.out), (by rw [HTJ.out]; exact HIN.out), hsz9, FW.out⟩
  case rest =>
  obtain ⟨M, st', z', B', m', d', sp', nx', rfl, hb, hj, hi, hM, f3⟩ := hcut
  have HF := kf f3 HF
  have P0 := hid (P0.out.fr f3)
  have P3 := hid (P3.out.fr f3)
  have PM := hid hb
  have HJ := hid hj
  have HI3 := hid (hi.fr HF.out)
  have hz' : inI z' := by have := HII.out.1; rw [HJ.out] at this; exact this
  have hp' : inI sp' := by have := HII.out.2; rw [HJ.out] at this; exact this
  have HM := hid (HM.out st' z' B' m' d' sp' nx' wc hz' hp' HI3.out)
  rw [← HJ.out, HMB.out] at HM
  have HIL := hid hi
  clear e0 e1 e2 e3 e4 e5 e6 e7 c0 c1 c2 c3 c4 d0 d1 d2 d3 hb hj hi f3 hz' hp'
  have hM2 : w.heap.size ≤ w.heap.size + 1 + 1 + 1 := by omega
  go_wp2_with (first | ((with_reducible refine ld_wg rfl (.tmp 46) rfl w.heap.size ?_ (BW.range P0.out) ?_); · rfl) | ((with_reducible refine ldJ rfl (.tmp 8) rfl M ?_ PM.out ?_); · rfl))
  refine HM.out.mono ?_
  rintro r w4 ⟨rfl, f4⟩
  have HF := kf f4 HF
  have P3 := hid (P3.out.fr f4)
  have PM := hid (PM.out.fr f4)
  clear f4 HM
  cases mb
  · go_wp2_with (((with_reducible refine stJ rfl (.tmp 6) (.tmp 51) rfl (w.heap.size + 1 + 1 + 1) ?_ (st' := 0) (z' := 0) (A' := none) (l' := 0) (c' := 0) (sp' := 0) (nx' := 0) ?_ P3.out ?_); (· rfl); (· rfl); intro W' hb hf; have HB := hid hb; have HF := kfg (by omega) HF hf; clear hb hf))
    exact bodyPost_ret (v := .tuple #[.agg #[.int .i64 0, .int .i64 0, .slice none 0 0, .int .i64 0, .int .i64 0], .int .i64 1]) (resJ2 rfl _ _ (w.heap.size + 1 + 1 + 1) 0 0 none 0 0 0 0 1 rfl rfl HB.out) rfl (RetB.mk (p := (zero, 1)) rfl (InI.nil w) HF.out)
  · go_wp2_with (first | ((with_reducible refine ldJ rfl (.tmp 8) rfl M ?_ PM.out ?_); · rfl) | ((with_reducible refine stJ rfl (.tmp 6) (.tmp 52) rfl (w.heap.size + 1 + 1 + 1) ?_ (st' := st') (z' := z') (A' := B') (l' := m') (c' := d') (sp' := sp') (nx' := nx') ?_ P3.out ?_); (· rfl); (· rfl); intro W' hb hf; have HB := hid hb; have HF := kfg (by omega) HF hf; clear hb hf))
    exact bodyPost_ret (v := .tuple #[.agg #[.int .i64 st', .int .i64 z', .slice B' m' d', .int .i64 sp', .int .i64 nx'], .int .i64 0]) (resJ2 rfl _ _ (w.heap.size + 1 + 1 + 1) st' z' B' m' d' sp' nx' 0 rfl rfl HB.out) rfl (RetB.mk (p := (tj, 0)) (by show (tj, (0 : Int)) = (⟨st', z', tj.bs, sp', nx'⟩, 0); rw [← HJ.out]) HIL.out HF.out)
end Go.Proofs.Ytgjcpepfggkieaa.ClKa
