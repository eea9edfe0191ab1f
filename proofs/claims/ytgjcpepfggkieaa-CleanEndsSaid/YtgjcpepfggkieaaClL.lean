/- Contract: what becomes of a job by anything that was done, by the program. Condition: lists that read as lists; numbers of 64 bits; the job may be. -/
import Derived.Test.YtgjcpepfggkieaaClKa
import Derived.Test.YtgjcpepfggkieaaClKb
import Derived.Test.YtgjcpepfggkieaaClKc
import Derived.Test.YtgjcpepfggkieaaClKe
import Derived.Test.YtgjcpepfggkieaaClKf
namespace Go.Proofs.Ytgjcpepfggkieaa.ClL
open Go.RowKit MSep MGeM GeA GeC GeD PlA PlB ClM ClA ClE ClB ClC ClD ClG ClH ClI ClJ ClK ClKa ClKb ClKc ClKe ClKf

set_option maxRecDepth 100000 in
set_option maxHeartbeats 2000000 in
theorem bec_fail (gc gs gn gl gk b d ch : Int) (st z : Int) (A : Option Addr) (l c : Nat) (sp nx : Int) (_bs : List Int) (dz db : Int) (B : Option Addr) (m e : Nat) (w : World) :
    Calls Try.prog 70 #[.agg #[.int .i64 gc, .int .i64 gs, .int .i64 gn, .int .i64 gl, .int .i64 gk, .int .i64 b, .int .i64 d, .int .i64 ch], .agg #[.int .i64 st, .int .i64 z, .slice A l c, .int .i64 sp, .int .i64 nx], .agg #[.int .i64 7, .int .i64 dz, .int .i64 db, .slice B m e]] w fun r w' => RetB w (idle, 0) r w' := by
  have P0 := hid ((((BW.at_ (w := w) (g := w.heap.size) gc gs gn gl gk b d ch rfl).up (oJ st z A l c sp nx)).up (oD 7 dz db B m e)).up (oJ 0 0 none 0 0 0 0))
  have P1 := hid (((BJ.at_ (w := w.alloc (oW gc gs gn gl gk b d ch)) (g := w.heap.size + 1) st z A l c sp nx (by simp)).up (oD 7 dz db B m e)).up (oJ 0 0 none 0 0 0 0))
  have P2 := hid ((BD.at_ (w := (w.alloc (oW gc gs gn gl gk b d ch)).alloc (oJ st z A l c sp nx)) (g := w.heap.size + 1 + 1) 7 dz db B m e (by simp)).up (oJ 0 0 none 0 0 0 0))
  have P3 := hid (BJ.at_ (w := ((w.alloc (oW gc gs gn gl gk b d ch)).alloc (oJ st z A l c sp nx)).alloc (oD 7 dz db B m e)) (g := w.heap.size + 1 + 1 + 1) 0 0 none 0 0 0 0 (by simp))
  have HF := hid ((((fr1 w (oW gc gs gn gl gk b d ch)).alloc (oJ st z A l c sp nx)).alloc (oD 7 dz db B m e)).alloc (oJ 0 0 none 0 0 0 0))
  clear P0 P1 P2
  go_enter Try.func70, Try.ntmps70
  go_wp2_with fail
  refine (idle_ok _).mono ?_
  rintro r w2 ⟨rfl, f2⟩
  have HF := kf f2 HF
  have P3 := hid (P3.out.fr f2)
  clear f2
  go_wp2_with (((with_reducible refine stJ rfl (.tmp 6) (.tmp 13) rfl (w.heap.size + 1 + 1 + 1) ?_ (st' := 0) (z' := 255) (A' := none) (l' := 0) (c' := 0) (sp' := 255) (nx' := 0) ?_ P3.out ?_); (· rfl); (· rfl); intro W' hb hf; have HB := hid hb; have HF := kfg (by omega) HF hf; clear hb hf))
  exact bodyPost_ret (v := .tuple #[.agg #[.int .i64 0, .int .i64 255, .slice none 0 0, .int .i64 255, .int .i64 0], .int .i64 0]) (resJ2 rfl _ _ (w.heap.size + 1 + 1 + 1) 0 255 none 0 0 255 0 0 rfl rfl HB.out) rfl (RetB.mk (p := (idle, 0)) rfl (InI.nil w) HF.out)
set_option maxRecDepth 100000 in
set_option maxHeartbeats 2000000 in
theorem bec_out (gc gs gn gl gk b d ch : Int) (st z : Int) (A : Option Addr) (l c : Nat) (sp nx : Int) (_bs : List Int) (dz db : Int) (B : Option Addr) (m e : Nat) (w : World) (hb : ¬ (0 ≤ db ∧ db < b)) :
    Calls Try.prog 70 #[.agg #[.int .i64 gc, .int .i64 gs, .int .i64 gn, .int .i64 gl, .int .i64 gk, .int .i64 b, .int .i64 d, .int .i64 ch], .agg #[.int .i64 st, .int .i64 z, .slice A l c, .int .i64 sp, .int .i64 nx], .agg #[.int .i64 8, .int .i64 dz, .int .i64 db, .slice B m e]] w fun r w' => RetB w (zero, 1) r w' := by
  have P0 := hid ((((BW.at_ (w := w) (g := w.heap.size) gc gs gn gl gk b d ch rfl).up (oJ st z A l c sp nx)).up (oD 8 dz db B m e)).up (oJ 0 0 none 0 0 0 0))
  have P1 := hid (((BJ.at_ (w := w.alloc (oW gc gs gn gl gk b d ch)) (g := w.heap.size + 1) st z A l c sp nx (by simp)).up (oD 8 dz db B m e)).up (oJ 0 0 none 0 0 0 0))
  have P2 := hid ((BD.at_ (w := (w.alloc (oW gc gs gn gl gk b d ch)).alloc (oJ st z A l c sp nx)) (g := w.heap.size + 1 + 1) 8 dz db B m e (by simp)).up (oJ 0 0 none 0 0 0 0))
  have P3 := hid (BJ.at_ (w := ((w.alloc (oW gc gs gn gl gk b d ch)).alloc (oJ st z A l c sp nx)).alloc (oD 8 dz db B m e)) (g := w.heap.size + 1 + 1 + 1) 0 0 none 0 0 0 0 (by simp))
  have HF := hid ((((fr1 w (oW gc gs gn gl gk b d ch)).alloc (oJ st z A l c sp nx)).alloc (oD 8 dz db B m e)).alloc (oJ 0 0 none 0 0 0 0))
  clear P0 P1 P2
  by_cases h1 : db < 0
  · go_enter Try.func70, Try.ntmps70
    go_wp2_with fail
    exact bodyPost_ret (v := .tuple #[.agg #[.int .i64 0, .int .i64 0, .slice none 0 0, .int .i64 0, .int .i64 0], .int .i64 1]) (resJ2 rfl _ _ (w.heap.size + 1 + 1 + 1) 0 0 none 0 0 0 0 1 rfl rfl P3.out) rfl (RetB.mk (p := (zero, 1)) rfl (InI.nil w) HF.out)
  · have h2 : b ≤ db := by omega
    go_enter Try.func70, Try.ntmps70
    go_wp2_with fail
    exact bodyPost_ret (v := .tuple #[.agg #[.int .i64 0, .int .i64 0, .slice none 0 0, .int .i64 0, .int .i64 0], .int .i64 1]) (resJ2 rfl _ _ (w.heap.size + 1 + 1 + 1) 0 0 none 0 0 0 0 1 rfl rfl P3.out) rfl (RetB.mk (p := (zero, 1)) rfl (InI.nil w) HF.out)
set_option maxRecDepth 100000 in
set_option maxHeartbeats 2000000 in
theorem bec_touch (gc gs gn gl gk b d ch : Int) (st z : Int) (A : Option Addr) (l c : Nat) (sp nx : Int) (bs : List Int) (dz db : Int) (B : Option Addr) (m e : Nat) (w : World) (hi : InI w A l c bs) (hn : st = 2 ∨ st = 3 ∨ st = 4 → bs ≠ []) (hb : 0 ≤ db ∧ db < b) :
    Calls Try.prog 70 #[.agg #[.int .i64 gc, .int .i64 gs, .int .i64 gn, .int .i64 gl, .int .i64 gk, .int .i64 b, .int .i64 d, .int .i64 ch], .agg #[.int .i64 st, .int .i64 z, .slice A l c, .int .i64 sp, .int .i64 nx], .agg #[.int .i64 8, .int .i64 dz, .int .i64 db, .slice B m e]] w fun r w' => RetB w (touchJ ⟨st, z, bs, sp, nx⟩ db, 0) r w' := by
  have P0 := hid ((((BW.at_ (w := w) (g := w.heap.size) gc gs gn gl gk b d ch rfl).up (oJ st z A l c sp nx)).up (oD 8 dz db B m e)).up (oJ 0 0 none 0 0 0 0))
  have P1 := hid (((BJ.at_ (w := w.alloc (oW gc gs gn gl gk b d ch)) (g := w.heap.size + 1) st z A l c sp nx (by simp)).up (oD 8 dz db B m e)).up (oJ 0 0 none 0 0 0 0))
  have P2 := hid ((BD.at_ (w := (w.alloc (oW gc gs gn gl gk b d ch)).alloc (oJ st z A l c sp nx)) (g := w.heap.size + 1 + 1) 8 dz db B m e (by simp)).up (oJ 0 0 none 0 0 0 0))
  have P3 := hid (BJ.at_ (w := ((w.alloc (oW gc gs gn gl gk b d ch)).alloc (oJ st z A l c sp nx)).alloc (oD 8 dz db B m e)) (g := w.heap.size + 1 + 1 + 1) 0 0 none 0 0 0 0 (by simp))
  have HF := hid ((((fr1 w (oW gc gs gn gl gk b d ch)).alloc (oJ st z A l c sp nx)).alloc (oD 8 dz db B m e)).alloc (oJ 0 0 none 0 0 0 0))
  have HIW := hid hi
  have HI := hid (hi.fr HF.out)
  have HT := hid (fun W (h : InI W A l c bs) => touched_ok st z A l c sp nx bs db w W HIW.out h hn)
  obtain ⟨h1, h2⟩ := hb
  clear P0 P1 P2 hi hn
  go_enter Try.func70, Try.ntmps70
  go_wp2_with fail
  refine (HT.out _ HI.out).mono ?_
  rintro r w2 ⟨st', z', B', m', d', sp', nx', rfl, hj, hi, f2⟩
  have HF := kf f2 HF
  have P3 := hid (P3.out.fr f2)
  have HJ := hid hj
  have HI2 := hid hi
  clear f2 hj hi HT
  go_wp2_with (((with_reducible refine stJ rfl (.tmp 6) (.tmp 30) rfl (w.heap.size + 1 + 1 + 1) ?_ (st' := st') (z' := z') (A' := B') (l' := m') (c' := d') (sp' := sp') (nx' := nx') ?_ P3.out ?_); (· rfl); (· rfl); intro W' hb hf; have HB := hid hb; have HF := kfg (by omega) HF hf; clear hb hf))
  exact bodyPost_ret (v := .tuple #[.agg #[.int .i64 st', .int .i64 z', .slice B' m' d', .int .i64 sp', .int .i64 nx'], .int .i64 0]) (resJ2 rfl _ _ (w.heap.size + 1 + 1 + 1) st' z' B' m' d' sp' nx' 0 rfl rfl HB.out) rfl (RetB.mk (p := (touchJ ⟨st, z, bs, sp, nx⟩ db, 0)) (by show (touchJ ⟨st, z, bs, sp, nx⟩ db, (0 : Int)) = (⟨st', z', (touchJ ⟨st, z, bs, sp, nx⟩ db).bs, sp', nx'⟩, 0); rw [← HJ.out]) HI2.out HF.out)
set_option maxRecDepth 100000 in
set_option maxHeartbeats 2000000 in
theorem bec_state (gc gs gn gl gk b d ch : Int) (st z : Int) (A : Option Addr) (l c : Nat) (sp nx : Int) (bs : List Int) (k dz db : Int) (B : Option Addr) (m e : Nat) (w : World) (hi : InI w A l c bs) (ho : okJ d ⟨st, z, bs, sp, nx⟩) (hd : 0 ≤ d ∧ d ≤ 1000000) (hc : 0 ≤ ch ∧ ch ≤ 1000000) (h7 : k ≠ 7) (h8 : k ≠ 8) (hk : k ≠ (wantJ d ch ⟨st, z, bs, sp, nx⟩).1) :
    Calls Try.prog 70 #[.agg #[.int .i64 gc, .int .i64 gs, .int .i64 gn, .int .i64 gl, .int .i64 gk, .int .i64 b, .int .i64 d, .int .i64 ch], .agg #[.int .i64 st, .int .i64 z, .slice A l c, .int .i64 sp, .int .i64 nx], .agg #[.int .i64 k, .int .i64 dz, .int .i64 db, .slice B m e]] w fun r w' => RetB w (zero, 52) r w' := by
  have P0 := hid ((((BW.at_ (w := w) (g := w.heap.size) gc gs gn gl gk b d ch rfl).up (oJ st z A l c sp nx)).up (oD k dz db B m e)).up (oJ 0 0 none 0 0 0 0))
  have P1 := hid (((BJ.at_ (w := w.alloc (oW gc gs gn gl gk b d ch)) (g := w.heap.size + 1) st z A l c sp nx (by simp)).up (oD k dz db B m e)).up (oJ 0 0 none 0 0 0 0))
  have P2 := hid ((BD.at_ (w := (w.alloc (oW gc gs gn gl gk b d ch)).alloc (oJ st z A l c sp nx)) (g := w.heap.size + 1 + 1) k dz db B m e (by simp)).up (oJ 0 0 none 0 0 0 0))
  have P3 := hid (BJ.at_ (w := ((w.alloc (oW gc gs gn gl gk b d ch)).alloc (oJ st z A l c sp nx)).alloc (oD k dz db B m e)) (g := w.heap.size + 1 + 1 + 1) 0 0 none 0 0 0 0 (by simp))
  have HF := hid ((((fr1 w (oW gc gs gn gl gk b d ch)).alloc (oJ st z A l c sp nx)).alloc (oD k dz db B m e)).alloc (oJ 0 0 none 0 0 0 0))
  have HI := hid (hi.fr HF.out)
  have HWA := hid (fun W (h : InI W A l c bs) => wants_ok gc gs gn gl gk b d ch st z A l c sp nx bs W h ho hd hc)
  obtain ⟨q, hq⟩ : ∃ q, wantJ d ch ⟨st, z, bs, sp, nx⟩ = q := ⟨_, rfl⟩
  rw [hq] at HWA hk
  obtain ⟨q1, q2, q3, q4, q5⟩ := q
  dsimp only [tv] at HWA hk
  have hfd : ∀ (x1 x2 x3 x4 x5 : Int) (w : World), (Instr.field 63 (.agg #[.int .i64 x1, .int .i64 x2, .int .i64 x3, .int .i64 x4, .int .i64 x5]) 0).run Try.prog w = .ok (.int .i64 x1) w := fun _ _ _ _ _ _ => by kernel_rfl
  have e7 : (k == 7) = false := by simpa using h7
  have e8 : (k == 8) = false := by simpa using h8
  have eq : (k == q1) = false := by simpa using hk
  clear h7 h8 hk hq hi ho hd hc P0 P1 P2
  go_enter Try.func70, Try.ntmps70
  go_wp2_with fail
  refine (HWA.out _ HI.out).mono ?_
  rintro r w2 ⟨rfl, f2⟩
  have HF := kf f2 HF
  have P3 := hid (P3.out.fr f2)
  clear f2 HWA
  go_wp2_with (((with_reducible refine stJ rfl (.tmp 6) (.tmp 53) rfl (w.heap.size + 1 + 1 + 1) ?_ (st' := 0) (z' := 0) (A' := none) (l' := 0) (c' := 0) (sp' := 0) (nx' := 0) ?_ P3.out ?_); (· rfl); (· rfl); intro W' hb hf; have HB := hid hb; have HF := kfg (by omega) HF hf; clear hb hf))
  exact bodyPost_ret (v := .tuple #[.agg #[.int .i64 0, .int .i64 0, .slice none 0 0, .int .i64 0, .int .i64 0], .int .i64 52]) (resJ2 rfl _ _ (w.heap.size + 1 + 1 + 1) 0 0 none 0 0 0 0 52 rfl rfl HB.out) rfl (RetB.mk (p := (zero, 52)) rfl (InI.nil w) HF.out)
theorem becomes_ok (gc gs gn gl gk : Int) (b d ch : Int) (st z : Int) (A : Option Addr) (l c : Nat) (sp nx : Int) (bs : List Int) (k dz db : Int) (B : Option Addr) (m e : Nat) (ys : List Int) (w : World) (hs : -9223372036854775808 ≤ gs ∧ gs ≤ 9223372036854775807) (hm : mayG ⟨gc, gs, gn, gl, gk⟩) (hlb : (lay ⟨gc, gs, gn, gl, gk⟩).b = b ∧ (lay ⟨gc, gs, gn, gl, gk⟩).d = d) (hz : inI z) (hp : inI sp) (hdz : inI dz) (hi : InI w A l c bs) (hy : InI w B m e ys) (hj : mayB ⟨gc, gs, gn, gl, gk⟩ ⟨st, z, bs, sp, nx⟩ = true) (hc : 1 ≤ ch ∧ ch ≤ 1000000) :
    Calls Try.prog 70 #[.agg #[.int .i64 gc, .int .i64 gs, .int .i64 gn, .int .i64 gl, .int .i64 gk, .int .i64 b, .int .i64 d, .int .i64 ch], .agg #[.int .i64 st, .int .i64 z, .slice A l c, .int .i64 sp, .int .i64 nx], .agg #[.int .i64 k, .int .i64 dz, .int .i64 db, .slice B m e]] w fun r w' => RetB w (aftJ ⟨gc, gs, gn, gl, gk⟩ ch ⟨st, z, bs, sp, nx⟩ ⟨k, dz, db, ys⟩) r w' := by
  have ho := ok_of_may hj
  have hd1 := (good hm.1).d1
  have hd2 := (good hm.1).d2
  obtain ⟨hb1, hb2⟩ := hlb
  rw [hb2] at ho hd1 hd2
  unfold aftJ
  rw [hb1, hb2]
  dsimp only
  by_cases h7 : k = 7
  · subst h7
    rw [if_pos rfl]
    exact bec_fail gc gs gn gl gk b d ch st z A l c sp nx bs dz db B m e w
  rw [if_neg h7]
  by_cases h8 : k = 8
  · subst h8
    rw [if_pos rfl]
    by_cases hb : 0 ≤ db ∧ db < b
    · rw [if_pos hb]
      exact bec_touch gc gs gn gl gk b d ch st z A l c sp nx bs dz db B m e w hi (fun h => ho.2.1 (by dsimp only; omega)) hb
    · rw [if_neg hb]
      exact bec_out gc gs gn gl gk b d ch st z A l c sp nx bs dz db B m e w hb
  rw [if_neg h8]
  by_cases hk : k = (wantJ d ch ⟨st, z, bs, sp, nx⟩).1
  · rw [if_pos hk]
    have hst := ho.1
    dsimp only at hst
    rcases hst with rfl | rfl | rfl | rfl | rfl | rfl
    · obtain rfl : k = 1 := by rw [hk, w_pick _ _ _ _ _ _ _ (by decide)]
      exact bec_0 gc gs gn gl gk b d ch z A l c sp nx bs dz db B m e ys w hs hm ⟨hb1, hb2⟩ hz hp hdz hi hy ho hc
    · obtain rfl : k = 2 := by rw [hk, w_band]
      exact bec_1 gc gs gn gl gk b d ch z A l c sp nx bs dz db B m e ys w hs hm ⟨hb1, hb2⟩ hz hp hdz hi hy ho hc
    · obtain rfl : k = 3 := by rw [hk, w_copy]
      exact bec_2 gc gs gn gl gk b d ch z A l c sp nx bs dz db B m e ys w hs hm ⟨hb1, hb2⟩ hz hp hdz hi hy ho hc
    · obtain rfl : k = 4 := by rw [hk, w_label]
      exact bec_3 gc gs gn gl gk b d ch z A l c sp nx bs dz db B m e ys w hs hm ⟨hb1, hb2⟩ hz hp hdz hi hy ho hc
    · obtain rfl : k = 5 := by rw [hk, w_commit]
      exact bec_4 gc gs gn gl gk b d ch z A l c sp nx bs dz db B m e ys w hs hm ⟨hb1, hb2⟩ hz hp hdz hi hy ho hc
    · obtain rfl : k = 6 := by rw [hk, w_free]
      exact bec_5 gc gs gn gl gk b d ch z A l c sp nx bs dz db B m e ys w hs hm ⟨hb1, hb2⟩ hz hp hdz hi hy ho hc
  · rw [if_neg hk]
    exact bec_state gc gs gn gl gk b d ch st z A l c sp nx bs k dz db B m e w hi ho ⟨by omega, by omega⟩ ⟨by omega, by omega⟩ h7 h8 hk
end Go.Proofs.Ytgjcpepfggkieaa.ClL
