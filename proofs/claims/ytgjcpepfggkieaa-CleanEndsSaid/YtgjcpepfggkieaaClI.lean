/- Contracts: what becomes of a job as something was done, kind by kind. Condition: lists that read as lists; numbers of 64 bits. -/
import Derived.Test.YtgjcpepfggkieaaClG
import Derived.RegionTactic
import Derived.StillTailTactics
namespace Go.Proofs.Ytgjcpepfggkieaa.ClI
open Go.RowKit MSep MGeM GeA GeC GeD PlA PlB ClM ClA ClE ClB ClC ClD ClG

/-- 'l[1:]'. -/
theorem slice_t (A : Option Addr) (l c : Nat) (h1 : 1 ≤ l) (h2 : l ≤ c) (W : World) : (Instr.sliceAt 41 (.slice A l c) (some (.int .i64 1)) none none).run Try.prog W = .ok (.slice (cutA A c 1) (l - 1) (c - 1)) W := by
  obtain ⟨i0, z0, hi, hz0, hz1, hz2, hz3⟩ := info3
  have e1 : (1 : Int) ≤ l := by omega
  have e2 : (l : Int) ≤ c := by omega
  simp [Instr.sliceAt, Instr.slice, run_underlying Try.underlying41, Instr.sliceBounds, run_sliceBound, sizeOf, typeInfo, hi, hz1, Result.andThen, e1, cutA]
/-- A job that is answered: it is j; its list was there in the elder world. -/
def RetJ (w0 w : World) (j : Jb) (e : Ending) (w' : World) : Prop :=
  ∃ st z A l c sp nx, e = .returned (.agg #[.int .i64 st, .int .i64 z, .slice A l c, .int .i64 sp, .int .i64 nx]) ∧ j = ⟨st, z, j.bs, sp, nx⟩ ∧ InI w0 A l c j.bs ∧ Fr No w w'
theorem RetJ.mk {w0 w w' : World} {st z : Int} {A : Option Addr} {l c : Nat} {sp nx : Int} {j : Jb} (hj : j = ⟨st, z, j.bs, sp, nx⟩) (hi : InI w0 A l c j.bs) (f : Fr No w w') : RetJ w0 w j (.returned (.agg #[.int .i64 st, .int .i64 z, .slice A l c, .int .i64 sp, .int .i64 nx])) w' :=
  ⟨st, z, A, l, c, sp, nx, rfl, hj, hi, f⟩
theorem next_nil (z : Int) (bs : List Int) : (nextJ z bs).bs = bs := by
  unfold nextJ
  by_cases hb : bs = []
  · by_cases hz : z = 255
    · simp [hb, hz, idle]
    · simp [hb, hz]
  · simp [hb]
/-- without, told of a list that was there in an elder world. -/
theorem without_ok2 (z : Int) (A : Option Addr) (l c : Nat) (bs : List Int) (w0 w : World) (h0 : InI w0 A l c bs) (hi : InI w A l c bs) :
    Calls Try.prog 94 #[.int .i64 z, .slice A l c] w fun r w' => ∃ st sp nx z' B m d, r = .returned (.agg #[.int .i64 st, .int .i64 z', .slice B m d, .int .i64 sp, .int .i64 nx]) ∧ nextJ z bs = ⟨st, z', (nextJ z bs).bs, sp, nx⟩ ∧ InI w0 B m d (nextJ z bs).bs ∧ Fr No w w' :=
  (without_ok z A l c bs w hi).mono fun _r _w' h => h.old h0
set_option maxRecDepth 100000 in
set_option maxHeartbeats 2000000 in
theorem turn1_ok (st z : Int) (A : Option Addr) (l c : Nat) (sp nx : Int) (_bs : List Int) (k dz db : Int) (B : Option Addr) (m e : Nat) (ys : List Int) (w0 w : World) (h0 : InI w0 B m e ys) (hy : InI w B m e ys) :
    Calls Try.prog 93 #[.agg #[.int .i64 st, .int .i64 z, .slice A l c, .int .i64 sp, .int .i64 nx], .agg #[.int .i64 k, .int .i64 dz, .int .i64 db, .slice B m e]] w fun r w' => RetJ w0 w (nextJ dz ys) r w' := by
  have P0 := hid (((BJ.at_ (w := w) (g := w.heap.size) st z A l c sp nx rfl).up (oD k dz db B m e)).up (oJ 0 0 none 0 0 0 0))
  have P2 := hid (BJ.at_ (w := (w.alloc (oJ st z A l c sp nx)).alloc (oD k dz db B m e)) (g := w.heap.size + 1 + 1) 0 0 none 0 0 0 0 (by simp))
  have HF := hid (((fr1 w (oJ st z A l c sp nx)).alloc (oD k dz db B m e)).alloc (oJ 0 0 none 0 0 0 0))
  have HY := hid (hy.fr HF.out)
  have HYW := hid h0
  clear hy h0
  go_enter Try.func93, Try.ntmps93
  go_wp2_with fail
  refine (without_ok2 _ _ _ _ ys w0 _ HYW.out HY.out).mono ?_
  rintro r w1 ⟨st', sp', nx', z', B', m', d', rfl, hn, hi, f1⟩
  have HI := hid (show InI w0 B' m' d' _ from hi)
  have HF := kf f1 HF
  have P2 := hid (P2.out.fr f1)
  have HN := hid hn
  clear f1 hi hn
  go_wp2_with (((with_reducible refine stJ rfl (.tmp 4) (.tmp 9) rfl (w.heap.size + 1 + 1) ?_ (st' := st') (z' := z') (A' := B') (l' := m') (c' := d') (sp' := sp') (nx' := nx') ?_ P2.out ?_); (· rfl); (· rfl); intro W' hb hf; have HB := hid hb; have HF := kfg (by omega) HF hf; clear hb hf))
  exact bodyPost_ret (v := .agg #[.int .i64 st', .int .i64 z', .slice B' m' d', .int .i64 sp', .int .i64 nx']) (resJ rfl _ _ (w.heap.size + 1 + 1) st' z' B' m' d' sp' nx' rfl HB.out) rfl (RetJ.mk HN.out HI.out HF.out)
set_option maxRecDepth 100000 in
set_option maxHeartbeats 2000000 in
theorem turn2_ok (st z : Int) (A : Option Addr) (l c : Nat) (sp nx : Int) (bs : List Int) (k dz db : Int) (B : Option Addr) (m e : Nat) (w0 w : World) (h0 : InI w0 A l c bs) (_hi : InI w A l c bs) :
    Calls Try.prog 95 #[.agg #[.int .i64 st, .int .i64 z, .slice A l c, .int .i64 sp, .int .i64 nx], .agg #[.int .i64 k, .int .i64 dz, .int .i64 db, .slice B m e]] w fun r w' => RetJ w0 w ⟨3, z, bs, dz, nx⟩ r w' := by
  have HI := hid h0
  clear _hi h0
  go_enter Try.func95, Try.ntmps95
  go_wp2_with fail
  go_region
  all_goals go_wp2_with fail
  refine bodyPost_ret (v := .agg #[.int .i64 3, .int .i64 z, .slice A l c, .int .i64 dz, .int .i64 nx]) (resJ rfl _ _ (w.heap.size + 1 + 1) 3 z A l c dz nx rfl (BJ.at_ (w := (w.alloc (oJ 3 z A l c dz nx)).alloc (oD k dz db B m e)) 3 z A l c dz nx (by simp))) rfl (RetJ.mk (j := ⟨3, z, bs, dz, nx⟩) rfl HI.out ?_)
  have f := ((fr1 w (oJ 3 z A l c dz nx)).alloc (oD k dz db B m e)).alloc (oJ 3 z A l c dz nx)
  first | exact f | exact f.drew | exact f.drewN _
set_option maxRecDepth 100000 in
set_option maxHeartbeats 2000000 in
theorem turn3_ok (st z : Int) (A : Option Addr) (l c : Nat) (sp nx : Int) (bs : List Int) (k dz db : Int) (B : Option Addr) (m e : Nat) (w0 w : World) (h0 : InI w0 A l c bs) (_hi : InI w A l c bs) :
    Calls Try.prog 96 #[.agg #[.int .i64 st, .int .i64 z, .slice A l c, .int .i64 sp, .int .i64 nx], .agg #[.int .i64 k, .int .i64 dz, .int .i64 db, .slice B m e]] w fun r w' => RetJ w0 w ⟨2, z, bs, sp, nx⟩ r w' := by
  have HI := hid h0
  clear _hi h0
  go_enter Try.func96, Try.ntmps96
  go_wp2_with fail
  exact bodyPost_ret (v := .agg #[.int .i64 2, .int .i64 z, .slice A l c, .int .i64 sp, .int .i64 nx]) (resJ rfl _ _ (w.heap.size + 1 + 1) 2 z A l c sp nx rfl (BJ.at_ (w := (w.alloc (oJ 2 z A l c sp nx)).alloc (oD k dz db B m e)) 2 z A l c sp nx (by simp))) rfl (RetJ.mk (j := ⟨2, z, bs, sp, nx⟩) rfl HI.out (((fr1 w (oJ 2 z A l c sp nx)).alloc (oD k dz db B m e)).alloc (oJ 2 z A l c sp nx)))
set_option maxRecDepth 100000 in
set_option maxHeartbeats 2000000 in
theorem turn6_ok (st z : Int) (A : Option Addr) (l c : Nat) (sp nx : Int) (_bs : List Int) (k dz db : Int) (B : Option Addr) (m e : Nat) (w0 w : World) :
    Calls Try.prog 99 #[.agg #[.int .i64 st, .int .i64 z, .slice A l c, .int .i64 sp, .int .i64 nx], .agg #[.int .i64 k, .int .i64 dz, .int .i64 db, .slice B m e]] w fun r w' => RetJ w0 w idle r w' := by
  have P0 := hid (((BJ.at_ (w := w) (g := w.heap.size) st z A l c sp nx rfl).up (oD k dz db B m e)).up (oJ 0 0 none 0 0 0 0))
  have P2 := hid (BJ.at_ (w := (w.alloc (oJ st z A l c sp nx)).alloc (oD k dz db B m e)) (g := w.heap.size + 1 + 1) 0 0 none 0 0 0 0 (by simp))
  have HF := hid (((fr1 w (oJ st z A l c sp nx)).alloc (oD k dz db B m e)).alloc (oJ 0 0 none 0 0 0 0))
  go_enter Try.func99, Try.ntmps99
  go_wp2_with fail
  refine (idle_ok _).mono ?_
  rintro r w1 ⟨rfl, f1⟩
  have HF := kf f1 HF
  have P2 := hid (P2.out.fr f1)
  clear f1 P0
  go_wp2_with (((with_reducible refine stJ rfl (.tmp 4) (.tmp 5) rfl (w.heap.size + 1 + 1) ?_ (st' := 0) (z' := 255) (A' := none) (l' := 0) (c' := 0) (sp' := 255) (nx' := 0) ?_ P2.out ?_); (· rfl); (· rfl); intro W' hb hf; have HB := hid hb; have HF := kfg (by omega) HF hf; clear hb hf))
  exact bodyPost_ret (v := .agg #[.int .i64 0, .int .i64 255, .slice none 0 0, .int .i64 255, .int .i64 0]) (resJ rfl _ _ (w.heap.size + 1 + 1) 0 255 none 0 0 255 0 rfl HB.out) rfl (RetJ.mk (j := idle) rfl (InI.nil w0) HF.out)
set_option maxRecDepth 100000 in
set_option maxHeartbeats 2000000 in
theorem turn5_ok (st z : Int) (A : Option Addr) (l c : Nat) (sp nx : Int) (bs : List Int) (k dz db : Int) (B : Option Addr) (m e : Nat) (w0 w : World) (h0 : InI w0 A l c bs) (hi : InI w A l c bs) (hb : bs ≠ []) :
    Calls Try.prog 98 #[.agg #[.int .i64 st, .int .i64 z, .slice A l c, .int .i64 sp, .int .i64 nx], .agg #[.int .i64 k, .int .i64 dz, .int .i64 db, .slice B m e]] w fun r w' => RetJ w0 w (nextJ z bs.tail) r w' := by
  have P0 := hid (((BJ.at_ (w := w) (g := w.heap.size) st z A l c sp nx rfl).up (oD k dz db B m e)).up (oJ 0 0 none 0 0 0 0))
  have P2 := hid (BJ.at_ (w := (w.alloc (oJ st z A l c sp nx)).alloc (oD k dz db B m e)) (g := w.heap.size + 1 + 1) 0 0 none 0 0 0 0 (by simp))
  have HF := hid (((fr1 w (oJ st z A l c sp nx)).alloc (oD k dz db B m e)).alloc (oJ 0 0 none 0 0 0 0))
  have hl : 0 < l := by
    rcases Nat.eq_zero_or_pos l with h | h
    · exact absurd ((ne_of_len hi).2 h) hb
    · exact h
  have HIW := hid (h0.tail hl)
  have HI := hid ((hi.fr HF.out).tail hl)
  have hlc := hi.lc
  have hl3 : (1 : Int) ≤ l := by omega
  have hl4 : (1 : Int) ≤ c := by omega
  have hl5 : (l : Int) ≤ c := by omega
  have hsl := slice_t A l c hl hlc
  clear hi hb h0
  go_enter Try.func98, Try.ntmps98
  go_upto_region 1 with fail
  obtain ⟨w1, hw1⟩ : ∃ w1, ((w.alloc (oJ st z A l c sp nx)).alloc (oD k dz db B m e)).alloc (oJ 0 0 none 0 0 0 0) = w1 := ⟨_, rfl⟩
  rw [hw1]
  rw [hw1] at P0 P2 HF HI
  clear hw1
  obtain ⟨c0, c1, c2, c3, c4⟩ := P0.out.cells
  go_still_tail 5, (by kernel_rfl)
  change wpList _ _ _ _ _ w1.drew
  clear c0 c1 c2 c3 c4
  obtain ⟨w2, hw2⟩ : ∃ w2, w1.drew = w2 := ⟨_, rfl⟩
  have HF := hid (show Fr No w w2 from hw2 ▸ HF.out.drew)
  have P0 := hid (show BJ w2 w.heap.size st z A l c sp nx from hw2 ▸ P0.out)
  have P2 := hid (show BJ w2 (w.heap.size + 1 + 1) 0 0 none 0 0 0 0 from hw2 ▸ P2.out)
  have HI := hid (HI.out.fr (show Fr No w1 w2 from hw2 ▸ Fr.drew (Fr.refl No w1)))
  rw [hw2]
  clear hw2
  go_wp2_with fail
  refine (without_ok2 _ _ _ _ bs.tail w0 _ HIW.out HI.out).mono ?_
  rintro r w1 ⟨st', sp', nx', z', B', m', d', rfl, hn, hi, f1⟩
  have HI := hid (show InI w0 B' m' d' _ from hi)
  have HF := kf f1 HF
  have P2 := hid (P2.out.fr f1)
  have HN := hid hn
  clear f1 hi hn
  go_wp2_with (((with_reducible refine stJ rfl (.tmp 4) (.tmp 10) rfl (w.heap.size + 1 + 1) ?_ (st' := st') (z' := z') (A' := B') (l' := m') (c' := d') (sp' := sp') (nx' := nx') ?_ P2.out ?_); (· rfl); (· rfl); intro W' hb hf; have HB := hid hb; have HF := kfg (by omega) HF hf; clear hb hf))
  exact bodyPost_ret (v := .agg #[.int .i64 st', .int .i64 z', .slice B' m' d', .int .i64 sp', .int .i64 nx']) (resJ rfl _ _ (w.heap.size + 1 + 1) st' z' B' m' d' sp' nx' rfl HB.out) rfl (RetJ.mk HN.out HI.out HF.out)
theorem bj_set4 {w : World} {g : Nat} {st z : Int} {A : Option Addr} {l c : Nat} {sp nx : Int} (h : BJ w g st z A l c sp nx) (v : Int) : BJ (w.setCell ⟨g, 4, none⟩ (.int .i64 v)) g st z A l c sp v := Blk.set_ h 4 _
theorem bj_set0 {w : World} {g : Nat} {st z : Int} {A : Option Addr} {l c : Nat} {sp nx : Int} (h : BJ w g st z A l c sp nx) (v : Int) : BJ (w.setCell ⟨g, 0, none⟩ (.int .i64 v)) g v z A l c sp nx := Blk.set_ h 0 _
theorem bw_fars {w : World} {g g' i : Nat} {u : Value} {gc gs gn gl gk b d ch : Int} (h : BW w g gc gs gn gl gk b d ch) (hn : g ≠ g') : BW (w.setCell ⟨g', i, none⟩ u) g gc gs gn gl gk b d ch := Blk.far h (p := ⟨g', i, none⟩) hn _
theorem bj_fars {w : World} {g g' i : Nat} {u : Value} {st z : Int} {A : Option Addr} {l c : Nat} {sp nx : Int} (h : BJ w g st z A l c sp nx) (hn : g ≠ g') : BJ (w.setCell ⟨g', i, none⟩ u) g st z A l c sp nx := Blk.far h (p := ⟨g', i, none⟩) hn _
set_option maxRecDepth 100000 in
set_option maxHeartbeats 2000000 in
theorem turn4_ok (gw : Nat) (gc gs gn gl gk b d ch : Int) (z : Int) (A : Option Addr) (l c : Nat) (sp nx : Int) (bs : List Int) (k dz db : Int) (B : Option Addr) (m e : Nat) (w0 w : World) (h0 : InI w0 A l c bs) (hi : InI w A l c bs) (hb : bs ≠ []) (hw : BW w gw gc gs gn gl gk b d ch) (hn : 0 ≤ nx ∧ nx < d) (hd : d ≤ 1000000) (hc : 1 ≤ ch ∧ ch ≤ 1000000) :
    Calls Try.prog 97 #[.agg #[.int .i64 2, .int .i64 z, .slice A l c, .int .i64 sp, .int .i64 nx], .agg #[.int .i64 k, .int .i64 dz, .int .i64 db, .slice B m e], .pointer (some ⟨gw, 0, none⟩)] w fun r w' => RetJ w0 w ⟨if nx + min ch (d - nx) = d then 4 else 2, z, bs, sp, nx + min ch (d - nx)⟩ r w' := by
  have hw8 := hw.lt
  obtain ⟨n, hnn⟩ : ∃ n, min ch (d - nx) = n := ⟨_, rfl⟩
  have hn1 : 1 ≤ n := by omega
  have hn2 : n ≤ d - nx := by omega
  have HWA := hid (fun W (h : InI W A l c bs) => wants_ok gc gs gn gl gk b d ch 2 z A l c sp nx bs W h ⟨by simp, fun _ => hb, by simp, fun _ => hn⟩ (by omega) (by omega))
  rw [w_copy, hnn] at HWA
  dsimp only [tv] at HWA
  have hfd : ∀ (x1 x2 x3 x4 x5 : Int) (w : World), (Instr.field 63 (.agg #[.int .i64 x1, .int .i64 x2, .int .i64 x3, .int .i64 x4, .int .i64 x5]) 4).run Try.prog w = .ok (.int .i64 x5) w := fun _ _ _ _ _ _ => by kernel_rfl
  rw [hnn]
  obtain ⟨hx, hhx⟩ : ∃ x, bs.headD 0 = x := ⟨_, rfl⟩
  rw [hhx] at HWA
  obtain ⟨sv, hsv⟩ : ∃ v, (if nx + n = d then 4 else 2 : Int) = v := ⟨_, rfl⟩
  rw [hsv]
  have HSV := hid hsv
  clear hsv
  have P0 := hid (((BJ.at_ (w := w) (g := w.heap.size) 2 z A l c sp nx rfl).up (oD k dz db B m e)).up (oJ 0 0 none 0 0 0 0))
  have P2 := hid (BJ.at_ (w := (w.alloc (oJ 2 z A l c sp nx)).alloc (oD k dz db B m e)) (g := w.heap.size + 1 + 1) 0 0 none 0 0 0 0 (by simp))
  have HF := hid (((fr1 w (oJ 2 z A l c sp nx)).alloc (oD k dz db B m e)).alloc (oJ 0 0 none 0 0 0 0))
  have P3 := hid (((hw.up (oJ 2 z A l c sp nx)).up (oD k dz db B m e)).up (oJ 0 0 none 0 0 0 0))
  have HIW := hid h0
  have HI := hid (hi.fr HF.out)
  obtain ⟨hn3, hn4⟩ := hn
  have hs1 : w.heap.size ≤ w.heap.size + 1 + 1 := by omega
  have hs2 : w.heap.size ≠ gw := by omega
  have hs3 : w.heap.size + 1 + 1 ≠ w.heap.size := by omega
  clear hi hb h0 hw hnn hhx hc
  go_enter Try.func97, Try.ntmps97
  go_upto_region 1 with fail
  obtain ⟨w1, hw1⟩ : ∃ w1, ((w.alloc (oJ 2 z A l c sp nx)).alloc (oD k dz db B m e)).alloc (oJ 0 0 none 0 0 0 0) = w1 := ⟨_, rfl⟩
  rw [hw1]
  rw [hw1] at P0 P2 P3 HF HI
  clear hw1
  obtain ⟨c0, c1, c2, c3, c4⟩ := P0.out.cells
  obtain ⟨e0, e1, e2, e3, e4, e5, e6, e7⟩ := P3.out.cells
  have z4 := P0.out.frozens.2.2.2.2
  have hwr : IntKind.i64.wrap (nx + n) = nx + n := by rw [IntKind.wrap_i64]; omega
  go_cut [12] (fun v wx => v = v ∧ Fr No w wx ∧ BJ wx w.heap.size 2 z A l c sp (nx + n) ∧ BJ wx (w.heap.size + 1 + 1) 0 0 none 0 0 0 0 ∧ BW wx gw gc gs gn gl gk b d ch)
  case first =>
    go_region_law (refine step_wanted rfl ?_; go_simp; go_at_call 66; refine (HWA.out _ (HI.out.fr (Fr.drew (Fr.refl No _)))).mono ?_; rintro r w3 ⟨rfl, f3⟩; have d4 := kc f3 (show (World.drew w1).cell? ⟨w.heap.size, 4, none⟩ = _ from c4); have z9 := (P0.out.fr ((Fr.drew (Fr.refl No w1)).trans f3)).frozens.2.2.2.2; have F3 := hid ((Fr.drew (Fr.refl No w1)).trans f3); dsimp only)
    all_goals
      go_wp2_with fail
      go_meet
      case rel => exact ⟨trivial, (kf1 (p := ⟨w.heap.size, 4, none⟩) (Nat.le_refl _) (kf F3.out HF)).out, bj_set4 (P0.out.fr F3.out) (nx + n), bj_fars (P2.out.fr F3.out) hs3, bw_fars (P3.out.fr F3.out) hs2.symm⟩
  case rest =>
  obtain ⟨_, f3, q0, q2, q3⟩ := hcut
  have FQ := hid f3
  have Q0 := hid q0
  have Q2 := hid q2
  have Q3 := hid q3
  clear f3 q0 q2 q3
  clear c0 c1 c2 c3 c4 e0 e1 e2 e3 e4 e5 e6 e7 z4 hfd hwr
  clear HI HWA
  obtain ⟨c0, c1, c2, c3, c4⟩ := Q0.out.cells
  obtain ⟨e0, e1, e2, e3, e4, e5, e6, e7⟩ := Q3.out.cells
  clear e0 e1 e2 e3 e4 e5 e7 c1 c2 c3
  by_cases heq : nx + n = d
  · have HV := hid (show sv = 4 by rw [← HSV.out, if_pos heq])
    have he : (nx + n == d) = true := by simpa using heq
    have z0 := Q0.out.frozens.1
    have Q0 := hid (bj_set0 Q0.out 4)
    have Q2 := hid (bj_fars (i := 0) (u := .int .i64 4) Q2.out hs3)
    have FQ := kf1 (p := ⟨w.heap.size, 0, none⟩) (a := .int .i64 4) (Nat.le_refl _) FQ
    clear heq
    go_wp2_with (first | ((with_reducible refine ldJ rfl (.tmp 3) rfl w.heap.size ?_ Q0.out ?_); · rfl) | ((with_reducible refine stJ rfl (.tmp 5) (.tmp 20) rfl (w.heap.size + 1 + 1) ?_ (st' := 4) (z' := z) (A' := A) (l' := l) (c' := c) (sp' := sp) (nx' := nx + n) ?_ Q2.out ?_); (· rfl); (· rfl); intro W' hb hf; have HB := hid hb; have HF := kfg hs1 FQ hf; clear hb hf))
    exact bodyPost_ret (v := .agg #[.int .i64 4, .int .i64 z, .slice A l c, .int .i64 sp, .int .i64 (nx + n)]) (resJ rfl _ _ (w.heap.size + 1 + 1) 4 z A l c sp (nx + n) rfl HB.out) rfl (RetJ.mk (j := ⟨sv, z, bs, sp, nx + n⟩) (by rw [HV.out]) HIW.out HF.out)
  · have HV := hid (show sv = 2 by rw [← HSV.out, if_neg heq])
    have he : (nx + n == d) = false := by simpa using heq
    clear heq
    go_wp2_with (first | ((with_reducible refine ldJ rfl (.tmp 3) rfl w.heap.size ?_ Q0.out ?_); · rfl) | ((with_reducible refine stJ rfl (.tmp 5) (.tmp 20) rfl (w.heap.size + 1 + 1) ?_ (st' := 2) (z' := z) (A' := A) (l' := l) (c' := c) (sp' := sp) (nx' := nx + n) ?_ Q2.out ?_); (· rfl); (· rfl); intro W' hb hf; have HB := hid hb; have HF := kfg hs1 FQ hf; clear hb hf))
    exact bodyPost_ret (v := .agg #[.int .i64 2, .int .i64 z, .slice A l c, .int .i64 sp, .int .i64 (nx + n)]) (resJ rfl _ _ (w.heap.size + 1 + 1) 2 z A l c sp (nx + n) rfl HB.out) rfl (RetJ.mk (j := ⟨sv, z, bs, sp, nx + n⟩) (by rw [HV.out]) HIW.out HF.out)
end Go.Proofs.Ytgjcpepfggkieaa.ClI
