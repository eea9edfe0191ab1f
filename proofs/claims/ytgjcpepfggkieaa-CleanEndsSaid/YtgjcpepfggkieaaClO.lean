/- Contract: what becomes of a job by anything that was done, by the program: the answer's list is new. Condition: lists that read as lists; numbers of 64 bits. -/
import Derived.Test.YtgjcpepfggkieaaClN
namespace Go.Proofs.Ytgjcpepfggkieaa.ClO
open Go.RowKit MSep MGeM GeA GeC GeD PlA PlB ClM ClA ClE ClB ClC ClD ClG ClH ClI ClJ ClK ClL ClN

def RetF (w : World) (p : Jb × Int) (e : Ending) (w' : World) : Prop :=
  ∃ st z A l c sp nx er, e = .returned (.tuple #[.agg #[.int .i64 st, .int .i64 z, .slice A l c, .int .i64 sp, .int .i64 nx], .int .i64 er]) ∧ p = (⟨st, z, p.1.bs, sp, nx⟩, er) ∧ InI w' A l c p.1.bs ∧ (∀ g o, A = some ⟨g, o, none⟩ → w.heap.size ≤ g) ∧ Fr No w w'
theorem RetF.mk {w w' : World} {st z : Int} {A : Option Addr} {l c : Nat} {sp nx er : Int} {p : Jb × Int} (hj : p = (⟨st, z, p.1.bs, sp, nx⟩, er)) (hi : InI w' A l c p.1.bs) (hf : ∀ g o, A = some ⟨g, o, none⟩ → w.heap.size ≤ g) (f : Fr No w w') : RetF w p (.returned (.tuple #[.agg #[.int .i64 st, .int .i64 z, .slice A l c, .int .i64 sp, .int .i64 nx], .int .i64 er])) w' :=
  ⟨st, z, A, l, c, sp, nx, er, rfl, hj, hi, hf, f⟩
set_option maxRecDepth 100000 in
set_option maxHeartbeats 2000000 in
theorem pAfter_new (gc gs gn gl gk : Int) (ch : Int) (st z : Int) (A : Option Addr) (l c : Nat) (sp nx : Int) (bs : List Int) (k dz db : Int) (B : Option Addr) (m e : Nat) (ys : List Int) (w : World) (hs : -9223372036854775808 ≤ gs ∧ gs ≤ 9223372036854775807) (hz : inI z) (hp : inI sp) (hdz : inI dz) (hi : InI w A l c bs) (hy : InI w B m e ys) (hl : l ≤ 1000000) (hl2 : m ≤ 1000000) :
    Calls Try.prog 38 #[.agg #[.int .i64 gc, .int .i64 gs, .int .i64 gn, .int .i64 gl, .int .i64 gk], .int .i64 ch, .agg #[.int .i64 st, .int .i64 z, .slice A l c, .int .i64 sp, .int .i64 nx], .agg #[.int .i64 k, .int .i64 dz, .int .i64 db, .slice B m e]] w fun r w' => RetF w (aftA ⟨gc, gs, gn, gl, gk⟩ ch ⟨st, z, bs, sp, nx⟩ ⟨k, dz, db, ys⟩) r w' := by
  have P0 := hid (show BG ((((w.alloc (bg gc gs gn gl gk)).alloc (oJ st z A l c sp nx)).alloc (oD k dz db B m e)).alloc (oJ 0 0 none 0 0 0 0)) w.heap.size gc gs gn gl gk from (BG3 w gc gs gn gl gk (oJ st z A l c sp nx) (oD k dz db B m e) : Blk _ _ _ _).alloc _)
  have P1 := hid (((BJ.at_ (w := w.alloc (bg gc gs gn gl gk)) (g := w.heap.size + 1) st z A l c sp nx (by simp)).up (oD k dz db B m e)).up (oJ 0 0 none 0 0 0 0))
  have P2 := hid ((BD.at_ (w := (w.alloc (bg gc gs gn gl gk)).alloc (oJ st z A l c sp nx)) (g := w.heap.size + 1 + 1) k dz db B m e (by simp)).up (oJ 0 0 none 0 0 0 0))
  have P3 := hid (BJ.at_ (w := ((w.alloc (bg gc gs gn gl gk)).alloc (oJ st z A l c sp nx)).alloc (oD k dz db B m e)) (g := w.heap.size + 1 + 1 + 1) 0 0 none 0 0 0 0 (by simp))
  have HF := hid ((((fr1 w (bg gc gs gn gl gk)).alloc (oJ st z A l c sp nx)).alloc (oD k dz db B m e)).alloc (oJ 0 0 none 0 0 0 0))
  have HI := hid (hi.fr HF.out)
  have HY := hid (hy.fr HF.out)
  cases hb : badW ⟨gc, gs, gn, gl, gk⟩ ch ⟨st, z, bs, sp, nx⟩ with
  | some er =>
    rw [aftA_no hb]
    have HW := hid (fun W (h : InI W A l c bs) => way_err gc gs gn gl gk ch st z A l c sp nx bs W hs hz hp h er hb)
    have he : (er != 0) = true := by rcases bad_ne hb with h | h <;> rw [h] <;> rfl
    have he2 : (er == 0) = false := by rcases bad_ne hb with h | h <;> rw [h] <;> rfl
    clear hb hi hy hz hp hdz hl hl2
    go_enter Try.func38, Try.ntmps38
    go_wp2_with (first | ((with_reducible refine ld_geom rfl (.tmp 4) rfl w.heap.size ?_ P0.out ?_); · rfl) | ((with_reducible refine ldJ rfl (.tmp 6) rfl (w.heap.size + 1) ?_ P1.out ?_); · rfl))
    refine (HW.out _ HI.out).mono ?_
    rintro r w1 ⟨rfl, f1⟩
    have HF := hid ((HF.out.trans f1).alloc (oW 0 0 0 0 0 0 0 0))
    have P3 := hid ((P3.out.fr f1).up (oW 0 0 0 0 0 0 0 0))
    clear f1 HW P0 P1 P2
    go_wp2_with (((with_reducible refine stJ rfl (.tmp 8) (.tmp 22) rfl (w.heap.size + 1 + 1 + 1) ?_ (st' := 0) (z' := 0) (A' := none) (l' := 0) (c' := 0) (sp' := 0) (nx' := 0) ?_ P3.out ?_); (· rfl); (· rfl); intro W' hb hf; have HB := hid hb; have HF := kfg (by omega) HF hf; clear hb hf))
    exact bodyPost_ret (v := .tuple #[.agg #[.int .i64 0, .int .i64 0, .slice none 0 0, .int .i64 0, .int .i64 0], .int .i64 er]) (resJ2 rfl _ _ (w.heap.size + 1 + 1 + 1) 0 0 none 0 0 0 0 er rfl rfl HB.out) rfl (RetF.mk (p := (zero, er)) rfl (InI.nil _) (fun g o h => by cases h) HF.out)
  | none =>
    obtain ⟨hm, hj, hc, _⟩ := way_yes gc gs gn gl gk ch st z A l c sp nx bs w hs hz hp hi hb
    have HW := hid (fun W (h : InI W A l c bs) => (way_yes gc gs gn gl gk ch st z A l c sp nx bs W hs hz hp h hb).2.2.2)
    have hc2 := ch_of hc
    have HN := hid (fun W (h : InI W A l c bs) (h2 : InI W B m e ys) => becomes_ok gc gs gn gl gk (lay ⟨gc, gs, gn, gl, gk⟩).b (lay ⟨gc, gs, gn, gl, gk⟩).d ch st z A l c sp nx bs k dz db B m e ys W hs hm ⟨rfl, rfl⟩ hz hp hdz h h2 hj hc2)
    rw [show aftA ⟨gc, gs, gn, gl, gk⟩ ch ⟨st, z, bs, sp, nx⟩ ⟨k, dz, db, ys⟩ = aftJ ⟨gc, gs, gn, gl, gk⟩ ch ⟨st, z, bs, sp, nx⟩ ⟨k, dz, db, ys⟩ by unfold aftA; rw [if_pos hm, hj, hc]; rfl]
    have hln := @aft_len ⟨gc, gs, gn, gl, gk⟩ ch ⟨st, z, bs, sp, nx⟩ ⟨k, dz, db, ys⟩
    obtain ⟨q, hq⟩ : ∃ q, aftJ ⟨gc, gs, gn, gl, gk⟩ ch ⟨st, z, bs, sp, nx⟩ ⟨k, dz, db, ys⟩ = q := ⟨_, rfl⟩
    rw [hq] at HN hln
    rw [hq]
    have hln2 : q.1.bs.length ≤ 1000000 := by
      dsimp only at hln
      rw [hi.len, hy.len] at hln
      omega
    obtain ⟨yb, hyb⟩ : ∃ y, (lay ⟨gc, gs, gn, gl, gk⟩).b = y := ⟨_, rfl⟩
    obtain ⟨yd, hyd⟩ : ∃ y, (lay ⟨gc, gs, gn, gl, gk⟩).d = y := ⟨_, rfl⟩
    rw [hyb, hyd] at HW HN
    clear hb hi hy hz hp hdz hm hj hc hc2 hq hyb hyd hl hl2 hln
    go_enter Try.func38, Try.ntmps38
    go_wp2_with (first | ((with_reducible refine ld_geom rfl (.tmp 4) rfl w.heap.size ?_ P0.out ?_); · rfl) | ((with_reducible refine ldJ rfl (.tmp 6) rfl (w.heap.size + 1) ?_ P1.out ?_); · rfl))
    refine (HW.out _ HI.out).mono ?_
    rintro r w1 ⟨rfl, f1⟩
    have HF := hid ((HF.out.trans f1).alloc (oW gc gs gn gl gk yb yd ch))
    have P1 := hid ((P1.out.fr f1).up (oW gc gs gn gl gk yb yd ch))
    have P2 := hid ((P2.out.fr f1).up (oW gc gs gn gl gk yb yd ch))
    have P3 := hid ((P3.out.fr f1).up (oW gc gs gn gl gk yb yd ch))
    have HI := hid (HI.out.fr (f1.alloc (oW gc gs gn gl gk yb yd ch)))
    have HY := hid (HY.out.fr (f1.alloc (oW gc gs gn gl gk yb yd ch)))
    clear f1 HW P0
    go_wp2_with (first | ((with_reducible refine ldJ rfl (.tmp 6) rfl (w.heap.size + 1) ?_ P1.out ?_); · rfl) | ((with_reducible refine ldD rfl (.tmp 7) rfl (w.heap.size + 1 + 1) ?_ P2.out ?_); · rfl))
    refine (HN.out _ HI.out HY.out).mono ?_
    rintro r w2 ⟨st', z', B', m', d', sp', nx', er, rfl, hqe, hi2, f2⟩
    have HI2 := hid ((hi2.fr f2).fr (fr1 w2 (oJ st' z' B' m' d' sp' nx')))
    have HF := hid ((HF.out.trans f2).alloc (oJ st' z' B' m' d' sp' nx'))
    have HLT := hid ((P3.out.fr f2 : Blk _ _ _ _).lt)
    have P3 := hid ((P3.out.fr f2).up (oJ st' z' B' m' d' sp' nx'))
    have P4 := hid (BJ.at_ (w := w2) st' z' B' m' d' sp' nx' rfl)
    have HQ := hid hqe
    have hml : m' ≤ 100000000 := by have := hi2.len; omega
    clear f2 HN hqe hi2 HI HY P1 P2
    go_wp2_with fail
    refine (clone1_ok B' m' d' q.1.bs _ hml HI2.out.rd).mono ?_
    rintro r w3 ⟨C', c', rfl, ho, f3⟩
    have ho2 : w3.ownsRow (w2.heap.size + 1) 3 1 (.slice C' m' c') m' (q.1.bs.map en) := by
      have h := ho
      unfold OutI at h
      rw [HI2.out.len] at h
      simpa using h
    have HO := hid (show InI w3 C' m' c' q.1.bs from ⟨OutI.rd (HI2.out.len).symm ho, (own_lim ho2).1, (own_lim ho2).2⟩)
    have HNB := hid (fun g o (h : C' = some ⟨g, o, none⟩) => (own_ge ho2 g (by rw [h]; rfl)).1)
    have HF := kf f3 HF
    have P3 := hid (P3.out.fr f3)
    have P4 := hid (P4.out.fr f3)
    have z2 := P4.out.frozens.2.2.1
    obtain ⟨c0, c1, c2, c3, c4⟩ := P4.out.cells
    have P4 := hid (show BJ (w3.setCell ⟨w2.heap.size, 2, none⟩ (.slice C' m' c')) w2.heap.size st' z' C' m' c' sp' nx' from Blk.set_ P4.out 2 _)
    have hne : w.heap.size + 1 + 1 + 1 ≠ w2.heap.size := by have := HLT.out; omega
    have hle : w.heap.size ≤ w2.heap.size := by have := HLT.out; omega
    have P3 := hid (bj_fars (i := 2) (u := .slice C' m' c') P3.out hne)
    have HF := kf1 (p := ⟨w2.heap.size, 2, none⟩) (a := .slice C' m' c') hle HF
    have HO := hid (show InI (w3.setCell ⟨w2.heap.size, 2, none⟩ (.slice C' m' c')) C' m' c' q.1.bs from ⟨HO.out.rd.frS (Fr.set1 w3 w2.heap.size 2 _) (fun g o h e => by have := HNB.out g o h; omega), HO.out.lc, HO.out.cm⟩)
    have hs3 : w.heap.size ≤ w.heap.size + 1 + 1 + 1 := by omega
    clear f3 ho ho2 c0 c1 c3 c4 hml
    go_wp2_with (first | ((with_reducible refine ldJ rfl (.tmp 12) rfl w2.heap.size ?_ P4.out ?_); · rfl) | ((with_reducible refine stJ rfl (.tmp 8) (.tmp 35) rfl (w.heap.size + 1 + 1 + 1) ?_ (st' := st') (z' := z') (A' := C') (l' := m') (c' := c') (sp' := sp') (nx' := nx') ?_ P3.out ?_); (· rfl); (· rfl); intro W' hb hf; have HB := hid hb; have HO2 := hid (show InI W' C' m' c' q.1.bs from ⟨HO.out.rd.frS hf (fun g o h e => by have := HNB.out g o h; have := HLT.out; omega), HO.out.lc, HO.out.cm⟩); have HF := kfg hs3 HF hf; clear hb hf))
    exact bodyPost_ret (v := .tuple #[.agg #[.int .i64 st', .int .i64 z', .slice C' m' c', .int .i64 sp', .int .i64 nx'], .int .i64 er]) (resJ2 rfl _ _ (w.heap.size + 1 + 1 + 1) st' z' C' m' c' sp' nx' er rfl rfl HB.out) rfl (RetF.mk HQ.out HO2.out (fun g o h => by have := HNB.out g o h; have := HLT.out; omega) HF.out)
theorem pAfter_fresh (gc gs gn gl gk : Int) (ch : Int) (st z : Int) (A : Option Addr) (l c : Nat) (sp nx : Int) (bs : List Int) (k dz db : Int) (B : Option Addr) (m e : Nat) (ys : List Int) (qs qz : Int) (qb : List Int) (qp qn qe : Int) (w : World) (hs : -9223372036854775808 ≤ gs ∧ gs ≤ 9223372036854775807) (hz : inI z) (hp : inI sp) (hdz : inI dz) (hq : aftA ⟨gc, gs, gn, gl, gk⟩ ch ⟨st, z, bs, sp, nx⟩ ⟨k, dz, db, ys⟩ = (⟨qs, qz, qb, qp, qn⟩, qe)) (hi : InI w A l c bs) (hy : InI w B m e ys) (hl : l ≤ 1000000) (hl2 : m ≤ 1000000) :
    Calls Try.prog 38 #[.agg #[.int .i64 gc, .int .i64 gs, .int .i64 gn, .int .i64 gl, .int .i64 gk], .int .i64 ch, .agg #[.int .i64 st, .int .i64 z, .slice A l c, .int .i64 sp, .int .i64 nx], .agg #[.int .i64 k, .int .i64 dz, .int .i64 db, .slice B m e]] w fun r w' => ∃ A' l' c', r = .returned (.tuple #[.agg #[.int .i64 qs, .int .i64 qz, .slice A' l' c', .int .i64 qp, .int .i64 qn], .int .i64 qe]) ∧ InI w' A' l' c' qb ∧ (∀ g o, A' = some ⟨g, o, none⟩ → w.heap.size ≤ g) ∧ Fr No w w' := by
  have h := pAfter_new gc gs gn gl gk ch st z A l c sp nx bs k dz db B m e ys w hs hz hp hdz hi hy hl hl2
  rw [hq] at h
  refine h.mono fun r w' h => ?_
  obtain ⟨st', z', A', l', c', sp', nx', er', h1, h2, h3, h4, h5⟩ := h
  refine ⟨A', l', c', ?_, h3, h4, h5⟩
  rw [h1]
  have e1 := congrArg (fun (q : Jb × Int) => q.1.st) h2
  have e2 := congrArg (fun (q : Jb × Int) => q.1.z) h2
  have e3 := congrArg (fun (q : Jb × Int) => q.1.sp) h2
  have e4 := congrArg (fun (q : Jb × Int) => q.1.nx) h2
  have e5 := congrArg (fun (q : Jb × Int) => q.2) h2
  dsimp only at e1 e2 e3 e4 e5
  rw [e1, e2, e3, e4, e5]
end Go.Proofs.Ytgjcpepfggkieaa.ClO
