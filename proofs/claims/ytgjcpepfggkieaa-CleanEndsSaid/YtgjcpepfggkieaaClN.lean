/- Contracts: what a job wants and what becomes of it, by the program. Condition: lists that read as lists; numbers of 64 bits. -/
import Derived.Test.YtgjcpepfggkieaaClL
namespace Go.Proofs.Ytgjcpepfggkieaa.ClN
open Go.RowKit MSep MGeM GeA GeC GeD PlA PlB ClM ClA ClE ClB ClC ClD ClG ClH ClI ClJ ClK ClL

def z5 : T5 := (0, 0, 0, 0, 0)
/-- What Wants answers; what After answers. -/
def wanA (g : Ge) (ch : Int) (j : Jb) : T5 × Int := if mayG g then (if (mayB g j && chB ch) = true then (wantJ (lay g).d ch j, 0) else (z5, 1)) else (z5, 70)
def aftA (g : Ge) (ch : Int) (j : Jb) (v : Dd) : Jb × Int := if mayG g then (if (mayB g j && chB ch) = true then aftJ g ch j v else (zero, 1)) else (zero, 70)
theorem ch_of {ch : Int} (h : chB ch = true) : 1 ≤ ch ∧ ch ≤ 1000000 := by
  unfold chB at h
  simp only [Bool.and_eq_true, decide_eq_true_eq] at h
  omega
/-- An error of the way: its number. -/
def badW (g : Ge) (ch : Int) (j : Jb) : Option Int := if mayG g then (if (mayB g j && chB ch) = true then none else some 1) else some 70
theorem way_err (gc gs gn gl gk : Int) (ch : Int) (st z : Int) (A : Option Addr) (l c : Nat) (sp nx : Int) (bs : List Int) (w : World) (hs : -9223372036854775808 ≤ gs ∧ gs ≤ 9223372036854775807) (hz : inI z) (hp : inI sp) (hi : InI w A l c bs) (e : Int) (hb : badW ⟨gc, gs, gn, gl, gk⟩ ch ⟨st, z, bs, sp, nx⟩ = some e) :
    Calls Try.prog 65 #[.agg #[.int .i64 gc, .int .i64 gs, .int .i64 gn, .int .i64 gl, .int .i64 gk], .int .i64 ch, .agg #[.int .i64 st, .int .i64 z, .slice A l c, .int .i64 sp, .int .i64 nx]] w fun r w' => r = .returned (.tuple #[.agg #[.int .i64 0, .int .i64 0, .int .i64 0, .int .i64 0, .int .i64 0, .int .i64 0, .int .i64 0, .int .i64 0], .int .i64 e]) ∧ Fr No w w' := by
  unfold badW at hb
  by_cases hm : mayG ⟨gc, gs, gn, gl, gk⟩
  · rw [if_pos hm] at hb
    cases hq : (mayB ⟨gc, gs, gn, gl, gk⟩ ⟨st, z, bs, sp, nx⟩ && chB ch) with
    | true => rw [hq] at hb; cases hb
    | false =>
      rw [hq] at hb
      obtain rfl : 1 = e := by simpa using hb
      exact way_bad gc gs gn gl gk ch st z A l c sp nx bs w hs hm hz hp hi hq
  · rw [if_neg hm] at hb
    obtain rfl : 70 = e := by simpa using hb
    exact way_geom gc gs gn gl gk ch st z A l c sp nx bs w hs hm hi
theorem way_yes (gc gs gn gl gk : Int) (ch : Int) (st z : Int) (A : Option Addr) (l c : Nat) (sp nx : Int) (bs : List Int) (w : World) (hs : -9223372036854775808 ≤ gs ∧ gs ≤ 9223372036854775807) (hz : inI z) (hp : inI sp) (hi : InI w A l c bs) (hb : badW ⟨gc, gs, gn, gl, gk⟩ ch ⟨st, z, bs, sp, nx⟩ = none) :
    mayG ⟨gc, gs, gn, gl, gk⟩ ∧ mayB ⟨gc, gs, gn, gl, gk⟩ ⟨st, z, bs, sp, nx⟩ = true ∧ chB ch = true ∧ Calls Try.prog 65 #[.agg #[.int .i64 gc, .int .i64 gs, .int .i64 gn, .int .i64 gl, .int .i64 gk], .int .i64 ch, .agg #[.int .i64 st, .int .i64 z, .slice A l c, .int .i64 sp, .int .i64 nx]] w fun r w' => r = .returned (.tuple #[.agg #[.int .i64 gc, .int .i64 gs, .int .i64 gn, .int .i64 gl, .int .i64 gk, .int .i64 (lay ⟨gc, gs, gn, gl, gk⟩).b, .int .i64 (lay ⟨gc, gs, gn, gl, gk⟩).d, .int .i64 ch], .int .i64 0]) ∧ Fr No w w' := by
  unfold badW at hb
  by_cases hm : mayG ⟨gc, gs, gn, gl, gk⟩
  · rw [if_pos hm] at hb
    cases hq : (mayB ⟨gc, gs, gn, gl, gk⟩ ⟨st, z, bs, sp, nx⟩ && chB ch) with
    | false => rw [hq] at hb; cases hb
    | true =>
      obtain ⟨h1, h2⟩ := Bool.and_eq_true_iff.1 hq
      exact ⟨hm, h1, h2, way_ok gc gs gn gl gk ch st z A l c sp nx bs w hs hm hz hp hi h1 h2⟩
  · rw [if_neg hm] at hb; cases hb
theorem wanA_no {g : Ge} {ch : Int} {j : Jb} {e : Int} (h : badW g ch j = some e) : wanA g ch j = (z5, e) := by
  unfold badW at h
  unfold wanA
  split
  · rename_i hm; rw [if_pos hm] at h
    split
    · rename_i hq; rw [if_pos hq] at h; cases h
    · rename_i hq; rw [if_neg hq] at h; injection h with h; rw [h]
  · rename_i hm; rw [if_neg hm] at h; injection h with h; rw [h]
theorem aftA_no {g : Ge} {ch : Int} {j : Jb} {v : Dd} {e : Int} (h : badW g ch j = some e) : aftA g ch j v = (zero, e) := by
  unfold badW at h
  unfold aftA
  split
  · rename_i hm; rw [if_pos hm] at h
    split
    · rename_i hq; rw [if_pos hq] at h; cases h
    · rename_i hq; rw [if_neg hq] at h; injection h with h; rw [h]
  · rename_i hm; rw [if_neg hm] at h; injection h with h; rw [h]
theorem bad_ne {g : Ge} {ch : Int} {j : Jb} {e : Int} (h : badW g ch j = some e) : e = 1 ∨ e = 70 := by
  unfold badW at h
  split at h
  · split at h
    · cases h
    · injection h with h; exact .inl h.symm
  · injection h with h; exact .inr h.symm
set_option maxRecDepth 100000 in
set_option maxHeartbeats 2000000 in
theorem pWants_ok (gc gs gn gl gk : Int) (ch : Int) (st z : Int) (A : Option Addr) (l c : Nat) (sp nx : Int) (bs : List Int) (w : World) (hs : -9223372036854775808 ≤ gs ∧ gs ≤ 9223372036854775807) (hz : inI z) (hp : inI sp) (hi : InI w A l c bs) :
    Calls Try.prog 32 #[.agg #[.int .i64 gc, .int .i64 gs, .int .i64 gn, .int .i64 gl, .int .i64 gk], .int .i64 ch, .agg #[.int .i64 st, .int .i64 z, .slice A l c, .int .i64 sp, .int .i64 nx]] w fun r w' => r = .returned (.tuple #[tv (wanA ⟨gc, gs, gn, gl, gk⟩ ch ⟨st, z, bs, sp, nx⟩).1, .int .i64 (wanA ⟨gc, gs, gn, gl, gk⟩ ch ⟨st, z, bs, sp, nx⟩).2]) ∧ Fr No w w' := by
  have P0 := hid (BG3 w gc gs gn gl gk (oJ st z A l c sp nx) (oT 0 0 0 0 0))
  have P1 := hid ((BJ.at_ (w := w.alloc (bg gc gs gn gl gk)) (g := w.heap.size + 1) st z A l c sp nx (by simp)).up (oT 0 0 0 0 0))
  have P2 := hid (BT.at_ (w := (w.alloc (bg gc gs gn gl gk)).alloc (oJ st z A l c sp nx)) (g := w.heap.size + 1 + 1) 0 0 0 0 0 (by simp))
  have HF := hid (((fr1 w (bg gc gs gn gl gk)).alloc (oJ st z A l c sp nx)).alloc (oT 0 0 0 0 0))
  have HI := hid (hi.fr HF.out)
  cases hb : badW ⟨gc, gs, gn, gl, gk⟩ ch ⟨st, z, bs, sp, nx⟩ with
  | some e =>
    rw [wanA_no hb]
    dsimp only [z5, tv]
    have HW := hid (fun W (h : InI W A l c bs) => way_err gc gs gn gl gk ch st z A l c sp nx bs W hs hz hp h e hb)
    have he : (e != 0) = true := by rcases bad_ne hb with h | h <;> rw [h] <;> rfl
    have he2 : (e == 0) = false := by rcases bad_ne hb with h | h <;> rw [h] <;> rfl
    clear hb hi hz hp
    go_enter Try.func32, Try.ntmps32
    go_wp2_with (first | ((with_reducible refine ld_geom rfl (.tmp 3) rfl w.heap.size ?_ P0.out ?_); · rfl) | ((with_reducible refine ldJ rfl (.tmp 5) rfl (w.heap.size + 1) ?_ P1.out ?_); · rfl))
    refine (HW.out _ HI.out).mono ?_
    rintro r w1 ⟨rfl, f1⟩
    have HF := hid ((HF.out.trans f1).alloc (oW 0 0 0 0 0 0 0 0))
    have P2 := hid ((P2.out.fr f1).up (oW 0 0 0 0 0 0 0 0))
    clear f1 HW P0 P1
    go_wp2_with (((with_reducible refine stT rfl (.tmp 6) (.tmp 19) rfl (w.heap.size + 1 + 1) ?_ (k' := 0) (b' := 0) (z' := 0) (a' := 0) (n' := 0) ?_ P2.out ?_); (· rfl); (· rfl); intro W' hb hf; have HB := hid hb; have HF := kfg (by omega) HF hf; clear hb hf))
    exact bodyPost_ret (v := .tuple #[.agg #[.int .i64 0, .int .i64 0, .int .i64 0, .int .i64 0, .int .i64 0], .int .i64 e]) (resT2 rfl _ _ (w.heap.size + 1 + 1) 0 0 0 0 0 e rfl rfl HB.out) rfl ⟨rfl, HF.out⟩
  | none =>
    obtain ⟨hm, hj, hc, _⟩ := way_yes gc gs gn gl gk ch st z A l c sp nx bs w hs hz hp hi hb
    have HW := hid (fun W (h : InI W A l c bs) => (way_yes gc gs gn gl gk ch st z A l c sp nx bs W hs hz hp h hb).2.2.2)
    have hc2 := ch_of hc
    have hg := good hm.1
    have HN := hid (fun W (h : InI W A l c bs) => wants_ok gc gs gn gl gk (lay ⟨gc, gs, gn, gl, gk⟩).b (lay ⟨gc, gs, gn, gl, gk⟩).d ch st z A l c sp nx bs W h (ok_of_may hj) ⟨by have := hg.d1; omega, by have := hg.d2; omega⟩ ⟨by omega, by omega⟩)
    rw [show wanA ⟨gc, gs, gn, gl, gk⟩ ch ⟨st, z, bs, sp, nx⟩ = (wantJ (lay ⟨gc, gs, gn, gl, gk⟩).d ch ⟨st, z, bs, sp, nx⟩, 0) by unfold wanA; rw [if_pos hm, hj, hc]; rfl]
    obtain ⟨q, hq⟩ : ∃ q, wantJ (lay ⟨gc, gs, gn, gl, gk⟩).d ch ⟨st, z, bs, sp, nx⟩ = q := ⟨_, rfl⟩
    rw [hq] at HN
    rw [hq]
    obtain ⟨q1, q2, q3, q4, q5⟩ := q
    dsimp only [tv] at HN ⊢
    obtain ⟨yb, hyb⟩ : ∃ y, (lay ⟨gc, gs, gn, gl, gk⟩).b = y := ⟨_, rfl⟩
    obtain ⟨yd, hyd⟩ : ∃ y, (lay ⟨gc, gs, gn, gl, gk⟩).d = y := ⟨_, rfl⟩
    rw [hyb, hyd] at HW HN
    clear hb hi hz hp hm hj hc hc2 hg hq hyb hyd
    go_enter Try.func32, Try.ntmps32
    go_wp2_with (first | ((with_reducible refine ld_geom rfl (.tmp 3) rfl w.heap.size ?_ P0.out ?_); · rfl) | ((with_reducible refine ldJ rfl (.tmp 5) rfl (w.heap.size + 1) ?_ P1.out ?_); · rfl))
    refine (HW.out _ HI.out).mono ?_
    rintro r w1 ⟨rfl, f1⟩
    have HF := hid ((HF.out.trans f1).alloc (oW gc gs gn gl gk yb yd ch))
    have P1 := hid ((P1.out.fr f1).up (oW gc gs gn gl gk yb yd ch))
    have P2 := hid ((P2.out.fr f1).up (oW gc gs gn gl gk yb yd ch))
    have HI := hid (HI.out.fr (f1.alloc (oW gc gs gn gl gk yb yd ch)))
    clear f1 HW P0
    go_wp2_with (((with_reducible refine ldJ rfl (.tmp 5) rfl (w.heap.size + 1) ?_ P1.out ?_); · rfl))
    refine (HN.out _ HI.out).mono ?_
    rintro r w2 ⟨rfl, f2⟩
    have HF := kf f2 HF
    have P2 := hid (P2.out.fr f2)
    clear f2 HN
    go_wp2_with (((with_reducible refine stT rfl (.tmp 6) (.tmp 23) rfl (w.heap.size + 1 + 1) ?_ (k' := q1) (b' := q2) (z' := q3) (a' := q4) (n' := q5) ?_ P2.out ?_); (· rfl); (· rfl); intro W' hb hf; have HB := hid hb; have HF := kfg (by omega) HF hf; clear hb hf))
    exact bodyPost_ret (v := .tuple #[.agg #[.int .i64 q1, .int .i64 q2, .int .i64 q3, .int .i64 q4, .int .i64 q5], .int .i64 0]) (resT2 rfl _ _ (w.heap.size + 1 + 1) q1 q2 q3 q4 q5 0 rfl rfl HB.out) rfl ⟨rfl, HF.out⟩
/-- What After answers: a job, whose list is new, and the number of an error. -/
def RetA (w : World) (p : Jb × Int) (e : Ending) (w' : World) : Prop :=
  ∃ st z A l c sp nx er, e = .returned (.tuple #[.agg #[.int .i64 st, .int .i64 z, .slice A l c, .int .i64 sp, .int .i64 nx], .int .i64 er]) ∧ p = (⟨st, z, p.1.bs, sp, nx⟩, er) ∧ InI w' A l c p.1.bs ∧ Fr No w w'
theorem RetA.mk {w w' : World} {st z : Int} {A : Option Addr} {l c : Nat} {sp nx er : Int} {p : Jb × Int} (hj : p = (⟨st, z, p.1.bs, sp, nx⟩, er)) (hi : InI w' A l c p.1.bs) (f : Fr No w w') : RetA w p (.returned (.tuple #[.agg #[.int .i64 st, .int .i64 z, .slice A l c, .int .i64 sp, .int .i64 nx], .int .i64 er])) w' :=
  ⟨st, z, A, l, c, sp, nx, er, rfl, hj, hi, f⟩
theorem touch_len {j : Jb} {x : Int} : (touchJ j x).bs.length ≤ j.bs.length := by
  unfold touchJ
  split
  · rw [next_nil]; exact Nat.le_refl _
  · exact Nat.le_refl _
theorem turn_len {d ch k : Int} {j : Jb} {v : Dd} : (turnJ d ch k j v).bs.length ≤ max j.bs.length v.bs.length := by
  unfold turnJ
  split
  · rw [next_nil]; omega
  split
  · dsimp only; omega
  split
  · dsimp only; omega
  split
  · dsimp only; omega
  split
  · rw [next_nil, List.length_tail]; omega
  · simp [idle]
theorem aft_len {g : Ge} {ch : Int} {j : Jb} {v : Dd} : (aftJ g ch j v).1.bs.length ≤ max j.bs.length v.bs.length := by
  have ht := @turn_len (lay g).d ch v.k j v
  have h2 := @touch_len j v.b
  unfold aftJ
  split
  · simp [idle]
  split
  · split
    · dsimp only; omega
    · simp [zero]
  split
  · split
    · dsimp only; omega
    · simp [zero]
  · simp [zero]
set_option maxRecDepth 100000 in
set_option maxHeartbeats 2000000 in
theorem pAfter_ok (gc gs gn gl gk : Int) (ch : Int) (st z : Int) (A : Option Addr) (l c : Nat) (sp nx : Int) (bs : List Int) (k dz db : Int) (B : Option Addr) (m e : Nat) (ys : List Int) (w : World) (hs : -9223372036854775808 ≤ gs ∧ gs ≤ 9223372036854775807) (hz : inI z) (hp : inI sp) (hdz : inI dz) (hi : InI w A l c bs) (hy : InI w B m e ys) (hl : l ≤ 1000000) (hl2 : m ≤ 1000000) :
    Calls Try.prog 38 #[.agg #[.int .i64 gc, .int .i64 gs, .int .i64 gn, .int .i64 gl, .int .i64 gk], .int .i64 ch, .agg #[.int .i64 st, .int .i64 z, .slice A l c, .int .i64 sp, .int .i64 nx], .agg #[.int .i64 k, .int .i64 dz, .int .i64 db, .slice B m e]] w fun r w' => RetA w (aftA ⟨gc, gs, gn, gl, gk⟩ ch ⟨st, z, bs, sp, nx⟩ ⟨k, dz, db, ys⟩) r w' := by
  have P0 := hid (show BG ((((w.alloc (bg gc gs gn gl gk)).alloc (oJ st z A l c sp nx)).alloc (oD k dz db B m e)).alloc (oJ 0 0 none 0 0 0 0)) w.heap.size gc gs gn gl gk from (BG3 w gc gs gn gl gk (oJ st z A l c sp nx) (oD k dz db B m e) : Blk _ _ _ _).alloc _)
  have P1 := hid (((BJ.at_ (w := w.alloc (bg gc gs gn gl gk)) (g := w.heap.size + 1) st z A l c sp nx (by simp)).up (oD k dz db B m e)).up (oJ 0 0 none 0 0 0 0))
  have P2 := hid ((BD.at_ (w := (w.alloc (bg gc gs gn gl gk)).alloc (oJ st z A l c sp nx)) (g := w.heap.size + 1 + 1) k dz db B m e (by simp)).up (oJ 0 0 none 0 0 0 0))
  have P3 := hid (BJ.at_ (w := ((w.alloc (bg gc gs gn gl gk)).alloc (oJ st z A l c sp nx)).alloc (oD k dz db B m e)) (g := w.heap.size + 1 + 1 + 1) 0 0 none 0 0 0 0 (by simp))
  have HF := hid ((((fr1 w (bg gc gs gn gl gk)).alloc (oJ st z A l c sp nx)).alloc (oD k dz db B m e)).alloc (oJ 0 0 none 0 0 0 0))
  have HI := hid (hi.fr HF.out)
  have HY := hid (hy.fr HF.out)
  cases hb : badW ⟨gc, gs, gn, gl, gk⟩ ch ⟨st, z, bs, sp, nx⟩ with
  | some er =>
    rw [aftA_no hb]
    have HW := hid (fun W (h : InI W A l c bs) => way_err gc gs gn gl gk ch st z A l c sp nx bs W hs hz hp h er hb)
    have he : (er != 0) = true := by rcases bad_ne hb with h | h <;> rw [h] <;> rfl
    have he2 : (er == 0) = false := by rcases bad_ne hb with h | h <;> rw [h] <;> rfl
    clear hb hi hy hz hp hdz hl hl2
    go_enter Try.func38, Try.ntmps38
    go_wp2_with (first | ((with_reducible refine ld_geom rfl (.tmp 4) rfl w.heap.size ?_ P0.out ?_); · rfl) | ((with_reducible refine ldJ rfl (.tmp 6) rfl (w.heap.size + 1) ?_ P1.out ?_); · rfl))
    refine (HW.out _ HI.out).mono ?_
    rintro r w1 ⟨rfl, f1⟩
    have HF := hid ((HF.out.trans f1).alloc (oW 0 0 0 0 0 0 0 0))
    have P3 := hid ((P3.out.fr f1).up (oW 0 0 0 0 0 0 0 0))
    clear f1 HW P0 P1 P2
    go_wp2_with (((with_reducible refine stJ rfl (.tmp 8) (.tmp 22) rfl (w.heap.size + 1 + 1 + 1) ?_ (st' := 0) (z' := 0) (A' := none) (l' := 0) (c' := 0) (sp' := 0) (nx' := 0) ?_ P3.out ?_); (· rfl); (· rfl); intro W' hb hf; have HB := hid hb; have HF := kfg (by omega) HF hf; clear hb hf))
    exact bodyPost_ret (v := .tuple #[.agg #[.int .i64 0, .int .i64 0, .slice none 0 0, .int .i64 0, .int .i64 0], .int .i64 er]) (resJ2 rfl _ _ (w.heap.size + 1 + 1 + 1) 0 0 none 0 0 0 0 er rfl rfl HB.out) rfl (RetA.mk (p := (zero, er)) rfl (InI.nil _) HF.out)
  | none =>
    obtain ⟨hm, hj, hc, _⟩ := way_yes gc gs gn gl gk ch st z A l c sp nx bs w hs hz hp hi hb
    have HW := hid (fun W (h : InI W A l c bs) => (way_yes gc gs gn gl gk ch st z A l c sp nx bs W hs hz hp h hb).2.2.2)
    have hc2 := ch_of hc
    have HN := hid (fun W (h : InI W A l c bs) (h2 : InI W B m e ys) => becomes_ok gc gs gn gl gk (lay ⟨gc, gs, gn, gl, gk⟩).b (lay ⟨gc, gs, gn, gl, gk⟩).d ch st z A l c sp nx bs k dz db B m e ys W hs hm ⟨rfl, rfl⟩ hz hp hdz h h2 hj hc2)
    rw [show aftA ⟨gc, gs, gn, gl, gk⟩ ch ⟨st, z, bs, sp, nx⟩ ⟨k, dz, db, ys⟩ = aftJ ⟨gc, gs, gn, gl, gk⟩ ch ⟨st, z, bs, sp, nx⟩ ⟨k, dz, db, ys⟩ by unfold aftA; rw [if_pos hm, hj, hc]; rfl]
    have hln := @aft_len ⟨gc, gs, gn, gl, gk⟩ ch ⟨st, z, bs, sp, nx⟩ ⟨k, dz, db, ys⟩
    obtain ⟨q, hq⟩ : ∃ q, aftJ ⟨gc, gs, gn, gl, gk⟩ ch ⟨st, z, bs, sp, nx⟩ ⟨k, dz, db, ys⟩ = q := ⟨_, rfl⟩
    rw [hq] at HN hln
    rw [hq]
    have hln2 : q.1.bs.length ≤ 1000000 := by
      dsimp only at hln
      rw [hi.len, hy.len] at hln
      omega
    obtain ⟨yb, hyb⟩ : ∃ y, (lay ⟨gc, gs, gn, gl, gk⟩).b = y := ⟨_, rfl⟩
    obtain ⟨yd, hyd⟩ : ∃ y, (lay ⟨gc, gs, gn, gl, gk⟩).d = y := ⟨_, rfl⟩
    rw [hyb, hyd] at HW HN
    clear hb hi hy hz hp hdz hm hj hc hc2 hq hyb hyd hl hl2 hln
    go_enter Try.func38, Try.ntmps38
    go_wp2_with (first | ((with_reducible refine ld_geom rfl (.tmp 4) rfl w.heap.size ?_ P0.out ?_); · rfl) | ((with_reducible refine ldJ rfl (.tmp 6) rfl (w.heap.size + 1) ?_ P1.out ?_); · rfl))
    refine (HW.out _ HI.out).mono ?_
    rintro r w1 ⟨rfl, f1⟩
    have HF := hid ((HF.out.trans f1).alloc (oW gc gs gn gl gk yb yd ch))
    have P1 := hid ((P1.out.fr f1).up (oW gc gs gn gl gk yb yd ch))
    have P2 := hid ((P2.out.fr f1).up (oW gc gs gn gl gk yb yd ch))
    have P3 := hid ((P3.out.fr f1).up (oW gc gs gn gl gk yb yd ch))
    have HI := hid (HI.out.fr (f1.alloc (oW gc gs gn gl gk yb yd ch)))
    have HY := hid (HY.out.fr (f1.alloc (oW gc gs gn gl gk yb yd ch)))
    clear f1 HW P0
    go_wp2_with (first | ((with_reducible refine ldJ rfl (.tmp 6) rfl (w.heap.size + 1) ?_ P1.out ?_); · rfl) | ((with_reducible refine ldD rfl (.tmp 7) rfl (w.heap.size + 1 + 1) ?_ P2.out ?_); · rfl))
    refine (HN.out _ HI.out HY.out).mono ?_
    rintro r w2 ⟨st', z', B', m', d', sp', nx', er, rfl, hqe, hi2, f2⟩
    have HI2 := hid ((hi2.fr f2).fr (fr1 w2 (oJ st' z' B' m' d' sp' nx')))
    have HF := hid ((HF.out.trans f2).alloc (oJ st' z' B' m' d' sp' nx'))
    have HLT := hid ((P3.out.fr f2 : Blk _ _ _ _).lt)
    have P3 := hid ((P3.out.fr f2).up (oJ st' z' B' m' d' sp' nx'))
    have P4 := hid (BJ.at_ (w := w2) st' z' B' m' d' sp' nx' rfl)
    have HQ := hid hqe
    have hml : m' ≤ 100000000 := by have := hi2.len; omega
    clear f2 HN hqe hi2 HI HY P1 P2
    go_wp2_with fail
    refine (clone1_ok B' m' d' q.1.bs _ hml HI2.out.rd).mono ?_
    rintro r w3 ⟨C', c', rfl, ho, f3⟩
    have ho2 : w3.ownsRow (w2.heap.size + 1) 3 1 (.slice C' m' c') m' (q.1.bs.map en) := by
      have h := ho
      unfold OutI at h
      rw [HI2.out.len] at h
      simpa using h
    have HO := hid (show InI w3 C' m' c' q.1.bs from ⟨OutI.rd (HI2.out.len).symm ho, (own_lim ho2).1, (own_lim ho2).2⟩)
    have HNB := hid (fun g o (h : C' = some ⟨g, o, none⟩) => (own_ge ho2 g (by rw [h]; rfl)).1)
    have HF := kf f3 HF
    have P3 := hid (P3.out.fr f3)
    have P4 := hid (P4.out.fr f3)
    have z2 := P4.out.frozens.2.2.1
    obtain ⟨c0, c1, c2, c3, c4⟩ := P4.out.cells
    have P4 := hid (show BJ (w3.setCell ⟨w2.heap.size, 2, none⟩ (.slice C' m' c')) w2.heap.size st' z' C' m' c' sp' nx' from Blk.set_ P4.out 2 _)
    have hne : w.heap.size + 1 + 1 + 1 ≠ w2.heap.size := by have := HLT.out; omega
    have hle : w.heap.size ≤ w2.heap.size := by have := HLT.out; omega
    have P3 := hid (bj_fars (i := 2) (u := .slice C' m' c') P3.out hne)
    have HF := kf1 (p := ⟨w2.heap.size, 2, none⟩) (a := .slice C' m' c') hle HF
    have HO := hid (show InI (w3.setCell ⟨w2.heap.size, 2, none⟩ (.slice C' m' c')) C' m' c' q.1.bs from ⟨HO.out.rd.frS (Fr.set1 w3 w2.heap.size 2 _) (fun g o h e => by have := HNB.out g o h; omega), HO.out.lc, HO.out.cm⟩)
    have hs3 : w.heap.size ≤ w.heap.size + 1 + 1 + 1 := by omega
    clear f3 ho ho2 c0 c1 c3 c4 hml
    go_wp2_with (first | ((with_reducible refine ldJ rfl (.tmp 12) rfl w2.heap.size ?_ P4.out ?_); · rfl) | ((with_reducible refine stJ rfl (.tmp 8) (.tmp 35) rfl (w.heap.size + 1 + 1 + 1) ?_ (st' := st') (z' := z') (A' := C') (l' := m') (c' := c') (sp' := sp') (nx' := nx') ?_ P3.out ?_); (· rfl); (· rfl); intro W' hb hf; have HB := hid hb; have HO2 := hid (show InI W' C' m' c' q.1.bs from ⟨HO.out.rd.frS hf (fun g o h e => by have := HNB.out g o h; have := HLT.out; omega), HO.out.lc, HO.out.cm⟩); have HF := kfg hs3 HF hf; clear hb hf))
    exact bodyPost_ret (v := .tuple #[.agg #[.int .i64 st', .int .i64 z', .slice C' m' c', .int .i64 sp', .int .i64 nx'], .int .i64 er]) (resJ2 rfl _ _ (w.heap.size + 1 + 1 + 1) st' z' C' m' c' sp' nx' er rfl rfl HB.out) rfl (RetA.mk HQ.out HO2.out HF.out)
end Go.Proofs.Ytgjcpepfggkieaa.ClN
