/- Contract: what was done, as a job wanted it; and the words of CleanEnds' walk. Conditions: numbers of 64 bits. -/
import Derived.Test.YtgjcpepfggkieaaClZa
import Derived.Test.YtgjcpepfggkieaaClO
namespace Go.Proofs.Ytgjcpepfggkieaa.ClZb
open Go.RowKit MSep MGeM GeA GeC GeD GeE GeEk PlA PlB ClM ClA ClE ClB ClC ClD ClF ClG ClH ClI ClJ ClK ClL ClN ClO ClP ClQ ClT ClU ClV ClZm

theorem spz2 {k : Int} (s : Int) (h : k = 2) : spz k s = s := if_pos h
theorem spz0 {k : Int} (s : Int) (h : k ≠ 2) : spz k s = 0 := if_neg h
set_option maxRecDepth 100000 in
set_option maxHeartbeats 2000000 in
theorem done_ok (k b z a n spare : Int) (w : World) :
    Calls Try.prog 43 #[.agg #[.int .i64 k, .int .i64 b, .int .i64 z, .int .i64 a, .int .i64 n], .int .i64 spare] w fun r w' => r = .returned (.agg #[.int .i64 k, .int .i64 (spz k spare), .int .i64 0, .slice none 0 0]) ∧ Fr No w w' := by
  by_cases hk : k = 2
  · rw [spz2 spare hk]
    subst hk
    go_enter Try.func43, Try.ntmps43
    go_wp2
    exact bodyPost_ret (v := .agg #[.int .i64 2, .int .i64 spare, .int .i64 0, .slice none 0 0]) (resD rfl _ _ (w.heap.size + 1) 2 spare 0 none 0 0 rfl ((BD.at_ (w := w.alloc (oT 2 b z a n)) (g := w.heap.size + 1) 2 spare 0 none 0 0 (by simp)).up (oD 2 spare 0 none 0 0))) rfl ⟨rfl, ((fr1 _ _).alloc _).alloc _⟩
  · rw [spz0 spare hk]
    go_enter Try.func43, Try.ntmps43
    go_wp2
    exact bodyPost_ret (v := .agg #[.int .i64 k, .int .i64 0, .int .i64 0, .slice none 0 0]) (resD rfl _ _ (w.heap.size + 1) k 0 0 none 0 0 rfl ((BD.at_ (w := w.alloc (oT k b z a n)) (g := w.heap.size + 1) k 0 0 none 0 0 (by simp)).up (oD k 0 0 none 0 0))) rfl ⟨rfl, ((fr1 _ _).alloc _).alloc _⟩
theorem pWants_lit (gc gs gn gl gk : Int) (ch : Int) (st z : Int) (A : Option Addr) (l c : Nat) (sp nx : Int) (bs : List Int) (q1 q2 q3 q4 q5 qe : Int) (w : World) (hs : -9223372036854775808 ≤ gs ∧ gs ≤ 9223372036854775807) (hz : inI z) (hp : inI sp) (hq : wanA ⟨gc, gs, gn, gl, gk⟩ ch ⟨st, z, bs, sp, nx⟩ = ((q1, q2, q3, q4, q5), qe)) (hi : InI w A l c bs) :
    Calls Try.prog 32 #[.agg #[.int .i64 gc, .int .i64 gs, .int .i64 gn, .int .i64 gl, .int .i64 gk], .int .i64 ch, .agg #[.int .i64 st, .int .i64 z, .slice A l c, .int .i64 sp, .int .i64 nx]] w fun r w' => r = .returned (.tuple #[.agg #[.int .i64 q1, .int .i64 q2, .int .i64 q3, .int .i64 q4, .int .i64 q5], .int .i64 qe]) ∧ Fr No w w' := by
  have h := pWants_ok gc gs gn gl gk ch st z A l c sp nx bs w hs hz hp hi
  rw [hq] at h
  exact h
theorem pLeft_lit (gc gs gn gl gk : Int) (ch : Int) (st z : Int) (A : Option Addr) (l c : Nat) (sp nx : Int) (bs : List Int) (w : World) (hs : -9223372036854775808 ≤ gs ∧ gs ≤ 9223372036854775807) (hm : mayG ⟨gc, gs, gn, gl, gk⟩) (hj : mayB ⟨gc, gs, gn, gl, gk⟩ ⟨st, z, bs, sp, nx⟩ = true) (hc : chB ch = true) (hz : inI z) (hp : inI sp) (L : Int) (hL : leftJ (lay ⟨gc, gs, gn, gl, gk⟩).d ch ⟨st, z, bs, sp, nx⟩ = L) (hi : InI w A l c bs) :
    Calls Try.prog 42 #[.agg #[.int .i64 gc, .int .i64 gs, .int .i64 gn, .int .i64 gl, .int .i64 gk], .int .i64 ch, .agg #[.int .i64 st, .int .i64 z, .slice A l c, .int .i64 sp, .int .i64 nx]] w fun r w' => r = .returned (.int .i64 L) ∧ Fr No w w' := by
  have h := pLeft_ok gc gs gn gl gk ch st z A l c sp nx bs w hs hz hp hi
  rw [show lefA ⟨gc, gs, gn, gl, gk⟩ ch ⟨st, z, bs, sp, nx⟩ = L by unfold lefA; rw [if_pos hm, hj, hc, ← hL]; rfl] at h
  exact h
theorem InI.far {w w' : World} {A : Option Addr} {l c : Nat} {xs : List Int} {q : Nat} (h : InI w A l c xs) (f : Fr (fun k => k = q) w w') (hn : ∀ g o, A = some ⟨g, o, none⟩ → g ≠ q) : InI w' A l c xs := ⟨h.rd.frS f hn, h.lc, h.cm⟩
theorem kfS {S : Nat → Prop} {a b c : World} (k : Fr No b c) (h : Hid (Fr S a b)) : Hid (Fr S a c) := hid (h.out.step k (fun _ _ h => h.elim))
theorem kdS {S : Nat → Prop} {a b : World} (h : Hid (Fr S a b)) : Hid (Fr S a b.drew) := hid h.out.drew
theorem kst {a b c : World} {g : Nat} (k : Fr (fun q => q = g) b c) (h : Hid (Fr (fun q => q = g) a b)) : Hid (Fr (fun q => q = g) a c) := hid (h.out.trans k)
theorem yet_nonneg {d : Int} {j : Jb} (hd : 1 ≤ d) (h : okJ d j) : 0 ≤ yetJ d j := by
  obtain ⟨st, z, bs, s, nx⟩ := j
  obtain ⟨h1, h2, h3, h4⟩ := h
  dsimp only at h1 h2 h3 h4
  have len : ∀ {l : List Int}, l ≠ [] → d ≤ (l.length : Int) * d := by
    intro l hl
    have h := List.length_pos_iff.2 hl
    have := Int.mul_le_mul_of_nonneg_right (show (1 : Int) ≤ (l.length : Int) by omega) (show (0 : Int) ≤ d by omega)
    omega
  rcases h1 with rfl | rfl | rfl | rfl | rfl | rfl
  · simp [yetJ]
  · have := len (h2 (by simp)); simp [yetJ]; omega
  · have := len (h2 (by simp)); have := h4 rfl; simp [yetJ]; omega
  · have := len (h2 (by simp)); simp [yetJ]; omega
  · have := len (h2 (by simp)); simp [yetJ]; omega
  · simp [yetJ]
theorem cop_nonneg {d ch : Int} {j : Jb} (hc : 1 ≤ ch) (h : okJ d j) : 0 ≤ cop (wantJ d ch j) := by
  obtain ⟨st, z, bs, s, nx⟩ := j
  obtain ⟨h1, h2, h3, h4⟩ := h
  dsimp only at h1 h2 h3 h4
  rcases h1 with rfl | rfl | rfl | rfl | rfl | rfl <;> simp [cop, wantJ]
  have := h4 rfl
  omega
/-- The picked job, in block M. -/
def PickR (w2 : World) (qs qz qp qn qe : Int) (qb : List Int) (v u : Value) (wx : World) : Prop :=
  ∃ (M : Nat) (A : Option Addr) (l c : Nat), v = .pointer (some ⟨M, 0, none⟩) ∧ u = .int .i64 qe ∧ BJ wx M qs qz A l c qp qn ∧ InI wx A l c qb ∧ w2.heap.size ≤ M ∧ Fr No w2 wx
/-- What holds of a job while it is done. -/
structure JobOk (g : Ge) (ch zone : Int) (p : Int) (n cp : Int) (j : Jb) : Prop where
  may : mayB g j = true
  z : j.z = zone ∨ j.z = 255
  sp : inI j.sp
  n0 : n = leftJ (lay g).d ch j
  cy : cp + yetJ (lay g).d j = p
  c0 : 0 ≤ cp
def EndR (w : World) (M lb : Nat) (gc gs gn gl gk : Int) (ya yr yq yb yd yt yx yu : Int) (ch zone p : Int) (v u : Value) (wr : World) : Prop :=
  ∃ (n cp : Int) (st z : Int) (A : Option Addr) (l c : Nat) (sp nx : Int) (js : List Int), v = .int .i64 n ∧ u = .int .i64 cp ∧ BJ wr M st z A l c sp nx ∧ InI wr A l c js ∧ JobOk ⟨gc, gs, gn, gl, gk⟩ ch zone p n cp ⟨st, z, js, sp, nx⟩ ∧ BL wr lb ya yr yq yb yd yt yx yu ∧ BG wr w.heap.size gc gs gn gl gk ∧ Fr No w wr
/-- One thing more is done. -/
theorem JobOk.turn {g : Ge} {ch zone p n cp spare : Int} {j : Jb} (h : JobOk g ch zone p n cp j) (hb : chB ch = true) (hq : sqB g spare = true) (hn : spare ≠ zone) (h255 : spare ≠ 255) (hzi : inI zone) (hpi : inI spare) (h0 : 0 < n) :
    j.st ≠ 0 ∧ (wantJ (lay g).d ch j).1 ≠ 1 ∧ wanA g ch j = (wantJ (lay g).d ch j, 0) ∧ ∃ tj, aftA g ch j ⟨(wantJ (lay g).d ch j).1, spz (wantJ (lay g).d ch j).1 spare, 0, []⟩ = (tj, 0) ∧ JobOk g ch zone p (n - 1) (cp + cop (wantJ (lay g).d ch j)) tj := by
  have ho := ok_of_may h.may
  have hm : mayG g := by have := h.may; simp only [mayB, Bool.and_eq_true, decide_eq_true_eq] at this; exact this.1
  have hc := (ch_of hb).1
  have hd := (good hm.1).d1
  have hs : j.st ≠ 0 := by
    intro e
    have := h.n0
    simp [leftJ, e] at this
    omega
  have hnz : spare ≠ j.z := by rcases h.z with e | e <;> rw [e] <;> assumption
  have hi255 : inI 255 := by unfold inI; decide
  have hi0 : inI 0 := by unfold inI; decide
  have hjz : inI j.z := by rcases h.z with e | e <;> rw [e] <;> assumption
  have hsz : inI (spz (wantJ (lay g).d ch j).1 spare) := by unfold spz; split <;> assumption
  refine ⟨hs, want_not1 ho hs, ?_, _, aft_turn hb h.may hs hq hnz, turn_may hc h.may hs hq hnz, ?_, ?_, ?_, ?_, ?_⟩
  · unfold wanA; rw [if_pos hm, h.may, hb]; rfl
  · rcases turn_z (d := (lay g).d) (ch := ch) (sp := spz (wantJ (lay g).d ch j).1 spare) ho hs with e | e
    · rcases h.z with e2 | e2
      · exact .inl (e.trans e2)
      · exact .inr (e.trans e2)
    · exact .inr e
  · exact (in_turn (_dz := 0) (d := (lay g).d) (ch := ch) (k := (wantJ (lay g).d ch j).1) (j := j) (v := ⟨(wantJ (lay g).d ch j).1, spz (wantJ (lay g).d ch j).1 spare, 0, []⟩) hjz h.sp hsz).2
  · have := (left_turn (ch := ch) (spz (wantJ (lay g).d ch j).1 spare) hc (by omega) ho hs).2
    have := h.n0
    omega
  · have := yet_turn (ch := ch) (sp := spz (wantJ (lay g).d ch j).1 spare) ho hs
    have := h.cy
    omega
  · have := h.c0
    have := cop_nonneg hc ho
    omega
/-- Nothing is left: the job is idle, all is copied. -/
theorem JobOk.end {g : Ge} {ch zone p n cp : Int} {j : Jb} (h : JobOk g ch zone p n cp j) (hb : chB ch = true) (h0 : ¬ 0 < n) : j = idle ∧ cp = p := by
  have ho := ok_of_may h.may
  have hm : mayG g := by have := h.may; simp only [mayB, Bool.and_eq_true, decide_eq_true_eq] at this; exact this.1
  have hd := (good hm.1).d1
  have hl := left_pos (ch := ch) (ch_of hb).1 (show 1 ≤ (lay g).d by omega) ho
  have hn := h.n0
  have hs : j.st = 0 := hl.2 (by omega)
  have hy := yet_zero (d := (lay g).d) hs
  have := h.cy
  exact ⟨idle_of h.may hs, by omega⟩
/-- A job that may be has so much left, and so much was copied: bounds. -/
theorem JobOk.le {g : Ge} {ch zone p n cp : Int} {j : Jb} (h : JobOk g ch zone p n cp j) (hb : chB ch = true) : n ≤ 1000000 ∧ cp ≤ p ∧ j.bs.length ≤ 126 := by
  have ho := ok_of_may h.may
  have hm : mayG g := by have := h.may; simp only [mayB, Bool.and_eq_true, decide_eq_true_eq] at this; exact this.1
  have hd := (good hm.1).d1
  have hd2 := (good hm.1).d2
  have hl := may_len h.may
  have := left_le (ch := ch) (ch_of hb).1 ⟨by omega, hd2⟩ ho hl
  have hy := yet_nonneg (d := (lay g).d) (by omega) ho
  have := h.cy
  have := h.n0
  exact ⟨by omega, by omega, hl⟩
/-- The picked job. -/
theorem JobOk.first {g : Ge} {ch zone : Int} {bs : List Int} (_hzi : inI zone) (h : mayB g (nextJ zone bs) = true) : JobOk g ch zone ((bs.length : Int) * (lay g).d) ((bs.length : Int) * (3 + cks ch (lay g).d) + fz zone) 0 (nextJ zone bs) := by
  refine ⟨h, ?_, ?_, (left_next _ _ _ _).symm, by rw [yet_next]; omega, Int.le_refl 0⟩
  · unfold nextJ
    (repeat' split) <;> simp_all [idle]
  · unfold nextJ
    (repeat' split) <;> simp [idle, inI]
end Go.Proofs.Ytgjcpepfggkieaa.ClZb
