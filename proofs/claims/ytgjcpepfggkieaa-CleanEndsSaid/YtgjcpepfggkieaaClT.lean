/- Contract: what becomes of a job by anything that was done, by the document, whatever it is. Condition: lists that read as lists; numbers of 64 bits; the job may be. -/
import Derived.Test.YtgjcpepfggkieaaClSa
import Derived.Test.YtgjcpepfggkieaaClSb
namespace Go.Proofs.Ytgjcpepfggkieaa.ClT
open Go.RowKit MSep MGeM GeA GeC GeD GeE GeEk PlA PlB ClM ClA ClE ClB ClC ClD ClF ClG ClH ClI ClJ ClK ClL ClQ ClSa ClSb

theorem ho_sp {g : Ge} {j : Jb} (h : hoB g j = true) : j.sp ≠ 255 := by
  unfold hoB sqB at h
  simp only [Bool.and_eq_true, decide_eq_true_eq] at h
  obtain ⟨h1, h2, h3⟩ := h.1
  obtain ⟨⟨a1, a2⟩, ⟨a3, a4⟩, _⟩ := h1.1
  omega
theorem may_sp {g : Ge} {j : Jb} (h : mayB g j = true) : (j.sp ≠ 255 ↔ (j.st = 2 ∨ j.st = 3 ∨ j.st = 4)) := by
  simp only [mayB, Bool.and_eq_true] at h
  replace h := h.2.2
  obtain ⟨st, z, bs, s, nx⟩ := j
  unfold stB at h
  dsimp only at h ⊢
  split at h
  · subst st
    simp only [Bool.and_eq_true, beq_iff_eq] at h
    simp [h.2.1]
  split at h
  · subst st
    simp only [Bool.and_eq_true, beq_iff_eq] at h
    simp [h.2.2.1]
  split at h
  · subst st
    simp only [Bool.and_eq_true, beq_iff_eq] at h
    simp [h.2.1]
  split at h
  · subst st
    simp only [Bool.and_eq_true] at h
    have := ho_sp h.2.1
    simpa using this
  split at h
  · subst st
    simp only [Bool.and_eq_true] at h
    have := ho_sp h.2.1
    simpa using this
  split at h
  · subst st
    simp only [Bool.and_eq_true] at h
    have := ho_sp h.2.1
    simpa using this
  · cases h
theorem rAfter_ok (gc gs gn gl gk : Int) (ch : Int) (st z : Int) (A : Option Addr) (l c : Nat) (sp nx : Int) (bs : List Int) (k dz db : Int) (B : Option Addr) (m e : Nat) (ys : List Int) (w : World) (hs : -9223372036854775808 ≤ gs ∧ gs ≤ 9223372036854775807) (hm : mayG ⟨gc, gs, gn, gl, gk⟩) (hi : InI w A l c bs) (hy : InI w B m e ys) (hj : mayB ⟨gc, gs, gn, gl, gk⟩ ⟨st, z, bs, sp, nx⟩ = true) (hc : 1 ≤ ch ∧ ch ≤ 1000000) :
    Calls Try.prog 40 #[.agg #[.int .i64 gc, .int .i64 gs, .int .i64 gn, .int .i64 gl, .int .i64 gk], .int .i64 ch, .agg #[.int .i64 st, .int .i64 z, .slice A l c, .int .i64 sp, .int .i64 nx], .agg #[.int .i64 k, .int .i64 dz, .int .i64 db, .slice B m e]] w fun r w' => RetB w (aftJ ⟨gc, gs, gn, gl, gk⟩ ch ⟨st, z, bs, sp, nx⟩ ⟨k, dz, db, ys⟩) r w' := by
  have ho := ok_of_may hj
  have hsp := may_sp hj
  dsimp only at hsp
  obtain ⟨b, hb1⟩ : ∃ b, (lay ⟨gc, gs, gn, gl, gk⟩).b = b := ⟨_, rfl⟩
  obtain ⟨d, hb2⟩ : ∃ d, (lay ⟨gc, gs, gn, gl, gk⟩).d = d := ⟨_, rfl⟩
  unfold aftJ
  dsimp only
  by_cases h7 : k = 7
  · subst h7
    rw [if_pos rfl]
    exact ra_fail gc gs gn gl gk b d ch st z A l c sp nx bs dz db B m e ys w hs hm ⟨hb1, hb2⟩ hi hy ho hc
  rw [if_neg h7]
  by_cases h8 : k = 8
  · subst h8
    rw [if_pos rfl]
    by_cases hb : 0 ≤ db ∧ db < (lay ⟨gc, gs, gn, gl, gk⟩).b
    · rw [if_pos hb]
      rw [hb1] at hb
      by_cases h5 : sp = 255
      · rw [show touchJ ⟨st, z, bs, sp, nx⟩ db = ⟨st, z, bs, sp, nx⟩ by unfold touchJ; rw [if_neg (fun q => hsp.2 q.1 h5)]]
        exact ra_stay gc gs gn gl gk b d ch st z A l c sp nx bs dz db B m e ys w hs hm ⟨hb1, hb2⟩ hi hy ho hc hb h5
      · have hst := hsp.1 h5
        have hne := ho.2.1 (by dsimp only; omega)
        dsimp only at hne
        by_cases hx : bs.headD 0 = db
        · rw [show touchJ ⟨st, z, bs, sp, nx⟩ db = nextJ z bs by unfold touchJ; rw [if_pos ⟨hst, hx.symm⟩]]
          exact ra_next gc gs gn gl gk b d ch st z A l c sp nx bs dz db B m e ys w hs hm ⟨hb1, hb2⟩ hi hy ho hc hb h5 hne hx
        · rw [show touchJ ⟨st, z, bs, sp, nx⟩ db = ⟨st, z, bs, sp, nx⟩ by unfold touchJ; rw [if_neg (fun q => hx q.2.symm)]]
          exact ra_other gc gs gn gl gk b d ch st z A l c sp nx bs dz db B m e ys w hs hm ⟨hb1, hb2⟩ hi hy ho hc hb h5 hne hx
    · rw [if_neg hb]
      rw [hb1] at hb
      exact ra_out gc gs gn gl gk b d ch st z A l c sp nx bs dz db B m e ys w hs hm ⟨hb1, hb2⟩ hi hy ho hc hb
  rw [if_neg h8]
  by_cases hk : k = (wantJ (lay ⟨gc, gs, gn, gl, gk⟩).d ch ⟨st, z, bs, sp, nx⟩).1
  · rw [if_pos hk]
    have hst := ho.1
    dsimp only at hst
    rcases hst with rfl | rfl | rfl | rfl | rfl | rfl
    · obtain rfl : k = 1 := by rw [hk, w_pick _ _ _ _ _ _ _ (by decide)]
      exact ra_0 gc gs gn gl gk b d ch z A l c sp nx bs dz db B m e ys w hs hm ⟨hb1, hb2⟩ hi hy ho hc
    · obtain rfl : k = 2 := by rw [hk, w_band]
      exact ra_1 gc gs gn gl gk b d ch z A l c sp nx bs dz db B m e ys w hs hm ⟨hb1, hb2⟩ hi hy ho hc
    · obtain rfl : k = 3 := by rw [hk, w_copy]
      exact ra_2 gc gs gn gl gk b d ch z A l c sp nx bs dz db B m e ys w hs hm ⟨hb1, hb2⟩ hi hy ho hc
    · obtain rfl : k = 4 := by rw [hk, w_label]
      exact ra_3 gc gs gn gl gk b d ch z A l c sp nx bs dz db B m e ys w hs hm ⟨hb1, hb2⟩ hi hy ho hc
    · obtain rfl : k = 5 := by rw [hk, w_commit]
      exact ra_4 gc gs gn gl gk b d ch z A l c sp nx bs dz db B m e ys w hs hm ⟨hb1, hb2⟩ hi hy ho hc
    · obtain rfl : k = 6 := by rw [hk, w_free]
      exact ra_5 gc gs gn gl gk b d ch z A l c sp nx bs dz db B m e ys w hs hm ⟨hb1, hb2⟩ hi hy ho hc
  · rw [if_neg hk]
    exact ra_state gc gs gn gl gk b d ch st z A l c sp nx bs k dz db B m e ys w hs hm ⟨hb1, hb2⟩ hi hy ho hc h7 h8 hk
end Go.Proofs.Ytgjcpepfggkieaa.ClT
