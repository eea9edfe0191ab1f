/- A job to its end, as plain data: each thing that is done as it was wanted leaves a job that may be, one less is left, and what has yet to be copied grows less by what was copied. -/
import Derived.Test.YtgjcpepfggkieaaClO
namespace Go.Proofs.Ytgjcpepfggkieaa.ClZm
open MGeM ClM ClN

theorem nextJ_may {g : Ge} {z : Int} {bs : List Int} (hm : mayG g) (hr : rises (lay g).b 0 bs = true) (hz : sqB g z = true ∨ z = 255) : mayB g (nextJ z bs) = true := by
  have hzb : (sqB g z || z == 255) = true := by rcases hz with h | h <;> simp [h]
  unfold nextJ
  by_cases hb : bs = []
  · by_cases h255 : z = 255
    · rw [if_pos hb, if_pos h255]; simp [mayB, idle, stB, hm, rises]
    · have hq : sqB g z = true := by rcases hz with h | h; exact h; exact absurd h h255
      rw [if_pos hb, if_neg h255]; simp [mayB, stB, hm, rises, hq]
  · rw [if_neg hb]
    simp only [mayB, hr, hm, decide_true, Bool.true_and]
    simp [stB, clB, hzb, hb]
theorem nextJ_no {g : Ge} {z : Int} {bs : List Int} (h : mayB g (nextJ z bs) = true) : mayG g ∧ rises (lay g).b 0 bs = true ∧ (sqB g z = true ∨ z = 255) := by
  unfold nextJ at h
  by_cases hb : bs = []
  · by_cases h255 : z = 255
    · subst hb; rw [if_pos rfl, if_pos h255] at h
      simp only [mayB, Bool.and_eq_true, decide_eq_true_eq] at h
      exact ⟨h.1, rfl, .inr h255⟩
    · subst hb; rw [if_pos rfl, if_neg h255] at h
      simp only [mayB, Bool.and_eq_true, decide_eq_true_eq] at h
      have h2 := h.2.2
      simp [stB] at h2
      exact ⟨h.1, rfl, .inl h2⟩
  · rw [if_neg hb] at h
    simp only [mayB, Bool.and_eq_true, decide_eq_true_eq] at h
    have h2 := h.2.2
    simp [stB, clB] at h2
    exact ⟨h.1, h.2.1, h2.2⟩
/-- The zone that a thing wanted is done with. -/
def spz (k sp : Int) : Int := if k = 2 then sp else 0
theorem turn_may {g : Ge} {ch sp : Int} {j : Jb} (hc : 1 ≤ ch) (h : mayB g j = true) (h0 : j.st ≠ 0) (hq : sqB g sp = true) (hn : sp ≠ j.z) :
    mayB g (turnJ (lay g).d ch (wantJ (lay g).d ch j).1 j ⟨(wantJ (lay g).d ch j).1, spz (wantJ (lay g).d ch j).1 sp, 0, []⟩) = true := by
  have ho := ok_of_may h
  have hm : mayG g := by simp only [mayB, Bool.and_eq_true, decide_eq_true_eq] at h; exact h.1
  have hr : rises (lay g).b 0 j.bs = true := by simp only [mayB, Bool.and_eq_true] at h; exact h.2.1
  have hst : stB g j = true := by simp only [mayB, Bool.and_eq_true] at h; exact h.2.2
  have hd := (good hm.1).d1
  obtain ⟨st, z, bs, s, nx⟩ := j
  obtain ⟨h1, h2, h3, h4⟩ := ho
  dsimp only at h1 h2 h3 h4 h0 hn hr
  rcases h1 with rfl | rfl | rfl | rfl | rfl | rfl
  · exact absurd rfl h0
  · obtain rfl := h3 (by simp)
    simp [stB, clB] at hst
    simp [turnJ, wantJ, spz, mayB, hm, hr, stB, clB, hoB, hst, hq, hn]
  · obtain ⟨ha, hb⟩ := h4 rfl
    simp [stB, clB, hoB] at hst
    have e : (wantJ (lay g).d ch ⟨2, z, bs, s, nx⟩) = (3, bs.headD 0, s, nx, min ch ((lay g).d - nx)) := by simp [wantJ]
    rw [e]
    by_cases hl : nx + min ch ((lay g).d - nx) = (lay g).d
    · simp [turnJ, e, hl, mayB, hm, hr, stB, clB, hoB, hst]
    · have g1 : 0 ≤ nx + min ch ((lay g).d - nx) := by omega
      have g2 : nx + min ch ((lay g).d - nx) < (lay g).d := by omega
      simp [turnJ, e, hl, mayB, hm, hr, stB, clB, hoB, hst, g1, g2]
  · obtain rfl := h3 (by simp)
    simp [stB, clB, hoB] at hst
    simp [turnJ, wantJ, mayB, hm, hr, stB, clB, hoB, hst]
    omega
  · have hb := h2 (by simp)
    obtain ⟨x, l, rfl⟩ := List.exists_cons_of_ne_nil hb
    have e : turnJ (lay g).d ch (wantJ (lay g).d ch ⟨4, z, x :: l, s, nx⟩).1 ⟨4, z, x :: l, s, nx⟩ ⟨(wantJ (lay g).d ch ⟨4, z, x :: l, s, nx⟩).1, spz (wantJ (lay g).d ch ⟨4, z, x :: l, s, nx⟩).1 sp, 0, []⟩ = nextJ z l := by simp [turnJ, wantJ]
    rw [e]
    simp [stB, clB] at hst
    exact nextJ_may hm (rises_tail (by omega) hr) hst.1
  · have e : turnJ (lay g).d ch (wantJ (lay g).d ch ⟨5, z, bs, s, nx⟩).1 ⟨5, z, bs, s, nx⟩ ⟨(wantJ (lay g).d ch ⟨5, z, bs, s, nx⟩).1, spz (wantJ (lay g).d ch ⟨5, z, bs, s, nx⟩).1 sp, 0, []⟩ = idle := by simp [turnJ, wantJ]
    rw [e]
    simp [mayB, idle, stB, hm, rises]
/-- So many sectors have yet to be copied. -/
def yetJ (d : Int) (j : Jb) : Int :=
  if j.st = 1 ∨ j.st = 3 then (j.bs.length : Int) * d
  else if j.st = 2 then (j.bs.length : Int) * d - j.nx
  else if j.st = 4 then (j.bs.length : Int) * d - d
  else 0
theorem yet_next (d z : Int) (bs : List Int) : yetJ d (nextJ z bs) = (bs.length : Int) * d := by
  unfold nextJ
  by_cases hb : bs = []
  · subst hb
    by_cases hz : z = 255 <;> simp [hz, yetJ, idle]
  · simp [hb, yetJ]
/-- What a thing wanted copies. -/
def cop (v : T5) : Int := if v.1 = 3 then v.2.2.2.2 else 0
theorem yet_turn {d ch sp : Int} {j : Jb} (h : okJ d j) (h0 : j.st ≠ 0) :
    yetJ d (turnJ d ch (wantJ d ch j).1 j ⟨(wantJ d ch j).1, sp, 0, []⟩) + cop (wantJ d ch j) = yetJ d j := by
  obtain ⟨st, z, bs, s, nx⟩ := j
  obtain ⟨h1, h2, h3, h4⟩ := h
  dsimp only at h1 h2 h3 h4 h0
  rcases h1 with rfl | rfl | rfl | rfl | rfl | rfl
  · exact absurd rfl h0
  · obtain rfl := h3 (by simp)
    simp [turnJ, wantJ, yetJ, cop]
  · by_cases hl : nx + min ch (d - nx) = d
    · simp [turnJ, wantJ, yetJ, cop, hl]
      omega
    · simp [turnJ, wantJ, yetJ, cop, hl]
      omega
  · obtain rfl := h3 (by simp)
    simp [turnJ, wantJ, yetJ, cop]
  · have hb := h2 (by simp)
    obtain ⟨x, l, rfl⟩ := List.exists_cons_of_ne_nil hb
    have e : turnJ d ch (wantJ d ch ⟨4, z, x :: l, s, nx⟩).1 ⟨4, z, x :: l, s, nx⟩ ⟨(wantJ d ch ⟨4, z, x :: l, s, nx⟩).1, sp, 0, []⟩ = nextJ z l := by simp [turnJ, wantJ]
    rw [e, yet_next]
    simp [yetJ, cop, wantJ, Int.add_mul]
  · simp [turnJ, wantJ, yetJ, cop, idle]
theorem yet_zero {d : Int} {j : Jb} (h : j.st = 0) : yetJ d j = 0 := by simp [yetJ, h]
/-- Of what has a job that something is left of. -/
theorem want_not1 {d ch : Int} {j : Jb} (h : okJ d j) (h0 : j.st ≠ 0) : (wantJ d ch j).1 ≠ 1 := by
  obtain ⟨st, z, bs, s, nx⟩ := j
  obtain ⟨h1, _⟩ := h
  dsimp only at h1 h0
  rcases h1 with rfl | rfl | rfl | rfl | rfl | rfl <;> simp [wantJ] at h0 ⊢
/-- A thing done as it was wanted: the turn. -/
theorem aft_turn {g : Ge} {ch sp : Int} {j : Jb} (hb : chB ch = true) (h : mayB g j = true) (h0 : j.st ≠ 0) (hq : sqB g sp = true) (hn : sp ≠ j.z) :
    aftA g ch j ⟨(wantJ (lay g).d ch j).1, spz (wantJ (lay g).d ch j).1 sp, 0, []⟩ = (turnJ (lay g).d ch (wantJ (lay g).d ch j).1 j ⟨(wantJ (lay g).d ch j).1, spz (wantJ (lay g).d ch j).1 sp, 0, []⟩, 0) := by
  have hc := (ch_of hb).1
  have hm : mayG g := by simp only [mayB, Bool.and_eq_true, decide_eq_true_eq] at h; exact h.1
  have ht := turn_may (sp := sp) hc h h0 hq hn
  have ho := ok_of_may h
  have k7 : (wantJ (lay g).d ch j).1 ≠ 7 ∧ (wantJ (lay g).d ch j).1 ≠ 8 := by
    unfold wantJ
    (repeat' split) <;> simp
  unfold aftA
  rw [if_pos hm, h, hb]
  simp only [Bool.and_self, if_true]
  unfold aftJ
  dsimp only
  rw [if_neg k7.1, if_neg k7.2, if_pos rfl, if_pos ht]
/-- The zone of a job stays, or the job is idle. -/
theorem turn_z {d ch sp : Int} {j : Jb} (h : okJ d j) (h0 : j.st ≠ 0) : (turnJ d ch (wantJ d ch j).1 j ⟨(wantJ d ch j).1, sp, 0, []⟩).z = j.z ∨ (turnJ d ch (wantJ d ch j).1 j ⟨(wantJ d ch j).1, sp, 0, []⟩).z = 255 := by
  obtain ⟨st, z, bs, s, nx⟩ := j
  obtain ⟨h1, h2, h3, h4⟩ := h
  dsimp only at h1 h2 h3 h4 h0
  have nz : ∀ l : List Int, (nextJ z l).z = z ∨ (nextJ z l).z = 255 := by
    intro l
    unfold nextJ
    (repeat' split) <;> simp_all [idle]
  rcases h1 with rfl | rfl | rfl | rfl | rfl | rfl
  · exact absurd rfl h0
  · simp [turnJ, wantJ]
  · simp [turnJ, wantJ]
  · simp [turnJ, wantJ]
  · have e : turnJ d ch (wantJ d ch ⟨4, z, bs, s, nx⟩).1 ⟨4, z, bs, s, nx⟩ ⟨(wantJ d ch ⟨4, z, bs, s, nx⟩).1, sp, 0, []⟩ = nextJ z bs.tail := by simp [turnJ, wantJ]
    rw [e]
    exact nz _
  · simp [turnJ, wantJ, idle]
theorem idle_of {g : Ge} {j : Jb} (h : mayB g j = true) (h0 : j.st = 0) : j = idle := by
  simp only [mayB, Bool.and_eq_true] at h
  have h := h.2.2
  obtain ⟨st, z, bs, s, nx⟩ := j
  dsimp only at h0
  subst h0
  simp [stB] at h
  simp [idle, h]
/-- The job that a pick begins. -/
theorem aft_pick {g : Ge} {ch z : Int} {bs : List Int} (hb : chB ch = true) (hm : mayG g) :
    aftA g ch idle ⟨1, z, 0, bs⟩ = (if mayB g (nextJ z bs) then (nextJ z bs, 0) else (zero, 1)) := by
  have hi : mayB g idle = true := by simp [mayB, idle, stB, hm, rises]
  unfold aftA
  rw [if_pos hm, hi, hb]
  simp only [Bool.and_self, if_true]
  unfold aftJ
  simp [wantJ, idle, turnJ]
end Go.Proofs.Ytgjcpepfggkieaa.ClZm
