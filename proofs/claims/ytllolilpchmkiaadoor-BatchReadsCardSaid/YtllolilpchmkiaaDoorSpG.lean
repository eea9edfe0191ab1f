/- Contracts: whether a list of spans is a set, as the program and as the document's answer tell it. Condition: all numbers are 64 bits. -/
import Derived.Test.YtllolilpchmkiaaDoorSpF
namespace Go.Proofs.YtllolilpchmkiaaDoor.SpG
open Go.RowKit MSep MSepC MSpM SpA SpB SpO SpE

theorem ris_sub {p q : List Sp} (h : Ris (p ++ q)) : Ris p := (ris_append.1 h).1
theorem ris_first {xs : List Sp} {k : Nat} (h : Ris xs) : Ris (xs.take k) := ris_sub (q := xs.drop k) (by rw [List.take_append_drop]; exact h)
theorem take_snoc {xs : List Sp} {k : Nat} {s : Sp} (h : xs[k]? = some s) : xs.take (k + 1) = xs.take k ++ [s] := by
  rw [List.take_add_one, h]
  rfl
theorem ris_no1 {xs : List Sp} {k : Nat} {s : Sp} (h : xs[k]? = some s) (hn : ¬ (may s ∧ 0 < s.2)) : ¬ Ris xs := fun hr => hn (hr.2 s (List.mem_of_getElem? h))
theorem ris_no2 {xs : List Sp} {k : Nat} {s t : Sp} (h : xs[k + 1]? = some s) (h' : xs[k]? = some t) (hn : ¬ t.1 + t.2 < s.1) : ¬ Ris xs := fun hr => by
  have := ris_first (k := k + 1 + 1) hr
  rw [take_snoc h, take_snoc h'] at this
  exact hn ((ris_append.1 this).2.2 t (by simp) s (by simp))
theorem ris_go1 {xs : List Sp} {s : Sp} (h : xs[0]? = some s) (hm : may s) (h0 : 0 < s.2) : Ris (xs.take 1) := by
  rw [take_snoc h]
  exact ris_one hm h0
theorem ris_go2 {xs : List Sp} {k : Nat} {s t : Sp} (hr : Ris (xs.take (k + 1))) (h : xs[k + 1]? = some s) (h' : xs[k]? = some t) (hm : may s) (h0 : 0 < s.2) (hlt : t.1 + t.2 < s.1) : Ris (xs.take (k + 1 + 1)) := by
  rw [take_snoc h]
  refine ris_append.2 ⟨hr, ris_one hm h0, ?_⟩
  intro u hu v hv
  simp only [List.mem_singleton] at hv
  subst hv
  rw [take_snoc h'] at hr hu
  obtain ⟨_, ht, hut⟩ := ris_append.1 hr
  have ht0 := (ht.2 t (by simp)).2
  rcases List.mem_append.1 hu with k | k
  · have := hut u k t (by simp)
    omega
  · simp only [List.mem_singleton] at k
    subst k
    exact hlt
theorem ris_at {xs : List Sp} {k j : Nat} {t : Sp} (hr : Ris (xs.take k)) (hj : j < k) (h : xs[j]? = some t) : may t ∧ 0 < t.2 := by
  refine hr.2 t (List.mem_of_getElem? (i := j) ?_)
  rw [List.getElem?_take, if_pos hj]
  exact h
theorem wf_at {xs : List Sp} {k : Nat} {s : Sp} (hw : ∀ s ∈ xs, wf s) (h : xs[k]? = some s) : wf s := hw s (List.mem_of_getElem? h)

end Go.Proofs.YtllolilpchmkiaaDoor.SpG
