/- Contracts: whether numbers are within their bounds; what follows from a geometry, by the program. Condition: all numbers are 64 bits. -/
import Derived.Test.YtoboialfaifbgaaGeA
namespace Go.Proofs.Ytoboialfaifbgaa.GeB
open Go.RowKit MSep MGeM GeA

/-- Numbers, each with the least and the most that it may be. -/
abbrev T3 := Int × Int × Int
def ok3 (t : T3) : Bool := decide (t.2.1 ≤ t.1 ∧ t.1 ≤ t.2.2)
def all3 (ts : List T3) : Bool := ts.all ok3
theorem all3_take {ts : List T3} {j : Nat} {x lo hi : Int} (h : ts[j]? = some (x, lo, hi)) (ha : all3 (ts.take j) = true) (ho : lo ≤ x ∧ x ≤ hi) : all3 (ts.take (j + 1)) = true := by
  have hk : j < ts.length := (List.getElem?_eq_some_iff.1 h).1
  have e : ts[j] = (x, lo, hi) := (List.getElem?_eq_some_iff.1 h).2
  unfold all3 at *
  rw [List.take_succ_eq_append_getElem hk, e, List.all_append, ha]
  simp [ok3, ho]
theorem all3_no {ts : List T3} {j : Nat} {x lo hi : Int} (h : ts[j]? = some (x, lo, hi)) (ho : ¬ (lo ≤ x ∧ x ≤ hi)) : all3 ts = false := by
  unfold all3
  rw [List.all_eq_false]
  exact ⟨(x, lo, hi), List.mem_of_getElem? h, by simp only [ok3, decide_eq_true_eq]; exact ho⟩
/-- The triples lie in block g. -/
def At3 (w : World) (g : Nat) (ts : List T3) : Prop := ∀ j x lo hi, ts[j]? = some (x, lo, hi) → w.cell? ⟨g, 3 * j, none⟩ = some (.int .i64 x) ∧ w.cell? ⟨g, 3 * j + 1, none⟩ = some (.int .i64 lo) ∧ w.cell? ⟨g, 3 * j + 2, none⟩ = some (.int .i64 hi)
theorem At3.fr {w w' : World} {g : Nat} {ts : List T3} (h : At3 w g ts) (f : Fr No w w') : At3 w' g ts := fun j x lo hi e => by
  obtain ⟨a, b, c⟩ := h j x lo hi e
  exact ⟨kc f a, kc f b, kc f c⟩

set_option maxRecDepth 100000 in
set_option maxHeartbeats 1000000 in
theorem within_ok (g L c : Nat) (ts : List T3) (w : World) (hL : L = 3 * ts.length) (hn : ts.length ≤ 100) (hc : At3 w g ts) :
    Calls Try.prog 84 #[.slice (some ⟨g, 0, none⟩) L c] w fun e w' => e = .returned (.bool (all3 ts)) ∧ Fr No w w' := by
  have HC := hid hc
  have HN := hid hn
  have hl64 : (L : Int) ≤ 300 := by omega
  clear hc
  go_enter Try.func84, Try.ntmps84
  go_wp2
  go_loopw [3] (fun i wr => ∃ j : Nat, j ≤ ts.length ∧ i = .int .i64 ((3 * j : Nat) : Int) ∧ all3 (ts.take j) = true ∧ Fr No w wr) (fun i _ => L - (intOf i).toNat)
  case atStart => exact ⟨0, by omega, rfl, by simp [all3], Fr.refl _ _⟩
  case round =>
    obtain ⟨j, hj, rfl, ha, hf⟩ := hrel
    obtain ⟨i, hi⟩ : ∃ i : Nat, 3 * j = i := ⟨_, rfl⟩
    by_cases hlt : j < ts.length
    · obtain ⟨⟨x, lo, hi'⟩, hx⟩ : ∃ x, ts[j]? = some x := ⟨_, List.getElem?_eq_getElem hlt⟩
      obtain ⟨q0, q1, q2⟩ := (HC.out.fr hf) j _ _ _ hx
      have HA := hid ha
      have HX := hid hx
      have HF := hid hf
      have HLT := hid hlt
      have HI := hid hi
      rw [hi] at q0 q1 q2 ⊢
      have i1 : ((i : Int) + 1).toNat = i + 1 := by omega
      have i2 : ((i : Int) + 2).toNat = i + 2 := by omega
      have ilt : (i : Int) + 2 < L := by omega
      have i300 : (i : Int) ≤ 300 := by omega
      clear ha hx hf hlt hi hj hn hL
      by_cases h1 : x < lo
      · have hno := all3_no HX.out (by omega)
        go_wp2_with fail
        go_quiet (fail)
        go_wp2
        go_ret
        exact ⟨by first | rfl | (rw [hno]; rfl), by first | exact HF.out.drewN _ | exact HF.out.drew⟩
      · by_cases h2 : hi' < x
        · have hno := all3_no HX.out (by omega)
          go_wp2_with fail
          go_quiet (fail)
          go_wp2
          go_ret
          exact ⟨by first | rfl | (rw [hno]; rfl), by first | exact HF.out.drewN _ | exact HF.out.drew⟩
        · go_wp2_with fail
          go_quiet (fail)
          go_wp2
          go_roundw
          case rel => exact ⟨j + 1, HLT.out, by have := HI.out; congr 1; push_cast; omega, all3_take HX.out HA.out (by omega), by first | exact HF.out.drewN _ | exact HF.out.drew⟩
          case measure => simp [intOf]; omega
    · have hjl : ts.length ≤ j := by omega
      have hall : all3 ts = true := by rw [← ha, List.take_of_length_le hjl]
      have HF := hid hf
      have ilt : ¬ (i : Int) + 2 < L := by omega
      have i300 : (i : Int) ≤ 300 := by omega
      rw [hi]
      clear ha hf hlt hi hj hn hL hjl
      go_wp2
      go_ret
      exact ⟨rfl, HF.out⟩
end Go.Proofs.Ytoboialfaifbgaa.GeB
