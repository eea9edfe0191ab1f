/- The set of any spans, by the document: the contract of its Set. Condition: the slice reads as spans that may be. -/
import Derived.Test.YtkjebdojcnpjlaaSqA
namespace Go.Proofs.Ytkjebdojcnpjlaa.SqS
open Go.RowKit MSep MSepC MSpM SpA SqB SqA

theorem rset_snoc {xs : List Sp} {k : Nat} {s : Sp} (h : xs[k]? = some s) : rset (xs.take (k + 1)) = radd (rset (xs.take k)) s := by
  rw [take_snoc h, rset, List.foldl_append]
  rfl
set_option maxRecDepth 100000 in
theorem rSet_ok (A : Option Addr) (l c : Nat) (xs : List Sp) (w : World) (hl : l ≤ 4096) (hx : RdS w A l xs) (hm : ∀ s ∈ xs, may s) : Calls Try.prog 8 #[.slice A l c] w fun e w' => RetS w w' e (rset xs) := by
  have HX := hid hx
  have HM := hid hm
  clear hx hm
  go_enter Try.func8, Try.ntmps8
  go_wp2
  go_loopw [3, 4] (fun v i wr => ∃ (k : Nat) (B : Option Addr) (m d : Nat), k ≤ l ∧ i = .int .i64 k ∧ v = .slice B m d ∧ RdS wr B m (rset (xs.take k)) ∧ Fr No w wr) (fun _ i _ => l - (intOf i).toNat)
  case atStart => exact ⟨0, none, 0, 0, by omega, rfl, rfl, RdS.nil _ _, Fr.refl _ _⟩
  case round =>
    obtain ⟨k, B, m, d, hk, rfl, rfl, hr, hf⟩ := hrel
    by_cases hlt : k < l
    · have hk1 : k < xs.length := by rw [HX.out.1]; exact hlt
      obtain ⟨⟨a, n⟩, hx⟩ : ∃ x, xs[k]? = some x := ⟨_, List.getElem?_eq_getElem hk1⟩
      have HMk := hid (HM.out _ (List.mem_of_getElem? hx))
      have HSN := hid (rset_snoc hx)
      have hs := rset_ok (l := xs.take k) (fun s hs => HM.out s (List.mem_of_mem_take hs))
      have HRI := hid hs.1
      have HML := hid (show m ≤ 100000 by have h := hs.2.2; have h1 := hr.1; have h2 : (xs.take k).length ≤ k := List.length_take_le _ _; omega)
      obtain ⟨g, o, rfl, hg, hc⟩ := (HX.out.fr hf).at_ (by omega)
      obtain ⟨c0, c1⟩ := hc k _ hx
      simp only [] at c0 c1
      have hlt3 : (k : Int) < l := by omega
      have h0k : (0 : Int) ≤ k := by omega
      have FW := hid hf
      have HRD := hid hr
      have HK := hid hlt
      clear hc hg hx hk1 hf hk hlt hr hs
      go_wp2_with fail
      refine (rAdd_ok B m d _ a n _ HML.out HRD.out (fun s hs => (HRI.out.2 s hs).1) HMk.out).mono ?_
      rintro e w2 ⟨A2, k2, c2, rfl, r2, f2⟩
      have FW := kf f2 FW
      have R2 := hid r2
      clear r2 f2
      go_wp2
      go_roundw
      case rel => exact ⟨k + 1, A2, k2, c2, HK.out, by go_num, rfl, by rw [HSN.out]; exact R2.out, FW.out⟩
      case measure => have := HK.out; simp [intOf]; omega
    · obtain rfl : k = l := by omega
      have hE : xs.take k = xs := List.take_of_length_le (by rw [HX.out.1]; exact Nat.le_refl _)
      rw [hE] at hr
      have FW := hid hf
      have HRD := hid hr
      clear hf hlt hk hr
      go_wp2
      go_ret
      exact .mk HRD.out FW.out
end Go.Proofs.Ytkjebdojcnpjlaa.SqS
