/- Contracts: the set of any spans, by the program and by the document. Conditions: each span may be; at most 4096 of them. -/
import Derived.Test.YthldppgbopiaiaaSpSo
import Derived.Test.YthldppgbopiaiaaSpP
import Derived.Test.YthldppgbopiaiaaSpRA
import Derived.Test.YthldppgbopiaiaaSpW
namespace Go.Proofs.Ythldppgbopiaiaa.SpSt
open Go.RowKit MSep MSepC MSpM MSpW SpA SpB SpC SpO SpE SpF SpG SpH SpSo

theorem out_at {B : Nat} {w : World} {A : Option Addr} {k c : Nat} {L : List Sp} (h : Out B w (.slice A k c) L) (hk : 0 < L.length) : ∃ g, A = some ⟨g, 0, none⟩ ∧ B ≤ g ∧ g < w.heap.size ∧ k = L.length := by
  obtain ⟨_, ⟨_, h2⟩ | ⟨g, cap, cur, hv, hb, hh, _⟩⟩ := h
  · omega
  · injection hv with e1 e2 e3
    exact ⟨g, e1, hb, (Array.getElem?_eq_some_iff.1 hh).1, e2⟩

set_option maxRecDepth 100000 in
set_option maxHeartbeats 2000000 in
theorem set_good (A : Option Addr) (l c : Nat) (xs : List Sp) (w : World) (hl : l ≤ 4096) (hx : RdS w A l xs) (hm : ∀ s ∈ xs, may s) : Calls Try.prog 23 #[.slice A l c] w fun e w' => RetP w w' e (rset xs) 0 := by
  have HX := hid hx
  have HM := hid hm
  obtain ⟨R, hR⟩ : ∃ R, rset xs = R := ⟨_, rfl⟩
  rw [hR]
  have HR := hid hR
  clear hx hm hR
  go_enter Try.func23, Try.ntmps23
  go_wp2
  go_loopw [9] (fun i wr => ∃ k : Nat, k ≤ l ∧ i = .int .i64 k ∧ Fr No w wr) (fun i _ => l - (intOf i).toNat)
  case atStart => exact ⟨0, by omega, rfl, Fr.refl _ _⟩
  case round =>
    obtain ⟨k, hk, rfl, hf⟩ := hrel
    by_cases hlt : k < l
    · have hk1 : k < xs.length := by rw [HX.out.1]; exact hlt
      obtain ⟨⟨a, n⟩, hx⟩ : ∃ x, xs[k]? = some x := ⟨_, List.getElem?_eq_getElem hk1⟩
      have hmx := HM.out _ (List.mem_of_getElem? hx)
      have HWk := hid (wf_may hmx)
      have HMk := hid hmx
      obtain ⟨g, o, rfl, hg, hc⟩ := (HX.out.fr hf).at_ (by omega)
      obtain ⟨c0, c1⟩ := hc k _ hx
      simp only [] at c0 c1
      have hlt3 : (k : Int) < l := by omega
      have h0k : (0 : Int) ≤ k := by omega
      have FW := hid (hf.alloc (.cells #[.int .i64 a, .int .i64 n] 23))
      have HK := hid hlt
      clear hc hg hx hk1 hf hk hlt hmx
      go_wp2_with fail
      refine (may_ok a n _ HWk.out).mono ?_
      rintro e w2 ⟨rfl, f2⟩
      have FW := kf f2 FW
      rw [decide_eq_true HMk.out]
      clear f2
      go_wp2
      go_roundw
      case rel => exact ⟨k + 1, HK.out, by go_num, FW.out⟩
      case measure => have := HK.out; simp [intOf]; omega
    · obtain rfl : k = l := by omega
      have h4 : ¬ (4096 : Int) < (k : Int) := by omega
      have FW := hid hf
      have HL := hid hl
      clear hf hlt hk
      go_wp2_with fail
      refine (clone_own A k c xs _ (by have := HL.out; omega) (HX.out.fr FW.out)).mono ?_
      rintro e w1 ⟨A1, c1, rfl, o1, f1⟩
      have hsz := FW.out.size
      have FW := kf f1 FW
      have O1 := hid o1
      clear o1 f1
      rcases Nat.eq_zero_or_pos xs.length with h0 | h0
      · obtain rfl : xs = [] := List.eq_nil_of_length_eq_zero h0
        have hR0 : R = [] := HR.out.symm
        subst hR0
        clear h0
        go_wp2_with fail
        refine (sort_none _ _ _ _).mono ?_
        rintro e w2 ⟨rfl, rfl⟩
        go_wp2_with fail
        refine (SpX.joined_okc A1 0 c1 [] _ (by omega) (RdS.nil _ _) (by simp) .nil).mono ?_
        rintro e w3 ⟨A3, k3, c3, rfl, r3, f3⟩
        have FW := kf f3 FW
        have R3 := hid r3
        clear r3 f3
        go_wp2
        go_ret2
        exact .mk R3.out FW.out
      · obtain ⟨g, rfl, hg1, hg2, _⟩ := out_at O1.out h0
        have HG1 := hid (Nat.le_trans hsz hg1)
        have HG2 := hid hg2
        clear h0 hg1 hg2
        go_wp2_with fail
        refine (sort_ok _ g c1 xs _ O1.out HG2.out (by have := HX.out.1; have := HL.out; omega)).mono ?_
        rintro e w2 ⟨rfl, ys, hp, hs, hr, f2⟩
        have FW := hid (FW.out.step f2 (fun i hi e => absurd hi (by have := HG1.out; omega)))
        have HY := hid hr
        have HP := hid hp
        have HS := hid hs
        clear hr hp hs f2
        go_wp2_with fail
        refine (SpX.joined_okc (some ⟨g, 0, none⟩) xs.length c1 ys _ (by have := HX.out.1; have := HL.out; omega) HY.out (fun s hs => HM.out s (HP.out.mem_iff.1 hs)) HS.out).mono ?_
        rintro e w3 ⟨A3, k3, c3, rfl, r3, f3⟩
        rw [joined_rset HM.out HS.out HP.out, HR.out] at r3
        have FW := kf f3 FW
        have R3 := hid r3
        clear r3 f3
        go_wp2
        go_ret2
        exact .mk R3.out FW.out
theorem rset_snoc {xs : List Sp} {k : Nat} {s : Sp} (h : xs[k]? = some s) : rset (xs.take (k + 1)) = radd (rset (xs.take k)) s := by
  rw [take_snoc h, rset, List.foldl_append]
  rfl
set_option maxRecDepth 100000 in
set_option maxHeartbeats 2000000 in
theorem rSet_ok (A : Option Addr) (l c : Nat) (xs : List Sp) (w : World) (hl : l ≤ 4096) (hx : RdS w A l xs) (hm : ∀ s ∈ xs, may s) : Calls Try.prog 26 #[.slice A l c] w fun e w' => RetS w w' e (rset xs) := by
  have HX := hid hx
  have HM := hid hm
  clear hx hm
  go_enter Try.func26, Try.ntmps26
  go_wp2
  go_loopw [3, 4] (fun v i wr => ∃ (k : Nat) (B : Option Addr) (m d : Nat), k ≤ l ∧ i = .int .i64 k ∧ v = .slice B m d ∧ RdS wr B m (rset (xs.take k)) ∧ Fr No w wr) (fun _ i _ => l - (intOf i).toNat)
  case atStart => exact ⟨0, none, 0, 0, by omega, rfl, rfl, RdS.nil _ _, Fr.refl _ _⟩
  case round =>
    obtain ⟨k, B, m, d, hk, rfl, rfl, hr, hf⟩ := hrel
    by_cases hlt : k < l
    · have hk1 : k < xs.length := by rw [HX.out.1]; exact hlt
      obtain ⟨⟨a, n⟩, hx⟩ : ∃ x, xs[k]? = some x := ⟨_, List.getElem?_eq_getElem hk1⟩
      have HMk := hid (HM.out _ (List.mem_of_getElem? hx))
      have HSN := hid (rset_snoc hx)
      have hs := rset_ok (l := xs.take k) (fun s hs => HM.out s (List.mem_of_mem_take hs))
      have HRI := hid hs.1
      have HML := hid (show m ≤ 100000 by have h := hs.2.2; have h1 := hr.1; have h2 : (xs.take k).length ≤ k := List.length_take_le _ _; omega)
      obtain ⟨g, o, rfl, hg, hc⟩ := (HX.out.fr hf).at_ (by omega)
      obtain ⟨c0, c1⟩ := hc k _ hx
      simp only [] at c0 c1
      have hlt3 : (k : Int) < l := by omega
      have h0k : (0 : Int) ≤ k := by omega
      have FW := hid hf
      have HRD := hid hr
      have HK := hid hlt
      clear hc hg hx hk1 hf hk hlt hr hs
      go_wp2_with fail
      refine (SpRA.rAdd_ok B m d _ a n _ HML.out HRD.out (fun s hs => (HRI.out.2 s hs).1) HMk.out).mono ?_
      rintro e w2 ⟨A2, k2, c2, rfl, r2, f2⟩
      have FW := kf f2 FW
      have R2 := hid r2
      clear r2 f2
      go_wp2
      go_roundw
      case rel => exact ⟨k + 1, A2, k2, c2, HK.out, by go_num, rfl, by rw [HSN.out]; exact R2.out, FW.out⟩
      case measure => have := HK.out; simp [intOf]; omega
    · obtain rfl : k = l := by omega
      have hE : xs.take k = xs := List.take_of_length_le (by rw [HX.out.1]; exact Nat.le_refl _)
      rw [hE] at hr
      have FW := hid hf
      have HRD := hid hr
      clear hf hlt hk hr
      go_wp2
      go_ret
      exact .mk HRD.out FW.out
end Go.Proofs.Ythldppgbopiaiaa.SpSt
