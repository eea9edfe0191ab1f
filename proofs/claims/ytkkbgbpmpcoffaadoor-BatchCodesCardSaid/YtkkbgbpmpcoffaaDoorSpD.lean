/- Contracts: whether two lists are the same, whether they are short. Condition: the slices read as lists. -/
import Derived.Test.YtkkbgbpmpcoffaaDoorSpC
import Derived.Test.YtkkbgbpmpcoffaaDoorSepC
namespace Go.Proofs.YtkkbgbpmpcoffaaDoor.SpD
open Go.RowKit MSep MSepC MSpM SpA SpB

theorem ne_at {xs ys : List Sp} {k : Nat} {x y : Sp} (hx : xs[k]? = some x) (hy : ys[k]? = some y) (h : x ≠ y) : xs ≠ ys := by
  rintro rfl
  rw [hx] at hy
  exact h (Option.some.inj hy)
set_option maxRecDepth 100000 in
theorem same_ok (A : Option Addr) (l c : Nat) (xs : List Sp) (B : Option Addr) (m d : Nat) (ys : List Sp) (w : World) (hl : l ≤ maxLen) (hm : m ≤ maxLen) (hx : RdS w A l xs) (hy : RdS w B m ys) :
    Calls Tryd.prog 44 #[.slice A l c, .slice B m d] w fun e w' => e = .returned (.bool (decide (xs = ys))) ∧ Fr No w w' := by
  unfold maxLen at hl hm
  obtain ⟨R, hR⟩ : ∃ R, decide (xs = ys) = R := ⟨_, rfl⟩
  rw [hR]
  have HR := hid hR
  clear hR
  by_cases hlm : l = m
  · subst hlm
    have HX := hid hx
    have HY := hid hy
    clear hx hy
    go_enter Tryd.func44, Tryd.ntmps44
    go_wp2
    go_loopw [5] (fun i wr => ∃ k : Nat, k ≤ l ∧ i = .int .i64 k ∧ Hid (xs.take k = ys.take k) ∧ Fr No w wr) (fun i _ => l - (intOf i).toNat)
    case atStart => exact ⟨0, by omega, rfl, hid rfl, Fr.refl _ _⟩
    case round =>
      obtain ⟨k, hk, rfl, HE, hf⟩ := hrel
      by_cases hlt : k < l
      · have hk1 : k < xs.length := by rw [HX.out.1]; exact hlt
        have hk2 : k < ys.length := by rw [HY.out.1]; exact hlt
        obtain ⟨x, hx⟩ : ∃ x, xs[k]? = some x := ⟨_, List.getElem?_eq_getElem hk1⟩
        obtain ⟨y, hy⟩ : ∃ y, ys[k]? = some y := ⟨_, List.getElem?_eq_getElem hk2⟩
        obtain ⟨g, o, rfl, hg, hc⟩ := (HX.out.fr hf).at_ (by omega)
        obtain ⟨g', o', rfl, hg', hc'⟩ := (HY.out.fr hf).at_ (by omega)
        obtain ⟨c0, c1⟩ := hc k x hx
        obtain ⟨d0, d1⟩ := hc' k y hy
        have hlt3 : (k : Int) < l := by omega
        have h0 : (0 : Int) ≤ k := by omega
        have HXk := hid hx
        have HYk := hid hy
        have HF := hid hf
        clear hc hc' hg hg' hk1 hk2 hx hy hf
        obtain ⟨a, n⟩ := x
        obtain ⟨b, q⟩ := y
        simp only [] at c0 c1 d0 d1
        by_cases e1 : a = b
        · subst e1
          by_cases e2 : n = q
          · subst e2
            go_wp2_with fail
            go_region_held3 (fun W' => W'.cell? ⟨g, o + k * 2, none⟩ = some (.int .i64 a) ∧ W'.cell? ⟨g, o + k * 2 + 1, none⟩ = some (.int .i64 n) ∧ W'.cell? ⟨g', o' + k * 2, none⟩ = some (.int .i64 a) ∧ W'.cell? ⟨g', o' + k * 2 + 1, none⟩ = some (.int .i64 n)) (go_keep) (fail)
            go_wp2
            go_roundw
            case rel => exact ⟨k + 1, by omega, by go_num, hid (by rw [List.take_add_one, List.take_add_one, HXk.out, HYk.out, HE.out]), HF.out.drew⟩
            case measure => simp [intOf]; omega
          · have hN := hid (ne_at HXk.out HYk.out (fun e => e2 (congrArg Prod.snd e)))
            go_wp2_with fail
            go_region_held3 (fun W' => W'.cell? ⟨g, o + k * 2, none⟩ = some (.int .i64 a) ∧ W'.cell? ⟨g, o + k * 2 + 1, none⟩ = some (.int .i64 n) ∧ W'.cell? ⟨g', o' + k * 2, none⟩ = some (.int .i64 a) ∧ W'.cell? ⟨g', o' + k * 2 + 1, none⟩ = some (.int .i64 q)) (go_keep) (fail)
            go_wp2
            go_ret
            exact ⟨retF HR hN.out, HF.out.drew⟩
        · have hN := hid (ne_at HXk.out HYk.out (fun e => e1 (congrArg Prod.fst e)))
          go_wp2_with fail
          go_region_held3 (fun W' => W'.cell? ⟨g, o + k * 2, none⟩ = some (.int .i64 a) ∧ W'.cell? ⟨g, o + k * 2 + 1, none⟩ = some (.int .i64 n) ∧ W'.cell? ⟨g', o' + k * 2, none⟩ = some (.int .i64 b) ∧ W'.cell? ⟨g', o' + k * 2 + 1, none⟩ = some (.int .i64 q)) (go_keep) (fail)
          go_wp2
          go_ret
          exact ⟨retF HR hN.out, HF.out.drew⟩
      · obtain rfl : k = l := by omega
        have hE : xs = ys := by
          have := HE.out
          rwa [List.take_of_length_le (by rw [HX.out.1]; exact Nat.le_refl _), List.take_of_length_le (by rw [HY.out.1]; exact Nat.le_refl _)] at this
        have HF := hid hf
        have hE2 := hid hE
        clear hf hE
        go_wp2
        go_ret
        exact ⟨retT HR hE2.out, HF.out⟩
  · have hE2 := hid (show xs ≠ ys from fun e => hlm (by rw [← hx.1, ← hy.1, e]))
    have hne : ¬ (l : Int) = m := by omega
    clear hx hy
    go_enter Tryd.func44, Tryd.ntmps44
    go_wp2
    go_ret
    exact ⟨retF HR hE2.out, Fr.refl _ _⟩
end Go.Proofs.YtkkbgbpmpcoffaaDoor.SpD
