/- The law of Sweep, walked. Condition: the slice reads as a list of whole numbers. -/
import Derived.Test.YthldppgbopiaiaaPoE
import Derived.Deep.DeepCutAuto
namespace Go.Proofs.Ythldppgbopiaiaa.PoF
open Go.RowKit MSep MSepC MSpM SpA SpO PoA PoB PoC PoD PoE

theorem rdi_at {w : World} {A : Option Addr} {l : Nat} {xs : List Int} (h : RdI w A l xs) (hl : 0 < l) : ∃ g o, A = some ⟨g, o, none⟩ ∧ ∀ i x, xs[i]? = some x → w.cell? ⟨g, o + i, none⟩ = some (.int .i64 x) := by
  obtain ⟨g, o, e, _, hc⟩ := h.2.2 hl
  refine ⟨g, o, e, fun i x hi => hc i _ ?_⟩
  rw [List.getElem?_map, hi]
  rfl
theorem rd_own {B : Nat} {w : World} {A : Option Addr} {l c : Nat} {xs : List Int} (h : OutI B w (.slice A l c) xs) (hl : xs.length = l) : RdI w A l xs := by
  subst hl
  unfold OutI at h
  rcases Nat.eq_zero_or_pos xs.length with h0 | h0
  · obtain rfl : xs = [] := List.eq_nil_of_length_eq_zero h0
    exact ⟨rfl, Rd.nil _ _⟩
  · obtain ⟨g, rfl, _, hg⟩ := outI_at h h0
    refine ⟨rfl, by simp, fun _ => ⟨g, 0, rfl, hg, fun j u hu => ?_⟩⟩
    have hj : j < xs.length := by
      have := (List.getElem?_eq_some_iff.1 hu).1
      simpa using this
    rw [Nat.zero_add, World.ownsRow.cellAt h j (by omega)]
    exact hu
theorem cnt_step {l : List Int} {k : Nat} {x v : Int} (h : l[k]? = some x) : ((l.take (k + 1)).count v : Int) = (l.take k).count v + if x = v then 1 else 0 := by
  have hk : k < l.length := (List.getElem?_eq_some_iff.1 h).1
  have e : l[k] = x := (List.getElem?_eq_some_iff.1 h).2
  rw [List.take_succ_eq_append_getElem hk, e, List.count_append, List.count_singleton]
  by_cases hx : x = v
  · simp [hx]
  · have : (x == v) = false := by simpa using hx
    simp [hx, this]
theorem cnt_le (l : List Int) (k : Nat) (v : Int) : 0 ≤ ((l.take k).count v : Int) ∧ ((l.take k).count v : Int) ≤ k := by
  have h1 := List.count_le_length (a := v) (l := l.take k)
  have h2 : (l.take k).length ≤ k := List.length_take_le _ _
  omega

set_option maxRecDepth 100000 in
set_option maxHeartbeats 8000000 in
theorem walk_ (h : Int) (A : Option Addr) (l c : Nat) (xs : List Int) (w : World) (hx : RdI w A l xs) (hb : l * 8 ≤ 140737488355328) : Calls Try.prog 10 #[.int .i64 h, .slice A l c] w fun e w' => e = .returned (.bool true) ∧ Fr No w w' := by
  have HX := hid hx
  have HB := hid hb
  have hlm : (l : Int) ≤ 17592186044416 := by omega
  have HX1 := hid (hx.fr ((Fr.refl No w).alloc (.cells #[] 3)))
  have O0 := hid (own_lit w)
  have HLEN := hid hx.1
  clear hx hb
  go_enter Try.func10, Try.ntmps10
  go_wp2_with (at_builtin; refine app_i rfl (.tmp 14) (.tmp 15) rfl w.heap.size _ rfl O0.out _ l _ xs rfl HX1.out HB.out (by simp) ?_)
  intro A1 c1 w1 o1 f1
  have FW := hid (fr_ownI ((Fr.refl No w).alloc (.cells #[] 3)) (lit_ge w) (Nat.le_refl _) f1)
  have R1 := hid (rd_own o1 HLEN.out)
  clear o1 f1 O0 HX1
  go_wp2_with fail
  refine (sweep_ok h A1 l c1 xs _ HB.out R1.out).mono ?_
  rintro e w2 ⟨A2, c2, ys, rfl, r2, hp, hs, f2⟩
  have FW := kf f2 FW
  have R1 := hid (R1.out.fr f2)
  have R2 := hid (show RdI w2 A2 l ys by have h := HLEN.out; rw [h] at r2; exact r2)
  have HP := hid hp
  have HS := hid hs
  have HLE := HLEN
  rw [HLEN.out]
  clear r2 hp hs f2
  go_wp2_with fail
  refine (lives_ok _).mono ?_
  rintro e w3 ⟨rfl, f3⟩
  have FW := kf f3 FW
  have R1 := hid (R1.out.fr f3)
  have R2 := hid (R2.out.fr f3)
  clear f3
  go_wp2
  go_loopw [7] (fun i wr => ∃ k : Nat, k ≤ l ∧ i = .int .i64 k ∧ Fr No w3 wr) (fun i _ => l - (intOf i).toNat)
  case atStart => exact ⟨0, by omega, rfl, Fr.refl _ _⟩
  case round =>
    obtain ⟨k, hk, rfl, hf⟩ := hrel
    by_cases hlt : k < l
    · have hk1 : k < xs.length := by rw [HLEN.out]; exact hlt
      obtain ⟨x, hx⟩ : ∃ x, xs[k]? = some x := ⟨_, List.getElem?_eq_getElem hk1⟩
      obtain ⟨g1, o1, rfl, q1⟩ := rdi_at (R1.out.fr hf) (by omega)
      obtain ⟨g, o, rfl, q⟩ := rdi_at (HX.out.fr (FW.out.trans hf)) (by omega)
      have q1 := q1 k _ hx
      have q := q k _ hx
      have HF := hid hf
      have HK := hid hlt
      have ilt : (k : Int) < l := by omega
      have i0 : (0 : Int) ≤ k := by omega
      clear hx hk1 hf hk hlt
      go_wp2_with fail
      go_quiet (fail)
      go_wp2
      go_roundw
      case rel => exact ⟨k + 1, HK.out, by go_num, by first | exact HF.out.drewN _ | exact HF.out.drew⟩
      case measure => have := HK.out; simp [intOf]; omega
    · obtain rfl : l = k := by omega
      have FW := hid (FW.out.trans hf)
      have R2 := hid (R2.out.fr hf)
      clear hf hlt hk R1
      go_wp2
      obtain ⟨w4, hw4⟩ : ∃ w4, w4 = wr := ⟨_, rfl⟩
      subst hw4
      go_loopw [8] (fun i wr => ∃ j : Nat, j ≤ l ∧ i = .int .i64 ((j : Int) + 1) ∧ Fr No w4 wr) (fun i _ => l + 1 - (intOf i).toNat)
      case atStart => exact ⟨0, by omega, rfl, Fr.refl _ _⟩
      case round =>
        obtain ⟨j, hj, rfl, hf⟩ := hrel
        by_cases hlt : j + 1 < l
        · have hl2 : ys.length = l := R2.out.1
          obtain ⟨x, hx⟩ : ∃ x, ys[j]? = some x := ⟨_, List.getElem?_eq_getElem (by omega)⟩
          obtain ⟨y, hy⟩ : ∃ y, ys[j + 1]? = some y := ⟨_, List.getElem?_eq_getElem (by omega)⟩
          have hnb : ¬ bef h y x := by
            obtain ⟨h1, e1⟩ := List.getElem?_eq_some_iff.1 hx
            obtain ⟨h2, e2⟩ := List.getElem?_eq_some_iff.1 hy
            have := (List.pairwise_iff_getElem.1 HS.out) j (j + 1) h1 h2 (by omega)
            rw [e1, e2] at this
            exact this
          unfold bef at hnb
          obtain ⟨g2, o2, rfl, q2⟩ := rdi_at (R2.out.fr hf) (by omega)
          have q := q2 j _ hx
          have q' := q2 (j + 1) _ hy
          have HF := hid hf
          have HK := hid hlt
          have ilt : (j : Int) + 1 < l := by omega
          have i0 : (0 : Int) ≤ (j : Int) + 1 := by omega
          have e1 : IntKind.i64.wrap ((j : Int) + 1 - 1) = j := by rw [show (j : Int) + 1 - 1 = j by omega]; exact Go.IntWalk.i64_in _ (by omega)
          have e2 : ((j : Int) + 1).toNat = j + 1 := by omega
          have hcase : (h ≤ x ∧ h ≤ y ∧ x ≤ y) ∨ (x < h ∧ y < h ∧ x ≤ y) ∨ (h ≤ x ∧ y < h) := by omega
          have HCS := hid hcase
          clear hx hy hf hj hlt hl2 hnb hcase
          rcases HCS.out with ⟨c1, c2, c3⟩ | ⟨c1, c2, c3⟩ | ⟨c1, c2⟩
          all_goals
            go_wp2_with fail
            go_quiet (fail)
            go_wp2
            go_roundw
            case rel => exact ⟨j + 1, by have := HK.out; omega, by go_num, by first | exact HF.out.drewN _ | exact HF.out.drew⟩
            case measure => have := HK.out; simp [intOf]; omega
        · have h1 : ¬ (j : Int) + 1 < l := by omega
          have FW := hid (FW.out.trans hf)
          have R2 := hid (R2.out.fr hf)
          clear hf hlt hj
          by_cases h100 : 100 < l
          · have i100 : (100 : Int) < l := by omega
            go_wp2
            go_ret
            exact ⟨rfl, FW.out⟩
          · have i100 : ¬ (100 : Int) < l := by omega
            have il : (l : Int) ≤ 100 := by omega
            have HL100 := hid (show l ≤ 100 by omega)
            clear h100
            go_wp2
            obtain ⟨w5, hw5⟩ : ∃ w5, w5 = wr := ⟨_, rfl⟩
            subst hw5
            go_loopw [11] (fun i wr => ∃ k : Nat, k ≤ l ∧ i = .int .i64 k ∧ Fr No w5 wr) (fun i _ => l - (intOf i).toNat)
            case atStart => exact ⟨0, by omega, rfl, Fr.refl _ _⟩
            case round =>
              obtain ⟨k, hk, rfl, hf⟩ := hrel
              by_cases hlt : k < l
              · obtain ⟨v, hv⟩ : ∃ x, xs[k]? = some x := ⟨_, List.getElem?_eq_getElem (by rw [HLEN.out]; exact hlt)⟩
                have HV := hid hv
                have HK := hid hlt
                have HF0 := hid hf
                have ilt : (k : Int) < l := by omega
                have i0 : (0 : Int) ≤ k := by omega
                clear hf hk hlt hv
                go_wp2
                go_loopw [12, 13] (fun n i wi => ∃ m : Nat, m ≤ l ∧ i = .int .i64 m ∧ n = .int .i64 (((xs.take m).count v : Int) - (ys.take m).count v) ∧ Fr No w5 wi) (fun _ i _ => l - (intOf i).toNat)
                case atStart => exact ⟨0, by omega, rfl, by simp, HF0.out⟩
                case round =>
                  obtain ⟨m, hm, rfl, rfl, hf⟩ := hrel
                  have b1 := cnt_le xs m v
                  have b2 := cnt_le ys m v
                  have HL1 := hid HL100.out
                  by_cases hmt : m < l
                  · have hl2 : ys.length = l := R2.out.1
                    obtain ⟨x, hx⟩ : ∃ x, xs[m]? = some x := ⟨_, List.getElem?_eq_getElem (by rw [HLEN.out]; exact hmt)⟩
                    obtain ⟨y, hy⟩ : ∃ y, ys[m]? = some y := ⟨_, List.getElem?_eq_getElem (by omega)⟩
                    have S1 := hid (cnt_step (v := v) hx)
                    have S2 := hid (cnt_step (v := v) hy)
                    obtain ⟨C1, hC1⟩ : ∃ C : Int, ((xs.take m).count v : Int) = C := ⟨_, rfl⟩
                    obtain ⟨C2, hC2⟩ : ∃ C : Int, ((ys.take m).count v : Int) = C := ⟨_, rfl⟩
                    rw [hC1] at b1 S1 ⊢
                    rw [hC2] at b2 S2 ⊢
                    obtain ⟨g, o, rfl, q0⟩ := rdi_at (HX.out.fr (FW.out.trans hf)) (by omega)
                    obtain ⟨g2, o2, rfl, q2⟩ := rdi_at (R2.out.fr hf) (by omega)
                    have qv := q0 k _ HV.out
                    have qx := q0 m _ hx
                    have qy := q2 m _ hy
                    have HF := hid hf
                    have HMT := hid hmt
                    have imt : (m : Int) < l := by omega
                    have im0 : (0 : Int) ≤ m := by omega
                    obtain ⟨N, hN⟩ : ∃ N : Int, C1 - C2 = N := ⟨_, rfl⟩
                    have hN1 : -100 ≤ N := by omega
                    have hN2 : N ≤ 100 := by omega
                    have HN := hid hN
                    rw [hN]
                    clear hx hy hf hm hmt hl2 b1 b2 hC1 hC2 hN q0 q2
                    by_cases ex : x = v
                    · have ex' : (x == v) = true := by simpa using ex
                      have EX := hid ex
                      clear ex
                      by_cases ey : y = v
                      · have ey' : (y == v) = true := by simpa using ey
                        have EY := hid ey
                        clear ey
                        go_wp2_with fail
                        go_quiet (fail)
                        go_wp2_with fail
                        go_quiet (fail)
                        go_wp2
                        go_roundw
                        case rel => exact ⟨m + 1, HMT.out, by go_num, by rw [S1.out, S2.out, if_pos EX.out, if_pos EY.out, ← HN.out]; congr 1; omega, by first | exact (HF.out.drewN _).drewN _ | exact HF.out.drew.drew | exact HF.out.drewN _⟩
                        case measure => have := HMT.out; simp [intOf]; omega
                      · have ey' : (y == v) = false := by simpa using ey
                        have EY := hid ey
                        clear ey
                        go_wp2_with fail
                        go_quiet (fail)
                        go_wp2_with fail
                        go_quiet (fail)
                        go_wp2
                        go_roundw
                        case rel => exact ⟨m + 1, HMT.out, by go_num, by rw [S1.out, S2.out, if_pos EX.out, if_neg EY.out, ← HN.out]; congr 1; omega, by first | exact (HF.out.drewN _).drewN _ | exact HF.out.drew.drew | exact HF.out.drewN _⟩
                        case measure => have := HMT.out; simp [intOf]; omega
                    · have ex' : (x == v) = false := by simpa using ex
                      have EX := hid ex
                      clear ex
                      by_cases ey : y = v
                      · have ey' : (y == v) = true := by simpa using ey
                        have EY := hid ey
                        clear ey
                        go_wp2_with fail
                        go_quiet (fail)
                        go_wp2_with fail
                        go_quiet (fail)
                        go_wp2
                        go_roundw
                        case rel => exact ⟨m + 1, HMT.out, by go_num, by rw [S1.out, S2.out, if_neg EX.out, if_pos EY.out, ← HN.out]; congr 1; omega, by first | exact (HF.out.drewN _).drewN _ | exact HF.out.drew.drew | exact HF.out.drewN _⟩
                        case measure => have := HMT.out; simp [intOf]; omega
                      · have ey' : (y == v) = false := by simpa using ey
                        have EY := hid ey
                        clear ey
                        go_wp2_with fail
                        go_quiet (fail)
                        go_wp2_with fail
                        go_quiet (fail)
                        go_wp2
                        go_roundw
                        case rel => exact ⟨m + 1, HMT.out, by go_num, by rw [S1.out, S2.out, if_neg EX.out, if_neg EY.out, ← HN.out]; congr 1; omega, by first | exact (HF.out.drewN _).drewN _ | exact HF.out.drew.drew | exact HF.out.drewN _⟩
                        case measure => have := HMT.out; simp [intOf]; omega
                  · obtain rfl : l = m := by omega
                    have ez : ((xs.take l).count v : Int) - (ys.take l).count v = 0 := by
                      rw [List.take_of_length_le (by rw [HLEN.out]; exact Nat.le_refl _), List.take_of_length_le (by rw [R2.out.1]; exact Nat.le_refl _), HP.out.count_eq]
                      omega
                    rw [ez]
                    have HF := hid hf
                    clear hf hmt hm b1 b2 ez
                    go_wp2
                    go_roundw
                    case rel => exact ⟨k + 1, HK.out, by go_num, HF.out⟩
                    case measure => have := HK.out; simp [intOf]; omega
              · have i9 : ¬ (k : Int) < l := by omega
                have FW := hid (FW.out.trans hf)
                clear hf hk hlt
                go_wp2
                go_ret
                exact ⟨rfl, FW.out⟩
end Go.Proofs.Ythldppgbopiaiaa.PoF
