/- LeBack: the walk. -/
import Derived.Test.YtlcafkjnikiomaaLePuts
namespace Go.Proofs.Ytlcafkjnikiomaa.LeBack
open Go.RowKit MSep MFrame LeA LeW LeR LeL LePuts

/-- May this be a number's size? -/
def okS (v : OpV) : Prop := v.size = 1 ∨ v.size = 2 ∨ v.size = 4 ∨ v.size = 8
/-- The bytes of these operations' numbers. -/
def enc : List OpV → List Int
  | [] => []
  | v :: l => low v.size.toNat v.n ++ enc l
theorem enc_snoc : ∀ (l : List OpV) (v : OpV), enc (l ++ [v]) = enc l ++ low v.size.toNat v.n
  | [], v => by simp [enc]
  | u :: l, v => by simp [enc, enc_snoc l v]
theorem num_low : ∀ (k : Nat) (n : Int), num (low k n) = n % 256 ^ k
  | 0, n => by simp [low, num, Int.emod_one]
  | k + 1, n => by
    rw [low, num, num_low k, Int.pow_succ]
    have h1 := Int.emod_add_mul_ediv n 256
    have h2 : n % (256 ^ k * 256) = n % 256 + 256 * (n / 256 % 256 ^ k) := by
      rw [Int.mul_comm (256 ^ k) 256, Int.emod_def, Int.emod_def n 256, Int.emod_def (n / 256), ← Int.ediv_ediv_of_nonneg (by omega), Int.mul_sub, ← Int.mul_assoc]
      omega
    rw [h2]
theorem low_u8 : ∀ (k : Nat) (n : Int), ∀ x ∈ low k n, 0 ≤ x ∧ x ≤ 255
  | 0, n => by simp [low]
  | k + 1, n => by
    intro x hx
    rw [low, List.mem_cons] at hx
    rcases hx with rfl | hx
    · omega
    · exact low_u8 k _ x hx
theorem enc_u8 : ∀ l : List OpV, ∀ x ∈ enc l, 0 ≤ x ∧ x ≤ 255
  | [] => by simp [enc]
  | v :: l => by
    intro x hx
    rw [enc, List.mem_append] at hx
    rcases hx with hx | hx
    · exact low_u8 _ _ x hx
    · exact enc_u8 l x hx

theorem walk_long (A : Option Addr) (l c : Nat) (w : World) (h : 500 < l) (hl : l ≤ maxLen) :
    Calls Try.prog 5 #[.slice A l c] w fun e w' => e = .returned (.bool true) ∧ Below w.heap.size w w' := by
  unfold maxLen at hl
  go_enter Try.func5, Try.ntmps5
  go_wp2_with (go_at_call 10; refine (lives_any _).mono ?_; rintro e w2 ⟨rfl, F2⟩)
  go_ret
  exact ⟨rfl, F2.below (Nat.le_refl _) (fun _ h => h.elim)⟩

set_option maxHeartbeats 4000000 in
theorem walk_short (A : Option Addr) (l c : Nat) (ops : List OpV) (w : World) (hl : l ≤ 500) (hops : OpsAt w A l ops) :
    Calls Try.prog 5 #[.slice A l c] w fun e w' => e = .returned (.bool true) ∧ Below w.heap.size w w' := by
  have HOP := hid hops
  clear hops
  have n0 : ¬ 500 < (l : Int) := by omega
  go_enter Try.func5, Try.ntmps5
  go_wp2_with fail
  refine (new_in _ _ (by omega) (by omega)).mono ?_
  rintro e w1 ⟨rfl, hw1⟩
  have W1 := WOk.new w (8 * l) (by omega) (by omega)
  have F1 : Fr No w w1 := hw1 ▸ (Fr.refl _ _).alloc _
  rw [hw1] at W1
  clear hw1
  go_wp2_with fail
  refine (lives_any _).mono ?_
  rintro e w2 ⟨rfl, F2⟩
  have W2 := W1.fr F2 (fun _ _ h => h)
  have G2 := F1.trans F2
  have L2 := G2.size
  clear W1 F1 F2
  go_wp2_with fail
  go_loopw [3, 4] (fun p i wr => ∃ (k : Nat) (bad : Bool) (sv : Value) (xs : List Int), k ≤ l ∧ p = .pointer (some ⟨w.heap.size, 0, none⟩) ∧ i = .int .i64 k ∧ WOk wr w.heap.size w.heap.size (8 * l) bad sv xs ∧ Fr No w wr ∧
    Hid (bad = false → (∀ v ∈ ops.take k, okS v) ∧ xs = enc (ops.take k) ∧ xs.length ≤ 8 * k)) (fun _ i _ => l - (intOf i).toNat)
  case atStart => exact ⟨0, false, .slice none 0 0, [], by omega, rfl, rfl, W2, G2, fun _ => ⟨by simp, by simp [enc], by simp⟩⟩
  case round =>
    obtain ⟨k, bad, sv, xs, hk, rfl, rfl, hB, hF, HI⟩ := hrel
    by_cases hlt : k < l
    · obtain ⟨v, g, o, rfl, hv, hfit, e0, e1, e2, e3, e4, e5⟩ := HOP.out.at_ hF hlt
      have HV := hid hv
      have hsz := hF.size
      have hn := hfit.n
      have HF := hid hF
      clear hF hv e0 e3 e4 e5
      go_wp2_with fail
      go_region_with (go_at_call 11; refine (put_any _ _ _ _ _ _ _ _ _ hn.1 (by omega) (by exact hsz) (by exact hB.fr (S := No) ((Fr.refl _ _).drewN 1) (fun _ _ h => h))).mono ?_; rintro e wP ⟨rfl, sv', WP, FP, OP⟩)
      all_goals
        clear OP
        have HI2 : Hid ((!goodP (8 * l) bad xs v.size) = false → (∀ u ∈ ops.take (k + 1), okS u) ∧ more (goodP (8 * l) bad xs v.size) xs (low v.size.toNat v.n) = enc (ops.take (k + 1)) ∧ (more (goodP (8 * l) bad xs v.size) xs (low v.size.toNat v.n)).length ≤ 8 * (k + 1)) := by
          intro hg
          have hg' : goodP (8 * l) bad xs v.size = true := by simpa using hg
          have hg2 := hg'
          simp [goodP] at hg2
          obtain ⟨hb, hs, _⟩ := hg2
          obtain ⟨i1, i2, i3⟩ := HI.out hb
          have ht : ops.take (k + 1) = ops.take k ++ [v] := by rw [List.take_add_one, HV.out]; rfl
          refine ⟨fun u hu => ?_, ?_, ?_⟩
          · rw [ht, List.mem_append, List.mem_singleton] at hu
            rcases hu with hu | rfl
            · exact i1 u hu
            · exact hs
          · rw [ht, enc_snoc, ← i2, more, if_pos hg']
          · rw [more, if_pos hg', List.length_append, low_len]
            omega
        have HFN : Hid (Fr No w wP) := (HF.out.drew).step FP (fun i hi h => by have := WOk.ge hB i h; omega)
        clear FP hB
        go_wp2
        go_roundw
        case rel => exact ⟨k + 1, _, _, _, by omega, rfl, by go_num, WP, HFN.out, HI2⟩
        case measure => simp [intOf]; omega
    · obtain rfl : k = l := by omega
      have HB := hid hB
      have HF := hid hF
      have hsz := hF.size
      cases bad with
      | true =>
        clear hB hF
        go_wp2_with fail
        refine (LeW.done_bad _ _ _ _ _ _ HB.out).mono ?_
        rintro e w' ⟨rfl, rfl⟩
        go_wp2_with fail
        refine (take_any _ _ _ [] w.heap.size _ (Rd.nil _ _) (by simp) (by omega) hsz).mono ?_
        rintro e w5 ⟨r, A5, c5, rfl, R5, F5, hr5, _⟩
        have G5 := HF.out.trans F5
        clear R5 F5 hr5
        go_wp2_with fail
        go_loop [8] (fun i => i = .int .i64 0) (fun _ => 0)
        case atStart => rfl
        case round =>
          subst hrel
          go_wp2
          all_goals
            go_ret
            exact ⟨rfl, G5.below (Nat.le_refl _) (fun _ h => h.elim)⟩
      | false =>
        have HI1 := hid (HI.out rfl)
        clear hB hF HI
        go_wp2_with fail
        refine (LeW.done_ok _ _ _ _ _ _ hsz HB.out).mono ?_
        rintro e w4 ⟨rfl, own4, F4⟩
        have G4 := HF.out.trans F4
        have L4 := G4.size
        obtain ⟨i1, i2, i3⟩ := HI1.out
        obtain ⟨z, hz⟩ : ∃ z, padded (8 * (k : Int)).toNat xs = enc ops ++ List.replicate z 0 := ⟨_, by
          have : ops.take k = ops := List.take_of_length_le (by rw [HOP.out.1]; omega)
          rw [padded, i2, this]⟩
        rw [hz] at own4
        have hu8 : ∀ x ∈ enc ops ++ List.replicate z 0, 0 ≤ x ∧ x ≤ 255 := by
          intro x hx
          rw [List.mem_append, List.mem_replicate] at hx
          rcases hx with hx | ⟨_, rfl⟩
          · exact enc_u8 ops x hx
          · omega
        have HOK : Hid (∀ v ∈ ops, okS v) := by
          have : ops.take k = ops := List.take_of_length_le (by rw [HOP.out.1]; omega)
          rw [this] at i1
          exact i1
        have HU := hid hu8
        have HW4 := hid own4
        clear i1 i2 hz hu8 own4 F4 HI1
        go_wp2_with fail
        refine (take_any _ _ _ (enc ops ++ List.replicate z 0) w.heap.size _ (Rd.own HW4.out) HU.out (by omega) L4).mono ?_
        rintro e w5 ⟨r, A5, c5, rfl, R5, F5, hr5, _⟩
        have G5 := G4.trans F5
        have hrg := hr5 r (.inl rfl)
        clear F5 hr5 HW4
        go_wp2_with fail
        go_loopw [8] (fun i wr => ∃ (j : Nat) (A' : Option Addr) (c' : Nat), j ≤ k ∧ i = .int .i64 j ∧ ROk wr w.heap.size r false A' c' (enc (ops.drop j) ++ List.replicate z 0) ∧ Fr No w wr) (fun i _ => k - (intOf i).toNat)
        case atStart => exact ⟨0, A5, c5, by omega, rfl, R5, G5⟩
        case round =>
          obtain ⟨j, A', c', hj, rfl, hR, hF⟩ := hrel
          by_cases hlt : j < k
          · obtain ⟨v, g, o, rfl, hv, hfit, e0, e1, e2, e3, e4, e5⟩ := HOP.out.at_ hF hlt
            have hs : okS v := HOK.out v (List.mem_of_getElem? hv)
            have hd : ops.drop j = v :: ops.drop (j + 1) := by
              have hlt2 : j < ops.length := by rw [HOP.out.1]; exact hlt
              rw [List.drop_eq_getElem_cons hlt2]
              rw [List.getElem?_eq_getElem hlt2] at hv
              injection hv with hv
              rw [hv]
            rw [hd] at hR
            have hn := hfit.n
            have HF := hid hF
            have hbm := hfit.b.2
            clear hF hd hfit e0 e3 e4 e5 hv
            obtain ⟨kd, size, n, ls, ms, ba, bl, bc, bz⟩ := v
            simp only [okS] at hs
            simp only [enc, List.append_assoc] at hR
            simp only at e1 e2 hn
            have fin : ∀ sz : Nat, size.toNat = sz → ∀ wr', ROk wr' w.heap.size r false (cutA A' c' sz) (c' - sz) (List.drop sz (low size.toNat n ++ (enc (ops.drop (j + 1)) ++ List.replicate z 0))) → ROk wr' w.heap.size r false (cutA A' c' sz) (c' - sz) (enc (ops.drop (j + 1)) ++ List.replicate z 0) := by
              intro sz hsz wr' h
              rw [hsz, List.drop_left' (low_len sz n)] at h
              exact h
            have val : ∀ sz : Nat, size.toNat = sz → num (List.take sz (low size.toNat n ++ (enc (ops.drop (j + 1)) ++ List.replicate z 0))) = n % 256 ^ sz := by
              intro sz hsz
              rw [hsz, List.take_left' (low_len sz n), num_low]
            have lens : ∀ sz : Nat, size.toNat = sz → sz ≤ (low size.toNat n ++ (enc (ops.drop (j + 1)) ++ List.replicate z 0)).length := by
              intro sz hsz
              rw [hsz, List.length_append, low_len]
              omega
            have FIN := hid fin
            have VAL := hid val
            have LEN := hid lens
            clear fin val lens
            rcases hs with rfl | rfl | rfl | rfl
            · have hget := get_ok r 1 w.heap.size false A' c' _ wr (by omega) (LEN.out 1 rfl) hR
              rw [VAL.out 1 rfl] at hget
              have HG := hid hget
              clear hget
              go_wp2_with (go_at_call 19; refine HG.out.mono ?_; rintro e w6 ⟨rfl, R6, F6⟩)
              go_roundw
              case rel => exact ⟨j + 1, _, _, by omega, by go_num, FIN.out 1 rfl _ R6, HF.out.step F6 (fun i hi h => by subst h; omega)⟩
              case measure => simp [intOf]; omega
            · have hget := get_ok r 2 w.heap.size false A' c' _ wr (by omega) (LEN.out 2 rfl) hR
              rw [VAL.out 2 rfl] at hget
              have HG := hid hget
              clear hget
              go_wp2_with (go_at_call 19; refine HG.out.mono ?_; rintro e w6 ⟨rfl, R6, F6⟩)
              go_roundw
              case rel => exact ⟨j + 1, _, _, by omega, by go_num, FIN.out 2 rfl _ R6, HF.out.step F6 (fun i hi h => by subst h; omega)⟩
              case measure => simp [intOf]; omega
            · have hget := get_ok r 4 w.heap.size false A' c' _ wr (by omega) (LEN.out 4 rfl) hR
              rw [VAL.out 4 rfl] at hget
              have HG := hid hget
              clear hget
              go_wp2_with (go_at_call 19; refine HG.out.mono ?_; rintro e w6 ⟨rfl, R6, F6⟩)
              go_roundw
              case rel => exact ⟨j + 1, _, _, by omega, by go_num, FIN.out 4 rfl _ R6, HF.out.step F6 (fun i hi h => by subst h; omega)⟩
              case measure => simp [intOf]; omega
            · have hget := get_ok r 8 w.heap.size false A' c' _ wr (by omega) (LEN.out 8 rfl) hR
              rw [VAL.out 8 rfl, Int.emod_eq_of_lt hn.1 (by simp; omega)] at hget
              have HG := hid hget
              clear hget
              go_wp2_with (go_at_call 19; refine HG.out.mono ?_; rintro e w6 ⟨rfl, R6, F6⟩)
              go_roundw
              case rel => exact ⟨j + 1, _, _, by omega, by go_num, FIN.out 8 rfl _ R6, HF.out.step F6 (fun i hi h => by subst h; omega)⟩
              case measure => simp [intOf]; omega
          · obtain rfl : j = k := by omega
            have hd : ops.drop j = [] := List.drop_eq_nil_of_le (by rw [HOP.out.1]; omega)
            rw [hd, enc, List.nil_append] at hR
            have he : endOf (List.replicate z 0) = 0 := by simp [endOf, allZero]
            have hdone := done_ok _ _ _ _ _ _ hR
            rw [he] at hdone
            have HD := hid hdone
            have HF := hid hF
            clear hd hdone he hF
            go_wp2_with (go_at_call 27; refine HD.out.mono ?_; rintro e w6 ⟨rfl, rfl⟩)
            go_ret
            exact ⟨rfl, HF.out.below (Nat.le_refl _) (fun _ h => h.elim)⟩

theorem walk (A : Option Addr) (l c : Nat) (ops : List OpV) (w : World) (hops : OpsAt w A l ops) :
    Calls Try.prog 5 #[.slice A l c] w fun e w' => e = .returned (.bool true) ∧ Below w.heap.size w w' := by
  by_cases h : l ≤ 500
  · exact walk_short A l c ops w h hops
  · exact walk_long A l c w (by omega) hops.2.1
end Go.Proofs.Ytlcafkjnikiomaa.LeBack
