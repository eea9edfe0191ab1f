/- Contracts of the plain Unpack and of 'looks' in the statements of layer 1. Conditions: what is handed in reads as bytes, or as bits. -/
import Derived.Test.YtlcafkjnikiomaaLeU
namespace Go.Proofs.Ytlcafkjnikiomaa.LeV
open Go.RowKit MSep MFrame LeA LeW LeR LeB LeX LeU

theorem bool_info : (Try.prog.info? 4).map (fun i => (i.zero, i.size, i.bytes)) = some (some (.bool false), 1, 1) := by kernel_rfl

/-- The first k of n bits, the others not set. -/
def partly (n k : Nat) (bs : List Int) : List Value := (List.range n).map fun i => Value.bool (decide (i < k) && bitOf bs i)
/-- n bits. -/
def bits_ (n : Nat) (bs : List Int) : List Value := (List.range n).map fun i => Value.bool (bitOf bs i)
theorem bits_get (n j : Nat) (bs : List Int) (h : j < n) : (bits_ n bs)[j]? = some (Value.bool (bitOf bs j)) := by
  rw [bits_, List.getElem?_map, List.getElem?_range h]
  rfl
theorem partly_zero (n : Nat) (bs : List Int) : partly n 0 bs = List.replicate n (Value.bool false) := by
  apply List.ext_getElem?
  intro i
  simp only [partly, List.getElem?_map, List.getElem?_replicate]
  by_cases h : i < n
  · rw [if_pos h, List.getElem?_range h]
    simp
  · rw [if_neg h, List.getElem?_eq_none (by simp; omega)]
    rfl
theorem partly_set (n k : Nat) (bs : List Int) : (partly n k bs).set k (Value.bool (bitOf bs k)) = partly n (k + 1) bs := by
  apply List.ext_getElem?
  intro i
  rw [List.getElem?_set]
  simp only [partly, List.getElem?_map, List.length_map, List.length_range]
  by_cases h : k = i
  · subst h
    by_cases hn : k < n
    · simp [hn]
    · simp [hn]
  · rw [if_neg h]
    by_cases hn : i < n
    · rw [List.getElem?_range hn]
      simp only [Option.map_some]
      rw [show decide (i < k) = decide (i < k + 1) from by rw [decide_eq_decide]; omega]
    · rw [List.getElem?_eq_none (by simp; omega)]
      rfl
theorem partly_full (n k : Nat) (bs : List Int) (h : n ≤ k) : partly n k bs = bits_ n bs := by
  apply List.ext_getElem?
  intro i
  simp only [partly, bits_, List.getElem?_map]
  by_cases hn : i < n
  · rw [List.getElem?_range hn]
    simp
    intro h1
    omega
  · rw [List.getElem?_eq_none (by simp; omega)]
    rfl
theorem partly_over (n k : Nat) (bs : List Int) (h : n ≤ k) : partly n (k + 1) bs = partly n k bs := by rw [partly_full n k bs h, partly_full n (k + 1) bs (by omega)]
theorem partly_len (n k : Nat) (bs : List Int) : (partly n k bs).length = n := by simp [partly]

theorem yunpack_len (n : Nat) (A : Option Addr) (l c : Nat) (w : World) (hn : n ≤ 65536) (hl : l ≠ (n + 7) / 8) (hm : l ≤ maxLen) :
    Calls Try.prog 37 #[.int .i64 n, .slice A l c] w fun e w' => e = .returned (.tuple #[.slice none 0 0, .bool false]) ∧ w = w' := by
  unfold maxLen at hm
  have hne : ((l : Int) != ((n : Int) + 7) / 8) = true := by rw [bne_iff_ne]; omega
  go_enter Try.func37, Try.ntmps37
  go_wp2
  go_ret2
  exact ⟨rfl, rfl⟩

set_option maxHeartbeats 1000000 in
theorem yunpack_ok (n : Nat) (A : Option Addr) (l c : Nat) (bs : List Int) (B : Nat) (w : World) (hn : n ≤ 65536) (hl : l = (n + 7) / 8) (hB : IsB w A l c bs) (ht : tailOk n bs = true) (hb0 : B ≤ w.heap.size) :
    Calls Try.prog 37 #[.int .i64 n, .slice A l c] w fun e w' => e = .returned (.tuple #[.slice (some ⟨w.heap.size, 0, none⟩) n n, .bool true]) ∧
      w'.ownsRow B 4 1 (.slice (some ⟨w.heap.size, 0, none⟩) n n) n (bits_ n bs) ∧ Fr No w w' := by
  obtain ⟨i0, hi, hz0, hz1, hz2⟩ := info_parts bool_info
  have hlen : bs.length = l := by simpa using hB.1.1
  have hP := (tail_iff n bs (hlen.trans hl) hB.2.2.2).1 ht
  rw [hlen] at hP
  have HP := hid hP
  have HB := hid hB
  have hne : ((l : Int) != ((n : Int) + 7) / 8) = false := by rw [bne_eq_false_iff_eq]; omega
  have hl2 : l ≤ 8193 := by omega
  have HL := hid hl
  clear hP hB hl hlen ht
  go_enter Try.func37, Try.ntmps37
  go_wp2_with (at_make; go_must (refine wpList_make_full _ rfl _ _ 56 rfl B 4 i0 (.bool false) 1 Try.underlying56 hi hz0 hz1 .i64 .i64 _ _ n rfl rfl rfl rfl (by rw [hz2]; omega) (by simp only [maxLen]; omega) hb0 ?_))
  intro w1 hown1 hg1
  have hF1 : Fr No w w1 := (Fr.refl _ _).grown hg1 (fun k hk => by cases hk)
  have hown2 : w1.ownsRow B 4 1 (.slice (some ⟨w.heap.size, 0, none⟩) n n) n (partly n 0 bs) := by
    rw [partly_zero]
    simpa [toList_madeCells_one] using hown1
  have HO := hid hown2
  have HF := hid hF1
  clear hown1 hown2 hg1 hF1
  go_wp2
  go_loopw [7] (fun i wr => ∃ k : Nat, k ≤ 8 * l ∧ i = .int .i64 k ∧ wr.ownsRow B 4 1 (.slice (some ⟨w.heap.size, 0, none⟩) n n) n (partly n k bs) ∧ Fr No w wr) (fun i _ => 8 * l - (intOf i).toNat)
  case atStart => exact ⟨0, by omega, rfl, HO.out, HF.out⟩
  case round =>
    obtain ⟨k, hk, rfl, hown, hF⟩ := hrel
    by_cases hlt : k < 8 * l
    · obtain ⟨d, o, x, rfl, hx, hd, hc, x0, x1⟩ := byte_at (HB.out.fr hF) (k / 8) (by omega)
      have hbit : bitOf bs k = (x / 2 ^ (k % 8) % 2 == 1) := by rw [bitOf, hd]
      have hdiv : (k : Int) / 8 < (l : Int) := by omega
      have hge : 0 ≤ x / 2 ^ (k % 8) := Int.ediv_nonneg x0 (Int.pow_nonneg (by omega))
      have HF2 := hid hF
      clear hx hd hF
      by_cases hkn : k < n
      · have hcell : wr.cell? ⟨w.heap.size, k, none⟩ = (partly n k bs)[k]? := hown.cellAt k (by omega)
        have hcell2 : ∃ v, wr.cell? ⟨w.heap.size, k, none⟩ = some v := ⟨_, hcell.trans (List.getElem?_eq_getElem (by rw [partly_len]; exact hkn))⟩
        obtain ⟨v0, hv0⟩ := hcell2
        have hfr := hown.frozenAt k
        have hst := hown.stored k (Value.bool (bitOf bs k))
        rw [partly_set] at hst
        have HST := hid hst
        have HBIT := hid hbit
        have hnk : ¬ n ≤ k := by omega
        clear hcell hst hown hbit
        go_wp2
        go_roundw
        case rel =>
          rw [← HBIT.out]
          exact ⟨k + 1, by omega, by go_num, HST.out.1, HF2.out.grown HST.out.2 (fun q hq hs => by injection hq with hq; omega)⟩
        case measure => simp [intOf]; omega
      · have hbf : (x / 2 ^ (k % 8) % 2 == 1) = false := by rw [← hbit]; exact HP.out k (by omega) hlt
        have hov := partly_over n k bs (by omega)
        have HOW := hid hown
        have hnk : (n : Int) ≤ (k : Int) := by omega
        clear hbit hown
        go_wp2
        go_roundw
        case rel =>
          refine ⟨k + 1, by omega, by go_num, ?_, HF2.out⟩
          rw [hov]
          exact HOW.out
        case measure => simp [intOf]; omega
    · obtain rfl : k = 8 * l := by omega
      have HOW := hid hown
      have HF2 := hid hF
      clear hown hF
      go_wp2
      go_ret2
      have := HOW.out
      rw [partly_full n _ bs (by have := HL.out; omega)] at this
      exact ⟨rfl, this, HF2.out⟩

set_option maxHeartbeats 1000000 in
theorem yunpack_bad (n : Nat) (A : Option Addr) (l c : Nat) (bs : List Int) (B : Nat) (w : World) (hn : n ≤ 65536) (hl : l = (n + 7) / 8) (hB : IsB w A l c bs) (ht : tailOk n bs = false) (hb0 : B ≤ w.heap.size) :
    Calls Try.prog 37 #[.int .i64 n, .slice A l c] w fun e w' => e = .returned (.tuple #[.slice none 0 0, .bool false]) ∧ Fr No w w' := by
  obtain ⟨i0, hi, hz0, hz1, hz2⟩ := info_parts bool_info
  have hlen : bs.length = l := by simpa using hB.1.1
  obtain ⟨m0, hm0, hm1, hm2⟩ : ∃ i, n ≤ i ∧ i < 8 * l ∧ bitOf bs i = true := by
    refine Classical.byContradiction fun hno => ?_
    have h1 := (tail_iff n bs (hlen.trans hl) hB.2.2.2).2 fun i h1 h2 => by
      cases hb : bitOf bs i with
      | false => rfl
      | true => exact absurd ⟨i, h1, by omega, hb⟩ hno
    rw [ht] at h1
    cases h1
  have HM := hid hm2
  have HB := hid hB
  have hne : ((l : Int) != ((n : Int) + 7) / 8) = false := by rw [bne_eq_false_iff_eq]; omega
  have hl2 : l ≤ 8193 := by omega
  have HL := hid hl
  clear hm2 hB hl hlen ht
  go_enter Try.func37, Try.ntmps37
  go_wp2_with (at_make; go_must (refine wpList_make_full _ rfl _ _ 56 rfl B 4 i0 (.bool false) 1 Try.underlying56 hi hz0 hz1 .i64 .i64 _ _ n rfl rfl rfl rfl (by rw [hz2]; omega) (by simp only [maxLen]; omega) hb0 ?_))
  intro w1 hown1 hg1
  have hF1 : Fr No w w1 := (Fr.refl _ _).grown hg1 (fun k hk => by cases hk)
  have hown2 : w1.ownsRow B 4 1 (.slice (some ⟨w.heap.size, 0, none⟩) n n) n (partly n 0 bs) := by
    rw [partly_zero]
    simpa [toList_madeCells_one] using hown1
  have HO := hid hown2
  have HF := hid hF1
  clear hown1 hown2 hg1 hF1
  go_wp2
  go_loopw [7] (fun i wr => ∃ k : Nat, k ≤ m0 ∧ i = .int .i64 k ∧ wr.ownsRow B 4 1 (.slice (some ⟨w.heap.size, 0, none⟩) n n) n (partly n k bs) ∧ Fr No w wr) (fun i _ => 8 * l - (intOf i).toNat)
  case atStart => exact ⟨0, by omega, rfl, HO.out, HF.out⟩
  case round =>
    obtain ⟨k, hk, rfl, hown, hF⟩ := hrel
    have hlt : k < 8 * l := by omega
    · obtain ⟨d, o, x, rfl, hx, hd, hc, x0, x1⟩ := byte_at (HB.out.fr hF) (k / 8) (by omega)
      have hbit : bitOf bs k = (x / 2 ^ (k % 8) % 2 == 1) := by rw [bitOf, hd]
      have hdiv : (k : Int) / 8 < (l : Int) := by omega
      have hge : 0 ≤ x / 2 ^ (k % 8) := Int.ediv_nonneg x0 (Int.pow_nonneg (by omega))
      have HF2 := hid hF
      clear hx hd hF
      by_cases hkn : k < n
      · have hcell : wr.cell? ⟨w.heap.size, k, none⟩ = (partly n k bs)[k]? := hown.cellAt k (by omega)
        have hcell2 : ∃ v, wr.cell? ⟨w.heap.size, k, none⟩ = some v := ⟨_, hcell.trans (List.getElem?_eq_getElem (by rw [partly_len]; exact hkn))⟩
        obtain ⟨v0, hv0⟩ := hcell2
        have hfr := hown.frozenAt k
        have hst := hown.stored k (Value.bool (bitOf bs k))
        rw [partly_set] at hst
        have HST := hid hst
        have HBIT := hid hbit
        have hnk : ¬ n ≤ k := by omega
        clear hcell hst hown hbit
        go_wp2
        go_roundw
        case rel =>
          rw [← HBIT.out]
          exact ⟨k + 1, by omega, by go_num, HST.out.1, HF2.out.grown HST.out.2 (fun q hq hs => by injection hq with hq; omega)⟩
        case measure => simp [intOf]; omega
      · have HOW := hid hown
        have hov := partly_over n k bs (by omega)
        have hnk : (n : Int) ≤ (k : Int) := by omega
        cases hbf : (x / 2 ^ (k % 8) % 2 == 1) with
        | true =>
          clear hbit hown
          go_wp2
          go_ret2
          exact ⟨rfl, HF2.out⟩
        | false =>
          have hkm : k < m0 := by
            rcases Nat.lt_or_ge k m0 with h | h
            · exact h
            · obtain rfl : k = m0 := by omega
              have := HM.out
              rw [hbit, hbf] at this
              cases this
          clear hbit hown
          go_wp2
          go_roundw
          case rel =>
            refine ⟨k + 1, by omega, by go_num, ?_, HF2.out⟩
            rw [hov]
            exact HOW.out
          case measure => simp [intOf]; omega

/-- The first of the bits from k to n that is so, and not ahead of start. -/
def lookP (n : Nat) (bs : List Int) (is : Bool) (start : Int) (k : Nat) : Int := firstP (fun i => decide (start ≤ i) && (bitOf bs i == is)) k (n - k)
theorem lookP_step (n : Nat) (bs : List Int) (is : Bool) (start : Int) (k : Nat) (hk : k < n) :
    lookP n bs is start k = if (decide (start ≤ k) && (bitOf bs k == is)) = true then (k : Int) else lookP n bs is start (k + 1) := by
  rw [lookP, show n - k = (n - (k + 1)) + 1 by omega, firstP]
  rfl
theorem lookP_end (n : Nat) (bs : List Int) (is : Bool) (start : Int) : lookP n bs is start n = -1 := by
  rw [lookP, Nat.sub_self, firstP]
theorem firstP_skip (p q : Nat → Bool) : ∀ (m k d : Nat), d ≤ m → (∀ i, k ≤ i → i < k + d → q i = false) → (∀ i, k + d ≤ i → q i = p i) → firstP q k m = firstP p (k + d) (m - d)
  | 0, k, d, hd, _, _ => by
    obtain rfl : d = 0 := by omega
    rfl
  | m + 1, k, d, hd, h1, h2 => by
    cases d with
    | zero =>
      rw [firstP, Nat.add_zero, Nat.sub_zero, firstP, h2 k (by omega), firstP_skip p q m (k + 1) 0 (by omega) (fun i a b => by omega) (fun i h => h2 i (by omega))]
      rfl
    | succ d =>
      rw [firstP, h1 k (by omega) (by omega), if_neg (by decide), firstP_skip p q m (k + 1) d (by omega) (fun i a b => h1 i (by omega) (by omega)) (fun i h => h2 i (by omega))]
      congr 1 <;> omega
theorem lookP_all (n : Nat) (bs : List Int) (is : Bool) (start : Int) : lookP n bs is start 0 = firstB n bs is start := by
  rw [lookP, firstB]
  obtain ⟨k0, hk0⟩ : ∃ k0 : Nat, max start 0 = k0 := ⟨(max start 0).toNat, by omega⟩
  rw [hk0, Int.toNat_natCast]
  by_cases h : k0 ≤ n
  · have := firstP_skip (fun i => bitOf bs i == is) (fun i => decide (start ≤ i) && (bitOf bs i == is)) n 0 k0 h
      (fun i _ hi => by
        simp only [Bool.and_eq_false_imp, decide_eq_true_eq]
        intro h1
        omega)
      (fun i hi => by
        rw [decide_eq_true (by omega : start ≤ (i : Int))]
        rfl)
    simpa using this
  · have := firstP_skip (fun _ => false) (fun i => decide (start ≤ i) && (bitOf bs i == is)) n 0 n (Nat.le_refl _)
      (fun i _ hi => by
        simp only [Bool.and_eq_false_imp, decide_eq_true_eq]
        intro h1
        omega)
    have h2 : ∀ (m k : Nat), (∀ i : Nat, k ≤ i → i < k + m → (decide (start ≤ (i : Int)) && (bitOf bs i == is)) = false) → firstP (fun i => decide (start ≤ i) && (bitOf bs i == is)) k m = -1 := by
      intro m
      induction m with
      | zero => intro k _; rfl
      | succ m ih =>
        intro k hh
        rw [firstP, hh k (by omega) (by omega), if_neg (by decide)]
        exact ih (k + 1) (fun i a b => hh i (by omega) (by omega))
    rw [Nat.sub_zero, h2 n 0 (fun i _ hi => by
      simp only [Bool.and_eq_false_imp, decide_eq_true_eq]
      intro h1
      omega), show n - k0 = 0 by omega, firstP]

/-- How many of the bits from k to n are set. -/
def cntS (n : Nat) (bs : List Int) (k : Nat) : Int := cntB bs n - cntB bs k

set_option maxHeartbeats 1000000 in
theorem looks_any (start : Int) (hs : -9223372036854775808 ≤ start ∧ start ≤ 9223372036854775807) {w : World} {B g n : Nat} {A : Option Addr} {c : Nat} {bs : List Int} (h : BOk w B g n A c bs) (X : Option Addr) (cx : Nat) (hX : Rd w X n (bits_ n bs)) :
    Calls Try.prog 33 #[.pointer (some ⟨g, 0, none⟩), .slice X n cx, .int .i64 start] w fun e w' => e = .returned (.bool true) ∧ w = w' := by
  have hn1 := h.n1
  have HX := hid hX
  clear hX
  go_enter Try.func33, Try.ntmps33
  go_wp2
  go_loop [7, 8, 9, 10] (fun t f cl i => ∃ k : Nat, k ≤ n ∧ i = .int .i64 ((k : Int) - 1) ∧ t = .int .i64 (cntS n bs k) ∧ f = .int .i64 (lookP n bs true start k) ∧ cl = .int .i64 (lookP n bs false start k)) (fun _ _ _ i => (intOf i + 1).toNat)
  case atStart => exact ⟨n, Nat.le_refl _, rfl, by simp [cntS], by rw [lookP_end], by rw [lookP_end]⟩
  case round =>
    obtain ⟨k, hk, rfl, rfl, rfl, rfl⟩ := hrel
    have b1 := cntB_bd bs n
    have b2 := cntB_bd bs k
    rcases Nat.eq_zero_or_pos k with h0 | h0
    · subst h0
      have HC := hid (count_any h)
      have HT := hid (first_any true start hs.2 h)
      have HF := hid (first_any false start hs.2 h)
      have e1 : cntS n bs 0 = cntB bs n := by simp [cntS, cntB]
      rw [e1, lookP_all, lookP_all]
      clear e1
      go_wp2_with fail
      refine HC.out.mono ?_
      rintro e w' ⟨rfl, rfl⟩
      go_wp2_with fail
      refine HT.out.mono ?_
      rintro e w' ⟨rfl, rfl⟩
      go_wp2_with fail
      refine HF.out.mono ?_
      rintro e w' ⟨rfl, rfl⟩
      go_wp2
      go_ret
      exact ⟨rfl, rfl⟩
    · obtain ⟨j, rfl⟩ : ∃ j, k = j + 1 := ⟨k - 1, by omega⟩
      obtain ⟨d, o, rfl, hd, hc⟩ := HX.out.2 (by omega)
      have hcell := hc j (.bool (bitOf bs j)) (bits_get n j bs (by omega))
      have hj : ((j + 1 : Nat) : Int) - 1 = (j : Int) := by omega
      rw [hj]
      have hcs : cntB bs (j + 1) = cntB bs j + if bitOf bs j then 1 else 0 := rfl
      have b3 := cntB_bd bs j
      have s1 := lookP_step n bs true start j (by omega)
      have s2 := lookP_step n bs false start j (by omega)
      have hjn : (j : Int) < (n : Int) := by omega
      have hbs : -65536 ≤ cntS n bs (j + 1) ∧ cntS n bs (j + 1) ≤ 65536 := by simp only [cntS]; omega
      clear hc hj
      cases hb : bitOf bs j with
      | true =>
        rw [hb] at s1 s2 hcs hcell
        by_cases hst : start ≤ j
        · have q1 : lookP n bs true start j = j := by rw [s1]; simp [hst]
          have q2 : lookP n bs false start j = lookP n bs false start (j + 1) := by rw [s2]; simp
          have Q1 := hid q1
          have Q2 := hid q2
          have HCS := hid hcs
          clear s1 s2 q1 q2 hcs hb
          go_wp2
          go_round
          case rel => exact ⟨j, by omega, rfl, by rw [cntS, cntS, HCS.out]; go_num, by rw [Q1.out], by rw [Q2.out]⟩
          case measure => simp [intOf] <;> omega
        · have q1 : lookP n bs true start j = lookP n bs true start (j + 1) := by rw [s1]; simp [hst]
          have q2 : lookP n bs false start j = lookP n bs false start (j + 1) := by rw [s2]; simp
          have Q1 := hid q1
          have Q2 := hid q2
          have HCS := hid hcs
          clear s1 s2 q1 q2 hcs hb
          go_wp2
          go_round
          case rel => exact ⟨j, by omega, rfl, by rw [cntS, cntS, HCS.out]; go_num, by rw [Q1.out], by rw [Q2.out]⟩
          case measure => simp [intOf] <;> omega
      | false =>
        rw [hb] at s1 s2 hcs hcell
        by_cases hst : start ≤ j
        · have q1 : lookP n bs true start j = lookP n bs true start (j + 1) := by rw [s1]; simp
          have q2 : lookP n bs false start j = j := by rw [s2]; simp [hst]
          have Q1 := hid q1
          have Q2 := hid q2
          have HCS := hid hcs
          clear s1 s2 q1 q2 hcs hb
          go_wp2
          go_round
          case rel => exact ⟨j, by omega, rfl, by rw [cntS, cntS, HCS.out]; simp, by rw [Q1.out], by rw [Q2.out]⟩
          case measure => simp [intOf] <;> omega
        · have q1 : lookP n bs true start j = lookP n bs true start (j + 1) := by rw [s1]; simp
          have q2 : lookP n bs false start j = lookP n bs false start (j + 1) := by rw [s2]; simp [hst]
          have Q1 := hid q1
          have Q2 := hid q2
          have HCS := hid hcs
          clear s1 s2 q1 q2 hcs hb
          go_wp2
          go_round
          case rel => exact ⟨j, by omega, rfl, by rw [cntS, cntS, HCS.out]; simp, by rw [Q1.out], by rw [Q2.out]⟩
          case measure => simp [intOf] <;> omega
end Go.Proofs.Ytlcafkjnikiomaa.LeV
