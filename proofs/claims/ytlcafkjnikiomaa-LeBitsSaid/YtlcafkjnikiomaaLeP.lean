/- Contract of the plain Pack, and what Set makes of the bits. Conditions: what is handed in reads as bits. -/
import Derived.Test.YtlcafkjnikiomaaLeV
namespace Go.Proofs.Ytlcafkjnikiomaa.LeP
open Go.RowKit MSep MFrame LeA LeW LeR LeB LeX LeU LeV

/-- The bytes, of which the first k bits are there. -/
def pk (bs : List Int) (k : Nat) : List Int := (List.range bs.length).map fun j => bs.getD j 0 % 2 ^ (min (k - 8 * j) 8)
theorem pk_len (bs : List Int) (k : Nat) : (pk bs k).length = bs.length := by simp [pk]
theorem pk_get (bs : List Int) (k j : Nat) (hj : j < bs.length) : (pk bs k)[j]? = some (bs.getD j 0 % 2 ^ (min (k - 8 * j) 8)) := by
  rw [pk, List.getElem?_map, List.getElem?_range hj]
  rfl
theorem pk_zero (bs : List Int) : pk bs 0 = List.replicate bs.length 0 := by
  apply List.ext_getElem?
  intro j
  by_cases hj : j < bs.length
  · rw [pk_get bs 0 j hj, List.getElem?_replicate, if_pos hj]
    simp
  · rw [List.getElem?_eq_none (by rw [pk_len]; omega), List.getElem?_eq_none (by simp; omega)]
theorem or_fin : ∀ x : Fin 256, ∀ t : Fin 8, (if ((x.val : Int) / 2 ^ t.val % 2 == 1) = true then bits BinOp.or IntKind.u8 ((x.val : Int) % 2 ^ t.val) (2 ^ t.val % 256) else (x.val : Int) % 2 ^ t.val) = (x.val : Int) % 2 ^ (t.val + 1) := by decide +kernel
theorem or_pow (x : Int) (t : Nat) (h0 : 0 ≤ x) (h1 : x ≤ 255) (ht : t < 8) :
    (if (x / 2 ^ t % 2 == 1) = true then bits BinOp.or IntKind.u8 (x % 2 ^ t) (2 ^ t % 256) else x % 2 ^ t) = x % 2 ^ (t + 1) := by
  obtain ⟨m, rfl⟩ := Int.eq_ofNat_of_zero_le h0
  exact or_fin ⟨m, by omega⟩ ⟨t, ht⟩
theorem getD_u8 (bs : List Int) (hu : ∀ x ∈ bs, 0 ≤ x ∧ x ≤ 255) (j : Nat) : 0 ≤ bs.getD j 0 ∧ bs.getD j 0 ≤ 255 := by
  rw [List.getD_eq_getElem?_getD]
  cases h : bs[j]? with
  | none => simp
  | some x => exact hu x (List.mem_of_getElem? h)
theorem pk_same (bs : List Int) (k : Nat) (hu : ∀ x ∈ bs, 0 ≤ x ∧ x ≤ 255) (hb : bitOf bs k = false) : pk bs (k + 1) = pk bs k := by
  apply List.ext_getElem?
  intro j
  by_cases hj : j < bs.length
  · rw [pk_get bs _ j hj, pk_get bs _ j hj]
    congr 1
    by_cases hkj : j = k / 8
    · subst hkj
      have h1 := getD_u8 bs hu (k / 8)
      have h2 := or_pow _ (k % 8) h1.1 h1.2 (by omega)
      rw [bitOf] at hb
      rw [hb, if_neg (by decide)] at h2
      rw [show min (k + 1 - 8 * (k / 8)) 8 = k % 8 + 1 by omega, show min (k - 8 * (k / 8)) 8 = k % 8 by omega]
      exact h2.symm
    · rw [show min (k + 1 - 8 * j) 8 = min (k - 8 * j) 8 by omega]
  · rw [List.getElem?_eq_none (by rw [pk_len]; omega), List.getElem?_eq_none (by rw [pk_len]; omega)]
theorem pk_set (bs : List Int) (k : Nat) (hu : ∀ x ∈ bs, 0 ≤ x ∧ x ≤ 255) (hb : bitOf bs k = true) :
    pk bs (k + 1) = (pk bs k).set (k / 8) (bits BinOp.or IntKind.u8 (bs.getD (k / 8) 0 % 2 ^ (k % 8)) (2 ^ (k % 8) % 256)) := by
  apply List.ext_getElem?
  intro j
  rw [List.getElem?_set]
  by_cases hj : j < bs.length
  · rw [pk_get bs _ j hj, pk_get bs _ j hj]
    by_cases hkj : k / 8 = j
    · subst hkj
      rw [if_pos rfl, if_pos (by rw [pk_len]; exact hj)]
      congr 1
      have h1 := getD_u8 bs hu (k / 8)
      have h2 := or_pow _ (k % 8) h1.1 h1.2 (by omega)
      rw [bitOf] at hb
      rw [hb, if_pos rfl] at h2
      rw [show min (k + 1 - 8 * (k / 8)) 8 = k % 8 + 1 by omega]
      exact h2.symm
    · rw [if_neg hkj, show min (k + 1 - 8 * j) 8 = min (k - 8 * j) 8 by omega]
  · rw [List.getElem?_eq_none (by rw [pk_len]; omega), List.getElem?_eq_none (by rw [pk_len]; omega)]
    split
    · rw [if_neg (by rw [pk_len]; omega)]
    · rfl
theorem tail_fin2 : ∀ x : Fin 256, ∀ s : Fin 8, ((x.val : Int) / 2 ^ s.val == 0) = true → (x.val : Int) % 2 ^ s.val = x.val := by decide +kernel
theorem pk_full (n : Nat) (bs : List Int) (hl : bs.length = (n + 7) / 8) (hu : ∀ x ∈ bs, 0 ≤ x ∧ x ≤ 255) (ht : tailOk n bs = true) : pk bs n = bs := by
  apply List.ext_getElem?
  intro j
  by_cases hj : j < bs.length
  · have h1 := getD_u8 bs hu j
    rw [pk_get bs _ j hj]
    have hget : bs[j]? = some (bs.getD j 0) := by simp [List.getD, hj]
    rw [hget]
    congr 1
    by_cases h8 : 8 * j + 8 ≤ n
    · rw [show min (n - 8 * j) 8 = 8 by omega]
      omega
    · have hjn : n / 8 = j := by omega
      have hm : n % 8 ≠ 0 := by omega
      rw [show min (n - 8 * j) 8 = n % 8 by omega]
      simp only [tailOk, hjn] at ht
      have ht2 : (bs.getD j 0 / 2 ^ (n % 8) == 0) = true := by
        rcases Bool.or_eq_true _ _ ▸ ht with h | h
        · exact absurd (by simpa using h) hm
        · exact h
      obtain ⟨x, hx⟩ := Int.eq_ofNat_of_zero_le h1.1
      rw [hx] at ht2 h1 ⊢
      exact tail_fin2 ⟨x, by omega⟩ ⟨n % 8, by omega⟩ ht2
  · rw [List.getElem?_eq_none (by rw [pk_len]; omega), List.getElem?_eq_none (by omega)]

set_option maxHeartbeats 1000000 in
theorem ypack_any (n : Nat) (X : Option Addr) (cx : Nat) (bs : List Int) (B : Nat) (w : World) (hX : Rd w X n (bits_ n bs)) (hn : n ≤ 65536) (hl : bs.length = (n + 7) / 8)
    (hu : ∀ x ∈ bs, 0 ≤ x ∧ x ≤ 255) (ht : tailOk n bs = true) (hb0 : B ≤ w.heap.size) :
    Calls Try.prog 36 #[.slice X n cx] w fun e w' => e = .returned (.slice (some ⟨w.heap.size, 0, none⟩) bs.length bs.length) ∧
      w'.ownsRow B 5 1 (.slice (some ⟨w.heap.size, 0, none⟩) bs.length bs.length) bs.length (bs.map (Value.int .u8)) ∧ Fr No w w' := by
  obtain ⟨i0, hi, hz0, hz1, hz2⟩ := info_parts u8_info
  have HPF := hid (pk_full n bs hl hu ht)
  have HX := hid hX
  have HU := hid hu
  obtain ⟨l, hl2⟩ : ∃ l, (n + 7) / 8 = l := ⟨_, rfl⟩
  rw [hl2] at hl
  have hl3 : l ≤ 8193 := by omega
  have HPZ := hid (pk_zero bs)
  have HL := hid hl
  have HL2 := hid hl2
  rw [hl] at HPZ ⊢
  have hdiv : ((n : Int) + 7) / 8 = (l : Int) := by omega
  clear ht hX hl hl2
  go_enter Try.func36, Try.ntmps36
  go_wp2_with (at_make; go_must (refine wpList_make_full _ rfl _ _ 27 rfl B 5 i0 (.int .u8 0) 1 Try.underlying27 hi hz0 hz1 .i64 .i64 _ _ l rfl rfl hdiv hdiv (by rw [hz2]; omega) (by simp only [maxLen]; omega) hb0 ?_))
  intro w1 hown1 hg1
  have hF1 : Fr No w w1 := (Fr.refl _ _).grown hg1 (fun k hk => by cases hk)
  have hown2 : w1.ownsRow B 5 1 (.slice (some ⟨w.heap.size, 0, none⟩) l l) l ((pk bs 0).map (Value.int .u8)) := by
    rw [HPZ.out, List.map_replicate]
    simpa [toList_madeCells_one] using hown1
  have HO := hid hown2
  have HF := hid hF1
  clear hown1 hown2 hg1 hF1
  go_wp2
  go_loopw [4] (fun i wr => ∃ k : Nat, k ≤ n ∧ i = .int .i64 k ∧ wr.ownsRow B 5 1 (.slice (some ⟨w.heap.size, 0, none⟩) l l) l ((pk bs k).map (Value.int .u8)) ∧ Fr No w wr) (fun i _ => n - (intOf i).toNat)
  case atStart => exact ⟨0, by omega, rfl, HO.out, HF.out⟩
  case round =>
    obtain ⟨k, hk, rfl, hown, hF⟩ := hrel
    by_cases hlt : k < n
    · obtain ⟨d, o, rfl, hd, hcx⟩ := HX.out.2 (by omega)
      have hxc := hF.cell_some (hcx k (.bool (bitOf bs k)) (bits_get n k bs hlt)) (fun h => h)
      have hk8 : k / 8 < l := by omega
      have hkl : (k : Int) / 8 < (l : Int) := by omega
      have HF2 := hid hF
      clear hcx hF
      cases hb : bitOf bs k with
      | false =>
        have hs := pk_same bs k HU.out hb
        rw [hb] at hxc
        have HOW := hid hown
        have HS := hid hs
        clear hs hown hb
        go_wp2
        go_roundw
        case rel =>
          refine ⟨k + 1, by omega, by go_num, ?_, HF2.out⟩
          rw [HS.out]
          exact HOW.out
        case measure => simp [intOf]; omega
      | true =>
        have hs := pk_set bs k HU.out hb
        have hg := getD_u8 bs HU.out (k / 8)
        rw [hb] at hxc
        obtain ⟨y, hy⟩ : ∃ y, bs.getD (k / 8) 0 % 2 ^ (k % 8) = y := ⟨_, rfl⟩
        have hy0 : 0 ≤ y := by rw [← hy]; exact Int.emod_nonneg _ (Int.pow_ne_zero (by decide))
        have hyc : wr.cell? ⟨w.heap.size, k / 8, none⟩ = some (.int .u8 y) := by
          rw [hown.cellAt (k / 8) (by omega), List.getElem?_map, pk_get bs k (k / 8) (by rw [HL.out]; omega), show min (k - 8 * (k / 8)) 8 = k % 8 by omega, hy]
          rfl
        rw [hy] at hs
        have hfr := hown.frozenAt (k / 8)
        have hst := hown.stored (k / 8) (Value.int .u8 (bits BinOp.or IntKind.u8 y (2 ^ (k % 8) % 256)))
        rw [← List.map_set, ← hs] at hst
        have HST := hid hst
        clear hst hs hown hb hy
        go_wp2
        go_region
        go_wp2
        go_roundw
        case rel => exact ⟨k + 1, by omega, by go_num, HST.out.1.drew, (HF2.out.grown HST.out.2 (fun q hq hs => by injection hq with hq; omega)).drew⟩
        case measure => simp [intOf]; omega
    · obtain rfl : k = n := by omega
      have HOW := hid hown
      have HF2 := hid hF
      clear hown hF
      go_wp2
      go_ret
      have := HOW.out
      rw [HPF.out] at this
      exact ⟨rfl, this, HF2.out⟩

theorem bit_flip (bs : List Int) (hu : ∀ x ∈ bs, 0 ≤ x ∧ x ≤ 255) (k j : Nat) (hk : k / 8 < bs.length) :
    bitOf (bs.set (k / 8) (flip (bs.getD (k / 8) 0) (k % 8))) j = if j = k then !bitOf bs k else bitOf bs j := by
  have h1 := getD_u8 bs hu (k / 8)
  have h2 := (xor_pow _ (k % 8) h1.1 h1.2 (by omega)).2.2.2 (j % 8) (by omega)
  by_cases hj : j / 8 = k / 8
  · have e : (bs.set (k / 8) (flip (bs.getD (k / 8) 0) (k % 8))).getD (j / 8) 0 = flip (bs.getD (k / 8) 0) (k % 8) := by
      rw [hj, List.getD_eq_getElem?_getD, List.getElem?_set, if_pos rfl, if_pos hk]
      rfl
    rw [bitOf, e, h2]
    by_cases hjk : j = k
    · subst hjk
      rw [if_pos rfl, if_pos rfl, bitOf]
    · rw [if_neg (by omega), if_neg hjk, bitOf, hj]
  · have e : (bs.set (k / 8) (flip (bs.getD (k / 8) 0) (k % 8))).getD (j / 8) 0 = bs.getD (j / 8) 0 := by
      rw [List.getD_eq_getElem?_getD, List.getElem?_set, if_neg (fun h => hj h.symm), ← List.getD_eq_getElem?_getD]
    rw [bitOf, e, if_neg (fun h => hj (by rw [h])), bitOf]
theorem bit_setL (n : Nat) (bs : List Int) (hu : ∀ x ∈ bs, 0 ≤ x ∧ x ≤ 255) (hl : bs.length = (n + 7) / 8) (k : Nat) (hk : k < n) (is : Bool) (j : Nat) :
    bitOf (setL n bs k is) j = if j = k then is else bitOf bs j := by
  have hin : inB n k = true := by simp [inB]; omega
  unfold setL setB
  rw [hin, Int.toNat_natCast]
  cases hb : bitOf bs k <;> cases is
  · simp only [bne_self_eq_false, Bool.and_false, Bool.false_eq_true, if_false]
    split
    · rename_i h
      rw [h, hb]
    · rfl
  · simp only [Bool.true_and, bne, Bool.false_beq, Bool.not_true, Bool.not_false, if_true]
    rw [bit_flip bs hu k j (by omega), hb]
    rfl
  · rw [if_pos (by decide), bit_flip bs hu k j (by omega), hb]
    rfl
  · simp only [bne_self_eq_false, Bool.and_false, Bool.false_eq_true, if_false]
    split
    · rename_i h
      rw [h, hb]
    · rfl
theorem bits_setL (n : Nat) (bs : List Int) (hu : ∀ x ∈ bs, 0 ≤ x ∧ x ≤ 255) (hl : bs.length = (n + 7) / 8) (k : Nat) (hk : k < n) (is : Bool) :
    bits_ n (setL n bs k is) = (bits_ n bs).set k (Value.bool is) := by
  apply List.ext_getElem?
  intro j
  rw [List.getElem?_set]
  by_cases hj : j < n
  · rw [bits_get n j _ hj, bit_setL n bs hu hl k hk is j, bits_get n j bs hj]
    by_cases hjk : j = k
    · subst hjk
      rw [if_pos rfl, if_pos rfl, if_pos (by simpa [bits_] using hj)]
    · rw [if_neg hjk, if_neg (fun h => hjk h.symm)]
  · rw [List.getElem?_eq_none (by simp [bits_]; omega), List.getElem?_eq_none (by simp [bits_]; omega)]
    split
    · rw [if_neg (by simp [bits_]; omega)]
    · rfl
theorem len_setL (n : Nat) (bs : List Int) (i : Int) (is : Bool) : (setL n bs i is).length = bs.length := by
  unfold setL
  split <;> simp
theorem u8_setL (n : Nat) (bs : List Int) (hu : ∀ x ∈ bs, 0 ≤ x ∧ x ≤ 255) (i : Int) (is : Bool) : ∀ x ∈ setL n bs i is, 0 ≤ x ∧ x ≤ 255 := by
  unfold setL
  split
  · intro y hy
    rcases List.mem_or_eq_of_mem_set hy with hy | rfl
    · exact hu y hy
    · have h1 := getD_u8 bs hu (i.toNat / 8)
      have h2 := xor_pow _ (i.toNat % 8) h1.1 h1.2 (by omega)
      exact ⟨h2.2.1, h2.2.2.1⟩
  · exact hu
theorem tail_setL (n : Nat) (bs : List Int) (hu : ∀ x ∈ bs, 0 ≤ x ∧ x ≤ 255) (hl : bs.length = (n + 7) / 8) (k : Nat) (hk : k < n) (is : Bool) (ht : tailOk n bs = true) : tailOk n (setL n bs k is) = true := by
  have h1 := (tail_iff n bs hl hu).1 ht
  refine (tail_iff n _ (by rw [len_setL]; exact hl) (u8_setL n bs hu _ is)).2 fun i hi h2 => ?_
  rw [bit_setL n bs hu hl k hk is i, if_neg (by omega)]
  exact h1 i hi (by rw [len_setL] at h2; exact h2)
theorem zero_get (m j : Nat) : (List.replicate m (0 : Int)).getD j 0 = 0 := by
  rw [List.getD_eq_getElem?_getD, List.getElem?_replicate]
  split <;> rfl
theorem bit_zero (m i : Nat) : bitOf (List.replicate m 0) i = false := by
  rw [bitOf, zero_get, Int.zero_ediv]
  rfl
theorem cnt_zero (m : Nat) : ∀ k, cntB (List.replicate m 0) k = 0
  | 0 => rfl
  | k + 1 => by rw [cntB, cnt_zero m k, bit_zero]; rfl
theorem tail_zero (n m : Nat) : tailOk n (List.replicate m 0) = true := by
  rw [tailOk, zero_get, Int.zero_ediv]
  simp
theorem bits_zero (n m : Nat) : bits_ n (List.replicate m 0) = List.replicate n (Value.bool false) := by
  apply List.ext_getElem?
  intro j
  by_cases hj : j < n
  · rw [bits_get n j _ hj, bit_zero, List.getElem?_replicate, if_pos hj]
  · rw [List.getElem?_eq_none (by simp [bits_]; omega), List.getElem?_eq_none (by simp; omega)]
theorem isB_own {w : World} {base : Nat} {A : Option Addr} {l c : Nat} {zs : List Int} (h : w.ownsRow base 5 1 (.slice A l c) l (zs.map (Value.int .u8))) (hu : ∀ x ∈ zs, 0 ≤ x ∧ x ≤ 255) : IsB w A l c zs := by
  refine ⟨Rd.own h, ?_, ?_, hu⟩
  · rcases h.2 with ⟨hv, h0⟩ | ⟨g, cap, cur, hv, _, _, hn, _⟩
    · omega
    · injection hv with _ _ h3
      omega
  · rcases h.2 with ⟨hv, h0⟩ | ⟨g, cap, cur, hv, _, _, _, hm, _⟩
    · injection hv with _ _ h3
      rw [h3]
      exact Nat.zero_le _
    · injection hv with _ _ h3
      rw [h3]
      exact hm
end Go.Proofs.Ytlcafkjnikiomaa.LeP
