/- Plain facts: what was encoded is decoded; a group's records are one group, and joined they are what they were. Contracts of Group and Join where they are. -/
import Derived.Test.YtdepkpdolkipcaaDoorRcK
import Derived.Test.YtdepkpdolkipcaaDoorRcN
namespace Go.Proofs.YtdepkpdolkipcaaDoor.RcO
open Go.RowKit MSep MFrame MSepC LeW LeR RdA RcM RcA RcB RcC DlO RcD RcE RcF Kit RcK RcN CrcM CrcE

theorem gi_low {n : Nat} {a b v : Int} {ys : List Int} (h0 : 0 ≤ v) (h1 : v < 256 ^ n) (h2 : v < 9223372036854775808) (ha : a ≤ v) (hb : v ≤ b) : gi n a b (some (low n v ++ ys)) = (v, some ys) := by
  have ht : (low n v ++ ys).take n = low n v := by
    have := low_len n v
    rw [List.take_append_of_le_length (by omega), List.take_of_length_le (by omega)]
  have hd : (low n v ++ ys).drop n = ys := by
    have := low_len n v
    rw [List.drop_append_of_le_length (by omega), List.drop_of_length_le (by omega)]
    simp
  have hn : num (low n v) = v := by rw [num_low]; exact Int.emod_eq_of_lt h0 h1
  have hw : wrap64 v = v := w64 v ⟨h0, h2⟩
  rw [gi, if_neg (by rw [List.length_append, low_len]; omega), ht, hd, hn, hw, if_pos ⟨ha, hb⟩]
theorem pD_eD {d : De} {ys : List Int} (h : mayD d) : pD (some (eD d ++ ys)) = (d, some ys) := by
  obtain ⟨h1, h2, h3, h4, h5⟩ := mayD_in h
  obtain ⟨k, a, n, z, o⟩ := d
  simp only [] at h1 h2 h3 h4 h5
  have p1 : (256 : Int) ^ 1 = 256 := by decide
  have p2 : (256 : Int) ^ 2 = 65536 := by decide
  have p4 : (256 : Int) ^ 4 = 4294967296 := by decide
  unfold pD eD
  simp only [List.append_assoc]
  rw [gi_low (n := 1) (by omega) (by rw [p1]; omega) (by omega) (by omega) (by omega)]
  dsimp only
  rw [gi_low (n := 1) (by omega) (by rw [p1]; omega) (by omega) (by omega) (by omega)]
  dsimp only
  rw [gi_low (n := 2) (by omega) (by rw [p2]; omega) (by omega) (by omega) (by omega)]
  dsimp only
  rw [gi_low (n := 4) (by omega) (by rw [p4]; omega) (by omega) (by omega) (by omega)]
  dsimp only
  rw [gi_low (n := 4) (by omega) (by rw [p4]; omega) (by omega) (by omega) (by omega)]
  dsimp only
  rw [gi_low (n := 4) (v := 0) (by omega) (by rw [p4]; omega) (by omega) (by omega) (by omega)]
theorem pDs_fl : ∀ (l : List De) (ys : List Int), (∀ d ∈ l, mayD d) → pDs l.length (some (l.flatMap eD ++ ys)) = (l, some ys)
  | [], ys, _ => rfl
  | d :: l, ys, h => by
    have h1 := pD_eD (ys := l.flatMap eD ++ ys) (h d List.mem_cons_self)
    rw [List.length_cons, pDs, List.flatMap_cons, List.append_assoc, h1]
    dsimp only
    rw [pDs_fl l ys (fun x hx => h x (List.mem_cons_of_mem _ hx))]
theorem hd_of {st s0 s1 s2 s3 s4 : Option (List Int)} {v0 v1 v2 v3 v4 : Int} (h0 : gi 1 0 1 st = (v0, s0)) (h1 : gi 1 0 6 s0 = (v1, s1)) (h2 : gi 4 1 2147483648 s1 = (v2, s2)) (h3 : gi 8 0 1099511627776 s2 = (v3, s3)) (h4 : gi 8 0 1099511627776 s3 = (v4, s4)) : hd st = (⟨v0, v1, v2, v3, v4⟩, s4) := by
  simp only [hd, h0, h1, h2, h3, h4]
theorem tk_of {st s4 s5 : Option (List Int)} {v0 v1 v2 v3 v4 : Int} {l : List De} (h : hd st = (⟨v0, v1, v2, v3, v4⟩, s4)) (hp : pDs v1.toNat s4 = (l, s5)) : tk st = (⟨v2, v3, decide (v0 = 1), v4, l⟩, s5) := by
  simp only [tk, h, hp]
theorem q1 : (256 : Int) ^ 1 = 256 := by decide
theorem q4 : (256 : Int) ^ 4 = 4294967296 := by decide
theorem q8 : (256 : Int) ^ 8 = 18446744073709551616 := by decide
theorem b01_dec (c : Bool) : decide (b01 c = 1) = c := by cases c <;> rfl
theorem b01_bd (c : Bool) : 0 ≤ b01 c ∧ b01 c ≤ 1 := by cases c <;> simp [b01]
theorem drop2 (e s : Int) (c : Bool) (u : Int) (l : List De) (ys : List Int) : (eR ⟨e, s, c, u, l⟩ ++ ys).drop 2 = low 1 (b01 c) ++ (low 1 (l.length : Int) ++ (low 4 e ++ (low 8 s ++ (low 8 u ++ (l.flatMap eD ++ ys))))) := by
  simp only [eR, eH, List.append_assoc, List.cons_append, List.nil_append, List.drop_succ_cons, List.drop_zero]
theorem tk_eR {r : Rc} {ys : List Int} (h : mayR r) : tk (some ((eR r ++ ys).drop 2)) = (r, some ys) := by
  obtain ⟨⟨h1, h2, h3⟩, h4, h5⟩ := h
  obtain ⟨e, s, c, u, l⟩ := r
  simp only [] at h1 h2 h3 h4 h5
  have hb := b01_bd c
  rw [drop2]
  have hp := pDs_fl l ys h5
  have e4 := gi_low (n := 8) (a := 0) (b := 1099511627776) (v := u) (ys := l.flatMap eD ++ ys) (by omega) (by rw [q8]; omega) (by omega) (by omega) (by omega)
  have e3 := gi_low (n := 8) (a := 0) (b := 1099511627776) (v := s) (ys := low 8 u ++ (l.flatMap eD ++ ys)) (by omega) (by rw [q8]; omega) (by omega) (by omega) (by omega)
  have e2 := gi_low (n := 4) (a := 1) (b := 2147483648) (v := e) (ys := low 8 s ++ (low 8 u ++ (l.flatMap eD ++ ys))) (by omega) (by rw [q4]; omega) (by omega) (by omega) (by omega)
  have e1 := gi_low (n := 1) (a := 0) (b := 6) (v := (l.length : Int)) (ys := low 4 e ++ (low 8 s ++ (low 8 u ++ (l.flatMap eD ++ ys)))) (by omega) (by rw [q1]; omega) (by omega) (by omega) (by omega)
  have e0 := gi_low (n := 1) (a := 0) (b := 1) (v := b01 c) (ys := low 1 (l.length : Int) ++ (low 4 e ++ (low 8 s ++ (low 8 u ++ (l.flatMap eD ++ ys))))) (by omega) (by rw [q1]; omega) (by omega) (by omega) (by omega)
  have hh := hd_of e0 e1 e2 e3 e4
  have ht := tk_of hh (l := l) (s5 := some ys) (by rw [Int.toNat_natCast]; exact hp)
  rw [b01_dec] at ht
  exact ht
theorem rt {r : Rc} (h : mayR r) : dec (seal_ (eR r)) = some r := by
  have hl : (eR r).length ≤ 124 := by rw [eR_len]; have := h.2.1; omega
  have hs : secOk (seal_ (eR r)) = true := by
    unfold secOk
    rw [seal_len hl, CrcG.ld_seal, CrcG.seal_drop]
    simp
  have hdr : (seal_ (eR r)).drop 4 = rest (eR r) := CrcG.seal_drop _
  rw [dec, if_pos hs, hdr]
  have hm : marked (rest (eR r)) := by
    unfold marked rest eR eH
    rfl
  rw [dP, if_pos hm]
  have ht := tk_eR (ys := List.replicate (124 - (eR r).length) 0) h
  have ht2 : tk (some ((rest (eR r)).drop 2)) = (r, some (List.replicate (124 - (eR r).length) 0)) := ht
  rw [ht2]
  dsimp only
  have hz : dn (some (List.replicate (124 - (eR r).length) 0)) = 0 := by
    rw [dn_zero]
    simp [dy, allZero]
  rw [if_pos ⟨hz, h⟩]

theorem wrap_succ (x : Int) (h : wrap64 x ≤ 1099511627776) : wrap64 (x + 1) = wrap64 x + 1 := by unfold wrap64 at *; omega
theorem gRs_at (xs : List De) (e s u : Int) (k : Nat) (h : k < nd xs.length) : (gRs xs e s u)[k]? = some (rcI xs e s u k) := by
  unfold gRs
  rw [List.getElem?_map, List.getElem?_range h]
  rfl
theorem gRs_lt {xs : List De} {e s u : Int} {k : Nat} {r : Rc} (h : (gRs xs e s u)[k]? = some r) : k < nd xs.length := by
  have := (List.getElem?_eq_some_iff.1 h).1
  rwa [gRs_len] at this
theorem gRs_GJ {xs : List De} {e s u : Int} (h : gMay xs e s u) : GJ (gRs xs e s u) := by
  refine ⟨fun k r hr => ?_, fun k r hr hk => ?_, fun k r p hr hp => ?_, fun k r hr => ?_⟩
  · obtain rfl := gRs_get xs e s u hr
    rw [gRs_len]
    rfl
  · obtain rfl := gRs_get xs e s u hr
    rw [gRs_len] at hk
    have := (nd_lt xs.length (k + 1) hk).2.1 (by omega)
    show (chunk xs k).length = 6
    rw [chunk_len xs k (6 * k) rfl]
    omega
  · have hlt := gRs_lt hp
    obtain rfl := gRs_get xs e s u hr
    obtain rfl := gRs_get xs e s u hp
    have hm := (h k hlt).1
    unfold mayH at hm
    simp only [rcI] at hm ⊢
    refine ⟨?_, hm.2.1, trivial, trivial⟩
    have := wrap_succ (s + k) hm.2.1.2
    rw [← this]
    congr 1
    push_cast
    omega
  · obtain rfl := gRs_get xs e s u hr
    show (chunk xs k).length ≤ 6
    rw [chunk_len xs k (6 * k) rfl]
    omega
theorem ds_gRs (xs : List De) (e s u : Int) : ds (gRs xs e s u) = xs := by
  have h : ∀ k, ((List.range k).map (rcI xs e s u)).flatMap Rc.l = xs.take (6 * k) := by
    intro k
    induction k with
    | zero => simp
    | succ k ih =>
      rw [List.range_succ, List.map_append, List.flatMap_append, ih, show 6 * (k + 1) = 6 * k + 6 by omega, List.take_add]
      simp [rcI, chunk]
  unfold ds gRs
  rw [h]
  refine List.take_of_length_le ?_
  have hp := nd_pos xs.length
  have := (nd_lt xs.length (nd xs.length - 1) (by omega)).2.2.2 (by omega)
  omega

/-- Group, where all its records may be; where one of them may not. -/
theorem group_yes (A : Option Addr) (l c : Nat) (xs : List De) (e s u : Int) (w : World) (hl : l ≤ 6000) (hc : l ≤ c) (hx : RdD w A l xs) (hg : gMay xs e s u) :
    Calls Tryd.prog 35 #[.slice A l c, .int .i64 e, .int .i64 s, .int .i64 u] w fun E w' => ∃ A' c', E = .returned (.tuple #[.slice A' (nd xs.length) c', .int .i64 0]) ∧ RdG w' A' (nd xs.length) (gRs xs e s u) ∧ Fr No w w' := by
  refine (group_ok A l c xs e s u w hl hc hx).mono ?_
  rintro E w' ⟨⟨_, A', c', h1, h2⟩ | ⟨h, _⟩, f⟩
  · exact ⟨A', c', h1, h2, f⟩
  · exact absurd hg h
theorem group_no (A : Option Addr) (l c : Nat) (xs : List De) (e s u : Int) (w : World) (hl : l ≤ 6000) (hc : l ≤ c) (hx : RdD w A l xs) (hg : ¬ gMay xs e s u) :
    Calls Tryd.prog 35 #[.slice A l c, .int .i64 e, .int .i64 s, .int .i64 u] w fun E w' => E = .returned (.tuple #[.slice none 0 0, .int .i64 1]) ∧ Fr No w w' := by
  refine (group_ok A l c xs e s u w hl hc hx).mono ?_
  rintro E w' ⟨⟨h, _⟩ | ⟨_, h⟩, f⟩
  · exact absurd h hg
  · exact ⟨h, f⟩
set_option maxRecDepth 100000 in
theorem join_nil (w : World) : Calls Tryd.prog 40 #[.slice none 0 0] w fun E w' => E = .returned (.tuple #[.slice none 0 0, .bool false]) ∧ Fr No w w' := by
  go_enter Tryd.func40, Tryd.ntmps40
  go_wp2_with fail
  go_loopw [4, 10] (fun d i wr => i = .int .i64 0 ∧ d = .slice none 0 0 ∧ Fr No w wr) (fun _ _ _ => 0)
  case atStart => exact ⟨rfl, rfl, Fr.refl _ _⟩
  case round =>
    obtain ⟨rfl, rfl, hf⟩ := hrel
    have HF := hid hf
    clear hf
    go_wp2
    go_ret2
    exact ⟨rfl, HF.out⟩
end Go.Proofs.YtdepkpdolkipcaaDoor.RcO
