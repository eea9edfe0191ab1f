/- Contracts: the document's own counts. Conditions: the extents read as a list of at most 1000 structs of whole numbers of 64 bits, each of no more than 2^40 sectors. -/
import Derived.Test.YtkkbgbpmpcoffaaVaD
import Derived.BigQuiet
namespace Go.Proofs.Ytkkbgbpmpcoffaa.VaG
open Go.RowKit MSep MGeM GeA PgA PgB VaC VaD

set_option maxRecDepth 100000 in
set_option maxHeartbeats 1000000 in
theorem rcnt_ok (A : Option Addr) (l c : Nat) (xs : List Ex) (z : Int) (w : World) (hl : l ≤ 1000) (hx : RdX w A l xs) (hm : ∀ x ∈ xs, 0 ≤ x.m ∧ x.m ≤ 1099511627776) :
    Calls Try.prog 24 #[.slice A l c, .int .i64 z] w fun e w' => e = .returned (.int .i64 (cz xs z)) ∧ w' = w := by
  have HX := hid hx
  have HL := hid hl
  have HM := hid hm
  have HLX := hid hx.1
  clear hx hl hm
  go_enter Try.func24, Try.ntmps24
  go_wp2
  go_loopw [5, 6] (fun a i wr => ∃ j : Nat, a = .int .i64 (cz (xs.take j) z) ∧ i = .int .i64 j ∧ j ≤ l ∧ wr = w) (fun _ i _ => l - (intOf i).toNat)
  case atStart => exact ⟨0, rfl, rfl, by omega, rfl⟩
  case round =>
    obtain ⟨j, rfl, rfl, hj, hwr⟩ := hrel
    subst wr
    by_cases hlt : j < l
    case neg =>
      obtain rfl : j = l := by omega
      rw [List.take_of_length_le (by have := HLX.out; omega)]
      go_wp2
      go_ret
      exact ⟨rfl, rfl⟩
    obtain ⟨x, hget⟩ : ∃ x, xs[j]? = some x := ⟨_, List.getElem?_eq_getElem (by have := HLX.out; omega)⟩
    obtain ⟨g, oo, rfl, _, hc⟩ := PgB.RdX.at_ HX.out (by omega)
    obtain ⟨c0, c1, c2, c3⟩ := hc j x hget
    have hjz : (j : Int) < (l : Int) := by omega
    have hw1 : wrap64 ((j : Int) + 1) = (j : Int) + 1 := by have := HL.out; exact w64 _ (by omega)
    have hts := take_snoc hget
    have hci := cz_in (L := xs.take j) (z := z) (fun y hy => HM.out y (List.mem_of_mem_take hy))
    have hlen : (xs.take j).length ≤ 1000 := by rw [List.length_take]; have := HL.out; omega
    have hmx := HM.out x (List.mem_of_getElem? hget)
    obtain ⟨C, hC⟩ : ∃ C, cz (xs.take j) z = C := ⟨_, rfl⟩
    rw [hC] at hci ⊢
    have hsn := cz_snoc (xs.take j) x z
    rw [← hts, hC] at hsn
    have hw2 : wrap64 (C + x.m) = C + x.m := w64 _ (by omega)
    have HSN := hid hsn
    clear hc hget hts hsn hC hci hlen hmx
    by_cases hz : x.z = z
    · have e1 : (x.z == z) = true := by simpa using hz
      have HS2 := HSN.out
      rw [if_pos hz] at HS2
      have HS3 := hid HS2
      clear HS2 HSN hz
      go_wp2
      go_roundw
      case rel => exact ⟨j + 1, by rw [HS3.out]; go_num, by go_num, by omega, by trivial⟩
      case measure => first | exact next_m _ _ hlt hw1 | (simp only [intOf]; omega)
    · have e1 : (x.z == z) = false := by simpa using hz
      have HS2 := HSN.out
      rw [if_neg hz, Int.add_zero] at HS2
      have HS3 := hid HS2
      clear HS2 HSN hz hw2
      go_wp2
      go_roundw
      case rel => exact ⟨j + 1, by rw [HS3.out], by go_num, by omega, by trivial⟩
      case measure => first | exact next_m _ _ hlt hw1 | (simp only [intOf]; omega)

/-- In how many of the extents a zone's sector is. -/
def lv (L : List Ex) (z off : Int) : Nat := match L with
  | [] => 0
  | x :: l => (if x.z = z ∧ x.o ≤ off ∧ off < x.o + x.m then 1 else 0) + lv l z off
theorem lv_snoc (L : List Ex) (x : Ex) (z off : Int) : lv (L ++ [x]) z off = lv L z off + (if x.z = z ∧ x.o ≤ off ∧ off < x.o + x.m then 1 else 0) := by
  induction L with
  | nil => simp [lv]
  | cons y l ih => simp only [List.cons_append, lv, ih]; omega
theorem lv_le (L : List Ex) (z off : Int) : lv L z off ≤ L.length := by
  induction L with
  | nil => simp [lv]
  | cons y l ih => simp only [lv, List.length_cons]; split <;> omega
set_option maxRecDepth 100000 in
set_option maxHeartbeats 1000000 in
theorem rlive_ok (A : Option Addr) (l c : Nat) (xs : List Ex) (z off : Int) (w : World) (hl : l ≤ 1000) (hx : RdX w A l xs) (hm : ∀ x ∈ xs, (0 ≤ x.m ∧ x.m ≤ 1099511627776) ∧ 0 ≤ x.o ∧ x.o ≤ 1099511627776) :
    Calls Try.prog 74 #[.slice A l c, .int .i64 z, .int .i64 off] w fun e w' => e = .returned (.int .i64 (lv xs z off)) ∧ Fr No w w' := by
  have HX := hid hx
  have HL := hid hl
  have HM := hid hm
  have HLX := hid hx.1
  clear hx hl hm
  go_enter Try.func74, Try.ntmps74
  go_wp2
  go_loopw [7, 8] (fun a i wr => ∃ j : Nat, a = .int .i64 (lv (xs.take j) z off) ∧ i = .int .i64 j ∧ j ≤ l ∧ Fr No w wr) (fun _ i _ => l - (intOf i).toNat)
  case atStart => exact ⟨0, rfl, rfl, by omega, Fr.refl _ _⟩
  case round =>
    obtain ⟨j, rfl, rfl, hj, hf⟩ := hrel
    by_cases hlt : j < l
    case neg =>
      obtain rfl : j = l := by omega
      rw [List.take_of_length_le (by have := HLX.out; omega)]
      go_wp2
      go_ret
      exact ⟨rfl, hf⟩
    obtain ⟨x, hget⟩ : ∃ x, xs[j]? = some x := ⟨_, List.getElem?_eq_getElem (by have := HLX.out; omega)⟩
    obtain ⟨g, oo, rfl, _, hc⟩ := PgB.RdX.at_ (PgB.RdX.fr HX.out hf) (by omega)
    obtain ⟨c0, c1, c2, c3⟩ := hc j x hget
    have hjz : (j : Int) < (l : Int) := by omega
    have hw1 : wrap64 ((j : Int) + 1) = (j : Int) + 1 := by have := HL.out; exact w64 _ (by omega)
    have hts := take_snoc hget
    have hmx := HM.out x (List.mem_of_getElem? hget)
    have hsn := lv_snoc (xs.take j) x z off
    rw [← hts] at hsn
    have hle := lv_le (xs.take j) z off
    have hlen : (xs.take j).length ≤ 1000 := by rw [List.length_take]; have := HL.out; omega
    obtain ⟨C, hC⟩ : ∃ C, lv (xs.take j) z off = C := ⟨_, rfl⟩
    rw [hC] at hle hsn ⊢
    have hw2 : wrap64 ((C : Int) + 1) = (C : Int) + 1 := w64 _ (by omega)
    have hw3 : wrap64 (x.o + x.m) = x.o + x.m := w64 _ (by omega)
    have hw4 : IntKind.i64.wrap (x.o + x.m) = x.o + x.m := Go.IntWalk.i64_in _ (by omega)
    have HSN := hid hsn
    have HF := hid hf
    clear hc hget hts hsn hC hlen hmx hle hf
    by_cases hz : x.z = z
    case neg =>
      have e1 : (x.z == z) = false := by simpa using hz
      have HS3 := hid (show lv (xs.take (j + 1)) z off = C by rw [HSN.out, if_neg (fun h => hz h.1), Nat.add_zero])
      clear HSN hz hw2 hw3 hw4
      go_upto_region 5 with fail
      go_quiet (fail)
      go_wp2
      go_roundw
      case rel => exact ⟨j + 1, by rw [HS3.out], by go_num, by omega, HF.out.drewN _⟩
      case measure => first | exact next_m _ _ hlt hw1 | (simp only [intOf]; omega)
    have e1 : (x.z == z) = true := by simpa using hz
    by_cases h1 : x.o ≤ off
    case neg =>
      have e2 : decide (x.o ≤ off) = false := decide_eq_false h1
      have HS3 := hid (show lv (xs.take (j + 1)) z off = C by rw [HSN.out, if_neg (fun h => h1 h.2.1), Nat.add_zero])
      clear HSN hz hw2 hw3 hw4 h1
      go_upto_region 5 with fail
      go_quiet (fail)
      go_wp2
      go_roundw
      case rel => exact ⟨j + 1, by rw [HS3.out], by go_num, by omega, HF.out.drewN _⟩
      case measure => first | exact next_m _ _ hlt hw1 | (simp only [intOf]; omega)
    have e2 : decide (x.o ≤ off) = true := decide_eq_true h1
    by_cases h2 : off < x.o + x.m
    case neg =>
      have e3 : decide (off < x.o + x.m) = false := decide_eq_false h2
      have HS3 := hid (show lv (xs.take (j + 1)) z off = C by rw [HSN.out, if_neg (fun h => h2 h.2.2), Nat.add_zero])
      clear HSN hz hw2 h1 h2
      go_upto_region 5 with fail
      go_quiet (fail)
      go_wp2
      go_roundw
      case rel => exact ⟨j + 1, by rw [HS3.out], by go_num, by omega, HF.out.drewN _⟩
      case measure => first | exact next_m _ _ hlt hw1 | (simp only [intOf]; omega)
    have e3 : decide (off < x.o + x.m) = true := decide_eq_true h2
    have HS3 := hid (show lv (xs.take (j + 1)) z off = C + 1 by rw [HSN.out, if_pos ⟨hz, h1, h2⟩])
    clear HSN hz h1 h2
    go_upto_region 5 with fail
    go_quiet (fail)
    go_wp2
    go_roundw
    case rel => exact ⟨j + 1, by rw [HS3.out]; go_num, by go_num, by omega, HF.out.drewN _⟩
    case measure => first | exact next_m _ _ hlt hw1 | (simp only [intOf]; omega)

end Go.Proofs.Ytkkbgbpmpcoffaa.VaG
