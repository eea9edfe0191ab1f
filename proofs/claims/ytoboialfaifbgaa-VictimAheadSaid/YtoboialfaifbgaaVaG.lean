/- Contracts: the document's own counts. Conditions: the extents read as a list of at most 1000 structs of whole numbers of 64 bits, each of no more than 2^40 sectors. -/
import Derived.Test.YtoboialfaifbgaaVaD
import Derived.BigQuiet
namespace Go.Proofs.Ytoboialfaifbgaa.VaG
open Go.RowKit MSep MGeM GeA PgA PgB VaC VaD

set_option maxRecDepth 100000 in
set_option maxHeartbeats 1000000 in
theorem rcnt_ok (A : Option Addr) (l c : Nat) (xs : List Ex) (z : Int) (w : World) (hl : l ≤ 1000) (hx : RdX w A l xs) (hm : ∀ x ∈ xs, 0 ≤ x.m ∧ x.m ≤ 1099511627776) :
    Calls Try.prog 13 #[.slice A l c, .int .i64 z] w fun e w' => e = .returned (.int .i64 (cz xs z)) ∧ w' = w := by
  have HX := hid hx
  have HL := hid hl
  have HM := hid hm
  have HLX := hid hx.1
  clear hx hl hm
  go_enter Try.func13, Try.ntmps13
  go_wp2
  go_loopw [5, 6] (fun a i wr => ∃ j : Nat, a = .int .i64 (cz (xs.take j) z) ∧ i = .int .i64 j ∧ j ≤ l ∧ wr = w) (fun _ i _ => l - (intOf i).toNat)
  case atStart => exact ⟨0, rfl, rfl, by omega, rfl⟩
  case round =>
    obtain ⟨j, rfl, rfl, hj, hwr⟩ := hrel
    subst wr
    by_cases hlt : j < l
    case neg =>
      obtain rfl : j = l := by omega
      rw [List.take_of_length_le (by have := HLX.out; omega)]
      go_wp2
      go_ret
      exact ⟨rfl, rfl⟩
    obtain ⟨x, hget⟩ : ∃ x, xs[j]? = some x := ⟨_, List.getElem?_eq_getElem (by have := HLX.out; omega)⟩
    obtain ⟨g, oo, rfl, _, hc⟩ := PgB.RdX.at_ HX.out (by omega)
    obtain ⟨c0, c1, c2, c3⟩ := hc j x hget
    have hjz : (j : Int) < (l : Int) := by omega
    have hw1 : wrap64 ((j : Int) + 1) = (j : Int) + 1 := by have := HL.out; exact w64 _ (by omega)
    have hts := take_snoc hget
    have hci := cz_in (L := xs.take j) (z := z) (fun y hy => HM.out y (List.mem_of_mem_take hy))
    have hlen : (xs.take j).length ≤ 1000 := by rw [List.length_take]; have := HL.out; omega
    have hmx := HM.out x (List.mem_of_getElem? hget)
    obtain ⟨C, hC⟩ : ∃ C, cz (xs.take j) z = C := ⟨_, rfl⟩
    rw [hC] at hci ⊢
    have hsn := cz_snoc (xs.take j) x z
    rw [← hts, hC] at hsn
    have hw2 : wrap64 (C + x.m) = C + x.m := w64 _ (by omega)
    have HSN := hid hsn
    clear hc hget hts hsn hC hci hlen hmx
    by_cases hz : x.z = z
    · have e1 : (x.z == z) = true := by simpa using hz
      have HS2 := HSN.out
      rw [if_pos hz] at HS2
      have HS3 := hid HS2
      clear HS2 HSN hz
      go_wp2
      go_roundw
      case rel => exact ⟨j + 1, by rw [HS3.out]; go_num, by go_num, by omega, by trivial⟩
      case measure => first | exact next_m _ _ hlt hw1 | (simp only [intOf]; omega)
    · have e1 : (x.z == z) = false := by simpa using hz
      have HS2 := HSN.out
      rw [if_neg hz, Int.add_zero] at HS2
      have HS3 := hid HS2
      clear HS2 HSN hz hw2
      go_wp2
      go_roundw
      case rel => exact ⟨j + 1, by rw [HS3.out], by go_num, by omega, by trivial⟩
      case measure => first | exact next_m _ _ hlt hw1 | (simp only [intOf]; omega)

/-- In how many of the extents a zone's sector is. -/
def lv (L : List Ex) (z off : Int) : Nat := match L with
  | [] => 0
  | x :: l => (if x.z = z ∧ x.o ≤ off ∧ off < x.o + x.m then 1 else 0) + lv l z off
theorem lv_snoc (L : List Ex) (x : Ex) (z off : Int) : lv (L ++ [x]) z off = lv L z off + (if x.z = z ∧ x.o ≤ off ∧ off < x.o + x.m then 1 else 0) := by
  induction L with
  | nil => simp [lv]
  | cons y l ih => simp only [List.cons_append, lv, ih]; omega
theorem lv_le (L : List Ex) (z off : Int) : lv L z off ≤ L.length := by
  induction L with
  | nil => simp [lv]
  | cons y l ih => simp only [lv, List.length_cons]; split <;> omega
end Go.Proofs.Ytoboialfaifbgaa.VaG
