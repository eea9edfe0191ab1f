/- Contracts: which numbers are no role; the lowest free zone; who may follow whom; Role, Roles. Conditions: the pool lies in memory as PlB says; a zone's number has 64 bits. -/
import Derived.Test.YtecngikdfplibaaPlC
import Derived.BigQuiet
import Derived.Deep.DeepCutAuto
namespace Go.Proofs.Ytecngikdfplibaa.PlD
open Go.RowKit MSep MSepC MGeM GeA PlM PlA PlB PlC

set_option maxRecDepth 100000 in
theorem isnone_ok (x : Int) (v : Bool) (w : World) (h : v = true ↔ (x < 0 ∨ 5 < x)) : Calls Try.prog 61 #[.int .i64 x] w fun e w' => e = .returned (.bool v) ∧ w' = w := by
  by_cases h1 : x < 0
  · obtain rfl : v = true := h.2 (.inl h1)
    go_enter Try.func61, Try.ntmps61
    go_wp2
    go_ret
    exact ⟨rfl, rfl⟩
  · by_cases h2 : 5 < x
    · obtain rfl : v = true := h.2 (.inr h2)
      go_enter Try.func61, Try.ntmps61
      go_wp2
      go_ret
      exact ⟨rfl, rfl⟩
    · obtain rfl : v = false := by
        cases v with
        | false => rfl
        | true => exact absurd (h.1 rfl) (by omega)
      go_enter Try.func61, Try.ntmps61
      go_wp2
      go_ret
      exact ⟨rfl, rfl⟩
set_option maxRecDepth 100000 in
set_option maxHeartbeats 2000000 in
theorem indexfunc_ok (A : Option Addr) (c : Nat) (R : List Int) (w : World) (hx : RdI w A R.length R) (hl : R.length ≤ 140737488355328) :
    Calls Try.prog 89 #[.slice A R.length c, .func (.func 61) #[] #[]] w fun e w' => ∃ j : Int, e = .returned (.int .i64 j) ∧ (0 ≤ j ↔ ¬ ok R) ∧ w' = w := by
  have HX := hid hx
  have HL := hid hl
  clear hx hl
  go_enter Try.func89, Try.ntmps89
  go_wp2
  go_loopw [8] (fun p wr => ∃ i : Nat, p = .int .i64 i ∧ i ≤ R.length ∧ (∀ j x, j < i → R[j]? = some x → 0 ≤ x ∧ x ≤ 5) ∧ wr = w) (fun p _ => R.length - (intOf p).toNat)
  case atStart => exact ⟨0, rfl, by omega, fun j x h => by omega, rfl⟩
  case round =>
    obtain ⟨i, rfl, hi, hall, rfl⟩ := hrel
    by_cases hlt : i < R.length
    case neg =>
      obtain rfl : i = R.length := by omega
      go_wp2
      go_ret
      refine ⟨-1, rfl, ⟨fun h => absurd h (by decide), fun h => absurd (fun x hm => ?_) h⟩, rfl⟩
      obtain ⟨j, hj⟩ := List.mem_iff_getElem?.1 hm
      exact hall j x (List.getElem?_eq_some_iff.1 hj).1 hj
    obtain ⟨x, hget⟩ : ∃ x, R[i]? = some x := ⟨R[i], List.getElem?_eq_getElem hlt⟩
    obtain ⟨g, o, rfl, _, hc⟩ := HX.out.at_ (by omega)
    have ci := hc i x hget
    have hlt2 : (i : Int) < (R.length : Int) := by omega
    have hw1 : wrap64 ((i : Int) + 1) = (i : Int) + 1 := by have := HL.out; exact w64 _ (by omega)
    have HA := hid hall
    have HC := hid hc
    clear hall hc
    by_cases hn : x < 0 ∨ 5 < x
    · have hN := hid (fun w => isnone_ok x true w ⟨fun _ => hn, fun _ => rfl⟩)
      have HG := hid hget
      clear hget
      go_wp2_with (go_at_call 61; refine (hN.out _).mono ?_; rintro e w1 ⟨rfl, rfl⟩)
      go_ret
      exact ⟨(i : Int), rfl, ⟨fun _ h => by have := h x (List.mem_of_getElem? HG.out); omega, fun _ => by omega⟩, rfl⟩
    · have hN := hid (fun w => isnone_ok x false w ⟨fun h => (by cases h), fun h => absurd h hn⟩)
      have HG := hid hget
      clear hget
      go_wp2_with (go_at_call 61; refine (hN.out _).mono ?_; rintro e w1 ⟨rfl, rfl⟩)
      go_roundw
      case rel =>
        refine ⟨i + 1, by go_num, by omega, fun j y hj hy => ?_, trivial⟩
        by_cases he : j = i
        · subst he
          rw [HG.out] at hy
          cases hy
          omega
        · exact HA.out j y (by omega) hy
      case measure => exact next_m _ _ hlt hw1
set_option maxRecDepth 100000 in
theorem contains_ok (A : Option Addr) (c : Nat) (R : List Int) (v : Bool) (w : World) (hx : RdI w A R.length R) (hl : R.length ≤ 140737488355328) (hv : v = true ↔ ¬ ok R) :
    Calls Try.prog 60 #[.slice A R.length c, .func (.func 61) #[] #[]] w fun e w' => e = .returned (.bool v) ∧ w' = w := by
  have HH := hid (indexfunc_ok A c R w hx hl)
  have HV := hid hv
  clear hx hl hv
  go_enter Try.func60, Try.ntmps60
  go_wp2_with (go_at_call 89; refine HH.out.mono ?_; rintro e w1 ⟨j, rfl, hj, rfl⟩; have HJ := hid hj; clear hj)
  all_goals
    go_ret
    refine ⟨?_, rfl⟩
    have h1 := HJ.out
    have h2 := HV.out
    cases v <;> simp_all
set_option maxRecDepth 100000 in
set_option maxHeartbeats 2000000 in
theorem index_ok (A : Option Addr) (c : Nat) (R : List Int) (w : World) (hx : RdI w A R.length R) (hl : R.length ≤ 140737488355328) (h0 : 0 < cnt R 0) :
    Calls Try.prog 65 #[.slice A R.length c, .int .i64 0] w fun e w' => e = .returned (.int .i64 (low R 0)) ∧ w' = w := by
  have HX := hid hx
  have HL := hid hl
  have H0 := hid h0
  clear hx hl h0
  go_enter Try.func65, Try.ntmps65
  go_wp2
  go_loopw [8] (fun p wr => ∃ i : Nat, p = .int .i64 i ∧ i ≤ R.length ∧ i ≤ low R 0 ∧ wr = w) (fun p _ => R.length - (intOf p).toNat)
  case atStart => exact ⟨0, rfl, by omega, by omega, rfl⟩
  case round =>
    obtain ⟨i, rfl, hi, hle, rfl⟩ := hrel
    have hlow := low_get H0.out
    have hll := (List.getElem?_eq_some_iff.1 hlow).1
    have hlt : i < R.length := by omega
    obtain ⟨x, hget⟩ : ∃ x, R[i]? = some x := ⟨R[i], List.getElem?_eq_getElem hlt⟩
    obtain ⟨g, o, rfl, _, hc⟩ := HX.out.at_ (by omega)
    have ci := hc i x hget
    have hlt2 : (i : Int) < (R.length : Int) := by omega
    have hw1 : wrap64 ((i : Int) + 1) = (i : Int) + 1 := by have := HL.out; exact w64 _ (by omega)
    have HC := hid hc
    have HLL := hid hll
    clear hc hll
    by_cases he : i = low R 0
    · rw [← he, hget] at hlow
      cases hlow
      have HE := hid he
      clear hget he
      go_wp2
      go_ret
      exact ⟨congrArg (fun z => Ending.returned (.int .i64 z)) (by have := HE.out; show (i : Int) = _; omega), rfl⟩
    · obtain ⟨y, hy, hy0⟩ := low_before (R := R) (r := 0) (i := i) (by omega)
      rw [hget] at hy
      cases hy
      have hb : (0 == x) = false := by simp; omega
      have hb2 : ¬ (0 : Int) = x := by omega
      have HE := hid he
      clear hget he hlow
      go_wp2
      go_roundw
      case rel => exact ⟨i + 1, by go_num, by omega, by have := HE.out; omega, trivial⟩
      case measure => exact next_m _ _ hlt hw1
set_option maxRecDepth 100000 in
theorem follows_ok (a b : Int) (v : Bool) (w : World) (ha : 0 ≤ a ∧ a ≤ 5) (hv : v = true ↔ fol a b) : Calls Try.prog 68 #[.int .i64 a, .int .i64 b] w fun e w' => e = .returned (.bool v) ∧ w' = w := by
  have hf : v = decide (fol a b) := by cases v <;> simp_all
  unfold fol at hf
  clear hv
  rcases (show a = 0 ∨ a = 1 ∨ a = 2 ∨ a = 3 ∨ a = 4 ∨ a = 5 by omega) with rfl | rfl | rfl | rfl | rfl | rfl
  all_goals
    simp at hf
    have HV := hid hf
    clear hf ha
    go_enter Try.func68, Try.ntmps68
    go_wp2
    all_goals
      go_ret
      refine ⟨retb ?_, rfl⟩
      refine Eq.trans ?_ HV.out.symm
      first | rfl | (refine Bool.eq_iff_iff.2 ?_; simp; done) | (refine Bool.eq_iff_iff.2 ?_; simp; (try simp only [beq_iff_eq, beq_eq_false_iff_ne, ne_eq] at *); omega)
theorem isseq_v (c s n l k z : Int) (v : Bool) (w : World) (hm : mayG ⟨c, s, n, l, k⟩) (hz : inI z) (hv : v = decide (c ≤ z ∧ z < c + s)) : Calls Try.prog 67 #[.agg #[.int .i64 c, .int .i64 s, .int .i64 n, .int .i64 l, .int .i64 k], .int .i64 z] w fun e w' => e = .returned (.bool v) ∧ Fr No w w' := by
  obtain ⟨_, ⟨h4, h128⟩, _⟩ := may_in hm
  have e : decide (sqo ⟨c, s, n, l, k⟩ z) = v := by
    rw [hv]
    exact decide_eq_decide.2 ⟨fun h => h.2, fun h => ⟨hm, h⟩⟩
  rw [← e]
  exact GeD.isseq_ok c s n l k z w (by omega) hz
def rol (c s : Int) (R : List Int) (z : Int) : Int := if c ≤ z ∧ z < c + s then R.getD (z - c).toNat 0 else -1
theorem getD_of {R : List Int} {c s z : Int} (hl : (R.length : Int) = s) (h : c ≤ z ∧ z < c + s) : ∃ (i : Nat) (x : Int), z - c = i ∧ R[i]? = some x ∧ R.getD (z - c).toNat 0 = x := by
  have hlt : (z - c).toNat < R.length := by omega
  refine ⟨(z - c).toNat, R[(z - c).toNat], by omega, List.getElem?_eq_getElem hlt, ?_⟩
  rw [List.getD_eq_getElem?_getD, List.getElem?_eq_getElem hlt]; rfl
set_option maxRecDepth 100000 in
set_option maxHeartbeats 2000000 in
theorem role_ok (p q : Nat) (c s n l k b : Int) (R : List Int) (z : Int) (w : World) (hP : PA w p q c s n l k b R) (hz : inI z) :
    Calls Try.prog 39 #[.pointer (some ⟨p, 0, none⟩), .int .i64 z] w fun e w' => e = .returned (.int .i64 (rol c s R z)) ∧ Fr No w w' := by
  obtain ⟨c0, c1, c2, c3, c4, c5, c6⟩ := hP.cells
  have hm := hP.may
  obtain ⟨⟨d1, d2⟩, ⟨d3, d4⟩, _⟩ := may_in hm
  by_cases h : c ≤ z ∧ z < c + s
  · obtain ⟨i, x, h1, h2, h3⟩ := getD_of hP.len h
    have hr : rol c s R z = x := by unfold rol; rw [if_pos h, h3]
    rw [hr]
    have HP := hid hP
    have hlt := (List.getElem?_eq_some_iff.1 h2).1
    have hw : wrap64 (z - c) = i := by rw [h1]; exact w64 _ (by have := hP.len; omega)
    have hlt2 : (i : Int) < (R.length : Int) := by omega
    have HQ := hid (isseq_v c s n l k z true w hm hz (by simp [h]))
    have HG := hid h2
    clear hP h1 h2 h3 hr hm d1 d2 d3 d4 h hz
    go_enter Try.func39, Try.ntmps39
    go_upto_region 3 with (go_at_call 67; refine HQ.out.mono ?_; rintro e w1 ⟨rfl, f⟩; have HF := hid f; have hp1 := HP.out.fr0 f; have ci := hp1.get HG.out; obtain ⟨e0, _, _, _, _, _, e6⟩ := hp1.cells; clear f hp1 c0 c1 c2 c3 c4 c5 c6)
    go_quiet (fail)
    go_wp2
    go_ret
    exact ⟨rfl, HF.out.drewN _⟩
  · have hr : rol c s R z = -1 := by unfold rol; rw [if_neg h]
    rw [hr]
    have HQ := hid (isseq_v c s n l k z false w hm hz (by simp; omega))
    clear hP hr hm d1 d2 d3 d4 h hz
    go_enter Try.func39, Try.ntmps39
    go_wp2_with (go_at_call 67; refine HQ.out.mono ?_; rintro e w1 ⟨rfl, f⟩; have HF := hid f; clear f c0 c1 c2 c3 c4 c5 c6)
    go_ret
    exact ⟨rfl, HF.out⟩
set_option maxRecDepth 100000 in
theorem roles_ok (p q : Nat) (c s n l k b : Int) (R : List Int) (w : World) (hP : PA w p q c s n l k b R) :
    Calls Try.prog 40 #[.pointer (some ⟨p, 0, none⟩)] w fun e w' => ∃ A cp, e = .returned (.slice A R.length cp) ∧ OutI w.heap.size w' (.slice A R.length cp) R ∧ Fr No w w' := by
  obtain ⟨_, _, _, _, _, _, c6⟩ := hP.cells
  obtain ⟨_, ⟨_, d4⟩, _⟩ := may_in hP.may
  have hlen := hP.len
  have HC := hid (clone1_ok (some ⟨q, 0, none⟩) R.length R.length R w (by omega) hP.rd)
  clear hP d4 hlen
  go_enter Try.func40, Try.ntmps40
  go_wp2_with (go_at_call 71; refine HC.out.mono ?_; rintro e w1 ⟨A, cp, rfl, ho, f⟩; have HR := hid (And.intro ho f); clear ho f)
  go_ret
  exact ⟨A, cp, rfl, HR.out⟩
end Go.Proofs.Ytecngikdfplibaa.PlD
