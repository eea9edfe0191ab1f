/- Contracts: the document's own pool: Take, Set. Conditions: it lies in memory as PlB says; numbers of zones and the geometry's Seq have 64 bits. -/
import Derived.Test.YtecngikdfplibaaPlK
import Derived.BigQuiet
namespace Go.Proofs.Ytecngikdfplibaa.PlN
open Go.RowKit MSep MSepC MGeM GeA PlM PlA PlB PlC PlD PlE PlH PlI PlJ PlK

/-- A row's block is the one before, or new. -/
def Nw (w : World) (A A' : Option Addr) (n cp cp' : Nat) : Prop := ∀ g, (Value.slice A' n cp').ownBlock = some g → (Value.slice A n cp).ownBlock = some g ∨ w.heap.size ≤ g
theorem Nw.refl (w : World) (A : Option Addr) (n cp : Nat) : Nw w A A n cp cp := fun _ h => .inl h
theorem Nw.new {w : World} {g : Nat} (h : w.heap.size ≤ g) (A : Option Addr) (n cp cp' : Nat) : Nw w A (some ⟨g, 0, none⟩) n cp cp' := by
  intro k hk
  have : g = k := by simpa [Value.ownBlock] using hk
  exact .inr (by omega)
theorem QA.store {B : Nat} {w : World} {x g c1 i : Nat} {A : Option Addr} {cp : Nat} {c s n l k r : Int} {R : List Int} (h : QA w x A cp c s n l k R) (o : OutI B w (.slice (some ⟨g, 0, none⟩) R.length c1) R) (hne : x ≠ g) : QA ((w.setCell ⟨g, i, none⟩ (.int .i64 r)).setCell ⟨x, 5, none⟩ (.slice (some ⟨g, 0, none⟩) R.length c1)) x (some ⟨g, 0, none⟩) c1 c s n l k (R.set i r) := by
  have h1 := (h.hx.far (p := ⟨g, i, none⟩) hne (.int .i64 r)).set_ 5 (.slice (some ⟨g, 0, none⟩) R.length c1)
  have h2 := (OutI.set_ o i r).fr (Fr.set1 _ x 5 (.slice (some ⟨g, 0, none⟩) R.length c1)) (by
    intro k hk
    have : g = k := by simpa [Value.ownBlock] using hk
    omega)
  exact QA.mk2 (by simp) (by simpa using h1) h2
theorem store_fr {w w1 : World} {x g i : Nat} {u v : Value} (f : Fr No w w1) (hg : w.heap.size ≤ g) : Fr (fun q => q = x) w ((w1.setCell ⟨g, i, none⟩ u).setCell ⟨x, 5, none⟩ v) :=
  Fr.setCell (S := fun q => q = x) (p := ⟨x, 5, none⟩) (Fr.setCell (S := fun q => q = x) (p := ⟨g, i, none⟩) (f.mono fun _ _ h => h.elim) (fun h => absurd h (by show ¬ g < _; omega)) u) (fun _ => rfl) v
theorem gtf {a b : Int} (h : ¬ b < a) : decide (b < a) = false := decide_eq_false h

set_option maxRecDepth 100000 in
set_option maxHeartbeats 4000000 in
theorem rtake_d (x : Nat) (A : Option Addr) (cp : Nat) (c s n l k : Int) (R : List Int) (i : Nat) (w : World) (hX : QA w x A cp c s n l k R) (hl : R.length ≤ 1000) (hc : 0 ≤ c ∧ c ≤ 1000000) (h : ¬ 0 < (cnt R 2 : Int)) (h1 : ¬ k ≤ (cac R : Int)) (h2 : ¬ (cnt R 0 : Int) < 2) (hi : low R 0 = i) : Calls Try.prog 33 #[.pointer (some ⟨x, 0, none⟩), .int .i64 2] w fun e w' => ∃ A' cp', e = .returned (.tuple #[.int .i64 (c + i), .int .i64 0]) ∧ QA w' x A' cp' c s n l k (R.set i 2) ∧ Nw w A A' R.length cp cp' ∧ Fr (fun g => g = x) w w' := by
  have h0 : 0 < cnt R 0 := by omega
  have hlow := low_get h0
  rw [hi] at hlow
  have hlt := (List.getElem?_eq_some_iff.1 hlow).1
  have HX := hid hX
  have HLN := hid (show R.length ≤ 1000000 by omega)
  have HLT := hid hlt
  have HLO := hid hlow
  have HB := hid (fun j (h : j < i) => low_before (show j < low R 0 by rw [hi]; exact h))
  obtain ⟨d0, d1, d2, d3, d4, d5⟩ := hX.cells
  have hwz : wrap64 (c + i) = c + i := w64 _ (by omega)
  clear hX hl hc h0 hlow hlt hi
  have hd := gtf h
  have hdn : decide (0 < cnt R 2) = false := decide_eq_false (by omega)
  have hd2n : decide (cnt R 0 < 2) = false := decide_eq_false (by omega)
  have hd1 : decide (k ≤ (cac R : Int)) = false := decide_eq_false h1
  have hd2 : decide ((cnt R 0 : Int) < 2) = false := decide_eq_false h2
  go_enter Try.func33, Try.ntmps33
  go_upto_region 5 with (go_at_call 66; refine (rcount_ok x A cp c s n l k R _ _ HX.out HLN.out).mono ?_; rintro e w1 ⟨rfl, hw1⟩; rw [hw1]; clear hw1 w1)
  go_quiet (first | (go_at_call 66; exact Calls.quiet_of_same (rcount_ok x A cp c s n l k R _ _ (HX.out.fr0 ((Fr.refl _ _).drewN _)) HLN.out)) | (go_at_call 63; exact Calls.quiet_of_same (rcached_ok x A cp c s n l k R _ (HX.out.fr0 ((Fr.refl _ _).drewN _)) HLN.out)))
  go_upto_region 10 with fail
  obtain ⟨W, hW, HF⟩ : ∃ W, w.drewN _ = W ∧ Hid (Fr No w W) := ⟨_, rfl, hid ((Fr.refl No w).drewN _)⟩
  first | rw [hW] | skip
  replace HX := hid (HX.out.fr0 HF.out)
  clear d0 d1 d2 d3 d4 d5 hW
  clear h h1 h2 hd hdn hd1 hd2 hd2n
  obtain ⟨d0, d1, d2, d3, d4, d5⟩ := HX.out.cells
  go_wp2
  go_loopw [7] (fun i' wr => ∃ j : Nat, i' = .int .i64 j ∧ j ≤ i ∧ wr = W) (fun i' _ => i - (intOf i').toNat)
  case atStart => exact ⟨0, rfl, by omega, rfl⟩
  case round =>
    obtain ⟨j, rfl, hj, hwr⟩ := hrel
    subst wr
    by_cases hlt : j < i
    case pos =>
      obtain ⟨y, hy, hy0⟩ := HB.out j hlt
      have hjl := (List.getElem?_eq_some_iff.1 hy).1
      obtain ⟨g, oo, rfl, _, hc⟩ := HX.out.rd.at_ (by omega)
      have cj := hc j y hy
      have hjz : (j : Int) < (R.length : Int) := by omega
      have hw1 : wrap64 ((j : Int) + 1) = (j : Int) + 1 := by have := HLN.out; exact w64 _ (by omega)
      have e1 : (y != 0) = true := by simpa using hy0
      clear hy hc
      go_wp2
      go_roundw
      case rel => (refine ⟨j + 1, by go_num, by omega, ?_⟩; trivial)
      case measure => first | exact next_m _ _ hlt hw1 | (simp only [intOf]; omega)
    have hji : j = i := by omega
    subst j
    obtain ⟨g, oo, hA, _, hc⟩ := HX.out.rd.at_ (by have := HLT.out; omega)
    have cj := hc i 0 HLO.out
    have hjz : (i : Int) < (R.length : Int) := by have := HLT.out; omega
    clear hc
    subst hA
    have O0 := hid (own_lit W)
    have q5 := fun o => kc (fr1 W o) d5
    have HXR := hid (HX.out.rd.fr ((Fr.refl No W).alloc (.cells #[] 3)))
    go_wp2_with (at_builtin; refine app_i rfl (.tmp 50) (.tmp 54) rfl W.heap.size _ [] rfl O0.out _ R.length _ R rfl HXR.out (by have := HLN.out; simp; omega) (by simp) ?_)
    intro A1 c1 w1 o1 f1
    try simp only [List.length_nil, Nat.zero_add, List.nil_append] at o1
    try simp only [List.length_nil, Nat.zero_add, List.nil_append]
    obtain ⟨g1, rfl, hg1, hg2⟩ := outI_at o1 (by have := HLT.out; omega)
    have F1 := hid (fr_ownI ((Fr.refl No W).alloc (.cells #[] 3)) (lit_ge W) (Nat.le_refl _) f1)
    have hq1 := HX.out.fr0 F1.out
    obtain ⟨e0, e1, e2, e3, e4, e5⟩ := hq1.cells
    have fx := hq1.hx.frozen 5
    have hxg : x ≠ g1 := by have := HX.out.hx.lt; omega
    have hgx := hxg.symm
    have ci := OutI.get rfl o1 HLO.out
    have fi := OutI.frozen o1 i
    have hi2 : (i : Int) < (R.length : Int) := by have := HLT.out; omega
    have HS := hid (QA.store (i := i) (r := 2) hq1 o1 hxg)
    have HF2 := hid (store_fr (i := i) (x := x) (u := .int .i64 2) (v := .slice (some ⟨g1, 0, none⟩) R.length c1) (HF.out.trans F1.out) (Nat.le_trans HF.out.size hg1))
    have HN := hid (Nw.new (Nat.le_trans HF.out.size hg1) (some ⟨g, oo, none⟩) R.length cp c1)
    clear o1 f1 hq1 q5 d0 d1 d2 d3 d4 d5
    go_wp2
    go_ret2
    exact ⟨some ⟨g1, 0, none⟩, c1, congrArg (fun z => Ending.returned (.tuple #[.int .i64 z, .int .i64 0])) hwz, HS.out, HN.out, HF2.out⟩
set_option maxRecDepth 100000 in
set_option maxHeartbeats 4000000 in
theorem rtake_g (x : Nat) (A : Option Addr) (cp : Nat) (c s n l k : Int) (R : List Int) (i : Nat) (w : World) (hX : QA w x A cp c s n l k R) (hl : R.length ≤ 1000) (hc : 0 ≤ c ∧ c ≤ 1000000) (h : ¬ 0 < (cnt R 4 : Int)) (h2 : ¬ (cnt R 0 : Int) < 1) (hi : low R 0 = i) : Calls Try.prog 33 #[.pointer (some ⟨x, 0, none⟩), .int .i64 4] w fun e w' => ∃ A' cp', e = .returned (.tuple #[.int .i64 (c + i), .int .i64 0]) ∧ QA w' x A' cp' c s n l k (R.set i 4) ∧ Nw w A A' R.length cp cp' ∧ Fr (fun g => g = x) w w' := by
  have h0 : 0 < cnt R 0 := by omega
  have hlow := low_get h0
  rw [hi] at hlow
  have hlt := (List.getElem?_eq_some_iff.1 hlow).1
  have HX := hid hX
  have HLN := hid (show R.length ≤ 1000000 by omega)
  have HLT := hid hlt
  have HLO := hid hlow
  have HB := hid (fun j (h : j < i) => low_before (show j < low R 0 by rw [hi]; exact h))
  obtain ⟨d0, d1, d2, d3, d4, d5⟩ := hX.cells
  have hwz : wrap64 (c + i) = c + i := w64 _ (by omega)
  clear hX hl hc h0 hlow hlt hi
  have hd := gtf h
  have hdn : decide (0 < cnt R 4) = false := decide_eq_false (by omega)
  have hd2n : decide (cnt R 0 < 1) = false := decide_eq_false (by omega)
  have hd2 : decide ((cnt R 0 : Int) < 1) = false := decide_eq_false h2
  go_enter Try.func33, Try.ntmps33
  go_upto_region 10 with (go_at_call 66; refine (rcount_ok x A cp c s n l k R _ _ HX.out HLN.out).mono ?_; rintro e w1 ⟨rfl, hw1⟩; rw [hw1]; clear hw1 w1)
  obtain ⟨W, hW, HF⟩ : ∃ W, w = W ∧ Hid (Fr No w W) := ⟨_, rfl, hid (Fr.refl No w)⟩
  first | rw [hW] | skip
  replace HX := hid (HX.out.fr0 HF.out)
  clear d0 d1 d2 d3 d4 d5 hW
  clear h h2 hd hdn hd2 hd2n
  obtain ⟨d0, d1, d2, d3, d4, d5⟩ := HX.out.cells
  go_wp2
  go_loopw [7] (fun i' wr => ∃ j : Nat, i' = .int .i64 j ∧ j ≤ i ∧ wr = W) (fun i' _ => i - (intOf i').toNat)
  case atStart => exact ⟨0, rfl, by omega, rfl⟩
  case round =>
    obtain ⟨j, rfl, hj, hwr⟩ := hrel
    subst wr
    by_cases hlt : j < i
    case pos =>
      obtain ⟨y, hy, hy0⟩ := HB.out j hlt
      have hjl := (List.getElem?_eq_some_iff.1 hy).1
      obtain ⟨g, oo, rfl, _, hc⟩ := HX.out.rd.at_ (by omega)
      have cj := hc j y hy
      have hjz : (j : Int) < (R.length : Int) := by omega
      have hw1 : wrap64 ((j : Int) + 1) = (j : Int) + 1 := by have := HLN.out; exact w64 _ (by omega)
      have e1 : (y != 0) = true := by simpa using hy0
      clear hy hc
      go_wp2
      go_roundw
      case rel => (refine ⟨j + 1, by go_num, by omega, ?_⟩; trivial)
      case measure => first | exact next_m _ _ hlt hw1 | (simp only [intOf]; omega)
    have hji : j = i := by omega
    subst j
    obtain ⟨g, oo, hA, _, hc⟩ := HX.out.rd.at_ (by have := HLT.out; omega)
    have cj := hc i 0 HLO.out
    have hjz : (i : Int) < (R.length : Int) := by have := HLT.out; omega
    clear hc
    subst hA
    have O0 := hid (own_lit W)
    have q5 := fun o => kc (fr1 W o) d5
    have HXR := hid (HX.out.rd.fr ((Fr.refl No W).alloc (.cells #[] 3)))
    go_wp2_with (at_builtin; refine app_i rfl (.tmp 50) (.tmp 54) rfl W.heap.size _ [] rfl O0.out _ R.length _ R rfl HXR.out (by have := HLN.out; simp; omega) (by simp) ?_)
    intro A1 c1 w1 o1 f1
    try simp only [List.length_nil, Nat.zero_add, List.nil_append] at o1
    try simp only [List.length_nil, Nat.zero_add, List.nil_append]
    obtain ⟨g1, rfl, hg1, hg2⟩ := outI_at o1 (by have := HLT.out; omega)
    have F1 := hid (fr_ownI ((Fr.refl No W).alloc (.cells #[] 3)) (lit_ge W) (Nat.le_refl _) f1)
    have hq1 := HX.out.fr0 F1.out
    obtain ⟨e0, e1, e2, e3, e4, e5⟩ := hq1.cells
    have fx := hq1.hx.frozen 5
    have hxg : x ≠ g1 := by have := HX.out.hx.lt; omega
    have hgx := hxg.symm
    have ci := OutI.get rfl o1 HLO.out
    have fi := OutI.frozen o1 i
    have hi2 : (i : Int) < (R.length : Int) := by have := HLT.out; omega
    have HS := hid (QA.store (i := i) (r := 4) hq1 o1 hxg)
    have HF2 := hid (store_fr (i := i) (x := x) (u := .int .i64 4) (v := .slice (some ⟨g1, 0, none⟩) R.length c1) (HF.out.trans F1.out) (Nat.le_trans HF.out.size hg1))
    have HN := hid (Nw.new (Nat.le_trans HF.out.size hg1) (some ⟨g, oo, none⟩) R.length cp c1)
    clear o1 f1 hq1 q5 d0 d1 d2 d3 d4 d5
    go_wp2
    go_ret2
    exact ⟨some ⟨g1, 0, none⟩, c1, congrArg (fun z => Ending.returned (.tuple #[.int .i64 z, .int .i64 0])) hwz, HS.out, HN.out, HF2.out⟩
set_option maxRecDepth 100000 in
set_option maxHeartbeats 4000000 in
theorem rtake_z (x : Nat) (A : Option Addr) (cp : Nat) (c s n l k : Int) (R : List Int) (r : Int) (w : World) (hX : QA w x A cp c s n l k R) (hl : R.length ≤ 1000000) (h2 : ¬ r = 2) (h4 : ¬ r = 4) : Calls Try.prog 33 #[.pointer (some ⟨x, 0, none⟩), .int .i64 r] w fun e w' => e = .returned (.tuple #[.int .i64 0, .int .i64 141]) ∧ Fr No w w' := by
  have HX := hid hX
  have HLN := hid hl
  have e2 : (r == 2) = false := by simpa using h2
  have e4 : (r == 4) = false := by simpa using h4
  clear hX hl
  go_enter Try.func33, Try.ntmps33
  go_wp2_with (go_at_call 66; refine (rcount_ok x A cp c s n l k R _ _ HX.out HLN.out).mono ?_; rintro e w1 ⟨rfl, hw1⟩; rw [hw1]; clear hw1 w1)
  go_ret2
  exact ⟨rfl, Fr.refl _ _⟩
theorem tk_no {c k : Int} {R : List Int} {r v : Int} (h : tkE k R r = v) (hv : v ≠ 0) : tkZ c k R r = 0 ∧ tkE k R r = v ∧ tkR k R r = R := by
  have h0 : ¬ tkE k R r = 0 := by omega
  unfold tkZ tkR
  exact ⟨if_neg h0, h, if_neg h0⟩
theorem tk_yes {c k : Int} {R : List Int} {r : Int} (h : tkE k R r = 0) : tkZ c k R r = c + low R 0 ∧ tkR k R r = R.set (low R 0) r := by
  unfold tkZ tkR
  exact ⟨if_pos h, if_pos h⟩
theorem rtake_ok (x : Nat) (A : Option Addr) (cp : Nat) (c s n l k : Int) (R : List Int) (r : Int) (w : World) (hX : QA w x A cp c s n l k R) (hl : R.length ≤ 1000) (hc : 0 ≤ c ∧ c ≤ 1000000) : Calls Try.prog 33 #[.pointer (some ⟨x, 0, none⟩), .int .i64 r] w fun e w' => ∃ A' cp', e = .returned (.tuple #[.int .i64 (tkZ c k R r), .int .i64 (tkE k R r)]) ∧ QA w' x A' cp' c s n l k (tkR k R r) ∧ Nw w A A' R.length cp cp' ∧ Fr (fun g => g = x) w w' := by
  have no : ∀ v : Int, tkE k R r = v → v ≠ 0 → (Calls Try.prog 33 #[.pointer (some ⟨x, 0, none⟩), .int .i64 r] w fun e w' => e = .returned (.tuple #[.int .i64 0, .int .i64 v]) ∧ Fr No w w') → Calls Try.prog 33 #[.pointer (some ⟨x, 0, none⟩), .int .i64 r] w fun e w' => ∃ A' cp', e = .returned (.tuple #[.int .i64 (tkZ c k R r), .int .i64 (tkE k R r)]) ∧ QA w' x A' cp' c s n l k (tkR k R r) ∧ Nw w A A' R.length cp cp' ∧ Fr (fun g => g = x) w w' := by
    intro v h hv hcall
    obtain ⟨t1, t2, t3⟩ := tk_no (c := c) h hv
    rw [t1, t2, t3]
    exact hcall.mono fun e w' h => ⟨A, cp, h.1, hX.fr0 h.2, Nw.refl _ _ _ _, h.2.mono fun _ _ h => h.elim⟩
  by_cases h2 : r = 2
  · subst h2
    by_cases a1 : 0 < (cnt R 2 : Int)
    · exact no 140 (by unfold tkE; rw [if_pos rfl, if_neg (by omega)]) (by decide) (rtake_a x A cp c s n l k R w hX (by omega) a1)
    by_cases a2 : k ≤ (cac R : Int)
    · exact no 140 (by unfold tkE; rw [if_pos rfl, if_neg (by omega)]) (by decide) (rtake_b x A cp c s n l k R w hX (by omega) a1 a2)
    by_cases a3 : (cnt R 0 : Int) < 2
    · exact no 140 (by unfold tkE; rw [if_pos rfl, if_neg (by omega)]) (by decide) (rtake_c x A cp c s n l k R w hX (by omega) a1 a2 a3)
    have e : tkE k R 2 = 0 := by unfold tkE; rw [if_pos rfl, if_pos (by omega)]
    obtain ⟨t1, t2⟩ := tk_yes (c := c) e
    rw [t1, t2, e]
    exact rtake_d x A cp c s n l k R _ w hX hl hc a1 a2 a3 rfl
  by_cases h4 : r = 4
  · subst h4
    by_cases a1 : 0 < (cnt R 4 : Int)
    · exact no 140 (by unfold tkE; rw [if_neg (by decide), if_pos rfl, if_neg (by omega)]) (by decide) (rtake_e x A cp c s n l k R w hX (by omega) a1)
    by_cases a3 : (cnt R 0 : Int) < 1
    · exact no 140 (by unfold tkE; rw [if_neg (by decide), if_pos rfl, if_neg (by omega)]) (by decide) (rtake_f x A cp c s n l k R w hX (by omega) a1 a3)
    have e : tkE k R 4 = 0 := by unfold tkE; rw [if_neg (by decide), if_pos rfl, if_pos (by omega)]
    obtain ⟨t1, t2⟩ := tk_yes (c := c) e
    rw [t1, t2, e]
    exact rtake_g x A cp c s n l k R _ w hX hl hc a1 a3 rfl
  · exact no 141 (by unfold tkE; rw [if_neg h2, if_neg h4]) (by decide) (rtake_z x A cp c s n l k R r w hX (by omega) h2 h4)
end Go.Proofs.Ytecngikdfplibaa.PlN
