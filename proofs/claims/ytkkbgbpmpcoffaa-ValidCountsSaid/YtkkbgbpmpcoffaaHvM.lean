import Derived.Test.YtkkbgbpmpcoffaaHvB
import Derived.Test.YtkkbgbpmpcoffaaSpO
import Derived.BigQuiet
import Derived.Test.YtkkbgbpmpcoffaaHvD
import Derived.Test.YtkkbgbpmpcoffaaHvA
import Derived.Test.YtkkbgbpmpcoffaaHvI
/- Contracts: the document's set of a zone's live sectors; two lists of spans held against each other. Conditions: the extents read as a list of at most 1000 structs; the geometry's length of a zone is at most 1024. -/
namespace Go.Proofs.Ytkkbgbpmpcoffaa.VaR
open Go.RowKit MSep MSepC MSpM MGeM GeA GeC PgA PgB VaC VaG VaH VaN SpO

theorem out_bump {B : Nat} {w : World} {g n c : Nat} {l : List Sp} {a m : Int} (h : Out B w (.slice (some ⟨g, 0, none⟩) n c) (l ++ [(a, m)])) (hn : n = l.length + 1) (m' : Int) :
    w.cell? ⟨g, l.length * 2 + 1, none⟩ = some (.int .i64 m) ∧ w.frozen? ⟨g, l.length * 2 + 1, none⟩ = false ∧ Out B (w.setCell ⟨g, l.length * 2 + 1, none⟩ (.int .i64 m')) (.slice (some ⟨g, 0, none⟩) n c) (l ++ [(a, m')]) := by
  subst hn
  have e1 : cs2 (l ++ [(a, m)]) = cs2 l ++ [.int .i64 a, .int .i64 m] := by rw [cs2_append]; rfl
  have e2 : cs2 (l ++ [(a, m')]) = cs2 l ++ [.int .i64 a, .int .i64 m'] := by rw [cs2_append]; rfl
  have hl : (cs2 l).length = l.length * 2 := cs2_len l
  have hlen : (l ++ [(a, m)]).length = l.length + 1 := by simp
  have hlen2 : (l ++ [(a, m')]).length = l.length + 1 := by simp
  unfold Out at h ⊢
  rw [hlen] at h
  rw [hlen2]
  refine ⟨?_, World.ownsRow.frozenAt h _, ?_⟩
  · rw [World.ownsRow.cellAt h _ (by omega), e1, List.getElem?_append_right (by omega), hl]
    simp
  · have h1 := (World.ownsRow.stored h (l.length * 2 + 1) (.int .i64 m')).1
    rw [e1] at h1
    rw [e2]
    rw [List.set_append_right _ _ (by rw [hl]; omega), hl] at h1
    simpa using h1
set_option maxRecDepth 100000 in
set_option maxHeartbeats 2000000 in
theorem rLive_ok (gc gs gn gl gk : Int) (A : Option Addr) (l c : Nat) (xs : List Ex) (z : Int) (N : Nat) (w : World) (hl : l ≤ 1000) (hx : RdX w A l xs) (hm : ∀ x ∈ xs, (0 ≤ x.m ∧ x.m ≤ 1099511627776) ∧ 0 ≤ x.o ∧ x.o ≤ 1099511627776) (hN : gn = (N : Int)) (hN2 : N ≤ 1024) :
    Calls Try.prog 28 #[gv gc gs gn gl gk, .slice A l c, .int .i64 z] w fun e w' => ∃ A' c', e = .returned (.slice A' (rl (lvB xs z) N).length c') ∧ RdS w' A' (rl (lvB xs z) N).length (rl (lvB xs z) N) ∧ Fr No w w' := by
  subst hN
  have HF0 := hid (fr1 w (bg gc gs N gl gk))
  have P0 := hid (BG.new w gc gs N gl gk)
  have HR := hid (fun off W (h : RdX W A l xs) => rlive_ok A l c xs z off W hl h hm)
  have HX := hid hx
  have HN := hid hN2
  have HI := hid (fun k (h : k ≤ N) => rl_inv (lvB xs z) k (by omega))
  clear hl hx hm hN2
  go_enter Try.func28, Try.ntmps28
  go_wp2
  obtain ⟨G, hG⟩ : ∃ G, w.heap.size = G := ⟨_, rfl⟩
  obtain ⟨w1, hw1⟩ : ∃ w1, w.alloc (bg gc gs N gl gk) = w1 := ⟨_, rfl⟩
  rw [hw1] at HF0 P0
  rw [hG] at P0
  try rw [show w.alloc (Obj.cells #[.int .i64 gc, .int .i64 gs, .int .i64 N, .int .i64 gl, .int .i64 gk] 23) = w1 from hw1]
  try rw [hG]
  clear hw1 hG
  go_loopw [7, 8] (fun v i wr => ∃ (k : Nat) (A' : Option Addr) (c' : Nat), i = .int .i64 k ∧ k ≤ N ∧ v = .slice A' (rl (lvB xs z) k).length c' ∧ Hid (Out w1.heap.size wr (.slice A' (rl (lvB xs z) k).length c') (rl (lvB xs z) k)) ∧ Fr No w1 wr) (fun _ i _ => N - (intOf i).toNat)
  case atStart => exact ⟨0, none, 0, rfl, by omega, rfl, hid (Out.nil _ _), Fr.refl _ _⟩
  case round =>
    obtain ⟨k, A', c', rfl, hk, rfl, HO, hf⟩ := hrel
    obtain ⟨g0, g1, g2, g3, g4⟩ := BG.cells (BG.fr P0.out hf)
    by_cases hlt : k < N
    case neg =>
      obtain rfl : k = N := by omega
      have HF := hid hf
      clear hf
      go_wp2
      go_ret
      exact ⟨A', c', rfl, HO.out.rd, HF0.out.trans HF.out⟩
    have hkz : (k : Int) < (N : Int) := by omega
    have hwk : wrap64 ((k : Int) + 1) = (k : Int) + 1 := by have := HN.out; exact SpA.w64 _ (by omega)
    have HF := hid hf
    have HK := hid hlt
    clear hf
    have HS := hid (show rl (lvB xs z) (k + 1) = if lvB xs z k = false then rl (lvB xs z) k else if 0 < k ∧ lvB xs z (k - 1) = true then bump (rl (lvB xs z) k) else rl (lvB xs z) k ++ [((k : Int), 1)] from rfl)
    have hv1 : lvB xs z k = decide (0 < lv xs z k) := rfl
    obtain ⟨V, hV⟩ : ∃ V, lv xs z k = V := ⟨_, rfl⟩
    have HV := hid hV
    rw [hV] at hv1
    by_cases h0 : V = 0
    · subst h0
      have HS2 := hid (show rl (lvB xs z) (k + 1) = rl (lvB xs z) k by rw [HS.out, if_pos (by rw [hv1]; rfl)])
      clear hV hv1 HS
      go_wp2_with (go_at_call 74; go_loud (refine (HR.out _ _ (PgB.RdX.fr HX.out (HF0.out.trans HF.out))).mono ?_); rintro e w2 ⟨rfl, f⟩; rw [HV.out]; have HF2 := hid f; clear f)
      go_roundw
      case rel => exact ⟨k + 1, A', c', by go_num, HK.out, by rw [HS2.out], by rw [HS2.out]; exact hid (HO.out.fr HF2.out), HF.out.trans HF2.out⟩
      case measure => first | exact VaC.next_m _ _ hlt hwk | (simp only [intOf]; omega)
    have hvt : lvB xs z k = true := by rw [hv1]; exact decide_eq_true (by omega)
    have hVb : ((V : Int) == 0) = false := by simp; omega
    have HS1 := hid (show rl (lvB xs z) (k + 1) = if 0 < k ∧ lvB xs z (k - 1) = true then bump (rl (lvB xs z) k) else rl (lvB xs z) k ++ [((k : Int), 1)] by rw [HS.out, if_neg (by rw [hvt]; decide)])
    have HVN := hid h0
    clear hV hv1 hvt h0 HS
    have HLEN := hid (HI.out k (by have := HK.out; omega)).2.2.1
    by_cases hp : 0 < k ∧ lvB xs z (k - 1) = true
    · have hI := (HI.out k (by have := HK.out; omega)).2.2.2.2
      rw [if_pos hp] at hI
      obtain ⟨L, a, m, hL, ham⟩ := hI
      have hms : may (a, m) ∧ 0 < (a, m).2 := (HI.out k (by have := HK.out; omega)).1.2 (a, m) (by rw [hL]; simp)
      have HMS := hid hms
      have HS2 := hid (show rl (lvB xs z) (k + 1) = L ++ [(a, m + 1)] by rw [HS1.out, if_pos hp, hL, bump_snoc])
      have hb := hp.2
      unfold lvB at hb
      have hP : 0 < lv xs z ((k - 1 : Nat) : Int) := of_decide_eq_true hb
      have hkc : ((k - 1 : Nat) : Int) = (k : Int) - 1 := by omega
      rw [hkc] at hP
      obtain ⟨V2, hV2⟩ : ∃ V2, lv xs z ((k : Int) - 1) = V2 := ⟨_, rfl⟩
      rw [hV2] at hP
      have HV2 := hid hV2
      rw [hL] at HO HLEN ⊢
      have hk0 : decide ((0 : Int) < (k : Int)) = true := decide_eq_true (by omega)
      have hk00 : (0 : Int) < (k : Int) := by omega
      have hwk1 : wrap64 ((k : Int) - 1) = (k : Int) - 1 := by have := HN.out; exact SpA.w64 _ (by omega)
      have hV2b : decide ((0 : Int) < (V2 : Int)) = true := decide_eq_true (by omega)
      have hV2c : (0 : Int) < (V2 : Int) := by omega
      have hLl : (L ++ [(a, m)]).length = L.length + 1 := by simp
      obtain ⟨g, cq, rfl, rfl⟩ : ∃ g cq, A' = some ⟨g, 0, none⟩ ∧ c' = cq := by
        rcases HO.out.2 with ⟨e, hn⟩ | ⟨g, cap, cur, e, _⟩
        · rw [hLl] at hn; omega
        · injection e with e1 e2 e3
          exact ⟨g, c', e1, rfl⟩
      rw [hLl] at HO ⊢
      have HLL := hid (show L.length + 1 ≤ 1024 by have := HLEN.out; rw [hLl] at this; have := HK.out; have := HN.out; omega)
      have hwl : wrap64 (((L.length + 1 : Nat) : Int) - 1) = (L.length : Int) := by have := HLL.out; exact (SpA.w64 _ (by omega)).trans (by omega)
      have hwl2 : wrap64 ((L.length : Int) + 1 - 1) = (L.length : Int) := by have := HLL.out; exact (SpA.w64 _ (by omega)).trans (by omega)
      have hwl3 : wrap64 (L.length : Int) = (L.length : Int) := by have := HLL.out; exact SpA.w64 _ (by omega)
      have hwm : wrap64 (m + 1) = m + 1 := by have := HMS.out.1; unfold may at this; exact SpA.w64 _ (by dsimp only at this; omega)
      have HLQ := hid hLl
      clear hL ham hms hb hP hkc hV2 hp hLl
      go_wp2_with (go_at_call 74; go_loud (refine (HR.out _ _ (PgB.RdX.fr HX.out (HF0.out.trans HF.out))).mono ?_); rintro e w2 ⟨rfl, f⟩; go_loud (first | rw [HV.out] | rw [hwk1, HV2.out]); replace HF := hid (HF.out.trans f); replace HO := hid (HO.out.fr f); obtain ⟨u0, u1, u2⟩ := out_bump HO.out rfl (m + 1); have HU := hid u2; have HGE := hid (HO.out.ge g rfl).1; clear f u2)
      go_roundw
      case rel => exact ⟨k + 1, some ⟨g, 0, none⟩, c', by go_num, HK.out, by rw [HS2.out]; simp, by rw [HS2.out]; have := HU.out; exact hid (by simpa using this), HF.out.step (Fr.set1 _ g _ _) (fun i hi e => by have := HGE.out; omega)⟩
      case measure => first | exact VaC.next_m _ _ hlt hwk | (simp only [intOf]; omega)
    · have HS2 := hid (show rl (lvB xs z) (k + 1) = rl (lvB xs z) k ++ [((k : Int), 1)] by rw [HS1.out, if_neg hp])
      have HPN := hid hp
      clear hp
      by_cases hk0 : 0 < k
      · have hb : lvB xs z (k - 1) = false := by
          have := HPN.out
          cases h : lvB xs z (k - 1) with
          | false => rfl
          | true => exact absurd ⟨hk0, h⟩ this
        unfold lvB at hb
        have hP : ¬ 0 < lv xs z ((k - 1 : Nat) : Int) := of_decide_eq_false hb
        have hkc : ((k - 1 : Nat) : Int) = (k : Int) - 1 := by omega
        rw [hkc] at hP
        have HV2 := hid (show lv xs z ((k : Int) - 1) = 0 by omega)
        have hk1 : decide ((0 : Int) < (k : Int)) = true := decide_eq_true (by omega)
        have hk00 : (0 : Int) < (k : Int) := by omega
        have hwk1 : wrap64 ((k : Int) - 1) = (k : Int) - 1 := by have := HN.out; exact SpA.w64 _ (by omega)
        clear hb hP hkc
        go_wp2_with (first | (go_at_call 74; go_loud (refine (HR.out _ _ (PgB.RdX.fr HX.out (HF0.out.trans HF.out))).mono ?_); rintro e w2 ⟨rfl, f⟩; go_loud (first | rw [HV.out] | rw [hwk1, HV2.out]); replace HF := hid (HF.out.trans f); replace HO := hid (HO.out.fr f); clear f) | (at_builtin; refine app_sp rfl (.tmp 15) (.tmp 18) rfl w1.heap.size _ _ rfl (HO.out.fr (fr1 _ _)) _ 1 _ [((k : Int), 1)] rfl (lit_rd _ _ _) (by have := HLEN.out; have := HK.out; have := HN.out; omega) (by have := HF.out.size; simp; omega) ?_; intro A5 c5 w5 o5 f5; have O5 := hid o5; have F5 := hid (fr_own (HF.out.alloc _) (HO.out.fr (fr1 _ _)) (Nat.le_refl _) f5); clear o5 f5))
        go_roundw
        case rel => exact ⟨k + 1, A5, c5, by go_num, HK.out, by rw [HS2.out]; simp, by rw [HS2.out]; have := O5.out; exact hid (by simpa using this), F5.out⟩
        case measure => first | exact VaC.next_m _ _ hlt hwk | (simp only [intOf]; omega)
      · have hk1 : decide ((0 : Int) < (k : Int)) = false := decide_eq_false (by omega)
        have hk00 : ¬ (0 : Int) < (k : Int) := by omega
        clear hk0
        go_wp2_with (first | (go_at_call 74; go_loud (refine (HR.out _ _ (PgB.RdX.fr HX.out (HF0.out.trans HF.out))).mono ?_); rintro e w2 ⟨rfl, f⟩; rw [HV.out]; replace HF := hid (HF.out.trans f); replace HO := hid (HO.out.fr f); clear f) | (at_builtin; refine app_sp rfl (.tmp 15) (.tmp 18) rfl w1.heap.size _ _ rfl (HO.out.fr (fr1 _ _)) _ 1 _ [((k : Int), 1)] rfl (lit_rd _ _ _) (by have := HLEN.out; have := HK.out; have := HN.out; omega) (by have := HF.out.size; simp; omega) ?_; intro A5 c5 w5 o5 f5; have O5 := hid o5; have F5 := hid (fr_own (HF.out.alloc _) (HO.out.fr (fr1 _ _)) (Nat.le_refl _) f5); clear o5 f5))
        go_roundw
        case rel => exact ⟨k + 1, A5, c5, by go_num, HK.out, by rw [HS2.out]; simp, by rw [HS2.out]; have := O5.out; exact hid (by simpa using this), F5.out⟩
        case measure => first | exact VaC.next_m _ _ hlt hwk | (simp only [intOf]; omega)
end Go.Proofs.Ytkkbgbpmpcoffaa.VaR
/- Contract: two lists of spans that are the same, held against each other by the document. Conditions: both slices read as that list, of no more than a million spans. -/
namespace Go.Proofs.Ytkkbgbpmpcoffaa.VaSm
open Go.RowKit MSep MSepC MSpM SpO

set_option maxRecDepth 100000 in
set_option maxHeartbeats 1000000 in
theorem rsame_ok (A B : Option Addr) (n1 c1 n2 c2 : Nat) (L : List Sp) (w : World) (h1 : RdS w A n1 L) (h2 : RdS w B n2 L) (hl : L.length ≤ 1000000) : Calls Try.prog 27 #[.slice A n1 c1, .slice B n2 c2] w fun e w' => e = .returned (.bool true) ∧ Fr No w w' := by
  obtain rfl : L.length = n1 := h1.1
  obtain rfl : L.length = n2 := h2.1
  have H1 := hid h1
  have H2 := hid h2
  have HL := hid hl
  clear h1 h2 hl
  go_enter Try.func27, Try.ntmps27
  go_wp2
  go_loopw [5] (fun i wr => ∃ j : Nat, i = .int .i64 j ∧ j ≤ L.length ∧ Fr No w wr) (fun i _ => L.length - (intOf i).toNat)
  case atStart => exact ⟨0, rfl, by omega, Fr.refl _ _⟩
  case round =>
    obtain ⟨j, rfl, hj, hf⟩ := hrel
    by_cases hlt : j < L.length
    case neg =>
      obtain rfl : j = L.length := by omega
      go_wp2
      go_ret
      exact ⟨rfl, hf⟩
    obtain ⟨⟨sa, sm⟩, hy⟩ : ∃ y, L[j]? = some y := ⟨_, List.getElem?_eq_getElem hlt⟩
    obtain ⟨g, oo, rfl, _, hc⟩ := (H1.out.fr hf).at_ (by omega)
    obtain ⟨g2, oo2, rfl, _, hc2⟩ := (H2.out.fr hf).at_ (by omega)
    obtain ⟨c10, c11⟩ := hc j _ hy
    obtain ⟨c20, c21⟩ := hc2 j _ hy
    dsimp only at c10 c11 c20 c21
    have hjz : (j : Int) < (L.length : Int) := by omega
    have hw1 : wrap64 ((j : Int) + 1) = (j : Int) + 1 := by have := HL.out; exact SpA.w64 _ (by omega)
    have HF := hid hf
    clear hc hc2 hy hf
    go_upto_region 6 with fail
    go_quiet (fail)
    go_wp2
    go_roundw
    case rel => exact ⟨j + 1, by go_num, by omega, HF.out.drewN _⟩
    case measure => first | exact VaC.next_m _ _ hlt hw1 | (simp only [intOf]; omega)
end Go.Proofs.Ytkkbgbpmpcoffaa.VaSm
/- The law ValidLive. Conditions: the extents read as a list of structs of whole numbers of 64 bits; the geometry's Seq and the zone have 64 bits. -/
namespace Go.Proofs.Ytkkbgbpmpcoffaa.VaX
open Go.RowKit MSep MSepC MSpM MGeM GeA GeC GeE PgA PgB RgF PlM PlA VaA VaB VaC VaD VaE VaF VaG VaH VaJ VaK VaM VaN VaP VaQ VaR VaT VaS VaU SpJ SpO

theorem rlay_yes (c s n l k : Int) (w : World) (hs : r64 s) (h : mayG ⟨c, s, n, l, k⟩) : Calls Try.prog 21 #[gv c s n l k] w fun e w' => ∃ y1 y2 y3 y4 y5 y6 y7 y8 : Int, e = .returned (.tuple #[.agg #[.int .i64 y1, .int .i64 y2, .int .i64 y3, .int .i64 y4, .int .i64 y5, .int .i64 y6, .int .i64 y7, .int .i64 y8], .bool true]) ∧ Fr No w w' := by
  refine (GeEk.rlayout_ok c s n l k w hs).mono ?_
  rintro e w' ⟨rfl, f⟩
  rw [rlo, if_pos h]
  exact ⟨_, _, _, _, _, _, _, _, rfl, f⟩
theorem rlay_no (c s n l k : Int) (w : World) (hs : r64 s) (h : ¬ mayG ⟨c, s, n, l, k⟩) : Calls Try.prog 21 #[gv c s n l k] w fun e w' => e = .returned (.tuple #[.agg #[.int .i64 0, .int .i64 0, .int .i64 0, .int .i64 0, .int .i64 0, .int .i64 0, .int .i64 0, .int .i64 0], .bool false]) ∧ Fr No w w' := by
  refine (GeEk.rlayout_ok c s n l k w hs).mono ?_
  rintro e w' ⟨rfl, f⟩
  rw [rlo, if_neg h]
  exact ⟨rfl, f⟩
set_option maxRecDepth 100000 in
set_option maxHeartbeats 2000000 in
theorem live_far (gc gs gn gl gk : Int) (A : Option Addr) (l c : Nat) (xs : List Ex) (z : Int) (w : World) (_hs : r64 gs) (_hl0 : l ≤ maxLen) (hx : RdX w A l xs) (_hw : ∀ x ∈ xs, exW x) (_hz : r64 z) (hf : ¬ (l ≤ 60 ∧ gn ≤ 64 ∧ gs ≤ 20)) :
    Calls Try.prog 4 #[gv gc gs gn gl gk, .slice A l c, .int .i64 z] w fun e w' => e = .returned (.bool true) ∧ Fr No w w' := by
  have HSM := hid (show false = decide (l ≤ 60 ∧ gn ≤ 64 ∧ gs ≤ 20) from (decide_eq_false hf).symm)
  obtain ⟨G, hG⟩ : ∃ G, w.heap.size = G := ⟨_, rfl⟩
  obtain ⟨w1, hw1⟩ : ∃ w1, w.alloc (bg gc gs gn gl gk) = w1 := ⟨_, rfl⟩
  have HF := hid (show Fr No w w1 by rw [← hw1]; exact fr1 _ _)
  have P0 := hid (show BG w1 G gc gs gn gl gk by rw [← hw1, ← hG]; exact BG.new w gc gs gn gl gk)
  have HX := hid hx
  have HW1 := hid hw1
  clear _hs _hl0 hx _hw hf _hz
  go_enter Try.func4, Try.ntmps4
  go_upto_region 1 with fail
  try rw [show w.alloc (Obj.cells #[.int .i64 gc, .int .i64 gs, .int .i64 gn, .int .i64 gl, .int .i64 gk] 23) = w1 from HW1.out]
  try rw [hG]
  clear hG hw1
  obtain ⟨p0, p1, p2, p3, p4⟩ := BG.cells P0.out
  go_wp2_with (first | (go_at_call 15; refine (small_ok gc gs gn gl gk A l c _ false HSM.out).mono ?_; rintro e wn ⟨rfl, f⟩; replace HF := hid (HF.out.trans f); replace P0 := hid (BG.fr P0.out f); (try replace HS0 := hid (HS0.out.fr f)); (try replace HB0 := hid (PlA.RdI.fr HB0.out f)); (try replace HS1 := hid (HS1.out.fr f)); clear f; clear p0 p1 p2 p3 p4; obtain ⟨p0, p1, p2, p3, p4⟩ := BG.cells P0.out) | (go_at_call 16; refine (lives_ok _).mono ?_; rintro e wn ⟨rfl, f⟩; replace HF := hid (HF.out.trans f); replace P0 := hid (BG.fr P0.out f); (try replace HS0 := hid (HS0.out.fr f)); (try replace HB0 := hid (PlA.RdI.fr HB0.out f)); (try replace HS1 := hid (HS1.out.fr f)); clear f; clear p0 p1 p2 p3 p4; obtain ⟨p0, p1, p2, p3, p4⟩ := BG.cells P0.out))
  go_ret
  exact ⟨rfl, HF.out⟩
theorem ck70 {g : Ge} {xs : List Ex} {z : Int} (h : ¬ mayG g) : ckZ g xs z = 70 := by
  unfold ckZ ckE
  rw [if_neg h]
  simp
set_option maxRecDepth 100000 in
set_option maxHeartbeats 2000000 in
theorem live_geom (gc gs gn gl gk : Int) (A : Option Addr) (l c : Nat) (xs : List Ex) (z : Int) (w : World) (hs : r64 gs) (hl0 : l ≤ maxLen) (hx : RdX w A l xs) (hw : ∀ x ∈ xs, exW x) (hz : r64 z) (hf : l ≤ 60 ∧ gn ≤ 64 ∧ gs ≤ 20) (hm : ¬ mayG ⟨gc, gs, gn, gl, gk⟩) :
    Calls Try.prog 4 #[gv gc gs gn gl gk, .slice A l c, .int .i64 z] w fun e w' => e = .returned (.bool true) ∧ Fr No w w' := by
  have HSM := hid (show true = decide (l ≤ 60 ∧ gn ≤ 64 ∧ gs ≤ 20) from (decide_eq_true hf).symm)
  have HC1 := hid (fun W (h : RdX W A l xs) => live_n gc gs gn gl gk A l c xs z W hs hl0 h hw hz (by rw [ck70 hm]; decide))
  have HC2 := hid (fun W (h : RdX W A l xs) => bands_n gc gs gn gl gk A l c xs z W hs hl0 h hw hz (by rw [ck70 hm]; decide))
  rw [ck70 hm] at HC1 HC2
  have HLY := hid (fun W => rlay_no gc gs gn gl gk W hs hm)
  obtain ⟨G, hG⟩ : ∃ G, w.heap.size = G := ⟨_, rfl⟩
  obtain ⟨w1, hw1⟩ : ∃ w1, w.alloc (bg gc gs gn gl gk) = w1 := ⟨_, rfl⟩
  have HF := hid (show Fr No w w1 by rw [← hw1]; exact fr1 _ _)
  have P0 := hid (show BG w1 G gc gs gn gl gk by rw [← hw1, ← hG]; exact BG.new w gc gs gn gl gk)
  have HX := hid hx
  have HW1 := hid hw1
  clear hs hl0 hx hw hf hz hm
  go_enter Try.func4, Try.ntmps4
  go_upto_region 1 with fail
  try rw [show w.alloc (Obj.cells #[.int .i64 gc, .int .i64 gs, .int .i64 gn, .int .i64 gl, .int .i64 gk] 23) = w1 from HW1.out]
  try rw [hG]
  clear hG hw1
  obtain ⟨p0, p1, p2, p3, p4⟩ := BG.cells P0.out
  go_wp2_with (first | (go_at_call 15; refine (small_ok gc gs gn gl gk A l c _ true HSM.out).mono ?_; rintro e wn ⟨rfl, f⟩; replace HF := hid (HF.out.trans f); replace P0 := hid (BG.fr P0.out f); (try replace HS0 := hid (HS0.out.fr f)); (try replace HB0 := hid (PlA.RdI.fr HB0.out f)); (try replace HS1 := hid (HS1.out.fr f)); clear f; clear p0 p1 p2 p3 p4; obtain ⟨p0, p1, p2, p3, p4⟩ := BG.cells P0.out) | (go_at_call 16; refine (lives_ok _).mono ?_; rintro e wn ⟨rfl, f⟩; replace HF := hid (HF.out.trans f); replace P0 := hid (BG.fr P0.out f); (try replace HS0 := hid (HS0.out.fr f)); (try replace HB0 := hid (PlA.RdI.fr HB0.out f)); (try replace HS1 := hid (HS1.out.fr f)); clear f; clear p0 p1 p2 p3 p4; obtain ⟨p0, p1, p2, p3, p4⟩ := BG.cells P0.out) | (go_at_call 25; refine (HC1.out _ (PgB.RdX.fr HX.out HF.out)).mono ?_; rintro e wn ⟨rfl, f⟩; replace HF := hid (HF.out.trans f); replace P0 := hid (BG.fr P0.out f); (try replace HS0 := hid (HS0.out.fr f)); (try replace HB0 := hid (PlA.RdI.fr HB0.out f)); (try replace HS1 := hid (HS1.out.fr f)); clear f; clear p0 p1 p2 p3 p4; obtain ⟨p0, p1, p2, p3, p4⟩ := BG.cells P0.out) | (go_at_call 26; refine (HC2.out _ (PgB.RdX.fr HX.out HF.out)).mono ?_; rintro e wn ⟨rfl, f⟩; replace HF := hid (HF.out.trans f); replace P0 := hid (BG.fr P0.out f); (try replace HS0 := hid (HS0.out.fr f)); (try replace HB0 := hid (PlA.RdI.fr HB0.out f)); (try replace HS1 := hid (HS1.out.fr f)); clear f; clear p0 p1 p2 p3 p4; obtain ⟨p0, p1, p2, p3, p4⟩ := BG.cells P0.out) | (go_at_call 21; refine (HLY.out _).mono ?_; rintro e wn ⟨rfl, f⟩; replace HF := hid (HF.out.trans f); replace P0 := hid (BG.fr P0.out f); (try replace HS0 := hid (HS0.out.fr f)); (try replace HB0 := hid (PlA.RdI.fr HB0.out f)); (try replace HS1 := hid (HS1.out.fr f)); clear f; clear p0 p1 p2 p3 p4; obtain ⟨p0, p1, p2, p3, p4⟩ := BG.cells P0.out))
  go_ret
  exact ⟨rfl, HF.out.alloc _⟩
set_option maxRecDepth 100000 in
set_option maxHeartbeats 4000000 in
theorem live_bad (gc gs gn gl gk : Int) (A : Option Addr) (l c : Nat) (xs : List Ex) (z : Int) (w : World) (hs : r64 gs) (hl0 : l ≤ maxLen) (hx : RdX w A l xs) (hw : ∀ x ∈ xs, exW x) (hz : r64 z) (hf : l ≤ 60 ∧ gn ≤ 64 ∧ gs ≤ 20) (hm : mayG ⟨gc, gs, gn, gl, gk⟩) (hb : ¬ ckZ ⟨gc, gs, gn, gl, gk⟩ xs z = 0) :
    Calls Try.prog 4 #[gv gc gs gn gl gk, .slice A l c, .int .i64 z] w fun e w' => e = .returned (.bool true) ∧ Fr No w w' := by
  have HSM := hid (show true = decide (l ≤ 60 ∧ gn ≤ 64 ∧ gs ≤ 20) from (decide_eq_true hf).symm)
  have hb1 : ckZ ⟨gc, gs, gn, gl, gk⟩ xs z = 1 := by
    unfold ckZ ckE at hb ⊢
    rw [if_pos hm] at hb ⊢
    split at hb <;> split <;> simp_all
  have HC1 := hid (fun W (h : RdX W A l xs) => live_n gc gs gn gl gk A l c xs z W hs hl0 h hw hz hb)
  have HC2 := hid (fun W (h : RdX W A l xs) => bands_n gc gs gn gl gk A l c xs z W hs hl0 h hw hz hb)
  rw [hb1] at HC1 HC2
  have HLY := hid (fun W => rlay_yes gc gs gn gl gk W hs hm)
  have HMY := hid (fun W (h : RdX W A l xs) => rmay_ok gc gs gn gl gk A l c xs W hs hl0 h hw)
  have hg := inG hm
  dsimp only at hg
  have hout : vM ⟨gc, gs, gn, gl, gk⟩ xs = false ∨ (vM ⟨gc, gs, gn, gl, gk⟩ xs = true ∧ (z < gc ∨ gc + gs ≤ z)) := by
    cases hv : vM ⟨gc, gs, gn, gl, gk⟩ xs with
    | false => exact .inl rfl
    | true =>
      refine .inr ⟨rfl, ?_⟩
      unfold vM at hv
      rw [Bool.and_eq_true, decide_eq_true_eq] at hv
      have he : ckE ⟨gc, gs, gn, gl, gk⟩ xs = 0 := by unfold ckE; rw [if_pos hm, if_pos hv.2]
      unfold ckZ at hb1
      rw [if_pos he] at hb1
      dsimp only at hb1
      by_cases hq : gc ≤ z ∧ z < gc + gs
      · rw [if_pos hq] at hb1; omega
      · omega
  have hwg : wrap64 (gc + gs) = gc + gs := SpA.w64 _ (by omega)
  obtain ⟨G, hG⟩ : ∃ G, w.heap.size = G := ⟨_, rfl⟩
  obtain ⟨w1, hw1⟩ : ∃ w1, w.alloc (bg gc gs gn gl gk) = w1 := ⟨_, rfl⟩
  have HF := hid (show Fr No w w1 by rw [← hw1]; exact fr1 _ _)
  have P0 := hid (show BG w1 G gc gs gn gl gk by rw [← hw1, ← hG]; exact BG.new w gc gs gn gl gk)
  have HX := hid hx
  have HW1 := hid hw1
  clear hs hl0 hx hw hf hz hm hb hb1 hg
  rcases hout with hv | ⟨hv, hq⟩
  · rw [hv] at HMY
    clear hv
    go_enter Try.func4, Try.ntmps4
    go_upto_region 1 with fail
    try rw [show w.alloc (Obj.cells #[.int .i64 gc, .int .i64 gs, .int .i64 gn, .int .i64 gl, .int .i64 gk] 23) = w1 from HW1.out]
    try rw [hG]
    clear hG hw1
    obtain ⟨p0, p1, p2, p3, p4⟩ := BG.cells P0.out
    go_upto_region 8 with (first | (go_at_call 15; refine (small_ok gc gs gn gl gk A l c _ true HSM.out).mono ?_; rintro e wn ⟨rfl, f⟩; replace HF := hid (HF.out.trans f); replace P0 := hid (BG.fr P0.out f); (try replace HS0 := hid (HS0.out.fr f)); (try replace HB0 := hid (PlA.RdI.fr HB0.out f)); (try replace HS1 := hid (HS1.out.fr f)); clear f; clear p0 p1 p2 p3 p4; obtain ⟨p0, p1, p2, p3, p4⟩ := BG.cells P0.out) | (go_at_call 16; refine (lives_ok _).mono ?_; rintro e wn ⟨rfl, f⟩; replace HF := hid (HF.out.trans f); replace P0 := hid (BG.fr P0.out f); (try replace HS0 := hid (HS0.out.fr f)); (try replace HB0 := hid (PlA.RdI.fr HB0.out f)); (try replace HS1 := hid (HS1.out.fr f)); clear f; clear p0 p1 p2 p3 p4; obtain ⟨p0, p1, p2, p3, p4⟩ := BG.cells P0.out) | (go_at_call 25; refine (HC1.out _ (PgB.RdX.fr HX.out HF.out)).mono ?_; rintro e wn ⟨rfl, f⟩; replace HF := hid (HF.out.trans f); replace P0 := hid (BG.fr P0.out f); (try replace HS0 := hid (HS0.out.fr f)); (try replace HB0 := hid (PlA.RdI.fr HB0.out f)); (try replace HS1 := hid (HS1.out.fr f)); clear f; clear p0 p1 p2 p3 p4; obtain ⟨p0, p1, p2, p3, p4⟩ := BG.cells P0.out) | (go_at_call 26; refine (HC2.out _ (PgB.RdX.fr HX.out HF.out)).mono ?_; rintro e wn ⟨rfl, f⟩; replace HF := hid (HF.out.trans f); replace P0 := hid (BG.fr P0.out f); (try replace HS0 := hid (HS0.out.fr f)); (try replace HB0 := hid (PlA.RdI.fr HB0.out f)); (try replace HS1 := hid (HS1.out.fr f)); clear f; clear p0 p1 p2 p3 p4; obtain ⟨p0, p1, p2, p3, p4⟩ := BG.cells P0.out) | (go_at_call 21; refine (HLY.out _).mono ?_; rintro e wn ⟨y1, y2, y3, y4, y5, y6, y7, y8, rfl, f⟩; replace HF := hid (HF.out.trans f); replace P0 := hid (BG.fr P0.out f); (try replace HS0 := hid (HS0.out.fr f)); (try replace HB0 := hid (PlA.RdI.fr HB0.out f)); (try replace HS1 := hid (HS1.out.fr f)); clear f; clear p0 p1 p2 p3 p4; obtain ⟨p0, p1, p2, p3, p4⟩ := BG.cells P0.out))
    obtain ⟨v3, hv3⟩ : ∃ zz, wn.alloc (.cells #[.int .i64 y1, .int .i64 y2, .int .i64 y3, .int .i64 y4, .int .i64 y5, .int .i64 y6, .int .i64 y7, .int .i64 y8] 32) = zz := ⟨_, rfl⟩
    have f : Fr No wn v3 := by rw [← hv3]; exact fr1 _ _
    try rw [show wn.alloc (Obj.cells #[.int .i64 y1, .int .i64 y2, .int .i64 y3, .int .i64 y4, .int .i64 y5, .int .i64 y6, .int .i64 y7, .int .i64 y8] 32) = v3 from hv3]
    replace HF := hid (HF.out.trans f); replace P0 := hid (BG.fr P0.out f); (try replace HS0 := hid (HS0.out.fr f)); (try replace HB0 := hid (PlA.RdI.fr HB0.out f)); (try replace HS1 := hid (HS1.out.fr f)); clear f; clear p0 p1 p2 p3 p4; obtain ⟨p0, p1, p2, p3, p4⟩ := BG.cells P0.out
    clear hv3
    go_wp2_with (first | (go_at_call 20; refine (HMY.out _ (PgB.RdX.fr HX.out HF.out)).mono ?_; rintro e wn ⟨rfl, f⟩; replace HF := hid (HF.out.trans f); replace P0 := hid (BG.fr P0.out f); (try replace HS0 := hid (HS0.out.fr f)); (try replace HB0 := hid (PlA.RdI.fr HB0.out f)); (try replace HS1 := hid (HS1.out.fr f)); clear f; clear p0 p1 p2 p3 p4; obtain ⟨p0, p1, p2, p3, p4⟩ := BG.cells P0.out))
    go_ret
    exact ⟨rfl, HF.out⟩
  · rw [hv] at HMY
    clear hv
    by_cases hq1 : z < gc
    · have hb1 : decide (z < gc) = true := decide_eq_true hq1
      clear hq
      go_enter Try.func4, Try.ntmps4
      go_upto_region 1 with fail
      try rw [show w.alloc (Obj.cells #[.int .i64 gc, .int .i64 gs, .int .i64 gn, .int .i64 gl, .int .i64 gk] 23) = w1 from HW1.out]
      try rw [hG]
      clear hG hw1
      obtain ⟨p0, p1, p2, p3, p4⟩ := BG.cells P0.out
      go_upto_region 8 with (first | (go_at_call 15; refine (small_ok gc gs gn gl gk A l c _ true HSM.out).mono ?_; rintro e wn ⟨rfl, f⟩; replace HF := hid (HF.out.trans f); replace P0 := hid (BG.fr P0.out f); (try replace HS0 := hid (HS0.out.fr f)); (try replace HB0 := hid (PlA.RdI.fr HB0.out f)); (try replace HS1 := hid (HS1.out.fr f)); clear f; clear p0 p1 p2 p3 p4; obtain ⟨p0, p1, p2, p3, p4⟩ := BG.cells P0.out) | (go_at_call 16; refine (lives_ok _).mono ?_; rintro e wn ⟨rfl, f⟩; replace HF := hid (HF.out.trans f); replace P0 := hid (BG.fr P0.out f); (try replace HS0 := hid (HS0.out.fr f)); (try replace HB0 := hid (PlA.RdI.fr HB0.out f)); (try replace HS1 := hid (HS1.out.fr f)); clear f; clear p0 p1 p2 p3 p4; obtain ⟨p0, p1, p2, p3, p4⟩ := BG.cells P0.out) | (go_at_call 25; refine (HC1.out _ (PgB.RdX.fr HX.out HF.out)).mono ?_; rintro e wn ⟨rfl, f⟩; replace HF := hid (HF.out.trans f); replace P0 := hid (BG.fr P0.out f); (try replace HS0 := hid (HS0.out.fr f)); (try replace HB0 := hid (PlA.RdI.fr HB0.out f)); (try replace HS1 := hid (HS1.out.fr f)); clear f; clear p0 p1 p2 p3 p4; obtain ⟨p0, p1, p2, p3, p4⟩ := BG.cells P0.out) | (go_at_call 26; refine (HC2.out _ (PgB.RdX.fr HX.out HF.out)).mono ?_; rintro e wn ⟨rfl, f⟩; replace HF := hid (HF.out.trans f); replace P0 := hid (BG.fr P0.out f); (try replace HS0 := hid (HS0.out.fr f)); (try replace HB0 := hid (PlA.RdI.fr HB0.out f)); (try replace HS1 := hid (HS1.out.fr f)); clear f; clear p0 p1 p2 p3 p4; obtain ⟨p0, p1, p2, p3, p4⟩ := BG.cells P0.out) | (go_at_call 21; refine (HLY.out _).mono ?_; rintro e wn ⟨y1, y2, y3, y4, y5, y6, y7, y8, rfl, f⟩; replace HF := hid (HF.out.trans f); replace P0 := hid (BG.fr P0.out f); (try replace HS0 := hid (HS0.out.fr f)); (try replace HB0 := hid (PlA.RdI.fr HB0.out f)); (try replace HS1 := hid (HS1.out.fr f)); clear f; clear p0 p1 p2 p3 p4; obtain ⟨p0, p1, p2, p3, p4⟩ := BG.cells P0.out))
      obtain ⟨v3, hv3⟩ : ∃ zz, wn.alloc (.cells #[.int .i64 y1, .int .i64 y2, .int .i64 y3, .int .i64 y4, .int .i64 y5, .int .i64 y6, .int .i64 y7, .int .i64 y8] 32) = zz := ⟨_, rfl⟩
      have f : Fr No wn v3 := by rw [← hv3]; exact fr1 _ _
      try rw [show wn.alloc (Obj.cells #[.int .i64 y1, .int .i64 y2, .int .i64 y3, .int .i64 y4, .int .i64 y5, .int .i64 y6, .int .i64 y7, .int .i64 y8] 32) = v3 from hv3]
      replace HF := hid (HF.out.trans f); replace P0 := hid (BG.fr P0.out f); (try replace HS0 := hid (HS0.out.fr f)); (try replace HB0 := hid (PlA.RdI.fr HB0.out f)); (try replace HS1 := hid (HS1.out.fr f)); clear f; clear p0 p1 p2 p3 p4; obtain ⟨p0, p1, p2, p3, p4⟩ := BG.cells P0.out
      clear hv3
      go_wp2_with (first | (go_at_call 20; refine (HMY.out _ (PgB.RdX.fr HX.out HF.out)).mono ?_; rintro e wn ⟨rfl, f⟩; replace HF := hid (HF.out.trans f); replace P0 := hid (BG.fr P0.out f); (try replace HS0 := hid (HS0.out.fr f)); (try replace HB0 := hid (PlA.RdI.fr HB0.out f)); (try replace HS1 := hid (HS1.out.fr f)); clear f; clear p0 p1 p2 p3 p4; obtain ⟨p0, p1, p2, p3, p4⟩ := BG.cells P0.out))
      go_ret
      exact ⟨rfl, HF.out⟩
    · have hb1 : decide (z < gc) = false := decide_eq_false hq1
      have hb2 : decide (gc + gs ≤ z) = true := decide_eq_true (by omega)
      have hb3 : gc + gs ≤ z := by omega
      clear hq
      go_enter Try.func4, Try.ntmps4
      go_upto_region 1 with fail
      try rw [show w.alloc (Obj.cells #[.int .i64 gc, .int .i64 gs, .int .i64 gn, .int .i64 gl, .int .i64 gk] 23) = w1 from HW1.out]
      try rw [hG]
      clear hG hw1
      obtain ⟨p0, p1, p2, p3, p4⟩ := BG.cells P0.out
      go_upto_region 8 with (first | (go_at_call 15; refine (small_ok gc gs gn gl gk A l c _ true HSM.out).mono ?_; rintro e wn ⟨rfl, f⟩; replace HF := hid (HF.out.trans f); replace P0 := hid (BG.fr P0.out f); (try replace HS0 := hid (HS0.out.fr f)); (try replace HB0 := hid (PlA.RdI.fr HB0.out f)); (try replace HS1 := hid (HS1.out.fr f)); clear f; clear p0 p1 p2 p3 p4; obtain ⟨p0, p1, p2, p3, p4⟩ := BG.cells P0.out) | (go_at_call 16; refine (lives_ok _).mono ?_; rintro e wn ⟨rfl, f⟩; replace HF := hid (HF.out.trans f); replace P0 := hid (BG.fr P0.out f); (try replace HS0 := hid (HS0.out.fr f)); (try replace HB0 := hid (PlA.RdI.fr HB0.out f)); (try replace HS1 := hid (HS1.out.fr f)); clear f; clear p0 p1 p2 p3 p4; obtain ⟨p0, p1, p2, p3, p4⟩ := BG.cells P0.out) | (go_at_call 25; refine (HC1.out _ (PgB.RdX.fr HX.out HF.out)).mono ?_; rintro e wn ⟨rfl, f⟩; replace HF := hid (HF.out.trans f); replace P0 := hid (BG.fr P0.out f); (try replace HS0 := hid (HS0.out.fr f)); (try replace HB0 := hid (PlA.RdI.fr HB0.out f)); (try replace HS1 := hid (HS1.out.fr f)); clear f; clear p0 p1 p2 p3 p4; obtain ⟨p0, p1, p2, p3, p4⟩ := BG.cells P0.out) | (go_at_call 26; refine (HC2.out _ (PgB.RdX.fr HX.out HF.out)).mono ?_; rintro e wn ⟨rfl, f⟩; replace HF := hid (HF.out.trans f); replace P0 := hid (BG.fr P0.out f); (try replace HS0 := hid (HS0.out.fr f)); (try replace HB0 := hid (PlA.RdI.fr HB0.out f)); (try replace HS1 := hid (HS1.out.fr f)); clear f; clear p0 p1 p2 p3 p4; obtain ⟨p0, p1, p2, p3, p4⟩ := BG.cells P0.out) | (go_at_call 21; refine (HLY.out _).mono ?_; rintro e wn ⟨y1, y2, y3, y4, y5, y6, y7, y8, rfl, f⟩; replace HF := hid (HF.out.trans f); replace P0 := hid (BG.fr P0.out f); (try replace HS0 := hid (HS0.out.fr f)); (try replace HB0 := hid (PlA.RdI.fr HB0.out f)); (try replace HS1 := hid (HS1.out.fr f)); clear f; clear p0 p1 p2 p3 p4; obtain ⟨p0, p1, p2, p3, p4⟩ := BG.cells P0.out))
      obtain ⟨v3, hv3⟩ : ∃ zz, wn.alloc (.cells #[.int .i64 y1, .int .i64 y2, .int .i64 y3, .int .i64 y4, .int .i64 y5, .int .i64 y6, .int .i64 y7, .int .i64 y8] 32) = zz := ⟨_, rfl⟩
      have f : Fr No wn v3 := by rw [← hv3]; exact fr1 _ _
      try rw [show wn.alloc (Obj.cells #[.int .i64 y1, .int .i64 y2, .int .i64 y3, .int .i64 y4, .int .i64 y5, .int .i64 y6, .int .i64 y7, .int .i64 y8] 32) = v3 from hv3]
      replace HF := hid (HF.out.trans f); replace P0 := hid (BG.fr P0.out f); (try replace HS0 := hid (HS0.out.fr f)); (try replace HB0 := hid (PlA.RdI.fr HB0.out f)); (try replace HS1 := hid (HS1.out.fr f)); clear f; clear p0 p1 p2 p3 p4; obtain ⟨p0, p1, p2, p3, p4⟩ := BG.cells P0.out
      clear hv3
      go_wp2_with (first | (go_at_call 20; refine (HMY.out _ (PgB.RdX.fr HX.out HF.out)).mono ?_; rintro e wn ⟨rfl, f⟩; replace HF := hid (HF.out.trans f); replace P0 := hid (BG.fr P0.out f); (try replace HS0 := hid (HS0.out.fr f)); (try replace HB0 := hid (PlA.RdI.fr HB0.out f)); (try replace HS1 := hid (HS1.out.fr f)); clear f; clear p0 p1 p2 p3 p4; obtain ⟨p0, p1, p2, p3, p4⟩ := BG.cells P0.out))
      go_ret
      exact ⟨rfl, HF.out⟩
set_option maxRecDepth 100000 in
set_option maxHeartbeats 4000000 in
theorem live_good (gc gs gn gl gk : Int) (A : Option Addr) (l c : Nat) (xs : List Ex) (z : Int) (w : World) (hs : r64 gs) (hl0 : l ≤ maxLen) (hx : RdX w A l xs) (hw : ∀ x ∈ xs, exW x) (hz : r64 z) (hf : l ≤ 60 ∧ gn ≤ 64 ∧ gs ≤ 20) (hb : ckZ ⟨gc, gs, gn, gl, gk⟩ xs z = 0) :
    Calls Try.prog 4 #[gv gc gs gn gl gk, .slice A l c, .int .i64 z] w fun e w' => e = .returned (.bool true) ∧ Fr No w w' := by
  have HSM := hid (show true = decide (l ≤ 60 ∧ gn ≤ 64 ∧ gs ≤ 20) from (decide_eq_true hf).symm)
  have hl : l ≤ 1000 := by omega
  obtain ⟨hce, hz0, hz1⟩ := ckZ0 hb
  have hmm := ckE0 hce
  have hg := inG hmm.1
  dsimp only at hg hz0 hz1
  have hok := mayL_all hmm.2
  obtain ⟨N, hN⟩ : ∃ N : Nat, gn = (N : Int) := ⟨gn.toNat, by omega⟩
  have hpl : pl (xs.filter (inZ z)) = rl (lvB xs z) N := pl_rl (by omega) (fun x hx => (okX_may (hok x hx)).2) (fun x hx hxz => by have := (okX_zone (hok x hx)).2 (by rw [hxz]; omega); dsimp only at this; omega)
  have HC1 := hid (fun W (h : RdX W A l xs) => live_y gc gs gn gl gk A l c xs z W hs hl h hw hz hb)
  have HC2 := hid (fun W (h : RdX W A l xs) => bands_y gc gs gn gl gk A l c xs z W hs hl h hw hz hb)
  have HLY := hid (fun W => rlay_yes gc gs gn gl gk W hs hmm.1)
  have HMY := hid (fun W (h : RdX W A l xs) => rmay_ok gc gs gn gl gk A l c xs W hs hl0 h hw)
  rw [show vM ⟨gc, gs, gn, gl, gk⟩ xs = true by unfold vM; rw [decide_eq_true hmm.1, hmm.2]; rfl] at HMY
  have HRL := hid (fun W (h : RdX W A l xs) => rLive_ok gc gs gn gl gk A l c xs z N W hl h (fun x hx => okX_in (hok x hx)) hN (by omega))
  have HRB := hid (fun W (h : RdX W A l xs) => VaI.rbands_ok gc gs gn gl gk A l c xs z W hs hl h hmm.1 hmm.2)
  rw [← hpl] at HRL
  obtain ⟨S, hS⟩ : ∃ S, pl (xs.filter (inZ z)) = S := ⟨_, rfl⟩
  obtain ⟨B, hB⟩ : ∃ B, bds (gn - 1) z xs (gs - gk - 1).toNat = B := ⟨_, rfl⟩
  have hBl : B.length ≤ 1000 := by
    rw [← hB]
    have h1 := bds_len (gn - 1) z xs (gs - gk - 1).toNat
    have h2 := nG hmm.1
    have h3 := (good hmm.1.1).b2
    dsimp only at h2
    omega
  rw [hS] at HC1 HRL
  rw [hB] at HC2 HRB
  have HBL := hid hBl
  have hb1 : decide (z < gc) = false := decide_eq_false (by omega)
  have hb2 : decide (gc + gs ≤ z) = false := decide_eq_false (by omega)
  have hwg : wrap64 (gc + gs) = gc + gs := SpA.w64 _ (by omega)
  have hb3 : ¬ gc + gs ≤ z := by omega
  have hb4 : ¬ z < gc := by omega
  obtain ⟨G, hG⟩ : ∃ G, w.heap.size = G := ⟨_, rfl⟩
  obtain ⟨w1, hw1⟩ : ∃ w1, w.alloc (bg gc gs gn gl gk) = w1 := ⟨_, rfl⟩
  have HF := hid (show Fr No w w1 by rw [← hw1]; exact fr1 _ _)
  have P0 := hid (show BG w1 G gc gs gn gl gk by rw [← hw1, ← hG]; exact BG.new w gc gs gn gl gk)
  have HX := hid hx
  have HW1 := hid hw1
  clear hs hl0 hx hw hf hz hb hl hce hz0 hz1 hmm hg hok hN hpl hS hB hBl
  go_enter Try.func4, Try.ntmps4
  go_upto_region 1 with fail
  try rw [show w.alloc (Obj.cells #[.int .i64 gc, .int .i64 gs, .int .i64 gn, .int .i64 gl, .int .i64 gk] 23) = w1 from HW1.out]
  try rw [hG]
  clear hG hw1
  obtain ⟨p0, p1, p2, p3, p4⟩ := BG.cells P0.out
  go_upto_region 8 with (first | (go_at_call 15; refine (small_ok gc gs gn gl gk A l c _ true HSM.out).mono ?_; rintro e wn ⟨rfl, f⟩; replace HF := hid (HF.out.trans f); replace P0 := hid (BG.fr P0.out f); (try replace HS0 := hid (HS0.out.fr f)); (try replace HB0 := hid (PlA.RdI.fr HB0.out f)); (try replace HS1 := hid (HS1.out.fr f)); clear f; clear p0 p1 p2 p3 p4; obtain ⟨p0, p1, p2, p3, p4⟩ := BG.cells P0.out) | (go_at_call 16; refine (lives_ok _).mono ?_; rintro e wn ⟨rfl, f⟩; replace HF := hid (HF.out.trans f); replace P0 := hid (BG.fr P0.out f); (try replace HS0 := hid (HS0.out.fr f)); (try replace HB0 := hid (PlA.RdI.fr HB0.out f)); (try replace HS1 := hid (HS1.out.fr f)); clear f; clear p0 p1 p2 p3 p4; obtain ⟨p0, p1, p2, p3, p4⟩ := BG.cells P0.out) | (go_at_call 25; refine (HC1.out _ (PgB.RdX.fr HX.out HF.out)).mono ?_; rintro e wn ⟨A5, c5, rfl, hrd, hle, f⟩; replace HF := hid (HF.out.trans f); replace P0 := hid (BG.fr P0.out f); (try replace HS0 := hid (HS0.out.fr f)); (try replace HB0 := hid (PlA.RdI.fr HB0.out f)); (try replace HS1 := hid (HS1.out.fr f)); clear f; clear p0 p1 p2 p3 p4; obtain ⟨p0, p1, p2, p3, p4⟩ := BG.cells P0.out; have HS0 := hid hrd; have HLE := hid hle; clear hrd hle) | (go_at_call 26; refine (HC2.out _ (PgB.RdX.fr HX.out HF.out)).mono ?_; rintro e wn ⟨A6, c6, rfl, hrd, f⟩; replace HF := hid (HF.out.trans f); replace P0 := hid (BG.fr P0.out f); (try replace HS0 := hid (HS0.out.fr f)); (try replace HB0 := hid (PlA.RdI.fr HB0.out f)); (try replace HS1 := hid (HS1.out.fr f)); clear f; clear p0 p1 p2 p3 p4; obtain ⟨p0, p1, p2, p3, p4⟩ := BG.cells P0.out; have HB0 := hid hrd; clear hrd) | (go_at_call 21; refine (HLY.out _).mono ?_; rintro e wn ⟨y1, y2, y3, y4, y5, y6, y7, y8, rfl, f⟩; replace HF := hid (HF.out.trans f); replace P0 := hid (BG.fr P0.out f); (try replace HS0 := hid (HS0.out.fr f)); (try replace HB0 := hid (PlA.RdI.fr HB0.out f)); (try replace HS1 := hid (HS1.out.fr f)); clear f; clear p0 p1 p2 p3 p4; obtain ⟨p0, p1, p2, p3, p4⟩ := BG.cells P0.out))
  obtain ⟨v3, hv3⟩ : ∃ zz, wn.alloc (.cells #[.int .i64 y1, .int .i64 y2, .int .i64 y3, .int .i64 y4, .int .i64 y5, .int .i64 y6, .int .i64 y7, .int .i64 y8] 32) = zz := ⟨_, rfl⟩
  have f : Fr No wn v3 := by rw [← hv3]; exact fr1 _ _
  try rw [show wn.alloc (Obj.cells #[.int .i64 y1, .int .i64 y2, .int .i64 y3, .int .i64 y4, .int .i64 y5, .int .i64 y6, .int .i64 y7, .int .i64 y8] 32) = v3 from hv3]
  replace HF := hid (HF.out.trans f); replace P0 := hid (BG.fr P0.out f); (try replace HS0 := hid (HS0.out.fr f)); (try replace HB0 := hid (PlA.RdI.fr HB0.out f)); (try replace HS1 := hid (HS1.out.fr f)); clear f; clear p0 p1 p2 p3 p4; obtain ⟨p0, p1, p2, p3, p4⟩ := BG.cells P0.out
  clear hv3
  go_wp2_with (first | (go_at_call 20; refine (HMY.out _ (PgB.RdX.fr HX.out HF.out)).mono ?_; rintro e wn ⟨rfl, f⟩; replace HF := hid (HF.out.trans f); replace P0 := hid (BG.fr P0.out f); (try replace HS0 := hid (HS0.out.fr f)); (try replace HB0 := hid (PlA.RdI.fr HB0.out f)); (try replace HS1 := hid (HS1.out.fr f)); clear f; clear p0 p1 p2 p3 p4; obtain ⟨p0, p1, p2, p3, p4⟩ := BG.cells P0.out) | (go_at_call 28; refine (HRL.out _ (PgB.RdX.fr HX.out HF.out)).mono ?_; rintro e wn ⟨A7, c7, rfl, hrd, f⟩; replace HF := hid (HF.out.trans f); replace P0 := hid (BG.fr P0.out f); (try replace HS0 := hid (HS0.out.fr f)); (try replace HB0 := hid (PlA.RdI.fr HB0.out f)); (try replace HS1 := hid (HS1.out.fr f)); clear f; clear p0 p1 p2 p3 p4; obtain ⟨p0, p1, p2, p3, p4⟩ := BG.cells P0.out; have HS1 := hid hrd; clear hrd) | (go_at_call 27; refine (VaSm.rsame_ok A5 A7 _ _ _ _ S _ HS0.out HS1.out (by have := HLE.out; omega)).mono ?_; rintro e wn ⟨rfl, f⟩; replace HF := hid (HF.out.trans f); replace P0 := hid (BG.fr P0.out f); (try replace HS0 := hid (HS0.out.fr f)); (try replace HB0 := hid (PlA.RdI.fr HB0.out f)); (try replace HS1 := hid (HS1.out.fr f)); clear f; clear p0 p1 p2 p3 p4; obtain ⟨p0, p1, p2, p3, p4⟩ := BG.cells P0.out) | (go_at_call 23; refine (HRB.out _ (PgB.RdX.fr HX.out HF.out)).mono ?_; rintro e wn ⟨A8, c8, rfl, hrd, f⟩; replace HF := hid (HF.out.trans f); replace P0 := hid (BG.fr P0.out f); (try replace HS0 := hid (HS0.out.fr f)); (try replace HB0 := hid (PlA.RdI.fr HB0.out f)); (try replace HS1 := hid (HS1.out.fr f)); clear f; clear p0 p1 p2 p3 p4; obtain ⟨p0, p1, p2, p3, p4⟩ := BG.cells P0.out; have HB1 := hid (PlA.OutI.rd rfl hrd); clear hrd) | (go_at_call 22; refine (same_ok A6 A8 _ _ _ _ B _ HB0.out HB1.out (by have := HBL.out; omega)).mono ?_; rintro e wn ⟨rfl, f⟩; replace HF := hid (HF.out.trans f); replace P0 := hid (BG.fr P0.out f); (try replace HS0 := hid (HS0.out.fr f)); (try replace HB0 := hid (PlA.RdI.fr HB0.out f)); (try replace HS1 := hid (HS1.out.fr f)); clear f; clear p0 p1 p2 p3 p4; obtain ⟨p0, p1, p2, p3, p4⟩ := BG.cells P0.out))
  go_ret
  exact ⟨rfl, HF.out⟩
theorem live_w (gc gs gn gl gk : Int) (A : Option Addr) (l c : Nat) (xs : List Ex) (z : Int) (w : World) (hs : r64 gs) (hx : RdX w A l xs) (hw : ∀ x ∈ xs, exW x) (hlc : l ≤ c) (hcm : c ≤ maxLen) (hz : r64 z) :
    Calls Try.prog 4 #[gv gc gs gn gl gk, .slice A l c, .int .i64 z] w fun e w' => e = .returned (.bool true) ∧ Fr No w w' := by
  have hl0 := Nat.le_trans hlc hcm
  by_cases hf : l ≤ 60 ∧ gn ≤ 64 ∧ gs ≤ 20
  · by_cases hm : mayG ⟨gc, gs, gn, gl, gk⟩
    · by_cases hb : ckZ ⟨gc, gs, gn, gl, gk⟩ xs z = 0
      · exact live_good gc gs gn gl gk A l c xs z w hs hl0 hx hw hz hf hb
      · exact live_bad gc gs gn gl gk A l c xs z w hs hl0 hx hw hz hf hm hb
    · exact live_geom gc gs gn gl gk A l c xs z w hs hl0 hx hw hz hf hm
  · exact live_far gc gs gn gl gk A l c xs z w hs hl0 hx hw hz hf
end Go.Proofs.Ytkkbgbpmpcoffaa.VaX
/- The law ValidCounts. Conditions: the extents read as a list of structs of whole numbers of 64 bits; the geometry's Seq has 64 bits. -/
namespace Go.Proofs.Ytkkbgbpmpcoffaa.VaY
open Go.RowKit MSep MSepC MSpM MGeM GeA GeC GeE PgA PgB RgF PlM PlA VaA VaB VaC VaD VaE VaF VaG VaH VaJ VaK VaM VaN VaP VaQ VaR VaT VaS VaU SpJ
open VaX (rlay_yes rlay_no)

theorem infoXa : (Try.prog.info? 95).map (fun i => (i.zero, i.size, i.bytes)) = some (some (.agg #[.int .i64 0, .int .i64 0, .int .i64 0, .int .i64 0]), 4, 32) := by kernel_rfl
theorem infoXb : ∃ i z, Try.prog.info? 95 = some i ∧ i.zero = some z ∧ i.size = 4 ∧ i.bytes = 32 ∧ z.cells.size = 4 := by
  have h := infoXa
  cases hi : Try.prog.info? 95 with
  | none => rw [hi] at h; cases h
  | some i =>
    rw [hi] at h
    simp only [Option.map_some, Option.some.injEq, Prod.mk.injEq] at h
    exact ⟨i, _, rfl, h.1, h.2.1, h.2.2, rfl⟩
theorem own_rdX {B : Nat} {w : World} {A : Option Addr} {n c : Nat} {l : List Ex} (hl : l.length = n) (h : w.ownsRow B 95 4 (.slice A n c) n (cs4 l)) : RdX w A n l := by
  refine ⟨hl, ?_⟩
  subst hl
  refine ⟨cs4_len l, fun hn => ?_⟩
  rcases h.2 with ⟨e, hn0⟩ | ⟨g, cap, cur, e, hb, hh, hnc, hr⟩
  · rw [hn0] at hn; omega
  · injection e with e1 e2 e3
    subst e1 e3
    refine ⟨g, 0, rfl, (Array.getElem?_eq_some_iff.1 hh).1, fun j u hu => ?_⟩
    rw [Nat.zero_add, cell_of_row w g j cur 95 (0, 0) hh]
    have ht := hr.2.2
    rw [← ht, List.getElem?_take] at hu
    split at hu
    · simpa using hu
    · cases hu
theorem own0x (w : World) : (w.alloc (.cells #[] 95)).ownsRow w.heap.size 95 4 (.slice (some ⟨w.heap.size, 0, none⟩) 0 0) 0 [] :=
  ⟨rfl, .inr ⟨w.heap.size, 0, #[], rfl, Nat.le_refl _, Blk.new _ _ _, Nat.le_refl _, by simp [maxLen], rfl, rfl⟩⟩
theorem fr_new {w w' : World} {t : TypeId} (f : Fr (fun q => (Value.slice (some ⟨w.heap.size, 0, none⟩) 0 0).ownBlock = some q) (w.alloc (.cells #[] t)) w') : Fr No w w' :=
  (fr1 w _).step f (fun i hi he => by
    have : w.heap.size = i := by simpa [Value.ownBlock] using he
    omega)
/-- 'append([]Extent{}, l...)': a copy of l. -/
theorem app_x {w : World} {ops : Array Oper} {rest : List Oper} {o : Oper} {a : Act} {Q : Exit → Act → World → Prop} (hgd : o.guard = none) (s x : Operand)
    (ho : o.op = .call { callee := .builtin .append, args := #[s, x], argTypes := #[24, 24] })
    (B : Nat) (v : Value) (hs : a.eval s = v) (hown : w.ownsRow B 95 4 v 0 [])
    (A : Option Addr) (m c : Nat) (news : List Ex) (hx : a.eval x = .slice A m c) (hr : RdX w A m news)
    (hlim : m ≤ 4000000000000) (hbase : B ≤ w.heap.size)
    (h : ∀ A' c' w', RdX w' A' m news → Fr (fun q => v.ownBlock = some q) w w' → wpList Try.prog ops Q rest (a.put o.dst (.slice A' m c')) w') :
    wpList Try.prog ops Q (o :: rest) a w := by
  obtain ⟨i0, z0, hi, hz0, hz1, hz2, hz3⟩ := infoXb
  refine wpList_appk 4 (by omega) hgd s x 24 ho B 95 i0 z0 32 Try.underlying24 hi hz0 hz1 hz2 hz3 v 0 [] hs hown A m c (cs4 news) hx hr.2 cs4_one (by simp only [maxLen]; omega) (by omega) hbase ?_
  intro A' c' w' o1 f1 _
  rw [Nat.zero_add, List.nil_append] at o1
  rw [Nat.zero_add]
  exact h A' c' w' (own_rdX hr.1 o1) f1
theorem cnt_fr (A : Option Addr) (l c : Nat) (xs : List Ex) (z : Int) (w : World) (hl : l ≤ 1000) (hx : RdX w A l xs) (hm : ∀ x ∈ xs, 0 ≤ x.m ∧ x.m ≤ 1099511627776) :
    Calls Try.prog 24 #[.slice A l c, .int .i64 z] w fun e w' => e = .returned (.int .i64 (cz xs z)) ∧ Fr No w w' := by
  refine (rcnt_ok A l c xs z w hl hx hm).mono ?_
  rintro e w' ⟨h, rfl⟩
  exact ⟨h, Fr.refl _ _⟩
set_option maxRecDepth 100000 in
set_option maxHeartbeats 2000000 in
theorem counts_far (gc gs gn gl gk : Int) (A : Option Addr) (l c : Nat) (xs : List Ex) (w : World) (_hs : r64 gs) (_hl0 : l ≤ maxLen) (hx : RdX w A l xs) (_hw : ∀ x ∈ xs, exW x) (hf : ¬ (l ≤ 60 ∧ gn ≤ 64 ∧ gs ≤ 20)) :
    Calls Try.prog 3 #[gv gc gs gn gl gk, .slice A l c] w fun e w' => e = .returned (.bool true) ∧ Fr No w w' := by
  have HSM := hid (show false = decide (l ≤ 60 ∧ gn ≤ 64 ∧ gs ≤ 20) from (decide_eq_false hf).symm)
  obtain ⟨G, hG⟩ : ∃ G, w.heap.size = G := ⟨_, rfl⟩
  obtain ⟨w1, hw1⟩ : ∃ w1, w.alloc (bg gc gs gn gl gk) = w1 := ⟨_, rfl⟩
  have HF := hid (show Fr No w w1 by rw [← hw1]; exact fr1 _ _)
  have P0 := hid (show BG w1 G gc gs gn gl gk by rw [← hw1, ← hG]; exact BG.new w gc gs gn gl gk)
  have HX := hid hx
  have HW1 := hid hw1
  clear _hs _hl0 hx _hw hf
  go_enter Try.func3, Try.ntmps3
  go_upto_region 1 with fail
  try rw [show w.alloc (Obj.cells #[.int .i64 gc, .int .i64 gs, .int .i64 gn, .int .i64 gl, .int .i64 gk] 23) = w1 from HW1.out]
  try rw [hG]
  clear hG hw1
  obtain ⟨p0, p1, p2, p3, p4⟩ := BG.cells P0.out
  go_wp2_with (first | (go_at_call 15; refine (small_ok gc gs gn gl gk A l c _ false HSM.out).mono ?_; rintro e wn ⟨rfl, f⟩; replace HF := hid (HF.out.trans f); replace P0 := hid (BG.fr P0.out f); (try replace HA5 := hid (PgB.RdX.fr HA5.out f)); (try replace HB0 := hid (PlA.RdI.fr HB0.out f)); (try replace HR1 := hid (PlA.RdI.fr HR1.out f)); clear f; clear p0 p1 p2 p3 p4; obtain ⟨p0, p1, p2, p3, p4⟩ := BG.cells P0.out) | (go_at_call 16; refine (lives_ok _).mono ?_; rintro e wn ⟨rfl, f⟩; replace HF := hid (HF.out.trans f); replace P0 := hid (BG.fr P0.out f); (try replace HA5 := hid (PgB.RdX.fr HA5.out f)); (try replace HB0 := hid (PlA.RdI.fr HB0.out f)); (try replace HR1 := hid (PlA.RdI.fr HR1.out f)); clear f; clear p0 p1 p2 p3 p4; obtain ⟨p0, p1, p2, p3, p4⟩ := BG.cells P0.out))
  go_ret
  exact ⟨rfl, HF.out⟩
theorem ckE70 {g : Ge} {xs : List Ex} (h : ¬ mayG g) : ckE g xs = 70 := by
  unfold ckE
  rw [if_neg h]
theorem vM70 {g : Ge} {xs : List Ex} (h : ¬ mayG g) : vM g xs = false := by
  unfold vM
  rw [decide_eq_false h, Bool.false_and]
set_option maxRecDepth 100000 in
set_option maxHeartbeats 4000000 in
theorem counts_geom (gc gs gn gl gk : Int) (A : Option Addr) (l c : Nat) (xs : List Ex) (w : World) (hs : r64 gs) (hl0 : l ≤ maxLen) (hx : RdX w A l xs) (hw : ∀ x ∈ xs, exW x) (hf : l ≤ 60 ∧ gn ≤ 64 ∧ gs ≤ 20) (hm : ¬ mayG ⟨gc, gs, gn, gl, gk⟩) :
    Calls Try.prog 3 #[gv gc gs gn gl gk, .slice A l c] w fun e w' => e = .returned (.bool true) ∧ Fr No w w' := by
  have HSM := hid (show true = decide (l ≤ 60 ∧ gn ≤ 64 ∧ gs ≤ 20) from (decide_eq_true hf).symm)
  have HC1 := hid (fun W A' c' (h : RdX W A' l xs) => counts_n gc gs gn gl gk A' l c' xs W hs hl0 h hw (by rw [ckE70 hm]; decide))
  have HC2 := hid (fun W A' c' (h : RdX W A' l xs) => touched_n gc gs gn gl gk A' l c' xs W hs hl0 h hw (by rw [ckE70 hm]; decide))
  rw [ckE70 hm] at HC1 HC2
  have HLY := hid (fun W => rlay_no gc gs gn gl gk W hs hm)
  have HVM := hid (fun W (h : RdX W A l xs) => vmay_ok gc gs gn gl gk A l c xs W hs hl0 h hw)
  have HMY := hid (fun W (h : RdX W A l xs) => rmay_ok gc gs gn gl gk A l c xs W hs hl0 h hw)
  rw [vM70 hm] at HVM HMY
  have HL0 := hid hf.1
  obtain ⟨G, hG⟩ : ∃ G, w.heap.size = G := ⟨_, rfl⟩
  obtain ⟨w1, hw1⟩ : ∃ w1, w.alloc (bg gc gs gn gl gk) = w1 := ⟨_, rfl⟩
  have HF := hid (show Fr No w w1 by rw [← hw1]; exact fr1 _ _)
  have P0 := hid (show BG w1 G gc gs gn gl gk by rw [← hw1, ← hG]; exact BG.new w gc gs gn gl gk)
  have HX := hid hx
  have HW1 := hid hw1
  clear hs hl0 hx hw hf hm
  go_enter Try.func3, Try.ntmps3
  go_upto_region 1 with fail
  try rw [show w.alloc (Obj.cells #[.int .i64 gc, .int .i64 gs, .int .i64 gn, .int .i64 gl, .int .i64 gk] 23) = w1 from HW1.out]
  try rw [hG]
  clear hG hw1
  obtain ⟨p0, p1, p2, p3, p4⟩ := BG.cells P0.out
  go_upto_region 6 with (first | (go_at_call 15; refine (small_ok gc gs gn gl gk A l c _ true HSM.out).mono ?_; rintro e wn ⟨rfl, f⟩; replace HF := hid (HF.out.trans f); replace P0 := hid (BG.fr P0.out f); (try replace HA5 := hid (PgB.RdX.fr HA5.out f)); (try replace HB0 := hid (PlA.RdI.fr HB0.out f)); (try replace HR1 := hid (PlA.RdI.fr HR1.out f)); clear f; clear p0 p1 p2 p3 p4; obtain ⟨p0, p1, p2, p3, p4⟩ := BG.cells P0.out) | (at_builtin; refine app_x rfl (.tmp 18) (.tmp 19) rfl wn.heap.size _ rfl (own0x wn) A l c xs rfl (PgB.RdX.fr (PgB.RdX.fr HX.out HF.out) (fr1 _ _)) (by have := HL0.out; omega) (by simp) ?_; intro A5 c5 w5 hrd f5; have f := fr_new f5; replace HF := hid (HF.out.trans f); replace P0 := hid (BG.fr P0.out f); (try replace HA5 := hid (PgB.RdX.fr HA5.out f)); (try replace HB0 := hid (PlA.RdI.fr HB0.out f)); (try replace HR1 := hid (PlA.RdI.fr HR1.out f)); clear f; clear p0 p1 p2 p3 p4; obtain ⟨p0, p1, p2, p3, p4⟩ := BG.cells P0.out; have HA5 := hid hrd; clear hrd f5) | (go_at_call 17; refine (HC1.out _ _ _ HA5.out).mono ?_; rintro e wn ⟨rfl, f⟩; replace HF := hid (HF.out.trans f); replace P0 := hid (BG.fr P0.out f); (try replace HA5 := hid (PgB.RdX.fr HA5.out f)); (try replace HB0 := hid (PlA.RdI.fr HB0.out f)); (try replace HR1 := hid (PlA.RdI.fr HR1.out f)); clear f; clear p0 p1 p2 p3 p4; obtain ⟨p0, p1, p2, p3, p4⟩ := BG.cells P0.out) | (go_at_call 18; refine (HC2.out _ _ _ HA5.out).mono ?_; rintro e wn ⟨rfl, f⟩; replace HF := hid (HF.out.trans f); replace P0 := hid (BG.fr P0.out f); (try replace HA5 := hid (PgB.RdX.fr HA5.out f)); (try replace HB0 := hid (PlA.RdI.fr HB0.out f)); (try replace HR1 := hid (PlA.RdI.fr HR1.out f)); clear f; clear p0 p1 p2 p3 p4; obtain ⟨p0, p1, p2, p3, p4⟩ := BG.cells P0.out))
  have FW := hid (Fr.refl No wn)
  have FW := kd FW
  refine wp_region_noPanic ?_
  refine wp_region_held_drew (S := (fun W' => W'.cell? ⟨G, 0, none⟩ = some (.int .i64 gc) ∧ W'.cell? ⟨G, 1, none⟩ = some (.int .i64 gs) ∧ W'.cell? ⟨G, 2, none⟩ = some (.int .i64 gn) ∧ W'.cell? ⟨G, 3, none⟩ = some (.int .i64 gl) ∧ W'.cell? ⟨G, 4, none⟩ = some (.int .i64 gk) ∧ Hid (Fr No wn W'))) (by kernel_rfl) ?_ (fun hHeld => ?_)
  · (try dsimp only); (first | (go_split_ands; exact ⟨kc f (by assumption), kc f (by assumption), kc f (by assumption), kc f (by assumption), kc f (by assumption), by assumption⟩) | (go_split_ands; exact ⟨(by assumption), (by assumption), (by assumption), (by assumption), (by assumption), by assumption⟩) | (go_split_ands; exact ⟨kc (fr1 _ _) (by assumption), kc (fr1 _ _) (by assumption), kc (fr1 _ _) (by assumption), kc (fr1 _ _) (by assumption), kc (fr1 _ _) (by assumption), kfa (by assumption)⟩) | (go_split_ands; exact ⟨kc (fr1d _ _) (by assumption), kc (fr1d _ _) (by assumption), kc (fr1d _ _) (by assumption), kc (fr1d _ _) (by assumption), kc (fr1d _ _) (by assumption), kfae (by assumption)⟩))
  refine wpAnyH_ready (rs := [0]) (by kernel_rfl) (by simp) (AllReadyH.cons rfl (fun K hK => ?_) AllReadyH.nil)
  go_simp
  go_at_call 16
  refine (lives_ok _).mono ?_
  rintro e W1 ⟨rfl, f⟩
  have FW := kf f hHeld.2.2.2.2.2
  dsimp only
  refine hK.out _ _ ?_ (fun hHeld => ?_)
  · (try dsimp only); (first | (go_split_ands; exact ⟨kc f (by assumption), kc f (by assumption), kc f (by assumption), kc f (by assumption), kc f (by assumption), by assumption⟩) | (go_split_ands; exact ⟨(by assumption), (by assumption), (by assumption), (by assumption), (by assumption), by assumption⟩) | (go_split_ands; exact ⟨kc (fr1 _ _) (by assumption), kc (fr1 _ _) (by assumption), kc (fr1 _ _) (by assumption), kc (fr1 _ _) (by assumption), kc (fr1 _ _) (by assumption), kfa (by assumption)⟩) | (go_split_ands; exact ⟨kc (fr1d _ _) (by assumption), kc (fr1d _ _) (by assumption), kc (fr1d _ _) (by assumption), kc (fr1d _ _) (by assumption), kc (fr1d _ _) (by assumption), kfae (by assumption)⟩))
  clear hK K
  try simp only [Act.put, List.getElem_toArray, List.getElem_cons_succ, List.getElem_cons_zero, List.setIfInBounds_toArray, List.set_cons_zero, List.set_cons_succ]
  refine wpAnyH_take (i := 1) (v := (.bool false)) rfl (by kernel_rfl) (by kernel_rfl) (by kernel_rfl) (fun _ _ _ h => h) (Or.inl ⟨by kernel_rfl, fun w hSw => by first | (go_simp; done) | (go_simp; with_reducible rfl) | (go_simp; omega)⟩) (by assumption) ?_
  try simp only [Act.put, List.getElem_toArray, List.getElem_cons_succ, List.getElem_cons_zero, List.setIfInBounds_toArray, List.set_cons_zero, List.set_cons_succ]
  refine wpAnyH_take (i := 2) (v := (.bool false)) rfl (by kernel_rfl) (by kernel_rfl) (by kernel_rfl) (fun _ _ _ h => h) (Or.inl ⟨by kernel_rfl, fun w hSw => by first | (go_simp; done) | (go_simp; with_reducible rfl) | (go_simp; omega)⟩) (by assumption) ?_
  try simp only [Act.put, List.getElem_toArray, List.getElem_cons_succ, List.getElem_cons_zero, List.setIfInBounds_toArray, List.set_cons_zero, List.set_cons_succ]
  refine wpAnyH_take (i := 3) (v := ?v9) rfl (by kernel_rfl) (by kernel_rfl) (by kernel_rfl) (fun _ _ _ h => h) (Or.inl ⟨by kernel_rfl, ?y9⟩) (by assumption) ?_
  case y9 => (intro w hSw; (try dsimp only at hSw); go_simp; all_goals with_reducible rfl)
  try simp only [Act.put, List.getElem_toArray, List.getElem_cons_succ, List.getElem_cons_zero, List.setIfInBounds_toArray, List.set_cons_zero, List.set_cons_succ]
  refine wpAnyH_take (i := 4) (v := ?v10) rfl (by kernel_rfl) (by kernel_rfl) (by kernel_rfl) (fun _ _ _ h => h) (Or.inl ⟨by kernel_rfl, ?y10⟩) (by assumption) ?_
  case y10 => (intro w hSw; (try dsimp only at hSw); go_simp; all_goals with_reducible rfl)
  try simp only [Act.put, List.getElem_toArray, List.getElem_cons_succ, List.getElem_cons_zero, List.setIfInBounds_toArray, List.set_cons_zero, List.set_cons_succ]
  refine wpAnyH_take (i := 6) (v := ?v11) rfl (by kernel_rfl) (by kernel_rfl) (by kernel_rfl) (fun _ _ _ h => h) (Or.inl ⟨by kernel_rfl, ?y11⟩) (by assumption) ?_
  case y11 => (intro w hSw; (try dsimp only at hSw); go_simp; all_goals with_reducible rfl)
  try simp only [Act.put, List.getElem_toArray, List.getElem_cons_succ, List.getElem_cons_zero, List.setIfInBounds_toArray, List.set_cons_zero, List.set_cons_succ]
  refine wpAnyH_take (i := 7) (v := ?v12) rfl (by kernel_rfl) (by kernel_rfl) (by kernel_rfl) (fun _ _ _ h => h) (Or.inl ⟨by kernel_rfl, ?y12⟩) (by assumption) ?_
  case y12 => (intro w hSw; (try dsimp only at hSw); go_simp; all_goals with_reducible rfl)
  try simp only [Act.put, List.getElem_toArray, List.getElem_cons_succ, List.getElem_cons_zero, List.setIfInBounds_toArray, List.set_cons_zero, List.set_cons_succ]
  refine wpAnyH_ready (rs := [5]) (by kernel_rfl) (by simp) (AllReadyH.cons rfl (fun K hK => ?_) AllReadyH.nil)
  go_simp
  go_at_call 19
  refine (HVM.out _ (PgB.RdX.fr HX.out (HF.out.trans hHeld.2.2.2.2.2.out))).mono ?_
  rintro e W1 ⟨rfl, f⟩
  have FW := kf f hHeld.2.2.2.2.2
  dsimp only
  refine hK.out _ _ ?_ (fun hHeld => ?_)
  · (try dsimp only); (first | (go_split_ands; exact ⟨kc f (by assumption), kc f (by assumption), kc f (by assumption), kc f (by assumption), kc f (by assumption), by assumption⟩) | (go_split_ands; exact ⟨(by assumption), (by assumption), (by assumption), (by assumption), (by assumption), by assumption⟩) | (go_split_ands; exact ⟨kc (fr1 _ _) (by assumption), kc (fr1 _ _) (by assumption), kc (fr1 _ _) (by assumption), kc (fr1 _ _) (by assumption), kc (fr1 _ _) (by assumption), kfa (by assumption)⟩) | (go_split_ands; exact ⟨kc (fr1d _ _) (by assumption), kc (fr1d _ _) (by assumption), kc (fr1d _ _) (by assumption), kc (fr1d _ _) (by assumption), kc (fr1d _ _) (by assumption), kfae (by assumption)⟩))
  clear hK K
  try simp only [Act.put, List.getElem_toArray, List.getElem_cons_succ, List.getElem_cons_zero, List.setIfInBounds_toArray, List.set_cons_zero, List.set_cons_succ]
  refine wpAnyH_ready (rs := [8]) (by kernel_rfl) (by simp) (AllReadyH.cons rfl (fun K hK => ?_) AllReadyH.nil)
  go_simp
  go_at_call 20
  refine (HMY.out _ (PgB.RdX.fr HX.out (HF.out.trans hHeld.2.2.2.2.2.out))).mono ?_
  rintro e W1 ⟨rfl, f⟩
  have FW := kf f hHeld.2.2.2.2.2
  dsimp only
  refine hK.out _ _ ?_ (fun hHeld => ?_)
  · (try dsimp only); (first | (go_split_ands; exact ⟨kc f (by assumption), kc f (by assumption), kc f (by assumption), kc f (by assumption), kc f (by assumption), by assumption⟩) | (go_split_ands; exact ⟨(by assumption), (by assumption), (by assumption), (by assumption), (by assumption), by assumption⟩) | (go_split_ands; exact ⟨kc (fr1 _ _) (by assumption), kc (fr1 _ _) (by assumption), kc (fr1 _ _) (by assumption), kc (fr1 _ _) (by assumption), kc (fr1 _ _) (by assumption), kfa (by assumption)⟩) | (go_split_ands; exact ⟨kc (fr1d _ _) (by assumption), kc (fr1d _ _) (by assumption), kc (fr1d _ _) (by assumption), kc (fr1d _ _) (by assumption), kc (fr1d _ _) (by assumption), kfae (by assumption)⟩))
  clear hK K
  try simp only [Act.put, List.getElem_toArray, List.getElem_cons_succ, List.getElem_cons_zero, List.setIfInBounds_toArray, List.set_cons_zero, List.set_cons_succ]
  refine wpAnyH_take (i := 9) (v := (.bool false)) rfl (by kernel_rfl) (by kernel_rfl) (by kernel_rfl) (fun _ _ _ h => h) (Or.inl ⟨by kernel_rfl, fun w hSw => by first | (go_simp; done) | (go_simp; with_reducible rfl) | (go_simp; omega)⟩) (by assumption) ?_
  try simp only [Act.put, List.getElem_toArray, List.getElem_cons_succ, List.getElem_cons_zero, List.setIfInBounds_toArray, List.set_cons_zero, List.set_cons_succ]
  refine wpAnyH_take (i := 10) (v := (.bool false)) rfl (by kernel_rfl) (by kernel_rfl) (by kernel_rfl) (fun _ _ _ h => h) (Or.inl ⟨by kernel_rfl, fun w hSw => by first | (go_simp; done) | (go_simp; with_reducible rfl) | (go_simp; omega)⟩) (by assumption) ?_
  try simp only [Act.put, List.getElem_toArray, List.getElem_cons_succ, List.getElem_cons_zero, List.setIfInBounds_toArray, List.set_cons_zero, List.set_cons_succ]
  refine wpAnyH_take (i := 11) (v := (.bool false)) rfl (by kernel_rfl) (by kernel_rfl) (by kernel_rfl) (fun _ _ _ h => h) (Or.inl ⟨by kernel_rfl, fun w hSw => by first | (go_simp; done) | (go_simp; with_reducible rfl) | (go_simp; omega)⟩) (by assumption) ?_
  try simp only [Act.put, List.getElem_toArray, List.getElem_cons_succ, List.getElem_cons_zero, List.setIfInBounds_toArray, List.set_cons_zero, List.set_cons_succ]
  refine wpAnyH_take (i := 12) (v := ?v13) rfl (by kernel_rfl) (by kernel_rfl) (by kernel_rfl) (fun _ _ _ h => h) (Or.inl ⟨by kernel_rfl, ?y13⟩) (by assumption) ?_
  case y13 => (intro w hSw; (try dsimp only at hSw); go_simp; all_goals with_reducible rfl)
  try simp only [Act.put, List.getElem_toArray, List.getElem_cons_succ, List.getElem_cons_zero, List.setIfInBounds_toArray, List.set_cons_zero, List.set_cons_succ]
  refine wpAnyH_take (i := 13) (v := ?v14) rfl (by kernel_rfl) (by kernel_rfl) (by kernel_rfl) (fun _ _ _ h => h) (Or.inl ⟨by kernel_rfl, ?y14⟩) (by assumption) ?_
  case y14 => (intro w hSw; (try dsimp only at hSw); go_simp; all_goals with_reducible rfl)
  try simp only [Act.put, List.getElem_toArray, List.getElem_cons_succ, List.getElem_cons_zero, List.setIfInBounds_toArray, List.set_cons_zero, List.set_cons_succ]
  refine wpAnyH_take (i := 14) (v := (.bool false)) rfl (by kernel_rfl) (by kernel_rfl) (by kernel_rfl) (fun _ _ _ h => h) (Or.inl ⟨by kernel_rfl, fun w hSw => by first | (go_simp; done) | (go_simp; with_reducible rfl) | (go_simp; omega)⟩) (by assumption) ?_
  try simp only [Act.put, List.getElem_toArray, List.getElem_cons_succ, List.getElem_cons_zero, List.setIfInBounds_toArray, List.set_cons_zero, List.set_cons_succ]
  refine wpAnyH_take (i := 15) (v := (.bool false)) rfl (by kernel_rfl) (by kernel_rfl) (by kernel_rfl) (fun _ _ _ h => h) (Or.inl ⟨by kernel_rfl, fun w hSw => by first | (go_simp; done) | (go_simp; with_reducible rfl) | (go_simp; omega)⟩) (by assumption) ?_
  try simp only [Act.put, List.getElem_toArray, List.getElem_cons_succ, List.getElem_cons_zero, List.setIfInBounds_toArray, List.set_cons_zero, List.set_cons_succ]
  refine wpAnyH_done (by kernel_rfl) ?_ _
  refine NoPanic.normal ?_
  have f := (hHeld.2.2.2.2.2).out
  clear hHeld FW
  replace HF := hid (HF.out.trans f); replace P0 := hid (BG.fr P0.out f); (try replace HA5 := hid (PgB.RdX.fr HA5.out f)); (try replace HB0 := hid (PlA.RdI.fr HB0.out f)); (try replace HR1 := hid (PlA.RdI.fr HR1.out f)); clear f; clear p0 p1 p2 p3 p4; obtain ⟨p0, p1, p2, p3, p4⟩ := BG.cells P0.out
  go_wp2_with (first | (go_at_call 21; refine (HLY.out _).mono ?_; rintro e wn ⟨rfl, f⟩; replace HF := hid (HF.out.trans f); replace P0 := hid (BG.fr P0.out f); (try replace HA5 := hid (PgB.RdX.fr HA5.out f)); (try replace HB0 := hid (PlA.RdI.fr HB0.out f)); (try replace HR1 := hid (PlA.RdI.fr HR1.out f)); clear f; clear p0 p1 p2 p3 p4; obtain ⟨p0, p1, p2, p3, p4⟩ := BG.cells P0.out))
  go_ret
  exact ⟨rfl, HF.out.alloc _⟩
set_option maxRecDepth 100000 in
set_option maxHeartbeats 4000000 in
theorem counts_bad (gc gs gn gl gk : Int) (A : Option Addr) (l c : Nat) (xs : List Ex) (w : World) (hs : r64 gs) (hl0 : l ≤ maxLen) (hx : RdX w A l xs) (hw : ∀ x ∈ xs, exW x) (hf : l ≤ 60 ∧ gn ≤ 64 ∧ gs ≤ 20) (hm : mayG ⟨gc, gs, gn, gl, gk⟩) (hb : ¬ ckE ⟨gc, gs, gn, gl, gk⟩ xs = 0) :
    Calls Try.prog 3 #[gv gc gs gn gl gk, .slice A l c] w fun e w' => e = .returned (.bool true) ∧ Fr No w w' := by
  have HSM := hid (show true = decide (l ≤ 60 ∧ gn ≤ 64 ∧ gs ≤ 20) from (decide_eq_true hf).symm)
  have hb1 : ckE ⟨gc, gs, gn, gl, gk⟩ xs = 1 ∧ vM ⟨gc, gs, gn, gl, gk⟩ xs = false := by
    unfold ckE at hb ⊢
    unfold vM
    rw [if_pos hm] at hb ⊢
    by_cases hv : mayL ⟨gc, gs, gn, gl, gk⟩ 0 xs = true
    · rw [if_pos hv] at hb; exact absurd rfl hb
    · rw [if_neg hv]
      exact ⟨rfl, by rw [Bool.eq_false_iff.2 hv, Bool.and_false]⟩
  have HC1 := hid (fun W A' c' (h : RdX W A' l xs) => counts_n gc gs gn gl gk A' l c' xs W hs hl0 h hw hb)
  have HC2 := hid (fun W A' c' (h : RdX W A' l xs) => touched_n gc gs gn gl gk A' l c' xs W hs hl0 h hw hb)
  rw [hb1.1] at HC1 HC2
  have HLY := hid (fun W => rlay_yes gc gs gn gl gk W hs hm)
  have HVM := hid (fun W (h : RdX W A l xs) => vmay_ok gc gs gn gl gk A l c xs W hs hl0 h hw)
  have HMY := hid (fun W (h : RdX W A l xs) => rmay_ok gc gs gn gl gk A l c xs W hs hl0 h hw)
  rw [hb1.2] at HVM HMY
  have HL0 := hid hf.1
  obtain ⟨G, hG⟩ : ∃ G, w.heap.size = G := ⟨_, rfl⟩
  obtain ⟨w1, hw1⟩ : ∃ w1, w.alloc (bg gc gs gn gl gk) = w1 := ⟨_, rfl⟩
  have HF := hid (show Fr No w w1 by rw [← hw1]; exact fr1 _ _)
  have P0 := hid (show BG w1 G gc gs gn gl gk by rw [← hw1, ← hG]; exact BG.new w gc gs gn gl gk)
  have HX := hid hx
  have HW1 := hid hw1
  clear hs hl0 hx hw hf hm hb hb1
  go_enter Try.func3, Try.ntmps3
  go_upto_region 1 with fail
  try rw [show w.alloc (Obj.cells #[.int .i64 gc, .int .i64 gs, .int .i64 gn, .int .i64 gl, .int .i64 gk] 23) = w1 from HW1.out]
  try rw [hG]
  clear hG hw1
  obtain ⟨p0, p1, p2, p3, p4⟩ := BG.cells P0.out
  go_upto_region 6 with (first | (go_at_call 15; refine (small_ok gc gs gn gl gk A l c _ true HSM.out).mono ?_; rintro e wn ⟨rfl, f⟩; replace HF := hid (HF.out.trans f); replace P0 := hid (BG.fr P0.out f); (try replace HA5 := hid (PgB.RdX.fr HA5.out f)); (try replace HB0 := hid (PlA.RdI.fr HB0.out f)); (try replace HR1 := hid (PlA.RdI.fr HR1.out f)); clear f; clear p0 p1 p2 p3 p4; obtain ⟨p0, p1, p2, p3, p4⟩ := BG.cells P0.out) | (at_builtin; refine app_x rfl (.tmp 18) (.tmp 19) rfl wn.heap.size _ rfl (own0x wn) A l c xs rfl (PgB.RdX.fr (PgB.RdX.fr HX.out HF.out) (fr1 _ _)) (by have := HL0.out; omega) (by simp) ?_; intro A5 c5 w5 hrd f5; have f := fr_new f5; replace HF := hid (HF.out.trans f); replace P0 := hid (BG.fr P0.out f); (try replace HA5 := hid (PgB.RdX.fr HA5.out f)); (try replace HB0 := hid (PlA.RdI.fr HB0.out f)); (try replace HR1 := hid (PlA.RdI.fr HR1.out f)); clear f; clear p0 p1 p2 p3 p4; obtain ⟨p0, p1, p2, p3, p4⟩ := BG.cells P0.out; have HA5 := hid hrd; clear hrd f5) | (go_at_call 17; refine (HC1.out _ _ _ HA5.out).mono ?_; rintro e wn ⟨rfl, f⟩; replace HF := hid (HF.out.trans f); replace P0 := hid (BG.fr P0.out f); (try replace HA5 := hid (PgB.RdX.fr HA5.out f)); (try replace HB0 := hid (PlA.RdI.fr HB0.out f)); (try replace HR1 := hid (PlA.RdI.fr HR1.out f)); clear f; clear p0 p1 p2 p3 p4; obtain ⟨p0, p1, p2, p3, p4⟩ := BG.cells P0.out) | (go_at_call 18; refine (HC2.out _ _ _ HA5.out).mono ?_; rintro e wn ⟨rfl, f⟩; replace HF := hid (HF.out.trans f); replace P0 := hid (BG.fr P0.out f); (try replace HA5 := hid (PgB.RdX.fr HA5.out f)); (try replace HB0 := hid (PlA.RdI.fr HB0.out f)); (try replace HR1 := hid (PlA.RdI.fr HR1.out f)); clear f; clear p0 p1 p2 p3 p4; obtain ⟨p0, p1, p2, p3, p4⟩ := BG.cells P0.out))
  have FW := hid (Fr.refl No wn)
  have FW := kd FW
  refine wp_region_noPanic ?_
  refine wp_region_held_drew (S := (fun W' => W'.cell? ⟨G, 0, none⟩ = some (.int .i64 gc) ∧ W'.cell? ⟨G, 1, none⟩ = some (.int .i64 gs) ∧ W'.cell? ⟨G, 2, none⟩ = some (.int .i64 gn) ∧ W'.cell? ⟨G, 3, none⟩ = some (.int .i64 gl) ∧ W'.cell? ⟨G, 4, none⟩ = some (.int .i64 gk) ∧ Hid (Fr No wn W'))) (by kernel_rfl) ?_ (fun hHeld => ?_)
  · (try dsimp only); (first | (go_split_ands; exact ⟨kc f (by assumption), kc f (by assumption), kc f (by assumption), kc f (by assumption), kc f (by assumption), by assumption⟩) | (go_split_ands; exact ⟨(by assumption), (by assumption), (by assumption), (by assumption), (by assumption), by assumption⟩) | (go_split_ands; exact ⟨kc (fr1 _ _) (by assumption), kc (fr1 _ _) (by assumption), kc (fr1 _ _) (by assumption), kc (fr1 _ _) (by assumption), kc (fr1 _ _) (by assumption), kfa (by assumption)⟩) | (go_split_ands; exact ⟨kc (fr1d _ _) (by assumption), kc (fr1d _ _) (by assumption), kc (fr1d _ _) (by assumption), kc (fr1d _ _) (by assumption), kc (fr1d _ _) (by assumption), kfae (by assumption)⟩))
  refine wpAnyH_ready (rs := [0]) (by kernel_rfl) (by simp) (AllReadyH.cons rfl (fun K hK => ?_) AllReadyH.nil)
  go_simp
  go_at_call 16
  refine (lives_ok _).mono ?_
  rintro e W1 ⟨rfl, f⟩
  have FW := kf f hHeld.2.2.2.2.2
  dsimp only
  refine hK.out _ _ ?_ (fun hHeld => ?_)
  · (try dsimp only); (first | (go_split_ands; exact ⟨kc f (by assumption), kc f (by assumption), kc f (by assumption), kc f (by assumption), kc f (by assumption), by assumption⟩) | (go_split_ands; exact ⟨(by assumption), (by assumption), (by assumption), (by assumption), (by assumption), by assumption⟩) | (go_split_ands; exact ⟨kc (fr1 _ _) (by assumption), kc (fr1 _ _) (by assumption), kc (fr1 _ _) (by assumption), kc (fr1 _ _) (by assumption), kc (fr1 _ _) (by assumption), kfa (by assumption)⟩) | (go_split_ands; exact ⟨kc (fr1d _ _) (by assumption), kc (fr1d _ _) (by assumption), kc (fr1d _ _) (by assumption), kc (fr1d _ _) (by assumption), kc (fr1d _ _) (by assumption), kfae (by assumption)⟩))
  clear hK K
  try simp only [Act.put, List.getElem_toArray, List.getElem_cons_succ, List.getElem_cons_zero, List.setIfInBounds_toArray, List.set_cons_zero, List.set_cons_succ]
  refine wpAnyH_take (i := 1) (v := (.bool false)) rfl (by kernel_rfl) (by kernel_rfl) (by kernel_rfl) (fun _ _ _ h => h) (Or.inl ⟨by kernel_rfl, fun w hSw => by first | (go_simp; done) | (go_simp; with_reducible rfl) | (go_simp; omega)⟩) (by assumption) ?_
  try simp only [Act.put, List.getElem_toArray, List.getElem_cons_succ, List.getElem_cons_zero, List.setIfInBounds_toArray, List.set_cons_zero, List.set_cons_succ]
  refine wpAnyH_take (i := 2) (v := (.bool false)) rfl (by kernel_rfl) (by kernel_rfl) (by kernel_rfl) (fun _ _ _ h => h) (Or.inl ⟨by kernel_rfl, fun w hSw => by first | (go_simp; done) | (go_simp; with_reducible rfl) | (go_simp; omega)⟩) (by assumption) ?_
  try simp only [Act.put, List.getElem_toArray, List.getElem_cons_succ, List.getElem_cons_zero, List.setIfInBounds_toArray, List.set_cons_zero, List.set_cons_succ]
  refine wpAnyH_take (i := 3) (v := ?v15) rfl (by kernel_rfl) (by kernel_rfl) (by kernel_rfl) (fun _ _ _ h => h) (Or.inl ⟨by kernel_rfl, ?y15⟩) (by assumption) ?_
  case y15 => (intro w hSw; (try dsimp only at hSw); go_simp; all_goals with_reducible rfl)
  try simp only [Act.put, List.getElem_toArray, List.getElem_cons_succ, List.getElem_cons_zero, List.setIfInBounds_toArray, List.set_cons_zero, List.set_cons_succ]
  refine wpAnyH_take (i := 4) (v := ?v16) rfl (by kernel_rfl) (by kernel_rfl) (by kernel_rfl) (fun _ _ _ h => h) (Or.inl ⟨by kernel_rfl, ?y16⟩) (by assumption) ?_
  case y16 => (intro w hSw; (try dsimp only at hSw); go_simp; all_goals with_reducible rfl)
  try simp only [Act.put, List.getElem_toArray, List.getElem_cons_succ, List.getElem_cons_zero, List.setIfInBounds_toArray, List.set_cons_zero, List.set_cons_succ]
  refine wpAnyH_take (i := 6) (v := ?v17) rfl (by kernel_rfl) (by kernel_rfl) (by kernel_rfl) (fun _ _ _ h => h) (Or.inl ⟨by kernel_rfl, ?y17⟩) (by assumption) ?_
  case y17 => (intro w hSw; (try dsimp only at hSw); go_simp; all_goals with_reducible rfl)
  try simp only [Act.put, List.getElem_toArray, List.getElem_cons_succ, List.getElem_cons_zero, List.setIfInBounds_toArray, List.set_cons_zero, List.set_cons_succ]
  refine wpAnyH_take (i := 7) (v := ?v18) rfl (by kernel_rfl) (by kernel_rfl) (by kernel_rfl) (fun _ _ _ h => h) (Or.inl ⟨by kernel_rfl, ?y18⟩) (by assumption) ?_
  case y18 => (intro w hSw; (try dsimp only at hSw); go_simp; all_goals with_reducible rfl)
  try simp only [Act.put, List.getElem_toArray, List.getElem_cons_succ, List.getElem_cons_zero, List.setIfInBounds_toArray, List.set_cons_zero, List.set_cons_succ]
  refine wpAnyH_ready (rs := [5]) (by kernel_rfl) (by simp) (AllReadyH.cons rfl (fun K hK => ?_) AllReadyH.nil)
  go_simp
  go_at_call 19
  refine (HVM.out _ (PgB.RdX.fr HX.out (HF.out.trans hHeld.2.2.2.2.2.out))).mono ?_
  rintro e W1 ⟨rfl, f⟩
  have FW := kf f hHeld.2.2.2.2.2
  dsimp only
  refine hK.out _ _ ?_ (fun hHeld => ?_)
  · (try dsimp only); (first | (go_split_ands; exact ⟨kc f (by assumption), kc f (by assumption), kc f (by assumption), kc f (by assumption), kc f (by assumption), by assumption⟩) | (go_split_ands; exact ⟨(by assumption), (by assumption), (by assumption), (by assumption), (by assumption), by assumption⟩) | (go_split_ands; exact ⟨kc (fr1 _ _) (by assumption), kc (fr1 _ _) (by assumption), kc (fr1 _ _) (by assumption), kc (fr1 _ _) (by assumption), kc (fr1 _ _) (by assumption), kfa (by assumption)⟩) | (go_split_ands; exact ⟨kc (fr1d _ _) (by assumption), kc (fr1d _ _) (by assumption), kc (fr1d _ _) (by assumption), kc (fr1d _ _) (by assumption), kc (fr1d _ _) (by assumption), kfae (by assumption)⟩))
  clear hK K
  try simp only [Act.put, List.getElem_toArray, List.getElem_cons_succ, List.getElem_cons_zero, List.setIfInBounds_toArray, List.set_cons_zero, List.set_cons_succ]
  refine wpAnyH_ready (rs := [8]) (by kernel_rfl) (by simp) (AllReadyH.cons rfl (fun K hK => ?_) AllReadyH.nil)
  go_simp
  go_at_call 20
  refine (HMY.out _ (PgB.RdX.fr HX.out (HF.out.trans hHeld.2.2.2.2.2.out))).mono ?_
  rintro e W1 ⟨rfl, f⟩
  have FW := kf f hHeld.2.2.2.2.2
  dsimp only
  refine hK.out _ _ ?_ (fun hHeld => ?_)
  · (try dsimp only); (first | (go_split_ands; exact ⟨kc f (by assumption), kc f (by assumption), kc f (by assumption), kc f (by assumption), kc f (by assumption), by assumption⟩) | (go_split_ands; exact ⟨(by assumption), (by assumption), (by assumption), (by assumption), (by assumption), by assumption⟩) | (go_split_ands; exact ⟨kc (fr1 _ _) (by assumption), kc (fr1 _ _) (by assumption), kc (fr1 _ _) (by assumption), kc (fr1 _ _) (by assumption), kc (fr1 _ _) (by assumption), kfa (by assumption)⟩) | (go_split_ands; exact ⟨kc (fr1d _ _) (by assumption), kc (fr1d _ _) (by assumption), kc (fr1d _ _) (by assumption), kc (fr1d _ _) (by assumption), kc (fr1d _ _) (by assumption), kfae (by assumption)⟩))
  clear hK K
  try simp only [Act.put, List.getElem_toArray, List.getElem_cons_succ, List.getElem_cons_zero, List.setIfInBounds_toArray, List.set_cons_zero, List.set_cons_succ]
  refine wpAnyH_take (i := 9) (v := (.bool false)) rfl (by kernel_rfl) (by kernel_rfl) (by kernel_rfl) (fun _ _ _ h => h) (Or.inl ⟨by kernel_rfl, fun w hSw => by first | (go_simp; done) | (go_simp; with_reducible rfl) | (go_simp; omega)⟩) (by assumption) ?_
  try simp only [Act.put, List.getElem_toArray, List.getElem_cons_succ, List.getElem_cons_zero, List.setIfInBounds_toArray, List.set_cons_zero, List.set_cons_succ]
  refine wpAnyH_take (i := 10) (v := (.bool false)) rfl (by kernel_rfl) (by kernel_rfl) (by kernel_rfl) (fun _ _ _ h => h) (Or.inl ⟨by kernel_rfl, fun w hSw => by first | (go_simp; done) | (go_simp; with_reducible rfl) | (go_simp; omega)⟩) (by assumption) ?_
  try simp only [Act.put, List.getElem_toArray, List.getElem_cons_succ, List.getElem_cons_zero, List.setIfInBounds_toArray, List.set_cons_zero, List.set_cons_succ]
  refine wpAnyH_take (i := 11) (v := (.bool false)) rfl (by kernel_rfl) (by kernel_rfl) (by kernel_rfl) (fun _ _ _ h => h) (Or.inl ⟨by kernel_rfl, fun w hSw => by first | (go_simp; done) | (go_simp; with_reducible rfl) | (go_simp; omega)⟩) (by assumption) ?_
  try simp only [Act.put, List.getElem_toArray, List.getElem_cons_succ, List.getElem_cons_zero, List.setIfInBounds_toArray, List.set_cons_zero, List.set_cons_succ]
  refine wpAnyH_take (i := 12) (v := ?v19) rfl (by kernel_rfl) (by kernel_rfl) (by kernel_rfl) (fun _ _ _ h => h) (Or.inl ⟨by kernel_rfl, ?y19⟩) (by assumption) ?_
  case y19 => (intro w hSw; (try dsimp only at hSw); go_simp; all_goals with_reducible rfl)
  try simp only [Act.put, List.getElem_toArray, List.getElem_cons_succ, List.getElem_cons_zero, List.setIfInBounds_toArray, List.set_cons_zero, List.set_cons_succ]
  refine wpAnyH_take (i := 13) (v := ?v20) rfl (by kernel_rfl) (by kernel_rfl) (by kernel_rfl) (fun _ _ _ h => h) (Or.inl ⟨by kernel_rfl, ?y20⟩) (by assumption) ?_
  case y20 => (intro w hSw; (try dsimp only at hSw); go_simp; all_goals with_reducible rfl)
  try simp only [Act.put, List.getElem_toArray, List.getElem_cons_succ, List.getElem_cons_zero, List.setIfInBounds_toArray, List.set_cons_zero, List.set_cons_succ]
  refine wpAnyH_take (i := 14) (v := (.bool false)) rfl (by kernel_rfl) (by kernel_rfl) (by kernel_rfl) (fun _ _ _ h => h) (Or.inl ⟨by kernel_rfl, fun w hSw => by first | (go_simp; done) | (go_simp; with_reducible rfl) | (go_simp; omega)⟩) (by assumption) ?_
  try simp only [Act.put, List.getElem_toArray, List.getElem_cons_succ, List.getElem_cons_zero, List.setIfInBounds_toArray, List.set_cons_zero, List.set_cons_succ]
  refine wpAnyH_take (i := 15) (v := (.bool false)) rfl (by kernel_rfl) (by kernel_rfl) (by kernel_rfl) (fun _ _ _ h => h) (Or.inl ⟨by kernel_rfl, fun w hSw => by first | (go_simp; done) | (go_simp; with_reducible rfl) | (go_simp; omega)⟩) (by assumption) ?_
  try simp only [Act.put, List.getElem_toArray, List.getElem_cons_succ, List.getElem_cons_zero, List.setIfInBounds_toArray, List.set_cons_zero, List.set_cons_succ]
  refine wpAnyH_done (by kernel_rfl) ?_ _
  refine NoPanic.normal ?_
  have f := (hHeld.2.2.2.2.2).out
  clear hHeld FW
  replace HF := hid (HF.out.trans f); replace P0 := hid (BG.fr P0.out f); (try replace HA5 := hid (PgB.RdX.fr HA5.out f)); (try replace HB0 := hid (PlA.RdI.fr HB0.out f)); (try replace HR1 := hid (PlA.RdI.fr HR1.out f)); clear f; clear p0 p1 p2 p3 p4; obtain ⟨p0, p1, p2, p3, p4⟩ := BG.cells P0.out
  go_upto_region 9 with (first | (go_at_call 21; refine (HLY.out _).mono ?_; rintro e wn ⟨y1, y2, y3, y4, y5, y6, y7, y8, rfl, f⟩; replace HF := hid (HF.out.trans f); replace P0 := hid (BG.fr P0.out f); (try replace HA5 := hid (PgB.RdX.fr HA5.out f)); (try replace HB0 := hid (PlA.RdI.fr HB0.out f)); (try replace HR1 := hid (PlA.RdI.fr HR1.out f)); clear f; clear p0 p1 p2 p3 p4; obtain ⟨p0, p1, p2, p3, p4⟩ := BG.cells P0.out))
  obtain ⟨v3, hv3⟩ : ∃ zz, wn.alloc (.cells #[.int .i64 y1, .int .i64 y2, .int .i64 y3, .int .i64 y4, .int .i64 y5, .int .i64 y6, .int .i64 y7, .int .i64 y8] 32) = zz := ⟨_, rfl⟩
  have f : Fr No wn v3 := by rw [← hv3]; exact fr1 _ _
  try rw [show wn.alloc (Obj.cells #[.int .i64 y1, .int .i64 y2, .int .i64 y3, .int .i64 y4, .int .i64 y5, .int .i64 y6, .int .i64 y7, .int .i64 y8] 32) = v3 from hv3]
  replace HF := hid (HF.out.trans f); replace P0 := hid (BG.fr P0.out f); (try replace HA5 := hid (PgB.RdX.fr HA5.out f)); (try replace HB0 := hid (PlA.RdI.fr HB0.out f)); (try replace HR1 := hid (PlA.RdI.fr HR1.out f)); clear f; clear p0 p1 p2 p3 p4; obtain ⟨p0, p1, p2, p3, p4⟩ := BG.cells P0.out
  clear hv3
  go_wp2_with (first | (go_at_call 20; refine (HMY.out _ (PgB.RdX.fr HX.out HF.out)).mono ?_; rintro e wn ⟨rfl, f⟩; replace HF := hid (HF.out.trans f); replace P0 := hid (BG.fr P0.out f); (try replace HA5 := hid (PgB.RdX.fr HA5.out f)); (try replace HB0 := hid (PlA.RdI.fr HB0.out f)); (try replace HR1 := hid (PlA.RdI.fr HR1.out f)); clear f; clear p0 p1 p2 p3 p4; obtain ⟨p0, p1, p2, p3, p4⟩ := BG.cells P0.out))
  go_ret
  exact ⟨rfl, HF.out⟩
set_option maxRecDepth 100000 in
set_option maxHeartbeats 8000000 in
theorem counts_good (gc gs gn gl gk : Int) (A : Option Addr) (l c : Nat) (xs : List Ex) (w : World) (hs : r64 gs) (hl0 : l ≤ maxLen) (hx : RdX w A l xs) (hw : ∀ x ∈ xs, exW x) (hf : l ≤ 60 ∧ gn ≤ 64 ∧ gs ≤ 20) (hb : ckE ⟨gc, gs, gn, gl, gk⟩ xs = 0) :
    Calls Try.prog 3 #[gv gc gs gn gl gk, .slice A l c] w fun e w' => e = .returned (.bool true) ∧ Fr No w w' := by
  have hl : l ≤ 1000 := by omega
  have hmm := ckE0 hb
  have hg := inG hmm.1
  dsimp only at hg
  obtain ⟨N, rfl⟩ : ∃ N : Nat, gs = (N : Int) := ⟨gs.toNat, by omega⟩
  have HSM := hid (show true = decide (l ≤ 60 ∧ gn ≤ 64 ∧ (N : Int) ≤ 20) from (decide_eq_true hf).symm)
  have hok := mayL_all hmm.2
  have h1 := fun W A' c' (h : RdX W A' l xs) => counts_y gc (N : Int) gn gl gk A' l c' xs W hs hl h hw hb
  simp only [Int.toNat_natCast] at h1
  have HC1 := hid h1
  have HC2 := hid (fun W A' c' (h : RdX W A' l xs) => touched_y gc (N : Int) gn gl gk A' l c' xs W hs hl h hw hb)
  have HLY := hid (fun W => rlay_yes gc (N : Int) gn gl gk W hs hmm.1)
  have HVM := hid (fun W (h : RdX W A l xs) => vmay_ok gc (N : Int) gn gl gk A l c xs W hs hl0 h hw)
  have HMY := hid (fun W (h : RdX W A l xs) => rmay_ok gc (N : Int) gn gl gk A l c xs W hs hl0 h hw)
  rw [show vM ⟨gc, (N : Int), gn, gl, gk⟩ xs = true by unfold vM; rw [decide_eq_true hmm.1, hmm.2]; rfl] at HVM HMY
  have HRB := hid (fun W (h : RdX W A l xs) => VaI.rbands_ok gc (N : Int) gn gl gk A l c xs (-1) W hs hl h hmm.1 hmm.2)
  have HMM := hid (show ∀ x ∈ xs, 0 ≤ x.m ∧ x.m ≤ 1099511627776 from fun x hx => by
    have := cko0 (hok x hx).1
    omega)
  obtain ⟨B, hB⟩ : ∃ B, bds (gn - 1) (-1) xs ((N : Int) - gk - 1).toNat = B := ⟨_, rfl⟩
  have hBl : B.length ≤ 1000 := by
    rw [← hB]
    have h1 := bds_len (gn - 1) (-1) xs ((N : Int) - gk - 1).toNat
    have h2 := nG hmm.1
    have h3 := (good hmm.1.1).b2
    dsimp only at h2
    omega
  rw [hB] at HC2 HRB
  have HBL := hid hBl
  have HNN := hid (show (0 ≤ gc ∧ gc ≤ 100000) ∧ N ≤ 20 by omega)
  have HL0 := hid hf.1
  have HL := hid hl
  obtain ⟨G, hG⟩ : ∃ G, w.heap.size = G := ⟨_, rfl⟩
  obtain ⟨w1, hw1⟩ : ∃ w1, w.alloc (bg gc (N : Int) gn gl gk) = w1 := ⟨_, rfl⟩
  have HF := hid (show Fr No w w1 by rw [← hw1]; exact fr1 _ _)
  have P0 := hid (show BG w1 G gc (N : Int) gn gl gk by rw [← hw1, ← hG]; exact BG.new w gc (N : Int) gn gl gk)
  have HX := hid hx
  have HW1 := hid hw1
  clear hs hl0 hx hw hf hb hl hmm hg hok hB hBl h1
  go_enter Try.func3, Try.ntmps3
  go_upto_region 1 with fail
  try rw [show w.alloc (Obj.cells #[.int .i64 gc, .int .i64 (N : Int), .int .i64 gn, .int .i64 gl, .int .i64 gk] 23) = w1 from HW1.out]
  try rw [hG]
  clear hG hw1
  obtain ⟨p0, p1, p2, p3, p4⟩ := BG.cells P0.out
  go_upto_region 6 with (first | (go_at_call 15; refine (small_ok gc (N : Int) gn gl gk A l c _ true HSM.out).mono ?_; rintro e wn ⟨rfl, f⟩; replace HF := hid (HF.out.trans f); replace P0 := hid (BG.fr P0.out f); (try replace HA5 := hid (PgB.RdX.fr HA5.out f)); (try replace HB0 := hid (PlA.RdI.fr HB0.out f)); (try replace HR1 := hid (PlA.RdI.fr HR1.out f)); clear f; clear p0 p1 p2 p3 p4; obtain ⟨p0, p1, p2, p3, p4⟩ := BG.cells P0.out) | (at_builtin; refine app_x rfl (.tmp 18) (.tmp 19) rfl wn.heap.size _ rfl (own0x wn) A l c xs rfl (PgB.RdX.fr (PgB.RdX.fr HX.out HF.out) (fr1 _ _)) (by have := HL0.out; omega) (by simp) ?_; intro A5 c5 w5 hrd f5; have f := fr_new f5; replace HF := hid (HF.out.trans f); replace P0 := hid (BG.fr P0.out f); (try replace HA5 := hid (PgB.RdX.fr HA5.out f)); (try replace HB0 := hid (PlA.RdI.fr HB0.out f)); (try replace HR1 := hid (PlA.RdI.fr HR1.out f)); clear f; clear p0 p1 p2 p3 p4; obtain ⟨p0, p1, p2, p3, p4⟩ := BG.cells P0.out; have HA5 := hid hrd; clear hrd f5) | (go_at_call 17; refine (HC1.out _ _ _ HA5.out).mono ?_; rintro e wn ⟨g1, rfl, hrd, f⟩; replace HF := hid (HF.out.trans f); replace P0 := hid (BG.fr P0.out f); (try replace HA5 := hid (PgB.RdX.fr HA5.out f)); (try replace HB0 := hid (PlA.RdI.fr HB0.out f)); (try replace HR1 := hid (PlA.RdI.fr HR1.out f)); clear f; clear p0 p1 p2 p3 p4; obtain ⟨p0, p1, p2, p3, p4⟩ := BG.cells P0.out; have HR1 := hid (PlA.OutI.rd (VaF.rowC_len _ _ _ _).symm hrd); clear hrd) | (go_at_call 18; refine (HC2.out _ _ _ HA5.out).mono ?_; rintro e wn ⟨A6, c6, rfl, hrd, f⟩; replace HF := hid (HF.out.trans f); replace P0 := hid (BG.fr P0.out f); (try replace HA5 := hid (PgB.RdX.fr HA5.out f)); (try replace HB0 := hid (PlA.RdI.fr HB0.out f)); (try replace HR1 := hid (PlA.RdI.fr HR1.out f)); clear f; clear p0 p1 p2 p3 p4; obtain ⟨p0, p1, p2, p3, p4⟩ := BG.cells P0.out; have HB0 := hid hrd; clear hrd))
  have FW := hid (Fr.refl No wn)
  have FW := kd FW
  refine wp_region_noPanic ?_
  refine wp_region_held_drew (S := (fun W' => W'.cell? ⟨G, 0, none⟩ = some (.int .i64 gc) ∧ W'.cell? ⟨G, 1, none⟩ = some (.int .i64 (N : Int)) ∧ W'.cell? ⟨G, 2, none⟩ = some (.int .i64 gn) ∧ W'.cell? ⟨G, 3, none⟩ = some (.int .i64 gl) ∧ W'.cell? ⟨G, 4, none⟩ = some (.int .i64 gk) ∧ Hid (Fr No wn W'))) (by kernel_rfl) ?_ (fun hHeld => ?_)
  · (try dsimp only); (first | (go_split_ands; exact ⟨kc f (by assumption), kc f (by assumption), kc f (by assumption), kc f (by assumption), kc f (by assumption), by assumption⟩) | (go_split_ands; exact ⟨(by assumption), (by assumption), (by assumption), (by assumption), (by assumption), by assumption⟩) | (go_split_ands; exact ⟨kc (fr1 _ _) (by assumption), kc (fr1 _ _) (by assumption), kc (fr1 _ _) (by assumption), kc (fr1 _ _) (by assumption), kc (fr1 _ _) (by assumption), kfa (by assumption)⟩) | (go_split_ands; exact ⟨kc (fr1d _ _) (by assumption), kc (fr1d _ _) (by assumption), kc (fr1d _ _) (by assumption), kc (fr1d _ _) (by assumption), kc (fr1d _ _) (by assumption), kfae (by assumption)⟩))
  refine wpAnyH_ready (rs := [0]) (by kernel_rfl) (by simp) (AllReadyH.cons rfl (fun K hK => ?_) AllReadyH.nil)
  go_simp
  go_at_call 16
  refine (lives_ok _).mono ?_
  rintro e W1 ⟨rfl, f⟩
  have FW := kf f hHeld.2.2.2.2.2
  dsimp only
  refine hK.out _ _ ?_ (fun hHeld => ?_)
  · (try dsimp only); (first | (go_split_ands; exact ⟨kc f (by assumption), kc f (by assumption), kc f (by assumption), kc f (by assumption), kc f (by assumption), by assumption⟩) | (go_split_ands; exact ⟨(by assumption), (by assumption), (by assumption), (by assumption), (by assumption), by assumption⟩) | (go_split_ands; exact ⟨kc (fr1 _ _) (by assumption), kc (fr1 _ _) (by assumption), kc (fr1 _ _) (by assumption), kc (fr1 _ _) (by assumption), kc (fr1 _ _) (by assumption), kfa (by assumption)⟩) | (go_split_ands; exact ⟨kc (fr1d _ _) (by assumption), kc (fr1d _ _) (by assumption), kc (fr1d _ _) (by assumption), kc (fr1d _ _) (by assumption), kc (fr1d _ _) (by assumption), kfae (by assumption)⟩))
  clear hK K
  try simp only [Act.put, List.getElem_toArray, List.getElem_cons_succ, List.getElem_cons_zero, List.setIfInBounds_toArray, List.set_cons_zero, List.set_cons_succ]
  refine wpAnyH_take (i := 1) (v := (.bool false)) rfl (by kernel_rfl) (by kernel_rfl) (by kernel_rfl) (fun _ _ _ h => h) (Or.inl ⟨by kernel_rfl, fun w hSw => by first | (go_simp; done) | (go_simp; with_reducible rfl) | (go_simp; omega)⟩) (by assumption) ?_
  try simp only [Act.put, List.getElem_toArray, List.getElem_cons_succ, List.getElem_cons_zero, List.setIfInBounds_toArray, List.set_cons_zero, List.set_cons_succ]
  refine wpAnyH_take (i := 2) (v := (.bool false)) rfl (by kernel_rfl) (by kernel_rfl) (by kernel_rfl) (fun _ _ _ h => h) (Or.inl ⟨by kernel_rfl, fun w hSw => by first | (go_simp; done) | (go_simp; with_reducible rfl) | (go_simp; omega)⟩) (by assumption) ?_
  try simp only [Act.put, List.getElem_toArray, List.getElem_cons_succ, List.getElem_cons_zero, List.setIfInBounds_toArray, List.set_cons_zero, List.set_cons_succ]
  refine wpAnyH_take (i := 3) (v := ?v21) rfl (by kernel_rfl) (by kernel_rfl) (by kernel_rfl) (fun _ _ _ h => h) (Or.inl ⟨by kernel_rfl, ?y21⟩) (by assumption) ?_
  case y21 => (intro w hSw; (try dsimp only at hSw); go_simp; all_goals with_reducible rfl)
  try simp only [Act.put, List.getElem_toArray, List.getElem_cons_succ, List.getElem_cons_zero, List.setIfInBounds_toArray, List.set_cons_zero, List.set_cons_succ]
  refine wpAnyH_take (i := 4) (v := ?v22) rfl (by kernel_rfl) (by kernel_rfl) (by kernel_rfl) (fun _ _ _ h => h) (Or.inl ⟨by kernel_rfl, ?y22⟩) (by assumption) ?_
  case y22 => (intro w hSw; (try dsimp only at hSw); go_simp; all_goals with_reducible rfl)
  try simp only [Act.put, List.getElem_toArray, List.getElem_cons_succ, List.getElem_cons_zero, List.setIfInBounds_toArray, List.set_cons_zero, List.set_cons_succ]
  refine wpAnyH_take (i := 6) (v := ?v23) rfl (by kernel_rfl) (by kernel_rfl) (by kernel_rfl) (fun _ _ _ h => h) (Or.inl ⟨by kernel_rfl, ?y23⟩) (by assumption) ?_
  case y23 => (intro w hSw; (try dsimp only at hSw); go_simp; all_goals with_reducible rfl)
  try simp only [Act.put, List.getElem_toArray, List.getElem_cons_succ, List.getElem_cons_zero, List.setIfInBounds_toArray, List.set_cons_zero, List.set_cons_succ]
  refine wpAnyH_take (i := 7) (v := ?v24) rfl (by kernel_rfl) (by kernel_rfl) (by kernel_rfl) (fun _ _ _ h => h) (Or.inl ⟨by kernel_rfl, ?y24⟩) (by assumption) ?_
  case y24 => (intro w hSw; (try dsimp only at hSw); go_simp; all_goals with_reducible rfl)
  try simp only [Act.put, List.getElem_toArray, List.getElem_cons_succ, List.getElem_cons_zero, List.setIfInBounds_toArray, List.set_cons_zero, List.set_cons_succ]
  refine wpAnyH_ready (rs := [5]) (by kernel_rfl) (by simp) (AllReadyH.cons rfl (fun K hK => ?_) AllReadyH.nil)
  go_simp
  go_at_call 19
  refine (HVM.out _ (PgB.RdX.fr HX.out (HF.out.trans hHeld.2.2.2.2.2.out))).mono ?_
  rintro e W1 ⟨rfl, f⟩
  have FW := kf f hHeld.2.2.2.2.2
  dsimp only
  refine hK.out _ _ ?_ (fun hHeld => ?_)
  · (try dsimp only); (first | (go_split_ands; exact ⟨kc f (by assumption), kc f (by assumption), kc f (by assumption), kc f (by assumption), kc f (by assumption), by assumption⟩) | (go_split_ands; exact ⟨(by assumption), (by assumption), (by assumption), (by assumption), (by assumption), by assumption⟩) | (go_split_ands; exact ⟨kc (fr1 _ _) (by assumption), kc (fr1 _ _) (by assumption), kc (fr1 _ _) (by assumption), kc (fr1 _ _) (by assumption), kc (fr1 _ _) (by assumption), kfa (by assumption)⟩) | (go_split_ands; exact ⟨kc (fr1d _ _) (by assumption), kc (fr1d _ _) (by assumption), kc (fr1d _ _) (by assumption), kc (fr1d _ _) (by assumption), kc (fr1d _ _) (by assumption), kfae (by assumption)⟩))
  clear hK K
  try simp only [Act.put, List.getElem_toArray, List.getElem_cons_succ, List.getElem_cons_zero, List.setIfInBounds_toArray, List.set_cons_zero, List.set_cons_succ]
  refine wpAnyH_ready (rs := [8]) (by kernel_rfl) (by simp) (AllReadyH.cons rfl (fun K hK => ?_) AllReadyH.nil)
  go_simp
  go_at_call 20
  refine (HMY.out _ (PgB.RdX.fr HX.out (HF.out.trans hHeld.2.2.2.2.2.out))).mono ?_
  rintro e W1 ⟨rfl, f⟩
  have FW := kf f hHeld.2.2.2.2.2
  dsimp only
  refine hK.out _ _ ?_ (fun hHeld => ?_)
  · (try dsimp only); (first | (go_split_ands; exact ⟨kc f (by assumption), kc f (by assumption), kc f (by assumption), kc f (by assumption), kc f (by assumption), by assumption⟩) | (go_split_ands; exact ⟨(by assumption), (by assumption), (by assumption), (by assumption), (by assumption), by assumption⟩) | (go_split_ands; exact ⟨kc (fr1 _ _) (by assumption), kc (fr1 _ _) (by assumption), kc (fr1 _ _) (by assumption), kc (fr1 _ _) (by assumption), kc (fr1 _ _) (by assumption), kfa (by assumption)⟩) | (go_split_ands; exact ⟨kc (fr1d _ _) (by assumption), kc (fr1d _ _) (by assumption), kc (fr1d _ _) (by assumption), kc (fr1d _ _) (by assumption), kc (fr1d _ _) (by assumption), kfae (by assumption)⟩))
  clear hK K
  try simp only [Act.put, List.getElem_toArray, List.getElem_cons_succ, List.getElem_cons_zero, List.setIfInBounds_toArray, List.set_cons_zero, List.set_cons_succ]
  refine wpAnyH_take (i := 9) (v := (.bool false)) rfl (by kernel_rfl) (by kernel_rfl) (by kernel_rfl) (fun _ _ _ h => h) (Or.inl ⟨by kernel_rfl, fun w hSw => by first | (go_simp; done) | (go_simp; with_reducible rfl) | (go_simp; omega)⟩) (by assumption) ?_
  try simp only [Act.put, List.getElem_toArray, List.getElem_cons_succ, List.getElem_cons_zero, List.setIfInBounds_toArray, List.set_cons_zero, List.set_cons_succ]
  refine wpAnyH_take (i := 10) (v := (.bool false)) rfl (by kernel_rfl) (by kernel_rfl) (by kernel_rfl) (fun _ _ _ h => h) (Or.inl ⟨by kernel_rfl, fun w hSw => by first | (go_simp; done) | (go_simp; with_reducible rfl) | (go_simp; omega)⟩) (by assumption) ?_
  try simp only [Act.put, List.getElem_toArray, List.getElem_cons_succ, List.getElem_cons_zero, List.setIfInBounds_toArray, List.set_cons_zero, List.set_cons_succ]
  refine wpAnyH_take (i := 11) (v := (.bool false)) rfl (by kernel_rfl) (by kernel_rfl) (by kernel_rfl) (fun _ _ _ h => h) (Or.inl ⟨by kernel_rfl, fun w hSw => by first | (go_simp; done) | (go_simp; with_reducible rfl) | (go_simp; omega)⟩) (by assumption) ?_
  try simp only [Act.put, List.getElem_toArray, List.getElem_cons_succ, List.getElem_cons_zero, List.setIfInBounds_toArray, List.set_cons_zero, List.set_cons_succ]
  refine wpAnyH_take (i := 12) (v := ?v25) rfl (by kernel_rfl) (by kernel_rfl) (by kernel_rfl) (fun _ _ _ h => h) (Or.inl ⟨by kernel_rfl, ?y25⟩) (by assumption) ?_
  case y25 => (intro w hSw; (try dsimp only at hSw); go_simp; all_goals with_reducible rfl)
  try simp only [Act.put, List.getElem_toArray, List.getElem_cons_succ, List.getElem_cons_zero, List.setIfInBounds_toArray, List.set_cons_zero, List.set_cons_succ]
  refine wpAnyH_take (i := 13) (v := ?v26) rfl (by kernel_rfl) (by kernel_rfl) (by kernel_rfl) (fun _ _ _ h => h) (Or.inl ⟨by kernel_rfl, ?y26⟩) (by assumption) ?_
  case y26 => (intro w hSw; (try dsimp only at hSw); go_simp; all_goals with_reducible rfl)
  try simp only [Act.put, List.getElem_toArray, List.getElem_cons_succ, List.getElem_cons_zero, List.setIfInBounds_toArray, List.set_cons_zero, List.set_cons_succ]
  refine wpAnyH_take (i := 14) (v := (.bool false)) rfl (by kernel_rfl) (by kernel_rfl) (by kernel_rfl) (fun _ _ _ h => h) (Or.inl ⟨by kernel_rfl, fun w hSw => by first | (go_simp; done) | (go_simp; with_reducible rfl) | (go_simp; omega)⟩) (by assumption) ?_
  try simp only [Act.put, List.getElem_toArray, List.getElem_cons_succ, List.getElem_cons_zero, List.setIfInBounds_toArray, List.set_cons_zero, List.set_cons_succ]
  refine wpAnyH_take (i := 15) (v := (.bool false)) rfl (by kernel_rfl) (by kernel_rfl) (by kernel_rfl) (fun _ _ _ h => h) (Or.inl ⟨by kernel_rfl, fun w hSw => by first | (go_simp; done) | (go_simp; with_reducible rfl) | (go_simp; omega)⟩) (by assumption) ?_
  try simp only [Act.put, List.getElem_toArray, List.getElem_cons_succ, List.getElem_cons_zero, List.setIfInBounds_toArray, List.set_cons_zero, List.set_cons_succ]
  refine wpAnyH_done (by kernel_rfl) ?_ _
  refine NoPanic.normal ?_
  have f := (hHeld.2.2.2.2.2).out
  clear hHeld FW
  replace HF := hid (HF.out.trans f); replace P0 := hid (BG.fr P0.out f); (try replace HA5 := hid (PgB.RdX.fr HA5.out f)); (try replace HB0 := hid (PlA.RdI.fr HB0.out f)); (try replace HR1 := hid (PlA.RdI.fr HR1.out f)); clear f; clear p0 p1 p2 p3 p4; obtain ⟨p0, p1, p2, p3, p4⟩ := BG.cells P0.out
  go_upto_region 9 with (first | (go_at_call 21; refine (HLY.out _).mono ?_; rintro e wn ⟨y1, y2, y3, y4, y5, y6, y7, y8, rfl, f⟩; replace HF := hid (HF.out.trans f); replace P0 := hid (BG.fr P0.out f); (try replace HA5 := hid (PgB.RdX.fr HA5.out f)); (try replace HB0 := hid (PlA.RdI.fr HB0.out f)); (try replace HR1 := hid (PlA.RdI.fr HR1.out f)); clear f; clear p0 p1 p2 p3 p4; obtain ⟨p0, p1, p2, p3, p4⟩ := BG.cells P0.out))
  obtain ⟨v3, hv3⟩ : ∃ zz, wn.alloc (.cells #[.int .i64 y1, .int .i64 y2, .int .i64 y3, .int .i64 y4, .int .i64 y5, .int .i64 y6, .int .i64 y7, .int .i64 y8] 32) = zz := ⟨_, rfl⟩
  have f : Fr No wn v3 := by rw [← hv3]; exact fr1 _ _
  try rw [show wn.alloc (Obj.cells #[.int .i64 y1, .int .i64 y2, .int .i64 y3, .int .i64 y4, .int .i64 y5, .int .i64 y6, .int .i64 y7, .int .i64 y8] 32) = v3 from hv3]
  replace HF := hid (HF.out.trans f); replace P0 := hid (BG.fr P0.out f); (try replace HA5 := hid (PgB.RdX.fr HA5.out f)); (try replace HB0 := hid (PlA.RdI.fr HB0.out f)); (try replace HR1 := hid (PlA.RdI.fr HR1.out f)); clear f; clear p0 p1 p2 p3 p4; obtain ⟨p0, p1, p2, p3, p4⟩ := BG.cells P0.out
  clear hv3
  go_upto_region 15 with (first | (go_at_call 20; refine (HMY.out _ (PgB.RdX.fr HX.out HF.out)).mono ?_; rintro e wn ⟨rfl, f⟩; replace HF := hid (HF.out.trans f); replace P0 := hid (BG.fr P0.out f); (try replace HA5 := hid (PgB.RdX.fr HA5.out f)); (try replace HB0 := hid (PlA.RdI.fr HB0.out f)); (try replace HR1 := hid (PlA.RdI.fr HR1.out f)); clear f; clear p0 p1 p2 p3 p4; obtain ⟨p0, p1, p2, p3, p4⟩ := BG.cells P0.out) | (go_at_call 23; refine (HRB.out _ (PgB.RdX.fr HX.out HF.out)).mono ?_; rintro e wn ⟨A8, c8, rfl, hrd, f⟩; replace HF := hid (HF.out.trans f); replace P0 := hid (BG.fr P0.out f); (try replace HA5 := hid (PgB.RdX.fr HA5.out f)); (try replace HB0 := hid (PlA.RdI.fr HB0.out f)); (try replace HR1 := hid (PlA.RdI.fr HR1.out f)); clear f; clear p0 p1 p2 p3 p4; obtain ⟨p0, p1, p2, p3, p4⟩ := BG.cells P0.out; have HB1 := hid (PlA.OutI.rd rfl hrd); clear hrd) | (go_at_call 22; refine (same_ok A6 A8 _ _ _ _ B _ HB0.out HB1.out (by have := HBL.out; omega)).mono ?_; rintro e wn ⟨rfl, f⟩; replace HF := hid (HF.out.trans f); replace P0 := hid (BG.fr P0.out f); (try replace HA5 := hid (PgB.RdX.fr HA5.out f)); (try replace HB0 := hid (PlA.RdI.fr HB0.out f)); (try replace HR1 := hid (PlA.RdI.fr HR1.out f)); clear f; clear p0 p1 p2 p3 p4; obtain ⟨p0, p1, p2, p3, p4⟩ := BG.cells P0.out))
  have HFW := hid (Fr.refl No wn)
  go_wp2
  go_loopw [12] (fun a wr => ∃ i : Nat, a = .int .i64 i ∧ i ≤ N ∧ Fr No wn wr) (fun a _ => N - (intOf a).toNat)
  case atStart => exact ⟨0, rfl, by omega, Fr.refl _ _⟩
  case round =>
    obtain ⟨i, rfl, hi, hfi⟩ := hrel
    clear p0 p1 p2 p3 p4
    have hp := P0.out.fr hfi
    obtain ⟨p0, p1, p2, p3, p4⟩ := BG.cells hp
    have HFI := hid hfi
    have HFR := hid (HF.out.trans hfi)
    by_cases hit : i < N
    case neg =>
      obtain rfl : i = N := by omega
      clear hfi hp
      go_wp2
      go_ret
      exact ⟨rfl, HFR.out⟩
    obtain ⟨g2, o2, he, _, hc⟩ := PlA.RdI.at_ (PlA.RdI.fr HR1.out hfi) (by omega)
    cases he
    have y1 := hc i _ (VaF.rowC_get xs gc N N i hit)
    rw [if_pos hit, Nat.zero_add] at y1
    have hiz : (i : Int) < (N : Int) := by omega
    have hwi : wrap64 ((i : Int) + 1) = (i : Int) + 1 := SpA.w64 _ (by have := HNN.out; omega)
    have hwi2 : IntKind.i64.wrap (gc + (i : Int)) = gc + (i : Int) := Go.IntWalk.i64_in _ (by have := HNN.out; omega)
    have hwi3 : wrap64 (gc + (i : Int)) = gc + (i : Int) := SpA.w64 _ (by have := HNN.out; omega)
    clear hc hfi hp p2 p3 p4
    go_upto_region 18 with fail
    have FW : Hid (Fr No wr wr) := hid (Fr.refl No _)
    have FW := kd FW
    refine wp_region_noPanic ?_
    refine wp_region_held_drew (S := (fun W' => W'.cell? ⟨G, 0, none⟩ = some (.int .i64 gc) ∧ W'.cell? ⟨g1, i, none⟩ = some (.int .i64 (cz xs (gc + (i : Int)))) ∧ Hid (Fr No wr W'))) (by kernel_rfl) ?_ (fun hHeld => ?_)
    · (try dsimp only); (first | (go_split_ands; exact ⟨kc f (by assumption), kc f (by assumption), by assumption⟩) | (go_split_ands; exact ⟨(by assumption), (by assumption), by assumption⟩) | (go_split_ands; exact ⟨kc (fr1 _ _) (by assumption), kc (fr1 _ _) (by assumption), kfa (by assumption)⟩) | (go_split_ands; exact ⟨kc (fr1d _ _) (by assumption), kc (fr1d _ _) (by assumption), kfae (by assumption)⟩))
    refine wpAnyH_take (i := 0) (v := ?v1) rfl (by kernel_rfl) (by kernel_rfl) (by kernel_rfl) (fun _ _ _ h => h) (Or.inl ⟨by kernel_rfl, ?y1⟩) (by assumption) ?_
    case y1 => (intro w hSw; (try dsimp only at hSw); go_simp; all_goals with_reducible rfl)
    try simp only [Act.put, List.getElem_toArray, List.getElem_cons_zero, List.setIfInBounds_toArray, List.set_cons_zero, List.set_cons_succ]
    refine wpAnyH_take (i := 1) (v := ?v2) rfl (by kernel_rfl) (by kernel_rfl) (by kernel_rfl) (fun _ _ _ h => h) (Or.inl ⟨by kernel_rfl, ?y2⟩) (by assumption) ?_
    case y2 => (intro w hSw; (try dsimp only at hSw); go_simp; all_goals with_reducible rfl)
    try simp only [Act.put, List.getElem_toArray, List.getElem_cons_succ, List.getElem_cons_zero, List.setIfInBounds_toArray, List.set_cons_zero, List.set_cons_succ]
    refine wpAnyH_take (i := 2) (v := ?v3) rfl (by kernel_rfl) (by kernel_rfl) (by kernel_rfl) (fun _ _ _ h => h) (Or.inl ⟨by kernel_rfl, ?y3⟩) (by assumption) ?_
    case y3 => (intro w hSw; (try dsimp only at hSw); go_simp; all_goals with_reducible rfl)
    try simp only [Act.put, List.getElem_toArray, List.getElem_cons_succ, List.getElem_cons_zero, List.setIfInBounds_toArray, List.set_cons_zero, List.set_cons_succ]
    refine wpAnyH_take (i := 3) (v := ?v4) rfl (by kernel_rfl) (by kernel_rfl) (by kernel_rfl) (fun _ _ _ h => h) (Or.inl ⟨by kernel_rfl, ?y4⟩) (by assumption) ?_
    case y4 => (intro w hSw; (try dsimp only at hSw); go_simp; all_goals with_reducible rfl)
    try simp only [Act.put, List.getElem_toArray, List.getElem_cons_succ, List.getElem_cons_zero, List.setIfInBounds_toArray, List.set_cons_zero, List.set_cons_succ]
    refine wpAnyH_take (i := 4) (v := ?v5) rfl (by kernel_rfl) (by kernel_rfl) (by kernel_rfl) (fun _ _ _ h => h) (Or.inl ⟨by kernel_rfl, ?y5⟩) (by assumption) ?_
    case y5 => (intro w hSw; (try dsimp only at hSw); go_simp; all_goals with_reducible rfl)
    try simp only [Act.put, List.getElem_toArray, List.getElem_cons_succ, List.getElem_cons_zero, List.setIfInBounds_toArray, List.set_cons_zero, List.set_cons_succ]
    refine wpAnyH_take (i := 5) (v := ?v6) rfl (by kernel_rfl) (by kernel_rfl) (by kernel_rfl) (fun _ _ _ h => h) (Or.inl ⟨by kernel_rfl, ?y6⟩) (by assumption) ?_
    case y6 => (intro w hSw; (try dsimp only at hSw); go_simp; all_goals with_reducible rfl)
    try simp only [Act.put, List.getElem_toArray, List.getElem_cons_succ, List.getElem_cons_zero, List.setIfInBounds_toArray, List.set_cons_zero, List.set_cons_succ]
    refine wpAnyH_take (i := 6) (v := ?v7) rfl (by kernel_rfl) (by kernel_rfl) (by kernel_rfl) (fun _ _ _ h => h) (Or.inl ⟨by kernel_rfl, ?y7⟩) (by assumption) ?_
    case y7 => (intro w hSw; (try dsimp only at hSw); go_simp; all_goals with_reducible rfl)
    try simp only [Act.put, List.getElem_toArray, List.getElem_cons_succ, List.getElem_cons_zero, List.setIfInBounds_toArray, List.set_cons_zero, List.set_cons_succ]
    refine wpAnyH_take (i := 7) (v := ?v8) rfl (by kernel_rfl) (by kernel_rfl) (by kernel_rfl) (fun _ _ _ h => h) (Or.inl ⟨by kernel_rfl, ?y8⟩) (by assumption) ?_
    case y8 => (intro w hSw; (try dsimp only at hSw); go_simp; all_goals with_reducible rfl)
    try simp only [Act.put, List.getElem_toArray, List.getElem_cons_succ, List.getElem_cons_zero, List.setIfInBounds_toArray, List.set_cons_zero, List.set_cons_succ]
    refine wpAnyH_take (i := 8) (v := (.int .i64 (gc + (i : Int)))) rfl (by kernel_rfl) (by kernel_rfl) (by kernel_rfl) (fun _ _ _ h => h) (Or.inl ⟨by kernel_rfl, fun w hSw => by go_simp; first | done | exact congrArg (fun t => Value.int .i64 t) hwi2 | rw [hwi2]⟩) (by assumption) ?_
    try simp only [Act.put, List.getElem_toArray, List.getElem_cons_succ, List.getElem_cons_zero, List.setIfInBounds_toArray, List.set_cons_zero, List.set_cons_succ]
    refine wpAnyH_ready (rs := [9]) (by kernel_rfl) (by simp) (AllReadyH.cons rfl (fun K hK => ?_) AllReadyH.nil)
    go_simp
    go_at_call 24
    refine (cnt_fr A l c xs _ _ HL.out (PgB.RdX.fr HX.out (HFR.out.trans hHeld.2.2.out)) HMM.out).mono ?_
    rintro e W1 ⟨rfl, f⟩
    have FW := kf f hHeld.2.2
    dsimp only
    refine hK.out _ _ ?_ (fun hHeld => ?_)
    · (try dsimp only); (first | (go_split_ands; exact ⟨kc f (by assumption), kc f (by assumption), by assumption⟩) | (go_split_ands; exact ⟨(by assumption), (by assumption), by assumption⟩) | (go_split_ands; exact ⟨kc (fr1 _ _) (by assumption), kc (fr1 _ _) (by assumption), kfa (by assumption)⟩) | (go_split_ands; exact ⟨kc (fr1d _ _) (by assumption), kc (fr1d _ _) (by assumption), kfae (by assumption)⟩))
    clear hK K
    try simp only [Act.put, List.getElem_toArray, List.getElem_cons_succ, List.getElem_cons_zero, List.setIfInBounds_toArray, List.set_cons_zero, List.set_cons_succ]
    refine wpAnyH_take (i := 10) (v := (.bool false)) rfl (by kernel_rfl) (by kernel_rfl) (by kernel_rfl) (fun _ _ _ h => h) (Or.inl ⟨by kernel_rfl, fun w hSw => by first | (go_simp; done) | (go_simp; with_reducible rfl) | (go_simp; omega)⟩) (by assumption) ?_
    try simp only [Act.put, List.getElem_toArray, List.getElem_cons_succ, List.getElem_cons_zero, List.setIfInBounds_toArray, List.set_cons_zero, List.set_cons_succ]
    refine wpAnyH_done (by kernel_rfl) ?_ _
    refine NoPanic.normal ?_
    have FX := hHeld.2.2
    clear hHeld FW
    go_wp2
    go_roundw
    case rel => exact ⟨i + 1, by rw [hwi]; exact congrArg (Value.int .i64) (Int.natCast_add i 1).symm, Nat.succ_le_of_lt hit, HFI.out.trans FX.out⟩
    case measure => first | exact next_m _ _ hit hwi | (simp only [intOf]; omega)
theorem counts_w (gc gs gn gl gk : Int) (A : Option Addr) (l c : Nat) (xs : List Ex) (w : World) (hs : r64 gs) (hx : RdX w A l xs) (hw : ∀ x ∈ xs, exW x) (hlc : l ≤ c) (hcm : c ≤ maxLen) :
    Calls Try.prog 3 #[gv gc gs gn gl gk, .slice A l c] w fun e w' => e = .returned (.bool true) ∧ Fr No w w' := by
  have hl0 := Nat.le_trans hlc hcm
  by_cases hf : l ≤ 60 ∧ gn ≤ 64 ∧ gs ≤ 20
  · by_cases hm : mayG ⟨gc, gs, gn, gl, gk⟩
    · by_cases hb : ckE ⟨gc, gs, gn, gl, gk⟩ xs = 0
      · exact counts_good gc gs gn gl gk A l c xs w hs hl0 hx hw hf hb
      · exact counts_bad gc gs gn gl gk A l c xs w hs hl0 hx hw hf hm hb
    · exact counts_geom gc gs gn gl gk A l c xs w hs hl0 hx hw hf hm
  · exact counts_far gc gs gn gl gk A l c xs w hs hl0 hx hw hf
end Go.Proofs.Ytkkbgbpmpcoffaa.VaY
