import Derived.Test.YtllolilpchmkiaaDoorHfD
import Derived.Test.YtllolilpchmkiaaDoorBtHo
import Derived.Test.YtllolilpchmkiaaDoorCrcA
import Derived.Test.YtllolilpchmkiaaDoorTie
import Derived.Test.YtllolilpchmkiaaDoorCards
import Derived.LaidMore
import Derived.SevenTiedAt
import Derived.Stop.Joined
import Derived.MakeChecks
import Derived.Test.YtllolilpchmkiaaDoorFrameB
import Derived.Test.YtllolilpchmkiaaDoorSpO
import Derived.Test.YtllolilpchmkiaaDoorBtA
import Derived.Test.YtllolilpchmkiaaDoorSpA
/- The law BatchHoles: where the first number is within its bounds. Conditions: the table of sums is as its text lays it; the slice reads as spans; all numbers are 64 bits. -/
namespace Go.Proofs.YtllolilpchmkiaaDoor.BtHk
open Go.RowKit MSep MSepC MSpM MGeM MFrame Kit BtA SpO BtQ BtR BtS BtHm BtHo BtT BtHl CrcA
open BtM (Ba mayB spsOk spsOk_may)
open SpA (wf w64 wf_may)
open GeA (bg BG ld_geom)
open BtC (brsame_ok)
open BtD (may_ok)

theorem gps_spans {g : Ge} {xs : List Sp} (hm : mayG g) (hok : ∀ s ∈ xs, cko g s.1 s.2 = 0) : ∀ y ∈ gps xs, spsOk g y := BtX.gps_ok hok (okp_all hm hok)
theorem row_rd {B : Nat} {w : World} {A : Option Addr} {n c : Nat} {seq : Int} {gs : List (List Sp)} {vs : List SV} (h : HR B w gs (.slice A n c) seq vs) (hn : gs.length = n) : Rd w A (n * 3) (hbs seq 0 vs) := own_rd3 h.row (by rw [h.len, hn])

set_option maxRecDepth 100000 in
set_option maxHeartbeats 8000000 in
theorem law_bad (gc gs gn gl gk seq : Int) (A : Option Addr) (l c : Nat) (xs : List Sp) (w : World) (hs : r64 gs) (hq : r64 seq) (hx : RdS w A l xs) (hw : ∀ s ∈ xs, wf s) (hT : TabAt w) (hl : l ≤ 100) (hm : mayG ⟨gc, gs, gn, gl, gk⟩) (hok : ∀ s ∈ xs, cko ⟨gc, gs, gn, gl, gk⟩ s.1 s.2 = 0) (hqs : 1 ≤ seq ∧ seq ≤ 1099511627776) (hbd : badS seq (gps xs).length) :
    Calls Tryd.prog 5 #[.agg #[.int .i64 gc, .int .i64 gs, .int .i64 gn, .int .i64 gl, .int .i64 gk], .int .i64 seq, .slice A l c] w fun e w' => e = .returned (.bool true) ∧ Fr No w w' := by
  obtain ⟨G, hG⟩ : ∃ G, w.heap.size = G := ⟨_, rfl⟩
  obtain ⟨w1, hw1⟩ : ∃ w1, w.alloc (bg gc gs gn gl gk) = w1 := ⟨_, rfl⟩
  have FG := hid (show Fr No w w1 by rw [← hw1]; exact fr1 _ _)
  have P0 := hid (show BG w1 G gc gs gn gl gk by rw [← hw1, ← hG]; exact BG.new w gc gs gn gl gk)
  have HS := hid hs
  have HX := hid hx
  have HXL := hid hx.1
  have HW := hid hw
  have HT := hid hT
  have HW1 := hid hw1
  have HL := hid hl
  have hlb : decide ((100 : Int) < (l : Int)) = false := decide_eq_false (by omega)
  have HM := hid hm
  have HOK := hid hok
  have HQ := hid hq
  have HOP := hid (okp_all hm hok)
  have HBD := hid hbd
  have HQS := hid hqs
  obtain ⟨m, hgm⟩ : ∃ m, (gps xs).length = m := ⟨_, rfl⟩
  have HGM := hid hgm
  have HM5 := hid (show m ≤ 5100 by rw [← hgm]; exact gps_le (okp_all hm hok) (by rw [hx.1]; exact hl))
  have HMB := hid (show 0 < m ∧ 1099511627776 < seq + m - 1 by rw [← hgm]; have h1 := hbd.1; have h2 := hbd.2; omega)
  clear hm hok hq hbd hqs hgm
  clear hs hx hw hT hw1 hl
  go_enter Tryd.func5, Tryd.ntmps5
  go_upto_region 1 with fail
  try rw [show w.alloc (Obj.cells #[.int .i64 gc, .int .i64 gs, .int .i64 gn, .int .i64 gl, .int .i64 gk] 23) = w1 from HW1.out]
  try rw [hG]
  go_upto_region 9 with (first | ((with_reducible refine ld_geom rfl (.tmp 3) rfl G ?_ P0.out ?_); · rfl) | (go_at_call 20; refine (hol_bad gc gs gn gl gk seq A l c xs _ HS.out HM.out HL.out (HX.out.fr FG.out) HW.out HQ.out HOK.out HBD.out).mono ?_; rintro e w2 ⟨rfl, f2⟩; replace FG := hid (FG.out.trans f2); replace P0 := hid (BG.fr P0.out f2); clear f2) | (go_at_call 6; refine (lives_ok _ (HT.out.fr FG.out (fun h => h))).mono ?_; rintro e wl ⟨rfl, fl⟩; replace FG := hid (FG.out.trans fl); replace P0 := hid (BG.fr P0.out fl); clear fl) | (go_at_call 10; refine (rlay_yes gc gs gn gl gk _ HS.out HM.out).mono ?_; rintro e wy ⟨⟨y1, y2, y3, y4, y5, y6, y7, y8, rfl⟩, fy⟩; replace FG := hid (FG.out.trans fy); replace P0 := hid (BG.fr P0.out fy); clear fy))
  go_wp2
  have FG := hid (FG.out.alloc (.cells #[.int .i64 y1, .int .i64 y2, .int .i64 y3, .int .i64 y4, .int .i64 y5, .int .i64 y6, .int .i64 y7, .int .i64 y8] 34))
  have P0 := hid (BG.fr P0.out (fr1 wy (.cells #[.int .i64 y1, .int .i64 y2, .int .i64 y3, .int .i64 y4, .int .i64 y5, .int .i64 y6, .int .i64 y7, .int .i64 y8] 34)))
  obtain ⟨wb, hwb⟩ : ∃ wb, wy.alloc (.cells #[.int .i64 y1, .int .i64 y2, .int .i64 y3, .int .i64 y4, .int .i64 y5, .int .i64 y6, .int .i64 y7, .int .i64 y8] 34) = wb := ⟨_, rfl⟩
  rw [hwb] at FG P0
  try rw [hwb]
  clear hwb
  go_loopw [11] (fun i wr => LC gc gs gn gl gk xs l wb i wr) (fun i _ => l - (intOf i).toNat)
  case atStart => exact ⟨0, by omega, rfl, by simp, Fr.refl _ _⟩
  case round =>
    obtain ⟨k, hk, rfl, hall, hf⟩ := hrel
    by_cases hlt : k < l
    · obtain ⟨⟨a, n⟩, hxk⟩ : ∃ x, xs[k]? = some x := ⟨_, List.getElem?_eq_getElem (by rw [HXL.out]; exact hlt)⟩
      have HXK := hid hxk
      have HWK := hid (HW.out _ (List.mem_of_getElem? hxk))
      obtain ⟨gx, ox, rfl, _, hc⟩ := (HX.out.fr (FG.out.trans hf)).at_ (by omega)
      obtain ⟨e0, e1⟩ := hc k _ hxk
      simp only [] at e0 e1
      have hlt3 : (k : Int) < l := by omega
      have h0k : (0 : Int) ≤ k := by omega
      have hw1 : wrap64 ((k : Int) + 1) = (k : Int) + 1 := by have := HL.out; exact w64 _ (by omega)
      obtain ⟨g0, g1, g2, g3, g4⟩ := (BG.fr P0.out hf).cells
      have HF := hid hf
      have HALL := hid hall
      obtain ⟨E0, hE0⟩ : ∃ E0, cko ⟨gc, gs, gn, gl, gk⟩ a n = E0 := ⟨_, rfl⟩
      have HCK := hid hE0
      clear hc hxk hf hall hE0
      go_upto_region 12 with fail
      have FW := hid (Fr.refl No wr)
      by_cases hc0 : E0 = 0
      · subst hc0
        have HNX := hid (show ∀ s ∈ xs.take (k + 1), cko ⟨gc, gs, gn, gl, gk⟩ s.1 s.2 = 0 from fun s hs => by
          rw [BtA.take_snoc HXK.out, List.mem_append] at hs
          rcases hs with hs | hs
          · exact HALL.out s hs
          · simp only [List.mem_singleton] at hs
            subst hs
            exact HCK.out)
        have FW := kd FW
        refine wp_region_noPanic ?_
        refine wp_region_held_drew (S := (fun W' => W'.cell? ⟨G, 0, none⟩ = some (.int .i64 gc) ∧ W'.cell? ⟨G, 1, none⟩ = some (.int .i64 gs) ∧ W'.cell? ⟨G, 2, none⟩ = some (.int .i64 gn) ∧ W'.cell? ⟨G, 3, none⟩ = some (.int .i64 gl) ∧ W'.cell? ⟨G, 4, none⟩ = some (.int .i64 gk) ∧ W'.cell? ⟨gx, ox + k * 2, none⟩ = some (.int .i64 a) ∧ W'.cell? ⟨gx, ox + k * 2 + 1, none⟩ = some (.int .i64 n) ∧ Hid (Fr No wr W'))) (by kernel_rfl) ?_ (fun hHeld => ?_)
        · (try dsimp only); (first | (go_split_ands; exact ⟨kc f (by assumption), kc f (by assumption), kc f (by assumption), kc f (by assumption), kc f (by assumption), kc f (by assumption), kc f (by assumption), by assumption⟩) | (go_split_ands; exact ⟨(by assumption), (by assumption), (by assumption), (by assumption), (by assumption), (by assumption), (by assumption), by assumption⟩) | (go_split_ands; exact ⟨kc (fr1 _ _) (by assumption), kc (fr1 _ _) (by assumption), kc (fr1 _ _) (by assumption), kc (fr1 _ _) (by assumption), kc (fr1 _ _) (by assumption), kc (fr1 _ _) (by assumption), kc (fr1 _ _) (by assumption), kfa (by assumption)⟩))
        refine wpAnyH_take (i := 0) (v := ?v1) rfl (by kernel_rfl) (by kernel_rfl) (by kernel_rfl) (fun _ _ _ h => h) (Or.inl ⟨by kernel_rfl, ?y1⟩) (by assumption) ?_
        case y1 => (intro w hSw; (try dsimp only at hSw); go_simp; all_goals with_reducible rfl)
        try simp only [Act.put, List.getElem_toArray, List.getElem_cons_zero, List.setIfInBounds_toArray, List.set_cons_zero, List.set_cons_succ]
        refine wpAnyH_take (i := 1) (v := ?v2) rfl (by kernel_rfl) (by kernel_rfl) (by kernel_rfl) (fun _ _ _ h => h) (Or.inl ⟨by kernel_rfl, ?y2⟩) (by assumption) ?_
        case y2 => (intro w hSw; (try dsimp only at hSw); go_simp; all_goals with_reducible rfl)
        try simp only [Act.put, List.getElem_toArray, List.getElem_cons_succ, List.getElem_cons_zero, List.setIfInBounds_toArray, List.set_cons_zero, List.set_cons_succ]
        refine wpAnyH_take (i := 2) (v := ?v3) rfl (by kernel_rfl) (by kernel_rfl) (by kernel_rfl) (fun _ _ _ h => h) (Or.inl ⟨by kernel_rfl, ?y3⟩) (by assumption) ?_
        case y3 => (intro w hSw; (try dsimp only at hSw); go_simp; all_goals with_reducible rfl)
        try simp only [Act.put, List.getElem_toArray, List.getElem_cons_succ, List.getElem_cons_zero, List.setIfInBounds_toArray, List.set_cons_zero, List.set_cons_succ]
        refine wpAnyH_take (i := 3) (v := ?v4) rfl (by kernel_rfl) (by kernel_rfl) (by kernel_rfl) (fun _ _ _ h => h) (Or.inl ⟨by kernel_rfl, ?y4⟩) (by assumption) ?_
        case y4 => (intro w hSw; (try dsimp only at hSw); go_simp; all_goals with_reducible rfl)
        try simp only [Act.put, List.getElem_toArray, List.getElem_cons_succ, List.getElem_cons_zero, List.setIfInBounds_toArray, List.set_cons_zero, List.set_cons_succ]
        refine wpAnyH_take (i := 4) (v := ?v5) rfl (by kernel_rfl) (by kernel_rfl) (by kernel_rfl) (fun _ _ _ h => h) (Or.inl ⟨by kernel_rfl, ?y5⟩) (by assumption) ?_
        case y5 => (intro w hSw; (try dsimp only at hSw); go_simp; all_goals with_reducible rfl)
        try simp only [Act.put, List.getElem_toArray, List.getElem_cons_succ, List.getElem_cons_zero, List.setIfInBounds_toArray, List.set_cons_zero, List.set_cons_succ]
        refine wpAnyH_ready (rs := [5]) (by kernel_rfl) (by simp) (AllReadyH.cons rfl (fun K hK => ?_) AllReadyH.nil)
        go_simp
        go_at_call 21
        refine (GeF.rcheck_ok gc gs gn gl gk a n _ HS.out HWK.out).mono ?_
        rintro e W1 ⟨rfl, f⟩
        have FW := kf f hHeld.2.2.2.2.2.2.2
        rw [HCK.out]
        dsimp only
        refine hK.out _ _ ?_ (fun hHeld => ?_)
        · (try dsimp only); (first | (go_split_ands; exact ⟨kc f (by assumption), kc f (by assumption), kc f (by assumption), kc f (by assumption), kc f (by assumption), kc f (by assumption), kc f (by assumption), by assumption⟩) | (go_split_ands; exact ⟨(by assumption), (by assumption), (by assumption), (by assumption), (by assumption), (by assumption), (by assumption), by assumption⟩) | (go_split_ands; exact ⟨kc (fr1 _ _) (by assumption), kc (fr1 _ _) (by assumption), kc (fr1 _ _) (by assumption), kc (fr1 _ _) (by assumption), kc (fr1 _ _) (by assumption), kc (fr1 _ _) (by assumption), kc (fr1 _ _) (by assumption), kfa (by assumption)⟩))
        clear hK K
        try simp only [Act.put, List.getElem_toArray, List.getElem_cons_succ, List.getElem_cons_zero, List.setIfInBounds_toArray, List.set_cons_zero, List.set_cons_succ]
        refine wpAnyH_take (i := 6) (v := (.bool false)) rfl (by kernel_rfl) (by kernel_rfl) (by kernel_rfl) (fun _ _ _ h => h) (Or.inl ⟨by kernel_rfl, fun w hSw => by first | (go_simp; done) | (go_simp; with_reducible rfl) | (go_simp; omega)⟩) (by assumption) ?_
        try simp only [Act.put, List.getElem_toArray, List.getElem_cons_succ, List.getElem_cons_zero, List.setIfInBounds_toArray, List.set_cons_zero, List.set_cons_succ]
        refine wpAnyH_done (by kernel_rfl) ?_ _
        refine NoPanic.normal ?_
        have FX := hHeld.2.2.2.2.2.2.2
        clear hHeld
        go_wp2
        go_roundw
        case rel => (try refine ⟨_, ?_, rfl⟩); exact ⟨k + 1, by omega, by go_num, HNX.out, HF.out.trans FX.out⟩
        case measure => first | exact next_m _ _ hlt hw1 | exact next_p _ _ hlt
      · exact absurd (HCK.out.symm.trans (HOK.out _ (List.mem_of_getElem? HXK.out))) hc0
    · obtain rfl : k = l := by omega
      have hlk : ¬ (k : Int) < k := by omega
      have HFB := hid (FG.out.trans hf)
      have P1 := hid (BG.fr P0.out hf)
      obtain ⟨wc, hwc⟩ : ∃ wc : World, wc = wr := ⟨_, rfl⟩
      subst hwc
      clear hall hf
      have h1b : decide (seq < 1) = false := decide_eq_false (by have := HQS.out; omega)
      have h2b : decide (1099511627776 < seq) = false := decide_eq_false (by have := HQS.out; omega)
      go_upto_region 17 with (go_at_call 22; refine (rholes_ok seq A k c xs _ HL.out (HX.out.fr HFB.out) HOP.out HQS.out).mono ?_; rintro e w6 ⟨AB, cB, us, rfl, hrb, f6⟩; rw [HGM.out] at hrb ⊢; have HRB := hid (row_rd hrb HGM.out); have HRC := hid hrb; replace HFB := hid (HFB.out.trans f6); have HF6 := hid f6; replace P1 := hid (BG.fr P1.out f6); clear f6 hrb)
      obtain ⟨K, hK⟩ : ∃ K, m = K + 1 := ⟨m - 1, by have := HMB.out; omega⟩
      obtain ⟨u, hu⟩ : ∃ u, us[K]? = some u := ⟨_, List.getElem?_eq_getElem (by rw [HRC.out.len, HGM.out]; omega)⟩
      obtain ⟨gb, ob, rfl, c0, _, _⟩ := row_cells HRB.out hu (by omega)
      have hqK : wrap64 (seq + (K : Int)) = seq + K := w64 _ (by have := HQS.out; have := HM5.out; omega)
      rw [hqK] at c0
      have hmK : wrap64 ((m : Int) - 1) = (K : Int) := by rw [w64 _ (by have := HM5.out; omega)]; omega
      have hKm : (K : Int) < m := by omega
      have h0K : (0 : Int) ≤ K := by omega
      have h0m : (0 : Int) < (m : Int) := by omega
      have h0m2 : 0 < m := by omega
      have h0b : decide ((0 : Int) < (m : Int)) = true := decide_eq_true h0m
      have hgt : (1099511627776 : Int) < seq + K := by have := HMB.out; omega
      have hgb : decide ((1099511627776 : Int) < seq + K) = true := decide_eq_true hgt
      clear hK hu hqK
      go_wp2
      go_ret
      exact ⟨rfl, HFB.out⟩

def LD (m : Nat) (wb : World) (i : Value) (wr : World) : Prop := ∃ j : Nat, j ≤ m ∧ i = .int .i64 j ∧ Fr No wb wr

set_option maxRecDepth 100000 in
set_option maxHeartbeats 8000000 in
theorem law_good (gc gs gn gl gk seq : Int) (A : Option Addr) (l c : Nat) (xs : List Sp) (w : World) (hs : r64 gs) (hq : r64 seq) (hx : RdS w A l xs) (hw : ∀ s ∈ xs, wf s) (hT : TabAt w) (hl : l ≤ 100) (hm : mayG ⟨gc, gs, gn, gl, gk⟩) (hok : ∀ s ∈ xs, cko ⟨gc, gs, gn, gl, gk⟩ s.1 s.2 = 0) (hqs : 1 ≤ seq ∧ seq ≤ 1099511627776) (hne : 0 < l) (hnb : ¬ badS seq (gps xs).length) :
    Calls Tryd.prog 5 #[.agg #[.int .i64 gc, .int .i64 gs, .int .i64 gn, .int .i64 gl, .int .i64 gk], .int .i64 seq, .slice A l c] w fun e w' => e = .returned (.bool true) ∧ Fr No w w' := by
  obtain ⟨G, hG⟩ : ∃ G, w.heap.size = G := ⟨_, rfl⟩
  obtain ⟨w1, hw1⟩ : ∃ w1, w.alloc (bg gc gs gn gl gk) = w1 := ⟨_, rfl⟩
  have FG := hid (show Fr No w w1 by rw [← hw1]; exact fr1 _ _)
  have P0 := hid (show BG w1 G gc gs gn gl gk by rw [← hw1, ← hG]; exact BG.new w gc gs gn gl gk)
  have HS := hid hs
  have HX := hid hx
  have HXL := hid hx.1
  have HW := hid hw
  have HT := hid hT
  have HW1 := hid hw1
  have HL := hid hl
  have hlb : decide ((100 : Int) < (l : Int)) = false := decide_eq_false (by omega)
  have HM := hid hm
  have HOK := hid hok
  have HQ := hid hq
  have HOP := hid (okp_all hm hok)
  have HNB := hid hnb
  have HQS := hid hqs
  have HSP := hid (gps_spans hm hok)
  have HMM := hid (fun (q : Int) (h : 1 ≤ q ∧ q ≤ 1099511627776) => BtX.hole_may hm h hok (okp_all hm hok))
  obtain ⟨m, hgm⟩ : ∃ m, (gps xs).length = m := ⟨_, rfl⟩
  have HGM := hid hgm
  have HM5 := hid (show m ≤ 5100 by rw [← hgm]; exact gps_le (okp_all hm hok) (by rw [hx.1]; exact hl))
  have HMB := hid (show 0 < m ∧ seq + m - 1 ≤ 1099511627776 by
    have h1 := gps_ne (okp_all hm hok) (fun e => by rw [e] at hx; have := hx.1; simp at this; omega)
    rw [← hgm]
    refine ⟨h1, ?_⟩
    by_cases hc : seq + (gps xs).length - 1 ≤ 1099511627776
    · exact hc
    · exact absurd ⟨h1, Or.inr (by omega)⟩ hnb)
  clear hm hok hq hnb hqs hgm hne
  clear hs hx hw hT hw1 hl
  go_enter Tryd.func5, Tryd.ntmps5
  go_upto_region 1 with fail
  try rw [show w.alloc (Obj.cells #[.int .i64 gc, .int .i64 gs, .int .i64 gn, .int .i64 gl, .int .i64 gk] 23) = w1 from HW1.out]
  try rw [hG]
  go_upto_region 9 with (first | ((with_reducible refine ld_geom rfl (.tmp 3) rfl G ?_ P0.out ?_); · rfl) | (go_at_call 20; refine (hol_ok gc gs gn gl gk seq A l c xs _ HS.out HM.out HL.out (HX.out.fr FG.out) HW.out HQ.out HOK.out HNB.out).mono ?_; rintro e w2 ⟨AA, cA, vs, rfl, hra, hva, hca, f2⟩; rw [HGM.out] at hra hva ⊢; have HRA := hid hra; have HVA := hid hva; have HCA := hid hca; have HFA0 := hid (Fr.refl No w2); replace FG := hid (FG.out.trans f2); replace P0 := hid (BG.fr P0.out f2); clear f2 hra hva hca) | (go_at_call 6; refine (lives_ok _ (HT.out.fr FG.out (fun h => h))).mono ?_; rintro e wl ⟨rfl, fl⟩; replace FG := hid (FG.out.trans fl); replace P0 := hid (BG.fr P0.out fl); (try replace HFA0 := hid (HFA0.out.trans fl)); clear fl) | (go_at_call 10; refine (rlay_yes gc gs gn gl gk _ HS.out HM.out).mono ?_; rintro e wy ⟨⟨y1, y2, y3, y4, y5, y6, y7, y8, rfl⟩, fy⟩; replace FG := hid (FG.out.trans fy); replace P0 := hid (BG.fr P0.out fy); replace HFA0 := hid (HFA0.out.trans fy); clear fy))
  go_wp2
  have HFA1 := hid (HFA0.out.alloc (.cells #[.int .i64 y1, .int .i64 y2, .int .i64 y3, .int .i64 y4, .int .i64 y5, .int .i64 y6, .int .i64 y7, .int .i64 y8] 34))
  have FG := hid (FG.out.alloc (.cells #[.int .i64 y1, .int .i64 y2, .int .i64 y3, .int .i64 y4, .int .i64 y5, .int .i64 y6, .int .i64 y7, .int .i64 y8] 34))
  have P0 := hid (BG.fr P0.out (fr1 wy (.cells #[.int .i64 y1, .int .i64 y2, .int .i64 y3, .int .i64 y4, .int .i64 y5, .int .i64 y6, .int .i64 y7, .int .i64 y8] 34)))
  obtain ⟨wb, hwb⟩ : ∃ wb, wy.alloc (.cells #[.int .i64 y1, .int .i64 y2, .int .i64 y3, .int .i64 y4, .int .i64 y5, .int .i64 y6, .int .i64 y7, .int .i64 y8] 34) = wb := ⟨_, rfl⟩
  rw [hwb] at FG P0 HFA1
  try rw [hwb]
  clear hwb
  go_loopw [11] (fun i wr => LC gc gs gn gl gk xs l wb i wr) (fun i _ => l - (intOf i).toNat)
  case atStart => exact ⟨0, by omega, rfl, by simp, Fr.refl _ _⟩
  case round =>
    obtain ⟨k, hk, rfl, hall, hf⟩ := hrel
    by_cases hlt : k < l
    · obtain ⟨⟨a, n⟩, hxk⟩ : ∃ x, xs[k]? = some x := ⟨_, List.getElem?_eq_getElem (by rw [HXL.out]; exact hlt)⟩
      have HXK := hid hxk
      have HWK := hid (HW.out _ (List.mem_of_getElem? hxk))
      obtain ⟨gx, ox, rfl, _, hc⟩ := (HX.out.fr (FG.out.trans hf)).at_ (by omega)
      obtain ⟨e0, e1⟩ := hc k _ hxk
      simp only [] at e0 e1
      have hlt3 : (k : Int) < l := by omega
      have h0k : (0 : Int) ≤ k := by omega
      have hw1 : wrap64 ((k : Int) + 1) = (k : Int) + 1 := by have := HL.out; exact w64 _ (by omega)
      obtain ⟨g0, g1, g2, g3, g4⟩ := (BG.fr P0.out hf).cells
      have HF := hid hf
      have HALL := hid hall
      obtain ⟨E0, hE0⟩ : ∃ E0, cko ⟨gc, gs, gn, gl, gk⟩ a n = E0 := ⟨_, rfl⟩
      have HCK := hid hE0
      clear hc hxk hf hall hE0
      go_upto_region 12 with fail
      have FW := hid (Fr.refl No wr)
      by_cases hc0 : E0 = 0
      · subst hc0
        have HNX := hid (show ∀ s ∈ xs.take (k + 1), cko ⟨gc, gs, gn, gl, gk⟩ s.1 s.2 = 0 from fun s hs => by
          rw [BtA.take_snoc HXK.out, List.mem_append] at hs
          rcases hs with hs | hs
          · exact HALL.out s hs
          · simp only [List.mem_singleton] at hs
            subst hs
            exact HCK.out)
        have FW := kd FW
        refine wp_region_noPanic ?_
        refine wp_region_held_drew (S := (fun W' => W'.cell? ⟨G, 0, none⟩ = some (.int .i64 gc) ∧ W'.cell? ⟨G, 1, none⟩ = some (.int .i64 gs) ∧ W'.cell? ⟨G, 2, none⟩ = some (.int .i64 gn) ∧ W'.cell? ⟨G, 3, none⟩ = some (.int .i64 gl) ∧ W'.cell? ⟨G, 4, none⟩ = some (.int .i64 gk) ∧ W'.cell? ⟨gx, ox + k * 2, none⟩ = some (.int .i64 a) ∧ W'.cell? ⟨gx, ox + k * 2 + 1, none⟩ = some (.int .i64 n) ∧ Hid (Fr No wr W'))) (by kernel_rfl) ?_ (fun hHeld => ?_)
        · (try dsimp only); (first | (go_split_ands; exact ⟨kc f (by assumption), kc f (by assumption), kc f (by assumption), kc f (by assumption), kc f (by assumption), kc f (by assumption), kc f (by assumption), by assumption⟩) | (go_split_ands; exact ⟨(by assumption), (by assumption), (by assumption), (by assumption), (by assumption), (by assumption), (by assumption), by assumption⟩) | (go_split_ands; exact ⟨kc (fr1 _ _) (by assumption), kc (fr1 _ _) (by assumption), kc (fr1 _ _) (by assumption), kc (fr1 _ _) (by assumption), kc (fr1 _ _) (by assumption), kc (fr1 _ _) (by assumption), kc (fr1 _ _) (by assumption), kfa (by assumption)⟩))
        refine wpAnyH_take (i := 0) (v := ?v6) rfl (by kernel_rfl) (by kernel_rfl) (by kernel_rfl) (fun _ _ _ h => h) (Or.inl ⟨by kernel_rfl, ?y6⟩) (by assumption) ?_
        case y6 => (intro w hSw; (try dsimp only at hSw); go_simp; all_goals with_reducible rfl)
        try simp only [Act.put, List.getElem_toArray, List.getElem_cons_zero, List.setIfInBounds_toArray, List.set_cons_zero, List.set_cons_succ]
        refine wpAnyH_take (i := 1) (v := ?v7) rfl (by kernel_rfl) (by kernel_rfl) (by kernel_rfl) (fun _ _ _ h => h) (Or.inl ⟨by kernel_rfl, ?y7⟩) (by assumption) ?_
        case y7 => (intro w hSw; (try dsimp only at hSw); go_simp; all_goals with_reducible rfl)
        try simp only [Act.put, List.getElem_toArray, List.getElem_cons_succ, List.getElem_cons_zero, List.setIfInBounds_toArray, List.set_cons_zero, List.set_cons_succ]
        refine wpAnyH_take (i := 2) (v := ?v8) rfl (by kernel_rfl) (by kernel_rfl) (by kernel_rfl) (fun _ _ _ h => h) (Or.inl ⟨by kernel_rfl, ?y8⟩) (by assumption) ?_
        case y8 => (intro w hSw; (try dsimp only at hSw); go_simp; all_goals with_reducible rfl)
        try simp only [Act.put, List.getElem_toArray, List.getElem_cons_succ, List.getElem_cons_zero, List.setIfInBounds_toArray, List.set_cons_zero, List.set_cons_succ]
        refine wpAnyH_take (i := 3) (v := ?v9) rfl (by kernel_rfl) (by kernel_rfl) (by kernel_rfl) (fun _ _ _ h => h) (Or.inl ⟨by kernel_rfl, ?y9⟩) (by assumption) ?_
        case y9 => (intro w hSw; (try dsimp only at hSw); go_simp; all_goals with_reducible rfl)
        try simp only [Act.put, List.getElem_toArray, List.getElem_cons_succ, List.getElem_cons_zero, List.setIfInBounds_toArray, List.set_cons_zero, List.set_cons_succ]
        refine wpAnyH_take (i := 4) (v := ?v10) rfl (by kernel_rfl) (by kernel_rfl) (by kernel_rfl) (fun _ _ _ h => h) (Or.inl ⟨by kernel_rfl, ?y10⟩) (by assumption) ?_
        case y10 => (intro w hSw; (try dsimp only at hSw); go_simp; all_goals with_reducible rfl)
        try simp only [Act.put, List.getElem_toArray, List.getElem_cons_succ, List.getElem_cons_zero, List.setIfInBounds_toArray, List.set_cons_zero, List.set_cons_succ]
        refine wpAnyH_ready (rs := [5]) (by kernel_rfl) (by simp) (AllReadyH.cons rfl (fun K hK => ?_) AllReadyH.nil)
        go_simp
        go_at_call 21
        refine (GeF.rcheck_ok gc gs gn gl gk a n _ HS.out HWK.out).mono ?_
        rintro e W1 ⟨rfl, f⟩
        have FW := kf f hHeld.2.2.2.2.2.2.2
        rw [HCK.out]
        dsimp only
        refine hK.out _ _ ?_ (fun hHeld => ?_)
        · (try dsimp only); (first | (go_split_ands; exact ⟨kc f (by assumption), kc f (by assumption), kc f (by assumption), kc f (by assumption), kc f (by assumption), kc f (by assumption), kc f (by assumption), by assumption⟩) | (go_split_ands; exact ⟨(by assumption), (by assumption), (by assumption), (by assumption), (by assumption), (by assumption), (by assumption), by assumption⟩) | (go_split_ands; exact ⟨kc (fr1 _ _) (by assumption), kc (fr1 _ _) (by assumption), kc (fr1 _ _) (by assumption), kc (fr1 _ _) (by assumption), kc (fr1 _ _) (by assumption), kc (fr1 _ _) (by assumption), kc (fr1 _ _) (by assumption), kfa (by assumption)⟩))
        clear hK K
        try simp only [Act.put, List.getElem_toArray, List.getElem_cons_succ, List.getElem_cons_zero, List.setIfInBounds_toArray, List.set_cons_zero, List.set_cons_succ]
        refine wpAnyH_take (i := 6) (v := (.bool false)) rfl (by kernel_rfl) (by kernel_rfl) (by kernel_rfl) (fun _ _ _ h => h) (Or.inl ⟨by kernel_rfl, fun w hSw => by first | (go_simp; done) | (go_simp; with_reducible rfl) | (go_simp; omega)⟩) (by assumption) ?_
        try simp only [Act.put, List.getElem_toArray, List.getElem_cons_succ, List.getElem_cons_zero, List.setIfInBounds_toArray, List.set_cons_zero, List.set_cons_succ]
        refine wpAnyH_done (by kernel_rfl) ?_ _
        refine NoPanic.normal ?_
        have FX := hHeld.2.2.2.2.2.2.2
        clear hHeld
        go_wp2
        go_roundw
        case rel => (try refine ⟨_, ?_, rfl⟩); exact ⟨k + 1, by omega, by go_num, HNX.out, HF.out.trans FX.out⟩
        case measure => first | exact next_m _ _ hlt hw1 | exact next_p _ _ hlt
      · exact absurd (HCK.out.symm.trans (HOK.out _ (List.mem_of_getElem? HXK.out))) hc0
    · obtain rfl : k = l := by omega
      have hlk : ¬ (k : Int) < k := by omega
      have HFB := hid (FG.out.trans hf)
      have P1 := hid (BG.fr P0.out hf)
      obtain ⟨wc, hwc⟩ : ∃ wc : World, wc = wr := ⟨_, rfl⟩
      subst hwc
      have HFA := hid (HFA1.out.trans hf)
      clear hall hf
      have h1b : decide (seq < 1) = false := decide_eq_false (by have := HQS.out; omega)
      have h2b : decide (1099511627776 < seq) = false := decide_eq_false (by have := HQS.out; omega)
      go_upto_region 17 with (go_at_call 22; refine (rholes_ok seq A k c xs _ HL.out (HX.out.fr HFB.out) HOP.out HQS.out).mono ?_; rintro e w6 ⟨AB, cB, us, rfl, hrb, f6⟩; rw [HGM.out] at hrb ⊢; have HRB := hid (row_rd hrb HGM.out); have HRC := hid hrb; replace HFB := hid (HFB.out.trans f6); have HF6 := hid f6; replace P1 := hid (BG.fr P1.out f6); clear f6 hrb)
      obtain ⟨K, hK⟩ : ∃ K, m = K + 1 := ⟨m - 1, by have := HMB.out; omega⟩
      obtain ⟨u, hu⟩ : ∃ u, us[K]? = some u := ⟨_, List.getElem?_eq_getElem (by rw [HRC.out.len, HGM.out]; omega)⟩
      obtain ⟨gb, ob, rfl, c0, _, _⟩ := row_cells HRB.out hu (by omega)
      have hqK : wrap64 (seq + (K : Int)) = seq + K := w64 _ (by have := HQS.out; have := HM5.out; omega)
      rw [hqK] at c0
      have hmK : wrap64 ((m : Int) - 1) = (K : Int) := by rw [w64 _ (by have := HM5.out; omega)]; omega
      have hKm : (K : Int) < m := by omega
      have h0K : (0 : Int) ≤ K := by omega
      have h0m : (0 : Int) < (m : Int) := by omega
      have h0m2 : 0 < m := by omega
      have h0b : decide ((0 : Int) < (m : Int)) = true := decide_eq_true h0m
      have hgt : ¬ (1099511627776 : Int) < seq + K := by have := HMB.out; omega
      have hgb : decide ((1099511627776 : Int) < seq + K) = false := decide_eq_false hgt
      clear hK hu hqK
      go_wp2
      clear c0 hgt hgb hmK hKm
      go_loopw [13] (fun i wr => LD m w6 i wr) (fun i _ => m - (intOf i).toNat)
      case atStart => exact ⟨0, Nat.zero_le _, rfl, Fr.refl _ _⟩
      case round =>
        obtain ⟨j, hj, rfl, hf⟩ := hrel
        by_cases hjm : j < m
        · obtain ⟨y, hy⟩ : ∃ y, (gps xs)[j]? = some y := ⟨_, List.getElem?_eq_getElem (by rw [HGM.out]; exact hjm)⟩
          obtain ⟨⟨vA, vn, vc⟩, hv⟩ : ∃ v, vs[j]? = some v := ⟨_, List.getElem?_eq_getElem (by rw [HVA.out]; exact hjm)⟩
          obtain ⟨⟨uA, un, uc⟩, hu⟩ : ∃ u, us[j]? = some u := ⟨_, List.getElem?_eq_getElem (by rw [HRC.out.len, HGM.out]; exact hjm)⟩
          have hs := HSP.out y (List.mem_of_getElem? hy)
          obtain ⟨v1, v2, v3⟩ := HCA.out j _ y hv hy
          obtain ⟨u1, u2⟩ := HRC.out.cl j _ y hu hy
          dsimp only at v1 v2 v3 u2
          have hfa := (HFA.out.trans HF6.out).trans hf
          obtain ⟨q, hqq⟩ : ∃ q, wrap64 (seq + (j : Int)) = q := ⟨_, rfl⟩
          have hq2 : q = seq + j := by rw [← hqq]; exact w64 _ (by have := HQS.out; have := HM5.out; omega)
          obtain ⟨ga, oa, rfl, a0, a1, a2⟩ := row_cells (HRA.out.fr hfa (fun _ _ _ h => h)) hv h0m2
          obtain ⟨gb', ob', hgb', b0, b1, b2⟩ := row_cells (HRB.out.fr hf (fun _ _ _ h => h)) hu h0m2
          obtain ⟨rfl, rfl⟩ : gb = gb' ∧ ob = ob' := by injection hgb' with h; injection h with h1 h2; exact ⟨h1, h2⟩
          rw [hqq] at a0 b0
          dsimp only [SV.v] at a2 b2
          have HVR := hid (v1.fr hfa)
          have HUR := hid (show RdS wr uA un y by have h := Out.rd (show Out _ _ (.slice uA y.length uc) y by rw [← u2]; exact u1); rw [← u2] at h; exact h.fr hf)
          have HVN := hid (show vn ≤ 8 by rw [v2]; exact hs.2.1)
          have HUN := hid (show un ≤ 8 by rw [u2]; exact hs.2.1)
          have HVC := hid v3
          have HWY := hid (show ∀ s ∈ y, wf s from fun s h => wf_may (spsOk_may hs s h).2.1)
          have HMY := hid (show mayB ⟨gc, gs, gn, gl, gk⟩ ⟨q, 2, y⟩ from HMM.out q (by have := HQS.out; have := HMB.out; omega) y (List.mem_of_getElem? hy))
          obtain ⟨g0, g1, g2, g3, g4⟩ := (BG.fr P1.out hf).cells
          have HF := hid hf
          have hjm3 : (j : Int) < m := by omega
          have h0j : (0 : Int) ≤ j := by omega
          have hwj : wrap64 ((j : Int) + 1) = (j : Int) + 1 := w64 _ (by have := HM5.out; omega)
          clear hy hv hu hs v1 v2 v3 u1 u2 hfa hqq hq2 hgb' hf
          go_upto_region 24 with fail
          have FW := hid (Fr.refl No wr)
          have FW := kd FW
          refine wp_region_noPanic ?_
          refine wp_region_held_drew (S := (fun W' => W'.cell? ⟨ga, oa + j * 3, none⟩ = some (.int .i64 q) ∧ W'.cell? ⟨ga, oa + j * 3 + 1, none⟩ = some (.int .i64 2) ∧ W'.cell? ⟨ga, oa + j * 3 + 2, none⟩ = some (.slice vA vn vc) ∧ W'.cell? ⟨gb, ob + j * 3, none⟩ = some (.int .i64 q) ∧ W'.cell? ⟨gb, ob + j * 3 + 1, none⟩ = some (.int .i64 2) ∧ W'.cell? ⟨gb, ob + j * 3 + 2, none⟩ = some (.slice uA un uc) ∧ W'.cell? ⟨G, 0, none⟩ = some (.int .i64 gc) ∧ W'.cell? ⟨G, 1, none⟩ = some (.int .i64 gs) ∧ W'.cell? ⟨G, 2, none⟩ = some (.int .i64 gn) ∧ W'.cell? ⟨G, 3, none⟩ = some (.int .i64 gl) ∧ W'.cell? ⟨G, 4, none⟩ = some (.int .i64 gk) ∧ Hid (Fr No wr W'))) (by kernel_rfl) ?_ (fun hHeld => ?_)
          · (try dsimp only); (first | (go_split_ands; exact ⟨kc f (by assumption), kc f (by assumption), kc f (by assumption), kc f (by assumption), kc f (by assumption), kc f (by assumption), kc f (by assumption), kc f (by assumption), kc f (by assumption), kc f (by assumption), kc f (by assumption), by assumption⟩) | (go_split_ands; exact ⟨(by assumption), (by assumption), (by assumption), (by assumption), (by assumption), (by assumption), (by assumption), (by assumption), (by assumption), (by assumption), (by assumption), by assumption⟩) | (go_split_ands; exact ⟨kc (fr1 _ _) (by assumption), kc (fr1 _ _) (by assumption), kc (fr1 _ _) (by assumption), kc (fr1 _ _) (by assumption), kc (fr1 _ _) (by assumption), kc (fr1 _ _) (by assumption), kc (fr1 _ _) (by assumption), kc (fr1 _ _) (by assumption), kc (fr1 _ _) (by assumption), kc (fr1 _ _) (by assumption), kc (fr1 _ _) (by assumption), kfa (by assumption)⟩))
          refine wpAnyH_take (i := 0) (v := ?v11) rfl (by kernel_rfl) (by kernel_rfl) (by kernel_rfl) (fun _ _ _ h => h) (Or.inl ⟨by kernel_rfl, ?y11⟩) (by assumption) ?_
          case y11 => (intro w hSw; (try dsimp only at hSw); go_simp; all_goals with_reducible rfl)
          try simp only [Act.put, List.getElem_toArray, List.getElem_cons_zero, List.setIfInBounds_toArray, List.set_cons_zero, List.set_cons_succ]
          refine wpAnyH_take (i := 1) (v := ?v12) rfl (by kernel_rfl) (by kernel_rfl) (by kernel_rfl) (fun _ _ _ h => h) (Or.inl ⟨by kernel_rfl, ?y12⟩) (by assumption) ?_
          case y12 => (intro w hSw; (try dsimp only at hSw); go_simp; all_goals with_reducible rfl)
          try simp only [Act.put, List.getElem_toArray, List.getElem_cons_succ, List.getElem_cons_zero, List.setIfInBounds_toArray, List.set_cons_zero, List.set_cons_succ]
          refine wpAnyH_take (i := 2) (v := ?v13) rfl (by kernel_rfl) (by kernel_rfl) (by kernel_rfl) (fun _ _ _ h => h) (Or.inl ⟨by kernel_rfl, ?y13⟩) (by assumption) ?_
          case y13 => (intro w hSw; (try dsimp only at hSw); go_simp; all_goals with_reducible rfl)
          try simp only [Act.put, List.getElem_toArray, List.getElem_cons_succ, List.getElem_cons_zero, List.setIfInBounds_toArray, List.set_cons_zero, List.set_cons_succ]
          refine wpAnyH_take (i := 3) (v := ?v14) rfl (by kernel_rfl) (by kernel_rfl) (by kernel_rfl) (fun _ _ _ h => h) (Or.inl ⟨by kernel_rfl, ?y14⟩) (by assumption) ?_
          case y14 => (intro w hSw; (try dsimp only at hSw); go_simp; all_goals with_reducible rfl)
          try simp only [Act.put, List.getElem_toArray, List.getElem_cons_succ, List.getElem_cons_zero, List.setIfInBounds_toArray, List.set_cons_zero, List.set_cons_succ]
          refine wpAnyH_take (i := 4) (v := ?v15) rfl (by kernel_rfl) (by kernel_rfl) (by kernel_rfl) (fun _ _ _ h => h) (Or.inl ⟨by kernel_rfl, ?y15⟩) (by assumption) ?_
          case y15 => (intro w hSw; (try dsimp only at hSw); go_simp; all_goals with_reducible rfl)
          try simp only [Act.put, List.getElem_toArray, List.getElem_cons_succ, List.getElem_cons_zero, List.setIfInBounds_toArray, List.set_cons_zero, List.set_cons_succ]
          refine wpAnyH_take (i := 5) (v := ?v16) rfl (by kernel_rfl) (by kernel_rfl) (by kernel_rfl) (fun _ _ _ h => h) (Or.inl ⟨by kernel_rfl, ?y16⟩) (by assumption) ?_
          case y16 => (intro w hSw; (try dsimp only at hSw); go_simp; all_goals with_reducible rfl)
          try simp only [Act.put, List.getElem_toArray, List.getElem_cons_succ, List.getElem_cons_zero, List.setIfInBounds_toArray, List.set_cons_zero, List.set_cons_succ]
          refine wpAnyH_take (i := 6) (v := ?v17) rfl (by kernel_rfl) (by kernel_rfl) (by kernel_rfl) (fun _ _ _ h => h) (Or.inl ⟨by kernel_rfl, ?y17⟩) (by assumption) ?_
          case y17 => (intro w hSw; (try dsimp only at hSw); go_simp; all_goals with_reducible rfl)
          try simp only [Act.put, List.getElem_toArray, List.getElem_cons_succ, List.getElem_cons_zero, List.setIfInBounds_toArray, List.set_cons_zero, List.set_cons_succ]
          refine wpAnyH_take (i := 7) (v := ?v18) rfl (by kernel_rfl) (by kernel_rfl) (by kernel_rfl) (fun _ _ _ h => h) (Or.inl ⟨by kernel_rfl, ?y18⟩) (by assumption) ?_
          case y18 => (intro w hSw; (try dsimp only at hSw); go_simp; all_goals with_reducible rfl)
          try simp only [Act.put, List.getElem_toArray, List.getElem_cons_succ, List.getElem_cons_zero, List.setIfInBounds_toArray, List.set_cons_zero, List.set_cons_succ]
          refine wpAnyH_ready (rs := [8]) (by kernel_rfl) (by simp) (AllReadyH.cons rfl (fun K hK => ?_) AllReadyH.nil)
          go_simp
          go_at_call 18
          refine (brsame_ok q 2 vA vn vc y q 2 uA un uc y true _ (by have := HVN.out; omega) (by have := HUN.out; omega) (HVR.out.fr hHeld.2.2.2.2.2.2.2.2.2.2.2.out) (HUR.out.fr hHeld.2.2.2.2.2.2.2.2.2.2.2.out) (by simp)).mono ?_
          rintro e W1 ⟨rfl, f⟩
          have FW := kf f hHeld.2.2.2.2.2.2.2.2.2.2.2
          dsimp only
          refine hK.out _ _ ?_ (fun hHeld => ?_)
          · (try dsimp only); (first | (go_split_ands; exact ⟨kc f (by assumption), kc f (by assumption), kc f (by assumption), kc f (by assumption), kc f (by assumption), kc f (by assumption), kc f (by assumption), kc f (by assumption), kc f (by assumption), kc f (by assumption), kc f (by assumption), by assumption⟩) | (go_split_ands; exact ⟨(by assumption), (by assumption), (by assumption), (by assumption), (by assumption), (by assumption), (by assumption), (by assumption), (by assumption), (by assumption), (by assumption), by assumption⟩) | (go_split_ands; exact ⟨kc (fr1 _ _) (by assumption), kc (fr1 _ _) (by assumption), kc (fr1 _ _) (by assumption), kc (fr1 _ _) (by assumption), kc (fr1 _ _) (by assumption), kc (fr1 _ _) (by assumption), kc (fr1 _ _) (by assumption), kc (fr1 _ _) (by assumption), kc (fr1 _ _) (by assumption), kc (fr1 _ _) (by assumption), kc (fr1 _ _) (by assumption), kfa (by assumption)⟩))
          clear hK K
          try simp only [Act.put, List.getElem_toArray, List.getElem_cons_succ, List.getElem_cons_zero, List.setIfInBounds_toArray, List.set_cons_zero, List.set_cons_succ]
          refine wpAnyH_take (i := 9) (v := (.bool false)) rfl (by kernel_rfl) (by kernel_rfl) (by kernel_rfl) (fun _ _ _ h => h) (Or.inl ⟨by kernel_rfl, fun w hSw => by first | (go_simp; done) | (go_simp; with_reducible rfl) | (go_simp; omega)⟩) (by assumption) ?_
          try simp only [Act.put, List.getElem_toArray, List.getElem_cons_succ, List.getElem_cons_zero, List.setIfInBounds_toArray, List.set_cons_zero, List.set_cons_succ]
          refine wpAnyH_take (i := 10) (v := (.bool false)) rfl (by kernel_rfl) (by kernel_rfl) (by kernel_rfl) (fun _ _ _ h => h) (Or.inl ⟨by kernel_rfl, fun w hSw => by first | (go_simp; done) | (go_simp; with_reducible rfl) | (go_simp; omega)⟩) (by assumption) ?_
          try simp only [Act.put, List.getElem_toArray, List.getElem_cons_succ, List.getElem_cons_zero, List.setIfInBounds_toArray, List.set_cons_zero, List.set_cons_succ]
          refine wpAnyH_take (i := 11) (v := ?v19) rfl (by kernel_rfl) (by kernel_rfl) (by kernel_rfl) (fun _ _ _ h => h) (Or.inl ⟨by kernel_rfl, ?y19⟩) (by assumption) ?_
          case y19 => (intro w hSw; (try dsimp only at hSw); go_simp; all_goals with_reducible rfl)
          try simp only [Act.put, List.getElem_toArray, List.getElem_cons_succ, List.getElem_cons_zero, List.setIfInBounds_toArray, List.set_cons_zero, List.set_cons_succ]
          refine wpAnyH_take (i := 12) (v := ?v20) rfl (by kernel_rfl) (by kernel_rfl) (by kernel_rfl) (fun _ _ _ h => h) (Or.inl ⟨by kernel_rfl, ?y20⟩) (by assumption) ?_
          case y20 => (intro w hSw; (try dsimp only at hSw); go_simp; all_goals with_reducible rfl)
          try simp only [Act.put, List.getElem_toArray, List.getElem_cons_succ, List.getElem_cons_zero, List.setIfInBounds_toArray, List.set_cons_zero, List.set_cons_succ]
          refine wpAnyH_take (i := 13) (v := ?v21) rfl (by kernel_rfl) (by kernel_rfl) (by kernel_rfl) (fun _ _ _ h => h) (Or.inl ⟨by kernel_rfl, ?y21⟩) (by assumption) ?_
          case y21 => (intro w hSw; (try dsimp only at hSw); go_simp; all_goals with_reducible rfl)
          try simp only [Act.put, List.getElem_toArray, List.getElem_cons_succ, List.getElem_cons_zero, List.setIfInBounds_toArray, List.set_cons_zero, List.set_cons_succ]
          refine wpAnyH_take (i := 14) (v := ?v22) rfl (by kernel_rfl) (by kernel_rfl) (by kernel_rfl) (fun _ _ _ h => h) (Or.inl ⟨by kernel_rfl, ?y22⟩) (by assumption) ?_
          case y22 => (intro w hSw; (try dsimp only at hSw); go_simp; all_goals with_reducible rfl)
          try simp only [Act.put, List.getElem_toArray, List.getElem_cons_succ, List.getElem_cons_zero, List.setIfInBounds_toArray, List.set_cons_zero, List.set_cons_succ]
          refine wpAnyH_take (i := 15) (v := ?v23) rfl (by kernel_rfl) (by kernel_rfl) (by kernel_rfl) (fun _ _ _ h => h) (Or.inl ⟨by kernel_rfl, ?y23⟩) (by assumption) ?_
          case y23 => (intro w hSw; (try dsimp only at hSw); go_simp; all_goals with_reducible rfl)
          try simp only [Act.put, List.getElem_toArray, List.getElem_cons_succ, List.getElem_cons_zero, List.setIfInBounds_toArray, List.set_cons_zero, List.set_cons_succ]
          refine wpAnyH_ready (rs := [16]) (by kernel_rfl) (by simp) (AllReadyH.cons rfl (fun K hK => ?_) AllReadyH.nil)
          go_simp
          go_at_call 8
          refine (may_ok gc gs gn gl gk q 2 vA vn vc y true _ HS.out (by have := HVN.out; omega) HVC.out (HVR.out.fr hHeld.2.2.2.2.2.2.2.2.2.2.2.out) HWY.out ⟨fun _ => HMY.out, fun _ => rfl⟩).mono ?_
          rintro e W1 ⟨rfl, f⟩
          have FW := kf f hHeld.2.2.2.2.2.2.2.2.2.2.2
          dsimp only
          refine hK.out _ _ ?_ (fun hHeld => ?_)
          · (try dsimp only); (first | (go_split_ands; exact ⟨kc f (by assumption), kc f (by assumption), kc f (by assumption), kc f (by assumption), kc f (by assumption), kc f (by assumption), kc f (by assumption), kc f (by assumption), kc f (by assumption), kc f (by assumption), kc f (by assumption), by assumption⟩) | (go_split_ands; exact ⟨(by assumption), (by assumption), (by assumption), (by assumption), (by assumption), (by assumption), (by assumption), (by assumption), (by assumption), (by assumption), (by assumption), by assumption⟩) | (go_split_ands; exact ⟨kc (fr1 _ _) (by assumption), kc (fr1 _ _) (by assumption), kc (fr1 _ _) (by assumption), kc (fr1 _ _) (by assumption), kc (fr1 _ _) (by assumption), kc (fr1 _ _) (by assumption), kc (fr1 _ _) (by assumption), kc (fr1 _ _) (by assumption), kc (fr1 _ _) (by assumption), kc (fr1 _ _) (by assumption), kc (fr1 _ _) (by assumption), kfa (by assumption)⟩))
          clear hK K
          try simp only [Act.put, List.getElem_toArray, List.getElem_cons_succ, List.getElem_cons_zero, List.setIfInBounds_toArray, List.set_cons_zero, List.set_cons_succ]
          refine wpAnyH_take (i := 17) (v := ?v24) rfl (by kernel_rfl) (by kernel_rfl) (by kernel_rfl) (fun _ _ _ h => h) (Or.inl ⟨by kernel_rfl, ?y24⟩) (by assumption) ?_
          case y24 => (intro w hSw; (try dsimp only at hSw); go_simp; all_goals with_reducible rfl)
          try simp only [Act.put, List.getElem_toArray, List.getElem_cons_succ, List.getElem_cons_zero, List.setIfInBounds_toArray, List.set_cons_zero, List.set_cons_succ]
          refine wpAnyH_take (i := 18) (v := ?v25) rfl (by kernel_rfl) (by kernel_rfl) (by kernel_rfl) (fun _ _ _ h => h) (Or.inl ⟨by kernel_rfl, ?y25⟩) (by assumption) ?_
          case y25 => (intro w hSw; (try dsimp only at hSw); go_simp; all_goals with_reducible rfl)
          try simp only [Act.put, List.getElem_toArray, List.getElem_cons_succ, List.getElem_cons_zero, List.setIfInBounds_toArray, List.set_cons_zero, List.set_cons_succ]
          refine wpAnyH_done (by kernel_rfl) ?_ _
          refine NoPanic.normal ?_
          have FX := hHeld.2.2.2.2.2.2.2.2.2.2.2
          clear hHeld
          go_wp2
          go_roundw
          case rel => (try refine ⟨_, ?_, rfl⟩); exact ⟨j + 1, by omega, by go_num, HF.out.trans FX.out⟩
          case measure => first | exact next_m _ _ hjm hwj | exact next_p _ _ hjm
        · obtain rfl : j = m := by omega
          have hjj : ¬ (j : Int) < j := by omega
          go_wp2
          go_ret
          exact ⟨rfl, HFB.out.trans hf⟩

set_option maxRecDepth 100000 in
set_option maxHeartbeats 8000000 in
theorem law_zeroA (gc gs gn gl gk seq : Int) (A : Option Addr) (l c : Nat) (xs : List Sp) (w : World) (hs : r64 gs) (hq : r64 seq) (hx : RdS w A l xs) (_ : ∀ s ∈ xs, wf s) (hT : TabAt w) (hl : l = 0) (hm : mayG ⟨gc, gs, gn, gl, gk⟩) (hqs : seq < 1 ∨ 1099511627776 < seq) :
    Calls Tryd.prog 5 #[.agg #[.int .i64 gc, .int .i64 gs, .int .i64 gn, .int .i64 gl, .int .i64 gk], .int .i64 seq, .slice A l c] w fun e w' => e = .returned (.bool true) ∧ Fr No w w' := by
  obtain rfl : xs = [] := List.eq_nil_of_length_eq_zero (by rw [hx.1]; exact hl)
  have hok : ∀ s ∈ ([] : List Sp), cko ⟨gc, gs, gn, gl, gk⟩ s.1 s.2 = 0 := fun s h => by cases h
  have hw : ∀ s ∈ ([] : List Sp), wf s := fun s h => by cases h
  have HZ := hid hl
  replace hl : l ≤ 100 := by omega
  obtain ⟨G, hG⟩ : ∃ G, w.heap.size = G := ⟨_, rfl⟩
  obtain ⟨w1, hw1⟩ : ∃ w1, w.alloc (bg gc gs gn gl gk) = w1 := ⟨_, rfl⟩
  have FG := hid (show Fr No w w1 by rw [← hw1]; exact fr1 _ _)
  have P0 := hid (show BG w1 G gc gs gn gl gk by rw [← hw1, ← hG]; exact BG.new w gc gs gn gl gk)
  have HS := hid hs
  have HX := hid hx
  have HXL := hid hx.1
  have HW := hid hw
  have HT := hid hT
  have HW1 := hid hw1
  have HL := hid hl
  have hlb : decide ((100 : Int) < (l : Int)) = false := decide_eq_false (by omega)
  have HM := hid hm
  have HOK := hid hok
  have HQ := hid hq
  have HOP := hid (okp_all hm hok)
  have HNB := hid (show ¬ badS seq (gps []).length from fun h => absurd h.1 (by decide))
  clear hm hok hq
  clear hs hx hw hT hw1 hl
  go_enter Tryd.func5, Tryd.ntmps5
  go_upto_region 1 with fail
  try rw [show w.alloc (Obj.cells #[.int .i64 gc, .int .i64 gs, .int .i64 gn, .int .i64 gl, .int .i64 gk] 23) = w1 from HW1.out]
  try rw [hG]
  go_upto_region 9 with (first | ((with_reducible refine ld_geom rfl (.tmp 3) rfl G ?_ P0.out ?_); · rfl) | (go_at_call 20; refine (hol_ok gc gs gn gl gk seq A l c [] _ HS.out HM.out HL.out (HX.out.fr FG.out) HW.out HQ.out HOK.out HNB.out).mono ?_; rintro e w2 ⟨AA, cA, vs, rfl, _, _, _, f2⟩; rw [show (gps []).length = 0 from rfl]; replace FG := hid (FG.out.trans f2); replace P0 := hid (BG.fr P0.out f2); clear f2) | (go_at_call 6; refine (lives_ok _ (HT.out.fr FG.out (fun h => h))).mono ?_; rintro e wl ⟨rfl, fl⟩; replace FG := hid (FG.out.trans fl); replace P0 := hid (BG.fr P0.out fl); clear fl) | (go_at_call 10; refine (rlay_yes gc gs gn gl gk _ HS.out HM.out).mono ?_; rintro e wy ⟨⟨y1, y2, y3, y4, y5, y6, y7, y8, rfl⟩, fy⟩; replace FG := hid (FG.out.trans fy); replace P0 := hid (BG.fr P0.out fy); clear fy))
  go_wp2
  have FG := hid (FG.out.alloc (.cells #[.int .i64 y1, .int .i64 y2, .int .i64 y3, .int .i64 y4, .int .i64 y5, .int .i64 y6, .int .i64 y7, .int .i64 y8] 34))
  have P0 := hid (BG.fr P0.out (fr1 wy (.cells #[.int .i64 y1, .int .i64 y2, .int .i64 y3, .int .i64 y4, .int .i64 y5, .int .i64 y6, .int .i64 y7, .int .i64 y8] 34)))
  obtain ⟨wb, hwb⟩ : ∃ wb, wy.alloc (.cells #[.int .i64 y1, .int .i64 y2, .int .i64 y3, .int .i64 y4, .int .i64 y5, .int .i64 y6, .int .i64 y7, .int .i64 y8] 34) = wb := ⟨_, rfl⟩
  rw [hwb] at FG P0
  try rw [hwb]
  clear hwb
  go_loopw [11] (fun i wr => LC gc gs gn gl gk [] l wb i wr) (fun i _ => l - (intOf i).toNat)
  case atStart => exact ⟨0, by omega, rfl, by simp, Fr.refl _ _⟩
  case round =>
    obtain ⟨k, hk, rfl, hall, hf⟩ := hrel
    by_cases hlt : k < l
    · obtain ⟨⟨a, n⟩, hxk⟩ : ∃ x, ([] : List Sp)[k]? = some x := ⟨_, List.getElem?_eq_getElem (by rw [HXL.out]; exact hlt)⟩
      have HXK := hid hxk
      have HWK := hid (HW.out _ (List.mem_of_getElem? hxk))
      obtain ⟨gx, ox, rfl, _, hc⟩ := (HX.out.fr (FG.out.trans hf)).at_ (by omega)
      obtain ⟨e0, e1⟩ := hc k _ hxk
      simp only [] at e0 e1
      have hlt3 : (k : Int) < l := by omega
      have h0k : (0 : Int) ≤ k := by omega
      have hw1 : wrap64 ((k : Int) + 1) = (k : Int) + 1 := by have := HL.out; exact w64 _ (by omega)
      obtain ⟨g0, g1, g2, g3, g4⟩ := (BG.fr P0.out hf).cells
      have HF := hid hf
      have HALL := hid hall
      obtain ⟨E0, hE0⟩ : ∃ E0, cko ⟨gc, gs, gn, gl, gk⟩ a n = E0 := ⟨_, rfl⟩
      have HCK := hid hE0
      clear hc hxk hf hall hE0
      go_upto_region 12 with fail
      have FW := hid (Fr.refl No wr)
      by_cases hc0 : E0 = 0
      · subst hc0
        have HNX := hid (show ∀ s ∈ ([] : List Sp).take (k + 1), cko ⟨gc, gs, gn, gl, gk⟩ s.1 s.2 = 0 from fun s hs => by
          rw [BtA.take_snoc HXK.out, List.mem_append] at hs
          rcases hs with hs | hs
          · exact HALL.out s hs
          · simp only [List.mem_singleton] at hs
            subst hs
            exact HCK.out)
        have FW := kd FW
        refine wp_region_noPanic ?_
        refine wp_region_held_drew (S := (fun W' => W'.cell? ⟨G, 0, none⟩ = some (.int .i64 gc) ∧ W'.cell? ⟨G, 1, none⟩ = some (.int .i64 gs) ∧ W'.cell? ⟨G, 2, none⟩ = some (.int .i64 gn) ∧ W'.cell? ⟨G, 3, none⟩ = some (.int .i64 gl) ∧ W'.cell? ⟨G, 4, none⟩ = some (.int .i64 gk) ∧ W'.cell? ⟨gx, ox + k * 2, none⟩ = some (.int .i64 a) ∧ W'.cell? ⟨gx, ox + k * 2 + 1, none⟩ = some (.int .i64 n) ∧ Hid (Fr No wr W'))) (by kernel_rfl) ?_ (fun hHeld => ?_)
        · (try dsimp only); (first | (go_split_ands; exact ⟨kc f (by assumption), kc f (by assumption), kc f (by assumption), kc f (by assumption), kc f (by assumption), kc f (by assumption), kc f (by assumption), by assumption⟩) | (go_split_ands; exact ⟨(by assumption), (by assumption), (by assumption), (by assumption), (by assumption), (by assumption), (by assumption), by assumption⟩) | (go_split_ands; exact ⟨kc (fr1 _ _) (by assumption), kc (fr1 _ _) (by assumption), kc (fr1 _ _) (by assumption), kc (fr1 _ _) (by assumption), kc (fr1 _ _) (by assumption), kc (fr1 _ _) (by assumption), kc (fr1 _ _) (by assumption), kfa (by assumption)⟩))
        refine wpAnyH_take (i := 0) (v := ?v26) rfl (by kernel_rfl) (by kernel_rfl) (by kernel_rfl) (fun _ _ _ h => h) (Or.inl ⟨by kernel_rfl, ?y26⟩) (by assumption) ?_
        case y26 => (intro w hSw; (try dsimp only at hSw); go_simp; all_goals with_reducible rfl)
        try simp only [Act.put, List.getElem_toArray, List.getElem_cons_zero, List.setIfInBounds_toArray, List.set_cons_zero, List.set_cons_succ]
        refine wpAnyH_take (i := 1) (v := ?v27) rfl (by kernel_rfl) (by kernel_rfl) (by kernel_rfl) (fun _ _ _ h => h) (Or.inl ⟨by kernel_rfl, ?y27⟩) (by assumption) ?_
        case y27 => (intro w hSw; (try dsimp only at hSw); go_simp; all_goals with_reducible rfl)
        try simp only [Act.put, List.getElem_toArray, List.getElem_cons_succ, List.getElem_cons_zero, List.setIfInBounds_toArray, List.set_cons_zero, List.set_cons_succ]
        refine wpAnyH_take (i := 2) (v := ?v28) rfl (by kernel_rfl) (by kernel_rfl) (by kernel_rfl) (fun _ _ _ h => h) (Or.inl ⟨by kernel_rfl, ?y28⟩) (by assumption) ?_
        case y28 => (intro w hSw; (try dsimp only at hSw); go_simp; all_goals with_reducible rfl)
        try simp only [Act.put, List.getElem_toArray, List.getElem_cons_succ, List.getElem_cons_zero, List.setIfInBounds_toArray, List.set_cons_zero, List.set_cons_succ]
        refine wpAnyH_take (i := 3) (v := ?v29) rfl (by kernel_rfl) (by kernel_rfl) (by kernel_rfl) (fun _ _ _ h => h) (Or.inl ⟨by kernel_rfl, ?y29⟩) (by assumption) ?_
        case y29 => (intro w hSw; (try dsimp only at hSw); go_simp; all_goals with_reducible rfl)
        try simp only [Act.put, List.getElem_toArray, List.getElem_cons_succ, List.getElem_cons_zero, List.setIfInBounds_toArray, List.set_cons_zero, List.set_cons_succ]
        refine wpAnyH_take (i := 4) (v := ?v30) rfl (by kernel_rfl) (by kernel_rfl) (by kernel_rfl) (fun _ _ _ h => h) (Or.inl ⟨by kernel_rfl, ?y30⟩) (by assumption) ?_
        case y30 => (intro w hSw; (try dsimp only at hSw); go_simp; all_goals with_reducible rfl)
        try simp only [Act.put, List.getElem_toArray, List.getElem_cons_succ, List.getElem_cons_zero, List.setIfInBounds_toArray, List.set_cons_zero, List.set_cons_succ]
        refine wpAnyH_ready (rs := [5]) (by kernel_rfl) (by simp) (AllReadyH.cons rfl (fun K hK => ?_) AllReadyH.nil)
        go_simp
        go_at_call 21
        refine (GeF.rcheck_ok gc gs gn gl gk a n _ HS.out HWK.out).mono ?_
        rintro e W1 ⟨rfl, f⟩
        have FW := kf f hHeld.2.2.2.2.2.2.2
        rw [HCK.out]
        dsimp only
        refine hK.out _ _ ?_ (fun hHeld => ?_)
        · (try dsimp only); (first | (go_split_ands; exact ⟨kc f (by assumption), kc f (by assumption), kc f (by assumption), kc f (by assumption), kc f (by assumption), kc f (by assumption), kc f (by assumption), by assumption⟩) | (go_split_ands; exact ⟨(by assumption), (by assumption), (by assumption), (by assumption), (by assumption), (by assumption), (by assumption), by assumption⟩) | (go_split_ands; exact ⟨kc (fr1 _ _) (by assumption), kc (fr1 _ _) (by assumption), kc (fr1 _ _) (by assumption), kc (fr1 _ _) (by assumption), kc (fr1 _ _) (by assumption), kc (fr1 _ _) (by assumption), kc (fr1 _ _) (by assumption), kfa (by assumption)⟩))
        clear hK K
        try simp only [Act.put, List.getElem_toArray, List.getElem_cons_succ, List.getElem_cons_zero, List.setIfInBounds_toArray, List.set_cons_zero, List.set_cons_succ]
        refine wpAnyH_take (i := 6) (v := (.bool false)) rfl (by kernel_rfl) (by kernel_rfl) (by kernel_rfl) (fun _ _ _ h => h) (Or.inl ⟨by kernel_rfl, fun w hSw => by first | (go_simp; done) | (go_simp; with_reducible rfl) | (go_simp; omega)⟩) (by assumption) ?_
        try simp only [Act.put, List.getElem_toArray, List.getElem_cons_succ, List.getElem_cons_zero, List.setIfInBounds_toArray, List.set_cons_zero, List.set_cons_succ]
        refine wpAnyH_done (by kernel_rfl) ?_ _
        refine NoPanic.normal ?_
        have FX := hHeld.2.2.2.2.2.2.2
        clear hHeld
        go_wp2
        go_roundw
        case rel => (try refine ⟨_, ?_, rfl⟩); exact ⟨k + 1, by omega, by go_num, HNX.out, HF.out.trans FX.out⟩
        case measure => first | exact next_m _ _ hlt hw1 | exact next_p _ _ hlt
      · exact absurd (HCK.out.symm.trans (HOK.out _ (List.mem_of_getElem? HXK.out))) hc0
    · obtain rfl : k = l := by omega
      have hlk : ¬ (k : Int) < k := by omega
      have HFB := hid (FG.out.trans hf)
      have P1 := hid (BG.fr P0.out hf)
      obtain ⟨wc, hwc⟩ : ∃ wc : World, wc = wr := ⟨_, rfl⟩
      subst hwc
      clear hall hf
      have hlb2 : decide ((0 : Int) < (k : Int)) = false := decide_eq_false (by have := HZ.out; omega)
      have h0k2 : ¬ (0 : Int) < (k : Int) := by have := HZ.out; omega
      have h0k3 : ¬ 0 < k := by have := HZ.out; omega
      by_cases h1 : seq < 1
      · have h1b : decide (seq < 1) = true := decide_eq_true h1
        go_wp2
        go_ret
        exact ⟨rfl, HFB.out⟩
      · have h1b : decide (seq < 1) = false := decide_eq_false h1
        have h2b : decide (1099511627776 < seq) = true := decide_eq_true (by omega)
        go_wp2
        go_ret
        exact ⟨rfl, HFB.out⟩

set_option maxRecDepth 100000 in
set_option maxHeartbeats 8000000 in
theorem law_zeroB (gc gs gn gl gk seq : Int) (A : Option Addr) (l c : Nat) (xs : List Sp) (w : World) (hs : r64 gs) (hq : r64 seq) (hx : RdS w A l xs) (_ : ∀ s ∈ xs, wf s) (hT : TabAt w) (hl : l = 0) (hm : mayG ⟨gc, gs, gn, gl, gk⟩) (hqs : 1 ≤ seq ∧ seq ≤ 1099511627776) :
    Calls Tryd.prog 5 #[.agg #[.int .i64 gc, .int .i64 gs, .int .i64 gn, .int .i64 gl, .int .i64 gk], .int .i64 seq, .slice A l c] w fun e w' => e = .returned (.bool true) ∧ Fr No w w' := by
  obtain rfl : xs = [] := List.eq_nil_of_length_eq_zero (by rw [hx.1]; exact hl)
  have hok : ∀ s ∈ ([] : List Sp), cko ⟨gc, gs, gn, gl, gk⟩ s.1 s.2 = 0 := fun s h => by cases h
  have hw : ∀ s ∈ ([] : List Sp), wf s := fun s h => by cases h
  have HZ := hid hl
  replace hl : l ≤ 100 := by omega
  obtain ⟨G, hG⟩ : ∃ G, w.heap.size = G := ⟨_, rfl⟩
  obtain ⟨w1, hw1⟩ : ∃ w1, w.alloc (bg gc gs gn gl gk) = w1 := ⟨_, rfl⟩
  have FG := hid (show Fr No w w1 by rw [← hw1]; exact fr1 _ _)
  have P0 := hid (show BG w1 G gc gs gn gl gk by rw [← hw1, ← hG]; exact BG.new w gc gs gn gl gk)
  have HS := hid hs
  have HX := hid hx
  have HXL := hid hx.1
  have HW := hid hw
  have HT := hid hT
  have HW1 := hid hw1
  have HL := hid hl
  have hlb : decide ((100 : Int) < (l : Int)) = false := decide_eq_false (by omega)
  have HM := hid hm
  have HOK := hid hok
  have HQ := hid hq
  have HOP := hid (okp_all hm hok)
  have HNB := hid (show ¬ badS seq (gps []).length from fun h => absurd h.1 (by decide))
  have HQS := hid hqs
  clear hm hok hq
  clear hs hx hw hT hw1 hl
  go_enter Tryd.func5, Tryd.ntmps5
  go_upto_region 1 with fail
  try rw [show w.alloc (Obj.cells #[.int .i64 gc, .int .i64 gs, .int .i64 gn, .int .i64 gl, .int .i64 gk] 23) = w1 from HW1.out]
  try rw [hG]
  go_upto_region 9 with (first | ((with_reducible refine ld_geom rfl (.tmp 3) rfl G ?_ P0.out ?_); · rfl) | (go_at_call 20; refine (hol_ok gc gs gn gl gk seq A l c [] _ HS.out HM.out HL.out (HX.out.fr FG.out) HW.out HQ.out HOK.out HNB.out).mono ?_; rintro e w2 ⟨AA, cA, vs, rfl, _, _, _, f2⟩; rw [show (gps []).length = 0 from rfl]; replace FG := hid (FG.out.trans f2); replace P0 := hid (BG.fr P0.out f2); clear f2) | (go_at_call 6; refine (lives_ok _ (HT.out.fr FG.out (fun h => h))).mono ?_; rintro e wl ⟨rfl, fl⟩; replace FG := hid (FG.out.trans fl); replace P0 := hid (BG.fr P0.out fl); clear fl) | (go_at_call 10; refine (rlay_yes gc gs gn gl gk _ HS.out HM.out).mono ?_; rintro e wy ⟨⟨y1, y2, y3, y4, y5, y6, y7, y8, rfl⟩, fy⟩; replace FG := hid (FG.out.trans fy); replace P0 := hid (BG.fr P0.out fy); clear fy))
  go_wp2
  have FG := hid (FG.out.alloc (.cells #[.int .i64 y1, .int .i64 y2, .int .i64 y3, .int .i64 y4, .int .i64 y5, .int .i64 y6, .int .i64 y7, .int .i64 y8] 34))
  have P0 := hid (BG.fr P0.out (fr1 wy (.cells #[.int .i64 y1, .int .i64 y2, .int .i64 y3, .int .i64 y4, .int .i64 y5, .int .i64 y6, .int .i64 y7, .int .i64 y8] 34)))
  obtain ⟨wb, hwb⟩ : ∃ wb, wy.alloc (.cells #[.int .i64 y1, .int .i64 y2, .int .i64 y3, .int .i64 y4, .int .i64 y5, .int .i64 y6, .int .i64 y7, .int .i64 y8] 34) = wb := ⟨_, rfl⟩
  rw [hwb] at FG P0
  try rw [hwb]
  clear hwb
  go_loopw [11] (fun i wr => LC gc gs gn gl gk [] l wb i wr) (fun i _ => l - (intOf i).toNat)
  case atStart => exact ⟨0, by omega, rfl, by simp, Fr.refl _ _⟩
  case round =>
    obtain ⟨k, hk, rfl, hall, hf⟩ := hrel
    by_cases hlt : k < l
    · obtain ⟨⟨a, n⟩, hxk⟩ : ∃ x, ([] : List Sp)[k]? = some x := ⟨_, List.getElem?_eq_getElem (by rw [HXL.out]; exact hlt)⟩
      have HXK := hid hxk
      have HWK := hid (HW.out _ (List.mem_of_getElem? hxk))
      obtain ⟨gx, ox, rfl, _, hc⟩ := (HX.out.fr (FG.out.trans hf)).at_ (by omega)
      obtain ⟨e0, e1⟩ := hc k _ hxk
      simp only [] at e0 e1
      have hlt3 : (k : Int) < l := by omega
      have h0k : (0 : Int) ≤ k := by omega
      have hw1 : wrap64 ((k : Int) + 1) = (k : Int) + 1 := by have := HL.out; exact w64 _ (by omega)
      obtain ⟨g0, g1, g2, g3, g4⟩ := (BG.fr P0.out hf).cells
      have HF := hid hf
      have HALL := hid hall
      obtain ⟨E0, hE0⟩ : ∃ E0, cko ⟨gc, gs, gn, gl, gk⟩ a n = E0 := ⟨_, rfl⟩
      have HCK := hid hE0
      clear hc hxk hf hall hE0
      go_upto_region 12 with fail
      have FW := hid (Fr.refl No wr)
      by_cases hc0 : E0 = 0
      · subst hc0
        have HNX := hid (show ∀ s ∈ ([] : List Sp).take (k + 1), cko ⟨gc, gs, gn, gl, gk⟩ s.1 s.2 = 0 from fun s hs => by
          rw [BtA.take_snoc HXK.out, List.mem_append] at hs
          rcases hs with hs | hs
          · exact HALL.out s hs
          · simp only [List.mem_singleton] at hs
            subst hs
            exact HCK.out)
        have FW := kd FW
        refine wp_region_noPanic ?_
        refine wp_region_held_drew (S := (fun W' => W'.cell? ⟨G, 0, none⟩ = some (.int .i64 gc) ∧ W'.cell? ⟨G, 1, none⟩ = some (.int .i64 gs) ∧ W'.cell? ⟨G, 2, none⟩ = some (.int .i64 gn) ∧ W'.cell? ⟨G, 3, none⟩ = some (.int .i64 gl) ∧ W'.cell? ⟨G, 4, none⟩ = some (.int .i64 gk) ∧ W'.cell? ⟨gx, ox + k * 2, none⟩ = some (.int .i64 a) ∧ W'.cell? ⟨gx, ox + k * 2 + 1, none⟩ = some (.int .i64 n) ∧ Hid (Fr No wr W'))) (by kernel_rfl) ?_ (fun hHeld => ?_)
        · (try dsimp only); (first | (go_split_ands; exact ⟨kc f (by assumption), kc f (by assumption), kc f (by assumption), kc f (by assumption), kc f (by assumption), kc f (by assumption), kc f (by assumption), by assumption⟩) | (go_split_ands; exact ⟨(by assumption), (by assumption), (by assumption), (by assumption), (by assumption), (by assumption), (by assumption), by assumption⟩) | (go_split_ands; exact ⟨kc (fr1 _ _) (by assumption), kc (fr1 _ _) (by assumption), kc (fr1 _ _) (by assumption), kc (fr1 _ _) (by assumption), kc (fr1 _ _) (by assumption), kc (fr1 _ _) (by assumption), kc (fr1 _ _) (by assumption), kfa (by assumption)⟩))
        refine wpAnyH_take (i := 0) (v := ?v31) rfl (by kernel_rfl) (by kernel_rfl) (by kernel_rfl) (fun _ _ _ h => h) (Or.inl ⟨by kernel_rfl, ?y31⟩) (by assumption) ?_
        case y31 => (intro w hSw; (try dsimp only at hSw); go_simp; all_goals with_reducible rfl)
        try simp only [Act.put, List.getElem_toArray, List.getElem_cons_zero, List.setIfInBounds_toArray, List.set_cons_zero, List.set_cons_succ]
        refine wpAnyH_take (i := 1) (v := ?v32) rfl (by kernel_rfl) (by kernel_rfl) (by kernel_rfl) (fun _ _ _ h => h) (Or.inl ⟨by kernel_rfl, ?y32⟩) (by assumption) ?_
        case y32 => (intro w hSw; (try dsimp only at hSw); go_simp; all_goals with_reducible rfl)
        try simp only [Act.put, List.getElem_toArray, List.getElem_cons_succ, List.getElem_cons_zero, List.setIfInBounds_toArray, List.set_cons_zero, List.set_cons_succ]
        refine wpAnyH_take (i := 2) (v := ?v33) rfl (by kernel_rfl) (by kernel_rfl) (by kernel_rfl) (fun _ _ _ h => h) (Or.inl ⟨by kernel_rfl, ?y33⟩) (by assumption) ?_
        case y33 => (intro w hSw; (try dsimp only at hSw); go_simp; all_goals with_reducible rfl)
        try simp only [Act.put, List.getElem_toArray, List.getElem_cons_succ, List.getElem_cons_zero, List.setIfInBounds_toArray, List.set_cons_zero, List.set_cons_succ]
        refine wpAnyH_take (i := 3) (v := ?v34) rfl (by kernel_rfl) (by kernel_rfl) (by kernel_rfl) (fun _ _ _ h => h) (Or.inl ⟨by kernel_rfl, ?y34⟩) (by assumption) ?_
        case y34 => (intro w hSw; (try dsimp only at hSw); go_simp; all_goals with_reducible rfl)
        try simp only [Act.put, List.getElem_toArray, List.getElem_cons_succ, List.getElem_cons_zero, List.setIfInBounds_toArray, List.set_cons_zero, List.set_cons_succ]
        refine wpAnyH_take (i := 4) (v := ?v35) rfl (by kernel_rfl) (by kernel_rfl) (by kernel_rfl) (fun _ _ _ h => h) (Or.inl ⟨by kernel_rfl, ?y35⟩) (by assumption) ?_
        case y35 => (intro w hSw; (try dsimp only at hSw); go_simp; all_goals with_reducible rfl)
        try simp only [Act.put, List.getElem_toArray, List.getElem_cons_succ, List.getElem_cons_zero, List.setIfInBounds_toArray, List.set_cons_zero, List.set_cons_succ]
        refine wpAnyH_ready (rs := [5]) (by kernel_rfl) (by simp) (AllReadyH.cons rfl (fun K hK => ?_) AllReadyH.nil)
        go_simp
        go_at_call 21
        refine (GeF.rcheck_ok gc gs gn gl gk a n _ HS.out HWK.out).mono ?_
        rintro e W1 ⟨rfl, f⟩
        have FW := kf f hHeld.2.2.2.2.2.2.2
        rw [HCK.out]
        dsimp only
        refine hK.out _ _ ?_ (fun hHeld => ?_)
        · (try dsimp only); (first | (go_split_ands; exact ⟨kc f (by assumption), kc f (by assumption), kc f (by assumption), kc f (by assumption), kc f (by assumption), kc f (by assumption), kc f (by assumption), by assumption⟩) | (go_split_ands; exact ⟨(by assumption), (by assumption), (by assumption), (by assumption), (by assumption), (by assumption), (by assumption), by assumption⟩) | (go_split_ands; exact ⟨kc (fr1 _ _) (by assumption), kc (fr1 _ _) (by assumption), kc (fr1 _ _) (by assumption), kc (fr1 _ _) (by assumption), kc (fr1 _ _) (by assumption), kc (fr1 _ _) (by assumption), kc (fr1 _ _) (by assumption), kfa (by assumption)⟩))
        clear hK K
        try simp only [Act.put, List.getElem_toArray, List.getElem_cons_succ, List.getElem_cons_zero, List.setIfInBounds_toArray, List.set_cons_zero, List.set_cons_succ]
        refine wpAnyH_take (i := 6) (v := (.bool false)) rfl (by kernel_rfl) (by kernel_rfl) (by kernel_rfl) (fun _ _ _ h => h) (Or.inl ⟨by kernel_rfl, fun w hSw => by first | (go_simp; done) | (go_simp; with_reducible rfl) | (go_simp; omega)⟩) (by assumption) ?_
        try simp only [Act.put, List.getElem_toArray, List.getElem_cons_succ, List.getElem_cons_zero, List.setIfInBounds_toArray, List.set_cons_zero, List.set_cons_succ]
        refine wpAnyH_done (by kernel_rfl) ?_ _
        refine NoPanic.normal ?_
        have FX := hHeld.2.2.2.2.2.2.2
        clear hHeld
        go_wp2
        go_roundw
        case rel => (try refine ⟨_, ?_, rfl⟩); exact ⟨k + 1, by omega, by go_num, HNX.out, HF.out.trans FX.out⟩
        case measure => first | exact next_m _ _ hlt hw1 | exact next_p _ _ hlt
      · exact absurd (HCK.out.symm.trans (HOK.out _ (List.mem_of_getElem? HXK.out))) hc0
    · obtain rfl : k = l := by omega
      have hlk : ¬ (k : Int) < k := by omega
      have HFB := hid (FG.out.trans hf)
      have P1 := hid (BG.fr P0.out hf)
      obtain ⟨wc, hwc⟩ : ∃ wc : World, wc = wr := ⟨_, rfl⟩
      subst hwc
      clear hall hf
      have h1b : decide (seq < 1) = false := decide_eq_false (by have := HQS.out; omega)
      have h2b : decide (1099511627776 < seq) = false := decide_eq_false (by have := HQS.out; omega)
      go_upto_region 17 with (go_at_call 22; refine (rholes_ok seq A k c [] _ HL.out (HX.out.fr HFB.out) HOP.out HQS.out).mono ?_; rintro e w6 ⟨AB, cB, us, rfl, _, f6⟩; rw [show (gps []).length = 0 from rfl]; replace HFB := hid (HFB.out.trans f6); clear f6)
      go_wp2
      go_loopw [13] (fun i wr => i = .int .i64 0 ∧ Fr No w6 wr) (fun i _ => 0 - (intOf i).toNat)
      case atStart => exact ⟨rfl, Fr.refl _ _⟩
      case round =>
        obtain ⟨rfl, hf⟩ := hrel
        go_wp2
        go_ret
        exact ⟨rfl, HFB.out.trans hf⟩

theorem holes_card (gc gs gn gl gk seq : Int) (A : Option Addr) (l c : Nat) (xs : List Sp) (w : World) (hs : r64 gs) (hq : r64 seq) (hx : RdS w A l xs) (hw : ∀ s ∈ xs, wf s) (hT : TabAt w) :
    Calls Tryd.prog 5 #[.agg #[.int .i64 gc, .int .i64 gs, .int .i64 gn, .int .i64 gl, .int .i64 gk], .int .i64 seq, .slice A l c] w fun e w' => e = .returned (.bool true) ∧ Fr No w w' := by
  by_cases hl : l ≤ 100
  case neg => exact law_far gc gs gn gl gk seq A l c xs w hs hq hx hw hT (by omega)
  by_cases hm : mayG ⟨gc, gs, gn, gl, gk⟩
  case neg => exact law_geom gc gs gn gl gk seq A l c xs w hs hq hx hw hT hl hm
  by_cases hok : ∀ s ∈ xs, cko ⟨gc, gs, gn, gl, gk⟩ s.1 s.2 = 0
  case neg => exact law_range gc gs gn gl gk seq A l c xs w hs hq hx hw hT hl hm hok
  by_cases hqs : seq < 1 ∨ 1099511627776 < seq
  · by_cases h0 : l = 0
    · exact law_zeroA gc gs gn gl gk seq A l c xs w hs hq hx hw hT h0 hm hqs
    · exact law_num gc gs gn gl gk seq A l c xs w hs hq hx hw hT hl hm hok (by omega) hqs
  · have hqs' : 1 ≤ seq ∧ seq ≤ 1099511627776 := by omega
    by_cases h0 : l = 0
    · exact law_zeroB gc gs gn gl gk seq A l c xs w hs hq hx hw hT h0 hm hqs'
    · by_cases hb : badS seq (gps xs).length
      · exact law_bad gc gs gn gl gk seq A l c xs w hs hq hx hw hT hl hm hok hqs' hb
      · exact law_good gc gs gn gl gk seq A l c xs w hs hq hx hw hT hl hm hok hqs' (by omega) hb
end Go.Proofs.YtllolilpchmkiaaDoor.BtHk
/- The frame of the rows of package crc's laws: what the listed table gives. -/
namespace Go.Proofs.YtllolilpchmkiaaDoor.CrcK
open Go.Joins Go.ChangeShapes Go.WideShapes Go.ChangeAt Go.RowKit Go.Deep MSep MFrame CrcM CrcA

def LD : List (String × DataW Unit) := [("thatch/crc.nibbles", Rows.laid_thatch_crc_nibbles)]
theorem gNib : Tryd.prog.globalNamed "thatch/crc.nibbles" = some 0 := by kernel_rfl
theorem tNib : (Tryd.prog.globals[0]?).map (·.type) = some 124 := by kernel_rfl

theorem door_met (os : Os) (args : Array Value) : laidMetH Tryd.prog LD ((World.doorLaid Tryd.prog 400 os).forCall (fun _ _ => 0) ⟨#[], args, []⟩).memory := by
  rw [MakeChecks.laidMetH_plain _ _ _ (by kernel_rfl)]
  exact laidMet_of_run' 8 (by kernel_rfl) (by kernel_rfl)

theorem tab_of_laid {W : World} (h : laidMetH Tryd.prog LD W) : TabAt W := by
  rw [MakeChecks.laidMetH_plain _ _ _ (by kernel_rfl)] at h
  obtain ⟨ps, ⟨g0, t0, cs0, f0, p0, q0, hg0, ht0, hv0, hd0, _⟩, _⟩ := h
  obtain rfl := Option.some.inj (gNib.symm.trans hg0)
  obtain rfl := Option.some.inj (tNib.symm.trans ht0)
  obtain ⟨xs, m1, rfl, hx1, hlen, hn3, hel⟩ := DataW.trod_array Tryd.underlying124 hd0
  have c1 : Tryd.prog.cellsOf 42 = 1 := by kernel_rfl
  intro i x hi
  have hi16 : i < 16 := by
    have := (List.getElem?_eq_some_iff.1 hi).1
    exact this
  have h0 := hel i hi16
  have hxi : xs[i]? = some (xs[i]'(by omega)) := List.getElem?_eq_getElem (by omega)
  rw [hxi] at h0
  obtain ⟨k, e1, e2, _⟩ := DataW.trod_int Tryd.underlying42 h0
  rw [c1, Nat.mul_one] at e1
  have hk : (xs.map (·.1))[i]? = some (.lit (.int .u32 k)) := by rw [List.getElem?_map, hxi, e2]; rfl
  simp only [Prod.mk.injEq] at hx1
  have hl : (.agg (xs.map (·.1)) : DataW _) = Rows.laid_thatch_crc_nibbles := hx1.1.symm
  rw [show Rows.laid_thatch_crc_nibbles = (.agg (tab.map fun (x : Nat) => DataW.lit (.int .u32 x)) : DataW _) from rfl, DataW.agg.injEq] at hl
  rw [hl, List.getElem?_map, hi] at hk
  have hkx : (x : Int) = k := by simpa using hk
  have hc : cs0.toList[i]? = some (.int .u32 x) := by
    have := congrArg (fun l => l[0]?) e1
    rw [hkx]
    simpa using this
  have := World.var?_cell hg0 hv0 i
  rw [this]
  simpa using hc
end Go.Proofs.YtllolilpchmkiaaDoor.CrcK
/- What the rows over spans take: a span that came in, a slice of spans that came in. -/
namespace Go.Proofs.YtllolilpchmkiaaDoor.MSpRow
open Go.Joins Go.ChangeShapes Go.WideShapes Go.RowKit Go.Deep MFrame MSep MSepC MSpM SpA

theorem list_of {α : Type} {Q : Nat → α → Prop} : ∀ l : Nat, (∀ i, i < l → ∃ v, Q i v) → ∃ vs : List α, vs.length = l ∧ ∀ i v, vs[i]? = some v → Q i v
  | 0, _ => ⟨[], rfl, fun i v h => by simp at h⟩
  | l + 1, h => by
    obtain ⟨vs, hl, hv⟩ := list_of l (fun i hi => h i (by omega))
    obtain ⟨v, hq⟩ := h l (by omega)
    refine ⟨vs ++ [v], by simp [hl], fun i u hu => ?_⟩
    rcases Nat.lt_or_ge i l with hi | hi
    · rw [List.getElem?_append_left (by omega)] at hu
      exact hv i u hu
    · rw [List.getElem?_append_right (by omega)] at hu
      by_cases hil : i = l
      · subst hil
        simp [hl] at hu
        subst hu
        exact hq
      · rw [List.getElem?_eq_none (by simp; omega)] at hu
        cases hu

set_option maxRecDepth 100000 in
theorem span_open {H : Type} {enc : TypeId × Value → H} {w : World} {base b0 : Nat} {r : Reach} {spare : Nat → Bool} {held : Bool} {v : Value} {d : DataW H} {p : List MemPlace}
    (hv : Value.okWide Tryd.prog w r b0 57 v) (h : DataW.Trod enc Tryd.prog w base spare held 57 v d p) : ∃ a n : Int, v = .agg #[.int .i64 a, .int .i64 n] ∧ wf (a, n) := by
  obtain ⟨v0, v1, y0, y1, n, rfl, _, _, h0, h1⟩ := open_agg2 Tryd.underlying57 (by kernel_rfl) (by kernel_rfl) hv h
  obtain ⟨a0, e0, _, w0⟩ := DataW.trod_int Tryd.underlying3 h0
  obtain ⟨a1, e1, _, w1⟩ := DataW.trod_int Tryd.underlying3 h1
  simp at e0 e1
  subst e0 e1
  exact ⟨a0, a1, rfl, bounds_i64 w0, bounds_i64 w1⟩

/-- The spans' cells, read one by one, are the slice's. -/
theorem rds_of {w : World} {g o l : Nat} {xs : List Sp} (hl : xs.length = l) (hg : 0 < l → g < w.heap.size) (h : ∀ i s, xs[i]? = some s → w.cell? ⟨g, o + i * 2, none⟩ = some (.int .i64 s.1) ∧ w.cell? ⟨g, o + (i * 2 + 1), none⟩ = some (.int .i64 s.2)) : RdS w (some ⟨g, o, none⟩) l xs := by
  refine ⟨hl, by rw [cs2_len, hl], fun hn => ⟨g, o, rfl, hg (by omega), fun j u hu => ?_⟩⟩
  have hj : j < (cs2 xs).length := (List.getElem?_eq_some_iff.1 hu).1
  rw [cs2_len] at hj
  have hi : j / 2 < xs.length := by omega
  have hx : xs[j / 2]? = some xs[j / 2] := List.getElem?_eq_getElem hi
  obtain ⟨h0, h1⟩ := h _ _ hx
  obtain ⟨c0, c1⟩ := cs2_get0 hx
  rcases Nat.mod_two_eq_zero_or_one j with e | e
  · have ej : j = j / 2 * 2 := by omega
    rw [← ej] at h0 c0
    rw [hu] at c0
    injection c0 with c0
    rw [h0, c0]
  · have ej : j = j / 2 * 2 + 1 := by omega
    rw [← ej] at h1 c1
    rw [hu] at c1
    injection c1 with c1
    rw [h1, c1]

set_option maxRecDepth 100000 in
theorem spans_open {H : Type} {enc : TypeId × Value → H} {w : World} {base : Nat} {spare : Nat → Bool} {held : Bool} {A : Option Addr} {l c : Nat} {d : DataW H} {p : List MemPlace} (hsp : ∀ b, spare b = true)
    (h : DataW.Trod enc Tryd.prog w base spare held 24 (.slice A l c) d p) : ∃ xs, RdS w A l xs ∧ (∀ s ∈ xs, wf s) ∧ l ≤ c ∧ c ≤ maxLen := by
  obtain ⟨fuel, hf⟩ := h
  rcases open_slice_fields Tryd.underlying24 Tryd.underlying57 (by kernel_rfl) (by kernel_rfl) hf with ⟨hcs, _⟩ | ⟨a, l', c', m, D, Pl, hcs, _, hl, hm, hmm, _, hfi⟩
  · simp [Value.cells] at hcs
    obtain ⟨rfl, rfl, rfl⟩ := hcs
    exact ⟨[], RdS.nil _ _, by simp, Nat.le_refl _, by simp [maxLen]⟩
  · simp [Value.cells] at hcs
    obtain ⟨rfl, rfl, rfl⟩ := hcs
    have hmc : m = c := by simpa [hsp] using hmm
    subst hmc
    rcases Nat.eq_zero_or_pos l with h0 | h0
    · subst h0
      exact ⟨[], RdS.nil _ _, by simp, hl, hm⟩
    · have hspot : a.spot = none := by
        obtain ⟨ys, n, _, _, _, hfs⟩ := hfi 0 (by omega)
        obtain ⟨v0, y0, c0, _, t0⟩ := hfs 0 _ rfl
        have := World.cell?_spot c0
        simpa [Addr.add] using this
      have ha : a = ⟨a.block, a.off, none⟩ := by rw [← hspot]
      have hadd : ∀ k, a.add k = ⟨a.block, a.off + k, none⟩ := fun k => by
        rw [ha]
        exact add_off _ _ k
      obtain ⟨xs, hlen, hxs⟩ := list_of (Q := fun i (s : Sp) => wf s ∧ a.block < w.heap.size ∧ w.cell? ⟨a.block, a.off + i * 2, none⟩ = some (.int .i64 s.1) ∧ w.cell? ⟨a.block, a.off + (i * 2 + 1), none⟩ = some (.int .i64 s.2)) l (fun i hi => by
        obtain ⟨ys, n, _, _, _, hfs⟩ := hfi i (by omega)
        obtain ⟨v0, y0, c0, _, t0⟩ := hfs 0 _ rfl
        obtain ⟨v1, y1, c1, _, t1⟩ := hfs 1 _ rfl
        obtain ⟨a0, e0, _, w0⟩ := DataW.trod_int Tryd.underlying3 t0
        obtain ⟨a1, e1, _, w1⟩ := DataW.trod_int Tryd.underlying3 t1
        simp at e0 e1
        subst e0 e1
        have hb := World.block_lt_of_cell? w _ c0
        simp only [hadd] at c0 c1
        refine ⟨(a0, a1), ⟨bounds_i64 w0, bounds_i64 w1⟩, by simpa [block_of_add] using hb, c0, c1⟩)
      refine ⟨xs, ?_, fun s hs => ?_, hl, hm⟩
      · rw [ha]
        refine rds_of hlen (fun _ => ?_) (fun i s hs => (hxs i s hs).2.2)
        have h1 : xs[0]? = some xs[0] := List.getElem?_eq_getElem (by omega)
        exact (hxs 0 _ h1).2.1
      · obtain ⟨i, hi⟩ := List.getElem?_of_mem hs
        exact (hxs i s hi).1
end Go.Proofs.YtllolilpchmkiaaDoor.MSpRow
/- What the rows over batches take: a batch that came in. -/
namespace Go.Proofs.YtllolilpchmkiaaDoor.BtRow
open Go.Joins Go.ChangeShapes Go.WideShapes Go.RowKit Go.Deep MFrame MSep MSepC MSpM SpA BtA

section
variable {H : Type} {enc : TypeId × Value → H} {P : Program} {w : World} {base : Nat} {spare : Nat → Bool} {held : Bool}
theorem open_agg3 {r : Reach} {b0 : Nat} {t : TypeId} {f0 f1 f2 : Field} {v : Value} {d : DataW H} {p : List MemPlace} (hs : P.underlying t = some (.struct #[f0, f1, f2])) (hone : oneCellFields P #[f0, f1, f2] = true) (hC : P.cellsOf t = 3)
    (hv : Value.okWide P w r b0 t v) (h : DataW.Trod enc P w base spare held t v d p) :
    ∃ (v0 v1 v2 : Value) (y0 y1 y2 : DataW H × List MemPlace) (n : Nat), v = .agg #[v0, v1, v2] ∧
      DataW.trod enc P w base spare held n f0.type [v0] = some y0 ∧ DataW.trod enc P w base spare held n f1.type [v1] = some y1 ∧ DataW.trod enc P w base spare held n f2.type [v2] = some y2 := by
  obtain ⟨cs, rfl, hsz⟩ := okWide_struct hs hv
  obtain ⟨l⟩ := cs
  match l, hsz.trans hC with
  | [c0, c1, c2], _ =>
    obtain ⟨fuel, hf⟩ := h
    obtain ⟨xs, n, _, hx, _, hlen, hg⟩ := DataW.trod_struct hs hf
    obtain ⟨o0, k0⟩ := hone_of hone 0 f0 rfl
    obtain ⟨o1, k1⟩ := hone_of hone 1 f1 rfl
    obtain ⟨o2, k2⟩ := hone_of hone 2 f2 rfl
    match xs, hlen with
    | [y0, y1, y2], _ =>
      exact ⟨c0, c1, c2, y0, y1, y2, n, rfl, by simpa [Value.cells, o0, k0] using hg 0 f0 rfl, by simpa [Value.cells, o1, k1] using hg 1 f1 rfl, by simpa [Value.cells, o2, k2] using hg 2 f2 rfl⟩
end

set_option maxRecDepth 100000 in
theorem spans_in {H : Type} {enc : TypeId × Value → H} {w : World} {base fuel : Nat} {spare : Nat → Bool} {held : Bool} {u : Value} {y : DataW H × List MemPlace} (hsp : ∀ b, spare b = true)
    (hf : DataW.trod enc Tryd.prog w base spare held fuel 24 [u] = some y) : ∃ A l c xs, u = .slice A l c ∧ RdS w A l xs ∧ (∀ s ∈ xs, wf s) ∧ l ≤ c ∧ c ≤ maxLen := by
  have hu : ∃ A l c, u = .slice A l c := by
    rcases open_slice_fields Tryd.underlying24 Tryd.underlying57 (by kernel_rfl) (by kernel_rfl) hf with ⟨hcs, _⟩ | ⟨a, l, c, m, D, Pl, hcs, _⟩
    · exact ⟨none, 0, 0, by simpa using hcs⟩
    · exact ⟨some a, l, c, by simpa using hcs⟩
  obtain ⟨A, l, c, rfl⟩ := hu
  obtain ⟨xs, h⟩ := MSpRow.spans_open (d := y.1) (p := y.2) hsp ⟨fuel, by simpa [Value.cells] using hf⟩
  exact ⟨A, l, c, xs, rfl, h⟩
set_option maxRecDepth 100000 in
theorem batch_open {H : Type} {enc : TypeId × Value → H} {w : World} {base b0 : Nat} {r : Reach} {spare : Nat → Bool} {held : Bool} {v : Value} {d : DataW H} {p : List MemPlace} (hsp : ∀ b, spare b = true)
    (hv : Value.okWide Tryd.prog w r b0 26 v) (h : DataW.Trod enc Tryd.prog w base spare held 26 v d p) : ∃ q k A l c xs, v = bv q k A l c ∧ RdS w A l xs ∧ (∀ s ∈ xs, wf s) ∧ l ≤ c ∧ c ≤ maxLen := by
  obtain ⟨v0, v1, v2, y0, y1, y2, n, rfl, h0, h1, h2⟩ := open_agg3 Tryd.underlying26 (by kernel_rfl) (by kernel_rfl) hv h
  obtain ⟨a0, e0, _, _⟩ := DataW.trod_int Tryd.underlying3 h0
  obtain ⟨a1, e1, _, _⟩ := DataW.trod_int Tryd.underlying3 h1
  obtain ⟨A, l, c, xs, rfl, hx, hw, hl, hc⟩ := spans_in hsp h2
  simp at e0 e1
  subst e0 e1
  exact ⟨a0, a1, A, l, c, xs, rfl, hx, hw, hl, hc⟩
end Go.Proofs.YtllolilpchmkiaaDoor.BtRow
/- What the rows over geometries take: a geometry, a shape, a span that came in. -/
namespace Go.Proofs.YtllolilpchmkiaaDoor.MGeRow
open Go.Joins Go.ChangeShapes Go.WideShapes Go.RowKit Go.Deep MFrame MSep SpA

section
variable {H : Type} {enc : TypeId × Value → H} {P : Program} {w : World} {base : Nat} {spare : Nat → Bool} {held : Bool}
theorem open_agg5 {r : Reach} {b0 : Nat} {t : TypeId} {f0 f1 f2 f3 f4 : Field} {v : Value} {d : DataW H} {p : List MemPlace} (hs : P.underlying t = some (.struct #[f0, f1, f2, f3, f4])) (hone : oneCellFields P #[f0, f1, f2, f3, f4] = true) (hC : P.cellsOf t = 5)
    (hv : Value.okWide P w r b0 t v) (h : DataW.Trod enc P w base spare held t v d p) :
    ∃ (v0 v1 v2 v3 v4 : Value) (y0 y1 y2 y3 y4 : DataW H × List MemPlace) (n : Nat), v = .agg #[v0, v1, v2, v3, v4] ∧ d = .agg [y0.1, y1.1, y2.1, y3.1, y4.1] ∧ p = y0.2 ++ (y1.2 ++ (y2.2 ++ (y3.2 ++ y4.2))) ∧
      DataW.trod enc P w base spare held n f0.type [v0] = some y0 ∧ DataW.trod enc P w base spare held n f1.type [v1] = some y1 ∧ DataW.trod enc P w base spare held n f2.type [v2] = some y2 ∧ DataW.trod enc P w base spare held n f3.type [v3] = some y3 ∧ DataW.trod enc P w base spare held n f4.type [v4] = some y4 := by
  obtain ⟨cs, rfl, hsz⟩ := okWide_struct hs hv
  obtain ⟨l⟩ := cs
  match l, hsz.trans hC with
  | [c0, c1, c2, c3, c4], _ =>
    obtain ⟨fuel, hf⟩ := h
    obtain ⟨xs, n, _, hx, _, hlen, hg⟩ := DataW.trod_struct hs hf
    obtain ⟨o0, k0⟩ := hone_of hone 0 f0 rfl
    obtain ⟨o1, k1⟩ := hone_of hone 1 f1 rfl
    obtain ⟨o2, k2⟩ := hone_of hone 2 f2 rfl
    obtain ⟨o3, k3⟩ := hone_of hone 3 f3 rfl
    obtain ⟨o4, k4⟩ := hone_of hone 4 f4 rfl
    match xs, hlen with
    | [y0, y1, y2, y3, y4], _ =>
      simp only [Prod.mk.injEq] at hx
      exact ⟨c0, c1, c2, c3, c4, y0, y1, y2, y3, y4, n, rfl, by simpa using hx.1, by simpa using hx.2, by simpa [Value.cells, o0, k0] using hg 0 f0 rfl, by simpa [Value.cells, o1, k1] using hg 1 f1 rfl, by simpa [Value.cells, o2, k2] using hg 2 f2 rfl, by simpa [Value.cells, o3, k3] using hg 3 f3 rfl, by simpa [Value.cells, o4, k4] using hg 4 f4 rfl⟩
end

set_option maxRecDepth 100000 in
theorem span_open {H : Type} {enc : TypeId × Value → H} {w : World} {base b0 : Nat} {r : Reach} {spare : Nat → Bool} {held : Bool} {v : Value} {d : DataW H} {p : List MemPlace}
    (hv : Value.okWide Tryd.prog w r b0 57 v) (h : DataW.Trod enc Tryd.prog w base spare held 57 v d p) : ∃ a n : Int, v = .agg #[.int .i64 a, .int .i64 n] ∧ wf (a, n) := by
  obtain ⟨v0, v1, y0, y1, n, rfl, _, _, h0, h1⟩ := open_agg2 Tryd.underlying57 (by kernel_rfl) (by kernel_rfl) hv h
  obtain ⟨a0, e0, _, w0⟩ := DataW.trod_int Tryd.underlying3 h0
  obtain ⟨a1, e1, _, w1⟩ := DataW.trod_int Tryd.underlying3 h1
  simp at e0 e1
  subst e0 e1
  exact ⟨a0, a1, rfl, bounds_i64 w0, bounds_i64 w1⟩
set_option maxRecDepth 100000 in
theorem geom_open {H : Type} {enc : TypeId × Value → H} {w : World} {base b0 : Nat} {r : Reach} {spare : Nat → Bool} {held : Bool} {v : Value} {d : DataW H} {p : List MemPlace}
    (hv : Value.okWide Tryd.prog w r b0 23 v) (h : DataW.Trod enc Tryd.prog w base spare held 23 v d p) : ∃ c s n l k : Int, v = .agg #[.int .i64 c, .int .i64 s, .int .i64 n, .int .i64 l, .int .i64 k] ∧ (-9223372036854775808 ≤ s ∧ s ≤ 9223372036854775807) := by
  obtain ⟨v0, v1, v2, v3, v4, y0, y1, y2, y3, y4, n, rfl, _, _, h0, h1, h2, h3, h4⟩ := open_agg5 Tryd.underlying23 (by kernel_rfl) (by kernel_rfl) hv h
  obtain ⟨a0, e0, _, _⟩ := DataW.trod_int Tryd.underlying3 h0
  obtain ⟨a1, e1, _, w1⟩ := DataW.trod_int Tryd.underlying3 h1
  obtain ⟨a2, e2, _, _⟩ := DataW.trod_int Tryd.underlying3 h2
  obtain ⟨a3, e3, _, _⟩ := DataW.trod_int Tryd.underlying3 h3
  obtain ⟨a4, e4, _, _⟩ := DataW.trod_int Tryd.underlying3 h4
  simp at e0 e1 e2 e3 e4
  subst e0 e1 e2 e3 e4
  exact ⟨a0, a1, a2, a3, a4, rfl, bounds_i64 w1⟩
set_option maxRecDepth 100000 in
theorem shape_open {H : Type} {enc : TypeId × Value → H} {w : World} {base b0 : Nat} {r : Reach} {spare : Nat → Bool} {held : Bool} {v : Value} {d : DataW H} {p : List MemPlace}
    (hv : Value.okWide Tryd.prog w r b0 78 v) (h : DataW.Trod enc Tryd.prog w base spare held 78 v d p) : ∃ c s n l : Int, v = .agg #[.int .i64 c, .int .i64 s, .int .i64 n, .int .i64 l] := by
  obtain ⟨v0, v1, v2, v3, y0, y1, y2, y3, n, rfl, _, _, h0, h1, h2, h3⟩ := open_agg4 Tryd.underlying78 (by kernel_rfl) (by kernel_rfl) hv h
  obtain ⟨a0, e0, _, _⟩ := DataW.trod_int Tryd.underlying3 h0
  obtain ⟨a1, e1, _, _⟩ := DataW.trod_int Tryd.underlying3 h1
  obtain ⟨a2, e2, _, _⟩ := DataW.trod_int Tryd.underlying3 h2
  obtain ⟨a3, e3, _, _⟩ := DataW.trod_int Tryd.underlying3 h3
  simp at e0 e1 e2 e3
  subst e0 e1 e2 e3
  exact ⟨a0, a1, a2, a3, rfl⟩
end Go.Proofs.YtllolilpchmkiaaDoor.MGeRow
/- Any spans as batches of nothing: all of them, in order, whatever the geometry, the first number and the spans are. Conditions: none but the statement's own. -/
namespace Go.Proofs.YtllolilpchmkiaaDoor.BatchHolesP
open Go.Joins Go.ChangeShapes Go.WideShapes Go.ChangeAt Go.RowKit Go.Deep MSep MFrame CrcA CrcK

set_option maxRecDepth 100000 in
set_option maxHeartbeats 2000000 in
theorem lifted (os : Os) (started : os.Started) (H : Type) (enc : TypeId × Value → H) :
    ReturnsInHanded {} Tryd.checked os 5 .any (fun w args => (Rows.batchHolesSpec.pre enc Tryd.prog Tryd.f5 [] false w args ∧ laidMetH Tryd.prog LD w) ∧ sizedMet enc Tryd.prog Tryd.f5 (OpenSpec.ofChange Rows.batchHolesSpec) false w args)
      (Rows.batchHolesSpec.post enc Tryd.prog Tryd.f5 false true false false) := by
  refine returnsInHanded_of_change_and (C := Tryd.checked) (X := fun w _ => laidMetH Tryd.prog LD w) (fun _ _ _ hh h => h.of_heap hh) own started (by kernel_rfl) Tryd.func5
    (ChangeSpec.witness_shaped (enc := enc) (C := Tryd.checked) (os := os) (X := fun w _ => laidMetH Tryd.prog LD w) false (World.doorLaid Tryd.prog 400 os) #[.agg #[.int .i64 0, .int .i64 0, .int .i64 0, .int .i64 0, .int .i64 0], .int .i64 0, .slice none 0 0] 8 rfl (World.shaped_of_RefB (by kernel_rfl) (by kernel_rfl)) (by kernel_rfl) (by kernel_rfl) (by kernel_rfl) (door_met os _)) ?_
  intro W base args ds gs before hval0 hW _ _ hL _
  have hval : ∀ (j : Nat) t v, Tryd.f5.params[j]? = some t → args[j]? = some v → Value.okWide Tryd.prog W .any base t v := hval0
  have hW' := hW
  obtain ⟨p, q, hA0, hV, rfl, hfz, hnd⟩ := hW
  have hA : DataW.TrodAll enc Tryd.prog W 0 (fun _ => true) true Tryd.f5.params.toList args.toList ds p := hA0
  rw [Tryd.params5] at hA hval
  obtain ⟨v0, vs0, d0, ds0, p0, q0, hargs, rfl, rfl, h0, r0⟩ := trodAll_cons hA
  obtain ⟨v1, vs1, d1, ds1, p1, q1, rfl, rfl, rfl, h1, r1⟩ := trodAll_cons r0
  obtain ⟨v2, vs2, d2, ds2, p2, q2, rfl, rfl, rfl, h2, r2⟩ := trodAll_cons r1
  obtain ⟨rfl, rfl, rfl⟩ := trodAll_nil r2
  obtain rfl : args = #[v0, v1, v2] := by cases args; simp_all
  obtain ⟨rfl, rfl⟩ := trodVars_none hV
  have k0 := h0
  have lt0 : ∀ x ∈ p0, x.block < W.heap.size := by obtain ⟨m, hm⟩ := k0; exact DataW.trod_lt m _ _ _ hm
  obtain ⟨gc0, gs0, gn0, gl0, gk0, rfl, f0⟩ := MGeRow.geom_open (hval 0 23 v0 rfl rfl) h0
  obtain ⟨a1, rfl, rfl, rfl, w1⟩ := open_int Tryd.underlying3 (hval 1 3 v1 rfl rfl) h1
  have k2 := h2
  have lt2 : ∀ x ∈ p2, x.block < W.heap.size := by obtain ⟨m, hm⟩ := k2; exact DataW.trod_lt m _ _ _ hm
  obtain ⟨q2a, q2b, q2c, rfl⟩ := okWide_slice Tryd.underlying24 (hval 2 24 v2 rfl rfl)
  obtain ⟨fu2, hf2⟩ := h2
  simp only [Value.cells] at hf2
  obtain ⟨A2, l2, c2, x2, hq2, rx2, wx2, le2, ce2⟩ := BtRow.spans_in (fun _ => rfl) hf2
  cases hq2
  clear hA0 hval0
  refine (BtHk.holes_card gc0 gs0 gn0 gl0 gk0 a1 q2a q2b q2c x2 W f0 (bounds_i64 w1) rx2 wx2 (tab_of_laid hL)).mono fun e W' ⟨he, fr⟩ => ?_
  have bel : Below W.heap.size W W' := fr.below (Nat.le_refl _) (fun _ h => h.elim)
  subst he
  exact ⟨_, rfl, _, _, _, [], _, [], hW', trodAll_mk1 (shut_bool Tryd.underlying4 _), (trodAll_cons_mk (Below.trod laidOut (by kernel_rfl) (of_decide_eq_true (by kernel_rfl)) k0 bel lt0) (trodAll_cons_mk (shut_int Tryd.underlying3 w1) (trodAll_cons_mk (Below.trod laidOut (by kernel_rfl) (of_decide_eq_true (by kernel_rfl)) k2 bel lt2) trodAll_mk0))), rfl, bel.frame _, fun h => by cases h⟩

theorem over : Rows.batchHolesRow.holds Tryd.pinned (OpenSpec.ofChange Rows.batchHolesSpec) :=
  OpenClaim.holds_of_wide 5 Tryd.f5 rfl rfl rfl rfl rfl rfl rfl ⟨rfl, rfl, rfl, rfl, rfl⟩ rfl rfl rfl rfl rfl (by kernel_rfl) Tryd.func5 (by kernel_rfl)
    (of_decide_eq_true (by kernel_rfl)) (by unfold Func.isWrapper; first | (rw [if_pos (by decide +kernel)]; kernel_rfl) | (rw [if_neg (by decide +kernel)]; exact ⟨rfl, rfl⟩))
    (fun os started H enc _ => lifted os started H enc)

theorem proved : Rows.BatchHolesCardSaid :=
  Claim7.holds_tied_plain_at .later [] [.data] true Rows.batchHolesCard.stood.harness false
    over (fun _ h => by cases h) (by kernel_rfl) (fun _ h => by cases h) batchHoles_row_tie rfl ⟨rfl, rfl⟩ (by kernel_rfl) rfl
    (fun f fn hf hfn => by
      obtain rfl : f = 5 := Option.some.inj ((show Tryd.prog.funcNamed "thatch/thatchlaw16.BatchHoles" = some 5 by kernel_rfl).symm.trans hf) |>.symm
      obtain rfl : fn = Tryd.f5 := (Option.some.inj (Tryd.func5.symm.trans hfn)).symm
      exact ⟨by kernel_rfl, fun j t ht => by
        rw [Tryd.params5] at ht
        have hm : t ∈ [23, 3, 24] := by simpa using Array.mem_of_getElem? ht
        have hall : ([23, 3, 24].all fun u => !Tryd.prog.wantsStandIn u) = true := by kernel_rfl
        exact (show Tryd.prog.wantsStandIn t = false by simpa using List.all_eq_true.1 hall t hm)⟩)
    (by kernel_rfl)
#print axioms proved
end Go.Proofs.YtllolilpchmkiaaDoor.BatchHolesP
