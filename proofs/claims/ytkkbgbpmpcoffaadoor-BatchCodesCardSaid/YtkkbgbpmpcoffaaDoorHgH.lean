import Derived.Test.YtkkbgbpmpcoffaaDoorHgD
/- The law BatchCodes: its short ways. Conditions: the table of sums is as its text lays it; what comes in reads as spans and bytes; all numbers are 64 bits. -/
namespace Go.Proofs.YtkkbgbpmpcoffaaDoor.BtCd
open Go.RowKit MSep MSepC MSpM MGeM MFrame Kit BtA BtF CrcA CrcM CrcE BtG BtH BtK BtL BtO BtDd BtT
open BtM (Ba mayB size_ spsOk_may)
open BtD (may_ok)
open BtRd (rlay_yes rlay_no)
open SpA (wf w64)
open GeA (bg BG ld_geom)


set_option maxRecDepth 100000 in
set_option maxHeartbeats 8000000 in
theorem codes_far (gc gs gn gl gk q k : Int) (A : Option Addr) (c : Nat) (xs : List Sp) (dA : Option Addr) (dl dc : Nat) (zs : List Int) (b : Int) (w : World) (hs : r64 gs) (hlc : xs.length ≤ c) (hx : RdS w A xs.length xs) (hw : ∀ s ∈ xs, wf s) (hz : IsB w dA dl dc zs) (hT : TabAt w) (hf : 100 < xs.length ∨ 5000 < dl) :
    Calls Tryd.prog 3 #[.agg #[.int .i64 gc, .int .i64 gs, .int .i64 gn, .int .i64 gl, .int .i64 gk], bv q k A xs.length c, .slice dA dl dc, .int .u8 b] w fun e w' => e = .returned (.bool true) ∧ Fr No w w' := by
  obtain ⟨G, hG⟩ : ∃ G, w.heap.size = G := ⟨_, rfl⟩
  obtain ⟨w1, hw1⟩ : ∃ w1, (w.alloc (bg gc gs gn gl gk)).alloc (.cells (bcs q k A xs.length c) 26) = w1 := ⟨_, rfl⟩
  have FG := hid (show Fr No w w1 by rw [← hw1]; exact (fr1 _ _).alloc _)
  have P0 := hid (show BG w1 G gc gs gn gl gk by rw [← hw1, ← hG]; exact (BG.new w gc gs gn gl gk : Blk _ _ _ _).alloc _)
  have P1 := hid (show BB w1 (G + 1) q k A xs.length c by
    rw [← hw1, ← hG]
    have := BB.new (w.alloc (bg gc gs gn gl gk)) q k A xs.length c
    rwa [World.size_alloc] at this)
  have HG := hid hG
  have HS := hid hs
  have HLC := hid hlc
  have HX := hid hx
  have HW := hid hw
  have HZ := hid hz
  have HT := hid hT
  have HW1 := hid hw1
  clear hs hlc hx hw hz hT hw1
  go_enter Tryd.func3, Tryd.ntmps3
  go_upto_region 1 with fail
  try rw [show (w.alloc (Obj.cells #[.int .i64 gc, .int .i64 gs, .int .i64 gn, .int .i64 gl, .int .i64 gk] 23)).alloc (Obj.cells #[.int .i64 q, .int .i64 k, .slice A xs.length c] 26) = w1 from HW1.out]
  try rw [World.size_alloc]
  try rw [hG]
  clear hG
  obtain ⟨_, _, b2⟩ := BB.cells P1.out
  by_cases h1 : 100 < xs.length
  · have hlb : decide ((100 : Int) < (xs.length : Int)) = true := decide_eq_true (by omega)
    go_wp2_with (go_at_call 4; refine (lives_ok _ (HT.out.fr FG.out (fun h => h))).mono ?_; rintro e wl ⟨rfl, f⟩; replace FG := hid (FG.out.trans f); clear f)
    go_ret
    exact ⟨rfl, FG.out⟩
  · have hlb : decide ((100 : Int) < (xs.length : Int)) = false := decide_eq_false (by omega)
    have hlb2 : ¬ (100 : Int) < (xs.length : Int) := by omega
    have hdb : decide ((5000 : Int) < (dl : Int)) = true := decide_eq_true (by omega)
    go_wp2_with (go_at_call 4; refine (lives_ok _ (HT.out.fr FG.out (fun h => h))).mono ?_; rintro e wl ⟨rfl, f⟩; replace FG := hid (FG.out.trans f); clear f)
    go_ret
    exact ⟨rfl, FG.out⟩

set_option maxRecDepth 100000 in
set_option maxHeartbeats 8000000 in
theorem codes_geom (gc gs gn gl gk q k : Int) (A : Option Addr) (c : Nat) (xs : List Sp) (dA : Option Addr) (dl dc : Nat) (zs : List Int) (b : Int) (w : World) (hs : r64 gs) (hlc : xs.length ≤ c) (hx : RdS w A xs.length xs) (hw : ∀ s ∈ xs, wf s) (hz : IsB w dA dl dc zs) (hT : TabAt w) (hl1 : xs.length ≤ 100) (hl2 : dl ≤ 5000) (hm : ¬ mayG ⟨gc, gs, gn, gl, gk⟩) :
    Calls Tryd.prog 3 #[.agg #[.int .i64 gc, .int .i64 gs, .int .i64 gn, .int .i64 gl, .int .i64 gk], bv q k A xs.length c, .slice dA dl dc, .int .u8 b] w fun e w' => e = .returned (.bool true) ∧ Fr No w w' := by
  have hlb : decide ((100 : Int) < (xs.length : Int)) = false := decide_eq_false (by omega)
  have hdb : decide ((5000 : Int) < (dl : Int)) = false := decide_eq_false (by omega)
  have hlb2 : ¬ (100 : Int) < (xs.length : Int) := by omega
  have hdb2 : ¬ (5000 : Int) < (dl : Int) := by omega
  have HSM := hid (And.intro hl1 hl2)
  clear hl1 hl2
  obtain ⟨G, hG⟩ : ∃ G, w.heap.size = G := ⟨_, rfl⟩
  obtain ⟨w1, hw1⟩ : ∃ w1, (w.alloc (bg gc gs gn gl gk)).alloc (.cells (bcs q k A xs.length c) 26) = w1 := ⟨_, rfl⟩
  have FG := hid (show Fr No w w1 by rw [← hw1]; exact (fr1 _ _).alloc _)
  have P0 := hid (show BG w1 G gc gs gn gl gk by rw [← hw1, ← hG]; exact (BG.new w gc gs gn gl gk : Blk _ _ _ _).alloc _)
  have P1 := hid (show BB w1 (G + 1) q k A xs.length c by
    rw [← hw1, ← hG]
    have := BB.new (w.alloc (bg gc gs gn gl gk)) q k A xs.length c
    rwa [World.size_alloc] at this)
  have HG := hid hG
  have HS := hid hs
  have HLC := hid hlc
  have HX := hid hx
  have HW := hid hw
  have HZ := hid hz
  have HT := hid hT
  have HW1 := hid hw1
  have HM := hid hm
  have HMV := hid (show false = true ↔ mayB ⟨gc, gs, gn, gl, gk⟩ ⟨q, k, xs⟩ from ⟨(fun h => by cases h), fun h => absurd h.1 hm⟩)
  clear hm
  clear hs hlc hx hw hz hT hw1
  go_enter Tryd.func3, Tryd.ntmps3
  go_upto_region 1 with fail
  try rw [show (w.alloc (Obj.cells #[.int .i64 gc, .int .i64 gs, .int .i64 gn, .int .i64 gl, .int .i64 gk] 23)).alloc (Obj.cells #[.int .i64 q, .int .i64 k, .slice A xs.length c] 26) = w1 from HW1.out]
  try rw [World.size_alloc]
  try rw [hG]
  clear hG
  obtain ⟨_, _, b2⟩ := BB.cells P1.out
  go_upto_region 4 with (first | ((with_reducible refine ld_geom rfl (.tmp 4) rfl G ?_ P0.out ?_); · rfl) | ((with_reducible refine ld_bt rfl (.tmp 5) rfl (G + 1) ?_ P1.out ?_); · rfl) | (go_at_call 5; refine (encode_geom gc gs gn gl gk q k A c xs dA dl dc _ HS.out HM.out).mono ?_; rintro e v1 ⟨rfl, f⟩; replace FG := hid (FG.out.trans f); replace P0 := hid (BG.fr P0.out f); replace P1 := hid (BB.fr P1.out f); clear f))
  obtain ⟨g0, g1, g2, g3, g4⟩ := P0.out.cells
  obtain ⟨b0, b1, b2⟩ := BB.cells P1.out
  have FW := hid (Fr.refl No v1)
  have FW := kd FW
  refine wp_region_noPanic ?_
  refine wp_region_held_drew (S := (fun W' => W'.cell? ⟨G, 0, none⟩ = some (.int .i64 gc) ∧ W'.cell? ⟨G, 1, none⟩ = some (.int .i64 gs) ∧ W'.cell? ⟨G, 2, none⟩ = some (.int .i64 gn) ∧ W'.cell? ⟨G, 3, none⟩ = some (.int .i64 gl) ∧ W'.cell? ⟨G, 4, none⟩ = some (.int .i64 gk) ∧ W'.cell? ⟨G + 1, 0, none⟩ = some (.int .i64 q) ∧ W'.cell? ⟨G + 1, 1, none⟩ = some (.int .i64 k) ∧ W'.cell? ⟨G + 1, 2, none⟩ = some (.slice A xs.length c) ∧ Hid (Fr No v1 W'))) (by kernel_rfl) ?_ (fun hHeld => ?_)
  · (try dsimp only); (first | (go_split_ands; exact ⟨kc f (by assumption), kc f (by assumption), kc f (by assumption), kc f (by assumption), kc f (by assumption), kc f (by assumption), kc f (by assumption), kc f (by assumption), by assumption⟩) | (go_split_ands; exact ⟨(by assumption), (by assumption), (by assumption), (by assumption), (by assumption), (by assumption), (by assumption), (by assumption), by assumption⟩) | (go_split_ands; exact ⟨kc (fr1 _ _) (by assumption), kc (fr1 _ _) (by assumption), kc (fr1 _ _) (by assumption), kc (fr1 _ _) (by assumption), kc (fr1 _ _) (by assumption), kc (fr1 _ _) (by assumption), kc (fr1 _ _) (by assumption), kc (fr1 _ _) (by assumption), kfa (by assumption)⟩))
  refine wpAnyH_ready (rs := [0]) (by kernel_rfl) (by simp) (AllReadyH.cons rfl (fun K hK => ?_) AllReadyH.nil)
  go_simp
  go_at_call 4
  refine (lives_ok _ (HT.out.fr (FG.out.trans hHeld.2.2.2.2.2.2.2.2.out) (fun h => h))).mono ?_
  rintro e W1 ⟨rfl, f⟩
  have FW := kf f hHeld.2.2.2.2.2.2.2.2
  dsimp only
  refine hK.out _ _ ?_ (fun hHeld => ?_)
  · (try dsimp only); (first | (go_split_ands; exact ⟨kc f (by assumption), kc f (by assumption), kc f (by assumption), kc f (by assumption), kc f (by assumption), kc f (by assumption), kc f (by assumption), kc f (by assumption), by assumption⟩) | (go_split_ands; exact ⟨(by assumption), (by assumption), (by assumption), (by assumption), (by assumption), (by assumption), (by assumption), (by assumption), by assumption⟩) | (go_split_ands; exact ⟨kc (fr1 _ _) (by assumption), kc (fr1 _ _) (by assumption), kc (fr1 _ _) (by assumption), kc (fr1 _ _) (by assumption), kc (fr1 _ _) (by assumption), kc (fr1 _ _) (by assumption), kc (fr1 _ _) (by assumption), kc (fr1 _ _) (by assumption), kfa (by assumption)⟩))
  clear hK K
  try simp only [Act.put, List.getElem_toArray, List.getElem_cons_succ, List.getElem_cons_zero, List.setIfInBounds_toArray, List.set_cons_zero, List.set_cons_succ]
  refine wpAnyH_take (i := 1) (v := (.bool false)) rfl (by kernel_rfl) (by kernel_rfl) (by kernel_rfl) (fun _ _ _ h => h) (Or.inl ⟨by kernel_rfl, fun w hSw => by first | (go_simp; done) | (go_simp; with_reducible rfl) | (go_simp; omega)⟩) (by assumption) ?_
  try simp only [Act.put, List.getElem_toArray, List.getElem_cons_succ, List.getElem_cons_zero, List.setIfInBounds_toArray, List.set_cons_zero, List.set_cons_succ]
  refine wpAnyH_take (i := 2) (v := (.bool false)) rfl (by kernel_rfl) (by kernel_rfl) (by kernel_rfl) (fun _ _ _ h => h) (Or.inl ⟨by kernel_rfl, fun w hSw => by first | (go_simp; done) | (go_simp; with_reducible rfl) | (go_simp; omega)⟩) (by assumption) ?_
  try simp only [Act.put, List.getElem_toArray, List.getElem_cons_succ, List.getElem_cons_zero, List.setIfInBounds_toArray, List.set_cons_zero, List.set_cons_succ]
  refine wpAnyH_take (i := 3) (v := ?v1) rfl (by kernel_rfl) (by kernel_rfl) (by kernel_rfl) (fun _ _ _ h => h) (Or.inl ⟨by kernel_rfl, ?y1⟩) (by assumption) ?_
  case y1 => (intro w hSw; (try dsimp only at hSw); go_simp; all_goals with_reducible rfl)
  try simp only [Act.put, List.getElem_toArray, List.getElem_cons_succ, List.getElem_cons_zero, List.setIfInBounds_toArray, List.set_cons_zero, List.set_cons_succ]
  refine wpAnyH_take (i := 4) (v := ?v2) rfl (by kernel_rfl) (by kernel_rfl) (by kernel_rfl) (fun _ _ _ h => h) (Or.inl ⟨by kernel_rfl, ?y2⟩) (by assumption) ?_
  case y2 => (intro w hSw; (try dsimp only at hSw); go_simp; all_goals with_reducible rfl)
  try simp only [Act.put, List.getElem_toArray, List.getElem_cons_succ, List.getElem_cons_zero, List.setIfInBounds_toArray, List.set_cons_zero, List.set_cons_succ]
  refine wpAnyH_take (i := 6) (v := ?v3) rfl (by kernel_rfl) (by kernel_rfl) (by kernel_rfl) (fun _ _ _ h => h) (Or.inl ⟨by kernel_rfl, ?y3⟩) (by assumption) ?_
  case y3 => (intro w hSw; (try dsimp only at hSw); go_simp; all_goals with_reducible rfl)
  try simp only [Act.put, List.getElem_toArray, List.getElem_cons_succ, List.getElem_cons_zero, List.setIfInBounds_toArray, List.set_cons_zero, List.set_cons_succ]
  refine wpAnyH_take (i := 7) (v := ?v4) rfl (by kernel_rfl) (by kernel_rfl) (by kernel_rfl) (fun _ _ _ h => h) (Or.inl ⟨by kernel_rfl, ?y4⟩) (by assumption) ?_
  case y4 => (intro w hSw; (try dsimp only at hSw); go_simp; all_goals with_reducible rfl)
  try simp only [Act.put, List.getElem_toArray, List.getElem_cons_succ, List.getElem_cons_zero, List.setIfInBounds_toArray, List.set_cons_zero, List.set_cons_succ]
  refine wpAnyH_ready (rs := [5]) (by kernel_rfl) (by simp) (AllReadyH.cons rfl (fun K hK => ?_) AllReadyH.nil)
  go_simp
  go_at_call 6
  refine (may_ok gc gs gn gl gk q k A xs.length c xs false _ HS.out (by have := HSM.out; omega) HLC.out (HX.out.fr (FG.out.trans hHeld.2.2.2.2.2.2.2.2.out)) HW.out HMV.out).mono ?_
  rintro e W1 ⟨rfl, f⟩
  have FW := kf f hHeld.2.2.2.2.2.2.2.2
  dsimp only
  refine hK.out _ _ ?_ (fun hHeld => ?_)
  · (try dsimp only); (first | (go_split_ands; exact ⟨kc f (by assumption), kc f (by assumption), kc f (by assumption), kc f (by assumption), kc f (by assumption), kc f (by assumption), kc f (by assumption), kc f (by assumption), by assumption⟩) | (go_split_ands; exact ⟨(by assumption), (by assumption), (by assumption), (by assumption), (by assumption), (by assumption), (by assumption), (by assumption), by assumption⟩) | (go_split_ands; exact ⟨kc (fr1 _ _) (by assumption), kc (fr1 _ _) (by assumption), kc (fr1 _ _) (by assumption), kc (fr1 _ _) (by assumption), kc (fr1 _ _) (by assumption), kc (fr1 _ _) (by assumption), kc (fr1 _ _) (by assumption), kc (fr1 _ _) (by assumption), kfa (by assumption)⟩))
  clear hK K
  try simp only [Act.put, List.getElem_toArray, List.getElem_cons_succ, List.getElem_cons_zero, List.setIfInBounds_toArray, List.set_cons_zero, List.set_cons_succ]
  refine wpAnyH_ready (rs := [8]) (by kernel_rfl) (by simp) (AllReadyH.cons rfl (fun K hK => ?_) AllReadyH.nil)
  go_simp
  go_at_call 7
  refine (BtI.rmay_ok gc gs gn gl gk q k A xs.length c xs false _ HS.out (by have := HSM.out; omega) (HX.out.fr (FG.out.trans hHeld.2.2.2.2.2.2.2.2.out)) HW.out HMV.out).mono ?_
  rintro e W1 ⟨rfl, f⟩
  have FW := kf f hHeld.2.2.2.2.2.2.2.2
  dsimp only
  refine hK.out _ _ ?_ (fun hHeld => ?_)
  · (try dsimp only); (first | (go_split_ands; exact ⟨kc f (by assumption), kc f (by assumption), kc f (by assumption), kc f (by assumption), kc f (by assumption), kc f (by assumption), kc f (by assumption), kc f (by assumption), by assumption⟩) | (go_split_ands; exact ⟨(by assumption), (by assumption), (by assumption), (by assumption), (by assumption), (by assumption), (by assumption), (by assumption), by assumption⟩) | (go_split_ands; exact ⟨kc (fr1 _ _) (by assumption), kc (fr1 _ _) (by assumption), kc (fr1 _ _) (by assumption), kc (fr1 _ _) (by assumption), kc (fr1 _ _) (by assumption), kc (fr1 _ _) (by assumption), kc (fr1 _ _) (by assumption), kc (fr1 _ _) (by assumption), kfa (by assumption)⟩))
  clear hK K
  try simp only [Act.put, List.getElem_toArray, List.getElem_cons_succ, List.getElem_cons_zero, List.setIfInBounds_toArray, List.set_cons_zero, List.set_cons_succ]
  refine wpAnyH_take (i := 9) (v := ?v5) rfl (by kernel_rfl) (by kernel_rfl) (by kernel_rfl) (fun _ _ _ h => h) (Or.inl ⟨by kernel_rfl, ?y5⟩) (by assumption) ?_
  case y5 => (intro w hSw; (try dsimp only at hSw); go_simp; all_goals with_reducible rfl)
  try simp only [Act.put, List.getElem_toArray, List.getElem_cons_succ, List.getElem_cons_zero, List.setIfInBounds_toArray, List.set_cons_zero, List.set_cons_succ]
  refine wpAnyH_take (i := 10) (v := ?v6) rfl (by kernel_rfl) (by kernel_rfl) (by kernel_rfl) (fun _ _ _ h => h) (Or.inl ⟨by kernel_rfl, ?y6⟩) (by assumption) ?_
  case y6 => (intro w hSw; (try dsimp only at hSw); go_simp; all_goals with_reducible rfl)
  try simp only [Act.put, List.getElem_toArray, List.getElem_cons_succ, List.getElem_cons_zero, List.setIfInBounds_toArray, List.set_cons_zero, List.set_cons_succ]
  refine wpAnyH_done (by kernel_rfl) ?_ _
  refine NoPanic.normal ?_
  have FX := hHeld.2.2.2.2.2.2.2.2
  clear hHeld
  replace FG := hid (FG.out.trans FX.out)
  replace P0 := hid (BG.fr P0.out FX.out)
  go_wp2_with (first | ((with_reducible refine ld_geom rfl (.tmp 4) rfl G ?_ P0.out ?_); · rfl) | (go_at_call 8; refine (rlay_no gc gs gn gl gk _ HS.out HM.out).mono ?_; rintro e v2 ⟨rfl, f⟩; replace FG := hid (FG.out.trans f); clear f))
  go_ret
  exact ⟨rfl, FG.out.alloc _⟩

set_option maxRecDepth 100000 in
set_option maxHeartbeats 8000000 in
theorem codes_may (gc gs gn gl gk q k : Int) (A : Option Addr) (c : Nat) (xs : List Sp) (dA : Option Addr) (dl dc : Nat) (zs : List Int) (b : Int) (w : World) (hs : r64 gs) (hlc : xs.length ≤ c) (hx : RdS w A xs.length xs) (hw : ∀ s ∈ xs, wf s) (hz : IsB w dA dl dc zs) (hT : TabAt w) (hl1 : xs.length ≤ 100) (hl2 : dl ≤ 5000) (hm : mayG ⟨gc, gs, gn, gl, gk⟩) (hb : ¬ mayB ⟨gc, gs, gn, gl, gk⟩ ⟨q, k, xs⟩) :
    Calls Tryd.prog 3 #[.agg #[.int .i64 gc, .int .i64 gs, .int .i64 gn, .int .i64 gl, .int .i64 gk], bv q k A xs.length c, .slice dA dl dc, .int .u8 b] w fun e w' => e = .returned (.bool true) ∧ Fr No w w' := by
  have hlb : decide ((100 : Int) < (xs.length : Int)) = false := decide_eq_false (by omega)
  have hdb : decide ((5000 : Int) < (dl : Int)) = false := decide_eq_false (by omega)
  have hlb2 : ¬ (100 : Int) < (xs.length : Int) := by omega
  have hdb2 : ¬ (5000 : Int) < (dl : Int) := by omega
  have HSM := hid (And.intro hl1 hl2)
  clear hl1 hl2
  obtain ⟨G, hG⟩ : ∃ G, w.heap.size = G := ⟨_, rfl⟩
  obtain ⟨w1, hw1⟩ : ∃ w1, (w.alloc (bg gc gs gn gl gk)).alloc (.cells (bcs q k A xs.length c) 26) = w1 := ⟨_, rfl⟩
  have FG := hid (show Fr No w w1 by rw [← hw1]; exact (fr1 _ _).alloc _)
  have P0 := hid (show BG w1 G gc gs gn gl gk by rw [← hw1, ← hG]; exact (BG.new w gc gs gn gl gk : Blk _ _ _ _).alloc _)
  have P1 := hid (show BB w1 (G + 1) q k A xs.length c by
    rw [← hw1, ← hG]
    have := BB.new (w.alloc (bg gc gs gn gl gk)) q k A xs.length c
    rwa [World.size_alloc] at this)
  have HG := hid hG
  have HS := hid hs
  have HLC := hid hlc
  have HX := hid hx
  have HW := hid hw
  have HZ := hid hz
  have HT := hid hT
  have HW1 := hid hw1
  have HM := hid hm
  have HNO := hid (show ¬ (mayB ⟨gc, gs, gn, gl, gk⟩ ⟨q, k, xs⟩ ∧ (dl : Int) = size_ k xs * 128) from fun h => hb h.1)
  have HMV := hid (show false = true ↔ mayB ⟨gc, gs, gn, gl, gk⟩ ⟨q, k, xs⟩ from ⟨(fun h => by cases h), fun h => absurd h hb⟩)
  clear hm hb
  clear hs hlc hx hw hz hT hw1
  go_enter Tryd.func3, Tryd.ntmps3
  go_upto_region 1 with fail
  try rw [show (w.alloc (Obj.cells #[.int .i64 gc, .int .i64 gs, .int .i64 gn, .int .i64 gl, .int .i64 gk] 23)).alloc (Obj.cells #[.int .i64 q, .int .i64 k, .slice A xs.length c] 26) = w1 from HW1.out]
  try rw [World.size_alloc]
  try rw [hG]
  clear hG
  obtain ⟨_, _, b2⟩ := BB.cells P1.out
  go_upto_region 4 with (first | ((with_reducible refine ld_geom rfl (.tmp 4) rfl G ?_ P0.out ?_); · rfl) | ((with_reducible refine ld_bt rfl (.tmp 5) rfl (G + 1) ?_ P1.out ?_); · rfl) | (go_at_call 5; refine (encode_no gc gs gn gl gk q k A c xs dA dl dc _ HS.out HM.out (by have := HSM.out; omega) HLC.out (HX.out.fr FG.out) HW.out (by have := HSM.out; omega) HNO.out).mono ?_; rintro e v1 ⟨rfl, f⟩; replace FG := hid (FG.out.trans f); replace P0 := hid (BG.fr P0.out f); replace P1 := hid (BB.fr P1.out f); clear f))
  obtain ⟨g0, g1, g2, g3, g4⟩ := P0.out.cells
  obtain ⟨b0, b1, b2⟩ := BB.cells P1.out
  have FW := hid (Fr.refl No v1)
  have FW := kd FW
  refine wp_region_noPanic ?_
  refine wp_region_held_drew (S := (fun W' => W'.cell? ⟨G, 0, none⟩ = some (.int .i64 gc) ∧ W'.cell? ⟨G, 1, none⟩ = some (.int .i64 gs) ∧ W'.cell? ⟨G, 2, none⟩ = some (.int .i64 gn) ∧ W'.cell? ⟨G, 3, none⟩ = some (.int .i64 gl) ∧ W'.cell? ⟨G, 4, none⟩ = some (.int .i64 gk) ∧ W'.cell? ⟨G + 1, 0, none⟩ = some (.int .i64 q) ∧ W'.cell? ⟨G + 1, 1, none⟩ = some (.int .i64 k) ∧ W'.cell? ⟨G + 1, 2, none⟩ = some (.slice A xs.length c) ∧ Hid (Fr No v1 W'))) (by kernel_rfl) ?_ (fun hHeld => ?_)
  · (try dsimp only); (first | (go_split_ands; exact ⟨kc f (by assumption), kc f (by assumption), kc f (by assumption), kc f (by assumption), kc f (by assumption), kc f (by assumption), kc f (by assumption), kc f (by assumption), by assumption⟩) | (go_split_ands; exact ⟨(by assumption), (by assumption), (by assumption), (by assumption), (by assumption), (by assumption), (by assumption), (by assumption), by assumption⟩) | (go_split_ands; exact ⟨kc (fr1 _ _) (by assumption), kc (fr1 _ _) (by assumption), kc (fr1 _ _) (by assumption), kc (fr1 _ _) (by assumption), kc (fr1 _ _) (by assumption), kc (fr1 _ _) (by assumption), kc (fr1 _ _) (by assumption), kc (fr1 _ _) (by assumption), kfa (by assumption)⟩))
  refine wpAnyH_ready (rs := [0]) (by kernel_rfl) (by simp) (AllReadyH.cons rfl (fun K hK => ?_) AllReadyH.nil)
  go_simp
  go_at_call 4
  refine (lives_ok _ (HT.out.fr (FG.out.trans hHeld.2.2.2.2.2.2.2.2.out) (fun h => h))).mono ?_
  rintro e W1 ⟨rfl, f⟩
  have FW := kf f hHeld.2.2.2.2.2.2.2.2
  dsimp only
  refine hK.out _ _ ?_ (fun hHeld => ?_)
  · (try dsimp only); (first | (go_split_ands; exact ⟨kc f (by assumption), kc f (by assumption), kc f (by assumption), kc f (by assumption), kc f (by assumption), kc f (by assumption), kc f (by assumption), kc f (by assumption), by assumption⟩) | (go_split_ands; exact ⟨(by assumption), (by assumption), (by assumption), (by assumption), (by assumption), (by assumption), (by assumption), (by assumption), by assumption⟩) | (go_split_ands; exact ⟨kc (fr1 _ _) (by assumption), kc (fr1 _ _) (by assumption), kc (fr1 _ _) (by assumption), kc (fr1 _ _) (by assumption), kc (fr1 _ _) (by assumption), kc (fr1 _ _) (by assumption), kc (fr1 _ _) (by assumption), kc (fr1 _ _) (by assumption), kfa (by assumption)⟩))
  clear hK K
  try simp only [Act.put, List.getElem_toArray, List.getElem_cons_succ, List.getElem_cons_zero, List.setIfInBounds_toArray, List.set_cons_zero, List.set_cons_succ]
  refine wpAnyH_take (i := 1) (v := (.bool false)) rfl (by kernel_rfl) (by kernel_rfl) (by kernel_rfl) (fun _ _ _ h => h) (Or.inl ⟨by kernel_rfl, fun w hSw => by first | (go_simp; done) | (go_simp; with_reducible rfl) | (go_simp; omega)⟩) (by assumption) ?_
  try simp only [Act.put, List.getElem_toArray, List.getElem_cons_succ, List.getElem_cons_zero, List.setIfInBounds_toArray, List.set_cons_zero, List.set_cons_succ]
  refine wpAnyH_take (i := 2) (v := (.bool false)) rfl (by kernel_rfl) (by kernel_rfl) (by kernel_rfl) (fun _ _ _ h => h) (Or.inl ⟨by kernel_rfl, fun w hSw => by first | (go_simp; done) | (go_simp; with_reducible rfl) | (go_simp; omega)⟩) (by assumption) ?_
  try simp only [Act.put, List.getElem_toArray, List.getElem_cons_succ, List.getElem_cons_zero, List.setIfInBounds_toArray, List.set_cons_zero, List.set_cons_succ]
  refine wpAnyH_take (i := 3) (v := ?v7) rfl (by kernel_rfl) (by kernel_rfl) (by kernel_rfl) (fun _ _ _ h => h) (Or.inl ⟨by kernel_rfl, ?y7⟩) (by assumption) ?_
  case y7 => (intro w hSw; (try dsimp only at hSw); go_simp; all_goals with_reducible rfl)
  try simp only [Act.put, List.getElem_toArray, List.getElem_cons_succ, List.getElem_cons_zero, List.setIfInBounds_toArray, List.set_cons_zero, List.set_cons_succ]
  refine wpAnyH_take (i := 4) (v := ?v8) rfl (by kernel_rfl) (by kernel_rfl) (by kernel_rfl) (fun _ _ _ h => h) (Or.inl ⟨by kernel_rfl, ?y8⟩) (by assumption) ?_
  case y8 => (intro w hSw; (try dsimp only at hSw); go_simp; all_goals with_reducible rfl)
  try simp only [Act.put, List.getElem_toArray, List.getElem_cons_succ, List.getElem_cons_zero, List.setIfInBounds_toArray, List.set_cons_zero, List.set_cons_succ]
  refine wpAnyH_take (i := 6) (v := ?v9) rfl (by kernel_rfl) (by kernel_rfl) (by kernel_rfl) (fun _ _ _ h => h) (Or.inl ⟨by kernel_rfl, ?y9⟩) (by assumption) ?_
  case y9 => (intro w hSw; (try dsimp only at hSw); go_simp; all_goals with_reducible rfl)
  try simp only [Act.put, List.getElem_toArray, List.getElem_cons_succ, List.getElem_cons_zero, List.setIfInBounds_toArray, List.set_cons_zero, List.set_cons_succ]
  refine wpAnyH_take (i := 7) (v := ?v10) rfl (by kernel_rfl) (by kernel_rfl) (by kernel_rfl) (fun _ _ _ h => h) (Or.inl ⟨by kernel_rfl, ?y10⟩) (by assumption) ?_
  case y10 => (intro w hSw; (try dsimp only at hSw); go_simp; all_goals with_reducible rfl)
  try simp only [Act.put, List.getElem_toArray, List.getElem_cons_succ, List.getElem_cons_zero, List.setIfInBounds_toArray, List.set_cons_zero, List.set_cons_succ]
  refine wpAnyH_ready (rs := [5]) (by kernel_rfl) (by simp) (AllReadyH.cons rfl (fun K hK => ?_) AllReadyH.nil)
  go_simp
  go_at_call 6
  refine (may_ok gc gs gn gl gk q k A xs.length c xs false _ HS.out (by have := HSM.out; omega) HLC.out (HX.out.fr (FG.out.trans hHeld.2.2.2.2.2.2.2.2.out)) HW.out HMV.out).mono ?_
  rintro e W1 ⟨rfl, f⟩
  have FW := kf f hHeld.2.2.2.2.2.2.2.2
  dsimp only
  refine hK.out _ _ ?_ (fun hHeld => ?_)
  · (try dsimp only); (first | (go_split_ands; exact ⟨kc f (by assumption), kc f (by assumption), kc f (by assumption), kc f (by assumption), kc f (by assumption), kc f (by assumption), kc f (by assumption), kc f (by assumption), by assumption⟩) | (go_split_ands; exact ⟨(by assumption), (by assumption), (by assumption), (by assumption), (by assumption), (by assumption), (by assumption), (by assumption), by assumption⟩) | (go_split_ands; exact ⟨kc (fr1 _ _) (by assumption), kc (fr1 _ _) (by assumption), kc (fr1 _ _) (by assumption), kc (fr1 _ _) (by assumption), kc (fr1 _ _) (by assumption), kc (fr1 _ _) (by assumption), kc (fr1 _ _) (by assumption), kc (fr1 _ _) (by assumption), kfa (by assumption)⟩))
  clear hK K
  try simp only [Act.put, List.getElem_toArray, List.getElem_cons_succ, List.getElem_cons_zero, List.setIfInBounds_toArray, List.set_cons_zero, List.set_cons_succ]
  refine wpAnyH_ready (rs := [8]) (by kernel_rfl) (by simp) (AllReadyH.cons rfl (fun K hK => ?_) AllReadyH.nil)
  go_simp
  go_at_call 7
  refine (BtI.rmay_ok gc gs gn gl gk q k A xs.length c xs false _ HS.out (by have := HSM.out; omega) (HX.out.fr (FG.out.trans hHeld.2.2.2.2.2.2.2.2.out)) HW.out HMV.out).mono ?_
  rintro e W1 ⟨rfl, f⟩
  have FW := kf f hHeld.2.2.2.2.2.2.2.2
  dsimp only
  refine hK.out _ _ ?_ (fun hHeld => ?_)
  · (try dsimp only); (first | (go_split_ands; exact ⟨kc f (by assumption), kc f (by assumption), kc f (by assumption), kc f (by assumption), kc f (by assumption), kc f (by assumption), kc f (by assumption), kc f (by assumption), by assumption⟩) | (go_split_ands; exact ⟨(by assumption), (by assumption), (by assumption), (by assumption), (by assumption), (by assumption), (by assumption), (by assumption), by assumption⟩) | (go_split_ands; exact ⟨kc (fr1 _ _) (by assumption), kc (fr1 _ _) (by assumption), kc (fr1 _ _) (by assumption), kc (fr1 _ _) (by assumption), kc (fr1 _ _) (by assumption), kc (fr1 _ _) (by assumption), kc (fr1 _ _) (by assumption), kc (fr1 _ _) (by assumption), kfa (by assumption)⟩))
  clear hK K
  try simp only [Act.put, List.getElem_toArray, List.getElem_cons_succ, List.getElem_cons_zero, List.setIfInBounds_toArray, List.set_cons_zero, List.set_cons_succ]
  refine wpAnyH_take (i := 9) (v := ?v11) rfl (by kernel_rfl) (by kernel_rfl) (by kernel_rfl) (fun _ _ _ h => h) (Or.inl ⟨by kernel_rfl, ?y11⟩) (by assumption) ?_
  case y11 => (intro w hSw; (try dsimp only at hSw); go_simp; all_goals with_reducible rfl)
  try simp only [Act.put, List.getElem_toArray, List.getElem_cons_succ, List.getElem_cons_zero, List.setIfInBounds_toArray, List.set_cons_zero, List.set_cons_succ]
  refine wpAnyH_take (i := 10) (v := ?v12) rfl (by kernel_rfl) (by kernel_rfl) (by kernel_rfl) (fun _ _ _ h => h) (Or.inl ⟨by kernel_rfl, ?y12⟩) (by assumption) ?_
  case y12 => (intro w hSw; (try dsimp only at hSw); go_simp; all_goals with_reducible rfl)
  try simp only [Act.put, List.getElem_toArray, List.getElem_cons_succ, List.getElem_cons_zero, List.setIfInBounds_toArray, List.set_cons_zero, List.set_cons_succ]
  refine wpAnyH_done (by kernel_rfl) ?_ _
  refine NoPanic.normal ?_
  have FX := hHeld.2.2.2.2.2.2.2.2
  clear hHeld
  replace FG := hid (FG.out.trans FX.out)
  replace P0 := hid (BG.fr P0.out FX.out)
  replace P1 := hid (BB.fr P1.out FX.out)
  go_upto_region 7 with (first | ((with_reducible refine ld_geom rfl (.tmp 4) rfl G ?_ P0.out ?_); · rfl) | (go_at_call 8; refine (rlay_yes gc gs gn gl gk _ HS.out HM.out).mono ?_; rintro e v2 ⟨y1, y2, y3, y4, y5, y6, y7, y8, rfl, f⟩; replace FG := hid (FG.out.trans f); replace P0 := hid (BG.fr P0.out f); replace P1 := hid (BB.fr P1.out f); clear f))
  obtain ⟨v3, hv3⟩ : ∃ zz, v2.alloc (.cells #[.int .i64 y1, .int .i64 y2, .int .i64 y3, .int .i64 y4, .int .i64 y5, .int .i64 y6, .int .i64 y7, .int .i64 y8] 34) = zz := ⟨_, rfl⟩
  have f3 : Fr No v2 v3 := by rw [← hv3]; exact fr1 _ _
  replace FG := hid (FG.out.trans f3)
  replace P0 := hid (BG.fr P0.out f3)
  replace P1 := hid (BB.fr P1.out f3)
  try rw [show v2.alloc (Obj.cells #[.int .i64 y1, .int .i64 y2, .int .i64 y3, .int .i64 y4, .int .i64 y5, .int .i64 y6, .int .i64 y7, .int .i64 y8] 34) = v3 from hv3]
  clear hv3 f3
  go_wp2_with (first | ((with_reducible refine ld_geom rfl (.tmp 4) rfl G ?_ P0.out ?_); · rfl) | ((with_reducible refine ld_bt rfl (.tmp 5) rfl (G + 1) ?_ P1.out ?_); · rfl) | (go_at_call 7; refine (BtI.rmay_ok gc gs gn gl gk q k A xs.length c xs false _ HS.out (by have := HSM.out; omega) (HX.out.fr FG.out) HW.out HMV.out).mono ?_; rintro e v4 ⟨rfl, f⟩; replace FG := hid (FG.out.trans f); replace P0 := hid (BG.fr P0.out f); replace P1 := hid (BB.fr P1.out f); clear f))
  go_ret
  exact ⟨rfl, FG.out⟩

set_option maxRecDepth 100000 in
set_option maxHeartbeats 8000000 in
theorem codes_len (gc gs gn gl gk q k : Int) (A : Option Addr) (c : Nat) (xs : List Sp) (dA : Option Addr) (dl dc : Nat) (zs : List Int) (b : Int) (w : World) (hs : r64 gs) (hlc : xs.length ≤ c) (hx : RdS w A xs.length xs) (hw : ∀ s ∈ xs, wf s) (hz : IsB w dA dl dc zs) (hT : TabAt w) (hl1 : xs.length ≤ 100) (hl2 : dl ≤ 5000) (hb : mayB ⟨gc, gs, gn, gl, gk⟩ ⟨q, k, xs⟩) (hn : ¬ (dl : Int) = size_ k xs * 128) :
    Calls Tryd.prog 3 #[.agg #[.int .i64 gc, .int .i64 gs, .int .i64 gn, .int .i64 gl, .int .i64 gk], bv q k A xs.length c, .slice dA dl dc, .int .u8 b] w fun e w' => e = .returned (.bool true) ∧ Fr No w w' := by
  have hlb : decide ((100 : Int) < (xs.length : Int)) = false := decide_eq_false (by omega)
  have hdb : decide ((5000 : Int) < (dl : Int)) = false := decide_eq_false (by omega)
  have hlb2 : ¬ (100 : Int) < (xs.length : Int) := by omega
  have hdb2 : ¬ (5000 : Int) < (dl : Int) := by omega
  have HSM := hid (And.intro hl1 hl2)
  clear hl1 hl2
  obtain ⟨G, hG⟩ : ∃ G, w.heap.size = G := ⟨_, rfl⟩
  obtain ⟨w1, hw1⟩ : ∃ w1, (w.alloc (bg gc gs gn gl gk)).alloc (.cells (bcs q k A xs.length c) 26) = w1 := ⟨_, rfl⟩
  have FG := hid (show Fr No w w1 by rw [← hw1]; exact (fr1 _ _).alloc _)
  have P0 := hid (show BG w1 G gc gs gn gl gk by rw [← hw1, ← hG]; exact (BG.new w gc gs gn gl gk : Blk _ _ _ _).alloc _)
  have P1 := hid (show BB w1 (G + 1) q k A xs.length c by
    rw [← hw1, ← hG]
    have := BB.new (w.alloc (bg gc gs gn gl gk)) q k A xs.length c
    rwa [World.size_alloc] at this)
  have HG := hid hG
  have HS := hid hs
  have HLC := hid hlc
  have HX := hid hx
  have HW := hid hw
  have HZ := hid hz
  have HT := hid hT
  have HW1 := hid hw1
  have HM := hid hb.1
  have HNO := hid (show ¬ (mayB ⟨gc, gs, gn, gl, gk⟩ ⟨q, k, xs⟩ ∧ (dl : Int) = size_ k xs * 128) from fun h => hn h.2)
  have HMB := hid hb
  have HSN := hid (show ∀ s ∈ xs, 0 ≤ s.2 ∧ s.2 ≤ 1048576 from fun s h => by have := spsOk_may hb.2.2.1 s h; omega)
  have hz0 := BtP.size_in hb
  have hz1 : size_ k xs ≤ 32768 := by
    have := BtM.mayB_tn hb
    unfold size_
    dsimp only at this
    split <;> omega
  obtain ⟨sz, hsz⟩ : ∃ zz, size_ k xs = zz := ⟨_, rfl⟩
  dsimp only at hz0
  rw [hsz] at hn hz0 hz1
  have HSZ := hid hsz
  have hw8 : wrap64 (128 * sz) = 128 * sz := w64 _ (by omega)
  have hnb : ((dl : Int) == 128 * sz) = false := by simp; omega
  have hnb2 : ((dl : Int) != 128 * sz) = true := by rw [bne, hnb]; rfl
  clear hb hn hsz hz0 hz1
  clear hs hlc hx hw hz hT hw1
  go_enter Tryd.func3, Tryd.ntmps3
  go_upto_region 1 with fail
  try rw [show (w.alloc (Obj.cells #[.int .i64 gc, .int .i64 gs, .int .i64 gn, .int .i64 gl, .int .i64 gk] 23)).alloc (Obj.cells #[.int .i64 q, .int .i64 k, .slice A xs.length c] 26) = w1 from HW1.out]
  try rw [World.size_alloc]
  try rw [hG]
  clear hG
  obtain ⟨_, _, b2⟩ := BB.cells P1.out
  go_upto_region 4 with (first | ((with_reducible refine ld_geom rfl (.tmp 4) rfl G ?_ P0.out ?_); · rfl) | ((with_reducible refine ld_bt rfl (.tmp 5) rfl (G + 1) ?_ P1.out ?_); · rfl) | (go_at_call 5; refine (encode_no gc gs gn gl gk q k A c xs dA dl dc _ HS.out HM.out (by have := HSM.out; omega) HLC.out (HX.out.fr FG.out) HW.out (by have := HSM.out; omega) HNO.out).mono ?_; rintro e v1 ⟨rfl, f⟩; replace FG := hid (FG.out.trans f); replace P0 := hid (BG.fr P0.out f); replace P1 := hid (BB.fr P1.out f); clear f))
  obtain ⟨g0, g1, g2, g3, g4⟩ := P0.out.cells
  obtain ⟨b0, b1, b2⟩ := BB.cells P1.out
  have FW := hid (Fr.refl No v1)
  have FW := kd FW
  refine wp_region_noPanic ?_
  refine wp_region_held_drew (S := (fun W' => W'.cell? ⟨G, 0, none⟩ = some (.int .i64 gc) ∧ W'.cell? ⟨G, 1, none⟩ = some (.int .i64 gs) ∧ W'.cell? ⟨G, 2, none⟩ = some (.int .i64 gn) ∧ W'.cell? ⟨G, 3, none⟩ = some (.int .i64 gl) ∧ W'.cell? ⟨G, 4, none⟩ = some (.int .i64 gk) ∧ W'.cell? ⟨G + 1, 0, none⟩ = some (.int .i64 q) ∧ W'.cell? ⟨G + 1, 1, none⟩ = some (.int .i64 k) ∧ W'.cell? ⟨G + 1, 2, none⟩ = some (.slice A xs.length c) ∧ Hid (Fr No v1 W'))) (by kernel_rfl) ?_ (fun hHeld => ?_)
  · (try dsimp only); (first | (go_split_ands; exact ⟨kc f (by assumption), kc f (by assumption), kc f (by assumption), kc f (by assumption), kc f (by assumption), kc f (by assumption), kc f (by assumption), kc f (by assumption), by assumption⟩) | (go_split_ands; exact ⟨(by assumption), (by assumption), (by assumption), (by assumption), (by assumption), (by assumption), (by assumption), (by assumption), by assumption⟩) | (go_split_ands; exact ⟨kc (fr1 _ _) (by assumption), kc (fr1 _ _) (by assumption), kc (fr1 _ _) (by assumption), kc (fr1 _ _) (by assumption), kc (fr1 _ _) (by assumption), kc (fr1 _ _) (by assumption), kc (fr1 _ _) (by assumption), kc (fr1 _ _) (by assumption), kfa (by assumption)⟩))
  refine wpAnyH_ready (rs := [0]) (by kernel_rfl) (by simp) (AllReadyH.cons rfl (fun K hK => ?_) AllReadyH.nil)
  go_simp
  go_at_call 4
  refine (lives_ok _ (HT.out.fr (FG.out.trans hHeld.2.2.2.2.2.2.2.2.out) (fun h => h))).mono ?_
  rintro e W1 ⟨rfl, f⟩
  have FW := kf f hHeld.2.2.2.2.2.2.2.2
  dsimp only
  refine hK.out _ _ ?_ (fun hHeld => ?_)
  · (try dsimp only); (first | (go_split_ands; exact ⟨kc f (by assumption), kc f (by assumption), kc f (by assumption), kc f (by assumption), kc f (by assumption), kc f (by assumption), kc f (by assumption), kc f (by assumption), by assumption⟩) | (go_split_ands; exact ⟨(by assumption), (by assumption), (by assumption), (by assumption), (by assumption), (by assumption), (by assumption), (by assumption), by assumption⟩) | (go_split_ands; exact ⟨kc (fr1 _ _) (by assumption), kc (fr1 _ _) (by assumption), kc (fr1 _ _) (by assumption), kc (fr1 _ _) (by assumption), kc (fr1 _ _) (by assumption), kc (fr1 _ _) (by assumption), kc (fr1 _ _) (by assumption), kc (fr1 _ _) (by assumption), kfa (by assumption)⟩))
  clear hK K
  try simp only [Act.put, List.getElem_toArray, List.getElem_cons_succ, List.getElem_cons_zero, List.setIfInBounds_toArray, List.set_cons_zero, List.set_cons_succ]
  refine wpAnyH_take (i := 1) (v := (.bool false)) rfl (by kernel_rfl) (by kernel_rfl) (by kernel_rfl) (fun _ _ _ h => h) (Or.inl ⟨by kernel_rfl, fun w hSw => by first | (go_simp; done) | (go_simp; with_reducible rfl) | (go_simp; omega)⟩) (by assumption) ?_
  try simp only [Act.put, List.getElem_toArray, List.getElem_cons_succ, List.getElem_cons_zero, List.setIfInBounds_toArray, List.set_cons_zero, List.set_cons_succ]
  refine wpAnyH_take (i := 2) (v := (.bool false)) rfl (by kernel_rfl) (by kernel_rfl) (by kernel_rfl) (fun _ _ _ h => h) (Or.inl ⟨by kernel_rfl, fun w hSw => by first | (go_simp; done) | (go_simp; with_reducible rfl) | (go_simp; omega)⟩) (by assumption) ?_
  try simp only [Act.put, List.getElem_toArray, List.getElem_cons_succ, List.getElem_cons_zero, List.setIfInBounds_toArray, List.set_cons_zero, List.set_cons_succ]
  refine wpAnyH_take (i := 3) (v := ?v13) rfl (by kernel_rfl) (by kernel_rfl) (by kernel_rfl) (fun _ _ _ h => h) (Or.inl ⟨by kernel_rfl, ?y13⟩) (by assumption) ?_
  case y13 => (intro w hSw; (try dsimp only at hSw); go_simp; all_goals with_reducible rfl)
  try simp only [Act.put, List.getElem_toArray, List.getElem_cons_succ, List.getElem_cons_zero, List.setIfInBounds_toArray, List.set_cons_zero, List.set_cons_succ]
  refine wpAnyH_take (i := 4) (v := ?v14) rfl (by kernel_rfl) (by kernel_rfl) (by kernel_rfl) (fun _ _ _ h => h) (Or.inl ⟨by kernel_rfl, ?y14⟩) (by assumption) ?_
  case y14 => (intro w hSw; (try dsimp only at hSw); go_simp; all_goals with_reducible rfl)
  try simp only [Act.put, List.getElem_toArray, List.getElem_cons_succ, List.getElem_cons_zero, List.setIfInBounds_toArray, List.set_cons_zero, List.set_cons_succ]
  refine wpAnyH_take (i := 6) (v := ?v15) rfl (by kernel_rfl) (by kernel_rfl) (by kernel_rfl) (fun _ _ _ h => h) (Or.inl ⟨by kernel_rfl, ?y15⟩) (by assumption) ?_
  case y15 => (intro w hSw; (try dsimp only at hSw); go_simp; all_goals with_reducible rfl)
  try simp only [Act.put, List.getElem_toArray, List.getElem_cons_succ, List.getElem_cons_zero, List.setIfInBounds_toArray, List.set_cons_zero, List.set_cons_succ]
  refine wpAnyH_take (i := 7) (v := ?v16) rfl (by kernel_rfl) (by kernel_rfl) (by kernel_rfl) (fun _ _ _ h => h) (Or.inl ⟨by kernel_rfl, ?y16⟩) (by assumption) ?_
  case y16 => (intro w hSw; (try dsimp only at hSw); go_simp; all_goals with_reducible rfl)
  try simp only [Act.put, List.getElem_toArray, List.getElem_cons_succ, List.getElem_cons_zero, List.setIfInBounds_toArray, List.set_cons_zero, List.set_cons_succ]
  refine wpAnyH_ready (rs := [5]) (by kernel_rfl) (by simp) (AllReadyH.cons rfl (fun K hK => ?_) AllReadyH.nil)
  go_simp
  go_at_call 6
  refine (may_ok gc gs gn gl gk q k A xs.length c xs true _ HS.out (by have := HSM.out; omega) HLC.out (HX.out.fr (FG.out.trans hHeld.2.2.2.2.2.2.2.2.out)) HW.out ⟨fun _ => HMB.out, fun _ => rfl⟩).mono ?_
  rintro e W1 ⟨rfl, f⟩
  have FW := kf f hHeld.2.2.2.2.2.2.2.2
  dsimp only
  refine hK.out _ _ ?_ (fun hHeld => ?_)
  · (try dsimp only); (first | (go_split_ands; exact ⟨kc f (by assumption), kc f (by assumption), kc f (by assumption), kc f (by assumption), kc f (by assumption), kc f (by assumption), kc f (by assumption), kc f (by assumption), by assumption⟩) | (go_split_ands; exact ⟨(by assumption), (by assumption), (by assumption), (by assumption), (by assumption), (by assumption), (by assumption), (by assumption), by assumption⟩) | (go_split_ands; exact ⟨kc (fr1 _ _) (by assumption), kc (fr1 _ _) (by assumption), kc (fr1 _ _) (by assumption), kc (fr1 _ _) (by assumption), kc (fr1 _ _) (by assumption), kc (fr1 _ _) (by assumption), kc (fr1 _ _) (by assumption), kc (fr1 _ _) (by assumption), kfa (by assumption)⟩))
  clear hK K
  try simp only [Act.put, List.getElem_toArray, List.getElem_cons_succ, List.getElem_cons_zero, List.setIfInBounds_toArray, List.set_cons_zero, List.set_cons_succ]
  refine wpAnyH_ready (rs := [8]) (by kernel_rfl) (by simp) (AllReadyH.cons rfl (fun K hK => ?_) AllReadyH.nil)
  go_simp
  go_at_call 7
  refine (BtI.rmay_ok gc gs gn gl gk q k A xs.length c xs true _ HS.out (by have := HSM.out; omega) (HX.out.fr (FG.out.trans hHeld.2.2.2.2.2.2.2.2.out)) HW.out ⟨fun _ => HMB.out, fun _ => rfl⟩).mono ?_
  rintro e W1 ⟨rfl, f⟩
  have FW := kf f hHeld.2.2.2.2.2.2.2.2
  dsimp only
  refine hK.out _ _ ?_ (fun hHeld => ?_)
  · (try dsimp only); (first | (go_split_ands; exact ⟨kc f (by assumption), kc f (by assumption), kc f (by assumption), kc f (by assumption), kc f (by assumption), kc f (by assumption), kc f (by assumption), kc f (by assumption), by assumption⟩) | (go_split_ands; exact ⟨(by assumption), (by assumption), (by assumption), (by assumption), (by assumption), (by assumption), (by assumption), (by assumption), by assumption⟩) | (go_split_ands; exact ⟨kc (fr1 _ _) (by assumption), kc (fr1 _ _) (by assumption), kc (fr1 _ _) (by assumption), kc (fr1 _ _) (by assumption), kc (fr1 _ _) (by assumption), kc (fr1 _ _) (by assumption), kc (fr1 _ _) (by assumption), kc (fr1 _ _) (by assumption), kfa (by assumption)⟩))
  clear hK K
  try simp only [Act.put, List.getElem_toArray, List.getElem_cons_succ, List.getElem_cons_zero, List.setIfInBounds_toArray, List.set_cons_zero, List.set_cons_succ]
  refine wpAnyH_take (i := 9) (v := ?v17) rfl (by kernel_rfl) (by kernel_rfl) (by kernel_rfl) (fun _ _ _ h => h) (Or.inl ⟨by kernel_rfl, ?y17⟩) (by assumption) ?_
  case y17 => (intro w hSw; (try dsimp only at hSw); go_simp; all_goals with_reducible rfl)
  try simp only [Act.put, List.getElem_toArray, List.getElem_cons_succ, List.getElem_cons_zero, List.setIfInBounds_toArray, List.set_cons_zero, List.set_cons_succ]
  refine wpAnyH_take (i := 10) (v := ?v18) rfl (by kernel_rfl) (by kernel_rfl) (by kernel_rfl) (fun _ _ _ h => h) (Or.inl ⟨by kernel_rfl, ?y18⟩) (by assumption) ?_
  case y18 => (intro w hSw; (try dsimp only at hSw); go_simp; all_goals with_reducible rfl)
  try simp only [Act.put, List.getElem_toArray, List.getElem_cons_succ, List.getElem_cons_zero, List.setIfInBounds_toArray, List.set_cons_zero, List.set_cons_succ]
  refine wpAnyH_done (by kernel_rfl) ?_ _
  refine NoPanic.normal ?_
  have FX := hHeld.2.2.2.2.2.2.2.2
  clear hHeld
  replace FG := hid (FG.out.trans FX.out)
  replace P0 := hid (BG.fr P0.out FX.out)
  replace P1 := hid (BB.fr P1.out FX.out)
  go_upto_region 7 with (first | ((with_reducible refine ld_geom rfl (.tmp 4) rfl G ?_ P0.out ?_); · rfl) | (go_at_call 8; refine (rlay_yes gc gs gn gl gk _ HS.out HM.out).mono ?_; rintro e v2 ⟨y1, y2, y3, y4, y5, y6, y7, y8, rfl, f⟩; replace FG := hid (FG.out.trans f); replace P0 := hid (BG.fr P0.out f); replace P1 := hid (BB.fr P1.out f); clear f))
  obtain ⟨v3, hv3⟩ : ∃ zz, v2.alloc (.cells #[.int .i64 y1, .int .i64 y2, .int .i64 y3, .int .i64 y4, .int .i64 y5, .int .i64 y6, .int .i64 y7, .int .i64 y8] 34) = zz := ⟨_, rfl⟩
  have f3 : Fr No v2 v3 := by rw [← hv3]; exact fr1 _ _
  replace FG := hid (FG.out.trans f3)
  replace P0 := hid (BG.fr P0.out f3)
  replace P1 := hid (BB.fr P1.out f3)
  try rw [show v2.alloc (Obj.cells #[.int .i64 y1, .int .i64 y2, .int .i64 y3, .int .i64 y4, .int .i64 y5, .int .i64 y6, .int .i64 y7, .int .i64 y8] 34) = v3 from hv3]
  clear hv3 f3
  go_wp2_with (first | ((with_reducible refine ld_geom rfl (.tmp 4) rfl G ?_ P0.out ?_); · rfl) | ((with_reducible refine ld_bt rfl (.tmp 5) rfl (G + 1) ?_ P1.out ?_); · rfl) | (go_at_call 7; refine (BtI.rmay_ok gc gs gn gl gk q k A xs.length c xs true _ HS.out (by have := HSM.out; omega) (HX.out.fr FG.out) HW.out ⟨fun _ => HMB.out, fun _ => rfl⟩).mono ?_; rintro e v4 ⟨rfl, f⟩; replace FG := hid (FG.out.trans f); replace P0 := hid (BG.fr P0.out f); replace P1 := hid (BB.fr P1.out f); clear f; obtain ⟨b0, b1, b2⟩ := BB.cells P1.out) | (go_at_call 9; refine (BtN.rsize_ok q k A xs.length c xs _ (by have := HMB.out; have := this.2.2.1.2.1; dsimp only at this; omega) (HX.out.fr FG.out) HSN.out).mono ?_; rintro e v5 ⟨rfl, f⟩; rw [HSZ.out]; replace FG := hid (FG.out.trans f); clear f))
  go_ret
  exact ⟨rfl, FG.out⟩
end Go.Proofs.YtkkbgbpmpcoffaaDoor.BtCd
