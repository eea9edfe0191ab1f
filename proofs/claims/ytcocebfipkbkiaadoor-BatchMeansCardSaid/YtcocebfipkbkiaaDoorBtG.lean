/- Contracts: the sectors of a batch, by the program. Conditions: the slices read as spans and as bytes; all numbers are 64 bits; the table of sums is as its text lays it. -/
import Derived.Test.YtcocebfipkbkiaaDoorBtD
import Derived.Test.YtcocebfipkbkiaaDoorBtE
import Derived.Test.YtcocebfipkbkiaaDoorBtF
namespace Go.Proofs.YtcocebfipkbkiaaDoor.BtG
open Go.RowKit MSep MSepC MSpM MGeM MFrame Kit BtM BtA CrcA CrcM BtE BtF
open SpA (wf w64)
open GeA (bg BG ld_geom)
open CrcE (seal_)

theorem sumF (A : Option Addr) (l c : Nat) (zs : List Int) (w : World) (hb : IsB w A l c zs) (hT : TabAt w) : Calls Tryd.prog 34 #[.slice A l c] w fun e w' => e = .returned (.int .u32 (onN 0 zs : Nat)) ∧ Fr No w w' :=
  (sum_any A l c zs w hb.1 hb.2.2.2 (by have := hb.2.1; have := hb.2.2.1; omega) hT).mono (by rintro e w' ⟨rfl, rfl⟩; exact ⟨rfl, Fr.refl _ _⟩)
theorem onN_in (s : Nat) (zs : List Int) : 0 ≤ ((onN s zs : Nat) : Int) ∧ ((onN s zs : Nat) : Int) < 4294967296 := by
  have : onN s zs < 4294967296 := nt_lt _
  omega
theorem mayB_Hok {g : Ge} {b : Ba} {sum : Int} (h : mayB g b) (hs : 0 ≤ sum ∧ sum < 4294967296) : Hok b.q b.k sum b.l where
  q := by have := h.2.1; omega
  k := by rcases h.2.2.2 with h | h <;> omega
  s := hs
  n := h.2.2.1.2.1
  l := fun s hs => by
    obtain ⟨hg, hm, h1, h2, h3⟩ := spsOk_may h.2.2.1 s hs
    have := (good hg.1).t2
    unfold may at hm
    omega
set_option maxRecDepth 100000 in
set_option maxHeartbeats 4000000 in
theorem encode_geom (gc gs gn gl gk q k : Int) (A : Option Addr) (c : Nat) (xs : List Sp) (dA : Option Addr) (dl dc : Nat) (w : World) (hs : r64 gs) (hm : ¬ mayG ⟨gc, gs, gn, gl, gk⟩) :
    Calls Tryd.prog 9 #[.agg #[.int .i64 gc, .int .i64 gs, .int .i64 gn, .int .i64 gl, .int .i64 gk], bv q k A xs.length c, .slice dA dl dc] w fun e w' => e = .returned (.tuple #[.slice none 0 0, .int .i64 70]) ∧ Fr No w w' := by
  obtain ⟨G, hG⟩ : ∃ G, w.heap.size = G := ⟨_, rfl⟩
  obtain ⟨w1, hw1⟩ : ∃ w1, (w.alloc (bg gc gs gn gl gk)).alloc (.cells (bcs q k A xs.length c) 26) = w1 := ⟨_, rfl⟩
  have FG := hid (show Fr No w w1 by rw [← hw1]; exact (fr1 _ _).alloc _)
  have P0 := hid (show BG w1 G gc gs gn gl gk by rw [← hw1, ← hG]; exact (BG.new w gc gs gn gl gk : Blk _ _ _ _).alloc _)
  have P1 := hid (show BB w1 (G + 1) q k A xs.length c by
    rw [← hw1, ← hG]
    have := BB.new (w.alloc (bg gc gs gn gl gk)) q k A xs.length c
    rwa [World.size_alloc] at this)
  have HS := hid hs
  have HW1 := hid hw1
  clear hs hw1
  have HM := hid hm
  clear hm
  go_enter Tryd.func9, Tryd.ntmps9
  go_upto_region 1 with fail
  try rw [show (w.alloc (Obj.cells #[.int .i64 gc, .int .i64 gs, .int .i64 gn, .int .i64 gl, .int .i64 gk] 23)).alloc (Obj.cells #[.int .i64 q, .int .i64 k, .slice A xs.length c] 26) = w1 from HW1.out]
  try rw [hG]
  go_wp2_with (first | ((with_reducible refine ld_geom rfl (.tmp 3) rfl G ?_ P0.out ?_); · rfl) | (go_at_call 31; refine (GeC.may_ok gc gs gn gl gk _ HS.out).mono ?_; rintro e w2 ⟨rfl, f2⟩; rw [decide_eq_false HM.out]; replace FG := hid (FG.out.trans f2); clear f2))
  go_ret2
  exact ⟨rfl, FG.out⟩
set_option maxRecDepth 100000 in
set_option maxHeartbeats 4000000 in
theorem encode_no (gc gs gn gl gk q k : Int) (A : Option Addr) (c : Nat) (xs : List Sp) (dA : Option Addr) (dl dc : Nat) (w : World) (hs : r64 gs) (hm : mayG ⟨gc, gs, gn, gl, gk⟩) (hl : xs.length ≤ 140737488355328) (hlc : xs.length ≤ c) (hx : RdS w A xs.length xs) (hw : ∀ s ∈ xs, wf s) (_hd : dl ≤ 140737488355328) (hno : ¬ (mayB ⟨gc, gs, gn, gl, gk⟩ ⟨q, k, xs⟩ ∧ (dl : Int) = size_ k xs * 128)) :
    Calls Tryd.prog 9 #[.agg #[.int .i64 gc, .int .i64 gs, .int .i64 gn, .int .i64 gl, .int .i64 gk], bv q k A xs.length c, .slice dA dl dc] w fun e w' => e = .returned (.tuple #[.slice none 0 0, .int .i64 1]) ∧ Fr No w w' := by
  obtain ⟨G, hG⟩ : ∃ G, w.heap.size = G := ⟨_, rfl⟩
  obtain ⟨w1, hw1⟩ : ∃ w1, (w.alloc (bg gc gs gn gl gk)).alloc (.cells (bcs q k A xs.length c) 26) = w1 := ⟨_, rfl⟩
  have FG := hid (show Fr No w w1 by rw [← hw1]; exact (fr1 _ _).alloc _)
  have P0 := hid (show BG w1 G gc gs gn gl gk by rw [← hw1, ← hG]; exact (BG.new w gc gs gn gl gk : Blk _ _ _ _).alloc _)
  have P1 := hid (show BB w1 (G + 1) q k A xs.length c by
    rw [← hw1, ← hG]
    have := BB.new (w.alloc (bg gc gs gn gl gk)) q k A xs.length c
    rwa [World.size_alloc] at this)
  have HS := hid hs
  have HW1 := hid hw1
  clear hs hw1
  have HM := hid hm
  have HX := hid hx
  have HW := hid hw
  have HL := hid (And.intro hl hlc)
  have HNO := hid hno
  clear hm hx hw hl hlc hno
  go_enter Tryd.func9, Tryd.ntmps9
  go_upto_region 1 with fail
  try rw [show (w.alloc (Obj.cells #[.int .i64 gc, .int .i64 gs, .int .i64 gn, .int .i64 gl, .int .i64 gk] 23)).alloc (Obj.cells #[.int .i64 q, .int .i64 k, .slice A xs.length c] 26) = w1 from HW1.out]
  try rw [hG]
  by_cases hb : mayB ⟨gc, gs, gn, gl, gk⟩ ⟨q, k, xs⟩
  · have HB := hid hb
    have hds := mayB_dsec hb
    dsimp only at hds
    have hdi := dsec_in k xs
    obtain ⟨T, hT⟩ : ∃ T, size_ k xs = T := ⟨_, rfl⟩
    rw [hT] at hds HNO
    rw [hds] at hdi
    have hne : ¬ (dl : Int) = T * 128 := fun h => HNO.out ⟨HB.out, h⟩
    have hwt : wrap64 (T * 128) = T * 128 := w64 _ (by omega)
    have hnb : ((dl : Int) == T * 128) = false := by simpa using hne
    have hnb2 : ((dl : Int) != T * 128) = true := by rw [bne, hnb]; rfl
    have HDS := hid hds
    clear hb hds hT HNO
    go_wp2_with (first | (go_at_call 31; refine (GeC.may_ok gc gs gn gl gk _ HS.out).mono ?_; rintro e w2 ⟨rfl, f2⟩; rw [decide_eq_true HM.out]; replace FG := hid (FG.out.trans f2); replace P0 := hid (P0.out.fr f2); replace P1 := hid (P1.out.fr f2); replace HX := hid (HX.out.fr FG.out); clear f2) | (go_at_call 10; refine (BtD.may_ok gc gs gn gl gk q k A xs.length c xs true _ HS.out HL.out.1 HL.out.2 HX.out HW.out ⟨fun _ => HB.out, fun _ => rfl⟩).mono ?_; rintro e w3 ⟨rfl, f3⟩; replace FG := hid (FG.out.trans f3); replace P1 := hid (P1.out.fr f3); replace HX := hid (HX.out.fr f3); clear f3; obtain ⟨b0, b1, b2⟩ := P1.out.cells) | (go_at_call 32; refine (data_ok q k A xs.length c xs _ HL.out.1 HX.out HW.out).mono ?_; rintro e w4 ⟨rfl, f4⟩; rw [HDS.out]; replace FG := hid (FG.out.trans f4); clear f4) | ((with_reducible refine ld_geom rfl (.tmp 3) rfl G ?_ P0.out ?_); · rfl) | ((with_reducible refine ld_bt rfl (.tmp 4) rfl (G + 1) ?_ P1.out ?_); · rfl))
    go_ret2
    exact ⟨rfl, FG.out⟩
  · have HB := hid hb
    clear hb HNO
    go_wp2_with (first | (go_at_call 31; refine (GeC.may_ok gc gs gn gl gk _ HS.out).mono ?_; rintro e w2 ⟨rfl, f2⟩; rw [decide_eq_true HM.out]; replace FG := hid (FG.out.trans f2); replace P0 := hid (P0.out.fr f2); replace P1 := hid (P1.out.fr f2); replace HX := hid (HX.out.fr FG.out); clear f2) | (go_at_call 10; refine (BtD.may_ok gc gs gn gl gk q k A xs.length c xs false _ HS.out HL.out.1 HL.out.2 HX.out HW.out ⟨(fun h => Bool.noConfusion h), fun h => absurd h HB.out⟩).mono ?_; rintro e w3 ⟨rfl, f3⟩; replace FG := hid (FG.out.trans f3); clear f3) | ((with_reducible refine ld_geom rfl (.tmp 3) rfl G ?_ P0.out ?_); · rfl) | ((with_reducible refine ld_bt rfl (.tmp 4) rfl (G + 1) ?_ P1.out ?_); · rfl))
    go_ret2
    exact ⟨rfl, FG.out⟩
/-- The bytes of a batch. -/
def bts (q k : Int) (l : List Sp) (zs : List Int) : List Int := seal_ (eB q k (onN 0 zs : Nat) l) ++ zs
set_option maxRecDepth 100000 in
set_option maxHeartbeats 4000000 in
theorem encode_yes (gc gs gn gl gk q k : Int) (A : Option Addr) (c : Nat) (xs : List Sp) (dA : Option Addr) (dl dc : Nat) (zs : List Int) (w : World) (hs : r64 gs) (hlc : xs.length ≤ c) (hx : RdS w A xs.length xs) (hw : ∀ s ∈ xs, wf s) (hz : IsB w dA dl dc zs) (hb : mayB ⟨gc, gs, gn, gl, gk⟩ ⟨q, k, xs⟩) (hd : (dl : Int) = size_ k xs * 128) (hT : TabAt w) :
    Calls Tryd.prog 9 #[.agg #[.int .i64 gc, .int .i64 gs, .int .i64 gn, .int .i64 gl, .int .i64 gk], bv q k A xs.length c, .slice dA dl dc] w fun e w' => (∃ A' c', e = .returned (.tuple #[.slice A' (bts q k xs zs).length c', .int .i64 0]) ∧ IsB w' A' (bts q k xs zs).length c' (bts q k xs zs)) ∧ Fr No w w' := by
  obtain ⟨G, hG⟩ : ∃ G, w.heap.size = G := ⟨_, rfl⟩
  obtain ⟨w1, hw1⟩ : ∃ w1, (w.alloc (bg gc gs gn gl gk)).alloc (.cells (bcs q k A xs.length c) 26) = w1 := ⟨_, rfl⟩
  have FG := hid (show Fr No w w1 by rw [← hw1]; exact (fr1 _ _).alloc _)
  have P0 := hid (show BG w1 G gc gs gn gl gk by rw [← hw1, ← hG]; exact (BG.new w gc gs gn gl gk : Blk _ _ _ _).alloc _)
  have P1 := hid (show BB w1 (G + 1) q k A xs.length c by
    rw [← hw1, ← hG]
    have := BB.new (w.alloc (bg gc gs gn gl gk)) q k A xs.length c
    rwa [World.size_alloc] at this)
  have HS := hid hs
  have HW1 := hid hw1
  clear hs hw1
  have HX := hid (hx.fr FG.out)
  have HW := hid hw
  have HL := hid (And.intro (show xs.length ≤ 140737488355328 by have := hb.2.2.1.2.1; dsimp only at this; omega) hlc)
  have HB := hid hb
  have HZ := hid hz
  have HT := hid hT
  have hds := mayB_dsec hb
  dsimp only at hds
  have hdi := dsec_in k xs
  have htn : size_ k xs ≤ 32768 := by
    have := (mayB_tn hb).2.1
    unfold size_
    dsimp only at this
    split <;> omega
  obtain ⟨T, hTT⟩ : ∃ T, size_ k xs = T := ⟨_, rfl⟩
  rw [hTT] at hds hd htn
  rw [hds] at hdi
  have hwt : wrap64 (T * 128) = T * 128 := w64 _ (by omega)
  have hnb : ((dl : Int) == T * 128) = true := by simpa using hd
  have hnb2 : ((dl : Int) != T * 128) = false := by rw [bne, hnb]; rfl
  have HDL := hid (show dl ≤ 4194304 by omega)
  have HDS := hid hds
  have HOK := hid (mayB_Hok (sum := (onN 0 zs : Nat)) hb (onN_in 0 zs))
  dsimp only at HOK
  have HZL := hid (show zs.length = dl by simpa using hz.1.1)
  clear hx hw hlc hb hz hT hds hTT hdi htn hd
  go_enter Tryd.func9, Tryd.ntmps9
  go_upto_region 1 with fail
  try rw [show (w.alloc (Obj.cells #[.int .i64 gc, .int .i64 gs, .int .i64 gn, .int .i64 gl, .int .i64 gk] 23)).alloc (Obj.cells #[.int .i64 q, .int .i64 k, .slice A xs.length c] 26) = w1 from HW1.out]
  try rw [hG]
  go_upto_region 5 with (first | (go_at_call 31; refine (GeC.may_ok gc gs gn gl gk _ HS.out).mono ?_; rintro e w2 ⟨rfl, f2⟩; rw [decide_eq_true HB.out.1]; replace FG := hid (FG.out.trans f2); replace P0 := hid (P0.out.fr f2); replace P1 := hid (P1.out.fr f2); replace HX := hid (HX.out.fr f2); clear f2) | (go_at_call 10; refine (BtD.may_ok gc gs gn gl gk q k A xs.length c xs true _ HS.out HL.out.1 HL.out.2 HX.out HW.out ⟨fun _ => HB.out, fun _ => rfl⟩).mono ?_; rintro e w3 ⟨rfl, f3⟩; replace FG := hid (FG.out.trans f3); replace P1 := hid (P1.out.fr f3); replace HX := hid (HX.out.fr f3); clear f3; obtain ⟨b0, b1, b2⟩ := P1.out.cells) | (go_at_call 32; refine (data_ok q k A xs.length c xs _ HL.out.1 HX.out HW.out).mono ?_; rintro e w4 ⟨rfl, f4⟩; rw [HDS.out]; replace FG := hid (FG.out.trans f4); replace P1 := hid (P1.out.fr f4); replace HX := hid (HX.out.fr f4); clear f4 b0 b1 b2; obtain ⟨b0, b1, b2⟩ := P1.out.cells) | ((with_reducible refine ld_geom rfl (.tmp 3) rfl G ?_ P0.out ?_); · rfl) | ((with_reducible refine ld_bt rfl (.tmp 4) rfl (G + 1) ?_ P1.out ?_); · rfl))
  have FW : Hid (Fr No w4 w4) := hid (Fr.refl No _)
  have HX4 := HX
  have FW := kd FW
  refine wp_region_noPanic ?_
  refine wp_region_held_drew (S := (fun W' => W'.cell? ⟨G + 1, 0, none⟩ = some (.int .i64 q) ∧ W'.cell? ⟨G + 1, 1, none⟩ = some (.int .i64 k) ∧ W'.cell? ⟨G + 1, 2, none⟩ = some (.slice A xs.length c) ∧ Hid (Fr No w4 W'))) (by kernel_rfl) ?_ (fun hHeld => ?_)
  · (try dsimp only); (first | (go_split_ands; exact ⟨kc f (by assumption), kc f (by assumption), kc f (by assumption), by assumption⟩) | (go_split_ands; exact ⟨(by assumption), (by assumption), (by assumption), by assumption⟩) | (go_split_ands; exact ⟨kc (fr1 _ _) (by assumption), kc (fr1 _ _) (by assumption), kc (fr1 _ _) (by assumption), kfa (by assumption)⟩))
  refine wpAnyH_take (i := 0) (v := ?v1) rfl (by kernel_rfl) (by kernel_rfl) (by kernel_rfl) (fun _ _ _ h => h) (Or.inl ⟨by kernel_rfl, ?y1⟩) (by assumption) ?_
  case y1 => (intro w hSw; (try dsimp only at hSw); go_simp; all_goals with_reducible rfl)
  try simp only [Act.put, List.getElem_toArray, List.getElem_cons_zero, List.setIfInBounds_toArray, List.set_cons_zero, List.set_cons_succ]
  refine wpAnyH_take (i := 1) (v := ?v2) rfl (by kernel_rfl) (by kernel_rfl) (by kernel_rfl) (fun _ _ _ h => h) (Or.inl ⟨by kernel_rfl, ?y2⟩) (by assumption) ?_
  case y2 => (intro w hSw; (try dsimp only at hSw); go_simp; all_goals with_reducible rfl)
  try simp only [Act.put, List.getElem_toArray, List.getElem_cons_succ, List.getElem_cons_zero, List.setIfInBounds_toArray, List.set_cons_zero, List.set_cons_succ]
  refine wpAnyH_ready (rs := [2]) (by kernel_rfl) (by simp) (AllReadyH.cons rfl (fun K hK => ?_) AllReadyH.nil)
  go_simp
  go_at_call 34
  refine (sumF dA dl dc zs _ (HZ.out.fr (FG.out.trans FW.out)) (HT.out.fr (FG.out.trans FW.out) (fun h => h))).mono ?_
  rintro e W1 ⟨rfl, f⟩
  have FW := kf f hHeld.2.2.2
  dsimp only
  refine hK.out _ _ ?_ (fun hHeld => ?_)
  · (try dsimp only); (first | (go_split_ands; exact ⟨kc f (by assumption), kc f (by assumption), kc f (by assumption), by assumption⟩) | (go_split_ands; exact ⟨(by assumption), (by assumption), (by assumption), by assumption⟩) | (go_split_ands; exact ⟨kc (fr1 _ _) (by assumption), kc (fr1 _ _) (by assumption), kc (fr1 _ _) (by assumption), kfa (by assumption)⟩))
  clear hK K
  try simp only [Act.put, List.getElem_toArray, List.getElem_cons_succ, List.getElem_cons_zero, List.setIfInBounds_toArray, List.set_cons_zero, List.set_cons_succ]
  refine wpAnyH_ready (rs := [3]) (by kernel_rfl) (by simp) (AllReadyH.cons rfl (fun K hK => ?_) AllReadyH.nil)
  go_simp
  go_at_call 33
  refine (seal_ok q k (onN 0 zs : Nat) A c xs _ (HX.out.fr FW.out) HOK.out (HT.out.fr (FG.out.trans FW.out) (fun h => h))).mono ?_
  rintro e W1 ⟨Gh, rfl, hb, f⟩
  have FW := kf f hHeld.2.2.2
  have HBS := hid hb
  dsimp only
  refine hK.out _ _ ?_ (fun hHeld => ?_)
  · (try dsimp only); (first | (go_split_ands; exact ⟨kc f (by assumption), kc f (by assumption), kc f (by assumption), by assumption⟩) | (go_split_ands; exact ⟨(by assumption), (by assumption), (by assumption), by assumption⟩) | (go_split_ands; exact ⟨kc (fr1 _ _) (by assumption), kc (fr1 _ _) (by assumption), kc (fr1 _ _) (by assumption), kfa (by assumption)⟩))
  clear hK K
  try simp only [Act.put, List.getElem_toArray, List.getElem_cons_succ, List.getElem_cons_zero, List.setIfInBounds_toArray, List.set_cons_zero, List.set_cons_succ]
  refine wpAnyH_take (i := 4) (v := ?v3) rfl (by kernel_rfl) (by kernel_rfl) (by kernel_rfl) (fun _ _ _ h => h) (Or.inl ⟨by kernel_rfl, ?y3⟩) (by assumption) ?_
  case y3 => (intro w hSw; (try dsimp only at hSw); go_simp; all_goals with_reducible rfl)
  try simp only [Act.put, List.getElem_toArray, List.getElem_cons_succ, List.getElem_cons_zero, List.setIfInBounds_toArray, List.set_cons_zero, List.set_cons_succ]
  refine wpAnyH_take (i := 5) (v := ?v4) rfl (by kernel_rfl) (by kernel_rfl) (by kernel_rfl) (fun _ _ _ h => h) (Or.inl ⟨by kernel_rfl, ?y4⟩) (by assumption) ?_
  case y4 => (intro w hSw; (try dsimp only at hSw); go_simp; all_goals with_reducible rfl)
  try simp only [Act.put, List.getElem_toArray, List.getElem_cons_succ, List.getElem_cons_zero, List.setIfInBounds_toArray, List.set_cons_zero, List.set_cons_succ]
  refine wpAnyH_take (i := 6) (v := ?v5) rfl (by kernel_rfl) (by kernel_rfl) (by kernel_rfl) (fun _ _ _ h => h) (Or.inl ⟨by kernel_rfl, ?y5⟩) (by assumption) ?_
  case y5 => (intro w hSw; (try dsimp only at hSw); go_simp; all_goals with_reducible rfl)
  try simp only [Act.put, List.getElem_toArray, List.getElem_cons_succ, List.getElem_cons_zero, List.setIfInBounds_toArray, List.set_cons_zero, List.set_cons_succ]
  refine wpAnyH_take (i := 7) (v := ?v6) rfl (by kernel_rfl) (by kernel_rfl) (by kernel_rfl) (fun _ _ _ h => h) (Or.inl ⟨by kernel_rfl, ?y6⟩) (by assumption) ?_
  case y6 => (intro w hSw; (try dsimp only at hSw); go_simp; all_goals with_reducible rfl)
  try simp only [Act.put, List.getElem_toArray, List.getElem_cons_succ, List.getElem_cons_zero, List.setIfInBounds_toArray, List.set_cons_zero, List.set_cons_succ]
  refine wpAnyH_take (i := 8) (v := ?v7) rfl (by kernel_rfl) (by kernel_rfl) (by kernel_rfl) (fun _ _ _ h => h) (Or.inl ⟨by kernel_rfl, ?y7⟩) (by assumption) ?_
  case y7 => (intro w hSw; (try dsimp only at hSw); go_simp; all_goals with_reducible rfl)
  try simp only [Act.put, List.getElem_toArray, List.getElem_cons_succ, List.getElem_cons_zero, List.setIfInBounds_toArray, List.set_cons_zero, List.set_cons_succ]
  refine wpAnyH_done (by kernel_rfl) ?_ _
  refine NoPanic.normal ?_
  have FA := hid (show Fr No w W1 from FG.out.trans hHeld.2.2.2.out)
  have HZA := hid (HZ.out.fr FA.out)
  clear hHeld b0 b1 b2 FW
  have HRH := hid (blk_rd HBS.out)
  rw [show (CrcE.cells (seal_ (eB q k (onN 0 zs : Nat) xs))).length = 128 by rw [cells_len]; exact CrcE.seal_len (by rw [eB_len]; have := HOK.out.n; omega)] at HRH
  have HC2 := hid (fun (W : World) (hW : W = W1) (h0 : (W.alloc (.cells #[.slice (some ⟨Gh, 0, none⟩) 128 128, .slice dA dl dc] 27)).cell? ⟨W.heap.size, 0, none⟩ = some (.slice (some ⟨Gh, 0, none⟩) 128 128)) (h1 : (W.alloc (.cells #[.slice (some ⟨Gh, 0, none⟩) 128 128, .slice dA dl dc] 27)).cell? ⟨W.heap.size, 1, none⟩ = some (.slice dA dl dc)) => concat2_ok W.heap.size 2 (some ⟨Gh, 0, none⟩) dA 128 dl 128 dc (seal_ (eB q k (onN 0 zs : Nat) xs)) zs _ h0 h1 (by decide) (by have := HDL.out; omega) ((hW ▸ HRH.out : Rd W _ _ _).fr (fr1 _ _) (fun _ _ _ h => h)) ((hW ▸ HZA.out.1 : Rd W _ _ _).fr (fr1 _ _) (fun _ _ _ h => h)))
  go_wp2_with (go_at_call 35; refine (HC2.out W1 rfl (by simp) (by simp)).mono ?_; rintro e w6 ⟨A', c', rfl, hr, hlim, f6⟩; have FZ := hid ((FA.out.alloc (.cells #[.slice (some ⟨Gh, 0, none⟩) 128 128, .slice dA dl dc] 27)).trans f6); have HRR := hid (And.intro hr hlim); clear hr hlim f6)
  go_ret2
  refine ⟨⟨A', c', (by unfold bts; rw [List.length_append]; rfl), HRR.out.1, HRR.out.2.1, HRR.out.2.2, fun x hx => ?_⟩, FZ.out⟩
  rcases List.mem_append.1 hx with hx | hx
  · exact CrcE.seal_u8 (eB_u8 _ _ _ _) x hx
  · exact HZ.out.2.2.2 x hx
end Go.Proofs.YtcocebfipkbkiaaDoor.BtG
