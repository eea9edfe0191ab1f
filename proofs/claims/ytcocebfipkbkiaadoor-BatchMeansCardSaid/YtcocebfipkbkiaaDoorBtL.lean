/- Contract: the batch with which bytes begin, and where its data are, by the program. Conditions: the geometry may be; what comes in reads as bytes; the table of sums is as its text lays it. -/
import Derived.Test.YtcocebfipkbkiaaDoorBtK
import Derived.Test.YtcocebfipkbkiaaDoorBtG
namespace Go.Proofs.YtcocebfipkbkiaaDoor.BtL
open Go.RowKit MSep MSepC MSpM MGeM MFrame Kit BtA CrcA CrcM BtH BtK
open BtM (Ba mayB dsec mayB_dsec mayB_tn size_ tn)
open BtG (sumF)
open SpA (wf w64)
open GeA (bg BG ld_geom)

theorem fr1d (w : World) (A : Obj) : Fr No w (w.alloc A).drew := (fr1 w A).drew
theorem kfae {a b : World} {o : Obj} (h : Hid (Fr No a b.drew)) : Hid (Fr No a (b.alloc o).drew) := hid (h.out.alloc o)
theorem kcs {b c : World} {p : Addr} {v : Value} {g : Nat} (k : Fr (fun q => q = g) b c) (hn : p.block ≠ g) (h : b.cell? p = some v) : c.cell? p = some v := k.cell_some h hn
theorem kfg {a b c : World} {g : Nat} (hg : a.heap.size ≤ g) (h : Hid (Fr No a b)) (k : Fr (fun q => q = g) b c) : Hid (Fr No a c) := hid (h.out.step k (fun i hi e => absurd hi (by omega)))
theorem st_bt_step {ops : Array Oper} {o : Oper} {ac : Act} {w : World} {K : Act → World → Prop} {Q : Exit → Act → World → Prop} {E : Prop} (hgd : o.guard = none) (x y : Operand) (ho : o.op = .store 26 x y) (g : Nat) (hx : ac.eval x = .pointer (some ⟨g, 0, none⟩)) {a0 a1 a2 : Value}
    (hy : ac.eval y = .agg #[a0, a1, a2]) (h1 : (#[a0, a1, a2] : Array Value).all (·.oneCell') = true) {cs : Array Value} (hg : Blk w g 26 cs) (hsz : cs.size = 3)
    (h : ∀ W', Blk W' g 26 #[a0, a1, a2] → Fr (fun q => q = g) w W' → K (ac.put o.dst undef) W') :
    if Region.wanted o (yielded ops ac.tmps) = true then Oper.wp Tryd.prog o ac w K Q else E :=
  step_wanted hgd (wp_store_row 26 x y ho g _ hx hy 26 _ hg infoBt (hsz.trans rfl) h1 (h _ (Blk.setRow hg _) (Fr.setRow (S := fun q => q = g) (Fr.refl _ _) (fun _ => rfl) _)))
theorem isB_lo {S : Nat → Prop} {w w' : World} {A : Option Addr} {l c : Nat} {zs : List Int} (h : IsB w A l c zs) (hf : Fr S w w') (hS : ∀ g o, A = some ⟨g, o, none⟩ → ¬ S g) : IsB w' A l c zs := ⟨h.1.fr hf hS, h.2⟩
theorem isB_take {w : World} {A : Option Addr} {l c n : Nat} {zs : List Int} (h : IsB w A l c zs) (hn : n ≤ l) : IsB w A n c (zs.take n) :=
  ⟨by rw [List.map_take]; exact h.1.take hn, by have := h.2.1; omega, h.2.2.1, fun x hx => h.2.2.2 x (List.mem_of_mem_take hx)⟩
theorem rdS_lo3 {S : Nat → Prop} {w w' : World} {A : Option Addr} {n : Nat} {l : List Sp} (h : RdS w A n l) (hf : Fr S w w') (hS : 0 < n → ∀ g o, A = some ⟨g, o, none⟩ → ¬ S g) : RdS w' A n l := by
  refine ⟨h.1, h.2.1, fun hn => ?_⟩
  obtain ⟨g, o, hA, hg, hc⟩ := h.2.2 hn
  exact ⟨g, o, hA, Nat.lt_of_lt_of_le hg hf.size, fun j u hu => hf.cell_some (hc j u hu) (hS (by omega) g o hA)⟩
/-- Where spans lie: behind B, within the memory. -/
theorem rdS_gx {w : World} {B : Nat} {A : Option Addr} {n : Nat} {l : List Sp} (h : RdS w A n l) (hf : ∀ g o, A = some ⟨g, o, none⟩ → B ≤ g) : 0 < n → ∀ g o, A = some ⟨g, o, none⟩ → B ≤ g ∧ g < w.heap.size := by
  intro hn g o hA
  refine ⟨hf g o hA, ?_⟩
  obtain ⟨g', o', hA', hg, _⟩ := h.at_ hn
  rw [hA] at hA'
  cases hA'
  exact hg
/-- A head's outcome, in numbers. -/
def hq (o : Option (Ba × Int)) : Int := match o with | none => 0 | some r => r.1.q
def hk (o : Option (Ba × Int)) : Int := match o with | none => 0 | some r => r.1.k
def hl (o : Option (Ba × Int)) : List Sp := match o with | none => [] | some r => r.1.l
def hs_ (o : Option (Ba × Int)) : Int := match o with | none => 0 | some r => r.2
def he_ (o : Option (Ba × Int)) : Int := match o with | none => 10 | some _ => 0
theorem head_u (gc gs gn gl gk : Int) (A : Option Addr) (l c : Nat) (zs : List Int) (w : World) (q k : Int) (xs : List Sp) (s e : Int) (hs : r64 gs) (hm : mayG ⟨gc, gs, gn, gl, gk⟩) (hb : IsB w A l c zs) (hT : TabAt w) (hqe : hq (headG ⟨gc, gs, gn, gl, gk⟩ zs) = q) (hke : hk (headG ⟨gc, gs, gn, gl, gk⟩ zs) = k) (hle : hl (headG ⟨gc, gs, gn, gl, gk⟩ zs) = xs) (hse : hs_ (headG ⟨gc, gs, gn, gl, gk⟩ zs) = s) (hee : he_ (headG ⟨gc, gs, gn, gl, gk⟩ zs) = e) :
    Calls Tryd.prog 18 #[.agg #[.int .i64 gc, .int .i64 gs, .int .i64 gn, .int .i64 gl, .int .i64 gk], .slice A l c] w fun E w' => ∃ A' c', E = .returned (.tuple #[bv q k A' xs.length c', .int .u32 s, .int .i64 e]) ∧ RdS w' A' xs.length xs ∧ (xs.length ≤ c' ∧ c' ≤ maxLen) ∧ (∀ g o, A' = some ⟨g, o, none⟩ → w.heap.size ≤ g) ∧ Fr No w w' := by
  refine (head_ok gc gs gn gl gk A l c zs w hs hm hb hT).mono ?_
  rintro E w' ⟨h1, h2⟩
  subst hqe hke hle hse hee
  cases ho : headG ⟨gc, gs, gn, gl, gk⟩ zs with
  | none =>
    rw [ho] at h1
    exact ⟨none, 0, h1, RdS.nil _ _, ⟨Nat.le_refl _, by simp [maxLen]⟩, (fun g o h => by cases h), h2⟩
  | some r =>
    rw [ho] at h1
    obtain ⟨A', c', rfl, h3, h4, h5⟩ := h1
    exact ⟨A', c', rfl, h3, h4, h5, h2⟩
/-- With what batch bytes begin. -/
noncomputable def beginG (g : Ge) (zs : List Int) : Option (Ba × List Int) :=
  if zs.length = 0 ∨ ¬ zs.length % 128 = 0 then none else
    match headG g (zs.take 128) with
    | none => none
    | some r => if zs.length < 128 + (dsec r.1.k r.1.l).toNat * 128 then none else
        if (onN 0 ((zs.drop 128).take ((dsec r.1.k r.1.l).toNat * 128)) : Int) = r.2 then some (r.1, (zs.drop 128).take ((dsec r.1.k r.1.l).toNat * 128)) else none
def RetN (w w' : World) (E : Ending) (o : Option (Ba × List Int)) : Prop := (match o with
  | none => E = .returned (.tuple #[bv 0 0 none 0 0, .slice none 0 0, .bool false])
  | some r => ∃ A c A2 c2, E = .returned (.tuple #[bv r.1.q r.1.k A r.1.l.length c, .slice A2 r.2.length c2, .bool true]) ∧ RdS w' A r.1.l.length r.1.l ∧ (r.1.l.length ≤ c ∧ c ≤ maxLen) ∧ (∀ g o, A = some ⟨g, o, none⟩ → w.heap.size ≤ g) ∧ IsB w' A2 r.2.length c2 r.2) ∧ Fr No w w'
def CutI (w1 : World) (q k : Int) (xs : List Sp) (s e : Value) (p s' e' : Value) (wx : World) : Prop := ∃ M A c, p = .pointer (some ⟨M, 0, none⟩) ∧ s' = s ∧ e' = e ∧ BB wx M q k A xs.length c ∧ w1.heap.size ≤ M ∧ RdS wx A xs.length xs ∧ (xs.length ≤ c ∧ c ≤ maxLen) ∧ (∀ g o, A = some ⟨g, o, none⟩ → w1.heap.size ≤ g) ∧ Fr No w1 wx
set_option maxRecDepth 100000 in
set_option maxHeartbeats 8000000 in
theorem begin_ok (gc gs gn gl gk : Int) (A : Option Addr) (l c : Nat) (zs : List Int) (w : World) (hs : r64 gs) (hm : mayG ⟨gc, gs, gn, gl, gk⟩) (hb : IsB w A l c zs) (hT : TabAt w) :
    Calls Tryd.prog 44 #[.agg #[.int .i64 gc, .int .i64 gs, .int .i64 gn, .int .i64 gl, .int .i64 gk], .slice A l c] w fun E w' => RetN w w' E (beginG ⟨gc, gs, gn, gl, gk⟩ zs) := by
  obtain ⟨G, hG⟩ : ∃ G, w.heap.size = G := ⟨_, rfl⟩
  obtain ⟨w1, hw1⟩ : ∃ w1, (w.alloc (bg gc gs gn gl gk)).alloc (.cells (bcs 0 0 none 0 0) 26) = w1 := ⟨_, rfl⟩
  have FG := hid (show Fr No w w1 by rw [← hw1]; exact (fr1 _ _).alloc _)
  have P0 := hid (show BG w1 G gc gs gn gl gk by rw [← hw1, ← hG]; exact (BG.new w gc gs gn gl gk : Blk _ _ _ _).alloc _)
  have P1 : BB w1 (G + 1) 0 0 none 0 0 := by
    rw [← hw1, ← hG]
    have := BB.new (w.alloc (bg gc gs gn gl gk)) 0 0 none 0 0
    rwa [World.size_alloc] at this
  have HG := hid hG
  have HS := hid hs
  have HW1 := hid hw1
  clear hs hw1
  have hlen : zs.length = l := by simpa using hb.1.1
  have HLEN := hid hlen
  have HM := hid hm
  have HI := hid (hb.fr FG.out)
  have HT1 := hid (hT.fr FG.out (fun h => h))
  have HB0 := hid hb
  obtain ⟨V, hV⟩ : ∃ V, beginG ⟨gc, gs, gn, gl, gk⟩ zs = V := ⟨_, rfl⟩
  rw [hV]
  have hcm : c ≤ 9223372036854775807 := by have := hb.2.2.1; simp only [maxLen] at this; omega
  have hlc := hb.2.1
  have HCM := hid (And.intro hcm hlc)
  have hmod : wrap64 ((l : Int).tmod 128) = ((l % 128 : Nat) : Int) := by
    rw [Int.tmod_eq_emod_of_nonneg (by omega)]
    exact (w64 _ (by omega)).trans (by omega)
  have hmod2 : (l : Int).tmod 128 = ((l % 128 : Nat) : Int) := by
    rw [Int.tmod_eq_emod_of_nonneg (by omega)]; omega
  clear hm hb hT
  go_enter Tryd.func44, Tryd.ntmps44
  go_upto_region 1 with fail
  try rw [show (w.alloc (Obj.cells #[.int .i64 gc, .int .i64 gs, .int .i64 gn, .int .i64 gl, .int .i64 gk] 23)).alloc (Obj.cells #[.int .i64 0, .int .i64 0, .slice none 0 0] 26) = w1 from HW1.out]
  try rw [hG]
  by_cases h0 : l = 0
  · obtain rfl : V = none := by rw [← hV]; unfold beginG; rw [if_pos (Or.inl (by omega))]
    subst h0
    clear hV hmod hmod2
    have P1' := hid P1
    go_wp2_with (refine st_bt rfl (.tmp 4) (.tmp 20) rfl (G + 1) rfl rfl (by simp [Value.oneCell']) P1'.out rfl ?_; intro w9 HQ9 f9; have HF9 := hid (FG.out.step f9 (fun i hi e => by have := HG.out; omega)); clear f9)
    exact bodyPost_ret (v := .tuple #[bv 0 0 none 0 0, .slice none 0 0, .bool false]) (resH rfl _ _ (G + 1) 0 0 none 0 0 (.slice none 0 0) (.bool false) rfl rfl rfl HQ9) rfl ⟨rfl, HF9.out⟩
  have h0b : ((l : Int) == 0) = false := by simp; omega
  by_cases hr : l % 128 = 0
  case neg =>
    obtain rfl : V = none := by rw [← hV]; unfold beginG; rw [if_pos (Or.inr (by rw [HLEN.out]; exact hr))]
    have hrb : (((l % 128 : Nat) : Int) == 0) = false := by simp; omega
    have hrb2 : (((l % 128 : Nat) : Int) != 0) = true := by rw [bne, hrb]; rfl
    clear hV
    have P1' := hid P1
    go_wp2_with (refine st_bt rfl (.tmp 4) (.tmp 20) rfl (G + 1) rfl rfl (by simp [Value.oneCell']) P1'.out rfl ?_; intro w9 HQ9 f9; have HF9 := hid (FG.out.step f9 (fun i hi e => by have := HG.out; omega)); clear f9)
    exact bodyPost_ret (v := .tuple #[bv 0 0 none 0 0, .slice none 0 0, .bool false]) (resH rfl _ _ (G + 1) 0 0 none 0 0 (.slice none 0 0) (.bool false) rfl rfl rfl HQ9) rfl ⟨rfl, HF9.out⟩
  have hrb : (((l % 128 : Nat) : Int) == 0) = true := by rw [hr]; rfl
  have hrb2 : (((l % 128 : Nat) : Int) != 0) = false := by rw [bne, hrb]; rfl
  go_upto_region 3 with fail
  clear hmod hmod2 hrb hrb2 h0b
  have hl128 : 128 ≤ l := by omega
  obtain ⟨q, hqe⟩ : ∃ q, hq (headG ⟨gc, gs, gn, gl, gk⟩ (zs.take 128)) = q := ⟨_, rfl⟩
  obtain ⟨k, hke⟩ : ∃ q, hk (headG ⟨gc, gs, gn, gl, gk⟩ (zs.take 128)) = q := ⟨_, rfl⟩
  obtain ⟨xs, hxe⟩ : ∃ q, hl (headG ⟨gc, gs, gn, gl, gk⟩ (zs.take 128)) = q := ⟨_, rfl⟩
  obtain ⟨s, hse⟩ : ∃ q, hs_ (headG ⟨gc, gs, gn, gl, gk⟩ (zs.take 128)) = q := ⟨_, rfl⟩
  obtain ⟨e, hee⟩ : ∃ q, he_ (headG ⟨gc, gs, gn, gl, gk⟩ (zs.take 128)) = q := ⟨_, rfl⟩
  have HC1 := hid (fun W (hi : IsB W A l c zs) (ht : TabAt W) => head_u gc gs gn gl gk A 128 c (zs.take 128) W q k xs s e HS.out HM.out (isB_take hi hl128) ht hqe hke hxe hse hee)
  have hc128 : (128 : Int) ≤ c := by omega
  obtain ⟨g0, g1, g2, g3, g4⟩ := P0.out.cells
  have HP1 := hid P1
  have HEQ := hid (And.intro hqe (And.intro hke (And.intro hxe (And.intro hse hee))))
  have hGL : G + 1 < w1.heap.size := Blk.lt P1
  clear P1 hqe hke hxe hse hee
  have FW : Hid (Fr No w1 w1) := hid (Fr.refl No _)
  go_cut [7, 8, 9] (fun p s' e' wx => CutI w1 q k xs (.int .u32 s) (.int .i64 e) p s' e' wx)
  case first =>
    have FW := kd FW
    refine wp_region_noPanic ?_
    refine wp_region_held_drew (S := (fun W' => W'.cell? ⟨G, 0, none⟩ = some (.int .i64 gc) ∧ W'.cell? ⟨G, 1, none⟩ = some (.int .i64 gs) ∧ W'.cell? ⟨G, 2, none⟩ = some (.int .i64 gn) ∧ W'.cell? ⟨G, 3, none⟩ = some (.int .i64 gl) ∧ W'.cell? ⟨G, 4, none⟩ = some (.int .i64 gk) ∧ Hid (Fr No w1 W'))) (by kernel_rfl) ?_ (fun hHeld => ?_)
    · (try dsimp only); (first | (go_split_ands; exact ⟨kc f (by assumption), kc f (by assumption), kc f (by assumption), kc f (by assumption), kc f (by assumption), by assumption⟩) | (go_split_ands; exact ⟨(by assumption), (by assumption), (by assumption), (by assumption), (by assumption), by assumption⟩) | (go_split_ands; exact ⟨kc (fr1 _ _) (by assumption), kc (fr1 _ _) (by assumption), kc (fr1 _ _) (by assumption), kc (fr1 _ _) (by assumption), kc (fr1 _ _) (by assumption), kfa (by assumption)⟩) | (go_split_ands; exact ⟨kc (fr1d _ _) (by assumption), kc (fr1d _ _) (by assumption), kc (fr1d _ _) (by assumption), kc (fr1d _ _) (by assumption), kc (fr1d _ _) (by assumption), kfae (by assumption)⟩) | (exact ⟨kcs hf2 (by simp only []; omega) hHeld.1, kcs hf2 (by simp only []; omega) hHeld.2.1, kcs hf2 (by simp only []; omega) hHeld.2.2.1, kcs hf2 (by simp only []; omega) hHeld.2.2.2.1, kcs hf2 (by simp only []; omega) hHeld.2.2.2.2.1, kfg (by omega) FW hf2⟩) | (exact ⟨kcs hf2 (by simp only []; omega) hHeld.1, kcs hf2 (by simp only []; omega) hHeld.2.1, kcs hf2 (by simp only []; omega) hHeld.2.2.1, kcs hf2 (by simp only []; omega) hHeld.2.2.2.1, kcs hf2 (by simp only []; omega) hHeld.2.2.2.2.1, kfg (by omega) hHeld.2.2.2.2.2 hf2⟩) | (go_split_ands; exact ⟨kcs hf2 (by simp only []; omega) (by assumption), kcs hf2 (by simp only []; omega) (by assumption), kcs hf2 (by simp only []; omega) (by assumption), kcs hf2 (by simp only []; omega) (by assumption), kcs hf2 (by simp only []; omega) (by assumption), kfg (by omega) (by assumption) hf2⟩))
    refine wpAnyH_take (i := 0) (v := ?v1) rfl (by kernel_rfl) (by kernel_rfl) (by kernel_rfl) (fun _ _ _ h => h) (Or.inl ⟨by kernel_rfl, ?y1⟩) (by assumption) ?_
    case y1 => (intro w hSw; (try dsimp only at hSw); go_simp; all_goals with_reducible rfl)
    try simp only [Act.put, List.getElem_toArray, List.getElem_cons_zero, List.setIfInBounds_toArray, List.set_cons_zero, List.set_cons_succ]
    refine wpAnyH_take (i := 1) (v := ?v2) rfl (by kernel_rfl) (by kernel_rfl) (by kernel_rfl) (fun _ _ _ h => h) (Or.inl ⟨by kernel_rfl, ?y2⟩) (by assumption) ?_
    case y2 => (intro w hSw; (try dsimp only at hSw); go_simp; all_goals with_reducible rfl)
    try simp only [Act.put, List.getElem_toArray, List.getElem_cons_succ, List.getElem_cons_zero, List.setIfInBounds_toArray, List.set_cons_zero, List.set_cons_succ]
    refine wpAnyH_take (i := 2) (v := ?v3) rfl (by kernel_rfl) (by kernel_rfl) (by kernel_rfl) (fun _ _ _ h => h) (Or.inl ⟨by kernel_rfl, ?y3⟩) (by assumption) ?_
    case y3 => (intro w hSw; (try dsimp only at hSw); go_simp; all_goals with_reducible rfl)
    try simp only [Act.put, List.getElem_toArray, List.getElem_cons_succ, List.getElem_cons_zero, List.setIfInBounds_toArray, List.set_cons_zero, List.set_cons_succ]
    refine wpAnyH_ready (rs := [3, 8]) (by kernel_rfl) (by simp) (AllReadyH.cons rfl (fun K hK => ?_) (AllReadyH.cons rfl (fun K hK => ?_) AllReadyH.nil))
    · go_simp
      go_at_call 18
      refine (HC1.out _ (HI.out.fr hHeld.2.2.2.2.2.out) (HT1.out.fr hHeld.2.2.2.2.2.out (fun h => h))).mono ?_
      rintro e W1 ⟨Ah, ch, rfl, hxs, hlim, hfr, f⟩
      have FW := kf f hHeld.2.2.2.2.2
      have HXS := hid hxs
      have HLM := hid hlim
      have HFQ := hid (fun g o h => Nat.le_trans (show w1.heap.size ≤ _ from by first | exact hszA | exact Nat.le_refl _) (hfr g o h))
      (try have MX := hid (Blk.fr MX.out f (fun h => h)))
      have hsz1 : w1.heap.size ≤ W1.heap.size := (by first | exact f.size | (have q1 := f.size; have q2 := hszA; omega))
      have HGX := hid (rdS_gx HXS.out hfr)
      dsimp only
      refine hK.out _ _ ?_ (fun hHeld => ?_)
      · (try dsimp only); (first | (go_split_ands; exact ⟨kc f (by assumption), kc f (by assumption), kc f (by assumption), kc f (by assumption), kc f (by assumption), by assumption⟩) | (go_split_ands; exact ⟨(by assumption), (by assumption), (by assumption), (by assumption), (by assumption), by assumption⟩) | (go_split_ands; exact ⟨kc (fr1 _ _) (by assumption), kc (fr1 _ _) (by assumption), kc (fr1 _ _) (by assumption), kc (fr1 _ _) (by assumption), kc (fr1 _ _) (by assumption), kfa (by assumption)⟩) | (go_split_ands; exact ⟨kc (fr1d _ _) (by assumption), kc (fr1d _ _) (by assumption), kc (fr1d _ _) (by assumption), kc (fr1d _ _) (by assumption), kc (fr1d _ _) (by assumption), kfae (by assumption)⟩) | (exact ⟨kcs hf2 (by simp only []; omega) hHeld.1, kcs hf2 (by simp only []; omega) hHeld.2.1, kcs hf2 (by simp only []; omega) hHeld.2.2.1, kcs hf2 (by simp only []; omega) hHeld.2.2.2.1, kcs hf2 (by simp only []; omega) hHeld.2.2.2.2.1, kfg (by omega) FW hf2⟩) | (exact ⟨kcs hf2 (by simp only []; omega) hHeld.1, kcs hf2 (by simp only []; omega) hHeld.2.1, kcs hf2 (by simp only []; omega) hHeld.2.2.1, kcs hf2 (by simp only []; omega) hHeld.2.2.2.1, kcs hf2 (by simp only []; omega) hHeld.2.2.2.2.1, kfg (by omega) hHeld.2.2.2.2.2 hf2⟩) | (go_split_ands; exact ⟨kcs hf2 (by simp only []; omega) (by assumption), kcs hf2 (by simp only []; omega) (by assumption), kcs hf2 (by simp only []; omega) (by assumption), kcs hf2 (by simp only []; omega) (by assumption), kcs hf2 (by simp only []; omega) (by assumption), kfg (by omega) (by assumption) hf2⟩))
      clear hK K
      try simp only [Act.put, List.getElem_toArray, List.getElem_cons_succ, List.getElem_cons_zero, List.setIfInBounds_toArray, List.set_cons_zero, List.set_cons_succ]
      refine wpAnyH_take (i := 4) (v := ?v4) rfl (by kernel_rfl) (by kernel_rfl) (by kernel_rfl) (fun _ _ _ h => h) (Or.inl ⟨by kernel_rfl, ?y4⟩) (by assumption) ?_
      case y4 => (intro w hSw; (try dsimp only at hSw); go_simp; all_goals with_reducible rfl)
      try simp only [Act.put, List.getElem_toArray, List.getElem_cons_succ, List.getElem_cons_zero, List.setIfInBounds_toArray, List.set_cons_zero, List.set_cons_succ]
      refine wpAnyH_take (i := 5) (v := ?v5) rfl (by kernel_rfl) (by kernel_rfl) (by kernel_rfl) (fun _ _ _ h => h) (Or.inl ⟨by kernel_rfl, ?y5⟩) (by assumption) ?_
      case y5 => (intro w hSw; (try dsimp only at hSw); go_simp; all_goals with_reducible rfl)
      try simp only [Act.put, List.getElem_toArray, List.getElem_cons_succ, List.getElem_cons_zero, List.setIfInBounds_toArray, List.set_cons_zero, List.set_cons_succ]
      refine wpAnyH_take (i := 6) (v := ?v6) rfl (by kernel_rfl) (by kernel_rfl) (by kernel_rfl) (fun _ _ _ h => h) (Or.inl ⟨by kernel_rfl, ?y6⟩) (by assumption) ?_
      case y6 => (intro w hSw; (try dsimp only at hSw); go_simp; all_goals with_reducible rfl)
      try simp only [Act.put, List.getElem_toArray, List.getElem_cons_succ, List.getElem_cons_zero, List.setIfInBounds_toArray, List.set_cons_zero, List.set_cons_succ]
      refine wpAnyH_take (i := 7) (v := ?v7) rfl (by kernel_rfl) (by kernel_rfl) (by kernel_rfl) (fun _ _ _ h => h) (Or.inl ⟨by kernel_rfl, ?y7⟩) (by assumption) ?_
      case y7 => (intro w hSw; (try dsimp only at hSw); go_simp; all_goals with_reducible rfl)
      try simp only [Act.put, List.getElem_toArray, List.getElem_cons_succ, List.getElem_cons_zero, List.setIfInBounds_toArray, List.set_cons_zero, List.set_cons_succ]
      refine wpAnyH_ready (rs := [8]) (by kernel_rfl) (by simp) (AllReadyH.cons rfl (fun K hK => ?_) AllReadyH.nil)
      go_simp
      refine hK.out _ _ ?_ (fun hHeld => ?_)
      · (try dsimp only); (first | (go_split_ands; exact ⟨kc f (by assumption), kc f (by assumption), kc f (by assumption), kc f (by assumption), kc f (by assumption), by assumption⟩) | (go_split_ands; exact ⟨(by assumption), (by assumption), (by assumption), (by assumption), (by assumption), by assumption⟩) | (go_split_ands; exact ⟨kc (fr1 _ _) (by assumption), kc (fr1 _ _) (by assumption), kc (fr1 _ _) (by assumption), kc (fr1 _ _) (by assumption), kc (fr1 _ _) (by assumption), kfa (by assumption)⟩) | (go_split_ands; exact ⟨kc (fr1d _ _) (by assumption), kc (fr1d _ _) (by assumption), kc (fr1d _ _) (by assumption), kc (fr1d _ _) (by assumption), kc (fr1d _ _) (by assumption), kfae (by assumption)⟩) | (exact ⟨kcs hf2 (by simp only []; omega) hHeld.1, kcs hf2 (by simp only []; omega) hHeld.2.1, kcs hf2 (by simp only []; omega) hHeld.2.2.1, kcs hf2 (by simp only []; omega) hHeld.2.2.2.1, kcs hf2 (by simp only []; omega) hHeld.2.2.2.2.1, kfg (by omega) FW hf2⟩) | (exact ⟨kcs hf2 (by simp only []; omega) hHeld.1, kcs hf2 (by simp only []; omega) hHeld.2.1, kcs hf2 (by simp only []; omega) hHeld.2.2.1, kcs hf2 (by simp only []; omega) hHeld.2.2.2.1, kcs hf2 (by simp only []; omega) hHeld.2.2.2.2.1, kfg (by omega) hHeld.2.2.2.2.2 hf2⟩) | (go_split_ands; exact ⟨kcs hf2 (by simp only []; omega) (by assumption), kcs hf2 (by simp only []; omega) (by assumption), kcs hf2 (by simp only []; omega) (by assumption), kcs hf2 (by simp only []; omega) (by assumption), kcs hf2 (by simp only []; omega) (by assumption), kfg (by omega) (by assumption) hf2⟩))
      clear hK K
      try simp only [Act.put, List.getElem_toArray, List.getElem_cons_succ, List.getElem_cons_zero, List.setIfInBounds_toArray, List.set_cons_zero, List.set_cons_succ]
      have MX := hid (Blk.new W1 26 #[.int .i64 0, .int .i64 0, .slice none 0 0]); have HXS := hid (HXS.out.fr (fr1 W1 (.cells #[.int .i64 0, .int .i64 0, .slice none 0 0] 26)))
      refine wpAnyH_ready (rs := [9]) (by kernel_rfl) (by simp) (AllReadyH.cons rfl (fun K hK => ?_) AllReadyH.nil)
      refine st_bt_step rfl (.tmp 7) (.tmp 26) rfl _ rfl rfl (by simp [Value.oneCell']) MX.out rfl ?_
      intro W2 hb2 hf2
      refine hK.out _ _ ?_ (fun hHeld => ?_)
      · (try dsimp only); (first | (go_split_ands; exact ⟨kc f (by assumption), kc f (by assumption), kc f (by assumption), kc f (by assumption), kc f (by assumption), by assumption⟩) | (go_split_ands; exact ⟨(by assumption), (by assumption), (by assumption), (by assumption), (by assumption), by assumption⟩) | (go_split_ands; exact ⟨kc (fr1 _ _) (by assumption), kc (fr1 _ _) (by assumption), kc (fr1 _ _) (by assumption), kc (fr1 _ _) (by assumption), kc (fr1 _ _) (by assumption), kfa (by assumption)⟩) | (go_split_ands; exact ⟨kc (fr1d _ _) (by assumption), kc (fr1d _ _) (by assumption), kc (fr1d _ _) (by assumption), kc (fr1d _ _) (by assumption), kc (fr1d _ _) (by assumption), kfae (by assumption)⟩) | (exact ⟨kcs hf2 (by simp only []; omega) hHeld.1, kcs hf2 (by simp only []; omega) hHeld.2.1, kcs hf2 (by simp only []; omega) hHeld.2.2.1, kcs hf2 (by simp only []; omega) hHeld.2.2.2.1, kcs hf2 (by simp only []; omega) hHeld.2.2.2.2.1, kfg (by omega) FW hf2⟩) | (exact ⟨kcs hf2 (by simp only []; omega) hHeld.1, kcs hf2 (by simp only []; omega) hHeld.2.1, kcs hf2 (by simp only []; omega) hHeld.2.2.1, kcs hf2 (by simp only []; omega) hHeld.2.2.2.1, kcs hf2 (by simp only []; omega) hHeld.2.2.2.2.1, kfg (by omega) hHeld.2.2.2.2.2 hf2⟩) | (go_split_ands; exact ⟨kcs hf2 (by simp only []; omega) (by assumption), kcs hf2 (by simp only []; omega) (by assumption), kcs hf2 (by simp only []; omega) (by assumption), kcs hf2 (by simp only []; omega) (by assumption), kcs hf2 (by simp only []; omega) (by assumption), kfg (by omega) (by assumption) hf2⟩))
      clear hK K
      try simp only [Act.put, List.getElem_toArray, List.getElem_cons_succ, List.getElem_cons_zero]
      have FW := hHeld.2.2.2.2.2; have MX := hid hb2; have hne : w1.heap.size ≤ W1.heap.size := (by omega); have HX2 := hid (rdS_lo3 HXS.out hf2 (fun h0 g o hA e => by have q1 := HGX.out h0 g o hA; have e : g = W1.heap.size := e; (try rw [World.size_alloc] at q1); omega)); clear hf2 hb2
      refine wpAnyH_take (i := 10) (v := ?v8) rfl (by kernel_rfl) (by kernel_rfl) (by kernel_rfl) (fun _ _ _ h => h) (Or.inl ⟨by kernel_rfl, ?y8⟩) (by assumption) ?_
      case y8 => (intro w hSw; (try dsimp only at hSw); go_simp; all_goals with_reducible rfl)
      try simp only [Act.put, List.getElem_toArray, List.getElem_cons_succ, List.getElem_cons_zero, List.setIfInBounds_toArray, List.set_cons_zero, List.set_cons_succ]
      refine wpAnyH_take (i := 11) (v := ?v9) rfl (by kernel_rfl) (by kernel_rfl) (by kernel_rfl) (fun _ _ _ h => h) (Or.inl ⟨by kernel_rfl, ?y9⟩) (by assumption) ?_
      case y9 => (intro w hSw; (try dsimp only at hSw); go_simp; all_goals with_reducible rfl)
      try simp only [Act.put, List.getElem_toArray, List.getElem_cons_succ, List.getElem_cons_zero, List.setIfInBounds_toArray, List.set_cons_zero, List.set_cons_succ]
      refine wpAnyH_done (by kernel_rfl) ?_ _
      refine NoPanic.normal ?_
      go_wp2_with fail
      go_meet
      case rel => (try refine ⟨_, _, _, ?_, rfl, rfl, rfl⟩); exact ⟨_, _, _, rfl, rfl, rfl, MX.out, hne, HX2.out, HLM.out, HFQ.out, FW.out⟩
    · go_simp
      refine hK.out _ _ ?_ (fun hHeld => ?_)
      · (try dsimp only); (first | (go_split_ands; exact ⟨kc f (by assumption), kc f (by assumption), kc f (by assumption), kc f (by assumption), kc f (by assumption), by assumption⟩) | (go_split_ands; exact ⟨(by assumption), (by assumption), (by assumption), (by assumption), (by assumption), by assumption⟩) | (go_split_ands; exact ⟨kc (fr1 _ _) (by assumption), kc (fr1 _ _) (by assumption), kc (fr1 _ _) (by assumption), kc (fr1 _ _) (by assumption), kc (fr1 _ _) (by assumption), kfa (by assumption)⟩) | (go_split_ands; exact ⟨kc (fr1d _ _) (by assumption), kc (fr1d _ _) (by assumption), kc (fr1d _ _) (by assumption), kc (fr1d _ _) (by assumption), kc (fr1d _ _) (by assumption), kfae (by assumption)⟩) | (exact ⟨kcs hf2 (by simp only []; omega) hHeld.1, kcs hf2 (by simp only []; omega) hHeld.2.1, kcs hf2 (by simp only []; omega) hHeld.2.2.1, kcs hf2 (by simp only []; omega) hHeld.2.2.2.1, kcs hf2 (by simp only []; omega) hHeld.2.2.2.2.1, kfg (by omega) FW hf2⟩) | (exact ⟨kcs hf2 (by simp only []; omega) hHeld.1, kcs hf2 (by simp only []; omega) hHeld.2.1, kcs hf2 (by simp only []; omega) hHeld.2.2.1, kcs hf2 (by simp only []; omega) hHeld.2.2.2.1, kcs hf2 (by simp only []; omega) hHeld.2.2.2.2.1, kfg (by omega) hHeld.2.2.2.2.2 hf2⟩) | (go_split_ands; exact ⟨kcs hf2 (by simp only []; omega) (by assumption), kcs hf2 (by simp only []; omega) (by assumption), kcs hf2 (by simp only []; omega) (by assumption), kcs hf2 (by simp only []; omega) (by assumption), kcs hf2 (by simp only []; omega) (by assumption), kfg (by omega) (by assumption) hf2⟩))
      clear hK K
      try simp only [Act.put, List.getElem_toArray, List.getElem_cons_succ, List.getElem_cons_zero, List.setIfInBounds_toArray, List.set_cons_zero, List.set_cons_succ]
      have MX := hid (show Blk (w1.alloc (.cells #[.int .i64 0, .int .i64 0, .slice none 0 0] 26)).drew w1.heap.size 26 #[.int .i64 0, .int .i64 0, .slice none 0 0] from Blk.new w1 _ _); have hszA : w1.heap.size ≤ (w1.alloc (.cells #[.int .i64 0, .int .i64 0, .slice none 0 0] 26)).drew.heap.size := (by show w1.heap.size ≤ (w1.alloc (.cells #[.int .i64 0, .int .i64 0, .slice none 0 0] 26)).heap.size; rw [World.size_alloc]; omega); have hszA2 : w1.heap.size + 1 ≤ (w1.alloc (.cells #[.int .i64 0, .int .i64 0, .slice none 0 0] 26)).drew.heap.size := (by show w1.heap.size + 1 ≤ (w1.alloc (.cells #[.int .i64 0, .int .i64 0, .slice none 0 0] 26)).heap.size; rw [World.size_alloc]; exact Nat.le_refl _)
      refine wpAnyH_ready (rs := [3]) (by kernel_rfl) (by simp) (AllReadyH.cons rfl (fun K hK => ?_) AllReadyH.nil)
      go_simp
      go_at_call 18
      refine (HC1.out _ (HI.out.fr hHeld.2.2.2.2.2.out) (HT1.out.fr hHeld.2.2.2.2.2.out (fun h => h))).mono ?_
      rintro e W1 ⟨Ah, ch, rfl, hxs, hlim, hfr, f⟩
      have FW := kf f hHeld.2.2.2.2.2
      have HXS := hid hxs
      have HLM := hid hlim
      have HFQ := hid (fun g o h => Nat.le_trans (show w1.heap.size ≤ _ from by first | exact hszA | exact Nat.le_refl _) (hfr g o h))
      (try have MX := hid (Blk.fr MX.out f (fun h => h)))
      have hsz1 : w1.heap.size ≤ W1.heap.size := (by first | exact f.size | (have q1 := f.size; have q2 := hszA; omega))
      have HGX := hid (rdS_gx HXS.out hfr)
      dsimp only
      refine hK.out _ _ ?_ (fun hHeld => ?_)
      · (try dsimp only); (first | (go_split_ands; exact ⟨kc f (by assumption), kc f (by assumption), kc f (by assumption), kc f (by assumption), kc f (by assumption), by assumption⟩) | (go_split_ands; exact ⟨(by assumption), (by assumption), (by assumption), (by assumption), (by assumption), by assumption⟩) | (go_split_ands; exact ⟨kc (fr1 _ _) (by assumption), kc (fr1 _ _) (by assumption), kc (fr1 _ _) (by assumption), kc (fr1 _ _) (by assumption), kc (fr1 _ _) (by assumption), kfa (by assumption)⟩) | (go_split_ands; exact ⟨kc (fr1d _ _) (by assumption), kc (fr1d _ _) (by assumption), kc (fr1d _ _) (by assumption), kc (fr1d _ _) (by assumption), kc (fr1d _ _) (by assumption), kfae (by assumption)⟩) | (exact ⟨kcs hf2 (by simp only []; omega) hHeld.1, kcs hf2 (by simp only []; omega) hHeld.2.1, kcs hf2 (by simp only []; omega) hHeld.2.2.1, kcs hf2 (by simp only []; omega) hHeld.2.2.2.1, kcs hf2 (by simp only []; omega) hHeld.2.2.2.2.1, kfg (by omega) FW hf2⟩) | (exact ⟨kcs hf2 (by simp only []; omega) hHeld.1, kcs hf2 (by simp only []; omega) hHeld.2.1, kcs hf2 (by simp only []; omega) hHeld.2.2.1, kcs hf2 (by simp only []; omega) hHeld.2.2.2.1, kcs hf2 (by simp only []; omega) hHeld.2.2.2.2.1, kfg (by omega) hHeld.2.2.2.2.2 hf2⟩) | (go_split_ands; exact ⟨kcs hf2 (by simp only []; omega) (by assumption), kcs hf2 (by simp only []; omega) (by assumption), kcs hf2 (by simp only []; omega) (by assumption), kcs hf2 (by simp only []; omega) (by assumption), kcs hf2 (by simp only []; omega) (by assumption), kfg (by omega) (by assumption) hf2⟩))
      clear hK K
      try simp only [Act.put, List.getElem_toArray, List.getElem_cons_succ, List.getElem_cons_zero, List.setIfInBounds_toArray, List.set_cons_zero, List.set_cons_succ]
      refine wpAnyH_take (i := 4) (v := ?v10) rfl (by kernel_rfl) (by kernel_rfl) (by kernel_rfl) (fun _ _ _ h => h) (Or.inl ⟨by kernel_rfl, ?y10⟩) (by assumption) ?_
      case y10 => (intro w hSw; (try dsimp only at hSw); go_simp; all_goals with_reducible rfl)
      try simp only [Act.put, List.getElem_toArray, List.getElem_cons_succ, List.getElem_cons_zero, List.setIfInBounds_toArray, List.set_cons_zero, List.set_cons_succ]
      refine wpAnyH_take (i := 5) (v := ?v11) rfl (by kernel_rfl) (by kernel_rfl) (by kernel_rfl) (fun _ _ _ h => h) (Or.inl ⟨by kernel_rfl, ?y11⟩) (by assumption) ?_
      case y11 => (intro w hSw; (try dsimp only at hSw); go_simp; all_goals with_reducible rfl)
      try simp only [Act.put, List.getElem_toArray, List.getElem_cons_succ, List.getElem_cons_zero, List.setIfInBounds_toArray, List.set_cons_zero, List.set_cons_succ]
      refine wpAnyH_take (i := 6) (v := ?v12) rfl (by kernel_rfl) (by kernel_rfl) (by kernel_rfl) (fun _ _ _ h => h) (Or.inl ⟨by kernel_rfl, ?y12⟩) (by assumption) ?_
      case y12 => (intro w hSw; (try dsimp only at hSw); go_simp; all_goals with_reducible rfl)
      try simp only [Act.put, List.getElem_toArray, List.getElem_cons_succ, List.getElem_cons_zero, List.setIfInBounds_toArray, List.set_cons_zero, List.set_cons_succ]
      refine wpAnyH_take (i := 7) (v := ?v13) rfl (by kernel_rfl) (by kernel_rfl) (by kernel_rfl) (fun _ _ _ h => h) (Or.inl ⟨by kernel_rfl, ?y13⟩) (by assumption) ?_
      case y13 => (intro w hSw; (try dsimp only at hSw); go_simp; all_goals with_reducible rfl)
      try simp only [Act.put, List.getElem_toArray, List.getElem_cons_succ, List.getElem_cons_zero, List.setIfInBounds_toArray, List.set_cons_zero, List.set_cons_succ]
      refine wpAnyH_ready (rs := [9]) (by kernel_rfl) (by simp) (AllReadyH.cons rfl (fun K hK => ?_) AllReadyH.nil)
      refine st_bt_step rfl (.tmp 7) (.tmp 26) rfl _ rfl rfl (by simp [Value.oneCell']) MX.out rfl ?_
      intro W2 hb2 hf2
      refine hK.out _ _ ?_ (fun hHeld => ?_)
      · (try dsimp only); (first | (go_split_ands; exact ⟨kc f (by assumption), kc f (by assumption), kc f (by assumption), kc f (by assumption), kc f (by assumption), by assumption⟩) | (go_split_ands; exact ⟨(by assumption), (by assumption), (by assumption), (by assumption), (by assumption), by assumption⟩) | (go_split_ands; exact ⟨kc (fr1 _ _) (by assumption), kc (fr1 _ _) (by assumption), kc (fr1 _ _) (by assumption), kc (fr1 _ _) (by assumption), kc (fr1 _ _) (by assumption), kfa (by assumption)⟩) | (go_split_ands; exact ⟨kc (fr1d _ _) (by assumption), kc (fr1d _ _) (by assumption), kc (fr1d _ _) (by assumption), kc (fr1d _ _) (by assumption), kc (fr1d _ _) (by assumption), kfae (by assumption)⟩) | (exact ⟨kcs hf2 (by simp only []; omega) hHeld.1, kcs hf2 (by simp only []; omega) hHeld.2.1, kcs hf2 (by simp only []; omega) hHeld.2.2.1, kcs hf2 (by simp only []; omega) hHeld.2.2.2.1, kcs hf2 (by simp only []; omega) hHeld.2.2.2.2.1, kfg (by omega) FW hf2⟩) | (exact ⟨kcs hf2 (by simp only []; omega) hHeld.1, kcs hf2 (by simp only []; omega) hHeld.2.1, kcs hf2 (by simp only []; omega) hHeld.2.2.1, kcs hf2 (by simp only []; omega) hHeld.2.2.2.1, kcs hf2 (by simp only []; omega) hHeld.2.2.2.2.1, kfg (by omega) hHeld.2.2.2.2.2 hf2⟩) | (go_split_ands; exact ⟨kcs hf2 (by simp only []; omega) (by assumption), kcs hf2 (by simp only []; omega) (by assumption), kcs hf2 (by simp only []; omega) (by assumption), kcs hf2 (by simp only []; omega) (by assumption), kcs hf2 (by simp only []; omega) (by assumption), kfg (by omega) (by assumption) hf2⟩))
      clear hK K
      try simp only [Act.put, List.getElem_toArray, List.getElem_cons_succ, List.getElem_cons_zero]
      have FW := hHeld.2.2.2.2.2; have MX := hid hb2; have hne : w1.heap.size ≤ w1.heap.size := (by omega); have HX2 := hid (rdS_lo3 HXS.out hf2 (fun h0 g o hA e => by have q1 := HGX.out h0 g o hA; have e : g = w1.heap.size := e; (try rw [World.size_alloc] at q1); omega)); clear hf2 hb2
      refine wpAnyH_take (i := 10) (v := ?v14) rfl (by kernel_rfl) (by kernel_rfl) (by kernel_rfl) (fun _ _ _ h => h) (Or.inl ⟨by kernel_rfl, ?y14⟩) (by assumption) ?_
      case y14 => (intro w hSw; (try dsimp only at hSw); go_simp; all_goals with_reducible rfl)
      try simp only [Act.put, List.getElem_toArray, List.getElem_cons_succ, List.getElem_cons_zero, List.setIfInBounds_toArray, List.set_cons_zero, List.set_cons_succ]
      refine wpAnyH_take (i := 11) (v := ?v15) rfl (by kernel_rfl) (by kernel_rfl) (by kernel_rfl) (fun _ _ _ h => h) (Or.inl ⟨by kernel_rfl, ?y15⟩) (by assumption) ?_
      case y15 => (intro w hSw; (try dsimp only at hSw); go_simp; all_goals with_reducible rfl)
      try simp only [Act.put, List.getElem_toArray, List.getElem_cons_succ, List.getElem_cons_zero, List.setIfInBounds_toArray, List.set_cons_zero, List.set_cons_succ]
      refine wpAnyH_done (by kernel_rfl) ?_ _
      refine NoPanic.normal ?_
      go_wp2_with fail
      go_meet
      case rel => (try refine ⟨_, _, _, ?_, rfl, rfl, rfl⟩); exact ⟨_, _, _, rfl, rfl, rfl, MX.out, hne, HX2.out, HLM.out, HFQ.out, FW.out⟩
  case rest =>
    clear g0 g1 g2 g3 g4
    obtain ⟨M, Ah, ch, rfl, rfl, rfl, hB, hM, hx, hlim, hfr, hf⟩ := hcut
    have P1' := hid (Blk.fr HP1.out hf (fun h => h))
    have FR := hid hf
    replace FG := hid (FG.out.trans hf)
    have HBM := hid hB
    have HXS := hid hx
    have HLM := hid hlim
    have HFR := hid (show ∀ g o, Ah = some ⟨g, o, none⟩ → w.heap.size ≤ g ∧ g ≠ G + 1 from fun g o h => by have q1 := hfr g o h; have := HG.out; omega)
    have HMM := hid hM
    obtain ⟨b0, b1, b2⟩ := BB.cells hB
    clear hf hB hx hlim hfr hM HC1 hGL HP1
    cases ho : headG ⟨gc, gs, gn, gl, gk⟩ (zs.take 128) with
    | none =>
      obtain rfl : e = 10 := by have := HEQ.out.2.2.2.2; rw [ho] at this; exact this.symm
      obtain rfl : V = none := by
        rw [← hV]
        unfold beginG
        rw [if_neg (fun h => by rcases h with h | h; (rw [HLEN.out] at h; omega); exact h (by rw [HLEN.out]; exact hr)), ho]
      clear hV
      go_wp2_with (refine st_bt rfl (.tmp 4) (.tmp 39) rfl (G + 1) rfl rfl (by simp [Value.oneCell']) P1'.out rfl ?_; intro w9 HQ9 f9; have HF9 := hid (FG.out.step f9 (fun i hi e => by have := HG.out; omega)); clear f9)
      exact bodyPost_ret (v := .tuple #[bv 0 0 none 0 0, .slice none 0 0, .bool false]) (resH rfl _ _ (G + 1) 0 0 none 0 0 (.slice none 0 0) (.bool false) rfl rfl rfl HQ9) rfl ⟨rfl, HF9.out⟩
    | some r =>
      obtain ⟨⟨q', k', xs'⟩, s'⟩ := r
      obtain ⟨h1, h2, h3, h4, h5⟩ := HEQ.out
      rw [ho] at h1 h2 h3 h4 h5
      obtain rfl : q' = q := h1
      obtain rfl : k' = k := h2
      obtain rfl : xs' = xs := h3
      obtain rfl : s' = s := h4
      obtain rfl : (0 : Int) = e := h5
      obtain ⟨hop, hmb⟩ := headG_some ho
      have HFT := hid (headP_fits (fun x hx => HI.out.2.2.2 x (List.mem_of_mem_take hx)) hop)
      have HWF := hid HFT.out.wf
      have hds := mayB_dsec hmb
      dsimp only at hds
      have hdt : 0 ≤ dsec k' xs' ∧ dsec k' xs' ≤ 32768 := by
        rw [hds]
        have := mayB_tn hmb
        dsimp only at this
        unfold size_
        split <;> omega
      obtain ⟨N, hN⟩ : ∃ N : Nat, dsec k' xs' = (N : Int) := ⟨(dsec k' xs').toNat, by omega⟩
      have hN2 : N ≤ 32768 := by omega
      have HVV := hid (show V = if l < 128 + N * 128 then none else if (onN 0 ((zs.drop 128).take (N * 128)) : Int) = s' then some ((⟨q', k', xs'⟩ : Ba), (zs.drop 128).take (N * 128)) else none by
        rw [← hV]
        unfold beginG
        rw [if_neg (fun h => by rcases h with h | h; (rw [HLEN.out] at h; omega); exact h (by rw [HLEN.out]; exact hr)), ho]
        dsimp only
        rw [hN, HLEN.out]
        rfl)
      have HSE := hid (show ∀ W, RdS W Ah xs'.length xs' → Calls Tryd.prog 15 #[bv q' k' Ah xs'.length ch] W fun e w' => e = .returned (.int .i64 (1 + (N : Int))) ∧ Fr No W w' from fun W hW => by
        have := sectors_ok q' k' Ah xs'.length ch xs' W (by have := HFT.out.n; dsimp only at this; omega) hW HWF.out
        rwa [hN] at this)
      obtain ⟨Hh, hHh⟩ : ∃ h : Nat, 128 + N * 128 = h := ⟨_, rfl⟩
      have hw1 : wrap64 ((1 + (N : Int)) * 128) = (Hh : Int) := (w64 _ (by omega)).trans (by omega)
      rw [hHh] at HVV
      have HHH := hid hHh
      have HHN := hid hN2
      clear hV hop hmb hds hdt hN hN2 hHh
      by_cases hlt : l < Hh
      · have hlb : decide ((l : Int) < (Hh : Int)) = true := decide_eq_true (by omega)
        obtain rfl : V = none := by rw [HVV.out, if_pos hlt]
        clear HVV
        go_wp2_with (first | (go_at_call 15; refine (HSE.out _ HXS.out).mono ?_; rintro e w5 ⟨rfl, f5⟩; replace FG := hid (FG.out.trans f5); replace P1' := hid (Blk.fr P1'.out f5 (fun h => h)); clear f5 b0 b1 b2) | (refine st_bt rfl (.tmp 4) (.tmp 39) rfl (G + 1) rfl rfl (by simp [Value.oneCell']) P1'.out rfl ?_; intro w9 HQ9 f9; have HF9 := hid (FG.out.step f9 (fun i hi e => by have := HG.out; omega)); clear f9))
        exact bodyPost_ret (v := .tuple #[bv 0 0 none 0 0, .slice none 0 0, .bool false]) (resH rfl _ _ (G + 1) 0 0 none 0 0 (.slice none 0 0) (.bool false) rfl rfl rfl HQ9) rfl ⟨rfl, HF9.out⟩
      have hlb : decide ((l : Int) < (Hh : Int)) = false := decide_eq_false (by omega)
      rw [if_neg hlt] at HVV
      have hH1 : (128 : Int) ≤ Hh := by have := HHH.out; omega
      have hH2 : (Hh : Int) ≤ c := by omega
      have HH3 := hid (show Hh ≤ l by omega)
      have HZD := hid (show zs.length = l from HLEN.out)
      obtain ⟨ga, oa, rfl, hga, _⟩ := HB0.out.1.2 (by omega)
      have HIG := hid hga
      have HRD := hid (HI.out.1.cut (k := 128) (c := c) hl128 HCM.out.2)
      obtain ⟨D, hD⟩ : ∃ D, (zs.drop 128).take (N * 128) = D := ⟨_, rfl⟩
      rw [hD] at HVV
      have HDL := hid (show D.length = Hh - 128 by rw [← hD, List.length_take, List.length_drop, HLEN.out]; have := HHH.out; omega)
      have HIB := hid (show IsB w1 (cutA (some ⟨ga, oa, none⟩) c 128) (Hh - 128) (c - 128) D from ⟨by
        have h1 := HRD.out.take (k := Hh - 128) (by have := HH3.out; omega)
        rw [← hD]
        have e : N * 128 = Hh - 128 := by have := HHH.out; omega
        rw [e, List.map_take, List.map_drop]
        exact h1, by have := HH3.out; have := HCM.out.2; omega, by have := HCM.out.1; simp only [maxLen]; omega, fun x hx => HI.out.2.2.2 x (by rw [← hD] at hx; exact List.mem_of_mem_drop (List.mem_of_mem_take hx))⟩)
      clear hD
      by_cases hc : c = 128
      · subst hc
        rw [cutA, if_pos rfl] at HIB
        have hHc : Hh = 128 := by omega
        subst hHc
        go_upto_region 7 with (first | (go_at_call 15; refine (HSE.out _ HXS.out).mono ?_; rintro e w5 ⟨rfl, f5⟩; replace FG := hid (FG.out.trans f5); replace FR := hid (FR.out.trans f5); replace P1' := hid (Blk.fr P1'.out f5 (fun h => h)); replace HBM := hid (BB.fr HBM.out f5); replace HXS := hid (HXS.out.fr f5); clear f5 b0 b1 b2; obtain ⟨b0, b1, b2⟩ := HBM.out.cells) | ((with_reducible refine ld_bt rfl (.tmp 7) rfl M ?_ HBM.out ?_); · rfl))
        by_cases hsm : ((onN 0 D : Nat) : Int) = s'
        · have hsb : (((onN 0 D : Nat) : Int) == s') = true := by simpa using hsm
          have hsb2 : (((onN 0 D : Nat) : Int) != s') = false := by rw [bne, hsb]; rfl
          obtain rfl : V = some ((⟨q', k', xs'⟩ : Ba), D) := by rw [HVV.out, if_pos hsm]
          clear HVV hsm
          go_wp2_with (first | (go_at_call 34; go_loud (refine (sumF _ _ _ D _ (HIB.out.fr FR.out) (HT1.out.fr FR.out (fun h => h))).mono ?_; rintro e w6 ⟨rfl, f6⟩; replace FG := hid (FG.out.trans f6); replace FR := hid (FR.out.trans f6); replace P1' := hid (Blk.fr P1'.out f6 (fun h => h)); replace HBM := hid (BB.fr HBM.out f6); replace HXS := hid (HXS.out.fr f6); clear f6 b0 b1 b2)) | ((with_reducible refine ld_bt rfl (.tmp 7) rfl M ?_ HBM.out ?_); · rfl) | (refine st_bt rfl (.tmp 4) (.tmp 50) rfl (G + 1) rfl rfl (by simp [Value.oneCell']) P1'.out rfl ?_; intro w9 HQ9 f9; have HF9 := hid (FG.out.step f9 (fun i hi e => by have := HG.out; omega)); have HX9 := hid (rdS_lo2 HXS.out f9 (fun g o h e => (HFR.out g o h).2 e)); have HI9 := hid (isB_lo (HIB.out.fr FR.out) f9 (fun g o h e => by cases h; have h1 := HIG.out; have h2 := HG.out; omega)); clear f9))
          exact bodyPost_ret (v := .tuple #[bv q' k' Ah xs'.length ch, .slice _ (128 - 128) _, .bool true]) (resH rfl _ _ (G + 1) q' k' Ah xs'.length ch _ (.bool true) rfl rfl rfl HQ9) rfl ⟨⟨Ah, ch, _, _, by dsimp only; rw [HDL.out], HX9.out, HLM.out, fun g o h => (HFR.out g o h).1, by dsimp only; rw [HDL.out]; exact HI9.out⟩, HF9.out⟩
        · have hsb : (((onN 0 D : Nat) : Int) == s') = false := by simpa using hsm
          have hsb2 : (((onN 0 D : Nat) : Int) != s') = true := by rw [bne, hsb]; rfl
          obtain rfl : V = none := by rw [HVV.out, if_neg hsm]
          clear HVV hsm
          go_wp2_with (first | (go_at_call 34; go_loud (refine (sumF _ _ _ D _ (HIB.out.fr FR.out) (HT1.out.fr FR.out (fun h => h))).mono ?_; rintro e w6 ⟨rfl, f6⟩; replace FG := hid (FG.out.trans f6); replace FR := hid (FR.out.trans f6); replace P1' := hid (Blk.fr P1'.out f6 (fun h => h)); replace HBM := hid (BB.fr HBM.out f6); replace HXS := hid (HXS.out.fr f6); clear f6 b0 b1 b2)) | (refine st_bt rfl (.tmp 4) (.tmp 49) rfl (G + 1) rfl rfl (by simp [Value.oneCell']) P1'.out rfl ?_; intro w9 HQ9 f9; have HF9 := hid (FG.out.step f9 (fun i hi e => by have := HG.out; omega)); clear f9))
          exact bodyPost_ret (v := .tuple #[bv 0 0 none 0 0, .slice none 0 0, .bool false]) (resH rfl _ _ (G + 1) 0 0 none 0 0 (.slice none 0 0) (.bool false) rfl rfl rfl HQ9) rfl ⟨rfl, HF9.out⟩
      · rw [cutA, if_neg hc] at HIB
        have hA : (Option.map (fun x => Addr.add x 128) (some (⟨ga, oa, none⟩ : Addr))) = some ⟨ga, oa + 128, none⟩ := by simp [add_off]
        rw [hA] at HIB
        clear hA
        go_upto_region 7 with (first | (go_at_call 15; refine (HSE.out _ HXS.out).mono ?_; rintro e w5 ⟨rfl, f5⟩; replace FG := hid (FG.out.trans f5); replace FR := hid (FR.out.trans f5); replace P1' := hid (Blk.fr P1'.out f5 (fun h => h)); replace HBM := hid (BB.fr HBM.out f5); replace HXS := hid (HXS.out.fr f5); clear f5 b0 b1 b2; obtain ⟨b0, b1, b2⟩ := HBM.out.cells) | ((with_reducible refine ld_bt rfl (.tmp 7) rfl M ?_ HBM.out ?_); · rfl))
        by_cases hsm : ((onN 0 D : Nat) : Int) = s'
        · have hsb : (((onN 0 D : Nat) : Int) == s') = true := by simpa using hsm
          have hsb2 : (((onN 0 D : Nat) : Int) != s') = false := by rw [bne, hsb]; rfl
          obtain rfl : V = some ((⟨q', k', xs'⟩ : Ba), D) := by rw [HVV.out, if_pos hsm]
          clear HVV hsm
          go_wp2_with (first | (go_at_call 34; go_loud (refine (sumF _ _ _ D _ (HIB.out.fr FR.out) (HT1.out.fr FR.out (fun h => h))).mono ?_; rintro e w6 ⟨rfl, f6⟩; replace FG := hid (FG.out.trans f6); replace FR := hid (FR.out.trans f6); replace P1' := hid (Blk.fr P1'.out f6 (fun h => h)); replace HBM := hid (BB.fr HBM.out f6); replace HXS := hid (HXS.out.fr f6); clear f6 b0 b1 b2)) | ((with_reducible refine ld_bt rfl (.tmp 7) rfl M ?_ HBM.out ?_); · rfl) | (refine st_bt rfl (.tmp 4) (.tmp 50) rfl (G + 1) rfl rfl (by simp [Value.oneCell']) P1'.out rfl ?_; intro w9 HQ9 f9; have HF9 := hid (FG.out.step f9 (fun i hi e => by have := HG.out; omega)); have HX9 := hid (rdS_lo2 HXS.out f9 (fun g o h e => (HFR.out g o h).2 e)); have HI9 := hid (isB_lo (HIB.out.fr FR.out) f9 (fun g o h e => by cases h; have h1 := HIG.out; have h2 := HG.out; omega)); clear f9))
          exact bodyPost_ret (v := .tuple #[bv q' k' Ah xs'.length ch, .slice _ (Hh - 128) _, .bool true]) (resH rfl _ _ (G + 1) q' k' Ah xs'.length ch _ (.bool true) rfl rfl rfl HQ9) rfl ⟨⟨Ah, ch, _, _, by dsimp only; rw [HDL.out], HX9.out, HLM.out, fun g o h => (HFR.out g o h).1, by dsimp only; rw [HDL.out]; exact HI9.out⟩, HF9.out⟩
        · have hsb : (((onN 0 D : Nat) : Int) == s') = false := by simpa using hsm
          have hsb2 : (((onN 0 D : Nat) : Int) != s') = true := by rw [bne, hsb]; rfl
          obtain rfl : V = none := by rw [HVV.out, if_neg hsm]
          clear HVV hsm
          go_wp2_with (first | (go_at_call 34; go_loud (refine (sumF _ _ _ D _ (HIB.out.fr FR.out) (HT1.out.fr FR.out (fun h => h))).mono ?_; rintro e w6 ⟨rfl, f6⟩; replace FG := hid (FG.out.trans f6); replace FR := hid (FR.out.trans f6); replace P1' := hid (Blk.fr P1'.out f6 (fun h => h)); replace HBM := hid (BB.fr HBM.out f6); replace HXS := hid (HXS.out.fr f6); clear f6 b0 b1 b2)) | (refine st_bt rfl (.tmp 4) (.tmp 49) rfl (G + 1) rfl rfl (by simp [Value.oneCell']) P1'.out rfl ?_; intro w9 HQ9 f9; have HF9 := hid (FG.out.step f9 (fun i hi e => by have := HG.out; omega)); clear f9))
          exact bodyPost_ret (v := .tuple #[bv 0 0 none 0 0, .slice none 0 0, .bool false]) (resH rfl _ _ (G + 1) 0 0 none 0 0 (.slice none 0 0) (.bool false) rfl rfl rfl HQ9) rfl ⟨rfl, HF9.out⟩
end Go.Proofs.YtcocebfipkbkiaaDoor.BtL
