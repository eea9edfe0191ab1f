import Derived.Test.YtkkbgbpmpcoffaaDoorHgH
/- The law BatchCodes: its long way. -/
namespace Go.Proofs.YtkkbgbpmpcoffaaDoor.BtCg
open Go.RowKit MSep MSepC MSpM MGeM MFrame Kit BtA BtF CrcA CrcM CrcE BtE BtG BtH BtK BtL BtO BtDd BtT
open BtM (Ba mayB size_ dsec spsOk_may mayB_dsec)
open BtD (may_ok)
open BtRd (rlay_yes rlay_no)
open SpA (wf w64)
open GeA (bg BG ld_geom)

theorem kcB {B : Nat} {b c : World} {p : Addr} {v : Value} (k : Fr (fun q => B ≤ q) b c) (hp : p.block < B) (h : b.cell? p = some v) : c.cell? p = some v := k.cell_some h (Nat.not_le.2 hp)
theorem kfB {S : Nat → Prop} {a b c : World} (k : Fr (fun q => a.heap.size ≤ q) b c) (h : Hid (Fr S a b)) : Hid (Fr S a c) := hid (h.out.step k (fun _ hi e => absurd hi (Nat.not_lt.2 e)))
theorem fr1dd (w : World) (o : Obj) : Fr No w.drew (w.alloc o).drew := ⟨(fr1 w o).os, (fr1 w o).tape, (fr1 w o).output, (fr1 w o).size, (fr1 w o).block⟩
theorem frOB {B : Nat} {w w' : World} {v : Value} {l : List Int} (o : OB B w v l) (f : Fr (fun q => v.ownBlock = some q) w w') : Fr (fun q => B ≤ q) w w' := f.mono (fun k _ h => OB.ge o k h)
theorem own0b {B : Nat} (w : World) (h : B ≤ w.heap.size) : OB B (w.alloc (.cells #[] 5)) (.slice (some ⟨w.heap.size, 0, none⟩) 0 0) [] :=
  ⟨rfl, .inr ⟨w.heap.size, 0, #[], rfl, h, Blk.new _ _ _, Nat.le_refl _, by simp [maxLen], rfl, rfl⟩⟩
theorem own_at {B : Nat} {w : World} {e : TypeId} {n m : Nat} {v : Value} {xs : List Value} (h : w.ownsRow B e n v m xs) (k : Nat) (hk : v.ownBlock = some k) : (B ≤ k ∧ k < w.heap.size) ∧ ∃ cs, Blk w k e cs := by
  rcases h.2 with ⟨rfl, _⟩ | ⟨g, cap, cur, rfl, hb, hh, _⟩
  · simp [Value.ownBlock] at hk
  · have : g = k := by simpa [Value.ownBlock] using hk
    subst this
    exact ⟨⟨hb, (Array.getElem?_eq_some_iff.1 hh).1⟩, cur, hh⟩
theorem blk_own {B M : Nat} {w w' : World} {v : Value} {l : List Int} {cs : Array Value} (hM : Blk w M 26 cs) (o : OB B w v l) (f : Fr (fun q => v.ownBlock = some q) w w') : Blk w' M 26 cs :=
  hM.fr f (fun e => by
    obtain ⟨_, cs', hb⟩ := own_at o M e
    exact Blk.ne_ hM hb (by decide) rfl)
theorem app_bs {w : World} {ops : Array Oper} {o : Oper} {a : Act} {K : Act → World → Prop} {Q : Exit → Act → World → Prop} {E : Prop} (hgd : o.guard = none) (s x : Operand)
    (ho : o.op = .call { callee := .builtin .append, args := #[s, x], argTypes := #[27, 27] })
    (B : Nat) (v : Value) (l : List Int) (hs : a.eval s = v) (hown : OB B w v l)
    (A : Option Addr) (m c : Nat) (news : List Int) (hx : a.eval x = .slice A m c) (hr : Rd w A m (news.map (Value.int .u8)))
    (hlim : l.length + m ≤ 140737488355328) (hbase : B ≤ w.heap.size)
    (h : ∀ A' c' w', OB B w' (.slice A' (l.length + m) c') (l ++ news) → Fr (fun q => v.ownBlock = some q) w w' → K (a.put o.dst (.slice A' (l.length + m) c')) w') :
    if Region.wanted o (yielded ops a.tmps) = true then Oper.wp Tryd.prog o a w K Q else E := by
  obtain ⟨i0, hi, hz0, hz1, hz2⟩ := info_parts u8_info
  have hm : news.length = m := by simpa using hr.1
  refine step_app hgd s x 27 ho B 5 i0 (.int .u8 0) 1 Tryd.underlying27 hi hz0 hz1 hz2 rfl v l.length (CrcE.cells l) hs hown A m c (CrcE.cells news) hx hr one_u8s (by simp only [maxLen]; omega) (by omega) hbase ?_
  intro A' c' w' o1 f1 _
  refine h A' c' w' ?_ f1
  have e : (l ++ news).length = l.length + m := by rw [List.length_append, hm]
  unfold OB
  rw [e, show CrcE.cells (l ++ news) = CrcE.cells l ++ CrcE.cells news by simp [CrcE.cells]]
  exact o1
theorem dec_y (gc gs gn gl gk : Int) (A : Option Addr) (l c : Nat) (ws : List Int) (w : World) (q k : Int) (xs : List Sp) (D : List Int) (hs : r64 gs) (hm : mayG ⟨gc, gs, gn, gl, gk⟩) (hb : IsB w A l c ws) (hT : TabAt w) (h1 : beginG ⟨gc, gs, gn, gl, gk⟩ ws = some (⟨q, k, xs⟩, D)) :
    Calls Tryd.prog 12 #[.agg #[.int .i64 gc, .int .i64 gs, .int .i64 gn, .int .i64 gl, .int .i64 gk], .slice A l c] w fun E w' => ∃ A' c' A2 c2, E = .returned (.tuple #[bv q k A' xs.length c', .slice A2 D.length c2, .int .i64 0]) ∧ RdS w' A' xs.length xs ∧ (∀ g o, A' = some ⟨g, o, none⟩ → w.heap.size ≤ g) ∧ Rd w' A2 D.length (D.map (Value.int .u8)) ∧ Fr No w w' := by
  refine (decode_ok gc gs gn gl gk A l c ws w hs hm hb hT).mono ?_
  rintro E w' ⟨p1, p2⟩
  rw [h1] at p1
  obtain ⟨A', c', A2, c2, rfl, q3, q4, q5⟩ := p1
  exact ⟨A', c', A2, c2, rfl, q3, q4.2, q5, p2⟩
theorem rd_ne {w : World} {M : Nat} (hM : Blk w M 26 #[.int .i64 0, .int .i64 0, .slice none 0 0]) {A : Option Addr} {n : Nat} {D : List Int} (h : Rd w A n (D.map (Value.int .u8))) (hn : 0 < n) : ∀ g o, A = some ⟨g, o, none⟩ → g ≠ M := by
  intro g o hA e
  subst e
  obtain ⟨g', o', hA', _, hc⟩ := h.2 hn
  rw [hA] at hA'
  cases hA'
  have hl : D.length = n := by simpa using h.1
  obtain ⟨d, hd⟩ : ∃ d, D[0]? = some d := ⟨_, List.getElem?_eq_getElem (by omega)⟩
  have h1 := hc 0 (.int .u8 d) (by simp [hd])
  rw [Nat.add_zero, hM.cell o] at h1
  match o, h1 with
  | 0, h1 => simp at h1
  | 1, h1 => simp at h1
  | 2, h1 => simp at h1
  | o + 3, h1 => simp at h1
theorem rd_lo3 {S : Nat → Prop} {w w' : World} {A : Option Addr} {n : Nat} {l : List Value} (h : Rd w A n l) (hf : Fr S w w') (hS : 0 < n → ∀ g o, A = some ⟨g, o, none⟩ → ¬ S g) : Rd w' A n l := by
  refine ⟨h.1, fun hn => ?_⟩
  obtain ⟨g, o, hA, hg, hc⟩ := h.2 hn
  exact ⟨g, o, hA, Nat.lt_of_lt_of_le hg hf.size, fun j u hu => hf.cell_some (hc j u hu) (hS hn g o hA)⟩
/-- A batch that was decoded, in a box of its own, and its data. -/
def CutB (w1 : World) (q k : Int) (xs : List Sp) (zs : List Int) (n : Nat) (p y e : Value) (wx : World) : Prop := ∃ M A c A2 c2, p = .pointer (some ⟨M, 0, none⟩) ∧ y = .slice A2 n c2 ∧ e = .int .i64 0 ∧ BB wx M q k A xs.length c ∧ w1.heap.size ≤ M ∧ RdS wx A xs.length xs ∧ Rd wx A2 n (zs.map (Value.int .u8)) ∧ Fr No w1 wx
/-- A head, in a box of its own. -/
def CutH (w1 : World) (q k : Int) (xs : List Sp) (s e p s' e' : Value) (wx : World) : Prop := ∃ M A c, p = .pointer (some ⟨M, 0, none⟩) ∧ s' = s ∧ e' = e ∧ BB wx M q k A xs.length c ∧ w1.heap.size ≤ M ∧ RdS wx A xs.length xs ∧ Fr No w1 wx
/-- Of what was called this is asked alone. -/
def CutN (w1 : World) (s e s' e' : Value) (wx : World) : Prop := s' = s ∧ e' = e ∧ Fr No w1 wx
theorem hbg_ok {gc gs gn gl gk q k b : Int} {xs : List Sp} {zs S : List Int} {dl R3 : Nat} (HMB : Hid (mayB ⟨gc, gs, gn, gl, gk⟩ ⟨q, k, xs⟩)) (HZL : Hid (zs.length = dl)) (HDL : Hid ((dl : Int) = size_ k xs * 128)) (HSE : Hid (bts q k xs zs = S)) : Hid (beginG ⟨gc, gs, gn, gl, gk⟩ (S ++ BtN.fill b R3) = some ((⟨q, k, xs⟩ : Ba), zs)) := by
  have h := BtP.beginG_bts (ys := BtN.fill b R3) (zs := zs) HMB.out (by rw [show ((zs.length : Nat) : Int) = (dl : Int) by rw [HZL.out]]; exact HDL.out) (by rw [BtN.fill_len]; omega)
  dsimp only at h
  rw [HSE.out] at h
  exact hid h
theorem hhg_ok {gc gs gn gl gk q k : Int} {xs : List Sp} {zs S : List Int} {dl : Nat} (HMB : Hid (mayB ⟨gc, gs, gn, gl, gk⟩ ⟨q, k, xs⟩)) (HZL : Hid (zs.length = dl)) (HDL : Hid ((dl : Int) = size_ k xs * 128)) (HSE : Hid (bts q k xs zs = S)) : Hid (headG ⟨gc, gs, gn, gl, gk⟩ (S.take 128) = some ((⟨q, k, xs⟩ : Ba), ((onN 0 zs : Nat) : Int))) := by
  have h := BtP.headG_bts (ys := []) (zs := zs) HMB.out (by rw [show ((zs.length : Nat) : Int) = (dl : Int) by rw [HZL.out]]; exact HDL.out)
  rw [List.append_nil] at h
  dsimp only at h
  rw [HSE.out] at h
  exact hid h
theorem hbc_ok {gc gs gn gl gk q k : Int} {xs : List Sp} {zs S : List Int} {dl : Nat} (HMB : Hid (mayB ⟨gc, gs, gn, gl, gk⟩ ⟨q, k, xs⟩)) (HZL : Hid (zs.length = dl)) (HDL : Hid ((dl : Int) = size_ k xs * 128)) (HSE : Hid (bts q k xs zs = S)) : Hid (beginG ⟨gc, gs, gn, gl, gk⟩ (S.take zs.length) = none) := by
  have h := BtP.beginG_cut (zs := zs) HMB.out (by rw [show ((zs.length : Nat) : Int) = (dl : Int) by rw [HZL.out]]; exact HDL.out)
  dsimp only at h
  rw [HSE.out] at h
  exact hid h
theorem head_y (gc gs gn gl gk : Int) (A : Option Addr) (l c : Nat) (ws : List Int) (w : World) (q k : Int) (xs : List Sp) (s : Int) (hs : r64 gs) (hm : mayG ⟨gc, gs, gn, gl, gk⟩) (hb : IsB w A l c ws) (hT : TabAt w) (h1 : headG ⟨gc, gs, gn, gl, gk⟩ ws = some (⟨q, k, xs⟩, s)) :
    Calls Tryd.prog 14 #[.agg #[.int .i64 gc, .int .i64 gs, .int .i64 gn, .int .i64 gl, .int .i64 gk], .slice A l c] w fun E w' => ∃ A' c', E = .returned (.tuple #[bv q k A' xs.length c', .int .u32 s, .int .i64 0]) ∧ RdS w' A' xs.length xs ∧ (∀ g o, A' = some ⟨g, o, none⟩ → w.heap.size ≤ g) ∧ Fr No w w' := by
  refine (head_ok gc gs gn gl gk A l c ws w hs hm hb hT).mono ?_
  rintro E w' ⟨p1, p2⟩
  rw [h1] at p1
  obtain ⟨A', c', rfl, q3, _, q5⟩ := p1
  exact ⟨A', c', rfl, q3, q5, p2⟩
theorem rhead_y (gc gs gn gl gk : Int) (A : Option Addr) (l c : Nat) (ws : List Int) (w : World) (q k : Int) (xs : List Sp) (s : Int) (hs : r64 gs) (hb : IsB w A l c ws) (h1 : headG ⟨gc, gs, gn, gl, gk⟩ ws = some (⟨q, k, xs⟩, s)) :
    Calls Tryd.prog 15 #[.agg #[.int .i64 gc, .int .i64 gs, .int .i64 gn, .int .i64 gl, .int .i64 gk], .slice A l c] w fun E w' => ∃ A' c', E = .returned (.tuple #[bv q k A' xs.length c', .int .u32 s, .bool true]) ∧ RdS w' A' xs.length xs ∧ (∀ g o, A' = some ⟨g, o, none⟩ → w.heap.size ≤ g) ∧ Fr No w w' := by
  refine (BtHd.rhead_ok gc gs gn gl gk A l c ws w hs hb).mono ?_
  rintro E w' ⟨p1, p2⟩
  rw [h1] at p1
  obtain ⟨A', c', rfl, q3, _, q5⟩ := p1
  exact ⟨A', c', rfl, q3, q5, p2⟩
theorem dec_n (gc gs gn gl gk : Int) (A : Option Addr) (l c : Nat) (ws : List Int) (w : World) (hs : r64 gs) (hm : mayG ⟨gc, gs, gn, gl, gk⟩) (hb : IsB w A l c ws) (hT : TabAt w) (h1 : beginG ⟨gc, gs, gn, gl, gk⟩ ws = none) :
    Calls Tryd.prog 12 #[.agg #[.int .i64 gc, .int .i64 gs, .int .i64 gn, .int .i64 gl, .int .i64 gk], .slice A l c] w fun E w' => E = .returned (.tuple #[bv 0 0 none 0 0, .slice none 0 0, .int .i64 10]) ∧ Fr No w w' := by
  refine (decode_ok gc gs gn gl gk A l c ws w hs hm hb hT).mono ?_
  rintro E w' ⟨p1, p2⟩
  rw [h1] at p1
  exact ⟨p1, p2⟩

set_option maxRecDepth 100000 in
set_option maxHeartbeats 8000000 in
theorem codes_good (gc gs gn gl gk q k : Int) (A : Option Addr) (c : Nat) (xs : List Sp) (dA : Option Addr) (dl dc : Nat) (zs : List Int) (b : Int) (w : World) (hs : r64 gs) (hlc : xs.length ≤ c) (hx : RdS w A xs.length xs) (hw : ∀ s ∈ xs, wf s) (hz : IsB w dA dl dc zs) (hT : TabAt w) (hb8 : 0 ≤ b ∧ b ≤ 255) (hl1 : xs.length ≤ 100) (hl2 : dl ≤ 5000) (hb : mayB ⟨gc, gs, gn, gl, gk⟩ ⟨q, k, xs⟩) (hd : (dl : Int) = size_ k xs * 128) :
    Calls Tryd.prog 3 #[.agg #[.int .i64 gc, .int .i64 gs, .int .i64 gn, .int .i64 gl, .int .i64 gk], bv q k A xs.length c, .slice dA dl dc, .int .u8 b] w fun e w' => e = .returned (.bool true) ∧ Fr No w w' := by
  have hlb : decide ((100 : Int) < (xs.length : Int)) = false := decide_eq_false (by omega)
  have hdb : decide ((5000 : Int) < (dl : Int)) = false := decide_eq_false (by omega)
  have hlb2 : ¬ (100 : Int) < (xs.length : Int) := by omega
  have hdb2 : ¬ (5000 : Int) < (dl : Int) := by omega
  have HSM := hid (And.intro hl1 hl2)
  clear hl1 hl2
  obtain ⟨G, hG⟩ : ∃ G, w.heap.size = G := ⟨_, rfl⟩
  obtain ⟨w1, hw1⟩ : ∃ w1, (w.alloc (bg gc gs gn gl gk)).alloc (.cells (bcs q k A xs.length c) 26) = w1 := ⟨_, rfl⟩
  have FG := hid (show Fr No w w1 by rw [← hw1]; exact (fr1 _ _).alloc _)
  have P0 := hid (show BG w1 G gc gs gn gl gk by rw [← hw1, ← hG]; exact (BG.new w gc gs gn gl gk : Blk _ _ _ _).alloc _)
  have P1 := hid (show BB w1 (G + 1) q k A xs.length c by
    rw [← hw1, ← hG]
    have := BB.new (w.alloc (bg gc gs gn gl gk)) q k A xs.length c
    rwa [World.size_alloc] at this)
  have HG := hid hG
  have HS := hid hs
  have HLC := hid hlc
  have HX := hid hx
  have HW := hid hw
  have HZ := hid hz
  have HT := hid hT
  have HW1 := hid hw1
  have HB8 := hid hb8
  clear hb8
  have HM := hid hb.1
  have HMB := hid hb
  have HDL := hid hd
  have HSN := hid (show ∀ s ∈ xs, 0 ≤ s.2 ∧ s.2 ≤ 1048576 from fun s h => by have := spsOk_may hb.2.2.1 s h; omega)
  have HHK := hid (mayB_Hok hb (onN_in 0 zs))
  have hz0 := BtP.size_in hb
  dsimp only at hz0
  have hds := mayB_dsec hb
  dsimp only at hds
  have hzl : zs.length = dl := by simpa using hz.1.1
  have HZL := hid hzl
  obtain ⟨sz, hsz⟩ : ∃ zz, size_ k xs = zz := ⟨_, rfl⟩
  rw [hsz] at hd hz0 hds
  have HSZ := hid hsz
  have HDS := hid hds
  have HSL := hid (show (bts q k xs zs).length = 128 + zs.length from BtP.bts_len (by have := hb.2.2.1.2.1; exact this))
  obtain ⟨S, hS⟩ : ∃ zz, bts q k xs zs = zz := ⟨_, rfl⟩
  rw [hS] at HSL
  have HSE := hid hS
  have hw8 : wrap64 (128 * sz) = 128 * sz := w64 _ (by omega)
  have hnb : ((dl : Int) == 128 * sz) = true := by simp; omega
  have hnb2 : ((dl : Int) != 128 * sz) = false := by rw [bne, hnb]; rfl
  have hq1 : IntKind.i64.wrap ((S.length : Int).tdiv 128) = 1 + sz := by
    have h1 := HSL.out
    rw [Int.tdiv_eq_ediv_of_nonneg (by omega)]
    exact (IntWalk.i64_in _ (by omega)).trans (by omega)
  have hq3 : IntKind.i64.wrap ((S.length : Int) / 128) = 1 + sz := by
    have h1 := HSL.out
    exact (IntWalk.i64_in _ (by omega)).trans (by omega)
  have hq2 : (1 + sz == 1 + sz) = true := by simp
  clear hb hd hsz hz0 hS hds
  clear hs hlc hx hw hz hT hw1
  go_enter Tryd.func3, Tryd.ntmps3
  go_upto_region 1 with fail
  try rw [show (w.alloc (Obj.cells #[.int .i64 gc, .int .i64 gs, .int .i64 gn, .int .i64 gl, .int .i64 gk] 23)).alloc (Obj.cells #[.int .i64 q, .int .i64 k, .slice A xs.length c] 26) = w1 from HW1.out]
  try rw [World.size_alloc]
  try rw [hG]
  clear hG
  obtain ⟨_, _, b2⟩ := BB.cells P1.out
  go_upto_region 4 with (first | ((with_reducible refine ld_geom rfl (.tmp 4) rfl G ?_ P0.out ?_); · rfl) | ((with_reducible refine ld_bt rfl (.tmp 5) rfl (G + 1) ?_ P1.out ?_); · rfl) | (go_at_call 5; refine (encode_yes gc gs gn gl gk q k A c xs dA dl dc zs _ HS.out HLC.out (HX.out.fr FG.out) HW.out (HZ.out.fr FG.out) HMB.out HDL.out (HT.out.fr FG.out (fun h => h))).mono ?_; rintro e v1 ⟨⟨As, cs, rfl, hsb⟩, f⟩; rw [HSE.out] at hsb ⊢; have HSB := hid hsb; replace FG := hid (FG.out.trans f); replace P0 := hid (BG.fr P0.out f); replace P1 := hid (BB.fr P1.out f); clear f hsb))
  obtain ⟨g0, g1, g2, g3, g4⟩ := P0.out.cells
  obtain ⟨b0, b1, b2⟩ := BB.cells P1.out
  have FW := hid (Fr.refl No v1)
  have FW := kd FW
  refine wp_region_noPanic ?_
  refine wp_region_held_drew (S := (fun W' => W'.cell? ⟨G, 0, none⟩ = some (.int .i64 gc) ∧ W'.cell? ⟨G, 1, none⟩ = some (.int .i64 gs) ∧ W'.cell? ⟨G, 2, none⟩ = some (.int .i64 gn) ∧ W'.cell? ⟨G, 3, none⟩ = some (.int .i64 gl) ∧ W'.cell? ⟨G, 4, none⟩ = some (.int .i64 gk) ∧ W'.cell? ⟨G + 1, 0, none⟩ = some (.int .i64 q) ∧ W'.cell? ⟨G + 1, 1, none⟩ = some (.int .i64 k) ∧ W'.cell? ⟨G + 1, 2, none⟩ = some (.slice A xs.length c) ∧ Hid (Fr No v1 W'))) (by kernel_rfl) ?_ (fun hHeld => ?_)
  · (try dsimp only); (first | (go_split_ands; exact ⟨kc f (by assumption), kc f (by assumption), kc f (by assumption), kc f (by assumption), kc f (by assumption), kc f (by assumption), kc f (by assumption), kc f (by assumption), by assumption⟩) | (go_split_ands; exact ⟨(by assumption), (by assumption), (by assumption), (by assumption), (by assumption), (by assumption), (by assumption), (by assumption), by assumption⟩) | (go_split_ands; exact ⟨kc (fr1 _ _) (by assumption), kc (fr1 _ _) (by assumption), kc (fr1 _ _) (by assumption), kc (fr1 _ _) (by assumption), kc (fr1 _ _) (by assumption), kc (fr1 _ _) (by assumption), kc (fr1 _ _) (by assumption), kc (fr1 _ _) (by assumption), kfa (by assumption)⟩))
  refine wpAnyH_ready (rs := [0]) (by kernel_rfl) (by simp) (AllReadyH.cons rfl (fun K hK => ?_) AllReadyH.nil)
  go_simp
  go_at_call 4
  refine (lives_ok _ (HT.out.fr (FG.out.trans hHeld.2.2.2.2.2.2.2.2.out) (fun h => h))).mono ?_
  rintro e W1 ⟨rfl, f⟩
  have FW := kf f hHeld.2.2.2.2.2.2.2.2
  dsimp only
  refine hK.out _ _ ?_ (fun hHeld => ?_)
  · (try dsimp only); (first | (go_split_ands; exact ⟨kc f (by assumption), kc f (by assumption), kc f (by assumption), kc f (by assumption), kc f (by assumption), kc f (by assumption), kc f (by assumption), kc f (by assumption), by assumption⟩) | (go_split_ands; exact ⟨(by assumption), (by assumption), (by assumption), (by assumption), (by assumption), (by assumption), (by assumption), (by assumption), by assumption⟩) | (go_split_ands; exact ⟨kc (fr1 _ _) (by assumption), kc (fr1 _ _) (by assumption), kc (fr1 _ _) (by assumption), kc (fr1 _ _) (by assumption), kc (fr1 _ _) (by assumption), kc (fr1 _ _) (by assumption), kc (fr1 _ _) (by assumption), kc (fr1 _ _) (by assumption), kfa (by assumption)⟩))
  clear hK K
  try simp only [Act.put, List.getElem_toArray, List.getElem_cons_succ, List.getElem_cons_zero, List.setIfInBounds_toArray, List.set_cons_zero, List.set_cons_succ]
  refine wpAnyH_take (i := 1) (v := (.bool false)) rfl (by kernel_rfl) (by kernel_rfl) (by kernel_rfl) (fun _ _ _ h => h) (Or.inl ⟨by kernel_rfl, fun w hSw => by first | (go_simp; done) | (go_simp; with_reducible rfl) | (go_simp; omega)⟩) (by assumption) ?_
  try simp only [Act.put, List.getElem_toArray, List.getElem_cons_succ, List.getElem_cons_zero, List.setIfInBounds_toArray, List.set_cons_zero, List.set_cons_succ]
  refine wpAnyH_take (i := 2) (v := (.bool false)) rfl (by kernel_rfl) (by kernel_rfl) (by kernel_rfl) (fun _ _ _ h => h) (Or.inl ⟨by kernel_rfl, fun w hSw => by first | (go_simp; done) | (go_simp; with_reducible rfl) | (go_simp; omega)⟩) (by assumption) ?_
  try simp only [Act.put, List.getElem_toArray, List.getElem_cons_succ, List.getElem_cons_zero, List.setIfInBounds_toArray, List.set_cons_zero, List.set_cons_succ]
  refine wpAnyH_take (i := 3) (v := ?v94) rfl (by kernel_rfl) (by kernel_rfl) (by kernel_rfl) (fun _ _ _ h => h) (Or.inl ⟨by kernel_rfl, ?y94⟩) (by assumption) ?_
  case y94 => (intro w hSw; (try dsimp only at hSw); go_simp; all_goals with_reducible rfl)
  try simp only [Act.put, List.getElem_toArray, List.getElem_cons_succ, List.getElem_cons_zero, List.setIfInBounds_toArray, List.set_cons_zero, List.set_cons_succ]
  refine wpAnyH_take (i := 4) (v := ?v95) rfl (by kernel_rfl) (by kernel_rfl) (by kernel_rfl) (fun _ _ _ h => h) (Or.inl ⟨by kernel_rfl, ?y95⟩) (by assumption) ?_
  case y95 => (intro w hSw; (try dsimp only at hSw); go_simp; all_goals with_reducible rfl)
  try simp only [Act.put, List.getElem_toArray, List.getElem_cons_succ, List.getElem_cons_zero, List.setIfInBounds_toArray, List.set_cons_zero, List.set_cons_succ]
  refine wpAnyH_take (i := 6) (v := ?v96) rfl (by kernel_rfl) (by kernel_rfl) (by kernel_rfl) (fun _ _ _ h => h) (Or.inl ⟨by kernel_rfl, ?y96⟩) (by assumption) ?_
  case y96 => (intro w hSw; (try dsimp only at hSw); go_simp; all_goals with_reducible rfl)
  try simp only [Act.put, List.getElem_toArray, List.getElem_cons_succ, List.getElem_cons_zero, List.setIfInBounds_toArray, List.set_cons_zero, List.set_cons_succ]
  refine wpAnyH_take (i := 7) (v := ?v97) rfl (by kernel_rfl) (by kernel_rfl) (by kernel_rfl) (fun _ _ _ h => h) (Or.inl ⟨by kernel_rfl, ?y97⟩) (by assumption) ?_
  case y97 => (intro w hSw; (try dsimp only at hSw); go_simp; all_goals with_reducible rfl)
  try simp only [Act.put, List.getElem_toArray, List.getElem_cons_succ, List.getElem_cons_zero, List.setIfInBounds_toArray, List.set_cons_zero, List.set_cons_succ]
  refine wpAnyH_ready (rs := [5]) (by kernel_rfl) (by simp) (AllReadyH.cons rfl (fun K hK => ?_) AllReadyH.nil)
  go_simp
  go_at_call 6
  refine (may_ok gc gs gn gl gk q k A xs.length c xs true _ HS.out (by have := HSM.out; omega) HLC.out (HX.out.fr (FG.out.trans hHeld.2.2.2.2.2.2.2.2.out)) HW.out ⟨fun _ => HMB.out, fun _ => rfl⟩).mono ?_
  rintro e W1 ⟨rfl, f⟩
  have FW := kf f hHeld.2.2.2.2.2.2.2.2
  dsimp only
  refine hK.out _ _ ?_ (fun hHeld => ?_)
  · (try dsimp only); (first | (go_split_ands; exact ⟨kc f (by assumption), kc f (by assumption), kc f (by assumption), kc f (by assumption), kc f (by assumption), kc f (by assumption), kc f (by assumption), kc f (by assumption), by assumption⟩) | (go_split_ands; exact ⟨(by assumption), (by assumption), (by assumption), (by assumption), (by assumption), (by assumption), (by assumption), (by assumption), by assumption⟩) | (go_split_ands; exact ⟨kc (fr1 _ _) (by assumption), kc (fr1 _ _) (by assumption), kc (fr1 _ _) (by assumption), kc (fr1 _ _) (by assumption), kc (fr1 _ _) (by assumption), kc (fr1 _ _) (by assumption), kc (fr1 _ _) (by assumption), kc (fr1 _ _) (by assumption), kfa (by assumption)⟩))
  clear hK K
  try simp only [Act.put, List.getElem_toArray, List.getElem_cons_succ, List.getElem_cons_zero, List.setIfInBounds_toArray, List.set_cons_zero, List.set_cons_succ]
  refine wpAnyH_ready (rs := [8]) (by kernel_rfl) (by simp) (AllReadyH.cons rfl (fun K hK => ?_) AllReadyH.nil)
  go_simp
  go_at_call 7
  refine (BtI.rmay_ok gc gs gn gl gk q k A xs.length c xs true _ HS.out (by have := HSM.out; omega) (HX.out.fr (FG.out.trans hHeld.2.2.2.2.2.2.2.2.out)) HW.out ⟨fun _ => HMB.out, fun _ => rfl⟩).mono ?_
  rintro e W1 ⟨rfl, f⟩
  have FW := kf f hHeld.2.2.2.2.2.2.2.2
  dsimp only
  refine hK.out _ _ ?_ (fun hHeld => ?_)
  · (try dsimp only); (first | (go_split_ands; exact ⟨kc f (by assumption), kc f (by assumption), kc f (by assumption), kc f (by assumption), kc f (by assumption), kc f (by assumption), kc f (by assumption), kc f (by assumption), by assumption⟩) | (go_split_ands; exact ⟨(by assumption), (by assumption), (by assumption), (by assumption), (by assumption), (by assumption), (by assumption), (by assumption), by assumption⟩) | (go_split_ands; exact ⟨kc (fr1 _ _) (by assumption), kc (fr1 _ _) (by assumption), kc (fr1 _ _) (by assumption), kc (fr1 _ _) (by assumption), kc (fr1 _ _) (by assumption), kc (fr1 _ _) (by assumption), kc (fr1 _ _) (by assumption), kc (fr1 _ _) (by assumption), kfa (by assumption)⟩))
  clear hK K
  try simp only [Act.put, List.getElem_toArray, List.getElem_cons_succ, List.getElem_cons_zero, List.setIfInBounds_toArray, List.set_cons_zero, List.set_cons_succ]
  refine wpAnyH_take (i := 9) (v := ?v98) rfl (by kernel_rfl) (by kernel_rfl) (by kernel_rfl) (fun _ _ _ h => h) (Or.inl ⟨by kernel_rfl, ?y98⟩) (by assumption) ?_
  case y98 => (intro w hSw; (try dsimp only at hSw); go_simp; all_goals with_reducible rfl)
  try simp only [Act.put, List.getElem_toArray, List.getElem_cons_succ, List.getElem_cons_zero, List.setIfInBounds_toArray, List.set_cons_zero, List.set_cons_succ]
  refine wpAnyH_take (i := 10) (v := ?v99) rfl (by kernel_rfl) (by kernel_rfl) (by kernel_rfl) (fun _ _ _ h => h) (Or.inl ⟨by kernel_rfl, ?y99⟩) (by assumption) ?_
  case y99 => (intro w hSw; (try dsimp only at hSw); go_simp; all_goals with_reducible rfl)
  try simp only [Act.put, List.getElem_toArray, List.getElem_cons_succ, List.getElem_cons_zero, List.setIfInBounds_toArray, List.set_cons_zero, List.set_cons_succ]
  refine wpAnyH_done (by kernel_rfl) ?_ _
  refine NoPanic.normal ?_
  have FX := hHeld.2.2.2.2.2.2.2.2
  clear hHeld
  replace FG := hid (FG.out.trans FX.out); replace P0 := hid (BG.fr P0.out FX.out); replace P1 := hid (BB.fr P1.out FX.out); replace HSB := hid (HSB.out.fr FX.out)
  go_upto_region 7 with (first | ((with_reducible refine ld_geom rfl (.tmp 4) rfl G ?_ P0.out ?_); · rfl) | (go_at_call 8; refine (rlay_yes gc gs gn gl gk _ HS.out HM.out).mono ?_; rintro e v2 ⟨y1, y2, y3, y4, y5, y6, y7, y8, rfl, f⟩; replace FG := hid (FG.out.trans f); replace P0 := hid (BG.fr P0.out f); replace P1 := hid (BB.fr P1.out f); replace HSB := hid (HSB.out.fr f); clear f))
  obtain ⟨v3, hv3⟩ : ∃ zz, v2.alloc (.cells #[.int .i64 y1, .int .i64 y2, .int .i64 y3, .int .i64 y4, .int .i64 y5, .int .i64 y6, .int .i64 y7, .int .i64 y8] 34) = zz := ⟨_, rfl⟩
  have f3 : Fr No v2 v3 := by rw [← hv3]; exact fr1 _ _
  replace FG := hid (FG.out.trans f3)
  replace P0 := hid (BG.fr P0.out f3)
  replace P1 := hid (BB.fr P1.out f3)
  replace HSB := hid (HSB.out.fr f3)
  try rw [show v2.alloc (Obj.cells #[.int .i64 y1, .int .i64 y2, .int .i64 y3, .int .i64 y4, .int .i64 y5, .int .i64 y6, .int .i64 y7, .int .i64 y8] 34) = v3 from hv3]
  clear hv3 f3
  go_upto_region 11 with (first | ((with_reducible refine ld_geom rfl (.tmp 4) rfl G ?_ P0.out ?_); · rfl) | ((with_reducible refine ld_bt rfl (.tmp 5) rfl (G + 1) ?_ P1.out ?_); · rfl) | (go_at_call 7; refine (BtI.rmay_ok gc gs gn gl gk q k A xs.length c xs true _ HS.out (by have := HSM.out; omega) (HX.out.fr FG.out) HW.out ⟨fun _ => HMB.out, fun _ => rfl⟩).mono ?_; rintro e v4 ⟨rfl, f⟩; replace FG := hid (FG.out.trans f); replace P0 := hid (BG.fr P0.out f); replace P1 := hid (BB.fr P1.out f); (try replace HSB := hid (HSB.out.fr f)); clear f; obtain ⟨b0, b1, b2⟩ := BB.cells P1.out) | (go_at_call 9; refine (BtN.rsize_ok q k A xs.length c xs _ (by have := HMB.out; have := this.2.2.1.2.1; dsimp only at this; omega) (HX.out.fr FG.out) HSN.out).mono ?_; rintro e v6 ⟨rfl, f⟩; rw [HSZ.out]; replace FG := hid (FG.out.trans f); replace P0 := hid (BG.fr P0.out f); replace P1 := hid (BB.fr P1.out f); (try replace HSB := hid (HSB.out.fr f)); clear f))
  clear b0 b1 b2
  obtain ⟨g0, g1, g2, g3, g4⟩ := P0.out.cells
  obtain ⟨b0, b1, b2⟩ := BB.cells P1.out
  have FW := hid (Fr.refl No v6)
  have FW := kd FW
  refine wp_region_noPanic ?_
  refine wp_region_held_drew (S := (fun W' => W'.cell? ⟨G, 0, none⟩ = some (.int .i64 gc) ∧ W'.cell? ⟨G, 1, none⟩ = some (.int .i64 gs) ∧ W'.cell? ⟨G, 2, none⟩ = some (.int .i64 gn) ∧ W'.cell? ⟨G, 3, none⟩ = some (.int .i64 gl) ∧ W'.cell? ⟨G, 4, none⟩ = some (.int .i64 gk) ∧ W'.cell? ⟨G + 1, 0, none⟩ = some (.int .i64 q) ∧ W'.cell? ⟨G + 1, 1, none⟩ = some (.int .i64 k) ∧ W'.cell? ⟨G + 1, 2, none⟩ = some (.slice A xs.length c) ∧ Hid (Fr No v6 W'))) (by kernel_rfl) ?_ (fun hHeld => ?_)
  · (try dsimp only); (first | (go_split_ands; exact ⟨kc f (by assumption), kc f (by assumption), kc f (by assumption), kc f (by assumption), kc f (by assumption), kc f (by assumption), kc f (by assumption), kc f (by assumption), by assumption⟩) | (go_split_ands; exact ⟨(by assumption), (by assumption), (by assumption), (by assumption), (by assumption), (by assumption), (by assumption), (by assumption), by assumption⟩) | (go_split_ands; exact ⟨kc (fr1 _ _) (by assumption), kc (fr1 _ _) (by assumption), kc (fr1 _ _) (by assumption), kc (fr1 _ _) (by assumption), kc (fr1 _ _) (by assumption), kc (fr1 _ _) (by assumption), kc (fr1 _ _) (by assumption), kc (fr1 _ _) (by assumption), kfa (by assumption)⟩) | (exact hHeld))
  refine wpAnyH_take (i := 0) (v := ?v88) rfl (by kernel_rfl) (by kernel_rfl) (by kernel_rfl) (fun _ _ _ h => h) (Or.inl ⟨by kernel_rfl, ?y88⟩) (by assumption) ?_
  case y88 => (intro w hSw; (try dsimp only at hSw); go_simp; all_goals with_reducible rfl)
  try simp only [Act.put, List.getElem_toArray, List.getElem_cons_zero, List.setIfInBounds_toArray, List.set_cons_zero, List.set_cons_succ]
  refine wpAnyH_take (i := 1) (v := (.bool false)) rfl (by kernel_rfl) (by kernel_rfl) (by kernel_rfl) (fun _ _ _ h => h) (Or.inl ⟨by kernel_rfl, fun w hSw => by first | (go_simp; done) | (go_simp; with_reducible rfl) | (go_simp; omega)⟩) (by assumption) ?_
  try simp only [Act.put, List.getElem_toArray, List.getElem_cons_succ, List.getElem_cons_zero, List.setIfInBounds_toArray, List.set_cons_zero, List.set_cons_succ]
  refine wpAnyH_take (i := 2) (v := (.bool false)) rfl (by kernel_rfl) (by kernel_rfl) (by kernel_rfl) (fun _ _ _ h => h) (Or.inl ⟨by kernel_rfl, fun w hSw => by first | (go_simp; done) | (go_simp; with_reducible rfl) | (go_simp; omega)⟩) (by assumption) ?_
  try simp only [Act.put, List.getElem_toArray, List.getElem_cons_succ, List.getElem_cons_zero, List.setIfInBounds_toArray, List.set_cons_zero, List.set_cons_succ]
  refine wpAnyH_take (i := 3) (v := ?v89) rfl (by kernel_rfl) (by kernel_rfl) (by kernel_rfl) (fun _ _ _ h => h) (Or.inl ⟨by kernel_rfl, ?y89⟩) (by assumption) ?_
  case y89 => (intro w hSw; (try dsimp only at hSw); go_simp; all_goals with_reducible rfl)
  try simp only [Act.put, List.getElem_toArray, List.getElem_cons_succ, List.getElem_cons_zero, List.setIfInBounds_toArray, List.set_cons_zero, List.set_cons_succ]
  refine wpAnyH_take (i := 4) (v := (.string (strOfNums S))) rfl (by kernel_rfl) (by kernel_rfl) (by kernel_rfl) (fun _ _ _ h => h) (Or.inl ⟨by kernel_rfl, fun w hSw => by have s1 := run_str (P := Tryd.prog) w 27 9 5 Tryd.underlying27 Tryd.underlying5 Tryd.underlying9 (As) (S.length) (cs) (S) (HSB.out.1.fr hSw.2.2.2.2.2.2.2.2.out (fun _ _ _ h => h)); first | (go_simp; done) | (go_simp; with_reducible rfl) | (go_simp; omega)⟩) (by assumption) ?_
  try simp only [Act.put, List.getElem_toArray, List.getElem_cons_succ, List.getElem_cons_zero, List.setIfInBounds_toArray, List.set_cons_zero, List.set_cons_succ]
  refine wpAnyH_take (i := 5) (v := ?v90) rfl (by kernel_rfl) (by kernel_rfl) (by kernel_rfl) (fun _ _ _ h => h) (Or.inl ⟨by kernel_rfl, ?y90⟩) (by assumption) ?_
  case y90 => (intro w hSw; (try dsimp only at hSw); go_simp; all_goals with_reducible rfl)
  try simp only [Act.put, List.getElem_toArray, List.getElem_cons_succ, List.getElem_cons_zero, List.setIfInBounds_toArray, List.set_cons_zero, List.set_cons_succ]
  refine wpAnyH_take (i := 6) (v := ?v91) rfl (by kernel_rfl) (by kernel_rfl) (by kernel_rfl) (fun _ _ _ h => h) (Or.inl ⟨by kernel_rfl, ?y91⟩) (by assumption) ?_
  case y91 => (intro w hSw; (try dsimp only at hSw); go_simp; all_goals with_reducible rfl)
  try simp only [Act.put, List.getElem_toArray, List.getElem_cons_succ, List.getElem_cons_zero, List.setIfInBounds_toArray, List.set_cons_zero, List.set_cons_succ]
  refine wpAnyH_ready (rs := [7]) (by kernel_rfl) (by simp) (AllReadyH.cons rfl (fun K hK => ?_) AllReadyH.nil)
  go_simp
  go_at_call 10
  refine (BtJ.renc_ok q k A c xs dA dl dc zs _ (HX.out.fr (FG.out.trans hHeld.2.2.2.2.2.2.2.2.out)) HHK.out (HZ.out.fr (FG.out.trans hHeld.2.2.2.2.2.2.2.2.out)) (by have := HSM.out; omega)).mono ?_
  rintro e W1 ⟨⟨Ar, cr, rfl, hrr⟩, f⟩
  have FW := kf f hHeld.2.2.2.2.2.2.2.2
  rw [HSE.out] at hrr ⊢
  have HRR := hid hrr
  dsimp only
  refine hK.out _ _ ?_ (fun hHeld => ?_)
  · (try dsimp only); (first | (go_split_ands; exact ⟨kc f (by assumption), kc f (by assumption), kc f (by assumption), kc f (by assumption), kc f (by assumption), kc f (by assumption), kc f (by assumption), kc f (by assumption), by assumption⟩) | (go_split_ands; exact ⟨(by assumption), (by assumption), (by assumption), (by assumption), (by assumption), (by assumption), (by assumption), (by assumption), by assumption⟩) | (go_split_ands; exact ⟨kc (fr1 _ _) (by assumption), kc (fr1 _ _) (by assumption), kc (fr1 _ _) (by assumption), kc (fr1 _ _) (by assumption), kc (fr1 _ _) (by assumption), kc (fr1 _ _) (by assumption), kc (fr1 _ _) (by assumption), kc (fr1 _ _) (by assumption), kfa (by assumption)⟩) | (exact hHeld))
  clear hK K
  try simp only [Act.put, List.getElem_toArray, List.getElem_cons_succ, List.getElem_cons_zero, List.setIfInBounds_toArray, List.set_cons_zero, List.set_cons_succ]
  refine wpAnyH_ready (rs := [8]) (by kernel_rfl) (by simp) (AllReadyH.cons rfl (fun K hK => ?_) AllReadyH.nil)
  have s2 := run_str (P := Tryd.prog) W1 27 9 5 Tryd.underlying27 Tryd.underlying5 Tryd.underlying9 (Ar) (S.length) (cr) (S) (HRR.out)
  go_simp
  have FW := hHeld.2.2.2.2.2.2.2.2
  refine hK.out _ _ ?_ (fun hHeld => ?_)
  · (try dsimp only); (first | (go_split_ands; exact ⟨kc f (by assumption), kc f (by assumption), kc f (by assumption), kc f (by assumption), kc f (by assumption), kc f (by assumption), kc f (by assumption), kc f (by assumption), by assumption⟩) | (go_split_ands; exact ⟨(by assumption), (by assumption), (by assumption), (by assumption), (by assumption), (by assumption), (by assumption), (by assumption), by assumption⟩) | (go_split_ands; exact ⟨kc (fr1 _ _) (by assumption), kc (fr1 _ _) (by assumption), kc (fr1 _ _) (by assumption), kc (fr1 _ _) (by assumption), kc (fr1 _ _) (by assumption), kc (fr1 _ _) (by assumption), kc (fr1 _ _) (by assumption), kc (fr1 _ _) (by assumption), kfa (by assumption)⟩) | (exact hHeld))
  clear hK K
  try simp only [Act.put, List.getElem_toArray, List.getElem_cons_succ, List.getElem_cons_zero, List.setIfInBounds_toArray, List.set_cons_zero, List.set_cons_succ]
  refine wpAnyH_take (i := 9) (v := (.bool false)) rfl (by kernel_rfl) (by kernel_rfl) (by kernel_rfl) (fun _ _ _ h => h) (Or.inl ⟨by kernel_rfl, fun w hSw => by first | (go_simp; done) | (go_simp; with_reducible rfl) | (go_simp; omega)⟩) (by assumption) ?_
  try simp only [Act.put, List.getElem_toArray, List.getElem_cons_succ, List.getElem_cons_zero, List.setIfInBounds_toArray, List.set_cons_zero, List.set_cons_succ]
  refine wpAnyH_take (i := 10) (v := (.bool false)) rfl (by kernel_rfl) (by kernel_rfl) (by kernel_rfl) (fun _ _ _ h => h) (Or.inl ⟨by kernel_rfl, fun w hSw => by first | (go_simp; done) | (go_simp; with_reducible rfl) | (go_simp; omega)⟩) (by assumption) ?_
  try simp only [Act.put, List.getElem_toArray, List.getElem_cons_succ, List.getElem_cons_zero, List.setIfInBounds_toArray, List.set_cons_zero, List.set_cons_succ]
  refine wpAnyH_take (i := 11) (v := (.bool false)) rfl (by kernel_rfl) (by kernel_rfl) (by kernel_rfl) (fun _ _ _ h => h) (Or.inl ⟨by kernel_rfl, fun w hSw => by first | (go_simp; done) | (go_simp; with_reducible rfl) | (go_simp; omega)⟩) (by assumption) ?_
  try simp only [Act.put, List.getElem_toArray, List.getElem_cons_succ, List.getElem_cons_zero, List.setIfInBounds_toArray, List.set_cons_zero, List.set_cons_succ]
  refine wpAnyH_take (i := 12) (v := ?v92) rfl (by kernel_rfl) (by kernel_rfl) (by kernel_rfl) (fun _ _ _ h => h) (Or.inl ⟨by kernel_rfl, ?y92⟩) (by assumption) ?_
  case y92 => (intro w hSw; (try dsimp only at hSw); go_simp; all_goals with_reducible rfl)
  try simp only [Act.put, List.getElem_toArray, List.getElem_cons_succ, List.getElem_cons_zero, List.setIfInBounds_toArray, List.set_cons_zero, List.set_cons_succ]
  refine wpAnyH_take (i := 14) (v := ?v93) rfl (by kernel_rfl) (by kernel_rfl) (by kernel_rfl) (fun _ _ _ h => h) (Or.inl ⟨by kernel_rfl, ?y93⟩) (by assumption) ?_
  case y93 => (intro w hSw; (try dsimp only at hSw); go_simp; all_goals with_reducible rfl)
  try simp only [Act.put, List.getElem_toArray, List.getElem_cons_succ, List.getElem_cons_zero, List.setIfInBounds_toArray, List.set_cons_zero, List.set_cons_succ]
  refine wpAnyH_take (i := 15) (v := (.int .i64 (S.length : Int))) rfl (by kernel_rfl) (by kernel_rfl) (by kernel_rfl) (fun _ _ _ h => h) (Or.inl ⟨by kernel_rfl, fun w hSw => by first | (go_simp; done) | (go_simp; with_reducible rfl) | (go_simp; omega)⟩) (by assumption) ?_
  try simp only [Act.put, List.getElem_toArray, List.getElem_cons_succ, List.getElem_cons_zero, List.setIfInBounds_toArray, List.set_cons_zero, List.set_cons_succ]
  refine wpAnyH_take (i := 16) (v := (.int .i64 (1 + sz))) rfl (by kernel_rfl) (by kernel_rfl) (by kernel_rfl) (fun _ _ _ h => h) (Or.inl ⟨by kernel_rfl, fun w hSw => by first | (go_simp; done) | (go_simp; with_reducible rfl) | (go_simp; omega)⟩) (by assumption) ?_
  try simp only [Act.put, List.getElem_toArray, List.getElem_cons_succ, List.getElem_cons_zero, List.setIfInBounds_toArray, List.set_cons_zero, List.set_cons_succ]
  refine wpAnyH_ready (rs := [13]) (by kernel_rfl) (by simp) (AllReadyH.cons rfl (fun K hK => ?_) AllReadyH.nil)
  go_simp
  go_at_call 11
  refine (sectors_ok q k A xs.length c xs _ (by have := HSM.out; omega) (HX.out.fr (FG.out.trans hHeld.2.2.2.2.2.2.2.2.out)) HW.out).mono ?_
  rintro e W1 ⟨rfl, f⟩
  have FW := kf f hHeld.2.2.2.2.2.2.2.2
  rw [HDS.out]
  dsimp only
  refine hK.out _ _ ?_ (fun hHeld => ?_)
  · (try dsimp only); (first | (go_split_ands; exact ⟨kc f (by assumption), kc f (by assumption), kc f (by assumption), kc f (by assumption), kc f (by assumption), kc f (by assumption), kc f (by assumption), kc f (by assumption), by assumption⟩) | (go_split_ands; exact ⟨(by assumption), (by assumption), (by assumption), (by assumption), (by assumption), (by assumption), (by assumption), (by assumption), by assumption⟩) | (go_split_ands; exact ⟨kc (fr1 _ _) (by assumption), kc (fr1 _ _) (by assumption), kc (fr1 _ _) (by assumption), kc (fr1 _ _) (by assumption), kc (fr1 _ _) (by assumption), kc (fr1 _ _) (by assumption), kc (fr1 _ _) (by assumption), kc (fr1 _ _) (by assumption), kfa (by assumption)⟩) | (exact hHeld))
  clear hK K
  try simp only [Act.put, List.getElem_toArray, List.getElem_cons_succ, List.getElem_cons_zero, List.setIfInBounds_toArray, List.set_cons_zero, List.set_cons_succ]
  refine wpAnyH_take (i := 17) (v := (.bool false)) rfl (by kernel_rfl) (by kernel_rfl) (by kernel_rfl) (fun _ _ _ h => h) (Or.inl ⟨by kernel_rfl, fun w hSw => by first | (go_simp; done) | (go_simp; with_reducible rfl) | (go_simp; omega)⟩) (by assumption) ?_
  try simp only [Act.put, List.getElem_toArray, List.getElem_cons_succ, List.getElem_cons_zero, List.setIfInBounds_toArray, List.set_cons_zero, List.set_cons_succ]
  refine wpAnyH_take (i := 18) (v := (.bool false)) rfl (by kernel_rfl) (by kernel_rfl) (by kernel_rfl) (fun _ _ _ h => h) (Or.inl ⟨by kernel_rfl, fun w hSw => by first | (go_simp; done) | (go_simp; with_reducible rfl) | (go_simp; omega)⟩) (by assumption) ?_
  try simp only [Act.put, List.getElem_toArray, List.getElem_cons_succ, List.getElem_cons_zero, List.setIfInBounds_toArray, List.set_cons_zero, List.set_cons_succ]
  refine wpAnyH_done (by kernel_rfl) ?_ _
  refine NoPanic.normal ?_
  have FX := hHeld.2.2.2.2.2.2.2.2
  clear hHeld
  replace FG := hid (FG.out.trans FX.out); replace P0 := hid (BG.fr P0.out FX.out); replace P1 := hid (BB.fr P1.out FX.out); replace HSB := hid (HSB.out.fr FX.out)
  go_upto_region 13 with fail
  obtain ⟨wz, hwz⟩ : ∃ zz, W1 = zz := ⟨_, rfl⟩
  rw [hwz] at FG P0 P1 HSB
  try rw [hwz]
  clear hwz FX
  have HG0 := hid (show G < wz.heap.size from Blk.lt P0.out)
  have HG1 := hid (show G + 1 < wz.heap.size from Blk.lt P1.out)
  obtain ⟨R3, hR3⟩ : ∃ R3 : Nat, b % 3 = (R3 : Int) := ⟨(b % 3).toNat, by have := HB8.out; omega⟩
  have HR3 := hid (show R3 ≤ 2 by omega)
  have hwb : IntKind.i64.wrap b = b := Go.IntWalk.i64_in _ (by have := HB8.out; omega)
  have hwr : b.tmod 3 = (R3 : Int) := by rw [Int.tmod_eq_emod_of_nonneg HB8.out.1]; exact hR3
  have hwr2 : IntKind.i64.wrap (b.tmod 3) = (R3 : Int) := by rw [hwr]; exact Go.IntWalk.i64_in _ (by omega)
  have hwr3 : IntKind.i64.wrap (b % 3) = (R3 : Int) := by rw [hR3]; exact Go.IntWalk.i64_in _ (by omega)
  have HBG := hbg_ok (b := b) (R3 := R3) HMB HZL HDL HSE
  obtain ⟨g0, g1, g2, g3, g4⟩ := P0.out.cells
  obtain ⟨b0, b1, b2⟩ := BB.cells P1.out
  have FW : Hid (Fr No wz wz) := hid (Fr.refl No _)
  go_cut [13, 14, 15] (fun p s' e' wx => CutB wz q k xs zs dl p s' e' wx)
  case first =>
    have FW := kd FW
    refine wp_region_noPanic ?_
    refine wp_region_held_drew (S := (fun W' => W'.cell? ⟨G, 0, none⟩ = some (.int .i64 gc) ∧ W'.cell? ⟨G, 1, none⟩ = some (.int .i64 gs) ∧ W'.cell? ⟨G, 2, none⟩ = some (.int .i64 gn) ∧ W'.cell? ⟨G, 3, none⟩ = some (.int .i64 gl) ∧ W'.cell? ⟨G, 4, none⟩ = some (.int .i64 gk) ∧ W'.cell? ⟨G + 1, 0, none⟩ = some (.int .i64 q) ∧ W'.cell? ⟨G + 1, 1, none⟩ = some (.int .i64 k) ∧ W'.cell? ⟨G + 1, 2, none⟩ = some (.slice A xs.length c) ∧ Hid (Fr No wz W'))) (by kernel_rfl) ?_ (fun hHeld => ?_)
    · (try dsimp only); (first | (go_split_ands; exact ⟨kc f (by assumption), kc f (by assumption), kc f (by assumption), kc f (by assumption), kc f (by assumption), kc f (by assumption), kc f (by assumption), kc f (by assumption), by assumption⟩) | (go_split_ands; exact ⟨(by assumption), (by assumption), (by assumption), (by assumption), (by assumption), (by assumption), (by assumption), (by assumption), by assumption⟩) | (go_split_ands; exact ⟨kc (fr1 _ _) (by assumption), kc (fr1 _ _) (by assumption), kc (fr1 _ _) (by assumption), kc (fr1 _ _) (by assumption), kc (fr1 _ _) (by assumption), kc (fr1 _ _) (by assumption), kc (fr1 _ _) (by assumption), kc (fr1 _ _) (by assumption), kfa (by assumption)⟩) | (exact ⟨kc f hHeld.1, kc f hHeld.2.1, kc f hHeld.2.2.1, kc f hHeld.2.2.2.1, kc f hHeld.2.2.2.2.1, kc f hHeld.2.2.2.2.2.1, kc f hHeld.2.2.2.2.2.2.1, kc f hHeld.2.2.2.2.2.2.2.1, FW⟩) | (exact ⟨kcB f HG0.out hHeld.1, kcB f HG0.out hHeld.2.1, kcB f HG0.out hHeld.2.2.1, kcB f HG0.out hHeld.2.2.2.1, kcB f HG0.out hHeld.2.2.2.2.1, kcB f HG1.out hHeld.2.2.2.2.2.1, kcB f HG1.out hHeld.2.2.2.2.2.2.1, kcB f HG1.out hHeld.2.2.2.2.2.2.2.1, FW⟩))
    refine wpAnyH_take (i := 0) (v := ?v1) rfl (by kernel_rfl) (by kernel_rfl) (by kernel_rfl) (fun _ _ _ h => h) (Or.inl ⟨by kernel_rfl, ?y1⟩) (by assumption) ?_
    case y1 => (intro w hSw; (try dsimp only at hSw); go_simp; all_goals with_reducible rfl)
    try simp only [Act.put, List.getElem_toArray, List.getElem_cons_zero, List.setIfInBounds_toArray, List.set_cons_zero, List.set_cons_succ]
    refine wpAnyH_take (i := 2) (v := ?v2) rfl (by kernel_rfl) (by kernel_rfl) (by kernel_rfl) (fun _ _ _ h => h) (Or.inl ⟨by kernel_rfl, ?y2⟩) (by assumption) ?_
    case y2 => (intro w hSw; (try dsimp only at hSw); go_simp; all_goals with_reducible rfl)
    try simp only [Act.put, List.getElem_toArray, List.getElem_cons_succ, List.getElem_cons_zero, List.setIfInBounds_toArray, List.set_cons_zero, List.set_cons_succ]
    refine wpAnyH_take (i := 4) (v := ?v3) rfl (by kernel_rfl) (by kernel_rfl) (by kernel_rfl) (fun _ _ _ h => h) (Or.inl ⟨by kernel_rfl, ?y3⟩) (by assumption) ?_
    case y3 => (intro w hSw; (try dsimp only at hSw); go_simp; all_goals with_reducible rfl)
    try simp only [Act.put, List.getElem_toArray, List.getElem_cons_succ, List.getElem_cons_zero, List.setIfInBounds_toArray, List.set_cons_zero, List.set_cons_succ]
    refine wpAnyH_take (i := 5) (v := ?v4) rfl (by kernel_rfl) (by kernel_rfl) (by kernel_rfl) (fun _ _ _ h => h) (Or.inl ⟨by kernel_rfl, ?y4⟩) (by assumption) ?_
    case y4 => (intro w hSw; (try dsimp only at hSw); go_simp; all_goals with_reducible rfl)
    try simp only [Act.put, List.getElem_toArray, List.getElem_cons_succ, List.getElem_cons_zero, List.setIfInBounds_toArray, List.set_cons_zero, List.set_cons_succ]
    refine wpAnyH_take (i := 6) (v := (.int .i64 b)) rfl (by kernel_rfl) (by kernel_rfl) (by kernel_rfl) (fun _ _ _ h => h) (Or.inl ⟨by kernel_rfl, fun w hSw => by first | (go_simp; done) | (go_simp; with_reducible rfl) | (go_simp; omega)⟩) (by assumption) ?_
    try simp only [Act.put, List.getElem_toArray, List.getElem_cons_succ, List.getElem_cons_zero, List.setIfInBounds_toArray, List.set_cons_zero, List.set_cons_succ]
    refine wpAnyH_take (i := 7) (v := (.int .i64 (R3 : Int))) rfl (by kernel_rfl) (by kernel_rfl) (by kernel_rfl) (fun _ _ _ h => h) (Or.inl ⟨by kernel_rfl, fun w hSw => by first | (go_simp; done) | (go_simp; with_reducible rfl) | (go_simp; omega)⟩) (by assumption) ?_
    try simp only [Act.put, List.getElem_toArray, List.getElem_cons_succ, List.getElem_cons_zero, List.setIfInBounds_toArray, List.set_cons_zero, List.set_cons_succ]
    refine wpAnyH_ready (rs := [1, 15]) (by kernel_rfl) (by simp) (AllReadyH.cons rfl (fun K hK => ?_) (AllReadyH.cons rfl (fun K hK => ?_) AllReadyH.nil))
    · go_simp
      obtain ⟨x1, hx1⟩ : ∃ x, World.drew (World.alloc wz (Obj.cells #[] 5)) = x := ⟨_, rfl⟩
      try rw [hx1]
      have f : Fr No wz.drew x1 := by rw [← hx1]; exact fr1dd _ _
      have FW := kf f hHeld.2.2.2.2.2.2.2.2
      have O1 := hid (show OB wz.heap.size x1 (.slice (some ⟨wz.drew.heap.size, 0, none⟩) 0 0) [] by rw [← hx1]; exact own0b wz (show wz.heap.size ≤ wz.drew.heap.size from (hHeld.2.2.2.2.2.2.2.2).out.size))
      clear hx1
      refine hK.out _ _ ?_ (fun hHeld => ?_)
      · (try dsimp only); (first | (go_split_ands; exact ⟨kc f (by assumption), kc f (by assumption), kc f (by assumption), kc f (by assumption), kc f (by assumption), kc f (by assumption), kc f (by assumption), kc f (by assumption), by assumption⟩) | (go_split_ands; exact ⟨(by assumption), (by assumption), (by assumption), (by assumption), (by assumption), (by assumption), (by assumption), (by assumption), by assumption⟩) | (go_split_ands; exact ⟨kc (fr1 _ _) (by assumption), kc (fr1 _ _) (by assumption), kc (fr1 _ _) (by assumption), kc (fr1 _ _) (by assumption), kc (fr1 _ _) (by assumption), kc (fr1 _ _) (by assumption), kc (fr1 _ _) (by assumption), kc (fr1 _ _) (by assumption), kfa (by assumption)⟩) | (exact ⟨kc f hHeld.1, kc f hHeld.2.1, kc f hHeld.2.2.1, kc f hHeld.2.2.2.1, kc f hHeld.2.2.2.2.1, kc f hHeld.2.2.2.2.2.1, kc f hHeld.2.2.2.2.2.2.1, kc f hHeld.2.2.2.2.2.2.2.1, FW⟩) | (exact ⟨kcB f HG0.out hHeld.1, kcB f HG0.out hHeld.2.1, kcB f HG0.out hHeld.2.2.1, kcB f HG0.out hHeld.2.2.2.1, kcB f HG0.out hHeld.2.2.2.2.1, kcB f HG1.out hHeld.2.2.2.2.2.1, kcB f HG1.out hHeld.2.2.2.2.2.2.1, kcB f HG1.out hHeld.2.2.2.2.2.2.2.1, FW⟩))
      clear hK K
      try simp only [Act.put, List.getElem_toArray, List.getElem_cons_succ, List.getElem_cons_zero, List.setIfInBounds_toArray, List.set_cons_zero, List.set_cons_succ]
      refine wpAnyH_ready (rs := [3, 15]) (by kernel_rfl) (by simp) (AllReadyH.cons rfl (fun K hK => ?_) (AllReadyH.cons rfl (fun K hK => ?_) AllReadyH.nil))
      · refine app_bs rfl (.tmp 107) (.tmp 108) rfl wz.heap.size (.slice (some ⟨wz.drew.heap.size, 0, none⟩) 0 0) [] rfl O1.out As S.length cs S rfl (HSB.out.1.fr (hHeld.2.2.2.2.2.2.2.2).out (fun _ _ _ h => h)) (by have := HSL.out; have := HSM.out; have := HZL.out; simp; omega) (show wz.heap.size ≤ x1.heap.size from (hHeld.2.2.2.2.2.2.2.2).out.size) ?_
        intro A3 c3 x3 o3 f3
        try simp only [List.length_nil, Nat.zero_add, List.nil_append] at o3
        try simp only [List.length_nil, Nat.zero_add]
        have f : Fr (fun q => wz.heap.size ≤ q) x1 x3 := frOB O1.out f3
        have FW := kfB f hHeld.2.2.2.2.2.2.2.2
        have O3 := hid o3
        clear o3 f3
        refine hK.out _ _ ?_ (fun hHeld => ?_)
        · (try dsimp only); (first | (go_split_ands; exact ⟨kc f (by assumption), kc f (by assumption), kc f (by assumption), kc f (by assumption), kc f (by assumption), kc f (by assumption), kc f (by assumption), kc f (by assumption), by assumption⟩) | (go_split_ands; exact ⟨(by assumption), (by assumption), (by assumption), (by assumption), (by assumption), (by assumption), (by assumption), (by assumption), by assumption⟩) | (go_split_ands; exact ⟨kc (fr1 _ _) (by assumption), kc (fr1 _ _) (by assumption), kc (fr1 _ _) (by assumption), kc (fr1 _ _) (by assumption), kc (fr1 _ _) (by assumption), kc (fr1 _ _) (by assumption), kc (fr1 _ _) (by assumption), kc (fr1 _ _) (by assumption), kfa (by assumption)⟩) | (exact ⟨kc f hHeld.1, kc f hHeld.2.1, kc f hHeld.2.2.1, kc f hHeld.2.2.2.1, kc f hHeld.2.2.2.2.1, kc f hHeld.2.2.2.2.2.1, kc f hHeld.2.2.2.2.2.2.1, kc f hHeld.2.2.2.2.2.2.2.1, FW⟩) | (exact ⟨kcB f HG0.out hHeld.1, kcB f HG0.out hHeld.2.1, kcB f HG0.out hHeld.2.2.1, kcB f HG0.out hHeld.2.2.2.1, kcB f HG0.out hHeld.2.2.2.2.1, kcB f HG1.out hHeld.2.2.2.2.2.1, kcB f HG1.out hHeld.2.2.2.2.2.2.1, kcB f HG1.out hHeld.2.2.2.2.2.2.2.1, FW⟩))
        clear hK K
        try simp only [Act.put, List.getElem_toArray, List.getElem_cons_succ, List.getElem_cons_zero, List.setIfInBounds_toArray, List.set_cons_zero, List.set_cons_succ]
        refine wpAnyH_ready (rs := [8, 15]) (by kernel_rfl) (by simp) (AllReadyH.cons rfl (fun K hK => ?_) (AllReadyH.cons rfl (fun K hK => ?_) AllReadyH.nil))
        · go_simp
          go_at_call 13
          refine (BtN.fill_ok b R3 _ HB8.out (by have := HR3.out; omega)).mono ?_
          rintro e x8 ⟨Af, cf, rfl, rf, lf, f⟩
          have FW := kf f hHeld.2.2.2.2.2.2.2.2
          have O3 := hid (OB.fr O3.out f)
          have RF := hid rf
          clear rf lf
          dsimp only
          refine hK.out _ _ ?_ (fun hHeld => ?_)
          · (try dsimp only); (first | (go_split_ands; exact ⟨kc f (by assumption), kc f (by assumption), kc f (by assumption), kc f (by assumption), kc f (by assumption), kc f (by assumption), kc f (by assumption), kc f (by assumption), by assumption⟩) | (go_split_ands; exact ⟨(by assumption), (by assumption), (by assumption), (by assumption), (by assumption), (by assumption), (by assumption), (by assumption), by assumption⟩) | (go_split_ands; exact ⟨kc (fr1 _ _) (by assumption), kc (fr1 _ _) (by assumption), kc (fr1 _ _) (by assumption), kc (fr1 _ _) (by assumption), kc (fr1 _ _) (by assumption), kc (fr1 _ _) (by assumption), kc (fr1 _ _) (by assumption), kc (fr1 _ _) (by assumption), kfa (by assumption)⟩) | (exact ⟨kc f hHeld.1, kc f hHeld.2.1, kc f hHeld.2.2.1, kc f hHeld.2.2.2.1, kc f hHeld.2.2.2.2.1, kc f hHeld.2.2.2.2.2.1, kc f hHeld.2.2.2.2.2.2.1, kc f hHeld.2.2.2.2.2.2.2.1, FW⟩) | (exact ⟨kcB f HG0.out hHeld.1, kcB f HG0.out hHeld.2.1, kcB f HG0.out hHeld.2.2.1, kcB f HG0.out hHeld.2.2.2.1, kcB f HG0.out hHeld.2.2.2.2.1, kcB f HG1.out hHeld.2.2.2.2.2.1, kcB f HG1.out hHeld.2.2.2.2.2.2.1, kcB f HG1.out hHeld.2.2.2.2.2.2.2.1, FW⟩))
          clear hK K
          try simp only [Act.put, List.getElem_toArray, List.getElem_cons_succ, List.getElem_cons_zero, List.setIfInBounds_toArray, List.set_cons_zero, List.set_cons_succ]
          refine wpAnyH_ready (rs := [9, 15]) (by kernel_rfl) (by simp) (AllReadyH.cons rfl (fun K hK => ?_) (AllReadyH.cons rfl (fun K hK => ?_) AllReadyH.nil))
          · refine app_bs rfl (.tmp 109) (.tmp 114) rfl wz.heap.size _ S rfl O3.out Af (BtN.fill b R3).length cf (BtN.fill b R3) rfl RF.out (by have := HSL.out; have := HSM.out; have := HZL.out; have := HR3.out; rw [BtN.fill_len]; omega) (show wz.heap.size ≤ x8.heap.size from (hHeld.2.2.2.2.2.2.2.2).out.size) ?_
            intro A9 c9 x9 o9 f9
            have f : Fr (fun q => wz.heap.size ≤ q) x8 x9 := frOB O3.out f9
            have FW := kfB f hHeld.2.2.2.2.2.2.2.2
            have O9 := hid o9
            clear o9 f9
            refine hK.out _ _ ?_ (fun hHeld => ?_)
            · (try dsimp only); (first | (go_split_ands; exact ⟨kc f (by assumption), kc f (by assumption), kc f (by assumption), kc f (by assumption), kc f (by assumption), kc f (by assumption), kc f (by assumption), kc f (by assumption), by assumption⟩) | (go_split_ands; exact ⟨(by assumption), (by assumption), (by assumption), (by assumption), (by assumption), (by assumption), (by assumption), (by assumption), by assumption⟩) | (go_split_ands; exact ⟨kc (fr1 _ _) (by assumption), kc (fr1 _ _) (by assumption), kc (fr1 _ _) (by assumption), kc (fr1 _ _) (by assumption), kc (fr1 _ _) (by assumption), kc (fr1 _ _) (by assumption), kc (fr1 _ _) (by assumption), kc (fr1 _ _) (by assumption), kfa (by assumption)⟩) | (exact ⟨kc f hHeld.1, kc f hHeld.2.1, kc f hHeld.2.2.1, kc f hHeld.2.2.2.1, kc f hHeld.2.2.2.2.1, kc f hHeld.2.2.2.2.2.1, kc f hHeld.2.2.2.2.2.2.1, kc f hHeld.2.2.2.2.2.2.2.1, FW⟩) | (exact ⟨kcB f HG0.out hHeld.1, kcB f HG0.out hHeld.2.1, kcB f HG0.out hHeld.2.2.1, kcB f HG0.out hHeld.2.2.2.1, kcB f HG0.out hHeld.2.2.2.2.1, kcB f HG1.out hHeld.2.2.2.2.2.1, kcB f HG1.out hHeld.2.2.2.2.2.2.1, kcB f HG1.out hHeld.2.2.2.2.2.2.2.1, FW⟩))
            clear hK K
            try simp only [Act.put, List.getElem_toArray, List.getElem_cons_succ, List.getElem_cons_zero, List.setIfInBounds_toArray, List.set_cons_zero, List.set_cons_succ]
            refine wpAnyH_ready (rs := [10, 15]) (by kernel_rfl) (by simp) (AllReadyH.cons rfl (fun K hK => ?_) (AllReadyH.cons rfl (fun K hK => ?_) AllReadyH.nil))
            · go_simp
              go_at_call 12
              refine (dec_y gc gs gn gl gk A9 (S.length + (BtN.fill b R3).length) c9 (S ++ BtN.fill b R3) _ q k xs zs HS.out HM.out ⟨OB.rd (by rw [List.length_append]) O9.out, by have := (OB.lim O9.out).1; rw [List.length_append] at this; exact this, (OB.lim O9.out).2, fun x hx => (List.mem_append.1 hx).elim (HSB.out.2.2.2 x) (BtN.fill_u8 HB8.out R3 x)⟩ (HT.out.fr (FG.out.trans (hHeld.2.2.2.2.2.2.2.2).out) (fun h => h)) HBG.out).mono ?_
              rintro e x10 ⟨A10, c10, D10, d10, rfl, hxs, hfr, hds, f⟩
              have FW := kf f hHeld.2.2.2.2.2.2.2.2
              have O9 := hid (OB.fr O9.out f)
              have XS := hid hxs
              have DS := hid hds
              clear hxs hfr hds
              dsimp only
              refine hK.out _ _ ?_ (fun hHeld => ?_)
              · (try dsimp only); (first | (go_split_ands; exact ⟨kc f (by assumption), kc f (by assumption), kc f (by assumption), kc f (by assumption), kc f (by assumption), kc f (by assumption), kc f (by assumption), kc f (by assumption), by assumption⟩) | (go_split_ands; exact ⟨(by assumption), (by assumption), (by assumption), (by assumption), (by assumption), (by assumption), (by assumption), (by assumption), by assumption⟩) | (go_split_ands; exact ⟨kc (fr1 _ _) (by assumption), kc (fr1 _ _) (by assumption), kc (fr1 _ _) (by assumption), kc (fr1 _ _) (by assumption), kc (fr1 _ _) (by assumption), kc (fr1 _ _) (by assumption), kc (fr1 _ _) (by assumption), kc (fr1 _ _) (by assumption), kfa (by assumption)⟩) | (exact ⟨kc f hHeld.1, kc f hHeld.2.1, kc f hHeld.2.2.1, kc f hHeld.2.2.2.1, kc f hHeld.2.2.2.2.1, kc f hHeld.2.2.2.2.2.1, kc f hHeld.2.2.2.2.2.2.1, kc f hHeld.2.2.2.2.2.2.2.1, FW⟩) | (exact ⟨kcB f HG0.out hHeld.1, kcB f HG0.out hHeld.2.1, kcB f HG0.out hHeld.2.2.1, kcB f HG0.out hHeld.2.2.2.1, kcB f HG0.out hHeld.2.2.2.2.1, kcB f HG1.out hHeld.2.2.2.2.2.1, kcB f HG1.out hHeld.2.2.2.2.2.2.1, kcB f HG1.out hHeld.2.2.2.2.2.2.2.1, FW⟩))
              clear hK K
              try simp only [Act.put, List.getElem_toArray, List.getElem_cons_succ, List.getElem_cons_zero, List.setIfInBounds_toArray, List.set_cons_zero, List.set_cons_succ]
              refine wpAnyH_take (i := 11) (v := ?v5) rfl (by kernel_rfl) (by kernel_rfl) (by kernel_rfl) (fun _ _ _ h => h) (Or.inl ⟨by kernel_rfl, ?y5⟩) (by assumption) ?_
              case y5 => (intro w hSw; (try dsimp only at hSw); go_simp; all_goals with_reducible rfl)
              try simp only [Act.put, List.getElem_toArray, List.getElem_cons_succ, List.getElem_cons_zero, List.setIfInBounds_toArray, List.set_cons_zero, List.set_cons_succ]
              refine wpAnyH_take (i := 12) (v := ?v6) rfl (by kernel_rfl) (by kernel_rfl) (by kernel_rfl) (fun _ _ _ h => h) (Or.inl ⟨by kernel_rfl, ?y6⟩) (by assumption) ?_
              case y6 => (intro w hSw; (try dsimp only at hSw); go_simp; all_goals with_reducible rfl)
              try simp only [Act.put, List.getElem_toArray, List.getElem_cons_succ, List.getElem_cons_zero, List.setIfInBounds_toArray, List.set_cons_zero, List.set_cons_succ]
              refine wpAnyH_take (i := 13) (v := ?v7) rfl (by kernel_rfl) (by kernel_rfl) (by kernel_rfl) (fun _ _ _ h => h) (Or.inl ⟨by kernel_rfl, ?y7⟩) (by assumption) ?_
              case y7 => (intro w hSw; (try dsimp only at hSw); go_simp; all_goals with_reducible rfl)
              try simp only [Act.put, List.getElem_toArray, List.getElem_cons_succ, List.getElem_cons_zero, List.setIfInBounds_toArray, List.set_cons_zero, List.set_cons_succ]
              refine wpAnyH_take (i := 14) (v := ?v8) rfl (by kernel_rfl) (by kernel_rfl) (by kernel_rfl) (fun _ _ _ h => h) (Or.inl ⟨by kernel_rfl, ?y8⟩) (by assumption) ?_
              case y8 => (intro w hSw; (try dsimp only at hSw); go_simp; all_goals with_reducible rfl)
              try simp only [Act.put, List.getElem_toArray, List.getElem_cons_succ, List.getElem_cons_zero, List.setIfInBounds_toArray, List.set_cons_zero, List.set_cons_succ]
              refine wpAnyH_ready (rs := [15]) (by kernel_rfl) (by simp) (AllReadyH.cons rfl (fun K hK => ?_) AllReadyH.nil)
              go_simp
              have HMB15 := hid (show wz.heap.size ≤ x10.heap.size from (hHeld.2.2.2.2.2.2.2.2).out.size)
              have XSP := XS
              obtain ⟨x15, hx15⟩ : ∃ x, World.alloc x10 (Obj.cells #[.int .i64 0, .int .i64 0, .slice none 0 0] 26) = x := ⟨_, rfl⟩
              try rw [hx15]
              have f : Fr No x10 x15 := by rw [← hx15]; exact fr1 _ _
              have FW := kf f hHeld.2.2.2.2.2.2.2.2
              have XS := hid (XS.out.fr f)
              have DS := hid (DS.out.fr f (fun _ _ _ h => h))
              have HXM := hid (fun (h0 : 0 < xs.length) g o (h : A10 = some ⟨g, o, none⟩) => (show g ≠ x10.heap.size by obtain ⟨g', o', h', hg', _⟩ := XSP.out.at_ h0; rw [h] at h'; cases h'; omega))
              have MX := hid (show Blk x15 x10.heap.size 26 #[.int .i64 0, .int .i64 0, .slice none 0 0] by rw [← hx15]; exact Blk.new _ _ _)
              have HML := hid (show x10.heap.size < x15.heap.size from Blk.lt MX.out)
              clear hx15
              refine hK.out _ _ ?_ (fun hHeld => ?_)
              · (try dsimp only); (first | (go_split_ands; exact ⟨kc f (by assumption), kc f (by assumption), kc f (by assumption), kc f (by assumption), kc f (by assumption), kc f (by assumption), kc f (by assumption), kc f (by assumption), by assumption⟩) | (go_split_ands; exact ⟨(by assumption), (by assumption), (by assumption), (by assumption), (by assumption), (by assumption), (by assumption), (by assumption), by assumption⟩) | (go_split_ands; exact ⟨kc (fr1 _ _) (by assumption), kc (fr1 _ _) (by assumption), kc (fr1 _ _) (by assumption), kc (fr1 _ _) (by assumption), kc (fr1 _ _) (by assumption), kc (fr1 _ _) (by assumption), kc (fr1 _ _) (by assumption), kc (fr1 _ _) (by assumption), kfa (by assumption)⟩) | (exact ⟨kc f hHeld.1, kc f hHeld.2.1, kc f hHeld.2.2.1, kc f hHeld.2.2.2.1, kc f hHeld.2.2.2.2.1, kc f hHeld.2.2.2.2.2.1, kc f hHeld.2.2.2.2.2.2.1, kc f hHeld.2.2.2.2.2.2.2.1, FW⟩) | (exact ⟨kcB f HG0.out hHeld.1, kcB f HG0.out hHeld.2.1, kcB f HG0.out hHeld.2.2.1, kcB f HG0.out hHeld.2.2.2.1, kcB f HG0.out hHeld.2.2.2.2.1, kcB f HG1.out hHeld.2.2.2.2.2.1, kcB f HG1.out hHeld.2.2.2.2.2.2.1, kcB f HG1.out hHeld.2.2.2.2.2.2.2.1, FW⟩))
              clear hK K
              try simp only [Act.put, List.getElem_toArray, List.getElem_cons_succ, List.getElem_cons_zero, List.setIfInBounds_toArray, List.set_cons_zero, List.set_cons_succ]
              refine wpAnyH_ready (rs := [16]) (by kernel_rfl) (by simp) (AllReadyH.cons rfl (fun K hK => ?_) AllReadyH.nil)
              refine st_bt_step rfl (.tmp 13) (.tmp 117) rfl _ rfl rfl (by simp [Value.oneCell']) MX.out rfl ?_
              intro x16 hb2 f16
              have f : Fr (fun q => wz.heap.size ≤ q) x15 x16 := f16.mono (fun i _ e => by rw [e]; exact HMB15.out)
              have FW := kfB f hHeld.2.2.2.2.2.2.2.2
              have XS := hid (rdS_lo3 XS.out f16 (fun h0 g o hA e => HXM.out h0 g o hA e))
              have DS := hid (rd_lo3 DS.out f16 (fun h0 g o hA e => rd_ne MX.out DS.out h0 g o hA e))
              have MX := hid hb2
              clear hb2 f16
              refine hK.out _ _ ?_ (fun hHeld => ?_)
              · (try dsimp only); (first | (go_split_ands; exact ⟨kc f (by assumption), kc f (by assumption), kc f (by assumption), kc f (by assumption), kc f (by assumption), kc f (by assumption), kc f (by assumption), kc f (by assumption), by assumption⟩) | (go_split_ands; exact ⟨(by assumption), (by assumption), (by assumption), (by assumption), (by assumption), (by assumption), (by assumption), (by assumption), by assumption⟩) | (go_split_ands; exact ⟨kc (fr1 _ _) (by assumption), kc (fr1 _ _) (by assumption), kc (fr1 _ _) (by assumption), kc (fr1 _ _) (by assumption), kc (fr1 _ _) (by assumption), kc (fr1 _ _) (by assumption), kc (fr1 _ _) (by assumption), kc (fr1 _ _) (by assumption), kfa (by assumption)⟩) | (exact ⟨kc f hHeld.1, kc f hHeld.2.1, kc f hHeld.2.2.1, kc f hHeld.2.2.2.1, kc f hHeld.2.2.2.2.1, kc f hHeld.2.2.2.2.2.1, kc f hHeld.2.2.2.2.2.2.1, kc f hHeld.2.2.2.2.2.2.2.1, FW⟩) | (exact ⟨kcB f HG0.out hHeld.1, kcB f HG0.out hHeld.2.1, kcB f HG0.out hHeld.2.2.1, kcB f HG0.out hHeld.2.2.2.1, kcB f HG0.out hHeld.2.2.2.2.1, kcB f HG1.out hHeld.2.2.2.2.2.1, kcB f HG1.out hHeld.2.2.2.2.2.2.1, kcB f HG1.out hHeld.2.2.2.2.2.2.2.1, FW⟩))
              clear hK K
              try simp only [Act.put, List.getElem_toArray, List.getElem_cons_succ, List.getElem_cons_zero]
              refine wpAnyH_take (i := 17) (v := ?v9) rfl (by kernel_rfl) (by kernel_rfl) (by kernel_rfl) (fun _ _ _ h => h) (Or.inl ⟨by kernel_rfl, ?y9⟩) (by assumption) ?_
              case y9 => (intro w hSw; (try dsimp only at hSw); go_simp; all_goals with_reducible rfl)
              try simp only [Act.put, List.getElem_toArray, List.getElem_cons_succ, List.getElem_cons_zero, List.setIfInBounds_toArray, List.set_cons_zero, List.set_cons_succ]
              refine wpAnyH_take (i := 18) (v := ?v10) rfl (by kernel_rfl) (by kernel_rfl) (by kernel_rfl) (fun _ _ _ h => h) (Or.inl ⟨by kernel_rfl, ?y10⟩) (by assumption) ?_
              case y10 => (intro w hSw; (try dsimp only at hSw); go_simp; all_goals with_reducible rfl)
              try simp only [Act.put, List.getElem_toArray, List.getElem_cons_succ, List.getElem_cons_zero, List.setIfInBounds_toArray, List.set_cons_zero, List.set_cons_succ]
              refine wpAnyH_done (by kernel_rfl) ?_ _
              refine NoPanic.normal ?_
              have FX := hHeld.2.2.2.2.2.2.2.2
              clear hHeld
              go_wp2_with fail
              go_meet
              case rel => (try refine ⟨_, _, _, ?_, rfl, rfl, rfl⟩); exact ⟨_, A10, c10, D10, d10, rfl, rfl, rfl, MX.out, HMB15.out, XS.out, (by have h9 := DS.out; rw [HZL.out] at h9; exact h9), FX.out⟩
            · go_simp
              have HMB15 := hid (show wz.heap.size ≤ x9.heap.size from (hHeld.2.2.2.2.2.2.2.2).out.size)
              obtain ⟨x15, hx15⟩ : ∃ x, World.alloc x9 (Obj.cells #[.int .i64 0, .int .i64 0, .slice none 0 0] 26) = x := ⟨_, rfl⟩
              try rw [hx15]
              have f : Fr No x9 x15 := by rw [← hx15]; exact fr1 _ _
              have FW := kf f hHeld.2.2.2.2.2.2.2.2
              have O9 := hid (OB.fr O9.out f)
              have MX := hid (show Blk x15 x9.heap.size 26 #[.int .i64 0, .int .i64 0, .slice none 0 0] by rw [← hx15]; exact Blk.new _ _ _)
              have HML := hid (show x9.heap.size < x15.heap.size from Blk.lt MX.out)
              clear hx15
              refine hK.out _ _ ?_ (fun hHeld => ?_)
              · (try dsimp only); (first | (go_split_ands; exact ⟨kc f (by assumption), kc f (by assumption), kc f (by assumption), kc f (by assumption), kc f (by assumption), kc f (by assumption), kc f (by assumption), kc f (by assumption), by assumption⟩) | (go_split_ands; exact ⟨(by assumption), (by assumption), (by assumption), (by assumption), (by assumption), (by assumption), (by assumption), (by assumption), by assumption⟩) | (go_split_ands; exact ⟨kc (fr1 _ _) (by assumption), kc (fr1 _ _) (by assumption), kc (fr1 _ _) (by assumption), kc (fr1 _ _) (by assumption), kc (fr1 _ _) (by assumption), kc (fr1 _ _) (by assumption), kc (fr1 _ _) (by assumption), kc (fr1 _ _) (by assumption), kfa (by assumption)⟩) | (exact ⟨kc f hHeld.1, kc f hHeld.2.1, kc f hHeld.2.2.1, kc f hHeld.2.2.2.1, kc f hHeld.2.2.2.2.1, kc f hHeld.2.2.2.2.2.1, kc f hHeld.2.2.2.2.2.2.1, kc f hHeld.2.2.2.2.2.2.2.1, FW⟩) | (exact ⟨kcB f HG0.out hHeld.1, kcB f HG0.out hHeld.2.1, kcB f HG0.out hHeld.2.2.1, kcB f HG0.out hHeld.2.2.2.1, kcB f HG0.out hHeld.2.2.2.2.1, kcB f HG1.out hHeld.2.2.2.2.2.1, kcB f HG1.out hHeld.2.2.2.2.2.2.1, kcB f HG1.out hHeld.2.2.2.2.2.2.2.1, FW⟩))
              clear hK K
              try simp only [Act.put, List.getElem_toArray, List.getElem_cons_succ, List.getElem_cons_zero, List.setIfInBounds_toArray, List.set_cons_zero, List.set_cons_succ]
              refine wpAnyH_ready (rs := [10]) (by kernel_rfl) (by simp) (AllReadyH.cons rfl (fun K hK => ?_) AllReadyH.nil)
              go_simp
              go_at_call 12
              refine (dec_y gc gs gn gl gk A9 (S.length + (BtN.fill b R3).length) c9 (S ++ BtN.fill b R3) _ q k xs zs HS.out HM.out ⟨OB.rd (by rw [List.length_append]) O9.out, by have := (OB.lim O9.out).1; rw [List.length_append] at this; exact this, (OB.lim O9.out).2, fun x hx => (List.mem_append.1 hx).elim (HSB.out.2.2.2 x) (BtN.fill_u8 HB8.out R3 x)⟩ (HT.out.fr (FG.out.trans (hHeld.2.2.2.2.2.2.2.2).out) (fun h => h)) HBG.out).mono ?_
              rintro e x10 ⟨A10, c10, D10, d10, rfl, hxs, hfr, hds, f⟩
              have FW := kf f hHeld.2.2.2.2.2.2.2.2
              have HXM := hid (fun (_ : 0 < xs.length) g o (h : A10 = some ⟨g, o, none⟩) => (show g ≠ x9.heap.size by have q1 := hfr g o h; have q2 := HML.out; omega))
              have O9 := hid (OB.fr O9.out f)
              have MX := hid (Blk.fr MX.out f (fun h => h))
              have HML := hid (Nat.lt_of_lt_of_le HML.out f.size)
              have XS := hid hxs
              have DS := hid hds
              clear hxs hfr hds
              dsimp only
              refine hK.out _ _ ?_ (fun hHeld => ?_)
              · (try dsimp only); (first | (go_split_ands; exact ⟨kc f (by assumption), kc f (by assumption), kc f (by assumption), kc f (by assumption), kc f (by assumption), kc f (by assumption), kc f (by assumption), kc f (by assumption), by assumption⟩) | (go_split_ands; exact ⟨(by assumption), (by assumption), (by assumption), (by assumption), (by assumption), (by assumption), (by assumption), (by assumption), by assumption⟩) | (go_split_ands; exact ⟨kc (fr1 _ _) (by assumption), kc (fr1 _ _) (by assumption), kc (fr1 _ _) (by assumption), kc (fr1 _ _) (by assumption), kc (fr1 _ _) (by assumption), kc (fr1 _ _) (by assumption), kc (fr1 _ _) (by assumption), kc (fr1 _ _) (by assumption), kfa (by assumption)⟩) | (exact ⟨kc f hHeld.1, kc f hHeld.2.1, kc f hHeld.2.2.1, kc f hHeld.2.2.2.1, kc f hHeld.2.2.2.2.1, kc f hHeld.2.2.2.2.2.1, kc f hHeld.2.2.2.2.2.2.1, kc f hHeld.2.2.2.2.2.2.2.1, FW⟩) | (exact ⟨kcB f HG0.out hHeld.1, kcB f HG0.out hHeld.2.1, kcB f HG0.out hHeld.2.2.1, kcB f HG0.out hHeld.2.2.2.1, kcB f HG0.out hHeld.2.2.2.2.1, kcB f HG1.out hHeld.2.2.2.2.2.1, kcB f HG1.out hHeld.2.2.2.2.2.2.1, kcB f HG1.out hHeld.2.2.2.2.2.2.2.1, FW⟩))
              clear hK K
              try simp only [Act.put, List.getElem_toArray, List.getElem_cons_succ, List.getElem_cons_zero, List.setIfInBounds_toArray, List.set_cons_zero, List.set_cons_succ]
              refine wpAnyH_take (i := 11) (v := ?v11) rfl (by kernel_rfl) (by kernel_rfl) (by kernel_rfl) (fun _ _ _ h => h) (Or.inl ⟨by kernel_rfl, ?y11⟩) (by assumption) ?_
              case y11 => (intro w hSw; (try dsimp only at hSw); go_simp; all_goals with_reducible rfl)
              try simp only [Act.put, List.getElem_toArray, List.getElem_cons_succ, List.getElem_cons_zero, List.setIfInBounds_toArray, List.set_cons_zero, List.set_cons_succ]
              refine wpAnyH_take (i := 12) (v := ?v12) rfl (by kernel_rfl) (by kernel_rfl) (by kernel_rfl) (fun _ _ _ h => h) (Or.inl ⟨by kernel_rfl, ?y12⟩) (by assumption) ?_
              case y12 => (intro w hSw; (try dsimp only at hSw); go_simp; all_goals with_reducible rfl)
              try simp only [Act.put, List.getElem_toArray, List.getElem_cons_succ, List.getElem_cons_zero, List.setIfInBounds_toArray, List.set_cons_zero, List.set_cons_succ]
              refine wpAnyH_take (i := 13) (v := ?v13) rfl (by kernel_rfl) (by kernel_rfl) (by kernel_rfl) (fun _ _ _ h => h) (Or.inl ⟨by kernel_rfl, ?y13⟩) (by assumption) ?_
              case y13 => (intro w hSw; (try dsimp only at hSw); go_simp; all_goals with_reducible rfl)
              try simp only [Act.put, List.getElem_toArray, List.getElem_cons_succ, List.getElem_cons_zero, List.setIfInBounds_toArray, List.set_cons_zero, List.set_cons_succ]
              refine wpAnyH_take (i := 14) (v := ?v14) rfl (by kernel_rfl) (by kernel_rfl) (by kernel_rfl) (fun _ _ _ h => h) (Or.inl ⟨by kernel_rfl, ?y14⟩) (by assumption) ?_
              case y14 => (intro w hSw; (try dsimp only at hSw); go_simp; all_goals with_reducible rfl)
              try simp only [Act.put, List.getElem_toArray, List.getElem_cons_succ, List.getElem_cons_zero, List.setIfInBounds_toArray, List.set_cons_zero, List.set_cons_succ]
              refine wpAnyH_ready (rs := [16]) (by kernel_rfl) (by simp) (AllReadyH.cons rfl (fun K hK => ?_) AllReadyH.nil)
              refine st_bt_step rfl (.tmp 13) (.tmp 117) rfl _ rfl rfl (by simp [Value.oneCell']) MX.out rfl ?_
              intro x16 hb2 f16
              have f : Fr (fun q => wz.heap.size ≤ q) x10 x16 := f16.mono (fun i _ e => by rw [e]; exact HMB15.out)
              have FW := kfB f hHeld.2.2.2.2.2.2.2.2
              have XS := hid (rdS_lo3 XS.out f16 (fun h0 g o hA e => HXM.out h0 g o hA e))
              have DS := hid (rd_lo3 DS.out f16 (fun h0 g o hA e => rd_ne MX.out DS.out h0 g o hA e))
              have MX := hid hb2
              clear hb2 f16
              refine hK.out _ _ ?_ (fun hHeld => ?_)
              · (try dsimp only); (first | (go_split_ands; exact ⟨kc f (by assumption), kc f (by assumption), kc f (by assumption), kc f (by assumption), kc f (by assumption), kc f (by assumption), kc f (by assumption), kc f (by assumption), by assumption⟩) | (go_split_ands; exact ⟨(by assumption), (by assumption), (by assumption), (by assumption), (by assumption), (by assumption), (by assumption), (by assumption), by assumption⟩) | (go_split_ands; exact ⟨kc (fr1 _ _) (by assumption), kc (fr1 _ _) (by assumption), kc (fr1 _ _) (by assumption), kc (fr1 _ _) (by assumption), kc (fr1 _ _) (by assumption), kc (fr1 _ _) (by assumption), kc (fr1 _ _) (by assumption), kc (fr1 _ _) (by assumption), kfa (by assumption)⟩) | (exact ⟨kc f hHeld.1, kc f hHeld.2.1, kc f hHeld.2.2.1, kc f hHeld.2.2.2.1, kc f hHeld.2.2.2.2.1, kc f hHeld.2.2.2.2.2.1, kc f hHeld.2.2.2.2.2.2.1, kc f hHeld.2.2.2.2.2.2.2.1, FW⟩) | (exact ⟨kcB f HG0.out hHeld.1, kcB f HG0.out hHeld.2.1, kcB f HG0.out hHeld.2.2.1, kcB f HG0.out hHeld.2.2.2.1, kcB f HG0.out hHeld.2.2.2.2.1, kcB f HG1.out hHeld.2.2.2.2.2.1, kcB f HG1.out hHeld.2.2.2.2.2.2.1, kcB f HG1.out hHeld.2.2.2.2.2.2.2.1, FW⟩))
              clear hK K
              try simp only [Act.put, List.getElem_toArray, List.getElem_cons_succ, List.getElem_cons_zero]
              refine wpAnyH_take (i := 17) (v := ?v15) rfl (by kernel_rfl) (by kernel_rfl) (by kernel_rfl) (fun _ _ _ h => h) (Or.inl ⟨by kernel_rfl, ?y15⟩) (by assumption) ?_
              case y15 => (intro w hSw; (try dsimp only at hSw); go_simp; all_goals with_reducible rfl)
              try simp only [Act.put, List.getElem_toArray, List.getElem_cons_succ, List.getElem_cons_zero, List.setIfInBounds_toArray, List.set_cons_zero, List.set_cons_succ]
              refine wpAnyH_take (i := 18) (v := ?v16) rfl (by kernel_rfl) (by kernel_rfl) (by kernel_rfl) (fun _ _ _ h => h) (Or.inl ⟨by kernel_rfl, ?y16⟩) (by assumption) ?_
              case y16 => (intro w hSw; (try dsimp only at hSw); go_simp; all_goals with_reducible rfl)
              try simp only [Act.put, List.getElem_toArray, List.getElem_cons_succ, List.getElem_cons_zero, List.setIfInBounds_toArray, List.set_cons_zero, List.set_cons_succ]
              refine wpAnyH_done (by kernel_rfl) ?_ _
              refine NoPanic.normal ?_
              have FX := hHeld.2.2.2.2.2.2.2.2
              clear hHeld
              go_wp2_with fail
              go_meet
              case rel => (try refine ⟨_, _, _, ?_, rfl, rfl, rfl⟩); exact ⟨_, A10, c10, D10, d10, rfl, rfl, rfl, MX.out, HMB15.out, XS.out, (by have h9 := DS.out; rw [HZL.out] at h9; exact h9), FX.out⟩
          · go_simp
            have HMB15 := hid (show wz.heap.size ≤ x8.heap.size from (hHeld.2.2.2.2.2.2.2.2).out.size)
            obtain ⟨x15, hx15⟩ : ∃ x, World.alloc x8 (Obj.cells #[.int .i64 0, .int .i64 0, .slice none 0 0] 26) = x := ⟨_, rfl⟩
            try rw [hx15]
            have f : Fr No x8 x15 := by rw [← hx15]; exact fr1 _ _
            have FW := kf f hHeld.2.2.2.2.2.2.2.2
            have O3 := hid (OB.fr O3.out f)
            have RF := hid (RF.out.fr f (fun _ _ _ h => h))
            have MX := hid (show Blk x15 x8.heap.size 26 #[.int .i64 0, .int .i64 0, .slice none 0 0] by rw [← hx15]; exact Blk.new _ _ _)
            have HML := hid (show x8.heap.size < x15.heap.size from Blk.lt MX.out)
            clear hx15
            refine hK.out _ _ ?_ (fun hHeld => ?_)
            · (try dsimp only); (first | (go_split_ands; exact ⟨kc f (by assumption), kc f (by assumption), kc f (by assumption), kc f (by assumption), kc f (by assumption), kc f (by assumption), kc f (by assumption), kc f (by assumption), by assumption⟩) | (go_split_ands; exact ⟨(by assumption), (by assumption), (by assumption), (by assumption), (by assumption), (by assumption), (by assumption), (by assumption), by assumption⟩) | (go_split_ands; exact ⟨kc (fr1 _ _) (by assumption), kc (fr1 _ _) (by assumption), kc (fr1 _ _) (by assumption), kc (fr1 _ _) (by assumption), kc (fr1 _ _) (by assumption), kc (fr1 _ _) (by assumption), kc (fr1 _ _) (by assumption), kc (fr1 _ _) (by assumption), kfa (by assumption)⟩) | (exact ⟨kc f hHeld.1, kc f hHeld.2.1, kc f hHeld.2.2.1, kc f hHeld.2.2.2.1, kc f hHeld.2.2.2.2.1, kc f hHeld.2.2.2.2.2.1, kc f hHeld.2.2.2.2.2.2.1, kc f hHeld.2.2.2.2.2.2.2.1, FW⟩) | (exact ⟨kcB f HG0.out hHeld.1, kcB f HG0.out hHeld.2.1, kcB f HG0.out hHeld.2.2.1, kcB f HG0.out hHeld.2.2.2.1, kcB f HG0.out hHeld.2.2.2.2.1, kcB f HG1.out hHeld.2.2.2.2.2.1, kcB f HG1.out hHeld.2.2.2.2.2.2.1, kcB f HG1.out hHeld.2.2.2.2.2.2.2.1, FW⟩))
            clear hK K
            try simp only [Act.put, List.getElem_toArray, List.getElem_cons_succ, List.getElem_cons_zero, List.setIfInBounds_toArray, List.set_cons_zero, List.set_cons_succ]
            refine wpAnyH_ready (rs := [9]) (by kernel_rfl) (by simp) (AllReadyH.cons rfl (fun K hK => ?_) AllReadyH.nil)
            refine app_bs rfl (.tmp 109) (.tmp 114) rfl wz.heap.size _ S rfl O3.out Af (BtN.fill b R3).length cf (BtN.fill b R3) rfl RF.out (by have := HSL.out; have := HSM.out; have := HZL.out; have := HR3.out; rw [BtN.fill_len]; omega) (show wz.heap.size ≤ x15.heap.size from (hHeld.2.2.2.2.2.2.2.2).out.size) ?_
            intro A9 c9 x9 o9 f9
            have f : Fr (fun q => wz.heap.size ≤ q) x15 x9 := frOB O3.out f9
            have FW := kfB f hHeld.2.2.2.2.2.2.2.2
            have MX := hid (blk_own MX.out O3.out f9)
            have HML := hid (Nat.lt_of_lt_of_le HML.out f.size)
            have O9 := hid o9
            clear o9 f9
            refine hK.out _ _ ?_ (fun hHeld => ?_)
            · (try dsimp only); (first | (go_split_ands; exact ⟨kc f (by assumption), kc f (by assumption), kc f (by assumption), kc f (by assumption), kc f (by assumption), kc f (by assumption), kc f (by assumption), kc f (by assumption), by assumption⟩) | (go_split_ands; exact ⟨(by assumption), (by assumption), (by assumption), (by assumption), (by assumption), (by assumption), (by assumption), (by assumption), by assumption⟩) | (go_split_ands; exact ⟨kc (fr1 _ _) (by assumption), kc (fr1 _ _) (by assumption), kc (fr1 _ _) (by assumption), kc (fr1 _ _) (by assumption), kc (fr1 _ _) (by assumption), kc (fr1 _ _) (by assumption), kc (fr1 _ _) (by assumption), kc (fr1 _ _) (by assumption), kfa (by assumption)⟩) | (exact ⟨kc f hHeld.1, kc f hHeld.2.1, kc f hHeld.2.2.1, kc f hHeld.2.2.2.1, kc f hHeld.2.2.2.2.1, kc f hHeld.2.2.2.2.2.1, kc f hHeld.2.2.2.2.2.2.1, kc f hHeld.2.2.2.2.2.2.2.1, FW⟩) | (exact ⟨kcB f HG0.out hHeld.1, kcB f HG0.out hHeld.2.1, kcB f HG0.out hHeld.2.2.1, kcB f HG0.out hHeld.2.2.2.1, kcB f HG0.out hHeld.2.2.2.2.1, kcB f HG1.out hHeld.2.2.2.2.2.1, kcB f HG1.out hHeld.2.2.2.2.2.2.1, kcB f HG1.out hHeld.2.2.2.2.2.2.2.1, FW⟩))
            clear hK K
            try simp only [Act.put, List.getElem_toArray, List.getElem_cons_succ, List.getElem_cons_zero, List.setIfInBounds_toArray, List.set_cons_zero, List.set_cons_succ]
            refine wpAnyH_ready (rs := [10]) (by kernel_rfl) (by simp) (AllReadyH.cons rfl (fun K hK => ?_) AllReadyH.nil)
            go_simp
            go_at_call 12
            refine (dec_y gc gs gn gl gk A9 (S.length + (BtN.fill b R3).length) c9 (S ++ BtN.fill b R3) _ q k xs zs HS.out HM.out ⟨OB.rd (by rw [List.length_append]) O9.out, by have := (OB.lim O9.out).1; rw [List.length_append] at this; exact this, (OB.lim O9.out).2, fun x hx => (List.mem_append.1 hx).elim (HSB.out.2.2.2 x) (BtN.fill_u8 HB8.out R3 x)⟩ (HT.out.fr (FG.out.trans (hHeld.2.2.2.2.2.2.2.2).out) (fun h => h)) HBG.out).mono ?_
            rintro e x10 ⟨A10, c10, D10, d10, rfl, hxs, hfr, hds, f⟩
            have FW := kf f hHeld.2.2.2.2.2.2.2.2
            have HXM := hid (fun (_ : 0 < xs.length) g o (h : A10 = some ⟨g, o, none⟩) => (show g ≠ x8.heap.size by have q1 := hfr g o h; have q2 := HML.out; omega))
            have O9 := hid (OB.fr O9.out f)
            have MX := hid (Blk.fr MX.out f (fun h => h))
            have HML := hid (Nat.lt_of_lt_of_le HML.out f.size)
            have XS := hid hxs
            have DS := hid hds
            clear hxs hfr hds
            dsimp only
            refine hK.out _ _ ?_ (fun hHeld => ?_)
            · (try dsimp only); (first | (go_split_ands; exact ⟨kc f (by assumption), kc f (by assumption), kc f (by assumption), kc f (by assumption), kc f (by assumption), kc f (by assumption), kc f (by assumption), kc f (by assumption), by assumption⟩) | (go_split_ands; exact ⟨(by assumption), (by assumption), (by assumption), (by assumption), (by assumption), (by assumption), (by assumption), (by assumption), by assumption⟩) | (go_split_ands; exact ⟨kc (fr1 _ _) (by assumption), kc (fr1 _ _) (by assumption), kc (fr1 _ _) (by assumption), kc (fr1 _ _) (by assumption), kc (fr1 _ _) (by assumption), kc (fr1 _ _) (by assumption), kc (fr1 _ _) (by assumption), kc (fr1 _ _) (by assumption), kfa (by assumption)⟩) | (exact ⟨kc f hHeld.1, kc f hHeld.2.1, kc f hHeld.2.2.1, kc f hHeld.2.2.2.1, kc f hHeld.2.2.2.2.1, kc f hHeld.2.2.2.2.2.1, kc f hHeld.2.2.2.2.2.2.1, kc f hHeld.2.2.2.2.2.2.2.1, FW⟩) | (exact ⟨kcB f HG0.out hHeld.1, kcB f HG0.out hHeld.2.1, kcB f HG0.out hHeld.2.2.1, kcB f HG0.out hHeld.2.2.2.1, kcB f HG0.out hHeld.2.2.2.2.1, kcB f HG1.out hHeld.2.2.2.2.2.1, kcB f HG1.out hHeld.2.2.2.2.2.2.1, kcB f HG1.out hHeld.2.2.2.2.2.2.2.1, FW⟩))
            clear hK K
            try simp only [Act.put, List.getElem_toArray, List.getElem_cons_succ, List.getElem_cons_zero, List.setIfInBounds_toArray, List.set_cons_zero, List.set_cons_succ]
            refine wpAnyH_take (i := 11) (v := ?v17) rfl (by kernel_rfl) (by kernel_rfl) (by kernel_rfl) (fun _ _ _ h => h) (Or.inl ⟨by kernel_rfl, ?y17⟩) (by assumption) ?_
            case y17 => (intro w hSw; (try dsimp only at hSw); go_simp; all_goals with_reducible rfl)
            try simp only [Act.put, List.getElem_toArray, List.getElem_cons_succ, List.getElem_cons_zero, List.setIfInBounds_toArray, List.set_cons_zero, List.set_cons_succ]
            refine wpAnyH_take (i := 12) (v := ?v18) rfl (by kernel_rfl) (by kernel_rfl) (by kernel_rfl) (fun _ _ _ h => h) (Or.inl ⟨by kernel_rfl, ?y18⟩) (by assumption) ?_
            case y18 => (intro w hSw; (try dsimp only at hSw); go_simp; all_goals with_reducible rfl)
            try simp only [Act.put, List.getElem_toArray, List.getElem_cons_succ, List.getElem_cons_zero, List.setIfInBounds_toArray, List.set_cons_zero, List.set_cons_succ]
            refine wpAnyH_take (i := 13) (v := ?v19) rfl (by kernel_rfl) (by kernel_rfl) (by kernel_rfl) (fun _ _ _ h => h) (Or.inl ⟨by kernel_rfl, ?y19⟩) (by assumption) ?_
            case y19 => (intro w hSw; (try dsimp only at hSw); go_simp; all_goals with_reducible rfl)
            try simp only [Act.put, List.getElem_toArray, List.getElem_cons_succ, List.getElem_cons_zero, List.setIfInBounds_toArray, List.set_cons_zero, List.set_cons_succ]
            refine wpAnyH_take (i := 14) (v := ?v20) rfl (by kernel_rfl) (by kernel_rfl) (by kernel_rfl) (fun _ _ _ h => h) (Or.inl ⟨by kernel_rfl, ?y20⟩) (by assumption) ?_
            case y20 => (intro w hSw; (try dsimp only at hSw); go_simp; all_goals with_reducible rfl)
            try simp only [Act.put, List.getElem_toArray, List.getElem_cons_succ, List.getElem_cons_zero, List.setIfInBounds_toArray, List.set_cons_zero, List.set_cons_succ]
            refine wpAnyH_ready (rs := [16]) (by kernel_rfl) (by simp) (AllReadyH.cons rfl (fun K hK => ?_) AllReadyH.nil)
            refine st_bt_step rfl (.tmp 13) (.tmp 117) rfl _ rfl rfl (by simp [Value.oneCell']) MX.out rfl ?_
            intro x16 hb2 f16
            have f : Fr (fun q => wz.heap.size ≤ q) x10 x16 := f16.mono (fun i _ e => by rw [e]; exact HMB15.out)
            have FW := kfB f hHeld.2.2.2.2.2.2.2.2
            have XS := hid (rdS_lo3 XS.out f16 (fun h0 g o hA e => HXM.out h0 g o hA e))
            have DS := hid (rd_lo3 DS.out f16 (fun h0 g o hA e => rd_ne MX.out DS.out h0 g o hA e))
            have MX := hid hb2
            clear hb2 f16
            refine hK.out _ _ ?_ (fun hHeld => ?_)
            · (try dsimp only); (first | (go_split_ands; exact ⟨kc f (by assumption), kc f (by assumption), kc f (by assumption), kc f (by assumption), kc f (by assumption), kc f (by assumption), kc f (by assumption), kc f (by assumption), by assumption⟩) | (go_split_ands; exact ⟨(by assumption), (by assumption), (by assumption), (by assumption), (by assumption), (by assumption), (by assumption), (by assumption), by assumption⟩) | (go_split_ands; exact ⟨kc (fr1 _ _) (by assumption), kc (fr1 _ _) (by assumption), kc (fr1 _ _) (by assumption), kc (fr1 _ _) (by assumption), kc (fr1 _ _) (by assumption), kc (fr1 _ _) (by assumption), kc (fr1 _ _) (by assumption), kc (fr1 _ _) (by assumption), kfa (by assumption)⟩) | (exact ⟨kc f hHeld.1, kc f hHeld.2.1, kc f hHeld.2.2.1, kc f hHeld.2.2.2.1, kc f hHeld.2.2.2.2.1, kc f hHeld.2.2.2.2.2.1, kc f hHeld.2.2.2.2.2.2.1, kc f hHeld.2.2.2.2.2.2.2.1, FW⟩) | (exact ⟨kcB f HG0.out hHeld.1, kcB f HG0.out hHeld.2.1, kcB f HG0.out hHeld.2.2.1, kcB f HG0.out hHeld.2.2.2.1, kcB f HG0.out hHeld.2.2.2.2.1, kcB f HG1.out hHeld.2.2.2.2.2.1, kcB f HG1.out hHeld.2.2.2.2.2.2.1, kcB f HG1.out hHeld.2.2.2.2.2.2.2.1, FW⟩))
            clear hK K
            try simp only [Act.put, List.getElem_toArray, List.getElem_cons_succ, List.getElem_cons_zero]
            refine wpAnyH_take (i := 17) (v := ?v21) rfl (by kernel_rfl) (by kernel_rfl) (by kernel_rfl) (fun _ _ _ h => h) (Or.inl ⟨by kernel_rfl, ?y21⟩) (by assumption) ?_
            case y21 => (intro w hSw; (try dsimp only at hSw); go_simp; all_goals with_reducible rfl)
            try simp only [Act.put, List.getElem_toArray, List.getElem_cons_succ, List.getElem_cons_zero, List.setIfInBounds_toArray, List.set_cons_zero, List.set_cons_succ]
            refine wpAnyH_take (i := 18) (v := ?v22) rfl (by kernel_rfl) (by kernel_rfl) (by kernel_rfl) (fun _ _ _ h => h) (Or.inl ⟨by kernel_rfl, ?y22⟩) (by assumption) ?_
            case y22 => (intro w hSw; (try dsimp only at hSw); go_simp; all_goals with_reducible rfl)
            try simp only [Act.put, List.getElem_toArray, List.getElem_cons_succ, List.getElem_cons_zero, List.setIfInBounds_toArray, List.set_cons_zero, List.set_cons_succ]
            refine wpAnyH_done (by kernel_rfl) ?_ _
            refine NoPanic.normal ?_
            have FX := hHeld.2.2.2.2.2.2.2.2
            clear hHeld
            go_wp2_with fail
            go_meet
            case rel => (try refine ⟨_, _, _, ?_, rfl, rfl, rfl⟩); exact ⟨_, A10, c10, D10, d10, rfl, rfl, rfl, MX.out, HMB15.out, XS.out, (by have h9 := DS.out; rw [HZL.out] at h9; exact h9), FX.out⟩
        · go_simp
          have HMB15 := hid (show wz.heap.size ≤ x3.heap.size from (hHeld.2.2.2.2.2.2.2.2).out.size)
          obtain ⟨x15, hx15⟩ : ∃ x, World.alloc x3 (Obj.cells #[.int .i64 0, .int .i64 0, .slice none 0 0] 26) = x := ⟨_, rfl⟩
          try rw [hx15]
          have f : Fr No x3 x15 := by rw [← hx15]; exact fr1 _ _
          have FW := kf f hHeld.2.2.2.2.2.2.2.2
          have O3 := hid (OB.fr O3.out f)
          have MX := hid (show Blk x15 x3.heap.size 26 #[.int .i64 0, .int .i64 0, .slice none 0 0] by rw [← hx15]; exact Blk.new _ _ _)
          have HML := hid (show x3.heap.size < x15.heap.size from Blk.lt MX.out)
          clear hx15
          refine hK.out _ _ ?_ (fun hHeld => ?_)
          · (try dsimp only); (first | (go_split_ands; exact ⟨kc f (by assumption), kc f (by assumption), kc f (by assumption), kc f (by assumption), kc f (by assumption), kc f (by assumption), kc f (by assumption), kc f (by assumption), by assumption⟩) | (go_split_ands; exact ⟨(by assumption), (by assumption), (by assumption), (by assumption), (by assumption), (by assumption), (by assumption), (by assumption), by assumption⟩) | (go_split_ands; exact ⟨kc (fr1 _ _) (by assumption), kc (fr1 _ _) (by assumption), kc (fr1 _ _) (by assumption), kc (fr1 _ _) (by assumption), kc (fr1 _ _) (by assumption), kc (fr1 _ _) (by assumption), kc (fr1 _ _) (by assumption), kc (fr1 _ _) (by assumption), kfa (by assumption)⟩) | (exact ⟨kc f hHeld.1, kc f hHeld.2.1, kc f hHeld.2.2.1, kc f hHeld.2.2.2.1, kc f hHeld.2.2.2.2.1, kc f hHeld.2.2.2.2.2.1, kc f hHeld.2.2.2.2.2.2.1, kc f hHeld.2.2.2.2.2.2.2.1, FW⟩) | (exact ⟨kcB f HG0.out hHeld.1, kcB f HG0.out hHeld.2.1, kcB f HG0.out hHeld.2.2.1, kcB f HG0.out hHeld.2.2.2.1, kcB f HG0.out hHeld.2.2.2.2.1, kcB f HG1.out hHeld.2.2.2.2.2.1, kcB f HG1.out hHeld.2.2.2.2.2.2.1, kcB f HG1.out hHeld.2.2.2.2.2.2.2.1, FW⟩))
          clear hK K
          try simp only [Act.put, List.getElem_toArray, List.getElem_cons_succ, List.getElem_cons_zero, List.setIfInBounds_toArray, List.set_cons_zero, List.set_cons_succ]
          refine wpAnyH_ready (rs := [8]) (by kernel_rfl) (by simp) (AllReadyH.cons rfl (fun K hK => ?_) AllReadyH.nil)
          go_simp
          go_at_call 13
          refine (BtN.fill_ok b R3 _ HB8.out (by have := HR3.out; omega)).mono ?_
          rintro e x8 ⟨Af, cf, rfl, rf, lf, f⟩
          have FW := kf f hHeld.2.2.2.2.2.2.2.2
          have O3 := hid (OB.fr O3.out f)
          have MX := hid (Blk.fr MX.out f (fun h => h))
          have HML := hid (Nat.lt_of_lt_of_le HML.out f.size)
          have RF := hid rf
          clear rf lf
          dsimp only
          refine hK.out _ _ ?_ (fun hHeld => ?_)
          · (try dsimp only); (first | (go_split_ands; exact ⟨kc f (by assumption), kc f (by assumption), kc f (by assumption), kc f (by assumption), kc f (by assumption), kc f (by assumption), kc f (by assumption), kc f (by assumption), by assumption⟩) | (go_split_ands; exact ⟨(by assumption), (by assumption), (by assumption), (by assumption), (by assumption), (by assumption), (by assumption), (by assumption), by assumption⟩) | (go_split_ands; exact ⟨kc (fr1 _ _) (by assumption), kc (fr1 _ _) (by assumption), kc (fr1 _ _) (by assumption), kc (fr1 _ _) (by assumption), kc (fr1 _ _) (by assumption), kc (fr1 _ _) (by assumption), kc (fr1 _ _) (by assumption), kc (fr1 _ _) (by assumption), kfa (by assumption)⟩) | (exact ⟨kc f hHeld.1, kc f hHeld.2.1, kc f hHeld.2.2.1, kc f hHeld.2.2.2.1, kc f hHeld.2.2.2.2.1, kc f hHeld.2.2.2.2.2.1, kc f hHeld.2.2.2.2.2.2.1, kc f hHeld.2.2.2.2.2.2.2.1, FW⟩) | (exact ⟨kcB f HG0.out hHeld.1, kcB f HG0.out hHeld.2.1, kcB f HG0.out hHeld.2.2.1, kcB f HG0.out hHeld.2.2.2.1, kcB f HG0.out hHeld.2.2.2.2.1, kcB f HG1.out hHeld.2.2.2.2.2.1, kcB f HG1.out hHeld.2.2.2.2.2.2.1, kcB f HG1.out hHeld.2.2.2.2.2.2.2.1, FW⟩))
          clear hK K
          try simp only [Act.put, List.getElem_toArray, List.getElem_cons_succ, List.getElem_cons_zero, List.setIfInBounds_toArray, List.set_cons_zero, List.set_cons_succ]
          refine wpAnyH_ready (rs := [9]) (by kernel_rfl) (by simp) (AllReadyH.cons rfl (fun K hK => ?_) AllReadyH.nil)
          refine app_bs rfl (.tmp 109) (.tmp 114) rfl wz.heap.size _ S rfl O3.out Af (BtN.fill b R3).length cf (BtN.fill b R3) rfl RF.out (by have := HSL.out; have := HSM.out; have := HZL.out; have := HR3.out; rw [BtN.fill_len]; omega) (show wz.heap.size ≤ x8.heap.size from (hHeld.2.2.2.2.2.2.2.2).out.size) ?_
          intro A9 c9 x9 o9 f9
          have f : Fr (fun q => wz.heap.size ≤ q) x8 x9 := frOB O3.out f9
          have FW := kfB f hHeld.2.2.2.2.2.2.2.2
          have MX := hid (blk_own MX.out O3.out f9)
          have HML := hid (Nat.lt_of_lt_of_le HML.out f.size)
          have O9 := hid o9
          clear o9 f9
          refine hK.out _ _ ?_ (fun hHeld => ?_)
          · (try dsimp only); (first | (go_split_ands; exact ⟨kc f (by assumption), kc f (by assumption), kc f (by assumption), kc f (by assumption), kc f (by assumption), kc f (by assumption), kc f (by assumption), kc f (by assumption), by assumption⟩) | (go_split_ands; exact ⟨(by assumption), (by assumption), (by assumption), (by assumption), (by assumption), (by assumption), (by assumption), (by assumption), by assumption⟩) | (go_split_ands; exact ⟨kc (fr1 _ _) (by assumption), kc (fr1 _ _) (by assumption), kc (fr1 _ _) (by assumption), kc (fr1 _ _) (by assumption), kc (fr1 _ _) (by assumption), kc (fr1 _ _) (by assumption), kc (fr1 _ _) (by assumption), kc (fr1 _ _) (by assumption), kfa (by assumption)⟩) | (exact ⟨kc f hHeld.1, kc f hHeld.2.1, kc f hHeld.2.2.1, kc f hHeld.2.2.2.1, kc f hHeld.2.2.2.2.1, kc f hHeld.2.2.2.2.2.1, kc f hHeld.2.2.2.2.2.2.1, kc f hHeld.2.2.2.2.2.2.2.1, FW⟩) | (exact ⟨kcB f HG0.out hHeld.1, kcB f HG0.out hHeld.2.1, kcB f HG0.out hHeld.2.2.1, kcB f HG0.out hHeld.2.2.2.1, kcB f HG0.out hHeld.2.2.2.2.1, kcB f HG1.out hHeld.2.2.2.2.2.1, kcB f HG1.out hHeld.2.2.2.2.2.2.1, kcB f HG1.out hHeld.2.2.2.2.2.2.2.1, FW⟩))
          clear hK K
          try simp only [Act.put, List.getElem_toArray, List.getElem_cons_succ, List.getElem_cons_zero, List.setIfInBounds_toArray, List.set_cons_zero, List.set_cons_succ]
          refine wpAnyH_ready (rs := [10]) (by kernel_rfl) (by simp) (AllReadyH.cons rfl (fun K hK => ?_) AllReadyH.nil)
          go_simp
          go_at_call 12
          refine (dec_y gc gs gn gl gk A9 (S.length + (BtN.fill b R3).length) c9 (S ++ BtN.fill b R3) _ q k xs zs HS.out HM.out ⟨OB.rd (by rw [List.length_append]) O9.out, by have := (OB.lim O9.out).1; rw [List.length_append] at this; exact this, (OB.lim O9.out).2, fun x hx => (List.mem_append.1 hx).elim (HSB.out.2.2.2 x) (BtN.fill_u8 HB8.out R3 x)⟩ (HT.out.fr (FG.out.trans (hHeld.2.2.2.2.2.2.2.2).out) (fun h => h)) HBG.out).mono ?_
          rintro e x10 ⟨A10, c10, D10, d10, rfl, hxs, hfr, hds, f⟩
          have FW := kf f hHeld.2.2.2.2.2.2.2.2
          have HXM := hid (fun (_ : 0 < xs.length) g o (h : A10 = some ⟨g, o, none⟩) => (show g ≠ x3.heap.size by have q1 := hfr g o h; have q2 := HML.out; omega))
          have O9 := hid (OB.fr O9.out f)
          have MX := hid (Blk.fr MX.out f (fun h => h))
          have HML := hid (Nat.lt_of_lt_of_le HML.out f.size)
          have XS := hid hxs
          have DS := hid hds
          clear hxs hfr hds
          dsimp only
          refine hK.out _ _ ?_ (fun hHeld => ?_)
          · (try dsimp only); (first | (go_split_ands; exact ⟨kc f (by assumption), kc f (by assumption), kc f (by assumption), kc f (by assumption), kc f (by assumption), kc f (by assumption), kc f (by assumption), kc f (by assumption), by assumption⟩) | (go_split_ands; exact ⟨(by assumption), (by assumption), (by assumption), (by assumption), (by assumption), (by assumption), (by assumption), (by assumption), by assumption⟩) | (go_split_ands; exact ⟨kc (fr1 _ _) (by assumption), kc (fr1 _ _) (by assumption), kc (fr1 _ _) (by assumption), kc (fr1 _ _) (by assumption), kc (fr1 _ _) (by assumption), kc (fr1 _ _) (by assumption), kc (fr1 _ _) (by assumption), kc (fr1 _ _) (by assumption), kfa (by assumption)⟩) | (exact ⟨kc f hHeld.1, kc f hHeld.2.1, kc f hHeld.2.2.1, kc f hHeld.2.2.2.1, kc f hHeld.2.2.2.2.1, kc f hHeld.2.2.2.2.2.1, kc f hHeld.2.2.2.2.2.2.1, kc f hHeld.2.2.2.2.2.2.2.1, FW⟩) | (exact ⟨kcB f HG0.out hHeld.1, kcB f HG0.out hHeld.2.1, kcB f HG0.out hHeld.2.2.1, kcB f HG0.out hHeld.2.2.2.1, kcB f HG0.out hHeld.2.2.2.2.1, kcB f HG1.out hHeld.2.2.2.2.2.1, kcB f HG1.out hHeld.2.2.2.2.2.2.1, kcB f HG1.out hHeld.2.2.2.2.2.2.2.1, FW⟩))
          clear hK K
          try simp only [Act.put, List.getElem_toArray, List.getElem_cons_succ, List.getElem_cons_zero, List.setIfInBounds_toArray, List.set_cons_zero, List.set_cons_succ]
          refine wpAnyH_take (i := 11) (v := ?v23) rfl (by kernel_rfl) (by kernel_rfl) (by kernel_rfl) (fun _ _ _ h => h) (Or.inl ⟨by kernel_rfl, ?y23⟩) (by assumption) ?_
          case y23 => (intro w hSw; (try dsimp only at hSw); go_simp; all_goals with_reducible rfl)
          try simp only [Act.put, List.getElem_toArray, List.getElem_cons_succ, List.getElem_cons_zero, List.setIfInBounds_toArray, List.set_cons_zero, List.set_cons_succ]
          refine wpAnyH_take (i := 12) (v := ?v24) rfl (by kernel_rfl) (by kernel_rfl) (by kernel_rfl) (fun _ _ _ h => h) (Or.inl ⟨by kernel_rfl, ?y24⟩) (by assumption) ?_
          case y24 => (intro w hSw; (try dsimp only at hSw); go_simp; all_goals with_reducible rfl)
          try simp only [Act.put, List.getElem_toArray, List.getElem_cons_succ, List.getElem_cons_zero, List.setIfInBounds_toArray, List.set_cons_zero, List.set_cons_succ]
          refine wpAnyH_take (i := 13) (v := ?v25) rfl (by kernel_rfl) (by kernel_rfl) (by kernel_rfl) (fun _ _ _ h => h) (Or.inl ⟨by kernel_rfl, ?y25⟩) (by assumption) ?_
          case y25 => (intro w hSw; (try dsimp only at hSw); go_simp; all_goals with_reducible rfl)
          try simp only [Act.put, List.getElem_toArray, List.getElem_cons_succ, List.getElem_cons_zero, List.setIfInBounds_toArray, List.set_cons_zero, List.set_cons_succ]
          refine wpAnyH_take (i := 14) (v := ?v26) rfl (by kernel_rfl) (by kernel_rfl) (by kernel_rfl) (fun _ _ _ h => h) (Or.inl ⟨by kernel_rfl, ?y26⟩) (by assumption) ?_
          case y26 => (intro w hSw; (try dsimp only at hSw); go_simp; all_goals with_reducible rfl)
          try simp only [Act.put, List.getElem_toArray, List.getElem_cons_succ, List.getElem_cons_zero, List.setIfInBounds_toArray, List.set_cons_zero, List.set_cons_succ]
          refine wpAnyH_ready (rs := [16]) (by kernel_rfl) (by simp) (AllReadyH.cons rfl (fun K hK => ?_) AllReadyH.nil)
          refine st_bt_step rfl (.tmp 13) (.tmp 117) rfl _ rfl rfl (by simp [Value.oneCell']) MX.out rfl ?_
          intro x16 hb2 f16
          have f : Fr (fun q => wz.heap.size ≤ q) x10 x16 := f16.mono (fun i _ e => by rw [e]; exact HMB15.out)
          have FW := kfB f hHeld.2.2.2.2.2.2.2.2
          have XS := hid (rdS_lo3 XS.out f16 (fun h0 g o hA e => HXM.out h0 g o hA e))
          have DS := hid (rd_lo3 DS.out f16 (fun h0 g o hA e => rd_ne MX.out DS.out h0 g o hA e))
          have MX := hid hb2
          clear hb2 f16
          refine hK.out _ _ ?_ (fun hHeld => ?_)
          · (try dsimp only); (first | (go_split_ands; exact ⟨kc f (by assumption), kc f (by assumption), kc f (by assumption), kc f (by assumption), kc f (by assumption), kc f (by assumption), kc f (by assumption), kc f (by assumption), by assumption⟩) | (go_split_ands; exact ⟨(by assumption), (by assumption), (by assumption), (by assumption), (by assumption), (by assumption), (by assumption), (by assumption), by assumption⟩) | (go_split_ands; exact ⟨kc (fr1 _ _) (by assumption), kc (fr1 _ _) (by assumption), kc (fr1 _ _) (by assumption), kc (fr1 _ _) (by assumption), kc (fr1 _ _) (by assumption), kc (fr1 _ _) (by assumption), kc (fr1 _ _) (by assumption), kc (fr1 _ _) (by assumption), kfa (by assumption)⟩) | (exact ⟨kc f hHeld.1, kc f hHeld.2.1, kc f hHeld.2.2.1, kc f hHeld.2.2.2.1, kc f hHeld.2.2.2.2.1, kc f hHeld.2.2.2.2.2.1, kc f hHeld.2.2.2.2.2.2.1, kc f hHeld.2.2.2.2.2.2.2.1, FW⟩) | (exact ⟨kcB f HG0.out hHeld.1, kcB f HG0.out hHeld.2.1, kcB f HG0.out hHeld.2.2.1, kcB f HG0.out hHeld.2.2.2.1, kcB f HG0.out hHeld.2.2.2.2.1, kcB f HG1.out hHeld.2.2.2.2.2.1, kcB f HG1.out hHeld.2.2.2.2.2.2.1, kcB f HG1.out hHeld.2.2.2.2.2.2.2.1, FW⟩))
          clear hK K
          try simp only [Act.put, List.getElem_toArray, List.getElem_cons_succ, List.getElem_cons_zero]
          refine wpAnyH_take (i := 17) (v := ?v27) rfl (by kernel_rfl) (by kernel_rfl) (by kernel_rfl) (fun _ _ _ h => h) (Or.inl ⟨by kernel_rfl, ?y27⟩) (by assumption) ?_
          case y27 => (intro w hSw; (try dsimp only at hSw); go_simp; all_goals with_reducible rfl)
          try simp only [Act.put, List.getElem_toArray, List.getElem_cons_succ, List.getElem_cons_zero, List.setIfInBounds_toArray, List.set_cons_zero, List.set_cons_succ]
          refine wpAnyH_take (i := 18) (v := ?v28) rfl (by kernel_rfl) (by kernel_rfl) (by kernel_rfl) (fun _ _ _ h => h) (Or.inl ⟨by kernel_rfl, ?y28⟩) (by assumption) ?_
          case y28 => (intro w hSw; (try dsimp only at hSw); go_simp; all_goals with_reducible rfl)
          try simp only [Act.put, List.getElem_toArray, List.getElem_cons_succ, List.getElem_cons_zero, List.setIfInBounds_toArray, List.set_cons_zero, List.set_cons_succ]
          refine wpAnyH_done (by kernel_rfl) ?_ _
          refine NoPanic.normal ?_
          have FX := hHeld.2.2.2.2.2.2.2.2
          clear hHeld
          go_wp2_with fail
          go_meet
          case rel => (try refine ⟨_, _, _, ?_, rfl, rfl, rfl⟩); exact ⟨_, A10, c10, D10, d10, rfl, rfl, rfl, MX.out, HMB15.out, XS.out, (by have h9 := DS.out; rw [HZL.out] at h9; exact h9), FX.out⟩
      · go_simp
        have HMB15 := hid (show wz.heap.size ≤ x1.heap.size from (hHeld.2.2.2.2.2.2.2.2).out.size)
        obtain ⟨x15, hx15⟩ : ∃ x, World.alloc x1 (Obj.cells #[.int .i64 0, .int .i64 0, .slice none 0 0] 26) = x := ⟨_, rfl⟩
        try rw [hx15]
        have f : Fr No x1 x15 := by rw [← hx15]; exact fr1 _ _
        have FW := kf f hHeld.2.2.2.2.2.2.2.2
        have O1 := hid (OB.fr O1.out f)
        have MX := hid (show Blk x15 x1.heap.size 26 #[.int .i64 0, .int .i64 0, .slice none 0 0] by rw [← hx15]; exact Blk.new _ _ _)
        have HML := hid (show x1.heap.size < x15.heap.size from Blk.lt MX.out)
        clear hx15
        refine hK.out _ _ ?_ (fun hHeld => ?_)
        · (try dsimp only); (first | (go_split_ands; exact ⟨kc f (by assumption), kc f (by assumption), kc f (by assumption), kc f (by assumption), kc f (by assumption), kc f (by assumption), kc f (by assumption), kc f (by assumption), by assumption⟩) | (go_split_ands; exact ⟨(by assumption), (by assumption), (by assumption), (by assumption), (by assumption), (by assumption), (by assumption), (by assumption), by assumption⟩) | (go_split_ands; exact ⟨kc (fr1 _ _) (by assumption), kc (fr1 _ _) (by assumption), kc (fr1 _ _) (by assumption), kc (fr1 _ _) (by assumption), kc (fr1 _ _) (by assumption), kc (fr1 _ _) (by assumption), kc (fr1 _ _) (by assumption), kc (fr1 _ _) (by assumption), kfa (by assumption)⟩) | (exact ⟨kc f hHeld.1, kc f hHeld.2.1, kc f hHeld.2.2.1, kc f hHeld.2.2.2.1, kc f hHeld.2.2.2.2.1, kc f hHeld.2.2.2.2.2.1, kc f hHeld.2.2.2.2.2.2.1, kc f hHeld.2.2.2.2.2.2.2.1, FW⟩) | (exact ⟨kcB f HG0.out hHeld.1, kcB f HG0.out hHeld.2.1, kcB f HG0.out hHeld.2.2.1, kcB f HG0.out hHeld.2.2.2.1, kcB f HG0.out hHeld.2.2.2.2.1, kcB f HG1.out hHeld.2.2.2.2.2.1, kcB f HG1.out hHeld.2.2.2.2.2.2.1, kcB f HG1.out hHeld.2.2.2.2.2.2.2.1, FW⟩))
        clear hK K
        try simp only [Act.put, List.getElem_toArray, List.getElem_cons_succ, List.getElem_cons_zero, List.setIfInBounds_toArray, List.set_cons_zero, List.set_cons_succ]
        refine wpAnyH_ready (rs := [3]) (by kernel_rfl) (by simp) (AllReadyH.cons rfl (fun K hK => ?_) AllReadyH.nil)
        refine app_bs rfl (.tmp 107) (.tmp 108) rfl wz.heap.size (.slice (some ⟨wz.drew.heap.size, 0, none⟩) 0 0) [] rfl O1.out As S.length cs S rfl (HSB.out.1.fr (hHeld.2.2.2.2.2.2.2.2).out (fun _ _ _ h => h)) (by have := HSL.out; have := HSM.out; have := HZL.out; simp; omega) (show wz.heap.size ≤ x15.heap.size from (hHeld.2.2.2.2.2.2.2.2).out.size) ?_
        intro A3 c3 x3 o3 f3
        try simp only [List.length_nil, Nat.zero_add, List.nil_append] at o3
        try simp only [List.length_nil, Nat.zero_add]
        have f : Fr (fun q => wz.heap.size ≤ q) x15 x3 := frOB O1.out f3
        have FW := kfB f hHeld.2.2.2.2.2.2.2.2
        have MX := hid (blk_own MX.out O1.out f3)
        have HML := hid (Nat.lt_of_lt_of_le HML.out f.size)
        have O3 := hid o3
        clear o3 f3
        refine hK.out _ _ ?_ (fun hHeld => ?_)
        · (try dsimp only); (first | (go_split_ands; exact ⟨kc f (by assumption), kc f (by assumption), kc f (by assumption), kc f (by assumption), kc f (by assumption), kc f (by assumption), kc f (by assumption), kc f (by assumption), by assumption⟩) | (go_split_ands; exact ⟨(by assumption), (by assumption), (by assumption), (by assumption), (by assumption), (by assumption), (by assumption), (by assumption), by assumption⟩) | (go_split_ands; exact ⟨kc (fr1 _ _) (by assumption), kc (fr1 _ _) (by assumption), kc (fr1 _ _) (by assumption), kc (fr1 _ _) (by assumption), kc (fr1 _ _) (by assumption), kc (fr1 _ _) (by assumption), kc (fr1 _ _) (by assumption), kc (fr1 _ _) (by assumption), kfa (by assumption)⟩) | (exact ⟨kc f hHeld.1, kc f hHeld.2.1, kc f hHeld.2.2.1, kc f hHeld.2.2.2.1, kc f hHeld.2.2.2.2.1, kc f hHeld.2.2.2.2.2.1, kc f hHeld.2.2.2.2.2.2.1, kc f hHeld.2.2.2.2.2.2.2.1, FW⟩) | (exact ⟨kcB f HG0.out hHeld.1, kcB f HG0.out hHeld.2.1, kcB f HG0.out hHeld.2.2.1, kcB f HG0.out hHeld.2.2.2.1, kcB f HG0.out hHeld.2.2.2.2.1, kcB f HG1.out hHeld.2.2.2.2.2.1, kcB f HG1.out hHeld.2.2.2.2.2.2.1, kcB f HG1.out hHeld.2.2.2.2.2.2.2.1, FW⟩))
        clear hK K
        try simp only [Act.put, List.getElem_toArray, List.getElem_cons_succ, List.getElem_cons_zero, List.setIfInBounds_toArray, List.set_cons_zero, List.set_cons_succ]
        refine wpAnyH_ready (rs := [8]) (by kernel_rfl) (by simp) (AllReadyH.cons rfl (fun K hK => ?_) AllReadyH.nil)
        go_simp
        go_at_call 13
        refine (BtN.fill_ok b R3 _ HB8.out (by have := HR3.out; omega)).mono ?_
        rintro e x8 ⟨Af, cf, rfl, rf, lf, f⟩
        have FW := kf f hHeld.2.2.2.2.2.2.2.2
        have O3 := hid (OB.fr O3.out f)
        have MX := hid (Blk.fr MX.out f (fun h => h))
        have HML := hid (Nat.lt_of_lt_of_le HML.out f.size)
        have RF := hid rf
        clear rf lf
        dsimp only
        refine hK.out _ _ ?_ (fun hHeld => ?_)
        · (try dsimp only); (first | (go_split_ands; exact ⟨kc f (by assumption), kc f (by assumption), kc f (by assumption), kc f (by assumption), kc f (by assumption), kc f (by assumption), kc f (by assumption), kc f (by assumption), by assumption⟩) | (go_split_ands; exact ⟨(by assumption), (by assumption), (by assumption), (by assumption), (by assumption), (by assumption), (by assumption), (by assumption), by assumption⟩) | (go_split_ands; exact ⟨kc (fr1 _ _) (by assumption), kc (fr1 _ _) (by assumption), kc (fr1 _ _) (by assumption), kc (fr1 _ _) (by assumption), kc (fr1 _ _) (by assumption), kc (fr1 _ _) (by assumption), kc (fr1 _ _) (by assumption), kc (fr1 _ _) (by assumption), kfa (by assumption)⟩) | (exact ⟨kc f hHeld.1, kc f hHeld.2.1, kc f hHeld.2.2.1, kc f hHeld.2.2.2.1, kc f hHeld.2.2.2.2.1, kc f hHeld.2.2.2.2.2.1, kc f hHeld.2.2.2.2.2.2.1, kc f hHeld.2.2.2.2.2.2.2.1, FW⟩) | (exact ⟨kcB f HG0.out hHeld.1, kcB f HG0.out hHeld.2.1, kcB f HG0.out hHeld.2.2.1, kcB f HG0.out hHeld.2.2.2.1, kcB f HG0.out hHeld.2.2.2.2.1, kcB f HG1.out hHeld.2.2.2.2.2.1, kcB f HG1.out hHeld.2.2.2.2.2.2.1, kcB f HG1.out hHeld.2.2.2.2.2.2.2.1, FW⟩))
        clear hK K
        try simp only [Act.put, List.getElem_toArray, List.getElem_cons_succ, List.getElem_cons_zero, List.setIfInBounds_toArray, List.set_cons_zero, List.set_cons_succ]
        refine wpAnyH_ready (rs := [9]) (by kernel_rfl) (by simp) (AllReadyH.cons rfl (fun K hK => ?_) AllReadyH.nil)
        refine app_bs rfl (.tmp 109) (.tmp 114) rfl wz.heap.size _ S rfl O3.out Af (BtN.fill b R3).length cf (BtN.fill b R3) rfl RF.out (by have := HSL.out; have := HSM.out; have := HZL.out; have := HR3.out; rw [BtN.fill_len]; omega) (show wz.heap.size ≤ x8.heap.size from (hHeld.2.2.2.2.2.2.2.2).out.size) ?_
        intro A9 c9 x9 o9 f9
        have f : Fr (fun q => wz.heap.size ≤ q) x8 x9 := frOB O3.out f9
        have FW := kfB f hHeld.2.2.2.2.2.2.2.2
        have MX := hid (blk_own MX.out O3.out f9)
        have HML := hid (Nat.lt_of_lt_of_le HML.out f.size)
        have O9 := hid o9
        clear o9 f9
        refine hK.out _ _ ?_ (fun hHeld => ?_)
        · (try dsimp only); (first | (go_split_ands; exact ⟨kc f (by assumption), kc f (by assumption), kc f (by assumption), kc f (by assumption), kc f (by assumption), kc f (by assumption), kc f (by assumption), kc f (by assumption), by assumption⟩) | (go_split_ands; exact ⟨(by assumption), (by assumption), (by assumption), (by assumption), (by assumption), (by assumption), (by assumption), (by assumption), by assumption⟩) | (go_split_ands; exact ⟨kc (fr1 _ _) (by assumption), kc (fr1 _ _) (by assumption), kc (fr1 _ _) (by assumption), kc (fr1 _ _) (by assumption), kc (fr1 _ _) (by assumption), kc (fr1 _ _) (by assumption), kc (fr1 _ _) (by assumption), kc (fr1 _ _) (by assumption), kfa (by assumption)⟩) | (exact ⟨kc f hHeld.1, kc f hHeld.2.1, kc f hHeld.2.2.1, kc f hHeld.2.2.2.1, kc f hHeld.2.2.2.2.1, kc f hHeld.2.2.2.2.2.1, kc f hHeld.2.2.2.2.2.2.1, kc f hHeld.2.2.2.2.2.2.2.1, FW⟩) | (exact ⟨kcB f HG0.out hHeld.1, kcB f HG0.out hHeld.2.1, kcB f HG0.out hHeld.2.2.1, kcB f HG0.out hHeld.2.2.2.1, kcB f HG0.out hHeld.2.2.2.2.1, kcB f HG1.out hHeld.2.2.2.2.2.1, kcB f HG1.out hHeld.2.2.2.2.2.2.1, kcB f HG1.out hHeld.2.2.2.2.2.2.2.1, FW⟩))
        clear hK K
        try simp only [Act.put, List.getElem_toArray, List.getElem_cons_succ, List.getElem_cons_zero, List.setIfInBounds_toArray, List.set_cons_zero, List.set_cons_succ]
        refine wpAnyH_ready (rs := [10]) (by kernel_rfl) (by simp) (AllReadyH.cons rfl (fun K hK => ?_) AllReadyH.nil)
        go_simp
        go_at_call 12
        refine (dec_y gc gs gn gl gk A9 (S.length + (BtN.fill b R3).length) c9 (S ++ BtN.fill b R3) _ q k xs zs HS.out HM.out ⟨OB.rd (by rw [List.length_append]) O9.out, by have := (OB.lim O9.out).1; rw [List.length_append] at this; exact this, (OB.lim O9.out).2, fun x hx => (List.mem_append.1 hx).elim (HSB.out.2.2.2 x) (BtN.fill_u8 HB8.out R3 x)⟩ (HT.out.fr (FG.out.trans (hHeld.2.2.2.2.2.2.2.2).out) (fun h => h)) HBG.out).mono ?_
        rintro e x10 ⟨A10, c10, D10, d10, rfl, hxs, hfr, hds, f⟩
        have FW := kf f hHeld.2.2.2.2.2.2.2.2
        have HXM := hid (fun (_ : 0 < xs.length) g o (h : A10 = some ⟨g, o, none⟩) => (show g ≠ x1.heap.size by have q1 := hfr g o h; have q2 := HML.out; omega))
        have O9 := hid (OB.fr O9.out f)
        have MX := hid (Blk.fr MX.out f (fun h => h))
        have HML := hid (Nat.lt_of_lt_of_le HML.out f.size)
        have XS := hid hxs
        have DS := hid hds
        clear hxs hfr hds
        dsimp only
        refine hK.out _ _ ?_ (fun hHeld => ?_)
        · (try dsimp only); (first | (go_split_ands; exact ⟨kc f (by assumption), kc f (by assumption), kc f (by assumption), kc f (by assumption), kc f (by assumption), kc f (by assumption), kc f (by assumption), kc f (by assumption), by assumption⟩) | (go_split_ands; exact ⟨(by assumption), (by assumption), (by assumption), (by assumption), (by assumption), (by assumption), (by assumption), (by assumption), by assumption⟩) | (go_split_ands; exact ⟨kc (fr1 _ _) (by assumption), kc (fr1 _ _) (by assumption), kc (fr1 _ _) (by assumption), kc (fr1 _ _) (by assumption), kc (fr1 _ _) (by assumption), kc (fr1 _ _) (by assumption), kc (fr1 _ _) (by assumption), kc (fr1 _ _) (by assumption), kfa (by assumption)⟩) | (exact ⟨kc f hHeld.1, kc f hHeld.2.1, kc f hHeld.2.2.1, kc f hHeld.2.2.2.1, kc f hHeld.2.2.2.2.1, kc f hHeld.2.2.2.2.2.1, kc f hHeld.2.2.2.2.2.2.1, kc f hHeld.2.2.2.2.2.2.2.1, FW⟩) | (exact ⟨kcB f HG0.out hHeld.1, kcB f HG0.out hHeld.2.1, kcB f HG0.out hHeld.2.2.1, kcB f HG0.out hHeld.2.2.2.1, kcB f HG0.out hHeld.2.2.2.2.1, kcB f HG1.out hHeld.2.2.2.2.2.1, kcB f HG1.out hHeld.2.2.2.2.2.2.1, kcB f HG1.out hHeld.2.2.2.2.2.2.2.1, FW⟩))
        clear hK K
        try simp only [Act.put, List.getElem_toArray, List.getElem_cons_succ, List.getElem_cons_zero, List.setIfInBounds_toArray, List.set_cons_zero, List.set_cons_succ]
        refine wpAnyH_take (i := 11) (v := ?v29) rfl (by kernel_rfl) (by kernel_rfl) (by kernel_rfl) (fun _ _ _ h => h) (Or.inl ⟨by kernel_rfl, ?y29⟩) (by assumption) ?_
        case y29 => (intro w hSw; (try dsimp only at hSw); go_simp; all_goals with_reducible rfl)
        try simp only [Act.put, List.getElem_toArray, List.getElem_cons_succ, List.getElem_cons_zero, List.setIfInBounds_toArray, List.set_cons_zero, List.set_cons_succ]
        refine wpAnyH_take (i := 12) (v := ?v30) rfl (by kernel_rfl) (by kernel_rfl) (by kernel_rfl) (fun _ _ _ h => h) (Or.inl ⟨by kernel_rfl, ?y30⟩) (by assumption) ?_
        case y30 => (intro w hSw; (try dsimp only at hSw); go_simp; all_goals with_reducible rfl)
        try simp only [Act.put, List.getElem_toArray, List.getElem_cons_succ, List.getElem_cons_zero, List.setIfInBounds_toArray, List.set_cons_zero, List.set_cons_succ]
        refine wpAnyH_take (i := 13) (v := ?v31) rfl (by kernel_rfl) (by kernel_rfl) (by kernel_rfl) (fun _ _ _ h => h) (Or.inl ⟨by kernel_rfl, ?y31⟩) (by assumption) ?_
        case y31 => (intro w hSw; (try dsimp only at hSw); go_simp; all_goals with_reducible rfl)
        try simp only [Act.put, List.getElem_toArray, List.getElem_cons_succ, List.getElem_cons_zero, List.setIfInBounds_toArray, List.set_cons_zero, List.set_cons_succ]
        refine wpAnyH_take (i := 14) (v := ?v32) rfl (by kernel_rfl) (by kernel_rfl) (by kernel_rfl) (fun _ _ _ h => h) (Or.inl ⟨by kernel_rfl, ?y32⟩) (by assumption) ?_
        case y32 => (intro w hSw; (try dsimp only at hSw); go_simp; all_goals with_reducible rfl)
        try simp only [Act.put, List.getElem_toArray, List.getElem_cons_succ, List.getElem_cons_zero, List.setIfInBounds_toArray, List.set_cons_zero, List.set_cons_succ]
        refine wpAnyH_ready (rs := [16]) (by kernel_rfl) (by simp) (AllReadyH.cons rfl (fun K hK => ?_) AllReadyH.nil)
        refine st_bt_step rfl (.tmp 13) (.tmp 117) rfl _ rfl rfl (by simp [Value.oneCell']) MX.out rfl ?_
        intro x16 hb2 f16
        have f : Fr (fun q => wz.heap.size ≤ q) x10 x16 := f16.mono (fun i _ e => by rw [e]; exact HMB15.out)
        have FW := kfB f hHeld.2.2.2.2.2.2.2.2
        have XS := hid (rdS_lo3 XS.out f16 (fun h0 g o hA e => HXM.out h0 g o hA e))
        have DS := hid (rd_lo3 DS.out f16 (fun h0 g o hA e => rd_ne MX.out DS.out h0 g o hA e))
        have MX := hid hb2
        clear hb2 f16
        refine hK.out _ _ ?_ (fun hHeld => ?_)
        · (try dsimp only); (first | (go_split_ands; exact ⟨kc f (by assumption), kc f (by assumption), kc f (by assumption), kc f (by assumption), kc f (by assumption), kc f (by assumption), kc f (by assumption), kc f (by assumption), by assumption⟩) | (go_split_ands; exact ⟨(by assumption), (by assumption), (by assumption), (by assumption), (by assumption), (by assumption), (by assumption), (by assumption), by assumption⟩) | (go_split_ands; exact ⟨kc (fr1 _ _) (by assumption), kc (fr1 _ _) (by assumption), kc (fr1 _ _) (by assumption), kc (fr1 _ _) (by assumption), kc (fr1 _ _) (by assumption), kc (fr1 _ _) (by assumption), kc (fr1 _ _) (by assumption), kc (fr1 _ _) (by assumption), kfa (by assumption)⟩) | (exact ⟨kc f hHeld.1, kc f hHeld.2.1, kc f hHeld.2.2.1, kc f hHeld.2.2.2.1, kc f hHeld.2.2.2.2.1, kc f hHeld.2.2.2.2.2.1, kc f hHeld.2.2.2.2.2.2.1, kc f hHeld.2.2.2.2.2.2.2.1, FW⟩) | (exact ⟨kcB f HG0.out hHeld.1, kcB f HG0.out hHeld.2.1, kcB f HG0.out hHeld.2.2.1, kcB f HG0.out hHeld.2.2.2.1, kcB f HG0.out hHeld.2.2.2.2.1, kcB f HG1.out hHeld.2.2.2.2.2.1, kcB f HG1.out hHeld.2.2.2.2.2.2.1, kcB f HG1.out hHeld.2.2.2.2.2.2.2.1, FW⟩))
        clear hK K
        try simp only [Act.put, List.getElem_toArray, List.getElem_cons_succ, List.getElem_cons_zero]
        refine wpAnyH_take (i := 17) (v := ?v33) rfl (by kernel_rfl) (by kernel_rfl) (by kernel_rfl) (fun _ _ _ h => h) (Or.inl ⟨by kernel_rfl, ?y33⟩) (by assumption) ?_
        case y33 => (intro w hSw; (try dsimp only at hSw); go_simp; all_goals with_reducible rfl)
        try simp only [Act.put, List.getElem_toArray, List.getElem_cons_succ, List.getElem_cons_zero, List.setIfInBounds_toArray, List.set_cons_zero, List.set_cons_succ]
        refine wpAnyH_take (i := 18) (v := ?v34) rfl (by kernel_rfl) (by kernel_rfl) (by kernel_rfl) (fun _ _ _ h => h) (Or.inl ⟨by kernel_rfl, ?y34⟩) (by assumption) ?_
        case y34 => (intro w hSw; (try dsimp only at hSw); go_simp; all_goals with_reducible rfl)
        try simp only [Act.put, List.getElem_toArray, List.getElem_cons_succ, List.getElem_cons_zero, List.setIfInBounds_toArray, List.set_cons_zero, List.set_cons_succ]
        refine wpAnyH_done (by kernel_rfl) ?_ _
        refine NoPanic.normal ?_
        have FX := hHeld.2.2.2.2.2.2.2.2
        clear hHeld
        go_wp2_with fail
        go_meet
        case rel => (try refine ⟨_, _, _, ?_, rfl, rfl, rfl⟩); exact ⟨_, A10, c10, D10, d10, rfl, rfl, rfl, MX.out, HMB15.out, XS.out, (by have h9 := DS.out; rw [HZL.out] at h9; exact h9), FX.out⟩
    · go_simp
      have HMB15 := hid (show wz.heap.size ≤ wz.drew.heap.size from (hHeld.2.2.2.2.2.2.2.2).out.size)
      obtain ⟨x15, hx15⟩ : ∃ x, World.drew (World.alloc wz (Obj.cells #[.int .i64 0, .int .i64 0, .slice none 0 0] 26)) = x := ⟨_, rfl⟩
      try rw [hx15]
      have f : Fr No wz.drew x15 := by rw [← hx15]; exact fr1dd _ _
      have FW := kf f hHeld.2.2.2.2.2.2.2.2
      have MX := hid (show Blk x15 wz.drew.heap.size 26 #[.int .i64 0, .int .i64 0, .slice none 0 0] by rw [← hx15]; exact Blk.new _ _ _)
      have HML := hid (show wz.drew.heap.size < x15.heap.size from Blk.lt MX.out)
      clear hx15
      refine hK.out _ _ ?_ (fun hHeld => ?_)
      · (try dsimp only); (first | (go_split_ands; exact ⟨kc f (by assumption), kc f (by assumption), kc f (by assumption), kc f (by assumption), kc f (by assumption), kc f (by assumption), kc f (by assumption), kc f (by assumption), by assumption⟩) | (go_split_ands; exact ⟨(by assumption), (by assumption), (by assumption), (by assumption), (by assumption), (by assumption), (by assumption), (by assumption), by assumption⟩) | (go_split_ands; exact ⟨kc (fr1 _ _) (by assumption), kc (fr1 _ _) (by assumption), kc (fr1 _ _) (by assumption), kc (fr1 _ _) (by assumption), kc (fr1 _ _) (by assumption), kc (fr1 _ _) (by assumption), kc (fr1 _ _) (by assumption), kc (fr1 _ _) (by assumption), kfa (by assumption)⟩) | (exact ⟨kc f hHeld.1, kc f hHeld.2.1, kc f hHeld.2.2.1, kc f hHeld.2.2.2.1, kc f hHeld.2.2.2.2.1, kc f hHeld.2.2.2.2.2.1, kc f hHeld.2.2.2.2.2.2.1, kc f hHeld.2.2.2.2.2.2.2.1, FW⟩) | (exact ⟨kcB f HG0.out hHeld.1, kcB f HG0.out hHeld.2.1, kcB f HG0.out hHeld.2.2.1, kcB f HG0.out hHeld.2.2.2.1, kcB f HG0.out hHeld.2.2.2.2.1, kcB f HG1.out hHeld.2.2.2.2.2.1, kcB f HG1.out hHeld.2.2.2.2.2.2.1, kcB f HG1.out hHeld.2.2.2.2.2.2.2.1, FW⟩))
      clear hK K
      try simp only [Act.put, List.getElem_toArray, List.getElem_cons_succ, List.getElem_cons_zero, List.setIfInBounds_toArray, List.set_cons_zero, List.set_cons_succ]
      refine wpAnyH_ready (rs := [1]) (by kernel_rfl) (by simp) (AllReadyH.cons rfl (fun K hK => ?_) AllReadyH.nil)
      go_simp
      obtain ⟨x1, hx1⟩ : ∃ x, World.alloc x15 (Obj.cells #[] 5) = x := ⟨_, rfl⟩
      try rw [hx1]
      have f : Fr No x15 x1 := by rw [← hx1]; exact fr1 _ _
      have FW := kf f hHeld.2.2.2.2.2.2.2.2
      have MX := hid (Blk.fr MX.out f (fun h => h))
      have HML := hid (Nat.lt_of_lt_of_le HML.out f.size)
      have O1 := hid (show OB wz.heap.size x1 (.slice (some ⟨x15.heap.size, 0, none⟩) 0 0) [] by rw [← hx1]; exact own0b x15 (show wz.heap.size ≤ x15.heap.size from (hHeld.2.2.2.2.2.2.2.2).out.size))
      clear hx1
      refine hK.out _ _ ?_ (fun hHeld => ?_)
      · (try dsimp only); (first | (go_split_ands; exact ⟨kc f (by assumption), kc f (by assumption), kc f (by assumption), kc f (by assumption), kc f (by assumption), kc f (by assumption), kc f (by assumption), kc f (by assumption), by assumption⟩) | (go_split_ands; exact ⟨(by assumption), (by assumption), (by assumption), (by assumption), (by assumption), (by assumption), (by assumption), (by assumption), by assumption⟩) | (go_split_ands; exact ⟨kc (fr1 _ _) (by assumption), kc (fr1 _ _) (by assumption), kc (fr1 _ _) (by assumption), kc (fr1 _ _) (by assumption), kc (fr1 _ _) (by assumption), kc (fr1 _ _) (by assumption), kc (fr1 _ _) (by assumption), kc (fr1 _ _) (by assumption), kfa (by assumption)⟩) | (exact ⟨kc f hHeld.1, kc f hHeld.2.1, kc f hHeld.2.2.1, kc f hHeld.2.2.2.1, kc f hHeld.2.2.2.2.1, kc f hHeld.2.2.2.2.2.1, kc f hHeld.2.2.2.2.2.2.1, kc f hHeld.2.2.2.2.2.2.2.1, FW⟩) | (exact ⟨kcB f HG0.out hHeld.1, kcB f HG0.out hHeld.2.1, kcB f HG0.out hHeld.2.2.1, kcB f HG0.out hHeld.2.2.2.1, kcB f HG0.out hHeld.2.2.2.2.1, kcB f HG1.out hHeld.2.2.2.2.2.1, kcB f HG1.out hHeld.2.2.2.2.2.2.1, kcB f HG1.out hHeld.2.2.2.2.2.2.2.1, FW⟩))
      clear hK K
      try simp only [Act.put, List.getElem_toArray, List.getElem_cons_succ, List.getElem_cons_zero, List.setIfInBounds_toArray, List.set_cons_zero, List.set_cons_succ]
      refine wpAnyH_ready (rs := [3]) (by kernel_rfl) (by simp) (AllReadyH.cons rfl (fun K hK => ?_) AllReadyH.nil)
      refine app_bs rfl (.tmp 107) (.tmp 108) rfl wz.heap.size (.slice (some ⟨x15.heap.size, 0, none⟩) 0 0) [] rfl O1.out As S.length cs S rfl (HSB.out.1.fr (hHeld.2.2.2.2.2.2.2.2).out (fun _ _ _ h => h)) (by have := HSL.out; have := HSM.out; have := HZL.out; simp; omega) (show wz.heap.size ≤ x1.heap.size from (hHeld.2.2.2.2.2.2.2.2).out.size) ?_
      intro A3 c3 x3 o3 f3
      try simp only [List.length_nil, Nat.zero_add, List.nil_append] at o3
      try simp only [List.length_nil, Nat.zero_add]
      have f : Fr (fun q => wz.heap.size ≤ q) x1 x3 := frOB O1.out f3
      have FW := kfB f hHeld.2.2.2.2.2.2.2.2
      have MX := hid (blk_own MX.out O1.out f3)
      have HML := hid (Nat.lt_of_lt_of_le HML.out f.size)
      have O3 := hid o3
      clear o3 f3
      refine hK.out _ _ ?_ (fun hHeld => ?_)
      · (try dsimp only); (first | (go_split_ands; exact ⟨kc f (by assumption), kc f (by assumption), kc f (by assumption), kc f (by assumption), kc f (by assumption), kc f (by assumption), kc f (by assumption), kc f (by assumption), by assumption⟩) | (go_split_ands; exact ⟨(by assumption), (by assumption), (by assumption), (by assumption), (by assumption), (by assumption), (by assumption), (by assumption), by assumption⟩) | (go_split_ands; exact ⟨kc (fr1 _ _) (by assumption), kc (fr1 _ _) (by assumption), kc (fr1 _ _) (by assumption), kc (fr1 _ _) (by assumption), kc (fr1 _ _) (by assumption), kc (fr1 _ _) (by assumption), kc (fr1 _ _) (by assumption), kc (fr1 _ _) (by assumption), kfa (by assumption)⟩) | (exact ⟨kc f hHeld.1, kc f hHeld.2.1, kc f hHeld.2.2.1, kc f hHeld.2.2.2.1, kc f hHeld.2.2.2.2.1, kc f hHeld.2.2.2.2.2.1, kc f hHeld.2.2.2.2.2.2.1, kc f hHeld.2.2.2.2.2.2.2.1, FW⟩) | (exact ⟨kcB f HG0.out hHeld.1, kcB f HG0.out hHeld.2.1, kcB f HG0.out hHeld.2.2.1, kcB f HG0.out hHeld.2.2.2.1, kcB f HG0.out hHeld.2.2.2.2.1, kcB f HG1.out hHeld.2.2.2.2.2.1, kcB f HG1.out hHeld.2.2.2.2.2.2.1, kcB f HG1.out hHeld.2.2.2.2.2.2.2.1, FW⟩))
      clear hK K
      try simp only [Act.put, List.getElem_toArray, List.getElem_cons_succ, List.getElem_cons_zero, List.setIfInBounds_toArray, List.set_cons_zero, List.set_cons_succ]
      refine wpAnyH_ready (rs := [8]) (by kernel_rfl) (by simp) (AllReadyH.cons rfl (fun K hK => ?_) AllReadyH.nil)
      go_simp
      go_at_call 13
      refine (BtN.fill_ok b R3 _ HB8.out (by have := HR3.out; omega)).mono ?_
      rintro e x8 ⟨Af, cf, rfl, rf, lf, f⟩
      have FW := kf f hHeld.2.2.2.2.2.2.2.2
      have O3 := hid (OB.fr O3.out f)
      have MX := hid (Blk.fr MX.out f (fun h => h))
      have HML := hid (Nat.lt_of_lt_of_le HML.out f.size)
      have RF := hid rf
      clear rf lf
      dsimp only
      refine hK.out _ _ ?_ (fun hHeld => ?_)
      · (try dsimp only); (first | (go_split_ands; exact ⟨kc f (by assumption), kc f (by assumption), kc f (by assumption), kc f (by assumption), kc f (by assumption), kc f (by assumption), kc f (by assumption), kc f (by assumption), by assumption⟩) | (go_split_ands; exact ⟨(by assumption), (by assumption), (by assumption), (by assumption), (by assumption), (by assumption), (by assumption), (by assumption), by assumption⟩) | (go_split_ands; exact ⟨kc (fr1 _ _) (by assumption), kc (fr1 _ _) (by assumption), kc (fr1 _ _) (by assumption), kc (fr1 _ _) (by assumption), kc (fr1 _ _) (by assumption), kc (fr1 _ _) (by assumption), kc (fr1 _ _) (by assumption), kc (fr1 _ _) (by assumption), kfa (by assumption)⟩) | (exact ⟨kc f hHeld.1, kc f hHeld.2.1, kc f hHeld.2.2.1, kc f hHeld.2.2.2.1, kc f hHeld.2.2.2.2.1, kc f hHeld.2.2.2.2.2.1, kc f hHeld.2.2.2.2.2.2.1, kc f hHeld.2.2.2.2.2.2.2.1, FW⟩) | (exact ⟨kcB f HG0.out hHeld.1, kcB f HG0.out hHeld.2.1, kcB f HG0.out hHeld.2.2.1, kcB f HG0.out hHeld.2.2.2.1, kcB f HG0.out hHeld.2.2.2.2.1, kcB f HG1.out hHeld.2.2.2.2.2.1, kcB f HG1.out hHeld.2.2.2.2.2.2.1, kcB f HG1.out hHeld.2.2.2.2.2.2.2.1, FW⟩))
      clear hK K
      try simp only [Act.put, List.getElem_toArray, List.getElem_cons_succ, List.getElem_cons_zero, List.setIfInBounds_toArray, List.set_cons_zero, List.set_cons_succ]
      refine wpAnyH_ready (rs := [9]) (by kernel_rfl) (by simp) (AllReadyH.cons rfl (fun K hK => ?_) AllReadyH.nil)
      refine app_bs rfl (.tmp 109) (.tmp 114) rfl wz.heap.size _ S rfl O3.out Af (BtN.fill b R3).length cf (BtN.fill b R3) rfl RF.out (by have := HSL.out; have := HSM.out; have := HZL.out; have := HR3.out; rw [BtN.fill_len]; omega) (show wz.heap.size ≤ x8.heap.size from (hHeld.2.2.2.2.2.2.2.2).out.size) ?_
      intro A9 c9 x9 o9 f9
      have f : Fr (fun q => wz.heap.size ≤ q) x8 x9 := frOB O3.out f9
      have FW := kfB f hHeld.2.2.2.2.2.2.2.2
      have MX := hid (blk_own MX.out O3.out f9)
      have HML := hid (Nat.lt_of_lt_of_le HML.out f.size)
      have O9 := hid o9
      clear o9 f9
      refine hK.out _ _ ?_ (fun hHeld => ?_)
      · (try dsimp only); (first | (go_split_ands; exact ⟨kc f (by assumption), kc f (by assumption), kc f (by assumption), kc f (by assumption), kc f (by assumption), kc f (by assumption), kc f (by assumption), kc f (by assumption), by assumption⟩) | (go_split_ands; exact ⟨(by assumption), (by assumption), (by assumption), (by assumption), (by assumption), (by assumption), (by assumption), (by assumption), by assumption⟩) | (go_split_ands; exact ⟨kc (fr1 _ _) (by assumption), kc (fr1 _ _) (by assumption), kc (fr1 _ _) (by assumption), kc (fr1 _ _) (by assumption), kc (fr1 _ _) (by assumption), kc (fr1 _ _) (by assumption), kc (fr1 _ _) (by assumption), kc (fr1 _ _) (by assumption), kfa (by assumption)⟩) | (exact ⟨kc f hHeld.1, kc f hHeld.2.1, kc f hHeld.2.2.1, kc f hHeld.2.2.2.1, kc f hHeld.2.2.2.2.1, kc f hHeld.2.2.2.2.2.1, kc f hHeld.2.2.2.2.2.2.1, kc f hHeld.2.2.2.2.2.2.2.1, FW⟩) | (exact ⟨kcB f HG0.out hHeld.1, kcB f HG0.out hHeld.2.1, kcB f HG0.out hHeld.2.2.1, kcB f HG0.out hHeld.2.2.2.1, kcB f HG0.out hHeld.2.2.2.2.1, kcB f HG1.out hHeld.2.2.2.2.2.1, kcB f HG1.out hHeld.2.2.2.2.2.2.1, kcB f HG1.out hHeld.2.2.2.2.2.2.2.1, FW⟩))
      clear hK K
      try simp only [Act.put, List.getElem_toArray, List.getElem_cons_succ, List.getElem_cons_zero, List.setIfInBounds_toArray, List.set_cons_zero, List.set_cons_succ]
      refine wpAnyH_ready (rs := [10]) (by kernel_rfl) (by simp) (AllReadyH.cons rfl (fun K hK => ?_) AllReadyH.nil)
      go_simp
      go_at_call 12
      refine (dec_y gc gs gn gl gk A9 (S.length + (BtN.fill b R3).length) c9 (S ++ BtN.fill b R3) _ q k xs zs HS.out HM.out ⟨OB.rd (by rw [List.length_append]) O9.out, by have := (OB.lim O9.out).1; rw [List.length_append] at this; exact this, (OB.lim O9.out).2, fun x hx => (List.mem_append.1 hx).elim (HSB.out.2.2.2 x) (BtN.fill_u8 HB8.out R3 x)⟩ (HT.out.fr (FG.out.trans (hHeld.2.2.2.2.2.2.2.2).out) (fun h => h)) HBG.out).mono ?_
      rintro e x10 ⟨A10, c10, D10, d10, rfl, hxs, hfr, hds, f⟩
      have FW := kf f hHeld.2.2.2.2.2.2.2.2
      have HXM := hid (fun (_ : 0 < xs.length) g o (h : A10 = some ⟨g, o, none⟩) => (show g ≠ wz.drew.heap.size by have q1 := hfr g o h; have q2 := HML.out; omega))
      have O9 := hid (OB.fr O9.out f)
      have MX := hid (Blk.fr MX.out f (fun h => h))
      have HML := hid (Nat.lt_of_lt_of_le HML.out f.size)
      have XS := hid hxs
      have DS := hid hds
      clear hxs hfr hds
      dsimp only
      refine hK.out _ _ ?_ (fun hHeld => ?_)
      · (try dsimp only); (first | (go_split_ands; exact ⟨kc f (by assumption), kc f (by assumption), kc f (by assumption), kc f (by assumption), kc f (by assumption), kc f (by assumption), kc f (by assumption), kc f (by assumption), by assumption⟩) | (go_split_ands; exact ⟨(by assumption), (by assumption), (by assumption), (by assumption), (by assumption), (by assumption), (by assumption), (by assumption), by assumption⟩) | (go_split_ands; exact ⟨kc (fr1 _ _) (by assumption), kc (fr1 _ _) (by assumption), kc (fr1 _ _) (by assumption), kc (fr1 _ _) (by assumption), kc (fr1 _ _) (by assumption), kc (fr1 _ _) (by assumption), kc (fr1 _ _) (by assumption), kc (fr1 _ _) (by assumption), kfa (by assumption)⟩) | (exact ⟨kc f hHeld.1, kc f hHeld.2.1, kc f hHeld.2.2.1, kc f hHeld.2.2.2.1, kc f hHeld.2.2.2.2.1, kc f hHeld.2.2.2.2.2.1, kc f hHeld.2.2.2.2.2.2.1, kc f hHeld.2.2.2.2.2.2.2.1, FW⟩) | (exact ⟨kcB f HG0.out hHeld.1, kcB f HG0.out hHeld.2.1, kcB f HG0.out hHeld.2.2.1, kcB f HG0.out hHeld.2.2.2.1, kcB f HG0.out hHeld.2.2.2.2.1, kcB f HG1.out hHeld.2.2.2.2.2.1, kcB f HG1.out hHeld.2.2.2.2.2.2.1, kcB f HG1.out hHeld.2.2.2.2.2.2.2.1, FW⟩))
      clear hK K
      try simp only [Act.put, List.getElem_toArray, List.getElem_cons_succ, List.getElem_cons_zero, List.setIfInBounds_toArray, List.set_cons_zero, List.set_cons_succ]
      refine wpAnyH_take (i := 11) (v := ?v35) rfl (by kernel_rfl) (by kernel_rfl) (by kernel_rfl) (fun _ _ _ h => h) (Or.inl ⟨by kernel_rfl, ?y35⟩) (by assumption) ?_
      case y35 => (intro w hSw; (try dsimp only at hSw); go_simp; all_goals with_reducible rfl)
      try simp only [Act.put, List.getElem_toArray, List.getElem_cons_succ, List.getElem_cons_zero, List.setIfInBounds_toArray, List.set_cons_zero, List.set_cons_succ]
      refine wpAnyH_take (i := 12) (v := ?v36) rfl (by kernel_rfl) (by kernel_rfl) (by kernel_rfl) (fun _ _ _ h => h) (Or.inl ⟨by kernel_rfl, ?y36⟩) (by assumption) ?_
      case y36 => (intro w hSw; (try dsimp only at hSw); go_simp; all_goals with_reducible rfl)
      try simp only [Act.put, List.getElem_toArray, List.getElem_cons_succ, List.getElem_cons_zero, List.setIfInBounds_toArray, List.set_cons_zero, List.set_cons_succ]
      refine wpAnyH_take (i := 13) (v := ?v37) rfl (by kernel_rfl) (by kernel_rfl) (by kernel_rfl) (fun _ _ _ h => h) (Or.inl ⟨by kernel_rfl, ?y37⟩) (by assumption) ?_
      case y37 => (intro w hSw; (try dsimp only at hSw); go_simp; all_goals with_reducible rfl)
      try simp only [Act.put, List.getElem_toArray, List.getElem_cons_succ, List.getElem_cons_zero, List.setIfInBounds_toArray, List.set_cons_zero, List.set_cons_succ]
      refine wpAnyH_take (i := 14) (v := ?v38) rfl (by kernel_rfl) (by kernel_rfl) (by kernel_rfl) (fun _ _ _ h => h) (Or.inl ⟨by kernel_rfl, ?y38⟩) (by assumption) ?_
      case y38 => (intro w hSw; (try dsimp only at hSw); go_simp; all_goals with_reducible rfl)
      try simp only [Act.put, List.getElem_toArray, List.getElem_cons_succ, List.getElem_cons_zero, List.setIfInBounds_toArray, List.set_cons_zero, List.set_cons_succ]
      refine wpAnyH_ready (rs := [16]) (by kernel_rfl) (by simp) (AllReadyH.cons rfl (fun K hK => ?_) AllReadyH.nil)
      refine st_bt_step rfl (.tmp 13) (.tmp 117) rfl _ rfl rfl (by simp [Value.oneCell']) MX.out rfl ?_
      intro x16 hb2 f16
      have f : Fr (fun q => wz.heap.size ≤ q) x10 x16 := f16.mono (fun i _ e => by rw [e]; exact HMB15.out)
      have FW := kfB f hHeld.2.2.2.2.2.2.2.2
      have XS := hid (rdS_lo3 XS.out f16 (fun h0 g o hA e => HXM.out h0 g o hA e))
      have DS := hid (rd_lo3 DS.out f16 (fun h0 g o hA e => rd_ne MX.out DS.out h0 g o hA e))
      have MX := hid hb2
      clear hb2 f16
      refine hK.out _ _ ?_ (fun hHeld => ?_)
      · (try dsimp only); (first | (go_split_ands; exact ⟨kc f (by assumption), kc f (by assumption), kc f (by assumption), kc f (by assumption), kc f (by assumption), kc f (by assumption), kc f (by assumption), kc f (by assumption), by assumption⟩) | (go_split_ands; exact ⟨(by assumption), (by assumption), (by assumption), (by assumption), (by assumption), (by assumption), (by assumption), (by assumption), by assumption⟩) | (go_split_ands; exact ⟨kc (fr1 _ _) (by assumption), kc (fr1 _ _) (by assumption), kc (fr1 _ _) (by assumption), kc (fr1 _ _) (by assumption), kc (fr1 _ _) (by assumption), kc (fr1 _ _) (by assumption), kc (fr1 _ _) (by assumption), kc (fr1 _ _) (by assumption), kfa (by assumption)⟩) | (exact ⟨kc f hHeld.1, kc f hHeld.2.1, kc f hHeld.2.2.1, kc f hHeld.2.2.2.1, kc f hHeld.2.2.2.2.1, kc f hHeld.2.2.2.2.2.1, kc f hHeld.2.2.2.2.2.2.1, kc f hHeld.2.2.2.2.2.2.2.1, FW⟩) | (exact ⟨kcB f HG0.out hHeld.1, kcB f HG0.out hHeld.2.1, kcB f HG0.out hHeld.2.2.1, kcB f HG0.out hHeld.2.2.2.1, kcB f HG0.out hHeld.2.2.2.2.1, kcB f HG1.out hHeld.2.2.2.2.2.1, kcB f HG1.out hHeld.2.2.2.2.2.2.1, kcB f HG1.out hHeld.2.2.2.2.2.2.2.1, FW⟩))
      clear hK K
      try simp only [Act.put, List.getElem_toArray, List.getElem_cons_succ, List.getElem_cons_zero]
      refine wpAnyH_take (i := 17) (v := ?v39) rfl (by kernel_rfl) (by kernel_rfl) (by kernel_rfl) (fun _ _ _ h => h) (Or.inl ⟨by kernel_rfl, ?y39⟩) (by assumption) ?_
      case y39 => (intro w hSw; (try dsimp only at hSw); go_simp; all_goals with_reducible rfl)
      try simp only [Act.put, List.getElem_toArray, List.getElem_cons_succ, List.getElem_cons_zero, List.setIfInBounds_toArray, List.set_cons_zero, List.set_cons_succ]
      refine wpAnyH_take (i := 18) (v := ?v40) rfl (by kernel_rfl) (by kernel_rfl) (by kernel_rfl) (fun _ _ _ h => h) (Or.inl ⟨by kernel_rfl, ?y40⟩) (by assumption) ?_
      case y40 => (intro w hSw; (try dsimp only at hSw); go_simp; all_goals with_reducible rfl)
      try simp only [Act.put, List.getElem_toArray, List.getElem_cons_succ, List.getElem_cons_zero, List.setIfInBounds_toArray, List.set_cons_zero, List.set_cons_succ]
      refine wpAnyH_done (by kernel_rfl) ?_ _
      refine NoPanic.normal ?_
      have FX := hHeld.2.2.2.2.2.2.2.2
      clear hHeld
      go_wp2_with fail
      go_meet
      case rel => (try refine ⟨_, _, _, ?_, rfl, rfl, rfl⟩); exact ⟨_, A10, c10, D10, d10, rfl, rfl, rfl, MX.out, HMB15.out, XS.out, (by have h9 := DS.out; rw [HZL.out] at h9; exact h9), FX.out⟩
  case rest =>
    clear g0 g1 g2 g3 g4 b0 b1 b2 hwb hwr hwr2 hwr3 hR3 FW HG0 HG1
    obtain ⟨M1, A1, c1, D1, d1, rfl, rfl, rfl, hB, _, hx1, hd1, hf⟩ := hcut
    replace FG := hid (FG.out.trans hf)
    replace P0 := hid (BG.fr P0.out hf)
    replace P1 := hid (BB.fr P1.out hf)
    replace HSB := hid (HSB.out.fr hf)
    have B1 := hid hB
    have X1 := hid hx1
    have Y1 := hid hd1
    clear hB hx1 hd1 hf
    obtain ⟨wy, hwy⟩ : ∃ zz, wc = zz := ⟨_, rfl⟩
    rw [hwy] at FG P0 P1 HSB B1 X1 Y1
    try rw [hwy]
    clear hwy
    have hS128 : 128 ≤ S.length := by have := HSL.out; omega
    have hSc : S.length ≤ cs := HSB.out.2.1
    have hcm : cs ≤ 9223372036854775807 := by have := HSB.out.2.2.1; simp only [maxLen] at this; omega
    have hc128 : (128 : Int) ≤ cs := by omega
    have HHG := hhg_ok HMB HZL HDL HSE
    obtain ⟨sum, hsum⟩ : ∃ zz, ((onN 0 zs : Nat) : Int) = zz := ⟨_, rfl⟩
    rw [hsum] at HHG
    clear hsum
    have HC1 := hid (fun W (hi : IsB W As S.length cs S) (ht : TabAt W) => head_y gc gs gn gl gk As 128 cs (S.take 128) W q k xs sum HS.out HM.out (isB_take hi hS128) ht HHG.out)
    have HC2 := hid (fun W (hi : IsB W As S.length cs S) => rhead_y gc gs gn gl gk As 128 cs (S.take 128) W q k xs sum HS.out (isB_take hi hS128) HHG.out)
    obtain ⟨g0, g1, g2, g3, g4⟩ := P0.out.cells
    have hGL : G + 1 < wy.heap.size := Blk.lt P1.out
    have FW : Hid (Fr No wy wy) := hid (Fr.refl No _)
    go_upto_region 14 with fail
    go_cut [16, 17, 18] (fun p s' e' wx => CutH wy q k xs (.int .u32 sum) (.int .i64 0) p s' e' wx)
    case first =>
      have FW := kd FW
      refine wp_region_noPanic ?_
      refine wp_region_held_drew (S := (fun W' => W'.cell? ⟨G, 0, none⟩ = some (.int .i64 gc) ∧ W'.cell? ⟨G, 1, none⟩ = some (.int .i64 gs) ∧ W'.cell? ⟨G, 2, none⟩ = some (.int .i64 gn) ∧ W'.cell? ⟨G, 3, none⟩ = some (.int .i64 gl) ∧ W'.cell? ⟨G, 4, none⟩ = some (.int .i64 gk) ∧ Hid (Fr No wy W'))) (by kernel_rfl) ?_ (fun hHeld => ?_)
      · (try dsimp only); (first | (go_split_ands; exact ⟨kc f (by assumption), kc f (by assumption), kc f (by assumption), kc f (by assumption), kc f (by assumption), by assumption⟩) | (go_split_ands; exact ⟨(by assumption), (by assumption), (by assumption), (by assumption), (by assumption), by assumption⟩) | (go_split_ands; exact ⟨kc (fr1 _ _) (by assumption), kc (fr1 _ _) (by assumption), kc (fr1 _ _) (by assumption), kc (fr1 _ _) (by assumption), kc (fr1 _ _) (by assumption), kfa (by assumption)⟩) | (go_split_ands; exact ⟨kc (fr1d _ _) (by assumption), kc (fr1d _ _) (by assumption), kc (fr1d _ _) (by assumption), kc (fr1d _ _) (by assumption), kc (fr1d _ _) (by assumption), kfae (by assumption)⟩) | (exact ⟨kcs hf2 (by simp only []; omega) hHeld.1, kcs hf2 (by simp only []; omega) hHeld.2.1, kcs hf2 (by simp only []; omega) hHeld.2.2.1, kcs hf2 (by simp only []; omega) hHeld.2.2.2.1, kcs hf2 (by simp only []; omega) hHeld.2.2.2.2.1, kfg (by omega) FW hf2⟩) | (exact ⟨kcs hf2 (by simp only []; omega) hHeld.1, kcs hf2 (by simp only []; omega) hHeld.2.1, kcs hf2 (by simp only []; omega) hHeld.2.2.1, kcs hf2 (by simp only []; omega) hHeld.2.2.2.1, kcs hf2 (by simp only []; omega) hHeld.2.2.2.2.1, kfg (by omega) hHeld.2.2.2.2.2 hf2⟩) | (go_split_ands; exact ⟨kcs hf2 (by simp only []; omega) (by assumption), kcs hf2 (by simp only []; omega) (by assumption), kcs hf2 (by simp only []; omega) (by assumption), kcs hf2 (by simp only []; omega) (by assumption), kcs hf2 (by simp only []; omega) (by assumption), kfg (by omega) (by assumption) hf2⟩))
      refine wpAnyH_take (i := 0) (v := ?v41) rfl (by kernel_rfl) (by kernel_rfl) (by kernel_rfl) (fun _ _ _ h => h) (Or.inl ⟨by kernel_rfl, ?y41⟩) (by assumption) ?_
      case y41 => (intro w hSw; (try dsimp only at hSw); go_simp; all_goals with_reducible rfl)
      try simp only [Act.put, List.getElem_toArray, List.getElem_cons_zero, List.setIfInBounds_toArray, List.set_cons_zero, List.set_cons_succ]
      refine wpAnyH_take (i := 1) (v := ?v42) rfl (by kernel_rfl) (by kernel_rfl) (by kernel_rfl) (fun _ _ _ h => h) (Or.inl ⟨by kernel_rfl, ?y42⟩) (by assumption) ?_
      case y42 => (intro w hSw; (try dsimp only at hSw); go_simp; all_goals with_reducible rfl)
      try simp only [Act.put, List.getElem_toArray, List.getElem_cons_succ, List.getElem_cons_zero, List.setIfInBounds_toArray, List.set_cons_zero, List.set_cons_succ]
      refine wpAnyH_take (i := 2) (v := ?v43) rfl (by kernel_rfl) (by kernel_rfl) (by kernel_rfl) (fun _ _ _ h => h) (Or.inl ⟨by kernel_rfl, ?y43⟩) (by assumption) ?_
      case y43 => (intro w hSw; (try dsimp only at hSw); go_simp; all_goals with_reducible rfl)
      try simp only [Act.put, List.getElem_toArray, List.getElem_cons_succ, List.getElem_cons_zero, List.setIfInBounds_toArray, List.set_cons_zero, List.set_cons_succ]
      refine wpAnyH_ready (rs := [3, 8]) (by kernel_rfl) (by simp) (AllReadyH.cons rfl (fun K hK => ?_) (AllReadyH.cons rfl (fun K hK => ?_) AllReadyH.nil))
      · go_simp
        go_at_call 14
        refine (HC1.out _ (HSB.out.fr (hHeld.2.2.2.2.2).out) (HT.out.fr (FG.out.trans (hHeld.2.2.2.2.2).out) (fun h => h))).mono ?_
        rintro e W1 ⟨Ah, ch, rfl, hxs, hfr, f⟩
        have FW := kf f hHeld.2.2.2.2.2
        have HXS := hid hxs
        have HFQ := hid (fun g o h => Nat.le_trans (show wy.heap.size ≤ _ from by first | exact hszA | exact Nat.le_refl _) (hfr g o h))
        (try have MX := hid (Blk.fr MX.out f (fun h => h)))
        have hsz1 : wy.heap.size ≤ W1.heap.size := (by first | exact f.size | (have q1 := f.size; have q2 := hszA; omega))
        have HGX := hid (rdS_gx HXS.out hfr)
        dsimp only
        refine hK.out _ _ ?_ (fun hHeld => ?_)
        · (try dsimp only); (first | (go_split_ands; exact ⟨kc f (by assumption), kc f (by assumption), kc f (by assumption), kc f (by assumption), kc f (by assumption), by assumption⟩) | (go_split_ands; exact ⟨(by assumption), (by assumption), (by assumption), (by assumption), (by assumption), by assumption⟩) | (go_split_ands; exact ⟨kc (fr1 _ _) (by assumption), kc (fr1 _ _) (by assumption), kc (fr1 _ _) (by assumption), kc (fr1 _ _) (by assumption), kc (fr1 _ _) (by assumption), kfa (by assumption)⟩) | (go_split_ands; exact ⟨kc (fr1d _ _) (by assumption), kc (fr1d _ _) (by assumption), kc (fr1d _ _) (by assumption), kc (fr1d _ _) (by assumption), kc (fr1d _ _) (by assumption), kfae (by assumption)⟩) | (exact ⟨kcs hf2 (by simp only []; omega) hHeld.1, kcs hf2 (by simp only []; omega) hHeld.2.1, kcs hf2 (by simp only []; omega) hHeld.2.2.1, kcs hf2 (by simp only []; omega) hHeld.2.2.2.1, kcs hf2 (by simp only []; omega) hHeld.2.2.2.2.1, kfg (by omega) FW hf2⟩) | (exact ⟨kcs hf2 (by simp only []; omega) hHeld.1, kcs hf2 (by simp only []; omega) hHeld.2.1, kcs hf2 (by simp only []; omega) hHeld.2.2.1, kcs hf2 (by simp only []; omega) hHeld.2.2.2.1, kcs hf2 (by simp only []; omega) hHeld.2.2.2.2.1, kfg (by omega) hHeld.2.2.2.2.2 hf2⟩) | (go_split_ands; exact ⟨kcs hf2 (by simp only []; omega) (by assumption), kcs hf2 (by simp only []; omega) (by assumption), kcs hf2 (by simp only []; omega) (by assumption), kcs hf2 (by simp only []; omega) (by assumption), kcs hf2 (by simp only []; omega) (by assumption), kfg (by omega) (by assumption) hf2⟩))
        clear hK K
        try simp only [Act.put, List.getElem_toArray, List.getElem_cons_succ, List.getElem_cons_zero, List.setIfInBounds_toArray, List.set_cons_zero, List.set_cons_succ]
        refine wpAnyH_take (i := 4) (v := ?v44) rfl (by kernel_rfl) (by kernel_rfl) (by kernel_rfl) (fun _ _ _ h => h) (Or.inl ⟨by kernel_rfl, ?y44⟩) (by assumption) ?_
        case y44 => (intro w hSw; (try dsimp only at hSw); go_simp; all_goals with_reducible rfl)
        try simp only [Act.put, List.getElem_toArray, List.getElem_cons_succ, List.getElem_cons_zero, List.setIfInBounds_toArray, List.set_cons_zero, List.set_cons_succ]
        refine wpAnyH_take (i := 5) (v := ?v45) rfl (by kernel_rfl) (by kernel_rfl) (by kernel_rfl) (fun _ _ _ h => h) (Or.inl ⟨by kernel_rfl, ?y45⟩) (by assumption) ?_
        case y45 => (intro w hSw; (try dsimp only at hSw); go_simp; all_goals with_reducible rfl)
        try simp only [Act.put, List.getElem_toArray, List.getElem_cons_succ, List.getElem_cons_zero, List.setIfInBounds_toArray, List.set_cons_zero, List.set_cons_succ]
        refine wpAnyH_take (i := 6) (v := ?v46) rfl (by kernel_rfl) (by kernel_rfl) (by kernel_rfl) (fun _ _ _ h => h) (Or.inl ⟨by kernel_rfl, ?y46⟩) (by assumption) ?_
        case y46 => (intro w hSw; (try dsimp only at hSw); go_simp; all_goals with_reducible rfl)
        try simp only [Act.put, List.getElem_toArray, List.getElem_cons_succ, List.getElem_cons_zero, List.setIfInBounds_toArray, List.set_cons_zero, List.set_cons_succ]
        refine wpAnyH_take (i := 7) (v := ?v47) rfl (by kernel_rfl) (by kernel_rfl) (by kernel_rfl) (fun _ _ _ h => h) (Or.inl ⟨by kernel_rfl, ?y47⟩) (by assumption) ?_
        case y47 => (intro w hSw; (try dsimp only at hSw); go_simp; all_goals with_reducible rfl)
        try simp only [Act.put, List.getElem_toArray, List.getElem_cons_succ, List.getElem_cons_zero, List.setIfInBounds_toArray, List.set_cons_zero, List.set_cons_succ]
        refine wpAnyH_ready (rs := [8]) (by kernel_rfl) (by simp) (AllReadyH.cons rfl (fun K hK => ?_) AllReadyH.nil)
        go_simp
        refine hK.out _ _ ?_ (fun hHeld => ?_)
        · (try dsimp only); (first | (go_split_ands; exact ⟨kc f (by assumption), kc f (by assumption), kc f (by assumption), kc f (by assumption), kc f (by assumption), by assumption⟩) | (go_split_ands; exact ⟨(by assumption), (by assumption), (by assumption), (by assumption), (by assumption), by assumption⟩) | (go_split_ands; exact ⟨kc (fr1 _ _) (by assumption), kc (fr1 _ _) (by assumption), kc (fr1 _ _) (by assumption), kc (fr1 _ _) (by assumption), kc (fr1 _ _) (by assumption), kfa (by assumption)⟩) | (go_split_ands; exact ⟨kc (fr1d _ _) (by assumption), kc (fr1d _ _) (by assumption), kc (fr1d _ _) (by assumption), kc (fr1d _ _) (by assumption), kc (fr1d _ _) (by assumption), kfae (by assumption)⟩) | (exact ⟨kcs hf2 (by simp only []; omega) hHeld.1, kcs hf2 (by simp only []; omega) hHeld.2.1, kcs hf2 (by simp only []; omega) hHeld.2.2.1, kcs hf2 (by simp only []; omega) hHeld.2.2.2.1, kcs hf2 (by simp only []; omega) hHeld.2.2.2.2.1, kfg (by omega) FW hf2⟩) | (exact ⟨kcs hf2 (by simp only []; omega) hHeld.1, kcs hf2 (by simp only []; omega) hHeld.2.1, kcs hf2 (by simp only []; omega) hHeld.2.2.1, kcs hf2 (by simp only []; omega) hHeld.2.2.2.1, kcs hf2 (by simp only []; omega) hHeld.2.2.2.2.1, kfg (by omega) hHeld.2.2.2.2.2 hf2⟩) | (go_split_ands; exact ⟨kcs hf2 (by simp only []; omega) (by assumption), kcs hf2 (by simp only []; omega) (by assumption), kcs hf2 (by simp only []; omega) (by assumption), kcs hf2 (by simp only []; omega) (by assumption), kcs hf2 (by simp only []; omega) (by assumption), kfg (by omega) (by assumption) hf2⟩))
        clear hK K
        try simp only [Act.put, List.getElem_toArray, List.getElem_cons_succ, List.getElem_cons_zero, List.setIfInBounds_toArray, List.set_cons_zero, List.set_cons_succ]
        have MX := hid (Blk.new W1 26 #[.int .i64 0, .int .i64 0, .slice none 0 0]); have HXS := hid (HXS.out.fr (fr1 W1 (.cells #[.int .i64 0, .int .i64 0, .slice none 0 0] 26)))
        refine wpAnyH_ready (rs := [9]) (by kernel_rfl) (by simp) (AllReadyH.cons rfl (fun K hK => ?_) AllReadyH.nil)
        refine st_bt_step rfl (.tmp 16) (.tmp 125) rfl _ rfl rfl (by simp [Value.oneCell']) MX.out rfl ?_
        intro W2 hb2 hf2
        refine hK.out _ _ ?_ (fun hHeld => ?_)
        · (try dsimp only); (first | (go_split_ands; exact ⟨kc f (by assumption), kc f (by assumption), kc f (by assumption), kc f (by assumption), kc f (by assumption), by assumption⟩) | (go_split_ands; exact ⟨(by assumption), (by assumption), (by assumption), (by assumption), (by assumption), by assumption⟩) | (go_split_ands; exact ⟨kc (fr1 _ _) (by assumption), kc (fr1 _ _) (by assumption), kc (fr1 _ _) (by assumption), kc (fr1 _ _) (by assumption), kc (fr1 _ _) (by assumption), kfa (by assumption)⟩) | (go_split_ands; exact ⟨kc (fr1d _ _) (by assumption), kc (fr1d _ _) (by assumption), kc (fr1d _ _) (by assumption), kc (fr1d _ _) (by assumption), kc (fr1d _ _) (by assumption), kfae (by assumption)⟩) | (exact ⟨kcs hf2 (by simp only []; omega) hHeld.1, kcs hf2 (by simp only []; omega) hHeld.2.1, kcs hf2 (by simp only []; omega) hHeld.2.2.1, kcs hf2 (by simp only []; omega) hHeld.2.2.2.1, kcs hf2 (by simp only []; omega) hHeld.2.2.2.2.1, kfg (by omega) FW hf2⟩) | (exact ⟨kcs hf2 (by simp only []; omega) hHeld.1, kcs hf2 (by simp only []; omega) hHeld.2.1, kcs hf2 (by simp only []; omega) hHeld.2.2.1, kcs hf2 (by simp only []; omega) hHeld.2.2.2.1, kcs hf2 (by simp only []; omega) hHeld.2.2.2.2.1, kfg (by omega) hHeld.2.2.2.2.2 hf2⟩) | (go_split_ands; exact ⟨kcs hf2 (by simp only []; omega) (by assumption), kcs hf2 (by simp only []; omega) (by assumption), kcs hf2 (by simp only []; omega) (by assumption), kcs hf2 (by simp only []; omega) (by assumption), kcs hf2 (by simp only []; omega) (by assumption), kfg (by omega) (by assumption) hf2⟩))
        clear hK K
        try simp only [Act.put, List.getElem_toArray, List.getElem_cons_succ, List.getElem_cons_zero]
        have FW := hHeld.2.2.2.2.2; have MX := hid hb2; have hne : wy.heap.size ≤ W1.heap.size := (by omega); have HX2 := hid (rdS_lo3 HXS.out hf2 (fun h0 g o hA e => by have q1 := HGX.out h0 g o hA; have e : g = W1.heap.size := e; (try rw [World.size_alloc] at q1); omega)); clear hf2 hb2
        refine wpAnyH_take (i := 10) (v := ?v48) rfl (by kernel_rfl) (by kernel_rfl) (by kernel_rfl) (fun _ _ _ h => h) (Or.inl ⟨by kernel_rfl, ?y48⟩) (by assumption) ?_
        case y48 => (intro w hSw; (try dsimp only at hSw); go_simp; all_goals with_reducible rfl)
        try simp only [Act.put, List.getElem_toArray, List.getElem_cons_succ, List.getElem_cons_zero, List.setIfInBounds_toArray, List.set_cons_zero, List.set_cons_succ]
        refine wpAnyH_take (i := 11) (v := ?v49) rfl (by kernel_rfl) (by kernel_rfl) (by kernel_rfl) (fun _ _ _ h => h) (Or.inl ⟨by kernel_rfl, ?y49⟩) (by assumption) ?_
        case y49 => (intro w hSw; (try dsimp only at hSw); go_simp; all_goals with_reducible rfl)
        try simp only [Act.put, List.getElem_toArray, List.getElem_cons_succ, List.getElem_cons_zero, List.setIfInBounds_toArray, List.set_cons_zero, List.set_cons_succ]
        refine wpAnyH_done (by kernel_rfl) ?_ _
        refine NoPanic.normal ?_
        go_wp2_with fail
        go_meet
        case rel => (try refine ⟨_, _, _, ?_, rfl, rfl, rfl⟩); exact ⟨_, _, _, rfl, rfl, rfl, MX.out, hne, HX2.out, FW.out⟩
      · go_simp
        refine hK.out _ _ ?_ (fun hHeld => ?_)
        · (try dsimp only); (first | (go_split_ands; exact ⟨kc f (by assumption), kc f (by assumption), kc f (by assumption), kc f (by assumption), kc f (by assumption), by assumption⟩) | (go_split_ands; exact ⟨(by assumption), (by assumption), (by assumption), (by assumption), (by assumption), by assumption⟩) | (go_split_ands; exact ⟨kc (fr1 _ _) (by assumption), kc (fr1 _ _) (by assumption), kc (fr1 _ _) (by assumption), kc (fr1 _ _) (by assumption), kc (fr1 _ _) (by assumption), kfa (by assumption)⟩) | (go_split_ands; exact ⟨kc (fr1d _ _) (by assumption), kc (fr1d _ _) (by assumption), kc (fr1d _ _) (by assumption), kc (fr1d _ _) (by assumption), kc (fr1d _ _) (by assumption), kfae (by assumption)⟩) | (exact ⟨kcs hf2 (by simp only []; omega) hHeld.1, kcs hf2 (by simp only []; omega) hHeld.2.1, kcs hf2 (by simp only []; omega) hHeld.2.2.1, kcs hf2 (by simp only []; omega) hHeld.2.2.2.1, kcs hf2 (by simp only []; omega) hHeld.2.2.2.2.1, kfg (by omega) FW hf2⟩) | (exact ⟨kcs hf2 (by simp only []; omega) hHeld.1, kcs hf2 (by simp only []; omega) hHeld.2.1, kcs hf2 (by simp only []; omega) hHeld.2.2.1, kcs hf2 (by simp only []; omega) hHeld.2.2.2.1, kcs hf2 (by simp only []; omega) hHeld.2.2.2.2.1, kfg (by omega) hHeld.2.2.2.2.2 hf2⟩) | (go_split_ands; exact ⟨kcs hf2 (by simp only []; omega) (by assumption), kcs hf2 (by simp only []; omega) (by assumption), kcs hf2 (by simp only []; omega) (by assumption), kcs hf2 (by simp only []; omega) (by assumption), kcs hf2 (by simp only []; omega) (by assumption), kfg (by omega) (by assumption) hf2⟩))
        clear hK K
        try simp only [Act.put, List.getElem_toArray, List.getElem_cons_succ, List.getElem_cons_zero, List.setIfInBounds_toArray, List.set_cons_zero, List.set_cons_succ]
        have MX := hid (show Blk (wy.alloc (.cells #[.int .i64 0, .int .i64 0, .slice none 0 0] 26)).drew wy.heap.size 26 #[.int .i64 0, .int .i64 0, .slice none 0 0] from Blk.new wy _ _); have hszA : wy.heap.size ≤ (wy.alloc (.cells #[.int .i64 0, .int .i64 0, .slice none 0 0] 26)).drew.heap.size := (by show wy.heap.size ≤ (wy.alloc (.cells #[.int .i64 0, .int .i64 0, .slice none 0 0] 26)).heap.size; rw [World.size_alloc]; omega); have hszA2 : wy.heap.size + 1 ≤ (wy.alloc (.cells #[.int .i64 0, .int .i64 0, .slice none 0 0] 26)).drew.heap.size := (by show wy.heap.size + 1 ≤ (wy.alloc (.cells #[.int .i64 0, .int .i64 0, .slice none 0 0] 26)).heap.size; rw [World.size_alloc]; exact Nat.le_refl _)
        refine wpAnyH_ready (rs := [3]) (by kernel_rfl) (by simp) (AllReadyH.cons rfl (fun K hK => ?_) AllReadyH.nil)
        go_simp
        go_at_call 14
        refine (HC1.out _ (HSB.out.fr (hHeld.2.2.2.2.2).out) (HT.out.fr (FG.out.trans (hHeld.2.2.2.2.2).out) (fun h => h))).mono ?_
        rintro e W1 ⟨Ah, ch, rfl, hxs, hfr, f⟩
        have FW := kf f hHeld.2.2.2.2.2
        have HXS := hid hxs
        have HFQ := hid (fun g o h => Nat.le_trans (show wy.heap.size ≤ _ from by first | exact hszA | exact Nat.le_refl _) (hfr g o h))
        (try have MX := hid (Blk.fr MX.out f (fun h => h)))
        have hsz1 : wy.heap.size ≤ W1.heap.size := (by first | exact f.size | (have q1 := f.size; have q2 := hszA; omega))
        have HGX := hid (rdS_gx HXS.out hfr)
        dsimp only
        refine hK.out _ _ ?_ (fun hHeld => ?_)
        · (try dsimp only); (first | (go_split_ands; exact ⟨kc f (by assumption), kc f (by assumption), kc f (by assumption), kc f (by assumption), kc f (by assumption), by assumption⟩) | (go_split_ands; exact ⟨(by assumption), (by assumption), (by assumption), (by assumption), (by assumption), by assumption⟩) | (go_split_ands; exact ⟨kc (fr1 _ _) (by assumption), kc (fr1 _ _) (by assumption), kc (fr1 _ _) (by assumption), kc (fr1 _ _) (by assumption), kc (fr1 _ _) (by assumption), kfa (by assumption)⟩) | (go_split_ands; exact ⟨kc (fr1d _ _) (by assumption), kc (fr1d _ _) (by assumption), kc (fr1d _ _) (by assumption), kc (fr1d _ _) (by assumption), kc (fr1d _ _) (by assumption), kfae (by assumption)⟩) | (exact ⟨kcs hf2 (by simp only []; omega) hHeld.1, kcs hf2 (by simp only []; omega) hHeld.2.1, kcs hf2 (by simp only []; omega) hHeld.2.2.1, kcs hf2 (by simp only []; omega) hHeld.2.2.2.1, kcs hf2 (by simp only []; omega) hHeld.2.2.2.2.1, kfg (by omega) FW hf2⟩) | (exact ⟨kcs hf2 (by simp only []; omega) hHeld.1, kcs hf2 (by simp only []; omega) hHeld.2.1, kcs hf2 (by simp only []; omega) hHeld.2.2.1, kcs hf2 (by simp only []; omega) hHeld.2.2.2.1, kcs hf2 (by simp only []; omega) hHeld.2.2.2.2.1, kfg (by omega) hHeld.2.2.2.2.2 hf2⟩) | (go_split_ands; exact ⟨kcs hf2 (by simp only []; omega) (by assumption), kcs hf2 (by simp only []; omega) (by assumption), kcs hf2 (by simp only []; omega) (by assumption), kcs hf2 (by simp only []; omega) (by assumption), kcs hf2 (by simp only []; omega) (by assumption), kfg (by omega) (by assumption) hf2⟩))
        clear hK K
        try simp only [Act.put, List.getElem_toArray, List.getElem_cons_succ, List.getElem_cons_zero, List.setIfInBounds_toArray, List.set_cons_zero, List.set_cons_succ]
        refine wpAnyH_take (i := 4) (v := ?v50) rfl (by kernel_rfl) (by kernel_rfl) (by kernel_rfl) (fun _ _ _ h => h) (Or.inl ⟨by kernel_rfl, ?y50⟩) (by assumption) ?_
        case y50 => (intro w hSw; (try dsimp only at hSw); go_simp; all_goals with_reducible rfl)
        try simp only [Act.put, List.getElem_toArray, List.getElem_cons_succ, List.getElem_cons_zero, List.setIfInBounds_toArray, List.set_cons_zero, List.set_cons_succ]
        refine wpAnyH_take (i := 5) (v := ?v51) rfl (by kernel_rfl) (by kernel_rfl) (by kernel_rfl) (fun _ _ _ h => h) (Or.inl ⟨by kernel_rfl, ?y51⟩) (by assumption) ?_
        case y51 => (intro w hSw; (try dsimp only at hSw); go_simp; all_goals with_reducible rfl)
        try simp only [Act.put, List.getElem_toArray, List.getElem_cons_succ, List.getElem_cons_zero, List.setIfInBounds_toArray, List.set_cons_zero, List.set_cons_succ]
        refine wpAnyH_take (i := 6) (v := ?v52) rfl (by kernel_rfl) (by kernel_rfl) (by kernel_rfl) (fun _ _ _ h => h) (Or.inl ⟨by kernel_rfl, ?y52⟩) (by assumption) ?_
        case y52 => (intro w hSw; (try dsimp only at hSw); go_simp; all_goals with_reducible rfl)
        try simp only [Act.put, List.getElem_toArray, List.getElem_cons_succ, List.getElem_cons_zero, List.setIfInBounds_toArray, List.set_cons_zero, List.set_cons_succ]
        refine wpAnyH_take (i := 7) (v := ?v53) rfl (by kernel_rfl) (by kernel_rfl) (by kernel_rfl) (fun _ _ _ h => h) (Or.inl ⟨by kernel_rfl, ?y53⟩) (by assumption) ?_
        case y53 => (intro w hSw; (try dsimp only at hSw); go_simp; all_goals with_reducible rfl)
        try simp only [Act.put, List.getElem_toArray, List.getElem_cons_succ, List.getElem_cons_zero, List.setIfInBounds_toArray, List.set_cons_zero, List.set_cons_succ]
        refine wpAnyH_ready (rs := [9]) (by kernel_rfl) (by simp) (AllReadyH.cons rfl (fun K hK => ?_) AllReadyH.nil)
        refine st_bt_step rfl (.tmp 16) (.tmp 125) rfl _ rfl rfl (by simp [Value.oneCell']) MX.out rfl ?_
        intro W2 hb2 hf2
        refine hK.out _ _ ?_ (fun hHeld => ?_)
        · (try dsimp only); (first | (go_split_ands; exact ⟨kc f (by assumption), kc f (by assumption), kc f (by assumption), kc f (by assumption), kc f (by assumption), by assumption⟩) | (go_split_ands; exact ⟨(by assumption), (by assumption), (by assumption), (by assumption), (by assumption), by assumption⟩) | (go_split_ands; exact ⟨kc (fr1 _ _) (by assumption), kc (fr1 _ _) (by assumption), kc (fr1 _ _) (by assumption), kc (fr1 _ _) (by assumption), kc (fr1 _ _) (by assumption), kfa (by assumption)⟩) | (go_split_ands; exact ⟨kc (fr1d _ _) (by assumption), kc (fr1d _ _) (by assumption), kc (fr1d _ _) (by assumption), kc (fr1d _ _) (by assumption), kc (fr1d _ _) (by assumption), kfae (by assumption)⟩) | (exact ⟨kcs hf2 (by simp only []; omega) hHeld.1, kcs hf2 (by simp only []; omega) hHeld.2.1, kcs hf2 (by simp only []; omega) hHeld.2.2.1, kcs hf2 (by simp only []; omega) hHeld.2.2.2.1, kcs hf2 (by simp only []; omega) hHeld.2.2.2.2.1, kfg (by omega) FW hf2⟩) | (exact ⟨kcs hf2 (by simp only []; omega) hHeld.1, kcs hf2 (by simp only []; omega) hHeld.2.1, kcs hf2 (by simp only []; omega) hHeld.2.2.1, kcs hf2 (by simp only []; omega) hHeld.2.2.2.1, kcs hf2 (by simp only []; omega) hHeld.2.2.2.2.1, kfg (by omega) hHeld.2.2.2.2.2 hf2⟩) | (go_split_ands; exact ⟨kcs hf2 (by simp only []; omega) (by assumption), kcs hf2 (by simp only []; omega) (by assumption), kcs hf2 (by simp only []; omega) (by assumption), kcs hf2 (by simp only []; omega) (by assumption), kcs hf2 (by simp only []; omega) (by assumption), kfg (by omega) (by assumption) hf2⟩))
        clear hK K
        try simp only [Act.put, List.getElem_toArray, List.getElem_cons_succ, List.getElem_cons_zero]
        have FW := hHeld.2.2.2.2.2; have MX := hid hb2; have hne : wy.heap.size ≤ wy.heap.size := (by omega); have HX2 := hid (rdS_lo3 HXS.out hf2 (fun h0 g o hA e => by have q1 := HGX.out h0 g o hA; have e : g = wy.heap.size := e; (try rw [World.size_alloc] at q1); omega)); clear hf2 hb2
        refine wpAnyH_take (i := 10) (v := ?v54) rfl (by kernel_rfl) (by kernel_rfl) (by kernel_rfl) (fun _ _ _ h => h) (Or.inl ⟨by kernel_rfl, ?y54⟩) (by assumption) ?_
        case y54 => (intro w hSw; (try dsimp only at hSw); go_simp; all_goals with_reducible rfl)
        try simp only [Act.put, List.getElem_toArray, List.getElem_cons_succ, List.getElem_cons_zero, List.setIfInBounds_toArray, List.set_cons_zero, List.set_cons_succ]
        refine wpAnyH_take (i := 11) (v := ?v55) rfl (by kernel_rfl) (by kernel_rfl) (by kernel_rfl) (fun _ _ _ h => h) (Or.inl ⟨by kernel_rfl, ?y55⟩) (by assumption) ?_
        case y55 => (intro w hSw; (try dsimp only at hSw); go_simp; all_goals with_reducible rfl)
        try simp only [Act.put, List.getElem_toArray, List.getElem_cons_succ, List.getElem_cons_zero, List.setIfInBounds_toArray, List.set_cons_zero, List.set_cons_succ]
        refine wpAnyH_done (by kernel_rfl) ?_ _
        refine NoPanic.normal ?_
        go_wp2_with fail
        go_meet
        case rel => (try refine ⟨_, _, _, ?_, rfl, rfl, rfl⟩); exact ⟨_, _, _, rfl, rfl, rfl, MX.out, hne, HX2.out, FW.out⟩
    case rest =>
      clear g0 g1 g2 g3 g4 hGL FW
      obtain ⟨M2, A2, c2, rfl, rfl, rfl, hB, _, hx2, hf⟩ := hcut
      replace FG := hid (FG.out.trans hf)
      replace P0 := hid (BG.fr P0.out hf)
      replace P1 := hid (BB.fr P1.out hf)
      replace HSB := hid (HSB.out.fr hf)
      replace B1 := hid (BB.fr B1.out hf)
      replace X1 := hid (X1.out.fr hf)
      replace Y1 := hid (Y1.out.fr hf (fun _ _ _ h => h))
      have B2 := hid hB
      have X2 := hid hx2
      clear hB hx2 hf
      obtain ⟨wu, hwu⟩ : ∃ zz, wc = zz := ⟨_, rfl⟩
      rw [hwu] at FG P0 P1 HSB B1 X1 Y1 B2 X2
      try rw [hwu]
      clear hwu
      obtain ⟨g0, g1, g2, g3, g4⟩ := P0.out.cells
      have hGL : G + 1 < wu.heap.size := Blk.lt P1.out
      have FW : Hid (Fr No wu wu) := hid (Fr.refl No _)
      go_upto_region 15 with fail
      go_cut [19, 20, 21] (fun _ s' _ wx => s' = .int .u32 sum ∧ Fr No wu wx)
      case first =>
        have FW := kd FW
        refine wp_region_noPanic ?_
        refine wp_region_held_drew (S := (fun W' => W'.cell? ⟨G, 0, none⟩ = some (.int .i64 gc) ∧ W'.cell? ⟨G, 1, none⟩ = some (.int .i64 gs) ∧ W'.cell? ⟨G, 2, none⟩ = some (.int .i64 gn) ∧ W'.cell? ⟨G, 3, none⟩ = some (.int .i64 gl) ∧ W'.cell? ⟨G, 4, none⟩ = some (.int .i64 gk) ∧ Hid (Fr No wu W'))) (by kernel_rfl) ?_ (fun hHeld => ?_)
        · (try dsimp only); (first | (go_split_ands; exact ⟨kc f (by assumption), kc f (by assumption), kc f (by assumption), kc f (by assumption), kc f (by assumption), by assumption⟩) | (go_split_ands; exact ⟨(by assumption), (by assumption), (by assumption), (by assumption), (by assumption), by assumption⟩) | (go_split_ands; exact ⟨kc (fr1 _ _) (by assumption), kc (fr1 _ _) (by assumption), kc (fr1 _ _) (by assumption), kc (fr1 _ _) (by assumption), kc (fr1 _ _) (by assumption), kfa (by assumption)⟩) | (go_split_ands; exact ⟨kc (fr1d _ _) (by assumption), kc (fr1d _ _) (by assumption), kc (fr1d _ _) (by assumption), kc (fr1d _ _) (by assumption), kc (fr1d _ _) (by assumption), kfae (by assumption)⟩) | (exact ⟨kcs hf2 (by simp only []; omega) hHeld.1, kcs hf2 (by simp only []; omega) hHeld.2.1, kcs hf2 (by simp only []; omega) hHeld.2.2.1, kcs hf2 (by simp only []; omega) hHeld.2.2.2.1, kcs hf2 (by simp only []; omega) hHeld.2.2.2.2.1, kfg (by omega) FW hf2⟩) | (exact ⟨kcs hf2 (by simp only []; omega) hHeld.1, kcs hf2 (by simp only []; omega) hHeld.2.1, kcs hf2 (by simp only []; omega) hHeld.2.2.1, kcs hf2 (by simp only []; omega) hHeld.2.2.2.1, kcs hf2 (by simp only []; omega) hHeld.2.2.2.2.1, kfg (by omega) hHeld.2.2.2.2.2 hf2⟩) | (go_split_ands; exact ⟨kcs hf2 (by simp only []; omega) (by assumption), kcs hf2 (by simp only []; omega) (by assumption), kcs hf2 (by simp only []; omega) (by assumption), kcs hf2 (by simp only []; omega) (by assumption), kcs hf2 (by simp only []; omega) (by assumption), kfg (by omega) (by assumption) hf2⟩))
        refine wpAnyH_take (i := 0) (v := ?v56) rfl (by kernel_rfl) (by kernel_rfl) (by kernel_rfl) (fun _ _ _ h => h) (Or.inl ⟨by kernel_rfl, ?y56⟩) (by assumption) ?_
        case y56 => (intro w hSw; (try dsimp only at hSw); go_simp; all_goals with_reducible rfl)
        try simp only [Act.put, List.getElem_toArray, List.getElem_cons_zero, List.setIfInBounds_toArray, List.set_cons_zero, List.set_cons_succ]
        refine wpAnyH_take (i := 1) (v := ?v57) rfl (by kernel_rfl) (by kernel_rfl) (by kernel_rfl) (fun _ _ _ h => h) (Or.inl ⟨by kernel_rfl, ?y57⟩) (by assumption) ?_
        case y57 => (intro w hSw; (try dsimp only at hSw); go_simp; all_goals with_reducible rfl)
        try simp only [Act.put, List.getElem_toArray, List.getElem_cons_succ, List.getElem_cons_zero, List.setIfInBounds_toArray, List.set_cons_zero, List.set_cons_succ]
        refine wpAnyH_take (i := 2) (v := ?v58) rfl (by kernel_rfl) (by kernel_rfl) (by kernel_rfl) (fun _ _ _ h => h) (Or.inl ⟨by kernel_rfl, ?y58⟩) (by assumption) ?_
        case y58 => (intro w hSw; (try dsimp only at hSw); go_simp; all_goals with_reducible rfl)
        try simp only [Act.put, List.getElem_toArray, List.getElem_cons_succ, List.getElem_cons_zero, List.setIfInBounds_toArray, List.set_cons_zero, List.set_cons_succ]
        refine wpAnyH_ready (rs := [3, 8]) (by kernel_rfl) (by simp) (AllReadyH.cons rfl (fun K hK => ?_) (AllReadyH.cons rfl (fun K hK => ?_) AllReadyH.nil))
        · go_simp
          go_at_call 15
          refine (HC2.out _ (HSB.out.fr (hHeld.2.2.2.2.2).out)).mono ?_
          rintro e W1 ⟨Ah, ch, rfl, hxs, hfr, f⟩
          have FW := kf f hHeld.2.2.2.2.2
          have HXS := hid hxs
          have HFQ := hid (fun g o h => Nat.le_trans (show wu.heap.size ≤ _ from by first | exact hszA | exact Nat.le_refl _) (hfr g o h))
          (try have MX := hid (Blk.fr MX.out f (fun h => h)))
          have hsz1 : wu.heap.size ≤ W1.heap.size := (by first | exact f.size | (have q1 := f.size; have q2 := hszA; omega))
          have HGX := hid (rdS_gx HXS.out hfr)
          dsimp only
          refine hK.out _ _ ?_ (fun hHeld => ?_)
          · (try dsimp only); (first | (go_split_ands; exact ⟨kc f (by assumption), kc f (by assumption), kc f (by assumption), kc f (by assumption), kc f (by assumption), by assumption⟩) | (go_split_ands; exact ⟨(by assumption), (by assumption), (by assumption), (by assumption), (by assumption), by assumption⟩) | (go_split_ands; exact ⟨kc (fr1 _ _) (by assumption), kc (fr1 _ _) (by assumption), kc (fr1 _ _) (by assumption), kc (fr1 _ _) (by assumption), kc (fr1 _ _) (by assumption), kfa (by assumption)⟩) | (go_split_ands; exact ⟨kc (fr1d _ _) (by assumption), kc (fr1d _ _) (by assumption), kc (fr1d _ _) (by assumption), kc (fr1d _ _) (by assumption), kc (fr1d _ _) (by assumption), kfae (by assumption)⟩) | (exact ⟨kcs hf2 (by simp only []; omega) hHeld.1, kcs hf2 (by simp only []; omega) hHeld.2.1, kcs hf2 (by simp only []; omega) hHeld.2.2.1, kcs hf2 (by simp only []; omega) hHeld.2.2.2.1, kcs hf2 (by simp only []; omega) hHeld.2.2.2.2.1, kfg (by omega) FW hf2⟩) | (exact ⟨kcs hf2 (by simp only []; omega) hHeld.1, kcs hf2 (by simp only []; omega) hHeld.2.1, kcs hf2 (by simp only []; omega) hHeld.2.2.1, kcs hf2 (by simp only []; omega) hHeld.2.2.2.1, kcs hf2 (by simp only []; omega) hHeld.2.2.2.2.1, kfg (by omega) hHeld.2.2.2.2.2 hf2⟩) | (go_split_ands; exact ⟨kcs hf2 (by simp only []; omega) (by assumption), kcs hf2 (by simp only []; omega) (by assumption), kcs hf2 (by simp only []; omega) (by assumption), kcs hf2 (by simp only []; omega) (by assumption), kcs hf2 (by simp only []; omega) (by assumption), kfg (by omega) (by assumption) hf2⟩))
          clear hK K
          try simp only [Act.put, List.getElem_toArray, List.getElem_cons_succ, List.getElem_cons_zero, List.setIfInBounds_toArray, List.set_cons_zero, List.set_cons_succ]
          refine wpAnyH_take (i := 4) (v := ?v59) rfl (by kernel_rfl) (by kernel_rfl) (by kernel_rfl) (fun _ _ _ h => h) (Or.inl ⟨by kernel_rfl, ?y59⟩) (by assumption) ?_
          case y59 => (intro w hSw; (try dsimp only at hSw); go_simp; all_goals with_reducible rfl)
          try simp only [Act.put, List.getElem_toArray, List.getElem_cons_succ, List.getElem_cons_zero, List.setIfInBounds_toArray, List.set_cons_zero, List.set_cons_succ]
          refine wpAnyH_take (i := 5) (v := ?v60) rfl (by kernel_rfl) (by kernel_rfl) (by kernel_rfl) (fun _ _ _ h => h) (Or.inl ⟨by kernel_rfl, ?y60⟩) (by assumption) ?_
          case y60 => (intro w hSw; (try dsimp only at hSw); go_simp; all_goals with_reducible rfl)
          try simp only [Act.put, List.getElem_toArray, List.getElem_cons_succ, List.getElem_cons_zero, List.setIfInBounds_toArray, List.set_cons_zero, List.set_cons_succ]
          refine wpAnyH_take (i := 6) (v := ?v61) rfl (by kernel_rfl) (by kernel_rfl) (by kernel_rfl) (fun _ _ _ h => h) (Or.inl ⟨by kernel_rfl, ?y61⟩) (by assumption) ?_
          case y61 => (intro w hSw; (try dsimp only at hSw); go_simp; all_goals with_reducible rfl)
          try simp only [Act.put, List.getElem_toArray, List.getElem_cons_succ, List.getElem_cons_zero, List.setIfInBounds_toArray, List.set_cons_zero, List.set_cons_succ]
          refine wpAnyH_take (i := 7) (v := ?v62) rfl (by kernel_rfl) (by kernel_rfl) (by kernel_rfl) (fun _ _ _ h => h) (Or.inl ⟨by kernel_rfl, ?y62⟩) (by assumption) ?_
          case y62 => (intro w hSw; (try dsimp only at hSw); go_simp; all_goals with_reducible rfl)
          try simp only [Act.put, List.getElem_toArray, List.getElem_cons_succ, List.getElem_cons_zero, List.setIfInBounds_toArray, List.set_cons_zero, List.set_cons_succ]
          refine wpAnyH_ready (rs := [8]) (by kernel_rfl) (by simp) (AllReadyH.cons rfl (fun K hK => ?_) AllReadyH.nil)
          go_simp
          refine hK.out _ _ ?_ (fun hHeld => ?_)
          · (try dsimp only); (first | (go_split_ands; exact ⟨kc f (by assumption), kc f (by assumption), kc f (by assumption), kc f (by assumption), kc f (by assumption), by assumption⟩) | (go_split_ands; exact ⟨(by assumption), (by assumption), (by assumption), (by assumption), (by assumption), by assumption⟩) | (go_split_ands; exact ⟨kc (fr1 _ _) (by assumption), kc (fr1 _ _) (by assumption), kc (fr1 _ _) (by assumption), kc (fr1 _ _) (by assumption), kc (fr1 _ _) (by assumption), kfa (by assumption)⟩) | (go_split_ands; exact ⟨kc (fr1d _ _) (by assumption), kc (fr1d _ _) (by assumption), kc (fr1d _ _) (by assumption), kc (fr1d _ _) (by assumption), kc (fr1d _ _) (by assumption), kfae (by assumption)⟩) | (exact ⟨kcs hf2 (by simp only []; omega) hHeld.1, kcs hf2 (by simp only []; omega) hHeld.2.1, kcs hf2 (by simp only []; omega) hHeld.2.2.1, kcs hf2 (by simp only []; omega) hHeld.2.2.2.1, kcs hf2 (by simp only []; omega) hHeld.2.2.2.2.1, kfg (by omega) FW hf2⟩) | (exact ⟨kcs hf2 (by simp only []; omega) hHeld.1, kcs hf2 (by simp only []; omega) hHeld.2.1, kcs hf2 (by simp only []; omega) hHeld.2.2.1, kcs hf2 (by simp only []; omega) hHeld.2.2.2.1, kcs hf2 (by simp only []; omega) hHeld.2.2.2.2.1, kfg (by omega) hHeld.2.2.2.2.2 hf2⟩) | (go_split_ands; exact ⟨kcs hf2 (by simp only []; omega) (by assumption), kcs hf2 (by simp only []; omega) (by assumption), kcs hf2 (by simp only []; omega) (by assumption), kcs hf2 (by simp only []; omega) (by assumption), kcs hf2 (by simp only []; omega) (by assumption), kfg (by omega) (by assumption) hf2⟩))
          clear hK K
          try simp only [Act.put, List.getElem_toArray, List.getElem_cons_succ, List.getElem_cons_zero, List.setIfInBounds_toArray, List.set_cons_zero, List.set_cons_succ]
          have MX := hid (Blk.new W1 26 #[.int .i64 0, .int .i64 0, .slice none 0 0]); have HXS := hid (HXS.out.fr (fr1 W1 (.cells #[.int .i64 0, .int .i64 0, .slice none 0 0] 26)))
          refine wpAnyH_ready (rs := [9]) (by kernel_rfl) (by simp) (AllReadyH.cons rfl (fun K hK => ?_) AllReadyH.nil)
          refine st_bt_step rfl (.tmp 19) (.tmp 133) rfl _ rfl rfl (by simp [Value.oneCell']) MX.out rfl ?_
          intro W2 hb2 hf2
          refine hK.out _ _ ?_ (fun hHeld => ?_)
          · (try dsimp only); (first | (go_split_ands; exact ⟨kc f (by assumption), kc f (by assumption), kc f (by assumption), kc f (by assumption), kc f (by assumption), by assumption⟩) | (go_split_ands; exact ⟨(by assumption), (by assumption), (by assumption), (by assumption), (by assumption), by assumption⟩) | (go_split_ands; exact ⟨kc (fr1 _ _) (by assumption), kc (fr1 _ _) (by assumption), kc (fr1 _ _) (by assumption), kc (fr1 _ _) (by assumption), kc (fr1 _ _) (by assumption), kfa (by assumption)⟩) | (go_split_ands; exact ⟨kc (fr1d _ _) (by assumption), kc (fr1d _ _) (by assumption), kc (fr1d _ _) (by assumption), kc (fr1d _ _) (by assumption), kc (fr1d _ _) (by assumption), kfae (by assumption)⟩) | (exact ⟨kcs hf2 (by simp only []; omega) hHeld.1, kcs hf2 (by simp only []; omega) hHeld.2.1, kcs hf2 (by simp only []; omega) hHeld.2.2.1, kcs hf2 (by simp only []; omega) hHeld.2.2.2.1, kcs hf2 (by simp only []; omega) hHeld.2.2.2.2.1, kfg (by omega) FW hf2⟩) | (exact ⟨kcs hf2 (by simp only []; omega) hHeld.1, kcs hf2 (by simp only []; omega) hHeld.2.1, kcs hf2 (by simp only []; omega) hHeld.2.2.1, kcs hf2 (by simp only []; omega) hHeld.2.2.2.1, kcs hf2 (by simp only []; omega) hHeld.2.2.2.2.1, kfg (by omega) hHeld.2.2.2.2.2 hf2⟩) | (go_split_ands; exact ⟨kcs hf2 (by simp only []; omega) (by assumption), kcs hf2 (by simp only []; omega) (by assumption), kcs hf2 (by simp only []; omega) (by assumption), kcs hf2 (by simp only []; omega) (by assumption), kcs hf2 (by simp only []; omega) (by assumption), kfg (by omega) (by assumption) hf2⟩))
          clear hK K
          try simp only [Act.put, List.getElem_toArray, List.getElem_cons_succ, List.getElem_cons_zero]
          have FW := hHeld.2.2.2.2.2; have MX := hid hb2; have hne : wu.heap.size ≤ W1.heap.size := (by omega); have HX2 := hid (rdS_lo3 HXS.out hf2 (fun h0 g o hA e => by have q1 := HGX.out h0 g o hA; have e : g = W1.heap.size := e; (try rw [World.size_alloc] at q1); omega)); clear hf2 hb2
          refine wpAnyH_take (i := 10) (v := ?v63) rfl (by kernel_rfl) (by kernel_rfl) (by kernel_rfl) (fun _ _ _ h => h) (Or.inl ⟨by kernel_rfl, ?y63⟩) (by assumption) ?_
          case y63 => (intro w hSw; (try dsimp only at hSw); go_simp; all_goals with_reducible rfl)
          try simp only [Act.put, List.getElem_toArray, List.getElem_cons_succ, List.getElem_cons_zero, List.setIfInBounds_toArray, List.set_cons_zero, List.set_cons_succ]
          refine wpAnyH_take (i := 11) (v := ?v64) rfl (by kernel_rfl) (by kernel_rfl) (by kernel_rfl) (fun _ _ _ h => h) (Or.inl ⟨by kernel_rfl, ?y64⟩) (by assumption) ?_
          case y64 => (intro w hSw; (try dsimp only at hSw); go_simp; all_goals with_reducible rfl)
          try simp only [Act.put, List.getElem_toArray, List.getElem_cons_succ, List.getElem_cons_zero, List.setIfInBounds_toArray, List.set_cons_zero, List.set_cons_succ]
          refine wpAnyH_done (by kernel_rfl) ?_ _
          refine NoPanic.normal ?_
          go_wp2_with fail
          go_meet
          case rel => (try refine ⟨_, _, _, ?_, rfl, rfl, rfl⟩); exact ⟨rfl, FW.out⟩
        · go_simp
          refine hK.out _ _ ?_ (fun hHeld => ?_)
          · (try dsimp only); (first | (go_split_ands; exact ⟨kc f (by assumption), kc f (by assumption), kc f (by assumption), kc f (by assumption), kc f (by assumption), by assumption⟩) | (go_split_ands; exact ⟨(by assumption), (by assumption), (by assumption), (by assumption), (by assumption), by assumption⟩) | (go_split_ands; exact ⟨kc (fr1 _ _) (by assumption), kc (fr1 _ _) (by assumption), kc (fr1 _ _) (by assumption), kc (fr1 _ _) (by assumption), kc (fr1 _ _) (by assumption), kfa (by assumption)⟩) | (go_split_ands; exact ⟨kc (fr1d _ _) (by assumption), kc (fr1d _ _) (by assumption), kc (fr1d _ _) (by assumption), kc (fr1d _ _) (by assumption), kc (fr1d _ _) (by assumption), kfae (by assumption)⟩) | (exact ⟨kcs hf2 (by simp only []; omega) hHeld.1, kcs hf2 (by simp only []; omega) hHeld.2.1, kcs hf2 (by simp only []; omega) hHeld.2.2.1, kcs hf2 (by simp only []; omega) hHeld.2.2.2.1, kcs hf2 (by simp only []; omega) hHeld.2.2.2.2.1, kfg (by omega) FW hf2⟩) | (exact ⟨kcs hf2 (by simp only []; omega) hHeld.1, kcs hf2 (by simp only []; omega) hHeld.2.1, kcs hf2 (by simp only []; omega) hHeld.2.2.1, kcs hf2 (by simp only []; omega) hHeld.2.2.2.1, kcs hf2 (by simp only []; omega) hHeld.2.2.2.2.1, kfg (by omega) hHeld.2.2.2.2.2 hf2⟩) | (go_split_ands; exact ⟨kcs hf2 (by simp only []; omega) (by assumption), kcs hf2 (by simp only []; omega) (by assumption), kcs hf2 (by simp only []; omega) (by assumption), kcs hf2 (by simp only []; omega) (by assumption), kcs hf2 (by simp only []; omega) (by assumption), kfg (by omega) (by assumption) hf2⟩))
          clear hK K
          try simp only [Act.put, List.getElem_toArray, List.getElem_cons_succ, List.getElem_cons_zero, List.setIfInBounds_toArray, List.set_cons_zero, List.set_cons_succ]
          have MX := hid (show Blk (wu.alloc (.cells #[.int .i64 0, .int .i64 0, .slice none 0 0] 26)).drew wu.heap.size 26 #[.int .i64 0, .int .i64 0, .slice none 0 0] from Blk.new wu _ _); have hszA : wu.heap.size ≤ (wu.alloc (.cells #[.int .i64 0, .int .i64 0, .slice none 0 0] 26)).drew.heap.size := (by show wu.heap.size ≤ (wu.alloc (.cells #[.int .i64 0, .int .i64 0, .slice none 0 0] 26)).heap.size; rw [World.size_alloc]; omega); have hszA2 : wu.heap.size + 1 ≤ (wu.alloc (.cells #[.int .i64 0, .int .i64 0, .slice none 0 0] 26)).drew.heap.size := (by show wu.heap.size + 1 ≤ (wu.alloc (.cells #[.int .i64 0, .int .i64 0, .slice none 0 0] 26)).heap.size; rw [World.size_alloc]; exact Nat.le_refl _)
          refine wpAnyH_ready (rs := [3]) (by kernel_rfl) (by simp) (AllReadyH.cons rfl (fun K hK => ?_) AllReadyH.nil)
          go_simp
          go_at_call 15
          refine (HC2.out _ (HSB.out.fr (hHeld.2.2.2.2.2).out)).mono ?_
          rintro e W1 ⟨Ah, ch, rfl, hxs, hfr, f⟩
          have FW := kf f hHeld.2.2.2.2.2
          have HXS := hid hxs
          have HFQ := hid (fun g o h => Nat.le_trans (show wu.heap.size ≤ _ from by first | exact hszA | exact Nat.le_refl _) (hfr g o h))
          (try have MX := hid (Blk.fr MX.out f (fun h => h)))
          have hsz1 : wu.heap.size ≤ W1.heap.size := (by first | exact f.size | (have q1 := f.size; have q2 := hszA; omega))
          have HGX := hid (rdS_gx HXS.out hfr)
          dsimp only
          refine hK.out _ _ ?_ (fun hHeld => ?_)
          · (try dsimp only); (first | (go_split_ands; exact ⟨kc f (by assumption), kc f (by assumption), kc f (by assumption), kc f (by assumption), kc f (by assumption), by assumption⟩) | (go_split_ands; exact ⟨(by assumption), (by assumption), (by assumption), (by assumption), (by assumption), by assumption⟩) | (go_split_ands; exact ⟨kc (fr1 _ _) (by assumption), kc (fr1 _ _) (by assumption), kc (fr1 _ _) (by assumption), kc (fr1 _ _) (by assumption), kc (fr1 _ _) (by assumption), kfa (by assumption)⟩) | (go_split_ands; exact ⟨kc (fr1d _ _) (by assumption), kc (fr1d _ _) (by assumption), kc (fr1d _ _) (by assumption), kc (fr1d _ _) (by assumption), kc (fr1d _ _) (by assumption), kfae (by assumption)⟩) | (exact ⟨kcs hf2 (by simp only []; omega) hHeld.1, kcs hf2 (by simp only []; omega) hHeld.2.1, kcs hf2 (by simp only []; omega) hHeld.2.2.1, kcs hf2 (by simp only []; omega) hHeld.2.2.2.1, kcs hf2 (by simp only []; omega) hHeld.2.2.2.2.1, kfg (by omega) FW hf2⟩) | (exact ⟨kcs hf2 (by simp only []; omega) hHeld.1, kcs hf2 (by simp only []; omega) hHeld.2.1, kcs hf2 (by simp only []; omega) hHeld.2.2.1, kcs hf2 (by simp only []; omega) hHeld.2.2.2.1, kcs hf2 (by simp only []; omega) hHeld.2.2.2.2.1, kfg (by omega) hHeld.2.2.2.2.2 hf2⟩) | (go_split_ands; exact ⟨kcs hf2 (by simp only []; omega) (by assumption), kcs hf2 (by simp only []; omega) (by assumption), kcs hf2 (by simp only []; omega) (by assumption), kcs hf2 (by simp only []; omega) (by assumption), kcs hf2 (by simp only []; omega) (by assumption), kfg (by omega) (by assumption) hf2⟩))
          clear hK K
          try simp only [Act.put, List.getElem_toArray, List.getElem_cons_succ, List.getElem_cons_zero, List.setIfInBounds_toArray, List.set_cons_zero, List.set_cons_succ]
          refine wpAnyH_take (i := 4) (v := ?v65) rfl (by kernel_rfl) (by kernel_rfl) (by kernel_rfl) (fun _ _ _ h => h) (Or.inl ⟨by kernel_rfl, ?y65⟩) (by assumption) ?_
          case y65 => (intro w hSw; (try dsimp only at hSw); go_simp; all_goals with_reducible rfl)
          try simp only [Act.put, List.getElem_toArray, List.getElem_cons_succ, List.getElem_cons_zero, List.setIfInBounds_toArray, List.set_cons_zero, List.set_cons_succ]
          refine wpAnyH_take (i := 5) (v := ?v66) rfl (by kernel_rfl) (by kernel_rfl) (by kernel_rfl) (fun _ _ _ h => h) (Or.inl ⟨by kernel_rfl, ?y66⟩) (by assumption) ?_
          case y66 => (intro w hSw; (try dsimp only at hSw); go_simp; all_goals with_reducible rfl)
          try simp only [Act.put, List.getElem_toArray, List.getElem_cons_succ, List.getElem_cons_zero, List.setIfInBounds_toArray, List.set_cons_zero, List.set_cons_succ]
          refine wpAnyH_take (i := 6) (v := ?v67) rfl (by kernel_rfl) (by kernel_rfl) (by kernel_rfl) (fun _ _ _ h => h) (Or.inl ⟨by kernel_rfl, ?y67⟩) (by assumption) ?_
          case y67 => (intro w hSw; (try dsimp only at hSw); go_simp; all_goals with_reducible rfl)
          try simp only [Act.put, List.getElem_toArray, List.getElem_cons_succ, List.getElem_cons_zero, List.setIfInBounds_toArray, List.set_cons_zero, List.set_cons_succ]
          refine wpAnyH_take (i := 7) (v := ?v68) rfl (by kernel_rfl) (by kernel_rfl) (by kernel_rfl) (fun _ _ _ h => h) (Or.inl ⟨by kernel_rfl, ?y68⟩) (by assumption) ?_
          case y68 => (intro w hSw; (try dsimp only at hSw); go_simp; all_goals with_reducible rfl)
          try simp only [Act.put, List.getElem_toArray, List.getElem_cons_succ, List.getElem_cons_zero, List.setIfInBounds_toArray, List.set_cons_zero, List.set_cons_succ]
          refine wpAnyH_ready (rs := [9]) (by kernel_rfl) (by simp) (AllReadyH.cons rfl (fun K hK => ?_) AllReadyH.nil)
          refine st_bt_step rfl (.tmp 19) (.tmp 133) rfl _ rfl rfl (by simp [Value.oneCell']) MX.out rfl ?_
          intro W2 hb2 hf2
          refine hK.out _ _ ?_ (fun hHeld => ?_)
          · (try dsimp only); (first | (go_split_ands; exact ⟨kc f (by assumption), kc f (by assumption), kc f (by assumption), kc f (by assumption), kc f (by assumption), by assumption⟩) | (go_split_ands; exact ⟨(by assumption), (by assumption), (by assumption), (by assumption), (by assumption), by assumption⟩) | (go_split_ands; exact ⟨kc (fr1 _ _) (by assumption), kc (fr1 _ _) (by assumption), kc (fr1 _ _) (by assumption), kc (fr1 _ _) (by assumption), kc (fr1 _ _) (by assumption), kfa (by assumption)⟩) | (go_split_ands; exact ⟨kc (fr1d _ _) (by assumption), kc (fr1d _ _) (by assumption), kc (fr1d _ _) (by assumption), kc (fr1d _ _) (by assumption), kc (fr1d _ _) (by assumption), kfae (by assumption)⟩) | (exact ⟨kcs hf2 (by simp only []; omega) hHeld.1, kcs hf2 (by simp only []; omega) hHeld.2.1, kcs hf2 (by simp only []; omega) hHeld.2.2.1, kcs hf2 (by simp only []; omega) hHeld.2.2.2.1, kcs hf2 (by simp only []; omega) hHeld.2.2.2.2.1, kfg (by omega) FW hf2⟩) | (exact ⟨kcs hf2 (by simp only []; omega) hHeld.1, kcs hf2 (by simp only []; omega) hHeld.2.1, kcs hf2 (by simp only []; omega) hHeld.2.2.1, kcs hf2 (by simp only []; omega) hHeld.2.2.2.1, kcs hf2 (by simp only []; omega) hHeld.2.2.2.2.1, kfg (by omega) hHeld.2.2.2.2.2 hf2⟩) | (go_split_ands; exact ⟨kcs hf2 (by simp only []; omega) (by assumption), kcs hf2 (by simp only []; omega) (by assumption), kcs hf2 (by simp only []; omega) (by assumption), kcs hf2 (by simp only []; omega) (by assumption), kcs hf2 (by simp only []; omega) (by assumption), kfg (by omega) (by assumption) hf2⟩))
          clear hK K
          try simp only [Act.put, List.getElem_toArray, List.getElem_cons_succ, List.getElem_cons_zero]
          have FW := hHeld.2.2.2.2.2; have MX := hid hb2; have hne : wu.heap.size ≤ wu.heap.size := (by omega); have HX2 := hid (rdS_lo3 HXS.out hf2 (fun h0 g o hA e => by have q1 := HGX.out h0 g o hA; have e : g = wu.heap.size := e; (try rw [World.size_alloc] at q1); omega)); clear hf2 hb2
          refine wpAnyH_take (i := 10) (v := ?v69) rfl (by kernel_rfl) (by kernel_rfl) (by kernel_rfl) (fun _ _ _ h => h) (Or.inl ⟨by kernel_rfl, ?y69⟩) (by assumption) ?_
          case y69 => (intro w hSw; (try dsimp only at hSw); go_simp; all_goals with_reducible rfl)
          try simp only [Act.put, List.getElem_toArray, List.getElem_cons_succ, List.getElem_cons_zero, List.setIfInBounds_toArray, List.set_cons_zero, List.set_cons_succ]
          refine wpAnyH_take (i := 11) (v := ?v70) rfl (by kernel_rfl) (by kernel_rfl) (by kernel_rfl) (fun _ _ _ h => h) (Or.inl ⟨by kernel_rfl, ?y70⟩) (by assumption) ?_
          case y70 => (intro w hSw; (try dsimp only at hSw); go_simp; all_goals with_reducible rfl)
          try simp only [Act.put, List.getElem_toArray, List.getElem_cons_succ, List.getElem_cons_zero, List.setIfInBounds_toArray, List.set_cons_zero, List.set_cons_succ]
          refine wpAnyH_done (by kernel_rfl) ?_ _
          refine NoPanic.normal ?_
          go_wp2_with fail
          go_meet
          case rel => (try refine ⟨_, _, _, ?_, rfl, rfl, rfl⟩); exact ⟨rfl, FW.out⟩
      case rest =>
        clear g0 g1 g2 g3 g4 hGL FW
        obtain ⟨rfl, hf⟩ := hcut
        replace FG := hid (FG.out.trans hf)
        replace P0 := hid (BG.fr P0.out hf)
        replace P1 := hid (BB.fr P1.out hf)
        replace HSB := hid (HSB.out.fr hf)
        replace B1 := hid (BB.fr B1.out hf)
        replace X1 := hid (X1.out.fr hf)
        replace Y1 := hid (Y1.out.fr hf (fun _ _ _ h => h))
        replace B2 := hid (BB.fr B2.out hf)
        replace X2 := hid (X2.out.fr hf)
        clear hf
        obtain ⟨wv, hwv⟩ : ∃ zz, wc = zz := ⟨_, rfl⟩
        rw [hwv] at FG P0 P1 HSB B1 X1 Y1 B2 X2
        try rw [hwv]
        clear hwv
        have HBC := hbc_ok HMB HZL HDL HSE
        have hzc : dl ≤ S.length := by have h9 := HSL.out; rw [HZL.out] at h9; omega
        rw [HZL.out] at HBC
        have HC3 := hid (fun W (hi : IsB W As S.length cs S) (ht : TabAt W) => dec_n gc gs gn gl gk As dl cs (S.take dl) W HS.out HM.out (isB_take hi hzc) ht HBC.out)
        have hsub : wrap64 ((S.length : Int) - 128) = (dl : Int) := by have h9 := HSL.out; rw [HZL.out] at h9; have := HSM.out; exact (w64 _ (by omega)).trans (by omega)
        have hsub2 : IntKind.i64.wrap ((S.length : Int) - 128) = (dl : Int) := by have h9 := HSL.out; rw [HZL.out] at h9; have := HSM.out; exact (Go.IntWalk.i64_in _ (by omega)).trans (by omega)
        have hzc1 : dl ≤ cs := Nat.le_trans hzc hSc
        have hzc2 : (dl : Int) ≤ cs := by omega
        obtain ⟨g0, g1, g2, g3, g4⟩ := P0.out.cells
        have hGL : G + 1 < wv.heap.size := Blk.lt P1.out
        have FW : Hid (Fr No wv wv) := hid (Fr.refl No _)
        go_upto_region 16 with fail
        go_cut [22, 23, 24] (fun _ _ e' wx => e' = .int .i64 10 ∧ Fr No wv wx)
        case first =>
          have FW := kd FW
          refine wp_region_noPanic ?_
          refine wp_region_held_drew (S := (fun W' => W'.cell? ⟨G, 0, none⟩ = some (.int .i64 gc) ∧ W'.cell? ⟨G, 1, none⟩ = some (.int .i64 gs) ∧ W'.cell? ⟨G, 2, none⟩ = some (.int .i64 gn) ∧ W'.cell? ⟨G, 3, none⟩ = some (.int .i64 gl) ∧ W'.cell? ⟨G, 4, none⟩ = some (.int .i64 gk) ∧ Hid (Fr No wv W'))) (by kernel_rfl) ?_ (fun hHeld => ?_)
          · (try dsimp only); (first | (go_split_ands; exact ⟨kc f (by assumption), kc f (by assumption), kc f (by assumption), kc f (by assumption), kc f (by assumption), by assumption⟩) | (go_split_ands; exact ⟨(by assumption), (by assumption), (by assumption), (by assumption), (by assumption), by assumption⟩) | (go_split_ands; exact ⟨kc (fr1 _ _) (by assumption), kc (fr1 _ _) (by assumption), kc (fr1 _ _) (by assumption), kc (fr1 _ _) (by assumption), kc (fr1 _ _) (by assumption), kfa (by assumption)⟩) | (go_split_ands; exact ⟨kc (fr1d _ _) (by assumption), kc (fr1d _ _) (by assumption), kc (fr1d _ _) (by assumption), kc (fr1d _ _) (by assumption), kc (fr1d _ _) (by assumption), kfae (by assumption)⟩) | (exact ⟨kcs hf2 (by simp only []; omega) hHeld.1, kcs hf2 (by simp only []; omega) hHeld.2.1, kcs hf2 (by simp only []; omega) hHeld.2.2.1, kcs hf2 (by simp only []; omega) hHeld.2.2.2.1, kcs hf2 (by simp only []; omega) hHeld.2.2.2.2.1, kfg (by omega) FW hf2⟩) | (exact ⟨kcs hf2 (by simp only []; omega) hHeld.1, kcs hf2 (by simp only []; omega) hHeld.2.1, kcs hf2 (by simp only []; omega) hHeld.2.2.1, kcs hf2 (by simp only []; omega) hHeld.2.2.2.1, kcs hf2 (by simp only []; omega) hHeld.2.2.2.2.1, kfg (by omega) hHeld.2.2.2.2.2 hf2⟩) | (go_split_ands; exact ⟨kcs hf2 (by simp only []; omega) (by assumption), kcs hf2 (by simp only []; omega) (by assumption), kcs hf2 (by simp only []; omega) (by assumption), kcs hf2 (by simp only []; omega) (by assumption), kcs hf2 (by simp only []; omega) (by assumption), kfg (by omega) (by assumption) hf2⟩))
          refine wpAnyH_take (i := 0) (v := ?v71) rfl (by kernel_rfl) (by kernel_rfl) (by kernel_rfl) (fun _ _ _ h => h) (Or.inl ⟨by kernel_rfl, ?y71⟩) (by assumption) ?_
          case y71 => (intro w hSw; (try dsimp only at hSw); go_simp; all_goals with_reducible rfl)
          try simp only [Act.put, List.getElem_toArray, List.getElem_cons_zero, List.setIfInBounds_toArray, List.set_cons_zero, List.set_cons_succ]
          refine wpAnyH_take (i := 1) (v := ?v72) rfl (by kernel_rfl) (by kernel_rfl) (by kernel_rfl) (fun _ _ _ h => h) (Or.inl ⟨by kernel_rfl, ?y72⟩) (by assumption) ?_
          case y72 => (intro w hSw; (try dsimp only at hSw); go_simp; all_goals with_reducible rfl)
          try simp only [Act.put, List.getElem_toArray, List.getElem_cons_succ, List.getElem_cons_zero, List.setIfInBounds_toArray, List.set_cons_zero, List.set_cons_succ]
          refine wpAnyH_take (i := 2) (v := ?v73) rfl (by kernel_rfl) (by kernel_rfl) (by kernel_rfl) (fun _ _ _ h => h) (Or.inl ⟨by kernel_rfl, ?y73⟩) (by assumption) ?_
          case y73 => (intro w hSw; (try dsimp only at hSw); go_simp; all_goals with_reducible rfl)
          try simp only [Act.put, List.getElem_toArray, List.getElem_cons_succ, List.getElem_cons_zero, List.setIfInBounds_toArray, List.set_cons_zero, List.set_cons_succ]
          refine wpAnyH_take (i := 3) (v := ?v74) rfl (by kernel_rfl) (by kernel_rfl) (by kernel_rfl) (fun _ _ _ h => h) (Or.inl ⟨by kernel_rfl, ?y74⟩) (by assumption) ?_
          case y74 => (intro w hSw; (try dsimp only at hSw); go_simp; all_goals with_reducible rfl)
          try simp only [Act.put, List.getElem_toArray, List.getElem_cons_succ, List.getElem_cons_zero, List.setIfInBounds_toArray, List.set_cons_zero, List.set_cons_succ]
          refine wpAnyH_take (i := 4) (v := (.int .i64 (dl : Int))) rfl (by kernel_rfl) (by kernel_rfl) (by kernel_rfl) (fun _ _ _ h => h) (Or.inl ⟨by kernel_rfl, fun w hSw => by first | (go_simp; done) | (go_simp; with_reducible rfl) | (go_simp; omega)⟩) (by assumption) ?_
          try simp only [Act.put, List.getElem_toArray, List.getElem_cons_succ, List.getElem_cons_zero, List.setIfInBounds_toArray, List.set_cons_zero, List.set_cons_succ]
          refine wpAnyH_take (i := 5) (v := ?v75) rfl (by kernel_rfl) (by kernel_rfl) (by kernel_rfl) (fun _ _ _ h => h) (Or.inl ⟨by kernel_rfl, ?y75⟩) (by assumption) ?_
          case y75 => (intro w hSw; (try dsimp only at hSw); go_simp; all_goals with_reducible rfl)
          try simp only [Act.put, List.getElem_toArray, List.getElem_cons_succ, List.getElem_cons_zero, List.setIfInBounds_toArray, List.set_cons_zero, List.set_cons_succ]
          refine wpAnyH_ready (rs := [6, 11]) (by kernel_rfl) (by simp) (AllReadyH.cons rfl (fun K hK => ?_) (AllReadyH.cons rfl (fun K hK => ?_) AllReadyH.nil))
          · go_simp
            go_at_call 12
            refine (HC3.out _ (HSB.out.fr (hHeld.2.2.2.2.2).out) (HT.out.fr (FG.out.trans (hHeld.2.2.2.2.2).out) (fun h => h))).mono ?_
            rintro e W1 ⟨rfl, f⟩
            have FW := kf f hHeld.2.2.2.2.2
            (try have MX := hid (Blk.fr MX.out f (fun h => h)))
            have hsz1 : wv.heap.size ≤ W1.heap.size := (by first | exact f.size | (have q1 := f.size; have q2 := hszA; omega))
            dsimp only
            refine hK.out _ _ ?_ (fun hHeld => ?_)
            · (try dsimp only); (first | (go_split_ands; exact ⟨kc f (by assumption), kc f (by assumption), kc f (by assumption), kc f (by assumption), kc f (by assumption), by assumption⟩) | (go_split_ands; exact ⟨(by assumption), (by assumption), (by assumption), (by assumption), (by assumption), by assumption⟩) | (go_split_ands; exact ⟨kc (fr1 _ _) (by assumption), kc (fr1 _ _) (by assumption), kc (fr1 _ _) (by assumption), kc (fr1 _ _) (by assumption), kc (fr1 _ _) (by assumption), kfa (by assumption)⟩) | (go_split_ands; exact ⟨kc (fr1d _ _) (by assumption), kc (fr1d _ _) (by assumption), kc (fr1d _ _) (by assumption), kc (fr1d _ _) (by assumption), kc (fr1d _ _) (by assumption), kfae (by assumption)⟩) | (exact ⟨kcs hf2 (by simp only []; omega) hHeld.1, kcs hf2 (by simp only []; omega) hHeld.2.1, kcs hf2 (by simp only []; omega) hHeld.2.2.1, kcs hf2 (by simp only []; omega) hHeld.2.2.2.1, kcs hf2 (by simp only []; omega) hHeld.2.2.2.2.1, kfg (by omega) FW hf2⟩) | (exact ⟨kcs hf2 (by simp only []; omega) hHeld.1, kcs hf2 (by simp only []; omega) hHeld.2.1, kcs hf2 (by simp only []; omega) hHeld.2.2.1, kcs hf2 (by simp only []; omega) hHeld.2.2.2.1, kcs hf2 (by simp only []; omega) hHeld.2.2.2.2.1, kfg (by omega) hHeld.2.2.2.2.2 hf2⟩) | (go_split_ands; exact ⟨kcs hf2 (by simp only []; omega) (by assumption), kcs hf2 (by simp only []; omega) (by assumption), kcs hf2 (by simp only []; omega) (by assumption), kcs hf2 (by simp only []; omega) (by assumption), kcs hf2 (by simp only []; omega) (by assumption), kfg (by omega) (by assumption) hf2⟩))
            clear hK K
            try simp only [Act.put, List.getElem_toArray, List.getElem_cons_succ, List.getElem_cons_zero, List.setIfInBounds_toArray, List.set_cons_zero, List.set_cons_succ]
            refine wpAnyH_take (i := 7) (v := ?v76) rfl (by kernel_rfl) (by kernel_rfl) (by kernel_rfl) (fun _ _ _ h => h) (Or.inl ⟨by kernel_rfl, ?y76⟩) (by assumption) ?_
            case y76 => (intro w hSw; (try dsimp only at hSw); go_simp; all_goals with_reducible rfl)
            try simp only [Act.put, List.getElem_toArray, List.getElem_cons_succ, List.getElem_cons_zero, List.setIfInBounds_toArray, List.set_cons_zero, List.set_cons_succ]
            refine wpAnyH_take (i := 8) (v := ?v77) rfl (by kernel_rfl) (by kernel_rfl) (by kernel_rfl) (fun _ _ _ h => h) (Or.inl ⟨by kernel_rfl, ?y77⟩) (by assumption) ?_
            case y77 => (intro w hSw; (try dsimp only at hSw); go_simp; all_goals with_reducible rfl)
            try simp only [Act.put, List.getElem_toArray, List.getElem_cons_succ, List.getElem_cons_zero, List.setIfInBounds_toArray, List.set_cons_zero, List.set_cons_succ]
            refine wpAnyH_take (i := 9) (v := ?v78) rfl (by kernel_rfl) (by kernel_rfl) (by kernel_rfl) (fun _ _ _ h => h) (Or.inl ⟨by kernel_rfl, ?y78⟩) (by assumption) ?_
            case y78 => (intro w hSw; (try dsimp only at hSw); go_simp; all_goals with_reducible rfl)
            try simp only [Act.put, List.getElem_toArray, List.getElem_cons_succ, List.getElem_cons_zero, List.setIfInBounds_toArray, List.set_cons_zero, List.set_cons_succ]
            refine wpAnyH_take (i := 10) (v := ?v79) rfl (by kernel_rfl) (by kernel_rfl) (by kernel_rfl) (fun _ _ _ h => h) (Or.inl ⟨by kernel_rfl, ?y79⟩) (by assumption) ?_
            case y79 => (intro w hSw; (try dsimp only at hSw); go_simp; all_goals with_reducible rfl)
            try simp only [Act.put, List.getElem_toArray, List.getElem_cons_succ, List.getElem_cons_zero, List.setIfInBounds_toArray, List.set_cons_zero, List.set_cons_succ]
            refine wpAnyH_ready (rs := [11]) (by kernel_rfl) (by simp) (AllReadyH.cons rfl (fun K hK => ?_) AllReadyH.nil)
            go_simp
            refine hK.out _ _ ?_ (fun hHeld => ?_)
            · (try dsimp only); (first | (go_split_ands; exact ⟨kc f (by assumption), kc f (by assumption), kc f (by assumption), kc f (by assumption), kc f (by assumption), by assumption⟩) | (go_split_ands; exact ⟨(by assumption), (by assumption), (by assumption), (by assumption), (by assumption), by assumption⟩) | (go_split_ands; exact ⟨kc (fr1 _ _) (by assumption), kc (fr1 _ _) (by assumption), kc (fr1 _ _) (by assumption), kc (fr1 _ _) (by assumption), kc (fr1 _ _) (by assumption), kfa (by assumption)⟩) | (go_split_ands; exact ⟨kc (fr1d _ _) (by assumption), kc (fr1d _ _) (by assumption), kc (fr1d _ _) (by assumption), kc (fr1d _ _) (by assumption), kc (fr1d _ _) (by assumption), kfae (by assumption)⟩) | (exact ⟨kcs hf2 (by simp only []; omega) hHeld.1, kcs hf2 (by simp only []; omega) hHeld.2.1, kcs hf2 (by simp only []; omega) hHeld.2.2.1, kcs hf2 (by simp only []; omega) hHeld.2.2.2.1, kcs hf2 (by simp only []; omega) hHeld.2.2.2.2.1, kfg (by omega) FW hf2⟩) | (exact ⟨kcs hf2 (by simp only []; omega) hHeld.1, kcs hf2 (by simp only []; omega) hHeld.2.1, kcs hf2 (by simp only []; omega) hHeld.2.2.1, kcs hf2 (by simp only []; omega) hHeld.2.2.2.1, kcs hf2 (by simp only []; omega) hHeld.2.2.2.2.1, kfg (by omega) hHeld.2.2.2.2.2 hf2⟩) | (go_split_ands; exact ⟨kcs hf2 (by simp only []; omega) (by assumption), kcs hf2 (by simp only []; omega) (by assumption), kcs hf2 (by simp only []; omega) (by assumption), kcs hf2 (by simp only []; omega) (by assumption), kcs hf2 (by simp only []; omega) (by assumption), kfg (by omega) (by assumption) hf2⟩))
            clear hK K
            try simp only [Act.put, List.getElem_toArray, List.getElem_cons_succ, List.getElem_cons_zero, List.setIfInBounds_toArray, List.set_cons_zero, List.set_cons_succ]
            have MX := hid (Blk.new W1 26 #[.int .i64 0, .int .i64 0, .slice none 0 0])
            refine wpAnyH_ready (rs := [12]) (by kernel_rfl) (by simp) (AllReadyH.cons rfl (fun K hK => ?_) AllReadyH.nil)
            refine st_bt_step rfl (.tmp 22) (.tmp 144) rfl _ rfl rfl (by simp [Value.oneCell']) MX.out rfl ?_
            intro W2 hb2 hf2
            refine hK.out _ _ ?_ (fun hHeld => ?_)
            · (try dsimp only); (first | (go_split_ands; exact ⟨kc f (by assumption), kc f (by assumption), kc f (by assumption), kc f (by assumption), kc f (by assumption), by assumption⟩) | (go_split_ands; exact ⟨(by assumption), (by assumption), (by assumption), (by assumption), (by assumption), by assumption⟩) | (go_split_ands; exact ⟨kc (fr1 _ _) (by assumption), kc (fr1 _ _) (by assumption), kc (fr1 _ _) (by assumption), kc (fr1 _ _) (by assumption), kc (fr1 _ _) (by assumption), kfa (by assumption)⟩) | (go_split_ands; exact ⟨kc (fr1d _ _) (by assumption), kc (fr1d _ _) (by assumption), kc (fr1d _ _) (by assumption), kc (fr1d _ _) (by assumption), kc (fr1d _ _) (by assumption), kfae (by assumption)⟩) | (exact ⟨kcs hf2 (by simp only []; omega) hHeld.1, kcs hf2 (by simp only []; omega) hHeld.2.1, kcs hf2 (by simp only []; omega) hHeld.2.2.1, kcs hf2 (by simp only []; omega) hHeld.2.2.2.1, kcs hf2 (by simp only []; omega) hHeld.2.2.2.2.1, kfg (by omega) FW hf2⟩) | (exact ⟨kcs hf2 (by simp only []; omega) hHeld.1, kcs hf2 (by simp only []; omega) hHeld.2.1, kcs hf2 (by simp only []; omega) hHeld.2.2.1, kcs hf2 (by simp only []; omega) hHeld.2.2.2.1, kcs hf2 (by simp only []; omega) hHeld.2.2.2.2.1, kfg (by omega) hHeld.2.2.2.2.2 hf2⟩) | (go_split_ands; exact ⟨kcs hf2 (by simp only []; omega) (by assumption), kcs hf2 (by simp only []; omega) (by assumption), kcs hf2 (by simp only []; omega) (by assumption), kcs hf2 (by simp only []; omega) (by assumption), kcs hf2 (by simp only []; omega) (by assumption), kfg (by omega) (by assumption) hf2⟩))
            clear hK K
            try simp only [Act.put, List.getElem_toArray, List.getElem_cons_succ, List.getElem_cons_zero]
            have FW := hHeld.2.2.2.2.2; have MX := hid hb2; have hne : wv.heap.size ≤ W1.heap.size := (by omega); clear hf2 hb2
            refine wpAnyH_take (i := 13) (v := ?v80) rfl (by kernel_rfl) (by kernel_rfl) (by kernel_rfl) (fun _ _ _ h => h) (Or.inl ⟨by kernel_rfl, ?y80⟩) (by assumption) ?_
            case y80 => (intro w hSw; (try dsimp only at hSw); go_simp; all_goals with_reducible rfl)
            try simp only [Act.put, List.getElem_toArray, List.getElem_cons_succ, List.getElem_cons_zero, List.setIfInBounds_toArray, List.set_cons_zero, List.set_cons_succ]
            refine wpAnyH_take (i := 14) (v := ?v81) rfl (by kernel_rfl) (by kernel_rfl) (by kernel_rfl) (fun _ _ _ h => h) (Or.inl ⟨by kernel_rfl, ?y81⟩) (by assumption) ?_
            case y81 => (intro w hSw; (try dsimp only at hSw); go_simp; all_goals with_reducible rfl)
            try simp only [Act.put, List.getElem_toArray, List.getElem_cons_succ, List.getElem_cons_zero, List.setIfInBounds_toArray, List.set_cons_zero, List.set_cons_succ]
            refine wpAnyH_done (by kernel_rfl) ?_ _
            refine NoPanic.normal ?_
            go_wp2_with fail
            go_meet
            case rel => (try refine ⟨_, _, _, ?_, rfl, rfl, rfl⟩); exact ⟨rfl, FW.out⟩
          · go_simp
            refine hK.out _ _ ?_ (fun hHeld => ?_)
            · (try dsimp only); (first | (go_split_ands; exact ⟨kc f (by assumption), kc f (by assumption), kc f (by assumption), kc f (by assumption), kc f (by assumption), by assumption⟩) | (go_split_ands; exact ⟨(by assumption), (by assumption), (by assumption), (by assumption), (by assumption), by assumption⟩) | (go_split_ands; exact ⟨kc (fr1 _ _) (by assumption), kc (fr1 _ _) (by assumption), kc (fr1 _ _) (by assumption), kc (fr1 _ _) (by assumption), kc (fr1 _ _) (by assumption), kfa (by assumption)⟩) | (go_split_ands; exact ⟨kc (fr1d _ _) (by assumption), kc (fr1d _ _) (by assumption), kc (fr1d _ _) (by assumption), kc (fr1d _ _) (by assumption), kc (fr1d _ _) (by assumption), kfae (by assumption)⟩) | (exact ⟨kcs hf2 (by simp only []; omega) hHeld.1, kcs hf2 (by simp only []; omega) hHeld.2.1, kcs hf2 (by simp only []; omega) hHeld.2.2.1, kcs hf2 (by simp only []; omega) hHeld.2.2.2.1, kcs hf2 (by simp only []; omega) hHeld.2.2.2.2.1, kfg (by omega) FW hf2⟩) | (exact ⟨kcs hf2 (by simp only []; omega) hHeld.1, kcs hf2 (by simp only []; omega) hHeld.2.1, kcs hf2 (by simp only []; omega) hHeld.2.2.1, kcs hf2 (by simp only []; omega) hHeld.2.2.2.1, kcs hf2 (by simp only []; omega) hHeld.2.2.2.2.1, kfg (by omega) hHeld.2.2.2.2.2 hf2⟩) | (go_split_ands; exact ⟨kcs hf2 (by simp only []; omega) (by assumption), kcs hf2 (by simp only []; omega) (by assumption), kcs hf2 (by simp only []; omega) (by assumption), kcs hf2 (by simp only []; omega) (by assumption), kcs hf2 (by simp only []; omega) (by assumption), kfg (by omega) (by assumption) hf2⟩))
            clear hK K
            try simp only [Act.put, List.getElem_toArray, List.getElem_cons_succ, List.getElem_cons_zero, List.setIfInBounds_toArray, List.set_cons_zero, List.set_cons_succ]
            have MX := hid (show Blk (wv.alloc (.cells #[.int .i64 0, .int .i64 0, .slice none 0 0] 26)).drew wv.heap.size 26 #[.int .i64 0, .int .i64 0, .slice none 0 0] from Blk.new wv _ _); have hszA : wv.heap.size ≤ (wv.alloc (.cells #[.int .i64 0, .int .i64 0, .slice none 0 0] 26)).drew.heap.size := (by show wv.heap.size ≤ (wv.alloc (.cells #[.int .i64 0, .int .i64 0, .slice none 0 0] 26)).heap.size; rw [World.size_alloc]; omega); have hszA2 : wv.heap.size + 1 ≤ (wv.alloc (.cells #[.int .i64 0, .int .i64 0, .slice none 0 0] 26)).drew.heap.size := (by show wv.heap.size + 1 ≤ (wv.alloc (.cells #[.int .i64 0, .int .i64 0, .slice none 0 0] 26)).heap.size; rw [World.size_alloc]; exact Nat.le_refl _)
            refine wpAnyH_ready (rs := [6]) (by kernel_rfl) (by simp) (AllReadyH.cons rfl (fun K hK => ?_) AllReadyH.nil)
            go_simp
            go_at_call 12
            refine (HC3.out _ (HSB.out.fr (hHeld.2.2.2.2.2).out) (HT.out.fr (FG.out.trans (hHeld.2.2.2.2.2).out) (fun h => h))).mono ?_
            rintro e W1 ⟨rfl, f⟩
            have FW := kf f hHeld.2.2.2.2.2
            (try have MX := hid (Blk.fr MX.out f (fun h => h)))
            have hsz1 : wv.heap.size ≤ W1.heap.size := (by first | exact f.size | (have q1 := f.size; have q2 := hszA; omega))
            dsimp only
            refine hK.out _ _ ?_ (fun hHeld => ?_)
            · (try dsimp only); (first | (go_split_ands; exact ⟨kc f (by assumption), kc f (by assumption), kc f (by assumption), kc f (by assumption), kc f (by assumption), by assumption⟩) | (go_split_ands; exact ⟨(by assumption), (by assumption), (by assumption), (by assumption), (by assumption), by assumption⟩) | (go_split_ands; exact ⟨kc (fr1 _ _) (by assumption), kc (fr1 _ _) (by assumption), kc (fr1 _ _) (by assumption), kc (fr1 _ _) (by assumption), kc (fr1 _ _) (by assumption), kfa (by assumption)⟩) | (go_split_ands; exact ⟨kc (fr1d _ _) (by assumption), kc (fr1d _ _) (by assumption), kc (fr1d _ _) (by assumption), kc (fr1d _ _) (by assumption), kc (fr1d _ _) (by assumption), kfae (by assumption)⟩) | (exact ⟨kcs hf2 (by simp only []; omega) hHeld.1, kcs hf2 (by simp only []; omega) hHeld.2.1, kcs hf2 (by simp only []; omega) hHeld.2.2.1, kcs hf2 (by simp only []; omega) hHeld.2.2.2.1, kcs hf2 (by simp only []; omega) hHeld.2.2.2.2.1, kfg (by omega) FW hf2⟩) | (exact ⟨kcs hf2 (by simp only []; omega) hHeld.1, kcs hf2 (by simp only []; omega) hHeld.2.1, kcs hf2 (by simp only []; omega) hHeld.2.2.1, kcs hf2 (by simp only []; omega) hHeld.2.2.2.1, kcs hf2 (by simp only []; omega) hHeld.2.2.2.2.1, kfg (by omega) hHeld.2.2.2.2.2 hf2⟩) | (go_split_ands; exact ⟨kcs hf2 (by simp only []; omega) (by assumption), kcs hf2 (by simp only []; omega) (by assumption), kcs hf2 (by simp only []; omega) (by assumption), kcs hf2 (by simp only []; omega) (by assumption), kcs hf2 (by simp only []; omega) (by assumption), kfg (by omega) (by assumption) hf2⟩))
            clear hK K
            try simp only [Act.put, List.getElem_toArray, List.getElem_cons_succ, List.getElem_cons_zero, List.setIfInBounds_toArray, List.set_cons_zero, List.set_cons_succ]
            refine wpAnyH_take (i := 7) (v := ?v82) rfl (by kernel_rfl) (by kernel_rfl) (by kernel_rfl) (fun _ _ _ h => h) (Or.inl ⟨by kernel_rfl, ?y82⟩) (by assumption) ?_
            case y82 => (intro w hSw; (try dsimp only at hSw); go_simp; all_goals with_reducible rfl)
            try simp only [Act.put, List.getElem_toArray, List.getElem_cons_succ, List.getElem_cons_zero, List.setIfInBounds_toArray, List.set_cons_zero, List.set_cons_succ]
            refine wpAnyH_take (i := 8) (v := ?v83) rfl (by kernel_rfl) (by kernel_rfl) (by kernel_rfl) (fun _ _ _ h => h) (Or.inl ⟨by kernel_rfl, ?y83⟩) (by assumption) ?_
            case y83 => (intro w hSw; (try dsimp only at hSw); go_simp; all_goals with_reducible rfl)
            try simp only [Act.put, List.getElem_toArray, List.getElem_cons_succ, List.getElem_cons_zero, List.setIfInBounds_toArray, List.set_cons_zero, List.set_cons_succ]
            refine wpAnyH_take (i := 9) (v := ?v84) rfl (by kernel_rfl) (by kernel_rfl) (by kernel_rfl) (fun _ _ _ h => h) (Or.inl ⟨by kernel_rfl, ?y84⟩) (by assumption) ?_
            case y84 => (intro w hSw; (try dsimp only at hSw); go_simp; all_goals with_reducible rfl)
            try simp only [Act.put, List.getElem_toArray, List.getElem_cons_succ, List.getElem_cons_zero, List.setIfInBounds_toArray, List.set_cons_zero, List.set_cons_succ]
            refine wpAnyH_take (i := 10) (v := ?v85) rfl (by kernel_rfl) (by kernel_rfl) (by kernel_rfl) (fun _ _ _ h => h) (Or.inl ⟨by kernel_rfl, ?y85⟩) (by assumption) ?_
            case y85 => (intro w hSw; (try dsimp only at hSw); go_simp; all_goals with_reducible rfl)
            try simp only [Act.put, List.getElem_toArray, List.getElem_cons_succ, List.getElem_cons_zero, List.setIfInBounds_toArray, List.set_cons_zero, List.set_cons_succ]
            refine wpAnyH_ready (rs := [12]) (by kernel_rfl) (by simp) (AllReadyH.cons rfl (fun K hK => ?_) AllReadyH.nil)
            refine st_bt_step rfl (.tmp 22) (.tmp 144) rfl _ rfl rfl (by simp [Value.oneCell']) MX.out rfl ?_
            intro W2 hb2 hf2
            refine hK.out _ _ ?_ (fun hHeld => ?_)
            · (try dsimp only); (first | (go_split_ands; exact ⟨kc f (by assumption), kc f (by assumption), kc f (by assumption), kc f (by assumption), kc f (by assumption), by assumption⟩) | (go_split_ands; exact ⟨(by assumption), (by assumption), (by assumption), (by assumption), (by assumption), by assumption⟩) | (go_split_ands; exact ⟨kc (fr1 _ _) (by assumption), kc (fr1 _ _) (by assumption), kc (fr1 _ _) (by assumption), kc (fr1 _ _) (by assumption), kc (fr1 _ _) (by assumption), kfa (by assumption)⟩) | (go_split_ands; exact ⟨kc (fr1d _ _) (by assumption), kc (fr1d _ _) (by assumption), kc (fr1d _ _) (by assumption), kc (fr1d _ _) (by assumption), kc (fr1d _ _) (by assumption), kfae (by assumption)⟩) | (exact ⟨kcs hf2 (by simp only []; omega) hHeld.1, kcs hf2 (by simp only []; omega) hHeld.2.1, kcs hf2 (by simp only []; omega) hHeld.2.2.1, kcs hf2 (by simp only []; omega) hHeld.2.2.2.1, kcs hf2 (by simp only []; omega) hHeld.2.2.2.2.1, kfg (by omega) FW hf2⟩) | (exact ⟨kcs hf2 (by simp only []; omega) hHeld.1, kcs hf2 (by simp only []; omega) hHeld.2.1, kcs hf2 (by simp only []; omega) hHeld.2.2.1, kcs hf2 (by simp only []; omega) hHeld.2.2.2.1, kcs hf2 (by simp only []; omega) hHeld.2.2.2.2.1, kfg (by omega) hHeld.2.2.2.2.2 hf2⟩) | (go_split_ands; exact ⟨kcs hf2 (by simp only []; omega) (by assumption), kcs hf2 (by simp only []; omega) (by assumption), kcs hf2 (by simp only []; omega) (by assumption), kcs hf2 (by simp only []; omega) (by assumption), kcs hf2 (by simp only []; omega) (by assumption), kfg (by omega) (by assumption) hf2⟩))
            clear hK K
            try simp only [Act.put, List.getElem_toArray, List.getElem_cons_succ, List.getElem_cons_zero]
            have FW := hHeld.2.2.2.2.2; have MX := hid hb2; have hne : wv.heap.size ≤ wv.heap.size := (by omega); clear hf2 hb2
            refine wpAnyH_take (i := 13) (v := ?v86) rfl (by kernel_rfl) (by kernel_rfl) (by kernel_rfl) (fun _ _ _ h => h) (Or.inl ⟨by kernel_rfl, ?y86⟩) (by assumption) ?_
            case y86 => (intro w hSw; (try dsimp only at hSw); go_simp; all_goals with_reducible rfl)
            try simp only [Act.put, List.getElem_toArray, List.getElem_cons_succ, List.getElem_cons_zero, List.setIfInBounds_toArray, List.set_cons_zero, List.set_cons_succ]
            refine wpAnyH_take (i := 14) (v := ?v87) rfl (by kernel_rfl) (by kernel_rfl) (by kernel_rfl) (fun _ _ _ h => h) (Or.inl ⟨by kernel_rfl, ?y87⟩) (by assumption) ?_
            case y87 => (intro w hSw; (try dsimp only at hSw); go_simp; all_goals with_reducible rfl)
            try simp only [Act.put, List.getElem_toArray, List.getElem_cons_succ, List.getElem_cons_zero, List.setIfInBounds_toArray, List.set_cons_zero, List.set_cons_succ]
            refine wpAnyH_done (by kernel_rfl) ?_ _
            refine NoPanic.normal ?_
            go_wp2_with fail
            go_meet
            case rel => (try refine ⟨_, _, _, ?_, rfl, rfl, rfl⟩); exact ⟨rfl, FW.out⟩
        case rest =>
          clear g0 g1 g2 g3 g4 hGL FW hsub hsub2 hzc1 hzc2 hzc hc128 hS128 hSc hcm
          obtain ⟨rfl, hf⟩ := hcut
          replace FG := hid (FG.out.trans hf)
          replace P0 := hid (BG.fr P0.out hf)
          replace P1 := hid (BB.fr P1.out hf)
          replace HSB := hid (HSB.out.fr hf)
          replace B1 := hid (BB.fr B1.out hf)
          replace X1 := hid (X1.out.fr hf)
          replace Y1 := hid (Y1.out.fr hf (fun _ _ _ h => h))
          replace B2 := hid (BB.fr B2.out hf)
          replace X2 := hid (X2.out.fr hf)
          clear hf
          obtain ⟨wq, hwq⟩ : ∃ zz, wc = zz := ⟨_, rfl⟩
          rw [hwq] at FG P0 P1 HSB B1 X1 Y1 B2 X2
          try rw [hwq]
          clear hwq
          have FR : Hid (Fr No wq wq) := hid (Fr.refl No _)
          have HZZ := hid (HZ.out.1.fr (S := No) FG.out (fun _ _ _ h => h))
          obtain ⟨x0, x1, x2⟩ := BB.cells (BB.fr B1.out FR.out)
          obtain ⟨b0, b1, b2⟩ := BB.cells (BB.fr P1.out FR.out)
          obtain ⟨y0, y1, y2⟩ := BB.cells (BB.fr B2.out FR.out)
          go_wp2_with fail
          refine (BtC.brsame_ok q k A1 xs.length c1 xs q k A xs.length c xs true _ (by have := HSM.out; omega) (by have := HSM.out; omega) (X1.out.fr FR.out) (HX.out.fr (FG.out.trans FR.out)) ⟨fun _ => rfl, fun _ => rfl⟩).mono ?_
          rintro e wm ⟨rfl, f⟩
          replace FR := hid (FR.out.trans f)
          clear f x0 x1 x2 b0 b1 b2 y0 y1 y2
          obtain ⟨x0, x1, x2⟩ := BB.cells (BB.fr B1.out FR.out)
          obtain ⟨b0, b1, b2⟩ := BB.cells (BB.fr P1.out FR.out)
          obtain ⟨y0, y1, y2⟩ := BB.cells (BB.fr B2.out FR.out)
          have s1 := run_str (P := Tryd.prog) wm 27 9 5 Tryd.underlying27 Tryd.underlying5 Tryd.underlying9 (D1) (dl) (d1) (zs) (Y1.out.fr FR.out (fun _ _ _ h => h))
          have s2 := run_str (P := Tryd.prog) wm 27 9 5 Tryd.underlying27 Tryd.underlying5 Tryd.underlying9 (dA) (dl) (dc) (zs) (HZ.out.1.fr (S := No) (FG.out.trans FR.out) (fun _ _ _ h => h))
          go_wp2_with fail
          refine (BtC.brsame_ok q k A2 xs.length c2 xs q k A xs.length c xs true _ (by have := HSM.out; omega) (by have := HSM.out; omega) (X2.out.fr FR.out) (HX.out.fr (FG.out.trans FR.out)) ⟨fun _ => rfl, fun _ => rfl⟩).mono ?_
          rintro e wo ⟨rfl, f⟩
          go_wp2
          go_ret
          exact ⟨rfl, (FG.out.trans FR.out).trans f⟩
end Go.Proofs.YtkkbgbpmpcoffaaDoor.BtCg
