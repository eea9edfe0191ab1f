/- Contract: what any bytes are as the head of a batch that may be, by the program. Conditions: they read as bytes; all numbers are 64 bits; the table of sums is as its text lays it. -/
import Derived.Test.YtcocebfipkbkiaaDoorBtD
import Derived.Test.YtcocebfipkbkiaaDoorBtH
namespace Go.Proofs.YtcocebfipkbkiaaDoor.BtK
open Go.RowKit MSep MSepC MSpM MGeM MFrame Kit BtA CrcA BtH
open BtM (Ba mayB)
open SpA (wf w64)
open RdA (gt gi)
open GeA (bg BG ld_geom)

theorem pSs_in {st : Option (List Int)} (h : by8 st) : ∀ n, ∀ s ∈ (pSs n st).1, (0 ≤ s.1 ∧ s.1 < 4294967296) ∧ (0 ≤ s.2 ∧ s.2 < 65536)
  | 0 => by simp [pSs]
  | n + 1 => by
    intro s hs
    rw [pSs, List.mem_append] at hs
    rcases hs with hs | hs
    · exact pSs_in h n s hs
    · simp only [List.mem_singleton] at hs
      subst hs
      have b1 := gt_in (n := 4) (pSs_by8 h n)
      have b2 := gt_in (n := 2) (gt_by8 (n := 4) (pSs_by8 h n))
      rw [show (256 : Int) ^ 4 = 4294967296 by decide] at b1
      rw [show (256 : Int) ^ 2 = 65536 by decide] at b2
      exact ⟨b1, b2⟩
/-- What a head says has room in the program's numbers. -/
structure Fits (r : Ba × Int) : Prop where
  q : r64 r.1.q
  k : 0 ≤ r.1.k ∧ r.1.k ≤ 255
  s : 0 ≤ r.2 ∧ r.2 < 4294967296
  n : r.1.l.length ≤ 8
  l : ∀ s ∈ r.1.l, (0 ≤ s.1 ∧ s.1 < 4294967296) ∧ (0 ≤ s.2 ∧ s.2 < 65536)
theorem w64_r (n : Int) : r64 (wrap64 n) := by unfold r64 wrap64; omega
theorem headP_fits {zs : List Int} {r : Ba × Int} (h8 : ∀ x ∈ zs, 0 ≤ x ∧ x ≤ 255) (h : headP zs = some r) : Fits r := by
  unfold headP at h
  split at h
  case isFalse => cases h
  unfold hP at h
  split at h
  case isFalse => cases h
  have hb : by8 (some ((zs.drop 4).drop 2)) := fun ys hy x hx => by cases hy; exact h8 x (List.mem_of_mem_drop (List.mem_of_mem_drop hx))
  obtain ⟨st, hst⟩ : ∃ st, some ((zs.drop 4).drop 2) = st := ⟨_, rfl⟩
  rw [hst] at h hb
  unfold hP1 at h
  split at h
  case isFalse => cases h
  cases h
  have hs : by8 (hh st).st := gt_by8 (gt_by8 (gi_by8 (gt_by8 hb)))
  have b1 := gt_in (n := 1) hb
  rw [show (256 : Int) ^ 1 = 256 by decide] at b1
  have b4 := gt_in (n := 4) (gt_by8 (n := 8) (gi_by8 (n := 1) (a := 1) (b := 8) (gt_by8 (n := 1) hb)))
  rw [show (256 : Int) ^ 4 = 4294967296 by decide] at b4
  refine ⟨w64_r _, ⟨b1.1, ?_⟩, b4, ?_, pSs_in hs _⟩
  · have h2 : (hh st).k < 256 := b1.2
    show (hh st).k ≤ 255
    omega
  · show (pSs (hh st).n (hh st).st).1.length ≤ 8
    rw [pSs_len]
    have := gi_in 1 1 8 (gt 1 st).2
    show (gi 1 1 8 (gt 1 st).2).1.toNat ≤ 8
    omega
theorem Fits.wf {r : Ba × Int} (h : Fits r) : ∀ s ∈ r.1.l, wf s := fun s hs => by
  have := h.l s hs
  unfold SpA.wf
  omega
open Classical in
noncomputable def headG (g : Ge) (zs : List Int) : Option (Ba × Int) := match headP zs with
  | none => none
  | some r => if mayB g r.1 then some r else none
theorem headG_some {g : Ge} {zs : List Int} {r : Ba × Int} (h : headG g zs = some r) : headP zs = some r ∧ mayB g r.1 := by
  unfold headG at h
  split at h
  · cases h
  · rename_i r' hr
    split at h
    · cases h
      exact ⟨hr, by assumption⟩
    · cases h
def RetG (w w' : World) (E : Ending) (c : Int) (o : Option (Ba × Int)) : Prop := (match o with
  | none => E = .returned (.tuple #[bv 0 0 none 0 0, .int .u32 0, .int .i64 c])
  | some r => ∃ A c, E = .returned (.tuple #[bv r.1.q r.1.k A r.1.l.length c, .int .u32 r.2, .int .i64 0]) ∧ RdS w' A r.1.l.length r.1.l ∧ (r.1.l.length ≤ c ∧ c ≤ maxLen) ∧ ∀ g o, A = some ⟨g, o, none⟩ → w.heap.size ≤ g) ∧ Fr No w w'
set_option maxRecDepth 100000 in
set_option maxHeartbeats 4000000 in
theorem head_geom (gc gs gn gl gk : Int) (A : Option Addr) (l c : Nat) (w : World) (hs : r64 gs) (hm : ¬ mayG ⟨gc, gs, gn, gl, gk⟩) :
    Calls Tryd.prog 18 #[.agg #[.int .i64 gc, .int .i64 gs, .int .i64 gn, .int .i64 gl, .int .i64 gk], .slice A l c] w fun E w' => RetG w w' E 70 none := by
  obtain ⟨G, hG⟩ : ∃ G, w.heap.size = G := ⟨_, rfl⟩
  obtain ⟨w1, hw1⟩ : ∃ w1, (w.alloc (bg gc gs gn gl gk)).alloc (.cells (bcs 0 0 none 0 0) 26) = w1 := ⟨_, rfl⟩
  have FG := hid (show Fr No w w1 by rw [← hw1]; exact (fr1 _ _).alloc _)
  have P0 := hid (show BG w1 G gc gs gn gl gk by rw [← hw1, ← hG]; exact (BG.new w gc gs gn gl gk : Blk _ _ _ _).alloc _)
  have P1 : BB w1 (G + 1) 0 0 none 0 0 := by
    rw [← hw1, ← hG]
    have := BB.new (w.alloc (bg gc gs gn gl gk)) 0 0 none 0 0
    rwa [World.size_alloc] at this
  have HG := hid hG
  have HS := hid hs
  have HW1 := hid hw1
  clear hs hw1
  have HM := hid hm
  clear hm
  go_enter Tryd.func18, Tryd.ntmps18
  go_upto_region 1 with fail
  try rw [show (w.alloc (Obj.cells #[.int .i64 gc, .int .i64 gs, .int .i64 gn, .int .i64 gl, .int .i64 gk] 23)).alloc (Obj.cells #[.int .i64 0, .int .i64 0, .slice none 0 0] 26) = w1 from HW1.out]
  try rw [hG]
  go_wp2_with (first | ((with_reducible refine ld_geom rfl (.tmp 2) rfl G ?_ P0.out ?_); · rfl) | (go_at_call 31; refine (GeC.may_ok gc gs gn gl gk _ HS.out).mono ?_; rintro e w2 ⟨rfl, f2⟩; rw [decide_eq_false HM.out]; replace FG := hid (FG.out.trans f2); replace P1 := Blk.fr P1 f2 (fun h => h); clear f2) | (refine st_bt rfl (.tmp 4) (.tmp 13) rfl (G + 1) rfl rfl (by simp [Value.oneCell']) P1 rfl ?_; intro w9 HQ9 f9; have HF9 := hid (FG.out.step f9 (fun i hi e => by have := HG.out; omega)); clear f9))
  exact bodyPost_ret (v := .tuple #[bv 0 0 none 0 0, .int .u32 0, .int .i64 70]) (resH rfl _ _ (G + 1) 0 0 none 0 0 (.int .u32 0) (.int .i64 70) rfl rfl rfl HQ9) rfl ⟨rfl, HF9.out⟩
set_option maxRecDepth 100000 in
set_option maxHeartbeats 4000000 in
theorem head_ok (gc gs gn gl gk : Int) (A : Option Addr) (l c : Nat) (zs : List Int) (w : World) (hs : r64 gs) (hm : mayG ⟨gc, gs, gn, gl, gk⟩) (hb : IsB w A l c zs) (hT : TabAt w) :
    Calls Tryd.prog 18 #[.agg #[.int .i64 gc, .int .i64 gs, .int .i64 gn, .int .i64 gl, .int .i64 gk], .slice A l c] w fun E w' => RetG w w' E 10 (headG ⟨gc, gs, gn, gl, gk⟩ zs) := by
  obtain ⟨G, hG⟩ : ∃ G, w.heap.size = G := ⟨_, rfl⟩
  obtain ⟨w1, hw1⟩ : ∃ w1, (w.alloc (bg gc gs gn gl gk)).alloc (.cells (bcs 0 0 none 0 0) 26) = w1 := ⟨_, rfl⟩
  have FG := hid (show Fr No w w1 by rw [← hw1]; exact (fr1 _ _).alloc _)
  have P0 := hid (show BG w1 G gc gs gn gl gk by rw [← hw1, ← hG]; exact (BG.new w gc gs gn gl gk : Blk _ _ _ _).alloc _)
  have P1 : BB w1 (G + 1) 0 0 none 0 0 := by
    rw [← hw1, ← hG]
    have := BB.new (w.alloc (bg gc gs gn gl gk)) 0 0 none 0 0
    rwa [World.size_alloc] at this
  have HG := hid hG
  have HS := hid hs
  have HW1 := hid hw1
  clear hs hw1
  have HM := hid hm
  have HI := hid (hb.fr FG.out)
  have HT1 := hid (hT.fr FG.out (fun h => h))
  have HU8 := hid hb.2.2.2
  obtain ⟨V, hV⟩ : ∃ V, headG ⟨gc, gs, gn, gl, gk⟩ zs = V := ⟨_, rfl⟩
  rw [hV]
  have HO := hid (fun W (hi : IsB W A l c zs) (ht : TabAt W) => headOf_ok A l c zs W hi ht)
  clear hm hb hT
  go_enter Tryd.func18, Tryd.ntmps18
  go_upto_region 1 with fail
  try rw [show (w.alloc (Obj.cells #[.int .i64 gc, .int .i64 gs, .int .i64 gn, .int .i64 gl, .int .i64 gk] 23)).alloc (Obj.cells #[.int .i64 0, .int .i64 0, .slice none 0 0] 26) = w1 from HW1.out]
  try rw [hG]
  cases ho : headP zs with
  | none =>
    obtain rfl : V = none := by rw [← hV]; unfold headG; rw [ho]
    clear hV
    go_wp2_with (first | ((with_reducible refine ld_geom rfl (.tmp 2) rfl G ?_ P0.out ?_); · rfl) | (go_at_call 31; refine (GeC.may_ok gc gs gn gl gk _ HS.out).mono ?_; rintro e w2 ⟨rfl, f2⟩; rw [decide_eq_true HM.out]; replace FG := hid (FG.out.trans f2); replace P1 := Blk.fr P1 f2 (fun h => h); replace HI := hid (HI.out.fr f2); replace HT1 := hid (HT1.out.fr f2 (fun h => h)); clear f2) | (go_at_call 46; go_loud (refine (HO.out _ HI.out HT1.out).mono ?_; rintro e w3 ⟨he, f3⟩; rw [ho] at he; obtain rfl := he; replace FG := hid (FG.out.trans f3); have P1' := hid (Blk.alloc (Blk.fr P1 f3 (fun h => h)) (.cells (bcs 0 0 none 0 0) 26)); replace FG := hid (FG.out.alloc (.cells (bcs 0 0 none 0 0) 26)); clear f3)) | (refine st_bt rfl (.tmp 4) (.tmp 28) rfl (G + 1) rfl rfl (by simp [Value.oneCell']) P1'.out rfl ?_; intro w9 HQ9 f9; have HF9 := hid (FG.out.step f9 (fun i hi e => by have := HG.out; omega)); clear f9))
    exact bodyPost_ret (v := .tuple #[bv 0 0 none 0 0, .int .u32 0, .int .i64 10]) (resH rfl _ _ (G + 1) 0 0 none 0 0 (.int .u32 0) (.int .i64 10) rfl rfl rfl HQ9) rfl ⟨rfl, HF9.out⟩
  | some r =>
    have HFT := hid (headP_fits HU8.out ho)
    obtain ⟨⟨q, k, xs⟩, s⟩ := r
    have hVy : mayB ⟨gc, gs, gn, gl, gk⟩ ⟨q, k, xs⟩ → some ((⟨q, k, xs⟩ : Ba), s) = V := fun h => by
      rw [← hV]
      unfold headG
      rw [ho]
      exact (if_pos h).symm
    have hVn : ¬ mayB ⟨gc, gs, gn, gl, gk⟩ ⟨q, k, xs⟩ → none = V := fun h => by
      rw [← hV]
      unfold headG
      rw [ho]
      exact (if_neg h).symm
    have HWF := hid HFT.out.wf
    have HLN := hid HFT.out.n
    dsimp only at HWF HLN
    go_upto_region 4 with (first | ((with_reducible refine ld_geom rfl (.tmp 2) rfl G ?_ P0.out ?_); · rfl) | (go_at_call 31; refine (GeC.may_ok gc gs gn gl gk _ HS.out).mono ?_; rintro e w2 ⟨rfl, f2⟩; rw [decide_eq_true HM.out]; replace FG := hid (FG.out.trans f2); replace P0 := hid (P0.out.fr f2); replace P1 := Blk.fr P1 f2 (fun h => h); replace HI := hid (HI.out.fr f2); replace HT1 := hid (HT1.out.fr f2 (fun h => h)); clear f2) | (go_at_call 46; go_loud (refine (HO.out _ HI.out HT1.out).mono ?_; rintro e w3 ⟨he, f3⟩; rw [ho] at he; obtain ⟨As, cs, rfl, hxs, hlim, hfr⟩ := he; have HFRE := hid (show ∀ g o, As = some ⟨g, o, none⟩ → w.heap.size ≤ g ∧ g ≠ G + 1 from fun g o h => by have h1 := hfr g o h; have h2 := Blk.lt P1; have := HG.out; omega); dsimp only at hxs hlim ⊢; clear hfr)))
    obtain ⟨B, hB⟩ : ∃ B, w3.heap.size = B := ⟨_, rfl⟩
    obtain ⟨w4, hw4⟩ : ∃ w4, w3.alloc (.cells (bcs q k As xs.length cs) 26) = w4 := ⟨_, rfl⟩
    have f4 : Fr No w3 w4 := by rw [← hw4]; exact fr1 _ _
    have HBB := hid (show BB w4 B q k As xs.length cs by rw [← hw4, ← hB]; exact BB.new _ _ _ _ _ _)
    have HXS := hid (hxs.fr f4)
    have HLM := hid hlim
    replace P0 := hid ((P0.out.fr f3).fr f4)
    replace P1 := Blk.fr (Blk.fr P1 f3 (fun h => h)) f4 (fun h => h)
    replace FG := hid (FG.out.trans (f3.trans f4))
    have HW4 := hid hw4
    clear hw4 f3 f4 hxs hlim hV
    rw [show w3.alloc (Obj.cells #[.int .i64 q, .int .i64 k, .slice As xs.length cs] 26) = w4 from HW4.out]
    try rw [hB]
    obtain ⟨g0, g1, g2, g3, g4⟩ := P0.out.cells
    obtain ⟨b0, b1, b2⟩ := HBB.out.cells
    have HP1 := hid P1
    clear P1 HW4
    by_cases hmb : mayB ⟨gc, gs, gn, gl, gk⟩ ⟨q, k, xs⟩
    · obtain rfl := hVy hmb
      clear hVy hVn
      have HMB := hid hmb
      clear hmb
      go_wp2_with (first | (go_at_call 10; go_loud (refine (BtD.may_ok gc gs gn gl gk q k As xs.length cs xs true _ HS.out (by have := HLN.out; omega) HLM.out.1 HXS.out HWF.out ⟨fun _ => HMB.out, fun _ => rfl⟩).mono ?_; rintro e w5 ⟨rfl, f5⟩; replace FG := hid (FG.out.trans f5); replace HBB := hid (BB.fr HBB.out f5); replace HXS := hid (HXS.out.fr f5); replace HP1 := hid (Blk.fr HP1.out f5 (fun h => h)); clear f5 g0 g1 g2 g3 g4 b0 b1 b2)) | ((with_reducible refine ld_bt rfl (.tmp 7) rfl B ?_ HBB.out ?_); · rfl) | (refine st_bt rfl (.tmp 4) (.tmp 29) rfl (G + 1) rfl rfl (by simp [Value.oneCell']) HP1.out rfl ?_; intro w9 HQ9 f9; have HF9 := hid (FG.out.step f9 (fun i hi e => by have := HG.out; omega)); have HX9 := hid (rdS_lo2 HXS.out f9 (fun g o h e => (HFRE.out g o h).2 e)); clear f9))
      exact bodyPost_ret (v := .tuple #[bv q k As xs.length cs, .int .u32 s, .int .i64 0]) (resH rfl _ _ (G + 1) q k As xs.length cs (.int .u32 s) (.int .i64 0) rfl rfl rfl HQ9) rfl ⟨⟨As, cs, rfl, HX9.out, HLM.out, fun g o h => (HFRE.out g o h).1⟩, HF9.out⟩
    · obtain rfl := hVn hmb
      clear hVy hVn
      have HMB := hid hmb
      clear hmb
      go_wp2_with (first | (go_at_call 10; go_loud (refine (BtD.may_ok gc gs gn gl gk q k As xs.length cs xs false _ HS.out (by have := HLN.out; omega) HLM.out.1 HXS.out HWF.out ⟨(fun h => Bool.noConfusion h), fun h => absurd h HMB.out⟩).mono ?_; rintro e w5 ⟨rfl, f5⟩; replace FG := hid (FG.out.trans f5); replace HP1 := hid (Blk.fr HP1.out f5 (fun h => h)); clear f5 g0 g1 g2 g3 g4 b0 b1 b2)) | (refine st_bt rfl (.tmp 4) (.tmp 28) rfl (G + 1) rfl rfl (by simp [Value.oneCell']) HP1.out rfl ?_; intro w9 HQ9 f9; have HF9 := hid (FG.out.step f9 (fun i hi e => by have := HG.out; omega)); clear f9))
      exact bodyPost_ret (v := .tuple #[bv 0 0 none 0 0, .int .u32 0, .int .i64 10]) (resH rfl _ _ (G + 1) 0 0 none 0 0 (.int .u32 0) (.int .i64 10) rfl rfl rfl HQ9) rfl ⟨rfl, HF9.out⟩
end Go.Proofs.YtcocebfipkbkiaaDoor.BtK
