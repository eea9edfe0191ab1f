import Derived.Test.YtcocebfipkbkiaaDoorBtG
import Derived.Test.YtcocebfipkbkiaaDoorBtL
import Derived.Test.YtcocebfipkbkiaaDoorBsA
import Derived.Test.YtcocebfipkbkiaaDoorBtF
import Derived.Test.YtcocebfipkbkiaaDoorGeC
import Derived.Test.YtcocebfipkbkiaaDoorBsB
import Derived.Test.YtcocebfipkbkiaaDoorFrameB
import Derived.Test.YtcocebfipkbkiaaDoorSpO
import Derived.Test.YtcocebfipkbkiaaDoorBtA
import Derived.Test.YtcocebfipkbkiaaDoorCrcA
import Derived.Test.YtcocebfipkbkiaaDoorTie
import Derived.Test.YtcocebfipkbkiaaDoorCards
import Derived.LaidMore
import Derived.SevenTiedAt
import Derived.Stop.Joined
import Derived.MakeChecks
/- Plain facts: what was encoded is decoded, whatever stands behind; of a batch that was cut off there is nothing. Nothing here walks a program. -/
namespace Go.Proofs.YtcocebfipkbkiaaDoor.BtP
open Go.RowKit MSep LeX LeW LeR RcM RdA CrcA CrcM CrcE MSpM MGeM BtE BtG BtH BtK BtL
open BtM (Ba mayB mayB_tn mayB_dsec dsec size_ tn spsOk_may)

theorem take_low (n : Nat) (v : Int) (ys : List Int) : (low n v ++ ys).take n = low n v := by
  have := low_len n v
  rw [List.take_append_of_le_length (by omega), List.take_of_length_le (by omega)]
theorem drop_low (n : Nat) (v : Int) (ys : List Int) : (low n v ++ ys).drop n = ys := by
  have := low_len n v
  rw [List.drop_append_of_le_length (by omega), List.drop_of_length_le (by omega)]
  simp
theorem gt_low {n : Nat} {v : Int} {ys : List Int} (h0 : 0 ≤ v) (h1 : v < 256 ^ n) : gt n (some (low n v ++ ys)) = (v, some ys) := by
  have hn : num (low n v) = v := by rw [num_low]; exact Int.emod_eq_of_lt h0 h1
  rw [gt, if_neg (by rw [List.length_append, low_len]; omega), take_low, drop_low, hn]
theorem gi_low {n : Nat} {a b v : Int} {ys : List Int} (h0 : 0 ≤ v) (h1 : v < 256 ^ n) (h2 : v < 9223372036854775808) (ha : a ≤ v) (hb : v ≤ b) : gi n a b (some (low n v ++ ys)) = (v, some ys) := by
  have hn : num (low n v) = v := by rw [num_low]; exact Int.emod_eq_of_lt h0 h1
  have hw : wrap64 v = v := RcM.w64 v ⟨h0, h2⟩
  rw [gi, if_neg (by rw [List.length_append, low_len]; omega), take_low, drop_low, hn, hw, if_pos ⟨ha, hb⟩]
theorem q1 : (256 : Int) ^ 1 = 256 := by decide
theorem q2 : (256 : Int) ^ 2 = 65536 := by decide
theorem q4 : (256 : Int) ^ 4 = 4294967296 := by decide
theorem q8 : (256 : Int) ^ 8 = 18446744073709551616 := by decide
theorem pS_eS {s : Sp} {ys : List Int} (h1 : 0 ≤ s.1 ∧ s.1 ≤ 4294967295) (h2 : 0 ≤ s.2 ∧ s.2 ≤ 65535) : pS (some (eS s ++ ys)) = (s, some ys) := by
  have e : eS s ++ ys = low 4 s.1 ++ (low 2 s.2 ++ (low 2 0 ++ ys)) := by simp [eS, List.append_assoc]
  rw [e]
  unfold pS
  rw [gt_low h1.1 (by rw [q4]; omega)]
  dsimp only
  rw [gt_low h2.1 (by rw [q2]; omega)]
  dsimp only
  rw [gi_low (by decide) (by rw [q2]; decide) (by decide) (by decide) (by decide)]
theorem pSs_fl (l : List Sp) (ys : List Int) (h : ∀ s ∈ l, (0 ≤ s.1 ∧ s.1 ≤ 4294967295) ∧ 0 ≤ s.2 ∧ s.2 ≤ 65535) : ∀ n, n ≤ l.length → pSs n (some (l.flatMap eS ++ ys)) = (l.take n, some ((l.drop n).flatMap eS ++ ys))
  | 0, _ => by simp [pSs]
  | n + 1, hn => by
    obtain ⟨s, hs⟩ : ∃ s, l[n]? = some s := ⟨_, List.getElem?_eq_getElem (show n < l.length by omega)⟩
    have hd : l.drop n = s :: l.drop (n + 1) := by
      have h1 := (List.getElem?_eq_some_iff.1 hs)
      rw [List.drop_eq_getElem_cons h1.1, h1.2]
    have hm := h s (List.mem_of_getElem? hs)
    rw [pSs, pSs_fl l ys h n (by omega)]
    dsimp only
    rw [hd, List.flatMap_cons, List.append_assoc, pS_eS hm.1 hm.2, List.take_add_one, hs]
    rfl
theorem hh_eB {q k s : Int} {l : List Sp} {ys : List Int} (h : Hok q k s l) (h1 : 1 ≤ l.length) : hh (some ((eB q k s l ++ ys).drop 2)) = ⟨k, q, s, l.length, some (l.flatMap eS ++ ys)⟩ := by
  have e : (eB q k s l ++ ys).drop 2 = low 1 k ++ (low 1 (l.length : Int) ++ (low 8 q ++ (low 4 s ++ (l.flatMap eS ++ ys)))) := by
    simp [eB, BtE.eH, List.append_assoc]
  have hq := h.q
  have hk := h.k
  have hs := h.s
  have hn := h.n
  rw [e]
  unfold hh
  rw [gt_low hk.1 (by rw [q1]; omega)]
  dsimp only
  rw [gi_low (by omega) (by rw [q1]; omega) (by omega) (by omega) (by omega)]
  dsimp only
  rw [gt_low hq.1 (by rw [q8]; omega)]
  dsimp only
  rw [gt_low hs.1 (by rw [q4]; omega)]
  dsimp only
  rw [RcM.w64 q hq]
  simp
theorem headP_eB {q k s : Int} {l : List Sp} (h : Hok q k s l) (h1 : 1 ≤ l.length) (hz : ¬ (k = 2 ∧ s ≠ 0)) : headP (seal_ (eB q k s l)) = some (⟨q, k, l⟩, s) := by
  have hl : (eB q k s l).length ≤ 124 := by rw [BtE.eB_len]; have := h.n; omega
  have hs : BtH.secOk (seal_ (eB q k s l)) = true := by
    unfold BtH.secOk
    rw [seal_len hl, CrcG.ld_seal, CrcG.seal_drop]
    simp
  rw [headP, if_pos hs, CrcG.seal_drop]
  unfold hP
  have hm : (rest (eB q k s l)).take 2 = [66, 84] := by
    unfold rest eB BtE.eH
    rfl
  rw [if_pos hm]
  unfold rest
  rw [hh_eB h h1]
  unfold hP1
  dsimp only
  have hp := pSs_fl l (List.replicate (124 - (eB q k s l).length) 0) h.l l.length (Nat.le_refl _)
  rw [List.take_length, List.drop_length] at hp
  rw [hp]
  dsimp only
  have hd : RdA.dn (some (List.flatMap eS [] ++ List.replicate (124 - (eB q k s l).length) 0)) = 0 := by
    rw [dn_zero]
    simp [dy, allZero]
  rw [if_pos ⟨hd, hz⟩]
theorem bts_len {q k : Int} {l : List Sp} {zs : List Int} (h : l.length ≤ 8) : (bts q k l zs).length = 128 + zs.length := by
  unfold bts
  rw [List.length_append, seal_len (by rw [BtE.eB_len]; omega)]
theorem bts_head {q k : Int} {l : List Sp} {zs ys : List Int} (h : l.length ≤ 8) : (bts q k l zs ++ ys).take 128 = seal_ (eB q k (onN 0 zs : Nat) l) := by
  have hl : (seal_ (eB q k (onN 0 zs : Nat) l)).length = 128 := seal_len (by rw [BtE.eB_len]; omega)
  unfold bts
  rw [List.append_assoc, List.take_append_of_le_length (by omega), List.take_of_length_le (by omega)]
theorem bts_data {q k : Int} {l : List Sp} {zs ys : List Int} (h : l.length ≤ 8) : ((bts q k l zs ++ ys).drop 128).take zs.length = zs := by
  have hl : (seal_ (eB q k (onN 0 zs : Nat) l)).length = 128 := seal_len (by rw [BtE.eB_len]; omega)
  unfold bts
  rw [List.append_assoc, List.drop_append_of_le_length (by omega), List.drop_of_length_le (by omega), List.nil_append, List.take_append_of_le_length (Nat.le_refl _), List.take_length]
theorem onN_nil : onN 0 [] = 0 := by decide +kernel
theorem headG_eB {g : Ge} {b : Ba} {s : Int} (h : mayB g b) (hs : 0 ≤ s ∧ s < 4294967296) (hz : ¬ (b.k = 2 ∧ s ≠ 0)) : headG g (seal_ (eB b.q b.k s b.l)) = some (b, s) := by
  unfold headG
  rw [headP_eB (mayB_Hok h hs) h.2.2.1.1 hz]
  exact if_pos h
theorem hole_sum {g : Ge} {b : Ba} {zs : List Int} (_h : mayB g b) (hl : (zs.length : Int) = size_ b.k b.l * 128) : ¬ (b.k = 2 ∧ ((onN 0 zs : Nat) : Int) ≠ 0) := by
  rintro ⟨h2, h3⟩
  have e : size_ b.k b.l = 0 := by unfold size_; rw [if_neg (by omega)]
  rw [e] at hl
  have : zs = [] := List.eq_nil_of_length_eq_zero (by omega)
  rw [this, onN_nil] at h3
  exact h3 rfl
/-- The head of an encoded batch. -/
theorem headG_bts {g : Ge} {b : Ba} {zs ys : List Int} (h : mayB g b) (hl : (zs.length : Int) = size_ b.k b.l * 128) : headG g ((bts b.q b.k b.l zs ++ ys).take 128) = some (b, ((onN 0 zs : Nat) : Int)) := by
  rw [bts_head h.2.2.1.2.1]
  exact headG_eB h (onN_in 0 zs) (hole_sum h hl)
theorem size_in {g : Ge} {b : Ba} (h : mayB g b) : 0 ≤ size_ b.k b.l := by
  have := mayB_tn h
  unfold size_
  split <;> omega
/-- An encoded batch, whatever whole sectors stand behind. -/
theorem beginG_bts {g : Ge} {b : Ba} {zs ys : List Int} (h : mayB g b) (hl : (zs.length : Int) = size_ b.k b.l * 128) (hy : ys.length % 128 = 0) : beginG g (bts b.q b.k b.l zs ++ ys) = some (b, zs) := by
  have h8 := h.2.2.1.2.1
  have hlen : (bts b.q b.k b.l zs ++ ys).length = 128 + zs.length + ys.length := by rw [List.length_append, bts_len h8]
  have h0 := size_in h
  have hz : zs.length % 128 = 0 := by omega
  unfold beginG
  rw [if_neg (fun q => by rcases q with q | q; (rw [hlen] at q; omega); exact q (by rw [hlen]; omega)), headG_bts h hl]
  dsimp only
  rw [mayB_dsec h]
  have e : (size_ b.k b.l).toNat * 128 = zs.length := by omega
  rw [e, if_neg (by rw [hlen]; omega), bts_data h8, if_pos rfl]
/-- Of one that was cut off nothing is. -/
theorem beginG_cut {g : Ge} {b : Ba} {zs : List Int} (h : mayB g b) (hl : (zs.length : Int) = size_ b.k b.l * 128) : beginG g ((bts b.q b.k b.l zs).take zs.length) = none := by
  have h8 := h.2.2.1.2.1
  have h0 := size_in h
  have hlen : ((bts b.q b.k b.l zs).take zs.length).length = zs.length := by rw [List.length_take, bts_len h8]; omega
  unfold beginG
  by_cases hz : zs.length = 0
  · rw [if_pos (Or.inl (by rw [hlen]; exact hz))]
  · have hge : 128 ≤ zs.length := by omega
    rw [if_neg (fun q => by rcases q with q | q; (rw [hlen] at q; exact hz q); exact q (by rw [hlen]; omega))]
    rw [List.take_take, show min 128 zs.length = 128 by omega]
    have e := headG_bts (ys := []) h hl
    rw [List.append_nil] at e
    rw [e]
    dsimp only
    rw [mayB_dsec h, if_pos (by rw [hlen]; omega)]
end Go.Proofs.YtcocebfipkbkiaaDoor.BtP
/- Contracts: the batch with which bytes begin, and its data, by the program. Conditions: what comes in reads as bytes; all numbers are 64 bits; the table of sums is as its text lays it. -/
namespace Go.Proofs.YtcocebfipkbkiaaDoor.BtO
open Go.RowKit MSep MSepC MSpM MGeM MFrame Kit BtA BtF CrcA CrcM BtH BtK BtL
open BtM (Ba mayB)
open SpA (wf w64)
open GeA (bg BG ld_geom)

theorem kfS {S : Nat → Prop} {a b c : World} (k : Fr No b c) (h : Hid (Fr S a b)) : Hid (Fr S a c) := hid (h.out.step k (fun _ _ h => h.elim))
theorem kdS {S : Nat → Prop} {a b : World} (h : Hid (Fr S a b)) : Hid (Fr S a b.drew) := hid h.out.drew
theorem kst {a b c : World} {g : Nat} (k : Fr (fun q => q = g) b c) (h : Hid (Fr (fun q => q = g) a b)) : Hid (Fr (fun q => q = g) a c) := hid (h.out.trans k)
def RetC (w w' : World) (E : Ending) (c : Int) (o : Option (Ba × List Int)) : Prop := (match o with
  | none => E = .returned (.tuple #[bv 0 0 none 0 0, .slice none 0 0, .int .i64 c])
  | some r => ∃ A c A2 c2, E = .returned (.tuple #[bv r.1.q r.1.k A r.1.l.length c, .slice A2 r.2.length c2, .int .i64 0]) ∧ RdS w' A r.1.l.length r.1.l ∧ (r.1.l.length ≤ c ∧ c ≤ maxLen) ∧ Rd w' A2 r.2.length (r.2.map (Value.int .u8))) ∧ Fr No w w'
theorem beginG_len {g : Ge} {zs : List Int} {r : Ba × List Int} (h : beginG g zs = some r) : r.2.length ≤ 134217728 := by
  unfold beginG at h
  split at h
  · cases h
  · split at h
    · cases h
    · rename_i r' _
      split at h
      · cases h
      · split at h
        · cases h
          dsimp only
          rw [List.length_take]
          have := (dsec_in r'.1.k r'.1.l).2
          omega
        · cases h
set_option maxRecDepth 100000 in
set_option maxHeartbeats 4000000 in
theorem decode_geom (gc gs gn gl gk : Int) (A : Option Addr) (l c : Nat) (w : World) (hs : r64 gs) (hm : ¬ mayG ⟨gc, gs, gn, gl, gk⟩) :
    Calls Tryd.prog 16 #[.agg #[.int .i64 gc, .int .i64 gs, .int .i64 gn, .int .i64 gl, .int .i64 gk], .slice A l c] w fun E w' => RetC w w' E 70 none := by
  obtain ⟨G, hG⟩ : ∃ G, w.heap.size = G := ⟨_, rfl⟩
  obtain ⟨w1, hw1⟩ : ∃ w1, (w.alloc (bg gc gs gn gl gk)).alloc (.cells (bcs 0 0 none 0 0) 26) = w1 := ⟨_, rfl⟩
  have FG := hid (show Fr No w w1 by rw [← hw1]; exact (fr1 _ _).alloc _)
  have P0 := hid (show BG w1 G gc gs gn gl gk by rw [← hw1, ← hG]; exact (BG.new w gc gs gn gl gk : Blk _ _ _ _).alloc _)
  have P1 : BB w1 (G + 1) 0 0 none 0 0 := by
    rw [← hw1, ← hG]
    have := BB.new (w.alloc (bg gc gs gn gl gk)) 0 0 none 0 0
    rwa [World.size_alloc] at this
  have HG := hid hG
  have HS := hid hs
  have HW1 := hid hw1
  clear hs hw1
  have HM := hid hm
  clear hm
  go_enter Tryd.func16, Tryd.ntmps16
  go_upto_region 1 with fail
  try rw [show (w.alloc (Obj.cells #[.int .i64 gc, .int .i64 gs, .int .i64 gn, .int .i64 gl, .int .i64 gk] 23)).alloc (Obj.cells #[.int .i64 0, .int .i64 0, .slice none 0 0] 26) = w1 from HW1.out]
  try rw [hG]
  go_wp2_with (first | ((with_reducible refine ld_geom rfl (.tmp 2) rfl G ?_ P0.out ?_); · rfl) | (go_at_call 31; refine (GeC.may_ok gc gs gn gl gk _ HS.out).mono ?_; rintro e w2 ⟨rfl, f2⟩; rw [decide_eq_false HM.out]; replace FG := hid (FG.out.trans f2); replace P1 := Blk.fr P1 f2 (fun h => h); clear f2) | (refine st_bt rfl (.tmp 4) (.tmp 13) rfl (G + 1) rfl rfl (by simp [Value.oneCell']) P1 rfl ?_; intro w9 HQ9 f9; have HF9 := hid (FG.out.step f9 (fun i hi e => by have := HG.out; omega)); clear f9))
  exact bodyPost_ret (v := .tuple #[bv 0 0 none 0 0, .slice none 0 0, .int .i64 70]) (resH rfl _ _ (G + 1) 0 0 none 0 0 (.slice none 0 0) (.int .i64 70) rfl rfl rfl HQ9) rfl ⟨rfl, HF9.out⟩
set_option maxRecDepth 100000 in
set_option maxHeartbeats 8000000 in
theorem decode_ok (gc gs gn gl gk : Int) (A : Option Addr) (l c : Nat) (zs : List Int) (w : World) (hs : r64 gs) (hm : mayG ⟨gc, gs, gn, gl, gk⟩) (hb : IsB w A l c zs) (hT : TabAt w) :
    Calls Tryd.prog 16 #[.agg #[.int .i64 gc, .int .i64 gs, .int .i64 gn, .int .i64 gl, .int .i64 gk], .slice A l c] w fun E w' => RetC w w' E 10 (beginG ⟨gc, gs, gn, gl, gk⟩ zs) := by
  obtain ⟨G, hG⟩ : ∃ G, w.heap.size = G := ⟨_, rfl⟩
  obtain ⟨w1, hw1⟩ : ∃ w1, (w.alloc (bg gc gs gn gl gk)).alloc (.cells (bcs 0 0 none 0 0) 26) = w1 := ⟨_, rfl⟩
  have FG := hid (show Fr No w w1 by rw [← hw1]; exact (fr1 _ _).alloc _)
  have P0 := hid (show BG w1 G gc gs gn gl gk by rw [← hw1, ← hG]; exact (BG.new w gc gs gn gl gk : Blk _ _ _ _).alloc _)
  have P1 : BB w1 (G + 1) 0 0 none 0 0 := by
    rw [← hw1, ← hG]
    have := BB.new (w.alloc (bg gc gs gn gl gk)) 0 0 none 0 0
    rwa [World.size_alloc] at this
  have HG := hid hG
  have HS := hid hs
  have HW1 := hid hw1
  clear hs hw1
  have HM := hid hm
  have HI := hid (hb.fr FG.out)
  have HT1 := hid (hT.fr FG.out (fun h => h))
  have HBB := hid (fun W (hi : IsB W A l c zs) (ht : TabAt W) => begin_ok gc gs gn gl gk A l c zs W HS.out hm hi ht)
  clear hm hb hT
  obtain ⟨V, ho⟩ : ∃ V, beginG ⟨gc, gs, gn, gl, gk⟩ zs = V := ⟨_, rfl⟩
  rw [ho]
  go_enter Tryd.func16, Tryd.ntmps16
  go_upto_region 1 with fail
  try rw [show (w.alloc (Obj.cells #[.int .i64 gc, .int .i64 gs, .int .i64 gn, .int .i64 gl, .int .i64 gk] 23)).alloc (Obj.cells #[.int .i64 0, .int .i64 0, .slice none 0 0] 26) = w1 from HW1.out]
  try rw [hG]
  cases V with
  | none =>
    go_wp2_with (first | ((with_reducible refine ld_geom rfl (.tmp 2) rfl G ?_ P0.out ?_); · rfl) | (go_at_call 31; refine (GeC.may_ok gc gs gn gl gk _ HS.out).mono ?_; rintro e w2 ⟨rfl, f2⟩; rw [decide_eq_true HM.out]; replace FG := hid (FG.out.trans f2); replace P0 := hid (P0.out.fr f2); replace P1 := Blk.fr P1 f2 (fun h => h); replace HI := hid (HI.out.fr f2); replace HT1 := hid (HT1.out.fr f2 (fun h => h)); clear f2) | (go_at_call 44; go_loud (refine (HBB.out _ HI.out HT1.out).mono ?_; rintro e w3 ⟨he, f3⟩; rw [ho] at he; obtain rfl := he; replace FG := hid (FG.out.trans f3); have P1' := hid (Blk.alloc (Blk.fr P1 f3 (fun h => h)) (.cells (bcs 0 0 none 0 0) 26)); replace FG := hid (FG.out.alloc (.cells (bcs 0 0 none 0 0) 26)); clear f3)) | (refine st_bt rfl (.tmp 4) (.tmp 23) rfl (G + 1) rfl rfl (by simp [Value.oneCell']) P1'.out rfl ?_; intro w9 HQ9 f9; have HF9 := hid (FG.out.step f9 (fun i hi e => by have := HG.out; omega)); clear f9))
    exact bodyPost_ret (v := .tuple #[bv 0 0 none 0 0, .slice none 0 0, .int .i64 10]) (resH rfl _ _ (G + 1) 0 0 none 0 0 (.slice none 0 0) (.int .i64 10) rfl rfl rfl HQ9) rfl ⟨rfl, HF9.out⟩
  | some r =>
    have HDL := hid (beginG_len ho)
    obtain ⟨⟨q, k, xs⟩, D⟩ := r
    dsimp only at HDL
    go_upto_region 4 with (first | ((with_reducible refine ld_geom rfl (.tmp 2) rfl G ?_ P0.out ?_); · rfl) | (go_at_call 31; refine (GeC.may_ok gc gs gn gl gk _ HS.out).mono ?_; rintro e w2 ⟨rfl, f2⟩; rw [decide_eq_true HM.out]; replace FG := hid (FG.out.trans f2); replace P0 := hid (P0.out.fr f2); replace P1 := Blk.fr P1 f2 (fun h => h); replace HI := hid (HI.out.fr f2); replace HT1 := hid (HT1.out.fr f2 (fun h => h)); clear f2) | (go_at_call 44; go_loud (refine (HBB.out _ HI.out HT1.out).mono ?_; rintro e w3 ⟨he, f3⟩; rw [ho] at he; obtain ⟨Ah, ch, A2, c2, rfl, hxs, hlim, hfr, hib⟩ := he; have HFR := hid (show ∀ g o, Ah = some ⟨g, o, none⟩ → g ≠ G + 1 from fun g o h => by have h1 := hfr g o h; have h2 := Blk.lt P1; have := HG.out; omega); dsimp only at hxs hlim hib ⊢; clear hfr)))
    obtain ⟨M, hM⟩ : ∃ M, w3.heap.size = M := ⟨_, rfl⟩
    obtain ⟨w4, hw4⟩ : ∃ w4, w3.alloc (.cells (bcs q k Ah xs.length ch) 26) = w4 := ⟨_, rfl⟩
    have f4 : Fr No w3 w4 := by rw [← hw4]; exact fr1 _ _
    have HBM := hid (show BB w4 M q k Ah xs.length ch by rw [← hw4, ← hM]; exact BB.new _ _ _ _ _ _)
    have HXS := hid (hxs.fr f4)
    have HLM := hid hlim
    have P3 := Blk.fr P1 f3 (fun h => h)
    have hMG : G + 1 < M := by rw [← hM]; exact Blk.lt P3
    have P1' := hid (Blk.fr P3 f4 (fun h => h))
    have HIB := hid (hib.fr f4)
    replace FG := hid (FG.out.trans (f3.trans f4))
    have HW4 := hid hw4
    clear hw4 f3 f4 hxs hlim hib P1 P3
    rw [show w3.alloc (Obj.cells #[.int .i64 q, .int .i64 k, .slice Ah xs.length ch] 26) = w4 from HW4.out]
    try rw [hM]
    obtain ⟨b0, b1, b2⟩ := HBM.out.cells
    clear HW4
    have FW : Hid (Fr (fun q => q = G + 1) w4 w4) := hid (Fr.refl _ _)
    go_upto_region 6 with fail
    have HPX := hid (show Blk w4.drew (G + 1) 26 _ from P1'.out)
    have FW := kdS FW
    refine wp_region_noPanic ?_
    refine wp_region_held_drew (S := (fun W' => W'.cell? ⟨M, 0, none⟩ = some (.int .i64 q) ∧ W'.cell? ⟨M, 1, none⟩ = some (.int .i64 k) ∧ W'.cell? ⟨M, 2, none⟩ = some (.slice Ah xs.length ch) ∧ Hid (Fr (fun q => q = G + 1) w4 W'))) (by kernel_rfl) ?_ (fun hHeld => ?_)
    · (try dsimp only); (first | (go_split_ands; exact ⟨kc f (by assumption), kc f (by assumption), kc f (by assumption), by assumption⟩) | (go_split_ands; exact ⟨(by assumption), (by assumption), (by assumption), by assumption⟩) | (go_split_ands; exact ⟨kc (fr1 _ _) (by assumption), kc (fr1 _ _) (by assumption), kc (fr1 _ _) (by assumption), kfa (by assumption)⟩) | (exact ⟨kcs hf2 (by simp only []; omega) hHeld.1, kcs hf2 (by simp only []; omega) hHeld.2.1, kcs hf2 (by simp only []; omega) hHeld.2.2.1, kst hf2 hHeld.2.2.2⟩))
    refine wpAnyH_take (i := 0) (v := ?v1) rfl (by kernel_rfl) (by kernel_rfl) (by kernel_rfl) (fun _ _ _ h => h) (Or.inl ⟨by kernel_rfl, ?y1⟩) (by assumption) ?_
    case y1 => (intro w hSw; (try dsimp only at hSw); go_simp; all_goals with_reducible rfl)
    try simp only [Act.put, List.getElem_toArray, List.getElem_cons_zero, List.setIfInBounds_toArray, List.set_cons_zero, List.set_cons_succ]
    refine wpAnyH_take (i := 1) (v := ?v2) rfl (by kernel_rfl) (by kernel_rfl) (by kernel_rfl) (fun _ _ _ h => h) (Or.inl ⟨by kernel_rfl, ?y2⟩) (by assumption) ?_
    case y2 => (intro w hSw; (try dsimp only at hSw); go_simp; all_goals with_reducible rfl)
    try simp only [Act.put, List.getElem_toArray, List.getElem_cons_succ, List.getElem_cons_zero, List.setIfInBounds_toArray, List.set_cons_zero, List.set_cons_succ]
    refine wpAnyH_ready (rs := [2]) (by kernel_rfl) (by simp) (AllReadyH.cons rfl (fun K hK => ?_) AllReadyH.nil)
    go_simp
    go_at_call 45
    refine (clone_ok A2 D.length c2 D w4.drew (by have := HDL.out; omega) (show Rd w4.drew _ _ _ from HIB.out.1)).mono ?_
    rintro e W1 ⟨A3, c3, rfl, hn3, hr3, hfr3, f⟩
    have FW := kfS f hHeld.2.2.2
    have HP6 := hid (Blk.fr HPX.out f (fun h => h))
    have HR3 := hid hr3
    have HAF := hid (show ∀ g o, A3 = some ⟨g, o, none⟩ → ¬ (fun q => q = G + 1) g from fun g o h e => by have h1 : w4.heap.size ≤ g := hfr3 g o h; have h2 := Blk.lt HBM.out; have e : g = G + 1 := e; omega)
    dsimp only
    refine hK.out _ _ ?_ (fun hHeld => ?_)
    · (try dsimp only); (first | (go_split_ands; exact ⟨kc f (by assumption), kc f (by assumption), kc f (by assumption), by assumption⟩) | (go_split_ands; exact ⟨(by assumption), (by assumption), (by assumption), by assumption⟩) | (go_split_ands; exact ⟨kc (fr1 _ _) (by assumption), kc (fr1 _ _) (by assumption), kc (fr1 _ _) (by assumption), kfa (by assumption)⟩) | (exact ⟨kcs hf2 (by simp only []; omega) hHeld.1, kcs hf2 (by simp only []; omega) hHeld.2.1, kcs hf2 (by simp only []; omega) hHeld.2.2.1, kst hf2 hHeld.2.2.2⟩))
    clear hK K
    try simp only [Act.put, List.getElem_toArray, List.getElem_cons_succ, List.getElem_cons_zero, List.setIfInBounds_toArray, List.set_cons_zero, List.set_cons_succ]
    refine wpAnyH_ready (rs := [3]) (by kernel_rfl) (by simp) (AllReadyH.cons rfl (fun K hK => ?_) AllReadyH.nil)
    refine st_bt_step rfl (.tmp 4) (.tmp 24) rfl (G + 1) rfl rfl (by simp [Value.oneCell']) HP6.out rfl ?_
    intro W2 hb2 hf2
    refine hK.out _ _ ?_ (fun hHeld => ?_)
    · (try dsimp only); (first | (go_split_ands; exact ⟨kc f (by assumption), kc f (by assumption), kc f (by assumption), by assumption⟩) | (go_split_ands; exact ⟨(by assumption), (by assumption), (by assumption), by assumption⟩) | (go_split_ands; exact ⟨kc (fr1 _ _) (by assumption), kc (fr1 _ _) (by assumption), kc (fr1 _ _) (by assumption), kfa (by assumption)⟩) | (exact ⟨kcs hf2 (by simp only []; omega) hHeld.1, kcs hf2 (by simp only []; omega) hHeld.2.1, kcs hf2 (by simp only []; omega) hHeld.2.2.1, kst hf2 hHeld.2.2.2⟩))
    clear hK K
    try simp only [Act.put, List.getElem_toArray, List.getElem_cons_succ, List.getElem_cons_zero]
    have HQ9 := hid hb2; have HR4 := hid (HR3.out.fr hf2 HAF.out)
    refine wpAnyH_take (i := 4) (v := ?v3) rfl (by kernel_rfl) (by kernel_rfl) (by kernel_rfl) (fun _ _ _ h => h) (Or.inl ⟨by kernel_rfl, ?y3⟩) (by assumption) ?_
    case y3 => (intro w hSw; (try dsimp only at hSw); go_simp; all_goals with_reducible rfl)
    try simp only [Act.put, List.getElem_toArray, List.getElem_cons_succ, List.getElem_cons_zero, List.setIfInBounds_toArray, List.set_cons_zero, List.set_cons_succ]
    refine wpAnyH_take (i := 5) (v := ?v4) rfl (by kernel_rfl) (by kernel_rfl) (by kernel_rfl) (fun _ _ _ h => h) (Or.inl ⟨by kernel_rfl, ?y4⟩) (by assumption) ?_
    case y4 => (intro w hSw; (try dsimp only at hSw); go_simp; all_goals with_reducible rfl)
    try simp only [Act.put, List.getElem_toArray, List.getElem_cons_succ, List.getElem_cons_zero, List.setIfInBounds_toArray, List.set_cons_zero, List.set_cons_succ]
    refine wpAnyH_done (by kernel_rfl) ?_ _
    refine NoPanic.normal ?_
    go_wp2
    exact bodyPost_ret (v := .tuple #[bv q k Ah xs.length ch, .slice A3 D.length c3, .int .i64 0]) (resH rfl _ _ (G + 1) q k Ah xs.length ch _ (.int .i64 0) rfl rfl rfl HQ9.out) rfl ⟨⟨Ah, ch, A3, c3, rfl, rdS_lo2 HXS.out hHeld.2.2.2.out (fun g o h e => HFR.out g o h e), HLM.out, HR4.out⟩, FG.out.step hHeld.2.2.2.out (fun i hi e => by have := HG.out; omega)⟩
end Go.Proofs.YtcocebfipkbkiaaDoor.BtO
/- Contracts: how many sectors of data a batch has, by the document; so many sectors that are told apart; the geometry of the statements of layer 16. Conditions: the slice reads as spans that are not below 0; no more than some thousands of sectors. -/
namespace Go.Proofs.YtcocebfipkbkiaaDoor.BtN
open Go.RowKit MSep MSepC MSpM MFrame Kit BtM BtA BtF CrcE
open BtC (tn_pos)
open SpA (wf w64)

set_option maxRecDepth 100000 in
set_option maxHeartbeats 2000000 in
theorem rsize_ok (q K : Int) (A : Option Addr) (l c : Nat) (xs : List Sp) (w : World) (hl : l ≤ 50) (hx : RdS w A l xs) (hn : ∀ s ∈ xs, 0 ≤ s.2 ∧ s.2 ≤ 1048576) :
    Calls Tryd.prog 13 #[bv q K A l c] w fun e w' => e = .returned (.int .i64 (size_ K xs)) ∧ Fr No w w' := by
  obtain ⟨G, hG⟩ : ∃ G, w.heap.size = G := ⟨_, rfl⟩
  obtain ⟨w1, hw1⟩ : ∃ w1, w.alloc (.cells (bcs q K A l c) 26) = w1 := ⟨_, rfl⟩
  have FG := hid (show Fr No w w1 by rw [← hw1]; exact fr1 _ _)
  have HB := hid (show BB w1 G q K A l c by rw [← hw1, ← hG]; exact BB.new _ _ _ _ _ _)
  have HW1 := hid hw1
  have HX := hid (hx.fr FG.out)
  have HN := hid hn
  have HL := hid hl
  have HXL := hid hx.1
  have HTN := hid (fun k => tn_pos (k := k) hn (by rw [hx.1]; exact hl))
  clear hx hn hl hw1
  by_cases hk : K = 1
  · subst hk
    rw [show size_ 1 xs = tn xs from if_pos rfl]
    go_enter Tryd.func13, Tryd.ntmps13
    go_upto_region 1 with fail
    try rw [HW1.out]
    try rw [hG]
    go_wp2
    go_loopw [3, 4] (fun v i wr => ∃ k : Nat, k ≤ l ∧ i = .int .i64 k ∧ v = .int .i64 (tn (xs.take k)) ∧ Fr No w1 wr) (fun _ i _ => l - (intOf i).toNat)
    case atStart => exact ⟨0, by omega, rfl, rfl, Fr.refl _ _⟩
    case round =>
      obtain ⟨k, hk, rfl, rfl, hf⟩ := hrel
      obtain ⟨b0, b1, b2⟩ := (HB.out.fr hf).cells
      by_cases hlt : k < l
      · have hk1 : k < xs.length := by rw [HXL.out]; exact hlt
        obtain ⟨⟨a, n⟩, hxk⟩ : ∃ x, xs[k]? = some x := ⟨_, List.getElem?_eq_getElem hk1⟩
        have hnk := HN.out _ (List.mem_of_getElem? hxk)
        simp only [] at hnk
        obtain ⟨g, o, rfl, hg, hc⟩ := (HX.out.fr hf).at_ (by omega)
        obtain ⟨e0, e1⟩ := hc k _ hxk
        simp only [] at e0 e1
        have hlt3 : (k : Int) < l := by omega
        have hltb : decide ((k : Int) < (l : Int)) = true := decide_eq_true hlt3
        have h0k : (0 : Int) ≤ k := by omega
        have hw1 : wrap64 ((k : Int) + 1) = (k : Int) + 1 := by have := HL.out; exact w64 _ (by omega)
        have htp := HTN.out k
        have HTS := hid (tn_snoc hxk)
        obtain ⟨t, ht⟩ : ∃ t, tn (xs.take k) = t := ⟨_, rfl⟩
        rw [ht] at htp HTS ⊢
        have hwt : wrap64 (t + n) = t + n := w64 _ (by omega)
        have HF := hid hf
        clear hc hg hxk hk1 hf ht
        go_wp2
        go_roundw
        case rel => exact ⟨k + 1, by omega, by go_num, by rw [HTS.out], HF.out⟩
        case measure => first | exact next_m _ _ hlt hw1 | (simp [intOf]; omega)
      · obtain rfl : k = l := by omega
        have hltc : ¬ (k : Int) < k := by omega
        have hltb : decide ((k : Int) < (k : Int)) = false := decide_eq_false hltc
        have HF := hid hf
        have HE := hid (show tn (xs.take k) = tn xs by rw [List.take_of_length_le (by rw [HXL.out]; exact Nat.le_refl _)])
        clear hf
        go_wp2
        go_ret
        exact ⟨congrArg (fun z => Ending.returned (.int .i64 z)) HE.out, FG.out.trans HF.out⟩
  · rw [show size_ K xs = 0 from if_neg hk]
    have hkb : (K == 1) = false := by simpa using hk
    go_enter Tryd.func13, Tryd.ntmps13
    go_upto_region 1 with fail
    try rw [HW1.out]
    try rw [hG]
    go_wp2
    go_loopw [3, 4] (fun v i wr => i = .int .i64 0 ∧ v = .int .i64 0 ∧ Fr No w1 wr) (fun _ i _ => l - (intOf i).toNat)
    case atStart => exact ⟨rfl, rfl, Fr.refl _ _⟩
    case round =>
      obtain ⟨rfl, rfl, hf⟩ := hrel
      obtain ⟨b0, b1, b2⟩ := (HB.out.fr hf).cells
      have HF := hid hf
      clear hf
      by_cases hl0 : (0 : Int) < l
      · have hltb : decide ((0 : Int) < (l : Int)) = true := decide_eq_true hl0
        go_wp2
        go_ret
        exact ⟨rfl, FG.out.trans HF.out⟩
      · have hltb : decide ((0 : Int) < (l : Int)) = false := decide_eq_false hl0
        go_wp2
        go_ret
        exact ⟨rfl, FG.out.trans HF.out⟩
set_option maxRecDepth 100000 in
theorem geometry_ok (w : World) : Calls Tryd.prog 29 #[] w fun e w' => e = .returned (.agg #[.int .i64 2, .int .i64 6, .int .i64 16, .int .i64 3, .int .i64 2]) ∧ Fr No w w' := by
  have HF := hid (fun o => fr1 w o)
  go_enter Tryd.func29, Tryd.ntmps29
  go_wp2
  exact bodyPost_ret (v := .agg #[.int .i64 2, .int .i64 6, .int .i64 16, .int .i64 3, .int .i64 2]) (by simp [results, Tryd.results29, go_sem]) rfl ⟨rfl, HF.out _⟩
/-- The bytes of so many sectors that are told apart. -/
def fs (b : Int) (i : Nat) : List Int := b :: (i : Int) % 256 :: (List.replicate 125 0 ++ [bits BinOp.xor IntKind.u8 b 255])
def fill (b : Int) : Nat → List Int
  | 0 => []
  | n + 1 => fill b n ++ fs b n
theorem fs_len (b : Int) (i : Nat) : (fs b i).length = 128 := by simp [fs]
theorem xor_all : ∀ n : Fin 256, 0 ≤ bits BinOp.xor IntKind.u8 (n.val : Int) 255 ∧ bits BinOp.xor IntKind.u8 (n.val : Int) 255 ≤ 255 := by decide +kernel
theorem xor_in {b : Int} (hb : 0 ≤ b ∧ b ≤ 255) : 0 ≤ bits BinOp.xor IntKind.u8 b 255 ∧ bits BinOp.xor IntKind.u8 b 255 ≤ 255 := by
  have := xor_all ⟨b.toNat, by omega⟩
  rwa [show ((b.toNat : Nat) : Int) = b by omega] at this
theorem fs_u8 {b : Int} (hb : 0 ≤ b ∧ b ≤ 255) (i : Nat) : ∀ x ∈ fs b i, 0 ≤ x ∧ x ≤ 255 := by
  intro x hx
  unfold fs at hx
  simp only [List.mem_cons, List.mem_append, List.not_mem_nil, or_false] at hx
  rcases hx with rfl | rfl | hx | rfl
  · exact hb
  · omega
  · rw [List.eq_of_mem_replicate hx]; decide
  · exact xor_in hb
theorem fill_u8 {b : Int} (hb : 0 ≤ b ∧ b ≤ 255) : ∀ n, ∀ x ∈ fill b n, 0 ≤ x ∧ x ≤ 255
  | 0 => fun x hx => by cases hx
  | n + 1 => fun x hx => by
    rw [fill, List.mem_append] at hx
    rcases hx with hx | hx
    · exact fill_u8 hb n x hx
    · exact fs_u8 hb n x hx
theorem fs_set (b : Int) (k : Nat) : (((CrcE.cells z128).toArray.setIfInBounds 0 (.int .u8 b)).setIfInBounds 1 (.int .u8 ((k : Int) % 256))).setIfInBounds 127 (.int .u8 (bits BinOp.xor IntKind.u8 b 255)) = (CrcE.cells (fs b k)).toArray := by
  simp only [CrcE.cells, z128, fs, List.setIfInBounds_toArray]
  rfl
theorem fill_len (b : Int) : ∀ n, (fill b n).length = 128 * n
  | 0 => rfl
  | n + 1 => by rw [fill, List.length_append, fill_len b n, fs_len]; omega
set_option maxRecDepth 100000 in
set_option maxHeartbeats 4000000 in
theorem fill_ok (b : Int) (n : Nat) (w : World) (_hb : 0 ≤ b ∧ b ≤ 255) (hn : n ≤ 2000) :
    Calls Tryd.prog 17 #[.int .u8 b, .int .i64 n] w fun e w' => RetB w w' e (fill b n) := by
  obtain ⟨i0, hi, hz0, hz1, hz2⟩ := info_parts u8_info
  have HI := hid (And.intro hi (And.intro hz0 (And.intro hz1 hz2)))
  have HN := hid hn
  clear hn
  go_enter Tryd.func17, Tryd.ntmps17
  go_wp2
  go_loopw [5, 6] (fun v i wr => ∃ (k : Nat) (A' : Option Addr) (c' : Nat), k ≤ n ∧ i = .int .i64 k ∧ v = .slice A' (fill b k).length c' ∧ OB w.heap.size wr v (fill b k) ∧ Fr No w wr) (fun _ i _ => n - (intOf i).toNat)
  case atStart => exact ⟨0, none, 0, by omega, rfl, rfl, OB.nil _ _, Fr.refl _ _⟩
  case round =>
    obtain ⟨k, A', c', hk, rfl, rfl, ho, hf⟩ := hrel
    by_cases hlt : k < n
    · have hlt3 : (k : Int) < n := by omega
      have h0k : (0 : Int) ≤ k := by omega
      have hw1 : wrap64 ((k : Int) + 1) = (k : Int) + 1 := by have := HN.out; exact w64 _ (by omega)
      have HO := hid ho
      have HF := hid hf
      have HSZ := hid hf.size
      clear ho hf
      go_upto_region 6 with (first | (at_make; go_must (refine wpList_make_full _ rfl _ _ 27 rfl wr.heap.size 5 i0 (.int .u8 0) 1 Tryd.underlying27 hi hz0 hz1 .i64 .i64 _ _ 128 rfl rfl rfl rfl (by rw [hz2]; omega) (by simp only [maxLen]; omega) (Nat.le_refl _) ?_)))
      intro w1 hown1 hg1
      have hF1 : Fr No wr w1 := (Fr.refl _ _).grown hg1 (fun k hk => by cases hk)
      rw [toList_madeCells_one] at hown1
      have B1 := hid (show Blk w1 wr.heap.size 5 (CrcE.cells z128).toArray by rw [CrcE.cells, z128, List.map_replicate]; exact Blk.of_own hown1)
      obtain ⟨g, hg⟩ : ∃ g, wr.heap.size = g := ⟨_, rfl⟩
      rw [hg] at B1
      try rw [hg]
      have HGG := hid hg
      have c0 : w1.cell? ⟨g, 0, none⟩ = some (.int .u8 0) := B1.out.cell 0
      have c1 : w1.cell? ⟨g, 1, none⟩ = some (.int .u8 0) := B1.out.cell 1
      have c127 : w1.cell? ⟨g, 127, none⟩ = some (.int .u8 0) := B1.out.cell 127
      have z0 : w1.frozen? ⟨g, 0, none⟩ = false := B1.out.frozen 0
      have z1 : w1.frozen? ⟨g, 1, none⟩ = false := B1.out.frozen 1
      have z127 : w1.frozen? ⟨g, 127, none⟩ = false := B1.out.frozen 127
      have HF1 := hid hF1
      clear hown1 hg1 hF1 hg HI hi hz0 hz1 hz2
      go_upto_region 7 with fail
      obtain ⟨w4, hw4⟩ : ∃ w4, (((w1.setCell ⟨g, 0, none⟩ (.int .u8 b)).setCell ⟨g, 1, none⟩ (.int .u8 ((k : Int) % 256))).setCell ⟨g, 127, none⟩ (.int .u8 (bits BinOp.xor IntKind.u8 b 255))) = w4 := ⟨_, rfl⟩
      have B4 := hid (show Blk w4 g 5 (CrcE.cells (fs b k)).toArray by
        rw [← hw4, ← fs_set]
        exact ((B1.out.set_ 0 _).set_ 1 _).set_ 127 _)
      have F4 := hid (show Fr No wr w4 by
        rw [← hw4]
        have q := (((Fr.set1 w1 g 0 (.int .u8 b)).trans (Fr.set1 _ g 1 (.int .u8 ((k : Int) % 256)))).trans (Fr.set1 _ g 127 (.int .u8 (bits BinOp.xor IntKind.u8 b 255))))
        exact HF1.out.step q (fun i hi e => by have := HGG.out; omega))
      rw [hw4]
      clear c0 c1 c127 z0 z1 z127 hw4
      have HO4 := hid (HO.out.fr F4.out)
      have HF4 := hid (HF.out.trans F4.out)
      have HR4 := hid (by have := blk_rd B4.out; rwa [cells_len, fs_len] at this)
      have HLIM := hid (show (fill b k).length + 128 ≤ 100000000000000 by rw [fill_len]; have := HN.out; omega)
      have HLN := hid (show (fill b k).length + 128 = (fill b (k + 1)).length by rw [fill_len, fill_len]; omega)
      go_wp2_with (at_builtin; go_loud (refine app_b rfl (.tmp 25) (.tmp 26) rfl w.heap.size (.slice A' (fill b k).length c') (fill b k) rfl HO4.out (some ⟨g, 0, none⟩) 128 128 (fs b k) rfl HR4.out HLIM.out HF4.out.size ?_; intro A7 c7 w7 ho7 f7; have HO7 := hid ho7; have HF7 := hid (HF4.out.step f7 (fun i hi h => by have := HO4.out.ge i h; omega)); clear ho7 f7))
      go_roundw
      case rel => exact ⟨k + 1, A7, c7, by omega, by go_num, by rw [HLN.out], by rw [HLN.out]; have := HO7.out; rw [HLN.out] at this; exact this, HF7.out⟩
      case measure => first | exact next_m _ _ hlt hw1 | (simp [intOf]; omega)
    · obtain rfl : k = n := by omega
      have HO := hid ho
      have HF := hid hf
      clear ho hf
      go_wp2
      go_ret
      exact ⟨A', c', rfl, OB.rd rfl HO.out, HO.out.lim, HF.out⟩
end Go.Proofs.YtcocebfipkbkiaaDoor.BtN
/- What comes of the calls of lives, at its own inputs. -/
namespace Go.Proofs.YtcocebfipkbkiaaDoor.BtT0
open Go.RowKit MSep MSepC MSpM MGeM MFrame Kit BtA BtF BtH BtK BtL CrcA CrcM CrcE BtC BtO
open BtM (Ba mayB mayB_dsec dsec size_ spsOk tn)
open BtN (fill fill_len fill_u8)
open BtG (bts)
open SpA (wf)
open RcM (De)
open RcB (RdD)

abbrev g0v : Value := .agg #[.int .i64 2, .int .i64 6, .int .i64 16, .int .i64 3, .int .i64 2]
def F0 : List Int := fill 1 3
theorem F0_len : F0.length = 384 := fill_len 1 3
theorem F0_u8 : ∀ x ∈ F0, 0 ≤ x ∧ x ≤ 255 := fill_u8 (by decide) 3
def Z0 : List Int := bts 3 1 [(5, 3)] F0
theorem Z0_len : Z0.length = 512 := by rw [Z0, BtP.bts_len (by decide), F0_len]
theorem may0 : mayG ⟨2, 6, 16, 3, 2⟩ := by decide
theorem mb0 : mayB ⟨2, 6, 16, 3, 2⟩ ⟨3, 1, [(5, 3)]⟩ := by
  refine ⟨may0, by decide, ⟨by decide, by decide, ?_⟩, Or.inl ⟨rfl, by decide⟩⟩
  intro i s hi hs
  obtain rfl : i = 0 := by simp at hi; omega
  simp at hs
  subst hs
  exact ⟨by decide, by decide, fun t ht => by cases ht⟩
theorem sz0 : (F0.length : Int) = size_ 1 [(5, 3)] * 128 := by rw [F0_len]; decide
theorem beg0 : beginG ⟨2, 6, 16, 3, 2⟩ Z0 = some (⟨3, 1, [(5, 3)]⟩, F0) := by
  have := BtP.beginG_bts (ys := []) mb0 sz0 rfl
  rw [List.append_nil] at this
  exact this
theorem hd0 : headG ⟨2, 6, 16, 3, 2⟩ z128 = none := by
  have : headP z128 = none := by
    unfold headP
    split
    · unfold hP
      rw [if_neg (by decide)]
    · rfl
  unfold headG
  rw [this]
theorem dl0 : dls 1 4 2 [(5, 3)] 1 = [⟨1, 5, 3, 4, 3⟩] := by decide
theorem gp0 : BtQ.gps [(1, 2)] = [[(1, 2)]] := by decide
theorem wf0 : ∀ s ∈ [((5 : Int), (3 : Int))], wf s := by intro s hs; simp at hs; subst hs; unfold wf; decide
theorem wf1 : ∀ s ∈ [((1 : Int), (2 : Int))], wf s := by intro s hs; simp at hs; subst hs; unfold wf; decide
theorem r6 : r64 6 := by unfold r64; decide
theorem r9 : r64 9 := by unfold r64; decide
set_option maxRecDepth 100000
theorem fil0 (w : World) : Calls Tryd.prog 17 #[.int .u8 1, .int .i64 3] w fun e w' => (∃ A c, e = .returned (.slice A 384 c) ∧ IsB w' A 384 c F0) ∧ Fr No w w' := by
  refine (BtN.fill_ok 1 3 w (by decide) (by decide)).mono ?_
  rintro e w' ⟨A, c, rfl, h, hl, f⟩
  rw [show (fill 1 3).length = 384 from F0_len] at h hl ⊢
  exact ⟨⟨A, c, rfl, h, hl.1, hl.2, F0_u8⟩, f⟩
theorem enc0 (R : Nat) (dA : Option Addr) (dc : Nat) (w : World) (hx : RdS w (some ⟨R, 0, none⟩) 1 [(5, 3)]) (hz : IsB w dA 384 dc F0) (hT : TabAt w) :
    Calls Tryd.prog 9 #[g0v, bv 3 1 (some ⟨R, 0, none⟩) 1 1, .slice dA 384 dc] w fun e w' => (∃ A c, e = .returned (.tuple #[.slice A 512 c, .int .i64 0]) ∧ IsB w' A 512 c Z0) ∧ Fr No w w' := by
  refine (BtG.encode_yes 2 6 16 3 2 3 1 _ 1 [(5, 3)] dA 384 dc F0 w r6 (by decide) hx wf0 hz mb0 (by decide) hT).mono ?_
  rintro e w' ⟨⟨A, c, rfl, h⟩, f⟩
  rw [show (bts 3 1 [(5, 3)] F0).length = 512 from Z0_len] at h ⊢
  exact ⟨⟨A, c, rfl, h⟩, f⟩
theorem dec0 (A : Option Addr) (c : Nat) (w : World) (hb : IsB w A 512 c Z0) (hT : TabAt w) :
    Calls Tryd.prog 16 #[g0v, .slice A 512 c] w fun E w' => (∃ A c A2 c2, E = .returned (.tuple #[bv 3 1 A 1 c, .slice A2 384 c2, .int .i64 0]) ∧ RdS w' A 1 [(5, 3)] ∧ (1 ≤ c ∧ c ≤ maxLen) ∧ Rd w' A2 384 (F0.map (Value.int .u8))) ∧ Fr No w w' := by
  refine (decode_ok 2 6 16 3 2 A 512 c Z0 w r6 may0 hb hT).mono ?_
  rintro E w' ⟨h, f⟩
  rw [beg0] at h
  obtain ⟨A1, c1, A2, c2, rfl, h1, h2, h3⟩ := h
  dsimp only at h1 h2 h3 ⊢
  rw [F0_len] at h3 ⊢
  exact ⟨⟨A1, c1, A2, c2, rfl, h1, h2, h3⟩, f⟩
theorem hea0 (A : Option Addr) (c : Nat) (w : World) (hb : IsB w A 128 c z128) (hT : TabAt w) :
    Calls Tryd.prog 18 #[g0v, .slice A 128 c] w fun E w' => E = .returned (.tuple #[bv 0 0 none 0 0, .int .u32 0, .int .i64 10]) ∧ Fr No w w' := by
  refine (head_ok 2 6 16 3 2 A 128 c z128 w r6 may0 hb hT).mono ?_
  rintro E w' ⟨h, f⟩
  rw [hd0] at h
  exact ⟨h, f⟩
theorem del0 (A : Option Addr) (c : Nat) (w : World) (hx : RdS w A 1 [(5, 3)]) :
    Calls Tryd.prog 23 #[bv 3 1 A 1 c, .int .i64 4, .int .i64 2] w fun e w' => (∃ A c, e = .returned (.slice A 1 c) ∧ RdD w' A 1 [⟨1, 5, 3, 4, 3⟩]) ∧ Fr No w w' := by
  refine (deltas_ok 3 1 A 1 c [(5, 3)] 4 2 w (by decide) hx (by decide) (by decide)).mono ?_
  rintro e w' ⟨A, c, rfl, h, f⟩
  rw [dl0] at h ⊢
  exact ⟨⟨A, c, rfl, h⟩, f⟩
theorem hol0 (A : Option Addr) (c : Nat) (w : World) (hx : RdS w A 1 [(1, 2)]) :
    Calls Tryd.prog 25 #[g0v, .int .i64 9, .slice A 1 c] w fun e w' => (∃ A c, e = .returned (.tuple #[.slice A 1 c, .int .i64 0])) ∧ Fr No w w' := by
  refine (BtS.holes_ok 2 6 16 3 2 9 A 1 c [(1, 2)] w r6 may0 (by decide) hx wf1 r9 (by decide)).mono ?_
  rintro e w' ⟨h, f⟩
  rw [gp0] at h
  rcases h with ⟨h, _⟩ | ⟨_, A, c, vs, rfl, _⟩
  · exact absurd h (by unfold BtS.badS; decide)
  · exact ⟨⟨A, c, rfl⟩, f⟩
theorem rsa0 (A B : Option Addr) (c d : Nat) (w : World) (hx : RdS w A 1 [(5, 3)]) (hy : RdS w B 1 [(5, 3)]) :
    Calls Tryd.prog 20 #[bv 3 1 A 1 c, bv 3 1 B 1 d] w fun e w' => e = .returned (.bool true) ∧ Fr No w w' :=
  brsame_ok 3 1 A 1 c _ 3 1 B 1 d _ true w (by decide) (by decide) hx hy (by simp)
theorem rsz0 (w : World) :
    Calls Tryd.prog 20 #[bv 0 0 none 0 0, bv 0 0 none 0 0] w fun e w' => e = .returned (.bool true) ∧ Fr No w w' :=
  brsame_ok 0 0 none 0 0 [] 0 0 none 0 0 [] true w (by decide) (by decide) (RdS.nil _ _) (RdS.nil _ _) (by simp)
theorem bsa0 (A B : Option Addr) (c d : Nat) (w : World) (hx : RdS w A 1 [(5, 3)]) (hy : RdS w B 1 [(5, 3)]) :
    Calls Tryd.prog 28 #[bv 3 1 A 1 c, bv 3 1 B 1 d] w fun e w' => e = .returned (.bool true) ∧ Fr No w w' :=
  bsame_ok 3 1 A 1 c _ 3 1 B 1 d _ true w (by decide) (by decide) hx hy (by simp)
theorem sec0 (A : Option Addr) (c : Nat) (w : World) (hx : RdS w A 1 [(5, 3)]) :
    Calls Tryd.prog 15 #[bv 3 1 A 1 c] w fun e w' => e = .returned (.int .i64 4) ∧ Fr No w w' := by
  refine (sectors_ok 3 1 A 1 c [(5, 3)] w (by decide) hx wf0).mono ?_
  rintro e w' ⟨rfl, f⟩
  exact ⟨by rw [show (1 : Int) + dsec 1 [(5, 3)] = 4 by decide], f⟩
theorem mas0 (A : Option Addr) (w : World) (hx : RdS w A 1 [(5, 3)]) :
    Calls Tryd.prog 10 #[g0v, bv 3 1 A 1 1] w fun e w' => e = .returned (.bool true) ∧ Fr No w w' :=
  BtD.may_ok 2 6 16 3 2 3 1 A 1 1 [(5, 3)] true w r6 (by decide) (by decide) hx wf0 (by simp [mb0])
set_option maxRecDepth 100000 in
set_option maxHeartbeats 4000000 in
theorem sca0 (A : Option Addr) (c : Nat) (w : World) (hb : IsB w A 512 c Z0) :
    Calls Tryd.prog 30 #[g0v, .slice A 512 c] w fun e w' => (∃ vs, e = .returned (.func (.func 59) #[] vs)) ∧ Fr No w w' := by
  have HB := hid hb
  clear hb
  have HF0 := hid (fun o => fr1 w o)
  go_enter Tryd.func30, Tryd.ntmps30
  go_wp2_with (first | (go_at_call 45; refine (BtF.clone_ok A 512 c Z0 _ (by decide) (HB.out.fr (HF0.out _)).1).mono ?_; rintro e w2 ⟨A2, c2, rfl, _, _, _, f⟩; have HF1 := hid ((HF0.out _).trans f); clear f))
  go_ret
  exact ⟨⟨_, rfl⟩, HF1.out.alloc _⟩
end Go.Proofs.YtcocebfipkbkiaaDoor.BtT0
/- Contract: what must come of every program, of batches. Condition: the table of sums is as its text lays it. -/
namespace Go.Proofs.YtcocebfipkbkiaaDoor.BtT
open Go.RowKit MSep MSepC MSpM MGeM MFrame Kit BtA BtF BtH BtK BtL CrcA CrcM CrcE BtC BtO BtT0
open BtM (Ba mayB mayB_dsec dsec size_ spsOk tn)
open GeA (bg BG)
open RcM (De)
open RcB (RdD)

theorem rd_row {w : World} {R : Nat} {a n : Int} (h : Blk w R 53 #[.int .i64 a, .int .i64 n]) : RdS w (some ⟨R, 0, none⟩) 1 [(a, n)] := by
  refine ⟨rfl, rfl, fun _ => ⟨R, 0, rfl, h.lt, ?_⟩⟩
  intro j u hu
  have hc := h.cell (0 + j)
  rw [hc]
  rcases j with _ | _ | j
  · simpa [cs2] using hu
  · simpa [cs2] using hu
  · simp [cs2] at hu
theorem z128_u8 : ∀ x ∈ z128, 0 ≤ x ∧ x ≤ 255 := by intro x hx; obtain rfl := List.eq_of_mem_replicate hx; decide
theorem z128_map : z128.map (Value.int .u8) = List.replicate 128 (.int .u8 0) := by rw [z128, List.map_replicate]
theorem z128_rd {w : World} {B : Nat} {A : Option Addr} {c : Nat} (h : w.ownsRow B 5 1 (.slice A 128 c) 128 (List.replicate 128 (.int .u8 0))) : Rd w A 128 (z128.map (Value.int .u8)) := by rw [z128_map]; exact Rd.own h
theorem rdD_one {w : World} {g o : Nat} {d : De} (h : RdD w (some ⟨g, o, none⟩) 1 [d]) : w.cell? ⟨g, o, none⟩ = some (.int .i64 d.k) ∧ w.cell? ⟨g, o + 1, none⟩ = some (.int .i64 d.a) ∧ w.cell? ⟨g, o + 2, none⟩ = some (.int .i64 d.n) ∧ w.cell? ⟨g, o + 3, none⟩ = some (.int .i64 d.z) ∧ w.cell? ⟨g, o + 4, none⟩ = some (.int .i64 d.o) := by
  obtain ⟨g', o', hA, _, hc⟩ := h.at_ (by decide)
  cases hA
  have := hc 0 d rfl
  simpa using this
theorem isB_fr {w w' : World} {A : Option Addr} {l c : Nat} {zs : List Int} (h : IsB w A l c zs) (f : Fr No w w') : IsB w' A l c zs := h.fr f
def CutL (w1 : World) (p s e : Value) (wx : World) : Prop := ∃ M, p = .pointer (some ⟨M, 0, none⟩) ∧ s = .int .u32 0 ∧ e = .int .i64 10 ∧ BB wx M 0 0 none 0 0 ∧ w1.heap.size ≤ M ∧ Fr No w1 wx
set_option maxRecDepth 100000 in
set_option maxHeartbeats 64000000 in
theorem lives_ok (w : World) (hT : TabAt w) : Calls Tryd.prog 8 #[] w fun e w' => e = .returned (.bool true) ∧ Fr No w w' := by
  have HT := hid hT
  clear hT
  go_enter Tryd.func8, Tryd.ntmps8
  go_upto_region 2 with (first | (go_at_call 29; refine (BtN.geometry_ok _).mono ?_; rintro e' w2 ⟨rfl, f⟩; have FW := hid f; clear f))
  obtain ⟨G, hG⟩ : ∃ G, w2.heap.size = G := ⟨_, rfl⟩
  obtain ⟨wa, hwa⟩ : ∃ wa, w2.alloc (bg 2 6 16 3 2) = wa := ⟨_, rfl⟩
  have HBG := hid (show BG wa G 2 6 16 3 2 by rw [← hwa, ← hG]; exact Blk.new _ _ _)
  have hsa : G + 1 = wa.heap.size := by rw [← hwa, ← hG, World.size_alloc]
  have HFa := hid (show Fr No w wa by rw [← hwa]; exact FW.out.alloc _)
  rw [show w2.alloc (.cells #[.int .i64 2, .int .i64 6, .int .i64 16, .int .i64 3, .int .i64 2] 23) = wa from hwa]
  try rw [hG]
  clear hwa FW
  go_upto_region 3 with fail
  obtain ⟨R, hR⟩ : ∃ R, wa.heap.size = R := ⟨_, rfl⟩
  obtain ⟨wb, hwb⟩ : ∃ wb, (wa.alloc (.cells #[.int .i64 5, .int .i64 3] 53)).alloc (.cells (bcs 3 1 (some ⟨wa.heap.size, 0, none⟩) 1 1) 26) = wb := ⟨_, rfl⟩
  obtain ⟨B, hB⟩ : ∃ B, R + 1 = B := ⟨_, rfl⟩
  have HBB := hid (show BB wb B 3 1 (some ⟨R, 0, none⟩) 1 1 by rw [← hwb, ← hB, ← hR]; have := BB.new (wa.alloc (.cells #[.int .i64 5, .int .i64 3] 53)) 3 1 (some ⟨wa.heap.size, 0, none⟩) 1 1; rw [World.size_alloc] at this; exact this)
  have HBRow : Blk wb R 53 #[.int .i64 5, .int .i64 3] := by rw [← hwb, ← hR]; exact Blk.alloc (Blk.new wa _ _) _
  have HRR := hid (rd_row HBRow)
  have HGB := hid (show BG wb G 2 6 16 3 2 by rw [← hwb]; exact Blk.alloc (Blk.alloc HBG.out _) _)
  have HFb := hid (show Fr No w wb by rw [← hwb]; exact (HFa.out.alloc _).alloc _)
  have HTB := hid (HT.out.fr HFb.out (fun h => h))
  have hsb : G + 1 = R ∧ B + 1 = wb.heap.size := by constructor; (rw [← hR]; exact hsa); (rw [← hwb, World.size_alloc, World.size_alloc, hR, hB])
  have HSB := hid hsb
  obtain ⟨g0, g1, g2, g3, g4⟩ := HGB.out.cells
  obtain ⟨b0, b1, b2⟩ := HBB.out.cells
  rw [show (wa.alloc (.cells #[.int .i64 5, .int .i64 3] 53)).alloc (.cells #[.int .i64 3, .int .i64 1, .slice (some ⟨wa.heap.size, 0, none⟩) 1 1] 26) = wb from hwb]
  try rw [World.size_alloc]
  try rw [hR]
  try rw [hB]
  clear hwb HBRow hsa HBG hsb
  have FW : Hid (Fr No wb wb) := hid (Fr.refl _ _)
  have FW := kd FW
  refine wp_region_noPanic ?_
  refine wp_region_held_drew (S := (fun W' => W'.cell? ⟨G, 0, none⟩ = some (.int .i64 2) ∧ W'.cell? ⟨G, 1, none⟩ = some (.int .i64 6) ∧ W'.cell? ⟨G, 2, none⟩ = some (.int .i64 16) ∧ W'.cell? ⟨G, 3, none⟩ = some (.int .i64 3) ∧ W'.cell? ⟨G, 4, none⟩ = some (.int .i64 2) ∧ W'.cell? ⟨B, 0, none⟩ = some (.int .i64 3) ∧ W'.cell? ⟨B, 1, none⟩ = some (.int .i64 1) ∧ W'.cell? ⟨B, 2, none⟩ = some (.slice (some ⟨R, 0, none⟩) 1 1) ∧ Hid (Fr No wb W'))) (by kernel_rfl) ?_ (fun hHeld => ?_)
  · (try dsimp only); (first | (go_split_ands; exact ⟨kc f (by assumption), kc f (by assumption), kc f (by assumption), kc f (by assumption), kc f (by assumption), kc f (by assumption), kc f (by assumption), kc f (by assumption), by assumption⟩) | (go_split_ands; exact ⟨(by assumption), (by assumption), (by assumption), (by assumption), (by assumption), (by assumption), (by assumption), (by assumption), by assumption⟩) | (go_split_ands; exact ⟨kc (fr1 _ _) (by assumption), kc (fr1 _ _) (by assumption), kc (fr1 _ _) (by assumption), kc (fr1 _ _) (by assumption), kc (fr1 _ _) (by assumption), kc (fr1 _ _) (by assumption), kc (fr1 _ _) (by assumption), kc (fr1 _ _) (by assumption), kfa (by assumption)⟩))
  refine wpAnyH_take (i := 0) (v := ?v1) rfl (by kernel_rfl) (by kernel_rfl) (by kernel_rfl) (fun _ _ _ h => h) (Or.inl ⟨by kernel_rfl, ?y1⟩) (by assumption) ?_
  case y1 => (intro w hSw; (try dsimp only at hSw); go_simp; all_goals with_reducible rfl)
  try simp only [Act.put, List.getElem_toArray, List.getElem_cons_zero, List.setIfInBounds_toArray, List.set_cons_zero, List.set_cons_succ]
  refine wpAnyH_take (i := 1) (v := ?v2) rfl (by kernel_rfl) (by kernel_rfl) (by kernel_rfl) (fun _ _ _ h => h) (Or.inl ⟨by kernel_rfl, ?y2⟩) (by assumption) ?_
  case y2 => (intro w hSw; (try dsimp only at hSw); go_simp; all_goals with_reducible rfl)
  try simp only [Act.put, List.getElem_toArray, List.getElem_cons_succ, List.getElem_cons_zero, List.setIfInBounds_toArray, List.set_cons_zero, List.set_cons_succ]
  refine wpAnyH_ready (rs := [2]) (by kernel_rfl) (by simp) (AllReadyH.cons rfl (fun K hK => ?_) AllReadyH.nil)
  go_simp
  go_at_call 17
  refine (fil0 _).mono ?_
  rintro e W1 ⟨⟨A1, c1, rfl, hz⟩, f⟩
  have FW := kf f hHeld.2.2.2.2.2.2.2.2
  have HZ := hid hz
  dsimp only
  refine hK.out _ _ ?_ (fun hHeld => ?_)
  · (try dsimp only); (first | (go_split_ands; exact ⟨kc f (by assumption), kc f (by assumption), kc f (by assumption), kc f (by assumption), kc f (by assumption), kc f (by assumption), kc f (by assumption), kc f (by assumption), by assumption⟩) | (go_split_ands; exact ⟨(by assumption), (by assumption), (by assumption), (by assumption), (by assumption), (by assumption), (by assumption), (by assumption), by assumption⟩) | (go_split_ands; exact ⟨kc (fr1 _ _) (by assumption), kc (fr1 _ _) (by assumption), kc (fr1 _ _) (by assumption), kc (fr1 _ _) (by assumption), kc (fr1 _ _) (by assumption), kc (fr1 _ _) (by assumption), kc (fr1 _ _) (by assumption), kc (fr1 _ _) (by assumption), kfa (by assumption)⟩))
  clear hK K
  try simp only [Act.put, List.getElem_toArray, List.getElem_cons_succ, List.getElem_cons_zero, List.setIfInBounds_toArray, List.set_cons_zero, List.set_cons_succ]
  refine wpAnyH_ready (rs := [3]) (by kernel_rfl) (by simp) (AllReadyH.cons rfl (fun K hK => ?_) AllReadyH.nil)
  go_simp
  go_at_call 9
  refine (enc0 R A1 c1 _ (HRR.out.fr hHeld.2.2.2.2.2.2.2.2.out) HZ.out (HTB.out.fr hHeld.2.2.2.2.2.2.2.2.out (fun h => h))).mono ?_
  rintro e W1 ⟨⟨As, cs, rfl, hs⟩, f⟩
  have FW := kf f hHeld.2.2.2.2.2.2.2.2
  have HS := hid hs
  dsimp only
  refine hK.out _ _ ?_ (fun hHeld => ?_)
  · (try dsimp only); (first | (go_split_ands; exact ⟨kc f (by assumption), kc f (by assumption), kc f (by assumption), kc f (by assumption), kc f (by assumption), kc f (by assumption), kc f (by assumption), kc f (by assumption), by assumption⟩) | (go_split_ands; exact ⟨(by assumption), (by assumption), (by assumption), (by assumption), (by assumption), (by assumption), (by assumption), (by assumption), by assumption⟩) | (go_split_ands; exact ⟨kc (fr1 _ _) (by assumption), kc (fr1 _ _) (by assumption), kc (fr1 _ _) (by assumption), kc (fr1 _ _) (by assumption), kc (fr1 _ _) (by assumption), kc (fr1 _ _) (by assumption), kc (fr1 _ _) (by assumption), kc (fr1 _ _) (by assumption), kfa (by assumption)⟩))
  clear hK K
  try simp only [Act.put, List.getElem_toArray, List.getElem_cons_succ, List.getElem_cons_zero, List.setIfInBounds_toArray, List.set_cons_zero, List.set_cons_succ]
  refine wpAnyH_take (i := 4) (v := ?v3) rfl (by kernel_rfl) (by kernel_rfl) (by kernel_rfl) (fun _ _ _ h => h) (Or.inl ⟨by kernel_rfl, ?y3⟩) (by assumption) ?_
  case y3 => (intro w hSw; (try dsimp only at hSw); go_simp; all_goals with_reducible rfl)
  try simp only [Act.put, List.getElem_toArray, List.getElem_cons_succ, List.getElem_cons_zero, List.setIfInBounds_toArray, List.set_cons_zero, List.set_cons_succ]
  refine wpAnyH_take (i := 5) (v := ?v4) rfl (by kernel_rfl) (by kernel_rfl) (by kernel_rfl) (fun _ _ _ h => h) (Or.inl ⟨by kernel_rfl, ?y4⟩) (by assumption) ?_
  case y4 => (intro w hSw; (try dsimp only at hSw); go_simp; all_goals with_reducible rfl)
  try simp only [Act.put, List.getElem_toArray, List.getElem_cons_succ, List.getElem_cons_zero, List.setIfInBounds_toArray, List.set_cons_zero, List.set_cons_succ]
  refine wpAnyH_take (i := 6) (v := ?v5) rfl (by kernel_rfl) (by kernel_rfl) (by kernel_rfl) (fun _ _ _ h => h) (Or.inl ⟨by kernel_rfl, ?y5⟩) (by assumption) ?_
  case y5 => (intro w hSw; (try dsimp only at hSw); go_simp; all_goals with_reducible rfl)
  try simp only [Act.put, List.getElem_toArray, List.getElem_cons_succ, List.getElem_cons_zero, List.setIfInBounds_toArray, List.set_cons_zero, List.set_cons_succ]
  refine wpAnyH_take (i := 7) (v := ?v6) rfl (by kernel_rfl) (by kernel_rfl) (by kernel_rfl) (fun _ _ _ h => h) (Or.inl ⟨by kernel_rfl, ?y6⟩) (by assumption) ?_
  case y6 => (intro w hSw; (try dsimp only at hSw); go_simp; all_goals with_reducible rfl)
  try simp only [Act.put, List.getElem_toArray, List.getElem_cons_succ, List.getElem_cons_zero, List.setIfInBounds_toArray, List.set_cons_zero, List.set_cons_succ]
  refine wpAnyH_take (i := 8) (v := ?v7) rfl (by kernel_rfl) (by kernel_rfl) (by kernel_rfl) (fun _ _ _ h => h) (Or.inl ⟨by kernel_rfl, ?y7⟩) (by assumption) ?_
  case y7 => (intro w hSw; (try dsimp only at hSw); go_simp; all_goals with_reducible rfl)
  try simp only [Act.put, List.getElem_toArray, List.getElem_cons_succ, List.getElem_cons_zero, List.setIfInBounds_toArray, List.set_cons_zero, List.set_cons_succ]
  refine wpAnyH_done (by kernel_rfl) ?_ _
  refine NoPanic.normal ?_
  have FW := hHeld.2.2.2.2.2.2.2.2
  replace HS := hid HS.out
  have HFS := FW
  clear hHeld g0 g1 g2 g3 g4 b0 b1 b2 hz hs HZ
  go_upto_region 5 with (first | ((with_reducible refine GeA.ld_geom rfl (.tmp 1) rfl G ?_ (HGB.out.fr FW.out) ?_); · rfl) | (go_at_call 16; refine (dec0 As cs _ HS.out (HTB.out.fr FW.out (fun h => h))).mono ?_; rintro e w3 ⟨⟨Ax, cx, Ad, cd, rfl, hx, hcx, hd⟩, f3⟩; have HF3 := hid (FW.out.trans f3); have HX3 := hid hx; have HD3 := hid hd; have HS3 := hid (isB_fr HS.out f3); have HCX := hid hcx; clear hx hd hcx f3))
  obtain ⟨X, hX⟩ : ∃ X, w3.heap.size = X := ⟨_, rfl⟩
  obtain ⟨w5, hw5⟩ : ∃ w5, w3.alloc (.cells (bcs 3 1 Ax 1 cx) 26) = w5 := ⟨_, rfl⟩
  have f5 : Fr No w3 w5 := by rw [← hw5]; exact fr1 _ _
  have HXX := hid (show BB w5 X 3 1 Ax 1 cx by rw [← hw5, ← hX]; exact BB.new _ _ _ _ _ _)
  have HX5 := hid (HX3.out.fr f5)
  have HD5 := hid (HD3.out.fr f5 (fun _ _ _ h => h))
  have HS5 := hid (isB_fr HS3.out f5)
  have HF5 := hid (HF3.out.trans f5)
  rw [show w3.alloc (.cells #[.int .i64 3, .int .i64 1, .slice Ax 1 cx] 26) = w5 from hw5]
  try rw [hX]
  have hw5s : wb.heap.size ≤ w5.heap.size := HF5.out.size
  clear hw5 f5 HX3 HD3 HS3 HF3 FW HS HFS
  have HT5 := hid (HTB.out.fr HF5.out (fun h => h))
  have HG5 := hid (HGB.out.fr HF5.out)
  obtain ⟨g0, g1, g2, g3, g4⟩ := HG5.out.cells
  have hsb := HSB.out
  have hG5 : G < w5.heap.size := by omega
  obtain ⟨i0, hi, hz0, hz1, hz2⟩ := info_parts u8_info
  have FW : Hid (Fr No w5 w5) := hid (Fr.refl _ _)
  go_cut [8, 9, 10] (fun p s' e' wx => CutL w5 p s' e' wx)
  case first =>
    have FW := kd FW
    refine wp_region_noPanic ?_
    refine wp_region_held_drew (S := (fun W' => W'.cell? ⟨G, 0, none⟩ = some (.int .i64 2) ∧ W'.cell? ⟨G, 1, none⟩ = some (.int .i64 6) ∧ W'.cell? ⟨G, 2, none⟩ = some (.int .i64 16) ∧ W'.cell? ⟨G, 3, none⟩ = some (.int .i64 3) ∧ W'.cell? ⟨G, 4, none⟩ = some (.int .i64 2) ∧ Hid (Fr No w5 W'))) (by kernel_rfl) ?_ (fun hHeld => ?_)
    · (try dsimp only); (first | (go_split_ands; exact ⟨kc f (by assumption), kc f (by assumption), kc f (by assumption), kc f (by assumption), kc f (by assumption), by assumption⟩) | (go_split_ands; exact ⟨(by assumption), (by assumption), (by assumption), (by assumption), (by assumption), by assumption⟩) | (go_split_ands; exact ⟨kc (fr1 _ _) (by assumption), kc (fr1 _ _) (by assumption), kc (fr1 _ _) (by assumption), kc (fr1 _ _) (by assumption), kc (fr1 _ _) (by assumption), kfa (by assumption)⟩) | (go_split_ands; exact ⟨kc (fr1d _ _) (by assumption), kc (fr1d _ _) (by assumption), kc (fr1d _ _) (by assumption), kc (fr1d _ _) (by assumption), kc (fr1d _ _) (by assumption), kfae (by assumption)⟩) | (exact ⟨kcs hf2 (by simp only []; omega) hHeld.1, kcs hf2 (by simp only []; omega) hHeld.2.1, kcs hf2 (by simp only []; omega) hHeld.2.2.1, kcs hf2 (by simp only []; omega) hHeld.2.2.2.1, kcs hf2 (by simp only []; omega) hHeld.2.2.2.2.1, kfg (by omega) FW hf2⟩) | (exact ⟨kcs hf2 (by simp only []; omega) hHeld.1, kcs hf2 (by simp only []; omega) hHeld.2.1, kcs hf2 (by simp only []; omega) hHeld.2.2.1, kcs hf2 (by simp only []; omega) hHeld.2.2.2.1, kcs hf2 (by simp only []; omega) hHeld.2.2.2.2.1, kfg (by omega) hHeld.2.2.2.2.2 hf2⟩) | (go_split_ands; exact ⟨kcs hf2 (by simp only []; omega) (by assumption), kcs hf2 (by simp only []; omega) (by assumption), kcs hf2 (by simp only []; omega) (by assumption), kcs hf2 (by simp only []; omega) (by assumption), kcs hf2 (by simp only []; omega) (by assumption), kfg (by omega) (by assumption) hf2⟩))
    refine wpAnyH_take (i := 0) (v := ?v36) rfl (by kernel_rfl) (by kernel_rfl) (by kernel_rfl) (fun _ _ _ h => h) (Or.inl ⟨by kernel_rfl, ?y36⟩) (by assumption) ?_
    case y36 => (intro w hSw; (try dsimp only at hSw); go_simp; all_goals with_reducible rfl)
    try simp only [Act.put, List.getElem_toArray, List.getElem_cons_zero, List.setIfInBounds_toArray, List.set_cons_zero, List.set_cons_succ]
    refine wpAnyH_ready (rs := [1, 7]) (by kernel_rfl) (by simp) (AllReadyH.cons rfl (fun K hK => ?_) (AllReadyH.cons rfl (fun K hK => ?_) AllReadyH.nil))
    · refine step_make (by kernel_rfl) (.const (.int .i64 128)) (.const (.int .i64 128)) 27 rfl 5 i0 (.int .u8 0) 1 Tryd.underlying27 hi hz0 hz1 hz2 rfl .i64 .i64 _ _ 128 rfl rfl rfl rfl (by decide) (by decide) ?_
      intro WM own f
      (try rw [show (World.drew (w5.alloc (.cells #[.int .i64 0, .int .i64 0, .slice none 0 0] 26))).heap.size = w5.heap.size + 1 from World.size_alloc _ _] at own ⊢)
      have FW := kf f hHeld.2.2.2.2.2
      have HMK := hid (show IsB WM _ 128 128 z128 from ⟨z128_rd own, by decide, by decide, z128_u8⟩)
      (try have MX := hid (Blk.fr MX.out f (fun h => h)))
      have hszM := FW.out.size
      clear own
      refine hK.out _ _ ?_ (fun hHeld => ?_)
      · (try dsimp only); (first | (go_split_ands; exact ⟨kc f (by assumption), kc f (by assumption), kc f (by assumption), kc f (by assumption), kc f (by assumption), by assumption⟩) | (go_split_ands; exact ⟨(by assumption), (by assumption), (by assumption), (by assumption), (by assumption), by assumption⟩) | (go_split_ands; exact ⟨kc (fr1 _ _) (by assumption), kc (fr1 _ _) (by assumption), kc (fr1 _ _) (by assumption), kc (fr1 _ _) (by assumption), kc (fr1 _ _) (by assumption), kfa (by assumption)⟩) | (go_split_ands; exact ⟨kc (fr1d _ _) (by assumption), kc (fr1d _ _) (by assumption), kc (fr1d _ _) (by assumption), kc (fr1d _ _) (by assumption), kc (fr1d _ _) (by assumption), kfae (by assumption)⟩) | (exact ⟨kcs hf2 (by simp only []; omega) hHeld.1, kcs hf2 (by simp only []; omega) hHeld.2.1, kcs hf2 (by simp only []; omega) hHeld.2.2.1, kcs hf2 (by simp only []; omega) hHeld.2.2.2.1, kcs hf2 (by simp only []; omega) hHeld.2.2.2.2.1, kfg (by omega) FW hf2⟩) | (exact ⟨kcs hf2 (by simp only []; omega) hHeld.1, kcs hf2 (by simp only []; omega) hHeld.2.1, kcs hf2 (by simp only []; omega) hHeld.2.2.1, kcs hf2 (by simp only []; omega) hHeld.2.2.2.1, kcs hf2 (by simp only []; omega) hHeld.2.2.2.2.1, kfg (by omega) hHeld.2.2.2.2.2 hf2⟩) | (go_split_ands; exact ⟨kcs hf2 (by simp only []; omega) (by assumption), kcs hf2 (by simp only []; omega) (by assumption), kcs hf2 (by simp only []; omega) (by assumption), kcs hf2 (by simp only []; omega) (by assumption), kcs hf2 (by simp only []; omega) (by assumption), kfg (by omega) (by assumption) hf2⟩))
      clear hK K
      try simp only [Act.put, List.getElem_toArray, List.getElem_cons_succ, List.getElem_cons_zero, List.setIfInBounds_toArray, List.set_cons_zero, List.set_cons_succ]
      have FH := Fr.refl No WM
      refine wpAnyH_ready (rs := [2, 7]) (by kernel_rfl) (by simp) (AllReadyH.cons rfl (fun K hK => ?_) (AllReadyH.cons rfl (fun K hK => ?_) AllReadyH.nil))
      · go_simp
        go_at_call 18
        refine (hea0 _ 128 _ (isB_fr HMK.out FH) (HT5.out.fr hHeld.2.2.2.2.2.out (fun h => h))).mono ?_
        rintro e W1 ⟨rfl, f⟩
        have FW := kf f hHeld.2.2.2.2.2
        (try have MX := hid (Blk.fr MX.out f (fun h => h)))
        have hsz1 := FW.out.size
        dsimp only
        refine hK.out _ _ ?_ (fun hHeld => ?_)
        · (try dsimp only); (first | (go_split_ands; exact ⟨kc f (by assumption), kc f (by assumption), kc f (by assumption), kc f (by assumption), kc f (by assumption), by assumption⟩) | (go_split_ands; exact ⟨(by assumption), (by assumption), (by assumption), (by assumption), (by assumption), by assumption⟩) | (go_split_ands; exact ⟨kc (fr1 _ _) (by assumption), kc (fr1 _ _) (by assumption), kc (fr1 _ _) (by assumption), kc (fr1 _ _) (by assumption), kc (fr1 _ _) (by assumption), kfa (by assumption)⟩) | (go_split_ands; exact ⟨kc (fr1d _ _) (by assumption), kc (fr1d _ _) (by assumption), kc (fr1d _ _) (by assumption), kc (fr1d _ _) (by assumption), kc (fr1d _ _) (by assumption), kfae (by assumption)⟩) | (exact ⟨kcs hf2 (by simp only []; omega) hHeld.1, kcs hf2 (by simp only []; omega) hHeld.2.1, kcs hf2 (by simp only []; omega) hHeld.2.2.1, kcs hf2 (by simp only []; omega) hHeld.2.2.2.1, kcs hf2 (by simp only []; omega) hHeld.2.2.2.2.1, kfg (by omega) FW hf2⟩) | (exact ⟨kcs hf2 (by simp only []; omega) hHeld.1, kcs hf2 (by simp only []; omega) hHeld.2.1, kcs hf2 (by simp only []; omega) hHeld.2.2.1, kcs hf2 (by simp only []; omega) hHeld.2.2.2.1, kcs hf2 (by simp only []; omega) hHeld.2.2.2.2.1, kfg (by omega) hHeld.2.2.2.2.2 hf2⟩) | (go_split_ands; exact ⟨kcs hf2 (by simp only []; omega) (by assumption), kcs hf2 (by simp only []; omega) (by assumption), kcs hf2 (by simp only []; omega) (by assumption), kcs hf2 (by simp only []; omega) (by assumption), kcs hf2 (by simp only []; omega) (by assumption), kfg (by omega) (by assumption) hf2⟩))
        clear hK K
        try simp only [Act.put, List.getElem_toArray, List.getElem_cons_succ, List.getElem_cons_zero, List.setIfInBounds_toArray, List.set_cons_zero, List.set_cons_succ]
        refine wpAnyH_take (i := 3) (v := ?v37) rfl (by kernel_rfl) (by kernel_rfl) (by kernel_rfl) (fun _ _ _ h => h) (Or.inl ⟨by kernel_rfl, ?y37⟩) (by assumption) ?_
        case y37 => (intro w hSw; (try dsimp only at hSw); go_simp; all_goals with_reducible rfl)
        try simp only [Act.put, List.getElem_toArray, List.getElem_cons_succ, List.getElem_cons_zero, List.setIfInBounds_toArray, List.set_cons_zero, List.set_cons_succ]
        refine wpAnyH_take (i := 4) (v := ?v38) rfl (by kernel_rfl) (by kernel_rfl) (by kernel_rfl) (fun _ _ _ h => h) (Or.inl ⟨by kernel_rfl, ?y38⟩) (by assumption) ?_
        case y38 => (intro w hSw; (try dsimp only at hSw); go_simp; all_goals with_reducible rfl)
        try simp only [Act.put, List.getElem_toArray, List.getElem_cons_succ, List.getElem_cons_zero, List.setIfInBounds_toArray, List.set_cons_zero, List.set_cons_succ]
        refine wpAnyH_take (i := 5) (v := ?v39) rfl (by kernel_rfl) (by kernel_rfl) (by kernel_rfl) (fun _ _ _ h => h) (Or.inl ⟨by kernel_rfl, ?y39⟩) (by assumption) ?_
        case y39 => (intro w hSw; (try dsimp only at hSw); go_simp; all_goals with_reducible rfl)
        try simp only [Act.put, List.getElem_toArray, List.getElem_cons_succ, List.getElem_cons_zero, List.setIfInBounds_toArray, List.set_cons_zero, List.set_cons_succ]
        refine wpAnyH_take (i := 6) (v := ?v40) rfl (by kernel_rfl) (by kernel_rfl) (by kernel_rfl) (fun _ _ _ h => h) (Or.inl ⟨by kernel_rfl, ?y40⟩) (by assumption) ?_
        case y40 => (intro w hSw; (try dsimp only at hSw); go_simp; all_goals with_reducible rfl)
        try simp only [Act.put, List.getElem_toArray, List.getElem_cons_succ, List.getElem_cons_zero, List.setIfInBounds_toArray, List.set_cons_zero, List.set_cons_succ]
        refine wpAnyH_ready (rs := [7]) (by kernel_rfl) (by simp) (AllReadyH.cons rfl (fun K hK => ?_) AllReadyH.nil)
        go_simp
        refine hK.out _ _ ?_ (fun hHeld => ?_)
        · (try dsimp only); (first | (go_split_ands; exact ⟨kc f (by assumption), kc f (by assumption), kc f (by assumption), kc f (by assumption), kc f (by assumption), by assumption⟩) | (go_split_ands; exact ⟨(by assumption), (by assumption), (by assumption), (by assumption), (by assumption), by assumption⟩) | (go_split_ands; exact ⟨kc (fr1 _ _) (by assumption), kc (fr1 _ _) (by assumption), kc (fr1 _ _) (by assumption), kc (fr1 _ _) (by assumption), kc (fr1 _ _) (by assumption), kfa (by assumption)⟩) | (go_split_ands; exact ⟨kc (fr1d _ _) (by assumption), kc (fr1d _ _) (by assumption), kc (fr1d _ _) (by assumption), kc (fr1d _ _) (by assumption), kc (fr1d _ _) (by assumption), kfae (by assumption)⟩) | (exact ⟨kcs hf2 (by simp only []; omega) hHeld.1, kcs hf2 (by simp only []; omega) hHeld.2.1, kcs hf2 (by simp only []; omega) hHeld.2.2.1, kcs hf2 (by simp only []; omega) hHeld.2.2.2.1, kcs hf2 (by simp only []; omega) hHeld.2.2.2.2.1, kfg (by omega) FW hf2⟩) | (exact ⟨kcs hf2 (by simp only []; omega) hHeld.1, kcs hf2 (by simp only []; omega) hHeld.2.1, kcs hf2 (by simp only []; omega) hHeld.2.2.1, kcs hf2 (by simp only []; omega) hHeld.2.2.2.1, kcs hf2 (by simp only []; omega) hHeld.2.2.2.2.1, kfg (by omega) hHeld.2.2.2.2.2 hf2⟩) | (go_split_ands; exact ⟨kcs hf2 (by simp only []; omega) (by assumption), kcs hf2 (by simp only []; omega) (by assumption), kcs hf2 (by simp only []; omega) (by assumption), kcs hf2 (by simp only []; omega) (by assumption), kcs hf2 (by simp only []; omega) (by assumption), kfg (by omega) (by assumption) hf2⟩))
        clear hK K
        try simp only [Act.put, List.getElem_toArray, List.getElem_cons_succ, List.getElem_cons_zero, List.setIfInBounds_toArray, List.set_cons_zero, List.set_cons_succ]
        have MX := hid (Blk.new W1 26 #[.int .i64 0, .int .i64 0, .slice none 0 0])
        refine wpAnyH_ready (rs := [8]) (by kernel_rfl) (by simp) (AllReadyH.cons rfl (fun K hK => ?_) AllReadyH.nil)
        refine st_bt_step rfl (.tmp 8) (.tmp 36) rfl _ rfl rfl (by simp [Value.oneCell']) MX.out rfl ?_
        intro W2 hb2 hf2
        refine hK.out _ _ ?_ (fun hHeld => ?_)
        · (try dsimp only); (first | (go_split_ands; exact ⟨kc f (by assumption), kc f (by assumption), kc f (by assumption), kc f (by assumption), kc f (by assumption), by assumption⟩) | (go_split_ands; exact ⟨(by assumption), (by assumption), (by assumption), (by assumption), (by assumption), by assumption⟩) | (go_split_ands; exact ⟨kc (fr1 _ _) (by assumption), kc (fr1 _ _) (by assumption), kc (fr1 _ _) (by assumption), kc (fr1 _ _) (by assumption), kc (fr1 _ _) (by assumption), kfa (by assumption)⟩) | (go_split_ands; exact ⟨kc (fr1d _ _) (by assumption), kc (fr1d _ _) (by assumption), kc (fr1d _ _) (by assumption), kc (fr1d _ _) (by assumption), kc (fr1d _ _) (by assumption), kfae (by assumption)⟩) | (exact ⟨kcs hf2 (by simp only []; omega) hHeld.1, kcs hf2 (by simp only []; omega) hHeld.2.1, kcs hf2 (by simp only []; omega) hHeld.2.2.1, kcs hf2 (by simp only []; omega) hHeld.2.2.2.1, kcs hf2 (by simp only []; omega) hHeld.2.2.2.2.1, kfg (by omega) FW hf2⟩) | (exact ⟨kcs hf2 (by simp only []; omega) hHeld.1, kcs hf2 (by simp only []; omega) hHeld.2.1, kcs hf2 (by simp only []; omega) hHeld.2.2.1, kcs hf2 (by simp only []; omega) hHeld.2.2.2.1, kcs hf2 (by simp only []; omega) hHeld.2.2.2.2.1, kfg (by omega) hHeld.2.2.2.2.2 hf2⟩) | (go_split_ands; exact ⟨kcs hf2 (by simp only []; omega) (by assumption), kcs hf2 (by simp only []; omega) (by assumption), kcs hf2 (by simp only []; omega) (by assumption), kcs hf2 (by simp only []; omega) (by assumption), kcs hf2 (by simp only []; omega) (by assumption), kfg (by omega) (by assumption) hf2⟩))
        clear hK K
        try simp only [Act.put, List.getElem_toArray, List.getElem_cons_succ, List.getElem_cons_zero]
        refine wpAnyH_take (i := 9) (v := ?v41) rfl (by kernel_rfl) (by kernel_rfl) (by kernel_rfl) (fun _ _ _ h => h) (Or.inl ⟨by kernel_rfl, ?y41⟩) (by assumption) ?_
        case y41 => (intro w hSw; (try dsimp only at hSw); go_simp; all_goals with_reducible rfl)
        try simp only [Act.put, List.getElem_toArray, List.getElem_cons_succ, List.getElem_cons_zero, List.setIfInBounds_toArray, List.set_cons_zero, List.set_cons_succ]
        refine wpAnyH_take (i := 10) (v := ?v42) rfl (by kernel_rfl) (by kernel_rfl) (by kernel_rfl) (fun _ _ _ h => h) (Or.inl ⟨by kernel_rfl, ?y42⟩) (by assumption) ?_
        case y42 => (intro w hSw; (try dsimp only at hSw); go_simp; all_goals with_reducible rfl)
        try simp only [Act.put, List.getElem_toArray, List.getElem_cons_succ, List.getElem_cons_zero, List.setIfInBounds_toArray, List.set_cons_zero, List.set_cons_succ]
        refine wpAnyH_done (by kernel_rfl) ?_ _
        refine NoPanic.normal ?_
        go_wp2_with fail
        go_meet
        case rel => (try refine ⟨_, _, _, ?_, rfl, rfl, rfl⟩); exact ⟨_, rfl, rfl, rfl, hb2, (by omega), hHeld.2.2.2.2.2.out⟩
      · go_simp
        refine hK.out _ _ ?_ (fun hHeld => ?_)
        · (try dsimp only); (first | (go_split_ands; exact ⟨kc f (by assumption), kc f (by assumption), kc f (by assumption), kc f (by assumption), kc f (by assumption), by assumption⟩) | (go_split_ands; exact ⟨(by assumption), (by assumption), (by assumption), (by assumption), (by assumption), by assumption⟩) | (go_split_ands; exact ⟨kc (fr1 _ _) (by assumption), kc (fr1 _ _) (by assumption), kc (fr1 _ _) (by assumption), kc (fr1 _ _) (by assumption), kc (fr1 _ _) (by assumption), kfa (by assumption)⟩) | (go_split_ands; exact ⟨kc (fr1d _ _) (by assumption), kc (fr1d _ _) (by assumption), kc (fr1d _ _) (by assumption), kc (fr1d _ _) (by assumption), kc (fr1d _ _) (by assumption), kfae (by assumption)⟩) | (exact ⟨kcs hf2 (by simp only []; omega) hHeld.1, kcs hf2 (by simp only []; omega) hHeld.2.1, kcs hf2 (by simp only []; omega) hHeld.2.2.1, kcs hf2 (by simp only []; omega) hHeld.2.2.2.1, kcs hf2 (by simp only []; omega) hHeld.2.2.2.2.1, kfg (by omega) FW hf2⟩) | (exact ⟨kcs hf2 (by simp only []; omega) hHeld.1, kcs hf2 (by simp only []; omega) hHeld.2.1, kcs hf2 (by simp only []; omega) hHeld.2.2.1, kcs hf2 (by simp only []; omega) hHeld.2.2.2.1, kcs hf2 (by simp only []; omega) hHeld.2.2.2.2.1, kfg (by omega) hHeld.2.2.2.2.2 hf2⟩) | (go_split_ands; exact ⟨kcs hf2 (by simp only []; omega) (by assumption), kcs hf2 (by simp only []; omega) (by assumption), kcs hf2 (by simp only []; omega) (by assumption), kcs hf2 (by simp only []; omega) (by assumption), kcs hf2 (by simp only []; omega) (by assumption), kfg (by omega) (by assumption) hf2⟩))
        clear hK K
        try simp only [Act.put, List.getElem_toArray, List.getElem_cons_succ, List.getElem_cons_zero, List.setIfInBounds_toArray, List.set_cons_zero, List.set_cons_succ]
        have MX := hid (Blk.new WM 26 #[.int .i64 0, .int .i64 0, .slice none 0 0]); have FH := fr1 WM (.cells #[.int .i64 0, .int .i64 0, .slice none 0 0] 26)
        refine wpAnyH_ready (rs := [2]) (by kernel_rfl) (by simp) (AllReadyH.cons rfl (fun K hK => ?_) AllReadyH.nil)
        go_simp
        go_at_call 18
        refine (hea0 _ 128 _ (isB_fr HMK.out FH) (HT5.out.fr hHeld.2.2.2.2.2.out (fun h => h))).mono ?_
        rintro e W1 ⟨rfl, f⟩
        have FW := kf f hHeld.2.2.2.2.2
        (try have MX := hid (Blk.fr MX.out f (fun h => h)))
        have hsz1 := FW.out.size
        dsimp only
        refine hK.out _ _ ?_ (fun hHeld => ?_)
        · (try dsimp only); (first | (go_split_ands; exact ⟨kc f (by assumption), kc f (by assumption), kc f (by assumption), kc f (by assumption), kc f (by assumption), by assumption⟩) | (go_split_ands; exact ⟨(by assumption), (by assumption), (by assumption), (by assumption), (by assumption), by assumption⟩) | (go_split_ands; exact ⟨kc (fr1 _ _) (by assumption), kc (fr1 _ _) (by assumption), kc (fr1 _ _) (by assumption), kc (fr1 _ _) (by assumption), kc (fr1 _ _) (by assumption), kfa (by assumption)⟩) | (go_split_ands; exact ⟨kc (fr1d _ _) (by assumption), kc (fr1d _ _) (by assumption), kc (fr1d _ _) (by assumption), kc (fr1d _ _) (by assumption), kc (fr1d _ _) (by assumption), kfae (by assumption)⟩) | (exact ⟨kcs hf2 (by simp only []; omega) hHeld.1, kcs hf2 (by simp only []; omega) hHeld.2.1, kcs hf2 (by simp only []; omega) hHeld.2.2.1, kcs hf2 (by simp only []; omega) hHeld.2.2.2.1, kcs hf2 (by simp only []; omega) hHeld.2.2.2.2.1, kfg (by omega) FW hf2⟩) | (exact ⟨kcs hf2 (by simp only []; omega) hHeld.1, kcs hf2 (by simp only []; omega) hHeld.2.1, kcs hf2 (by simp only []; omega) hHeld.2.2.1, kcs hf2 (by simp only []; omega) hHeld.2.2.2.1, kcs hf2 (by simp only []; omega) hHeld.2.2.2.2.1, kfg (by omega) hHeld.2.2.2.2.2 hf2⟩) | (go_split_ands; exact ⟨kcs hf2 (by simp only []; omega) (by assumption), kcs hf2 (by simp only []; omega) (by assumption), kcs hf2 (by simp only []; omega) (by assumption), kcs hf2 (by simp only []; omega) (by assumption), kcs hf2 (by simp only []; omega) (by assumption), kfg (by omega) (by assumption) hf2⟩))
        clear hK K
        try simp only [Act.put, List.getElem_toArray, List.getElem_cons_succ, List.getElem_cons_zero, List.setIfInBounds_toArray, List.set_cons_zero, List.set_cons_succ]
        refine wpAnyH_take (i := 3) (v := ?v43) rfl (by kernel_rfl) (by kernel_rfl) (by kernel_rfl) (fun _ _ _ h => h) (Or.inl ⟨by kernel_rfl, ?y43⟩) (by assumption) ?_
        case y43 => (intro w hSw; (try dsimp only at hSw); go_simp; all_goals with_reducible rfl)
        try simp only [Act.put, List.getElem_toArray, List.getElem_cons_succ, List.getElem_cons_zero, List.setIfInBounds_toArray, List.set_cons_zero, List.set_cons_succ]
        refine wpAnyH_take (i := 4) (v := ?v44) rfl (by kernel_rfl) (by kernel_rfl) (by kernel_rfl) (fun _ _ _ h => h) (Or.inl ⟨by kernel_rfl, ?y44⟩) (by assumption) ?_
        case y44 => (intro w hSw; (try dsimp only at hSw); go_simp; all_goals with_reducible rfl)
        try simp only [Act.put, List.getElem_toArray, List.getElem_cons_succ, List.getElem_cons_zero, List.setIfInBounds_toArray, List.set_cons_zero, List.set_cons_succ]
        refine wpAnyH_take (i := 5) (v := ?v45) rfl (by kernel_rfl) (by kernel_rfl) (by kernel_rfl) (fun _ _ _ h => h) (Or.inl ⟨by kernel_rfl, ?y45⟩) (by assumption) ?_
        case y45 => (intro w hSw; (try dsimp only at hSw); go_simp; all_goals with_reducible rfl)
        try simp only [Act.put, List.getElem_toArray, List.getElem_cons_succ, List.getElem_cons_zero, List.setIfInBounds_toArray, List.set_cons_zero, List.set_cons_succ]
        refine wpAnyH_take (i := 6) (v := ?v46) rfl (by kernel_rfl) (by kernel_rfl) (by kernel_rfl) (fun _ _ _ h => h) (Or.inl ⟨by kernel_rfl, ?y46⟩) (by assumption) ?_
        case y46 => (intro w hSw; (try dsimp only at hSw); go_simp; all_goals with_reducible rfl)
        try simp only [Act.put, List.getElem_toArray, List.getElem_cons_succ, List.getElem_cons_zero, List.setIfInBounds_toArray, List.set_cons_zero, List.set_cons_succ]
        refine wpAnyH_ready (rs := [8]) (by kernel_rfl) (by simp) (AllReadyH.cons rfl (fun K hK => ?_) AllReadyH.nil)
        refine st_bt_step rfl (.tmp 8) (.tmp 36) rfl _ rfl rfl (by simp [Value.oneCell']) MX.out rfl ?_
        intro W2 hb2 hf2
        refine hK.out _ _ ?_ (fun hHeld => ?_)
        · (try dsimp only); (first | (go_split_ands; exact ⟨kc f (by assumption), kc f (by assumption), kc f (by assumption), kc f (by assumption), kc f (by assumption), by assumption⟩) | (go_split_ands; exact ⟨(by assumption), (by assumption), (by assumption), (by assumption), (by assumption), by assumption⟩) | (go_split_ands; exact ⟨kc (fr1 _ _) (by assumption), kc (fr1 _ _) (by assumption), kc (fr1 _ _) (by assumption), kc (fr1 _ _) (by assumption), kc (fr1 _ _) (by assumption), kfa (by assumption)⟩) | (go_split_ands; exact ⟨kc (fr1d _ _) (by assumption), kc (fr1d _ _) (by assumption), kc (fr1d _ _) (by assumption), kc (fr1d _ _) (by assumption), kc (fr1d _ _) (by assumption), kfae (by assumption)⟩) | (exact ⟨kcs hf2 (by simp only []; omega) hHeld.1, kcs hf2 (by simp only []; omega) hHeld.2.1, kcs hf2 (by simp only []; omega) hHeld.2.2.1, kcs hf2 (by simp only []; omega) hHeld.2.2.2.1, kcs hf2 (by simp only []; omega) hHeld.2.2.2.2.1, kfg (by omega) FW hf2⟩) | (exact ⟨kcs hf2 (by simp only []; omega) hHeld.1, kcs hf2 (by simp only []; omega) hHeld.2.1, kcs hf2 (by simp only []; omega) hHeld.2.2.1, kcs hf2 (by simp only []; omega) hHeld.2.2.2.1, kcs hf2 (by simp only []; omega) hHeld.2.2.2.2.1, kfg (by omega) hHeld.2.2.2.2.2 hf2⟩) | (go_split_ands; exact ⟨kcs hf2 (by simp only []; omega) (by assumption), kcs hf2 (by simp only []; omega) (by assumption), kcs hf2 (by simp only []; omega) (by assumption), kcs hf2 (by simp only []; omega) (by assumption), kcs hf2 (by simp only []; omega) (by assumption), kfg (by omega) (by assumption) hf2⟩))
        clear hK K
        try simp only [Act.put, List.getElem_toArray, List.getElem_cons_succ, List.getElem_cons_zero]
        refine wpAnyH_take (i := 9) (v := ?v47) rfl (by kernel_rfl) (by kernel_rfl) (by kernel_rfl) (fun _ _ _ h => h) (Or.inl ⟨by kernel_rfl, ?y47⟩) (by assumption) ?_
        case y47 => (intro w hSw; (try dsimp only at hSw); go_simp; all_goals with_reducible rfl)
        try simp only [Act.put, List.getElem_toArray, List.getElem_cons_succ, List.getElem_cons_zero, List.setIfInBounds_toArray, List.set_cons_zero, List.set_cons_succ]
        refine wpAnyH_take (i := 10) (v := ?v48) rfl (by kernel_rfl) (by kernel_rfl) (by kernel_rfl) (fun _ _ _ h => h) (Or.inl ⟨by kernel_rfl, ?y48⟩) (by assumption) ?_
        case y48 => (intro w hSw; (try dsimp only at hSw); go_simp; all_goals with_reducible rfl)
        try simp only [Act.put, List.getElem_toArray, List.getElem_cons_succ, List.getElem_cons_zero, List.setIfInBounds_toArray, List.set_cons_zero, List.set_cons_succ]
        refine wpAnyH_done (by kernel_rfl) ?_ _
        refine NoPanic.normal ?_
        go_wp2_with fail
        go_meet
        case rel => (try refine ⟨_, _, _, ?_, rfl, rfl, rfl⟩); exact ⟨_, rfl, rfl, rfl, hb2, (by omega), hHeld.2.2.2.2.2.out⟩
    · go_simp
      refine hK.out _ _ ?_ (fun hHeld => ?_)
      · (try dsimp only); (first | (go_split_ands; exact ⟨kc f (by assumption), kc f (by assumption), kc f (by assumption), kc f (by assumption), kc f (by assumption), by assumption⟩) | (go_split_ands; exact ⟨(by assumption), (by assumption), (by assumption), (by assumption), (by assumption), by assumption⟩) | (go_split_ands; exact ⟨kc (fr1 _ _) (by assumption), kc (fr1 _ _) (by assumption), kc (fr1 _ _) (by assumption), kc (fr1 _ _) (by assumption), kc (fr1 _ _) (by assumption), kfa (by assumption)⟩) | (go_split_ands; exact ⟨kc (fr1d _ _) (by assumption), kc (fr1d _ _) (by assumption), kc (fr1d _ _) (by assumption), kc (fr1d _ _) (by assumption), kc (fr1d _ _) (by assumption), kfae (by assumption)⟩) | (exact ⟨kcs hf2 (by simp only []; omega) hHeld.1, kcs hf2 (by simp only []; omega) hHeld.2.1, kcs hf2 (by simp only []; omega) hHeld.2.2.1, kcs hf2 (by simp only []; omega) hHeld.2.2.2.1, kcs hf2 (by simp only []; omega) hHeld.2.2.2.2.1, kfg (by omega) FW hf2⟩) | (exact ⟨kcs hf2 (by simp only []; omega) hHeld.1, kcs hf2 (by simp only []; omega) hHeld.2.1, kcs hf2 (by simp only []; omega) hHeld.2.2.1, kcs hf2 (by simp only []; omega) hHeld.2.2.2.1, kcs hf2 (by simp only []; omega) hHeld.2.2.2.2.1, kfg (by omega) hHeld.2.2.2.2.2 hf2⟩) | (go_split_ands; exact ⟨kcs hf2 (by simp only []; omega) (by assumption), kcs hf2 (by simp only []; omega) (by assumption), kcs hf2 (by simp only []; omega) (by assumption), kcs hf2 (by simp only []; omega) (by assumption), kcs hf2 (by simp only []; omega) (by assumption), kfg (by omega) (by assumption) hf2⟩))
      clear hK K
      try simp only [Act.put, List.getElem_toArray, List.getElem_cons_succ, List.getElem_cons_zero, List.setIfInBounds_toArray, List.set_cons_zero, List.set_cons_succ]
      have MX := hid (show Blk (w5.alloc (.cells #[.int .i64 0, .int .i64 0, .slice none 0 0] 26)).drew w5.heap.size 26 #[.int .i64 0, .int .i64 0, .slice none 0 0] from Blk.new w5 _ _); have hszM : w5.heap.size ≤ w5.heap.size := Nat.le_refl _
      refine wpAnyH_ready (rs := [1]) (by kernel_rfl) (by simp) (AllReadyH.cons rfl (fun K hK => ?_) AllReadyH.nil)
      refine step_make (by kernel_rfl) (.const (.int .i64 128)) (.const (.int .i64 128)) 27 rfl 5 i0 (.int .u8 0) 1 Tryd.underlying27 hi hz0 hz1 hz2 rfl .i64 .i64 _ _ 128 rfl rfl rfl rfl (by decide) (by decide) ?_
      intro WM own f
      (try rw [show (World.drew (w5.alloc (.cells #[.int .i64 0, .int .i64 0, .slice none 0 0] 26))).heap.size = w5.heap.size + 1 from World.size_alloc _ _] at own ⊢)
      have FW := kf f hHeld.2.2.2.2.2
      have HMK := hid (show IsB WM _ 128 128 z128 from ⟨z128_rd own, by decide, by decide, z128_u8⟩)
      (try have MX := hid (Blk.fr MX.out f (fun h => h)))
      have hszM := FW.out.size
      clear own
      refine hK.out _ _ ?_ (fun hHeld => ?_)
      · (try dsimp only); (first | (go_split_ands; exact ⟨kc f (by assumption), kc f (by assumption), kc f (by assumption), kc f (by assumption), kc f (by assumption), by assumption⟩) | (go_split_ands; exact ⟨(by assumption), (by assumption), (by assumption), (by assumption), (by assumption), by assumption⟩) | (go_split_ands; exact ⟨kc (fr1 _ _) (by assumption), kc (fr1 _ _) (by assumption), kc (fr1 _ _) (by assumption), kc (fr1 _ _) (by assumption), kc (fr1 _ _) (by assumption), kfa (by assumption)⟩) | (go_split_ands; exact ⟨kc (fr1d _ _) (by assumption), kc (fr1d _ _) (by assumption), kc (fr1d _ _) (by assumption), kc (fr1d _ _) (by assumption), kc (fr1d _ _) (by assumption), kfae (by assumption)⟩) | (exact ⟨kcs hf2 (by simp only []; omega) hHeld.1, kcs hf2 (by simp only []; omega) hHeld.2.1, kcs hf2 (by simp only []; omega) hHeld.2.2.1, kcs hf2 (by simp only []; omega) hHeld.2.2.2.1, kcs hf2 (by simp only []; omega) hHeld.2.2.2.2.1, kfg (by omega) FW hf2⟩) | (exact ⟨kcs hf2 (by simp only []; omega) hHeld.1, kcs hf2 (by simp only []; omega) hHeld.2.1, kcs hf2 (by simp only []; omega) hHeld.2.2.1, kcs hf2 (by simp only []; omega) hHeld.2.2.2.1, kcs hf2 (by simp only []; omega) hHeld.2.2.2.2.1, kfg (by omega) hHeld.2.2.2.2.2 hf2⟩) | (go_split_ands; exact ⟨kcs hf2 (by simp only []; omega) (by assumption), kcs hf2 (by simp only []; omega) (by assumption), kcs hf2 (by simp only []; omega) (by assumption), kcs hf2 (by simp only []; omega) (by assumption), kcs hf2 (by simp only []; omega) (by assumption), kfg (by omega) (by assumption) hf2⟩))
      clear hK K
      try simp only [Act.put, List.getElem_toArray, List.getElem_cons_succ, List.getElem_cons_zero, List.setIfInBounds_toArray, List.set_cons_zero, List.set_cons_succ]
      have FH := Fr.refl No WM
      refine wpAnyH_ready (rs := [2]) (by kernel_rfl) (by simp) (AllReadyH.cons rfl (fun K hK => ?_) AllReadyH.nil)
      go_simp
      go_at_call 18
      refine (hea0 _ 128 _ (isB_fr HMK.out FH) (HT5.out.fr hHeld.2.2.2.2.2.out (fun h => h))).mono ?_
      rintro e W1 ⟨rfl, f⟩
      have FW := kf f hHeld.2.2.2.2.2
      (try have MX := hid (Blk.fr MX.out f (fun h => h)))
      have hsz1 := FW.out.size
      dsimp only
      refine hK.out _ _ ?_ (fun hHeld => ?_)
      · (try dsimp only); (first | (go_split_ands; exact ⟨kc f (by assumption), kc f (by assumption), kc f (by assumption), kc f (by assumption), kc f (by assumption), by assumption⟩) | (go_split_ands; exact ⟨(by assumption), (by assumption), (by assumption), (by assumption), (by assumption), by assumption⟩) | (go_split_ands; exact ⟨kc (fr1 _ _) (by assumption), kc (fr1 _ _) (by assumption), kc (fr1 _ _) (by assumption), kc (fr1 _ _) (by assumption), kc (fr1 _ _) (by assumption), kfa (by assumption)⟩) | (go_split_ands; exact ⟨kc (fr1d _ _) (by assumption), kc (fr1d _ _) (by assumption), kc (fr1d _ _) (by assumption), kc (fr1d _ _) (by assumption), kc (fr1d _ _) (by assumption), kfae (by assumption)⟩) | (exact ⟨kcs hf2 (by simp only []; omega) hHeld.1, kcs hf2 (by simp only []; omega) hHeld.2.1, kcs hf2 (by simp only []; omega) hHeld.2.2.1, kcs hf2 (by simp only []; omega) hHeld.2.2.2.1, kcs hf2 (by simp only []; omega) hHeld.2.2.2.2.1, kfg (by omega) FW hf2⟩) | (exact ⟨kcs hf2 (by simp only []; omega) hHeld.1, kcs hf2 (by simp only []; omega) hHeld.2.1, kcs hf2 (by simp only []; omega) hHeld.2.2.1, kcs hf2 (by simp only []; omega) hHeld.2.2.2.1, kcs hf2 (by simp only []; omega) hHeld.2.2.2.2.1, kfg (by omega) hHeld.2.2.2.2.2 hf2⟩) | (go_split_ands; exact ⟨kcs hf2 (by simp only []; omega) (by assumption), kcs hf2 (by simp only []; omega) (by assumption), kcs hf2 (by simp only []; omega) (by assumption), kcs hf2 (by simp only []; omega) (by assumption), kcs hf2 (by simp only []; omega) (by assumption), kfg (by omega) (by assumption) hf2⟩))
      clear hK K
      try simp only [Act.put, List.getElem_toArray, List.getElem_cons_succ, List.getElem_cons_zero, List.setIfInBounds_toArray, List.set_cons_zero, List.set_cons_succ]
      refine wpAnyH_take (i := 3) (v := ?v49) rfl (by kernel_rfl) (by kernel_rfl) (by kernel_rfl) (fun _ _ _ h => h) (Or.inl ⟨by kernel_rfl, ?y49⟩) (by assumption) ?_
      case y49 => (intro w hSw; (try dsimp only at hSw); go_simp; all_goals with_reducible rfl)
      try simp only [Act.put, List.getElem_toArray, List.getElem_cons_succ, List.getElem_cons_zero, List.setIfInBounds_toArray, List.set_cons_zero, List.set_cons_succ]
      refine wpAnyH_take (i := 4) (v := ?v50) rfl (by kernel_rfl) (by kernel_rfl) (by kernel_rfl) (fun _ _ _ h => h) (Or.inl ⟨by kernel_rfl, ?y50⟩) (by assumption) ?_
      case y50 => (intro w hSw; (try dsimp only at hSw); go_simp; all_goals with_reducible rfl)
      try simp only [Act.put, List.getElem_toArray, List.getElem_cons_succ, List.getElem_cons_zero, List.setIfInBounds_toArray, List.set_cons_zero, List.set_cons_succ]
      refine wpAnyH_take (i := 5) (v := ?v51) rfl (by kernel_rfl) (by kernel_rfl) (by kernel_rfl) (fun _ _ _ h => h) (Or.inl ⟨by kernel_rfl, ?y51⟩) (by assumption) ?_
      case y51 => (intro w hSw; (try dsimp only at hSw); go_simp; all_goals with_reducible rfl)
      try simp only [Act.put, List.getElem_toArray, List.getElem_cons_succ, List.getElem_cons_zero, List.setIfInBounds_toArray, List.set_cons_zero, List.set_cons_succ]
      refine wpAnyH_take (i := 6) (v := ?v52) rfl (by kernel_rfl) (by kernel_rfl) (by kernel_rfl) (fun _ _ _ h => h) (Or.inl ⟨by kernel_rfl, ?y52⟩) (by assumption) ?_
      case y52 => (intro w hSw; (try dsimp only at hSw); go_simp; all_goals with_reducible rfl)
      try simp only [Act.put, List.getElem_toArray, List.getElem_cons_succ, List.getElem_cons_zero, List.setIfInBounds_toArray, List.set_cons_zero, List.set_cons_succ]
      refine wpAnyH_ready (rs := [8]) (by kernel_rfl) (by simp) (AllReadyH.cons rfl (fun K hK => ?_) AllReadyH.nil)
      refine st_bt_step rfl (.tmp 8) (.tmp 36) rfl _ rfl rfl (by simp [Value.oneCell']) MX.out rfl ?_
      intro W2 hb2 hf2
      refine hK.out _ _ ?_ (fun hHeld => ?_)
      · (try dsimp only); (first | (go_split_ands; exact ⟨kc f (by assumption), kc f (by assumption), kc f (by assumption), kc f (by assumption), kc f (by assumption), by assumption⟩) | (go_split_ands; exact ⟨(by assumption), (by assumption), (by assumption), (by assumption), (by assumption), by assumption⟩) | (go_split_ands; exact ⟨kc (fr1 _ _) (by assumption), kc (fr1 _ _) (by assumption), kc (fr1 _ _) (by assumption), kc (fr1 _ _) (by assumption), kc (fr1 _ _) (by assumption), kfa (by assumption)⟩) | (go_split_ands; exact ⟨kc (fr1d _ _) (by assumption), kc (fr1d _ _) (by assumption), kc (fr1d _ _) (by assumption), kc (fr1d _ _) (by assumption), kc (fr1d _ _) (by assumption), kfae (by assumption)⟩) | (exact ⟨kcs hf2 (by simp only []; omega) hHeld.1, kcs hf2 (by simp only []; omega) hHeld.2.1, kcs hf2 (by simp only []; omega) hHeld.2.2.1, kcs hf2 (by simp only []; omega) hHeld.2.2.2.1, kcs hf2 (by simp only []; omega) hHeld.2.2.2.2.1, kfg (by omega) FW hf2⟩) | (exact ⟨kcs hf2 (by simp only []; omega) hHeld.1, kcs hf2 (by simp only []; omega) hHeld.2.1, kcs hf2 (by simp only []; omega) hHeld.2.2.1, kcs hf2 (by simp only []; omega) hHeld.2.2.2.1, kcs hf2 (by simp only []; omega) hHeld.2.2.2.2.1, kfg (by omega) hHeld.2.2.2.2.2 hf2⟩) | (go_split_ands; exact ⟨kcs hf2 (by simp only []; omega) (by assumption), kcs hf2 (by simp only []; omega) (by assumption), kcs hf2 (by simp only []; omega) (by assumption), kcs hf2 (by simp only []; omega) (by assumption), kcs hf2 (by simp only []; omega) (by assumption), kfg (by omega) (by assumption) hf2⟩))
      clear hK K
      try simp only [Act.put, List.getElem_toArray, List.getElem_cons_succ, List.getElem_cons_zero]
      refine wpAnyH_take (i := 9) (v := ?v53) rfl (by kernel_rfl) (by kernel_rfl) (by kernel_rfl) (fun _ _ _ h => h) (Or.inl ⟨by kernel_rfl, ?y53⟩) (by assumption) ?_
      case y53 => (intro w hSw; (try dsimp only at hSw); go_simp; all_goals with_reducible rfl)
      try simp only [Act.put, List.getElem_toArray, List.getElem_cons_succ, List.getElem_cons_zero, List.setIfInBounds_toArray, List.set_cons_zero, List.set_cons_succ]
      refine wpAnyH_take (i := 10) (v := ?v54) rfl (by kernel_rfl) (by kernel_rfl) (by kernel_rfl) (fun _ _ _ h => h) (Or.inl ⟨by kernel_rfl, ?y54⟩) (by assumption) ?_
      case y54 => (intro w hSw; (try dsimp only at hSw); go_simp; all_goals with_reducible rfl)
      try simp only [Act.put, List.getElem_toArray, List.getElem_cons_succ, List.getElem_cons_zero, List.setIfInBounds_toArray, List.set_cons_zero, List.set_cons_succ]
      refine wpAnyH_done (by kernel_rfl) ?_ _
      refine NoPanic.normal ?_
      go_wp2_with fail
      go_meet
      case rel => (try refine ⟨_, _, _, ?_, rfl, rfl, rfl⟩); exact ⟨_, rfl, rfl, rfl, hb2, (by omega), hHeld.2.2.2.2.2.out⟩

  case rest =>
    obtain ⟨M, rfl, rfl, rfl, hB8, hM, hf⟩ := hcut
    have HBM := hid hB8
    have FW : Hid (Fr No w5 wc) := hid hf
    have FC : Hid (Fr No wc wc) := hid (Fr.refl _ _)
    have hn0 : ∀ vs w, (binOp .neq 68 (.func (.func 59) #[] vs) .nilFunc).run Tryd.prog w = .ok (.bool true) w := fun vs w => by kernel_rfl
    clear hB8 hM hf g0 g1 g2 g3 g4 hi hz0 hz1 hz2
    go_upto_region 7 with (first | ((with_reducible refine ld_bt rfl (.tmp 2) rfl B ?_ (HBB.out.fr (HF5.out.trans FW.out)) ?_); · rfl) | (go_at_call 23; refine (del0 _ _ _ (HRR.out.fr (HF5.out.trans FW.out))).mono ?_; rintro e w9 ⟨⟨Ae, ce, rfl, hd⟩, f⟩; have HD9 := hid hd; replace FW := hid (FW.out.trans f); replace FC := hid (FC.out.trans f); clear f hd))
    obtain ⟨gd, od, rfl, _, _⟩ := HD9.out.at_ (by decide)
    go_upto_region 8 with (first | ((with_reducible refine GeA.ld_geom rfl (.tmp 1) rfl G ?_ (HG5.out.fr FW.out) ?_); · rfl) | (go_at_call 25; refine (hol0 _ _ _ (rd_row (Blk.new w9 53 #[.int .i64 1, .int .i64 2]))).mono ?_; rintro e w10 ⟨⟨Ah, ch, rfl⟩, f⟩; have HDX := hid (HD9.out.fr ((fr1 w9 _).trans f)); replace FW := hid ((FW.out.alloc _).trans f); replace FC := hid ((FC.out.alloc _).trans f); clear f; obtain ⟨g0, g1, g2, g3, g4⟩ := (HG5.out.fr FW.out).cells; obtain ⟨b0, b1, b2⟩ := (HBB.out.fr (HF5.out.trans FW.out)).cells; obtain ⟨x0, x1, x2⟩ := (HXX.out.fr FW.out).cells; obtain ⟨y0, y1, y2⟩ := (HBM.out.fr FC.out).cells; obtain ⟨d0, d1, d2, d3, d4⟩ := rdD_one HDX.out))
    have HFF := FW
    replace FW : Hid (Fr No w10 w10) := hid (Fr.refl _ _)
    have FW := kd FW
    refine wp_region_noPanic ?_
    refine wp_region_held_drew (S := (fun W' => W'.cell? ⟨G, 0, none⟩ = some (.int .i64 2) ∧ W'.cell? ⟨G, 1, none⟩ = some (.int .i64 6) ∧ W'.cell? ⟨G, 2, none⟩ = some (.int .i64 16) ∧ W'.cell? ⟨G, 3, none⟩ = some (.int .i64 3) ∧ W'.cell? ⟨G, 4, none⟩ = some (.int .i64 2) ∧ W'.cell? ⟨B, 0, none⟩ = some (.int .i64 3) ∧ W'.cell? ⟨B, 1, none⟩ = some (.int .i64 1) ∧ W'.cell? ⟨B, 2, none⟩ = some (.slice (some ⟨R, 0, none⟩) 1 1) ∧ W'.cell? ⟨X, 0, none⟩ = some (.int .i64 3) ∧ W'.cell? ⟨X, 1, none⟩ = some (.int .i64 1) ∧ W'.cell? ⟨X, 2, none⟩ = some (.slice Ax 1 cx) ∧ W'.cell? ⟨M, 0, none⟩ = some (.int .i64 0) ∧ W'.cell? ⟨M, 1, none⟩ = some (.int .i64 0) ∧ W'.cell? ⟨M, 2, none⟩ = some (.slice none 0 0) ∧ W'.cell? ⟨gd, od, none⟩ = some (.int .i64 1) ∧ W'.cell? ⟨gd, od + 1, none⟩ = some (.int .i64 5) ∧ W'.cell? ⟨gd, od + 2, none⟩ = some (.int .i64 3) ∧ W'.cell? ⟨gd, od + 3, none⟩ = some (.int .i64 4) ∧ W'.cell? ⟨gd, od + 4, none⟩ = some (.int .i64 3) ∧ Hid (Fr No w10 W'))) (by kernel_rfl) ?_ (fun hHeld => ?_)
    · (try dsimp only); (first | exact ⟨kc f hHeld.1, kc f hHeld.2.1, kc f hHeld.2.2.1, kc f hHeld.2.2.2.1, kc f hHeld.2.2.2.2.1, kc f hHeld.2.2.2.2.2.1, kc f hHeld.2.2.2.2.2.2.1, kc f hHeld.2.2.2.2.2.2.2.1, kc f hHeld.2.2.2.2.2.2.2.2.1, kc f hHeld.2.2.2.2.2.2.2.2.2.1, kc f hHeld.2.2.2.2.2.2.2.2.2.2.1, kc f hHeld.2.2.2.2.2.2.2.2.2.2.2.1, kc f hHeld.2.2.2.2.2.2.2.2.2.2.2.2.1, kc f hHeld.2.2.2.2.2.2.2.2.2.2.2.2.2.1, kc f hHeld.2.2.2.2.2.2.2.2.2.2.2.2.2.2.1, kc f hHeld.2.2.2.2.2.2.2.2.2.2.2.2.2.2.2.1, kc f hHeld.2.2.2.2.2.2.2.2.2.2.2.2.2.2.2.2.1, kc f hHeld.2.2.2.2.2.2.2.2.2.2.2.2.2.2.2.2.2.1, kc f hHeld.2.2.2.2.2.2.2.2.2.2.2.2.2.2.2.2.2.2.1, FW⟩ | (go_split_ands; exact ⟨kc f (by assumption), kc f (by assumption), kc f (by assumption), kc f (by assumption), kc f (by assumption), kc f (by assumption), kc f (by assumption), kc f (by assumption), kc f (by assumption), kc f (by assumption), kc f (by assumption), kc f (by assumption), kc f (by assumption), kc f (by assumption), kc f (by assumption), kc f (by assumption), kc f (by assumption), kc f (by assumption), kc f (by assumption), by assumption⟩) | (go_split_ands; exact ⟨(by assumption), (by assumption), (by assumption), (by assumption), (by assumption), (by assumption), (by assumption), (by assumption), (by assumption), (by assumption), (by assumption), (by assumption), (by assumption), (by assumption), (by assumption), (by assumption), (by assumption), (by assumption), (by assumption), by assumption⟩) | (go_split_ands; exact ⟨kc (fr1 _ _) (by assumption), kc (fr1 _ _) (by assumption), kc (fr1 _ _) (by assumption), kc (fr1 _ _) (by assumption), kc (fr1 _ _) (by assumption), kc (fr1 _ _) (by assumption), kc (fr1 _ _) (by assumption), kc (fr1 _ _) (by assumption), kc (fr1 _ _) (by assumption), kc (fr1 _ _) (by assumption), kc (fr1 _ _) (by assumption), kc (fr1 _ _) (by assumption), kc (fr1 _ _) (by assumption), kc (fr1 _ _) (by assumption), kc (fr1 _ _) (by assumption), kc (fr1 _ _) (by assumption), kc (fr1 _ _) (by assumption), kc (fr1 _ _) (by assumption), kc (fr1 _ _) (by assumption), kfa (by assumption)⟩) | (exact hHeld))
    refine wpAnyH_take (i := 0) (v := ?v8) rfl (by kernel_rfl) (by kernel_rfl) (by kernel_rfl) (fun _ _ _ h => h) (Or.inl ⟨by kernel_rfl, ?y8⟩) (by assumption) ?_
    case y8 => (intro w hSw; (try dsimp only at hSw); go_simp; all_goals with_reducible rfl)
    try simp only [Act.put, List.getElem_toArray, List.setIfInBounds_toArray]
    refine wpAnyH_take (i := 1) (v := (.bool true)) rfl (by kernel_rfl) (by kernel_rfl) (by kernel_rfl) (fun _ _ _ h => h) (Or.inl ⟨by kernel_rfl, fun w hSw => by first | (go_simp; done) | (go_simp; with_reducible rfl) | (go_simp; omega)⟩) (by assumption) ?_
    try simp only [Act.put, List.getElem_toArray]
    refine wpAnyH_take (i := 2) (v := (.bool true)) rfl (by kernel_rfl) (by kernel_rfl) (by kernel_rfl) (fun _ _ _ h => h) (Or.inl ⟨by kernel_rfl, fun w hSw => by first | (go_simp; done) | (go_simp; with_reducible rfl) | (go_simp; omega)⟩) (by assumption) ?_
    try simp only [Act.put, List.getElem_toArray]
    refine wpAnyH_take (i := 3) (v := ?v9) rfl (by kernel_rfl) (by kernel_rfl) (by kernel_rfl) (fun _ _ _ h => h) (Or.inl ⟨by kernel_rfl, ?y9⟩) (by assumption) ?_
    case y9 => (intro w hSw; (try dsimp only at hSw); go_simp; all_goals with_reducible rfl)
    try simp only [Act.put, List.getElem_toArray]
    refine wpAnyH_take (i := 4) (v := ?v10) rfl (by kernel_rfl) (by kernel_rfl) (by kernel_rfl) (fun _ _ _ h => h) (Or.inl ⟨by kernel_rfl, ?y10⟩) (by assumption) ?_
    case y10 => (intro w hSw; (try dsimp only at hSw); go_simp; all_goals with_reducible rfl)
    try simp only [Act.put, List.getElem_toArray]
    refine wpAnyH_take (i := 5) (v := (.bool true)) rfl (by kernel_rfl) (by kernel_rfl) (by kernel_rfl) (fun _ _ _ h => h) (Or.inl ⟨by kernel_rfl, fun w hSw => by first | (go_simp; done) | (go_simp; with_reducible rfl) | (go_simp; omega)⟩) (by assumption) ?_
    try simp only [Act.put, List.getElem_toArray]
    refine wpAnyH_take (i := 6) (v := (.bool true)) rfl (by kernel_rfl) (by kernel_rfl) (by kernel_rfl) (fun _ _ _ h => h) (Or.inl ⟨by kernel_rfl, fun w hSw => by first | (go_simp; done) | (go_simp; with_reducible rfl) | (go_simp; omega)⟩) (by assumption) ?_
    try simp only [Act.put, List.getElem_toArray]
    refine wpAnyH_take (i := 7) (v := (.bool true)) rfl (by kernel_rfl) (by kernel_rfl) (by kernel_rfl) (fun _ _ _ h => h) (Or.inl ⟨by kernel_rfl, fun w hSw => by first | (go_simp; done) | (go_simp; with_reducible rfl) | (go_simp; omega)⟩) (by assumption) ?_
    try simp only [Act.put, List.getElem_toArray]
    refine wpAnyH_take (i := 8) (v := ?v11) rfl (by kernel_rfl) (by kernel_rfl) (by kernel_rfl) (fun _ _ _ h => h) (Or.inl ⟨by kernel_rfl, ?y11⟩) (by assumption) ?_
    case y11 => (intro w hSw; (try dsimp only at hSw); go_simp; all_goals with_reducible rfl)
    try simp only [Act.put, List.getElem_toArray]
    refine wpAnyH_take (i := 9) (v := (.bool true)) rfl (by kernel_rfl) (by kernel_rfl) (by kernel_rfl) (fun _ _ _ h => h) (Or.inl ⟨by kernel_rfl, fun w hSw => by first | (go_simp; done) | (go_simp; with_reducible rfl) | (go_simp; omega)⟩) (by assumption) ?_
    try simp only [Act.put, List.getElem_toArray]
    refine wpAnyH_take (i := 10) (v := (.bool true)) rfl (by kernel_rfl) (by kernel_rfl) (by kernel_rfl) (fun _ _ _ h => h) (Or.inl ⟨by kernel_rfl, fun w hSw => by first | (go_simp; done) | (go_simp; with_reducible rfl) | (go_simp; omega)⟩) (by assumption) ?_
    try simp only [Act.put, List.getElem_toArray]
    refine wpAnyH_take (i := 11) (v := (.bool true)) rfl (by kernel_rfl) (by kernel_rfl) (by kernel_rfl) (fun _ _ _ h => h) (Or.inl ⟨by kernel_rfl, fun w hSw => by first | (go_simp; done) | (go_simp; with_reducible rfl) | (go_simp; omega)⟩) (by assumption) ?_
    try simp only [Act.put, List.getElem_toArray]
    refine wpAnyH_take (i := 12) (v := ?v12) rfl (by kernel_rfl) (by kernel_rfl) (by kernel_rfl) (fun _ _ _ h => h) (Or.inl ⟨by kernel_rfl, ?y12⟩) (by assumption) ?_
    case y12 => (intro w hSw; (try dsimp only at hSw); go_simp; all_goals with_reducible rfl)
    try simp only [Act.put, List.getElem_toArray]
    refine wpAnyH_take (i := 13) (v := ?v13) rfl (by kernel_rfl) (by kernel_rfl) (by kernel_rfl) (fun _ _ _ h => h) (Or.inl ⟨by kernel_rfl, ?y13⟩) (by assumption) ?_
    case y13 => (intro w hSw; (try dsimp only at hSw); go_simp; all_goals with_reducible rfl)
    try simp only [Act.put, List.getElem_toArray]
    refine wpAnyH_ready (rs := [14]) (by kernel_rfl) (by simp) (AllReadyH.cons rfl (fun K hK => ?_) AllReadyH.nil)
    go_simp
    go_at_call 20
    refine (rsa0 _ _ _ _ _ (HX5.out.fr (HFF.out.trans hHeld.2.2.2.2.2.2.2.2.2.2.2.2.2.2.2.2.2.2.2.out)) (HRR.out.fr (HF5.out.trans (HFF.out.trans hHeld.2.2.2.2.2.2.2.2.2.2.2.2.2.2.2.2.2.2.2.out)))).mono ?_
    rintro e W1 ⟨rfl, f⟩
    have FW := kf f hHeld.2.2.2.2.2.2.2.2.2.2.2.2.2.2.2.2.2.2.2
    dsimp only
    refine hK.out _ _ ?_ (fun hHeld => ?_)
    · (try dsimp only); (first | exact ⟨kc f hHeld.1, kc f hHeld.2.1, kc f hHeld.2.2.1, kc f hHeld.2.2.2.1, kc f hHeld.2.2.2.2.1, kc f hHeld.2.2.2.2.2.1, kc f hHeld.2.2.2.2.2.2.1, kc f hHeld.2.2.2.2.2.2.2.1, kc f hHeld.2.2.2.2.2.2.2.2.1, kc f hHeld.2.2.2.2.2.2.2.2.2.1, kc f hHeld.2.2.2.2.2.2.2.2.2.2.1, kc f hHeld.2.2.2.2.2.2.2.2.2.2.2.1, kc f hHeld.2.2.2.2.2.2.2.2.2.2.2.2.1, kc f hHeld.2.2.2.2.2.2.2.2.2.2.2.2.2.1, kc f hHeld.2.2.2.2.2.2.2.2.2.2.2.2.2.2.1, kc f hHeld.2.2.2.2.2.2.2.2.2.2.2.2.2.2.2.1, kc f hHeld.2.2.2.2.2.2.2.2.2.2.2.2.2.2.2.2.1, kc f hHeld.2.2.2.2.2.2.2.2.2.2.2.2.2.2.2.2.2.1, kc f hHeld.2.2.2.2.2.2.2.2.2.2.2.2.2.2.2.2.2.2.1, FW⟩ | (go_split_ands; exact ⟨kc f (by assumption), kc f (by assumption), kc f (by assumption), kc f (by assumption), kc f (by assumption), kc f (by assumption), kc f (by assumption), kc f (by assumption), kc f (by assumption), kc f (by assumption), kc f (by assumption), kc f (by assumption), kc f (by assumption), kc f (by assumption), kc f (by assumption), kc f (by assumption), kc f (by assumption), kc f (by assumption), kc f (by assumption), by assumption⟩) | (go_split_ands; exact ⟨(by assumption), (by assumption), (by assumption), (by assumption), (by assumption), (by assumption), (by assumption), (by assumption), (by assumption), (by assumption), (by assumption), (by assumption), (by assumption), (by assumption), (by assumption), (by assumption), (by assumption), (by assumption), (by assumption), by assumption⟩) | (go_split_ands; exact ⟨kc (fr1 _ _) (by assumption), kc (fr1 _ _) (by assumption), kc (fr1 _ _) (by assumption), kc (fr1 _ _) (by assumption), kc (fr1 _ _) (by assumption), kc (fr1 _ _) (by assumption), kc (fr1 _ _) (by assumption), kc (fr1 _ _) (by assumption), kc (fr1 _ _) (by assumption), kc (fr1 _ _) (by assumption), kc (fr1 _ _) (by assumption), kc (fr1 _ _) (by assumption), kc (fr1 _ _) (by assumption), kc (fr1 _ _) (by assumption), kc (fr1 _ _) (by assumption), kc (fr1 _ _) (by assumption), kc (fr1 _ _) (by assumption), kc (fr1 _ _) (by assumption), kc (fr1 _ _) (by assumption), kfa (by assumption)⟩) | (exact hHeld))
    clear hK K
    try simp only [Act.put, List.getElem_toArray, List.getElem_cons_succ, List.getElem_cons_zero, List.setIfInBounds_toArray, List.set_cons_zero, List.set_cons_succ]
    refine wpAnyH_take (i := 15) (v := (.bool true)) rfl (by kernel_rfl) (by kernel_rfl) (by kernel_rfl) (fun _ _ _ h => h) (Or.inl ⟨by kernel_rfl, fun w hSw => by first | (go_simp; done) | (go_simp; with_reducible rfl) | (go_simp; omega)⟩) (by assumption) ?_
    try simp only [Act.put, List.getElem_toArray, List.setIfInBounds_toArray]
    refine wpAnyH_take (i := 16) (v := (.bool true)) rfl (by kernel_rfl) (by kernel_rfl) (by kernel_rfl) (fun _ _ _ h => h) (Or.inl ⟨by kernel_rfl, fun w hSw => by first | (go_simp; done) | (go_simp; with_reducible rfl) | (go_simp; omega)⟩) (by assumption) ?_
    try simp only [Act.put, List.getElem_toArray]
    refine wpAnyH_take (i := 17) (v := ?v14) rfl (by kernel_rfl) (by kernel_rfl) (by kernel_rfl) (fun _ _ _ h => h) (Or.inl ⟨by kernel_rfl, ?y14⟩) (by assumption) ?_
    case y14 => (intro w hSw; (try dsimp only at hSw); go_simp; all_goals with_reducible rfl)
    try simp only [Act.put, List.getElem_toArray]
    refine wpAnyH_take (i := 18) (v := (.string (strOfNums F0))) rfl (by kernel_rfl) (by kernel_rfl) (by kernel_rfl) (fun _ _ _ h => h) (Or.inl ⟨by kernel_rfl, fun w hSw => by have s1 := run_str (P := Tryd.prog) w 27 9 5 Tryd.underlying27 Tryd.underlying5 Tryd.underlying9 Ad 384 cd F0 (HD5.out.fr (HFF.out.trans hSw.2.2.2.2.2.2.2.2.2.2.2.2.2.2.2.2.2.2.2.out) (fun _ _ _ h => h)); first | (go_simp; done) | (go_simp; with_reducible rfl) | (go_simp; omega)⟩) (by assumption) ?_
    try simp only [Act.put, List.getElem_toArray]
    refine wpAnyH_ready (rs := [19]) (by kernel_rfl) (by simp) (AllReadyH.cons rfl (fun K hK => ?_) AllReadyH.nil)
    go_simp
    go_at_call 17
    refine (fil0 _).mono ?_
    rintro e W1 ⟨⟨Af, cf, rfl, hz⟩, f⟩
    have FW := kf f hHeld.2.2.2.2.2.2.2.2.2.2.2.2.2.2.2.2.2.2.2
    have s2 := run_str (P := Tryd.prog) W1 27 9 5 Tryd.underlying27 Tryd.underlying5 Tryd.underlying9 Af 384 cf F0 (hz.1)
    dsimp only
    refine hK.out _ _ ?_ (fun hHeld => ?_)
    · (try dsimp only); (first | exact ⟨kc f hHeld.1, kc f hHeld.2.1, kc f hHeld.2.2.1, kc f hHeld.2.2.2.1, kc f hHeld.2.2.2.2.1, kc f hHeld.2.2.2.2.2.1, kc f hHeld.2.2.2.2.2.2.1, kc f hHeld.2.2.2.2.2.2.2.1, kc f hHeld.2.2.2.2.2.2.2.2.1, kc f hHeld.2.2.2.2.2.2.2.2.2.1, kc f hHeld.2.2.2.2.2.2.2.2.2.2.1, kc f hHeld.2.2.2.2.2.2.2.2.2.2.2.1, kc f hHeld.2.2.2.2.2.2.2.2.2.2.2.2.1, kc f hHeld.2.2.2.2.2.2.2.2.2.2.2.2.2.1, kc f hHeld.2.2.2.2.2.2.2.2.2.2.2.2.2.2.1, kc f hHeld.2.2.2.2.2.2.2.2.2.2.2.2.2.2.2.1, kc f hHeld.2.2.2.2.2.2.2.2.2.2.2.2.2.2.2.2.1, kc f hHeld.2.2.2.2.2.2.2.2.2.2.2.2.2.2.2.2.2.1, kc f hHeld.2.2.2.2.2.2.2.2.2.2.2.2.2.2.2.2.2.2.1, FW⟩ | (go_split_ands; exact ⟨kc f (by assumption), kc f (by assumption), kc f (by assumption), kc f (by assumption), kc f (by assumption), kc f (by assumption), kc f (by assumption), kc f (by assumption), kc f (by assumption), kc f (by assumption), kc f (by assumption), kc f (by assumption), kc f (by assumption), kc f (by assumption), kc f (by assumption), kc f (by assumption), kc f (by assumption), kc f (by assumption), kc f (by assumption), by assumption⟩) | (go_split_ands; exact ⟨(by assumption), (by assumption), (by assumption), (by assumption), (by assumption), (by assumption), (by assumption), (by assumption), (by assumption), (by assumption), (by assumption), (by assumption), (by assumption), (by assumption), (by assumption), (by assumption), (by assumption), (by assumption), (by assumption), by assumption⟩) | (go_split_ands; exact ⟨kc (fr1 _ _) (by assumption), kc (fr1 _ _) (by assumption), kc (fr1 _ _) (by assumption), kc (fr1 _ _) (by assumption), kc (fr1 _ _) (by assumption), kc (fr1 _ _) (by assumption), kc (fr1 _ _) (by assumption), kc (fr1 _ _) (by assumption), kc (fr1 _ _) (by assumption), kc (fr1 _ _) (by assumption), kc (fr1 _ _) (by assumption), kc (fr1 _ _) (by assumption), kc (fr1 _ _) (by assumption), kc (fr1 _ _) (by assumption), kc (fr1 _ _) (by assumption), kc (fr1 _ _) (by assumption), kc (fr1 _ _) (by assumption), kc (fr1 _ _) (by assumption), kc (fr1 _ _) (by assumption), kfa (by assumption)⟩) | (exact hHeld))
    clear hK K
    try simp only [Act.put, List.getElem_toArray, List.getElem_cons_succ, List.getElem_cons_zero, List.setIfInBounds_toArray, List.set_cons_zero, List.set_cons_succ]
    refine wpAnyH_ready (rs := [20]) (by kernel_rfl) (by simp) (AllReadyH.cons rfl (fun K hK => ?_) AllReadyH.nil)
    go_simp
    refine hK.out _ _ ?_ (fun hHeld => ?_)
    · (try dsimp only); (first | exact ⟨kc f hHeld.1, kc f hHeld.2.1, kc f hHeld.2.2.1, kc f hHeld.2.2.2.1, kc f hHeld.2.2.2.2.1, kc f hHeld.2.2.2.2.2.1, kc f hHeld.2.2.2.2.2.2.1, kc f hHeld.2.2.2.2.2.2.2.1, kc f hHeld.2.2.2.2.2.2.2.2.1, kc f hHeld.2.2.2.2.2.2.2.2.2.1, kc f hHeld.2.2.2.2.2.2.2.2.2.2.1, kc f hHeld.2.2.2.2.2.2.2.2.2.2.2.1, kc f hHeld.2.2.2.2.2.2.2.2.2.2.2.2.1, kc f hHeld.2.2.2.2.2.2.2.2.2.2.2.2.2.1, kc f hHeld.2.2.2.2.2.2.2.2.2.2.2.2.2.2.1, kc f hHeld.2.2.2.2.2.2.2.2.2.2.2.2.2.2.2.1, kc f hHeld.2.2.2.2.2.2.2.2.2.2.2.2.2.2.2.2.1, kc f hHeld.2.2.2.2.2.2.2.2.2.2.2.2.2.2.2.2.2.1, kc f hHeld.2.2.2.2.2.2.2.2.2.2.2.2.2.2.2.2.2.2.1, FW⟩ | (go_split_ands; exact ⟨kc f (by assumption), kc f (by assumption), kc f (by assumption), kc f (by assumption), kc f (by assumption), kc f (by assumption), kc f (by assumption), kc f (by assumption), kc f (by assumption), kc f (by assumption), kc f (by assumption), kc f (by assumption), kc f (by assumption), kc f (by assumption), kc f (by assumption), kc f (by assumption), kc f (by assumption), kc f (by assumption), kc f (by assumption), by assumption⟩) | (go_split_ands; exact ⟨(by assumption), (by assumption), (by assumption), (by assumption), (by assumption), (by assumption), (by assumption), (by assumption), (by assumption), (by assumption), (by assumption), (by assumption), (by assumption), (by assumption), (by assumption), (by assumption), (by assumption), (by assumption), (by assumption), by assumption⟩) | (go_split_ands; exact ⟨kc (fr1 _ _) (by assumption), kc (fr1 _ _) (by assumption), kc (fr1 _ _) (by assumption), kc (fr1 _ _) (by assumption), kc (fr1 _ _) (by assumption), kc (fr1 _ _) (by assumption), kc (fr1 _ _) (by assumption), kc (fr1 _ _) (by assumption), kc (fr1 _ _) (by assumption), kc (fr1 _ _) (by assumption), kc (fr1 _ _) (by assumption), kc (fr1 _ _) (by assumption), kc (fr1 _ _) (by assumption), kc (fr1 _ _) (by assumption), kc (fr1 _ _) (by assumption), kc (fr1 _ _) (by assumption), kc (fr1 _ _) (by assumption), kc (fr1 _ _) (by assumption), kc (fr1 _ _) (by assumption), kfa (by assumption)⟩) | (exact hHeld))
    clear hK K
    try simp only [Act.put, List.getElem_toArray, List.getElem_cons_succ, List.getElem_cons_zero, List.setIfInBounds_toArray, List.set_cons_zero, List.set_cons_succ]
    refine wpAnyH_take (i := 21) (v := (.bool true)) rfl (by kernel_rfl) (by kernel_rfl) (by kernel_rfl) (fun _ _ _ h => h) (Or.inl ⟨by kernel_rfl, fun w hSw => by first | (go_simp; done) | (go_simp; with_reducible rfl) | (go_simp; omega)⟩) (by assumption) ?_
    try simp only [Act.put, List.getElem_toArray, List.setIfInBounds_toArray]
    refine wpAnyH_take (i := 22) (v := (.bool true)) rfl (by kernel_rfl) (by kernel_rfl) (by kernel_rfl) (fun _ _ _ h => h) (Or.inl ⟨by kernel_rfl, fun w hSw => by first | (go_simp; done) | (go_simp; with_reducible rfl) | (go_simp; omega)⟩) (by assumption) ?_
    try simp only [Act.put, List.getElem_toArray]
    refine wpAnyH_take (i := 23) (v := (.bool true)) rfl (by kernel_rfl) (by kernel_rfl) (by kernel_rfl) (fun _ _ _ h => h) (Or.inl ⟨by kernel_rfl, fun w hSw => by first | (go_simp; done) | (go_simp; with_reducible rfl) | (go_simp; omega)⟩) (by assumption) ?_
    try simp only [Act.put, List.getElem_toArray]
    refine wpAnyH_take (i := 24) (v := ?v15) rfl (by kernel_rfl) (by kernel_rfl) (by kernel_rfl) (fun _ _ _ h => h) (Or.inl ⟨by kernel_rfl, ?y15⟩) (by assumption) ?_
    case y15 => (intro w hSw; (try dsimp only at hSw); go_simp; all_goals with_reducible rfl)
    try simp only [Act.put, List.getElem_toArray]
    refine wpAnyH_take (i := 25) (v := (.bool true)) rfl (by kernel_rfl) (by kernel_rfl) (by kernel_rfl) (fun _ _ _ h => h) (Or.inl ⟨by kernel_rfl, fun w hSw => by first | (go_simp; done) | (go_simp; with_reducible rfl) | (go_simp; omega)⟩) (by assumption) ?_
    try simp only [Act.put, List.getElem_toArray]
    refine wpAnyH_take (i := 26) (v := (.bool true)) rfl (by kernel_rfl) (by kernel_rfl) (by kernel_rfl) (fun _ _ _ h => h) (Or.inl ⟨by kernel_rfl, fun w hSw => by first | (go_simp; done) | (go_simp; with_reducible rfl) | (go_simp; omega)⟩) (by assumption) ?_
    try simp only [Act.put, List.getElem_toArray]
    refine wpAnyH_take (i := 27) (v := (.bool true)) rfl (by kernel_rfl) (by kernel_rfl) (by kernel_rfl) (fun _ _ _ h => h) (Or.inl ⟨by kernel_rfl, fun w hSw => by first | (go_simp; done) | (go_simp; with_reducible rfl) | (go_simp; omega)⟩) (by assumption) ?_
    try simp only [Act.put, List.getElem_toArray]
    refine wpAnyH_take (i := 28) (v := ?v16) rfl (by kernel_rfl) (by kernel_rfl) (by kernel_rfl) (fun _ _ _ h => h) (Or.inl ⟨by kernel_rfl, ?y16⟩) (by assumption) ?_
    case y16 => (intro w hSw; (try dsimp only at hSw); go_simp; all_goals with_reducible rfl)
    try simp only [Act.put, List.getElem_toArray]
    refine wpAnyH_take (i := 29) (v := ?v17) rfl (by kernel_rfl) (by kernel_rfl) (by kernel_rfl) (fun _ _ _ h => h) (Or.inl ⟨by kernel_rfl, ?y17⟩) (by assumption) ?_
    case y17 => (intro w hSw; (try dsimp only at hSw); go_simp; all_goals with_reducible rfl)
    try simp only [Act.put, List.getElem_toArray]
    refine wpAnyH_ready (rs := [30]) (by kernel_rfl) (by simp) (AllReadyH.cons rfl (fun K hK => ?_) AllReadyH.nil)
    go_simp
    go_at_call 20
    refine (rsz0 _).mono ?_
    rintro e W1 ⟨rfl, f⟩
    have FW := kf f hHeld.2.2.2.2.2.2.2.2.2.2.2.2.2.2.2.2.2.2.2
    dsimp only
    refine hK.out _ _ ?_ (fun hHeld => ?_)
    · (try dsimp only); (first | exact ⟨kc f hHeld.1, kc f hHeld.2.1, kc f hHeld.2.2.1, kc f hHeld.2.2.2.1, kc f hHeld.2.2.2.2.1, kc f hHeld.2.2.2.2.2.1, kc f hHeld.2.2.2.2.2.2.1, kc f hHeld.2.2.2.2.2.2.2.1, kc f hHeld.2.2.2.2.2.2.2.2.1, kc f hHeld.2.2.2.2.2.2.2.2.2.1, kc f hHeld.2.2.2.2.2.2.2.2.2.2.1, kc f hHeld.2.2.2.2.2.2.2.2.2.2.2.1, kc f hHeld.2.2.2.2.2.2.2.2.2.2.2.2.1, kc f hHeld.2.2.2.2.2.2.2.2.2.2.2.2.2.1, kc f hHeld.2.2.2.2.2.2.2.2.2.2.2.2.2.2.1, kc f hHeld.2.2.2.2.2.2.2.2.2.2.2.2.2.2.2.1, kc f hHeld.2.2.2.2.2.2.2.2.2.2.2.2.2.2.2.2.1, kc f hHeld.2.2.2.2.2.2.2.2.2.2.2.2.2.2.2.2.2.1, kc f hHeld.2.2.2.2.2.2.2.2.2.2.2.2.2.2.2.2.2.2.1, FW⟩ | (go_split_ands; exact ⟨kc f (by assumption), kc f (by assumption), kc f (by assumption), kc f (by assumption), kc f (by assumption), kc f (by assumption), kc f (by assumption), kc f (by assumption), kc f (by assumption), kc f (by assumption), kc f (by assumption), kc f (by assumption), kc f (by assumption), kc f (by assumption), kc f (by assumption), kc f (by assumption), kc f (by assumption), kc f (by assumption), kc f (by assumption), by assumption⟩) | (go_split_ands; exact ⟨(by assumption), (by assumption), (by assumption), (by assumption), (by assumption), (by assumption), (by assumption), (by assumption), (by assumption), (by assumption), (by assumption), (by assumption), (by assumption), (by assumption), (by assumption), (by assumption), (by assumption), (by assumption), (by assumption), by assumption⟩) | (go_split_ands; exact ⟨kc (fr1 _ _) (by assumption), kc (fr1 _ _) (by assumption), kc (fr1 _ _) (by assumption), kc (fr1 _ _) (by assumption), kc (fr1 _ _) (by assumption), kc (fr1 _ _) (by assumption), kc (fr1 _ _) (by assumption), kc (fr1 _ _) (by assumption), kc (fr1 _ _) (by assumption), kc (fr1 _ _) (by assumption), kc (fr1 _ _) (by assumption), kc (fr1 _ _) (by assumption), kc (fr1 _ _) (by assumption), kc (fr1 _ _) (by assumption), kc (fr1 _ _) (by assumption), kc (fr1 _ _) (by assumption), kc (fr1 _ _) (by assumption), kc (fr1 _ _) (by assumption), kc (fr1 _ _) (by assumption), kfa (by assumption)⟩) | (exact hHeld))
    clear hK K
    try simp only [Act.put, List.getElem_toArray, List.getElem_cons_succ, List.getElem_cons_zero, List.setIfInBounds_toArray, List.set_cons_zero, List.set_cons_succ]
    refine wpAnyH_take (i := 31) (v := (.bool true)) rfl (by kernel_rfl) (by kernel_rfl) (by kernel_rfl) (fun _ _ _ h => h) (Or.inl ⟨by kernel_rfl, fun w hSw => by first | (go_simp; done) | (go_simp; with_reducible rfl) | (go_simp; omega)⟩) (by assumption) ?_
    try simp only [Act.put, List.getElem_toArray, List.setIfInBounds_toArray]
    refine wpAnyH_take (i := 32) (v := (.bool true)) rfl (by kernel_rfl) (by kernel_rfl) (by kernel_rfl) (fun _ _ _ h => h) (Or.inl ⟨by kernel_rfl, fun w hSw => by first | (go_simp; done) | (go_simp; with_reducible rfl) | (go_simp; omega)⟩) (by assumption) ?_
    try simp only [Act.put, List.getElem_toArray]
    refine wpAnyH_take (i := 33) (v := ?v18) rfl (by kernel_rfl) (by kernel_rfl) (by kernel_rfl) (fun _ _ _ h => h) (Or.inl ⟨by kernel_rfl, ?y18⟩) (by assumption) ?_
    case y18 => (intro w hSw; (try dsimp only at hSw); go_simp; all_goals with_reducible rfl)
    try simp only [Act.put, List.getElem_toArray]
    refine wpAnyH_take (i := 34) (v := ?v19) rfl (by kernel_rfl) (by kernel_rfl) (by kernel_rfl) (fun _ _ _ h => h) (Or.inl ⟨by kernel_rfl, ?y19⟩) (by assumption) ?_
    case y19 => (intro w hSw; (try dsimp only at hSw); go_simp; all_goals with_reducible rfl)
    try simp only [Act.put, List.getElem_toArray]
    refine wpAnyH_take (i := 35) (v := (.bool true)) rfl (by kernel_rfl) (by kernel_rfl) (by kernel_rfl) (fun _ _ _ h => h) (Or.inl ⟨by kernel_rfl, fun w hSw => by first | (go_simp; done) | (go_simp; with_reducible rfl) | (go_simp; omega)⟩) (by assumption) ?_
    try simp only [Act.put, List.getElem_toArray]
    refine wpAnyH_take (i := 36) (v := (.bool true)) rfl (by kernel_rfl) (by kernel_rfl) (by kernel_rfl) (fun _ _ _ h => h) (Or.inl ⟨by kernel_rfl, fun w hSw => by first | (go_simp; done) | (go_simp; with_reducible rfl) | (go_simp; omega)⟩) (by assumption) ?_
    try simp only [Act.put, List.getElem_toArray]
    refine wpAnyH_take (i := 37) (v := (.bool true)) rfl (by kernel_rfl) (by kernel_rfl) (by kernel_rfl) (fun _ _ _ h => h) (Or.inl ⟨by kernel_rfl, fun w hSw => by first | (go_simp; done) | (go_simp; with_reducible rfl) | (go_simp; omega)⟩) (by assumption) ?_
    try simp only [Act.put, List.getElem_toArray]
    refine wpAnyH_take (i := 38) (v := ?v20) rfl (by kernel_rfl) (by kernel_rfl) (by kernel_rfl) (fun _ _ _ h => h) (Or.inl ⟨by kernel_rfl, ?y20⟩) (by assumption) ?_
    case y20 => (intro w hSw; (try dsimp only at hSw); go_simp; all_goals with_reducible rfl)
    try simp only [Act.put, List.getElem_toArray]
    refine wpAnyH_take (i := 39) (v := ?v21) rfl (by kernel_rfl) (by kernel_rfl) (by kernel_rfl) (fun _ _ _ h => h) (Or.inl ⟨by kernel_rfl, ?y21⟩) (by assumption) ?_
    case y21 => (intro w hSw; (try dsimp only at hSw); go_simp; all_goals with_reducible rfl)
    try simp only [Act.put, List.getElem_toArray]
    refine wpAnyH_take (i := 40) (v := ?v22) rfl (by kernel_rfl) (by kernel_rfl) (by kernel_rfl) (fun _ _ _ h => h) (Or.inl ⟨by kernel_rfl, ?y22⟩) (by assumption) ?_
    case y22 => (intro w hSw; (try dsimp only at hSw); go_simp; all_goals with_reducible rfl)
    try simp only [Act.put, List.getElem_toArray]
    refine wpAnyH_take (i := 41) (v := ?v23) rfl (by kernel_rfl) (by kernel_rfl) (by kernel_rfl) (fun _ _ _ h => h) (Or.inl ⟨by kernel_rfl, ?y23⟩) (by assumption) ?_
    case y23 => (intro w hSw; (try dsimp only at hSw); go_simp; all_goals with_reducible rfl)
    try simp only [Act.put, List.getElem_toArray]
    refine wpAnyH_take (i := 42) (v := (.bool true)) rfl (by kernel_rfl) (by kernel_rfl) (by kernel_rfl) (fun _ _ _ h => h) (Or.inl ⟨by kernel_rfl, fun w hSw => by first | (go_simp; done) | (go_simp; with_reducible rfl) | (go_simp; omega)⟩) (by assumption) ?_
    try simp only [Act.put, List.getElem_toArray]
    refine wpAnyH_take (i := 43) (v := (.bool true)) rfl (by kernel_rfl) (by kernel_rfl) (by kernel_rfl) (fun _ _ _ h => h) (Or.inl ⟨by kernel_rfl, fun w hSw => by first | (go_simp; done) | (go_simp; with_reducible rfl) | (go_simp; omega)⟩) (by assumption) ?_
    try simp only [Act.put, List.getElem_toArray]
    refine wpAnyH_take (i := 44) (v := (.bool true)) rfl (by kernel_rfl) (by kernel_rfl) (by kernel_rfl) (fun _ _ _ h => h) (Or.inl ⟨by kernel_rfl, fun w hSw => by first | (go_simp; done) | (go_simp; with_reducible rfl) | (go_simp; omega)⟩) (by assumption) ?_
    try simp only [Act.put, List.getElem_toArray]
    refine wpAnyH_take (i := 45) (v := ?v24) rfl (by kernel_rfl) (by kernel_rfl) (by kernel_rfl) (fun _ _ _ h => h) (Or.inl ⟨by kernel_rfl, ?y24⟩) (by assumption) ?_
    case y24 => (intro w hSw; (try dsimp only at hSw); go_simp; all_goals with_reducible rfl)
    try simp only [Act.put, List.getElem_toArray]
    refine wpAnyH_take (i := 46) (v := (.bool true)) rfl (by kernel_rfl) (by kernel_rfl) (by kernel_rfl) (fun _ _ _ h => h) (Or.inl ⟨by kernel_rfl, fun w hSw => by first | (go_simp; done) | (go_simp; with_reducible rfl) | (go_simp; omega)⟩) (by assumption) ?_
    try simp only [Act.put, List.getElem_toArray]
    refine wpAnyH_take (i := 47) (v := (.bool true)) rfl (by kernel_rfl) (by kernel_rfl) (by kernel_rfl) (fun _ _ _ h => h) (Or.inl ⟨by kernel_rfl, fun w hSw => by first | (go_simp; done) | (go_simp; with_reducible rfl) | (go_simp; omega)⟩) (by assumption) ?_
    try simp only [Act.put, List.getElem_toArray]
    refine wpAnyH_take (i := 48) (v := (.bool true)) rfl (by kernel_rfl) (by kernel_rfl) (by kernel_rfl) (fun _ _ _ h => h) (Or.inl ⟨by kernel_rfl, fun w hSw => by first | (go_simp; done) | (go_simp; with_reducible rfl) | (go_simp; omega)⟩) (by assumption) ?_
    try simp only [Act.put, List.getElem_toArray]
    refine wpAnyH_take (i := 49) (v := ?v25) rfl (by kernel_rfl) (by kernel_rfl) (by kernel_rfl) (fun _ _ _ h => h) (Or.inl ⟨by kernel_rfl, ?y25⟩) (by assumption) ?_
    case y25 => (intro w hSw; (try dsimp only at hSw); go_simp; all_goals with_reducible rfl)
    try simp only [Act.put, List.getElem_toArray]
    refine wpAnyH_take (i := 50) (v := ?v26) rfl (by kernel_rfl) (by kernel_rfl) (by kernel_rfl) (fun _ _ _ h => h) (Or.inl ⟨by kernel_rfl, ?y26⟩) (by assumption) ?_
    case y26 => (intro w hSw; (try dsimp only at hSw); go_simp; all_goals with_reducible rfl)
    try simp only [Act.put, List.getElem_toArray]
    refine wpAnyH_take (i := 51) (v := (.bool true)) rfl (by kernel_rfl) (by kernel_rfl) (by kernel_rfl) (fun _ _ _ h => h) (Or.inl ⟨by kernel_rfl, fun w hSw => by first | (go_simp; done) | (go_simp; with_reducible rfl) | (go_simp; omega)⟩) (by assumption) ?_
    try simp only [Act.put, List.getElem_toArray]
    refine wpAnyH_take (i := 52) (v := (.bool true)) rfl (by kernel_rfl) (by kernel_rfl) (by kernel_rfl) (fun _ _ _ h => h) (Or.inl ⟨by kernel_rfl, fun w hSw => by first | (go_simp; done) | (go_simp; with_reducible rfl) | (go_simp; omega)⟩) (by assumption) ?_
    try simp only [Act.put, List.getElem_toArray]
    refine wpAnyH_take (i := 53) (v := (.bool true)) rfl (by kernel_rfl) (by kernel_rfl) (by kernel_rfl) (fun _ _ _ h => h) (Or.inl ⟨by kernel_rfl, fun w hSw => by first | (go_simp; done) | (go_simp; with_reducible rfl) | (go_simp; omega)⟩) (by assumption) ?_
    try simp only [Act.put, List.getElem_toArray]
    refine wpAnyH_take (i := 54) (v := ?v27) rfl (by kernel_rfl) (by kernel_rfl) (by kernel_rfl) (fun _ _ _ h => h) (Or.inl ⟨by kernel_rfl, ?y27⟩) (by assumption) ?_
    case y27 => (intro w hSw; (try dsimp only at hSw); go_simp; all_goals with_reducible rfl)
    try simp only [Act.put, List.getElem_toArray]
    refine wpAnyH_ready (rs := [55]) (by kernel_rfl) (by simp) (AllReadyH.cons rfl (fun K hK => ?_) AllReadyH.nil)
    go_simp
    go_at_call 15
    refine (sec0 _ _ _ (HRR.out.fr (HF5.out.trans (HFF.out.trans hHeld.2.2.2.2.2.2.2.2.2.2.2.2.2.2.2.2.2.2.2.out)))).mono ?_
    rintro e W1 ⟨rfl, f⟩
    have FW := kf f hHeld.2.2.2.2.2.2.2.2.2.2.2.2.2.2.2.2.2.2.2
    dsimp only
    refine hK.out _ _ ?_ (fun hHeld => ?_)
    · (try dsimp only); (first | exact ⟨kc f hHeld.1, kc f hHeld.2.1, kc f hHeld.2.2.1, kc f hHeld.2.2.2.1, kc f hHeld.2.2.2.2.1, kc f hHeld.2.2.2.2.2.1, kc f hHeld.2.2.2.2.2.2.1, kc f hHeld.2.2.2.2.2.2.2.1, kc f hHeld.2.2.2.2.2.2.2.2.1, kc f hHeld.2.2.2.2.2.2.2.2.2.1, kc f hHeld.2.2.2.2.2.2.2.2.2.2.1, kc f hHeld.2.2.2.2.2.2.2.2.2.2.2.1, kc f hHeld.2.2.2.2.2.2.2.2.2.2.2.2.1, kc f hHeld.2.2.2.2.2.2.2.2.2.2.2.2.2.1, kc f hHeld.2.2.2.2.2.2.2.2.2.2.2.2.2.2.1, kc f hHeld.2.2.2.2.2.2.2.2.2.2.2.2.2.2.2.1, kc f hHeld.2.2.2.2.2.2.2.2.2.2.2.2.2.2.2.2.1, kc f hHeld.2.2.2.2.2.2.2.2.2.2.2.2.2.2.2.2.2.1, kc f hHeld.2.2.2.2.2.2.2.2.2.2.2.2.2.2.2.2.2.2.1, FW⟩ | (go_split_ands; exact ⟨kc f (by assumption), kc f (by assumption), kc f (by assumption), kc f (by assumption), kc f (by assumption), kc f (by assumption), kc f (by assumption), kc f (by assumption), kc f (by assumption), kc f (by assumption), kc f (by assumption), kc f (by assumption), kc f (by assumption), kc f (by assumption), kc f (by assumption), kc f (by assumption), kc f (by assumption), kc f (by assumption), kc f (by assumption), by assumption⟩) | (go_split_ands; exact ⟨(by assumption), (by assumption), (by assumption), (by assumption), (by assumption), (by assumption), (by assumption), (by assumption), (by assumption), (by assumption), (by assumption), (by assumption), (by assumption), (by assumption), (by assumption), (by assumption), (by assumption), (by assumption), (by assumption), by assumption⟩) | (go_split_ands; exact ⟨kc (fr1 _ _) (by assumption), kc (fr1 _ _) (by assumption), kc (fr1 _ _) (by assumption), kc (fr1 _ _) (by assumption), kc (fr1 _ _) (by assumption), kc (fr1 _ _) (by assumption), kc (fr1 _ _) (by assumption), kc (fr1 _ _) (by assumption), kc (fr1 _ _) (by assumption), kc (fr1 _ _) (by assumption), kc (fr1 _ _) (by assumption), kc (fr1 _ _) (by assumption), kc (fr1 _ _) (by assumption), kc (fr1 _ _) (by assumption), kc (fr1 _ _) (by assumption), kc (fr1 _ _) (by assumption), kc (fr1 _ _) (by assumption), kc (fr1 _ _) (by assumption), kc (fr1 _ _) (by assumption), kfa (by assumption)⟩) | (exact hHeld))
    clear hK K
    try simp only [Act.put, List.getElem_toArray, List.getElem_cons_succ, List.getElem_cons_zero, List.setIfInBounds_toArray, List.set_cons_zero, List.set_cons_succ]
    refine wpAnyH_take (i := 56) (oi := ⟨some 104, _, _, _, _, _⟩) (v := (.bool true)) rfl (by kernel_rfl) (by kernel_rfl) (by kernel_rfl) (fun _ _ _ h => h) (Or.inl ⟨by kernel_rfl, fun w hSw => by first | (go_simp; done) | (go_simp; with_reducible rfl) | (go_simp; omega)⟩) (by assumption) ?_
    try simp only [Act.put, List.setIfInBounds_toArray, List.set_cons_zero, List.set_cons_succ]
    refine wpAnyH_take (i := 57) (oi := ⟨some 105, _, _, _, _, _⟩) (v := (.bool true)) rfl (by kernel_rfl) (by kernel_rfl) (by kernel_rfl) (fun _ _ _ h => h) (Or.inl ⟨by kernel_rfl, fun w hSw => by first | (go_simp; done) | (go_simp; with_reducible rfl) | (go_simp; omega)⟩) (by assumption) ?_
    try simp only [Act.put, List.setIfInBounds_toArray, List.set_cons_zero, List.set_cons_succ]
    refine wpAnyH_take (i := 58) (oi := ⟨some 106, _, _, _, _, _⟩) (v := (.bool true)) rfl (by kernel_rfl) (by kernel_rfl) (by kernel_rfl) (fun _ _ _ h => h) (Or.inl ⟨by kernel_rfl, fun w hSw => by first | (go_simp; done) | (go_simp; with_reducible rfl) | (go_simp; omega)⟩) (by assumption) ?_
    try simp only [Act.put, List.setIfInBounds_toArray, List.set_cons_zero, List.set_cons_succ]
    refine wpAnyH_take (i := 59) (oi := ⟨some 107, _, _, _, _, _⟩) (v := ?v28) rfl (by kernel_rfl) (by kernel_rfl) (by kernel_rfl) (fun _ _ _ h => h) (Or.inl ⟨by kernel_rfl, ?y28⟩) (by assumption) ?_
    case y28 => (intro w hSw; (try dsimp only at hSw); go_simp; all_goals with_reducible rfl)
    try simp only [Act.put, List.setIfInBounds_toArray, List.set_cons_zero, List.set_cons_succ]
    refine wpAnyH_take (i := 60) (oi := ⟨some 108, _, _, _, _, _⟩) (v := ?v29) rfl (by kernel_rfl) (by kernel_rfl) (by kernel_rfl) (fun _ _ _ h => h) (Or.inl ⟨by kernel_rfl, ?y29⟩) (by assumption) ?_
    case y29 => (intro w hSw; (try dsimp only at hSw); go_simp; all_goals with_reducible rfl)
    try simp only [Act.put, List.setIfInBounds_toArray, List.set_cons_zero, List.set_cons_succ]
    refine wpAnyH_ready (rs := [61]) (by kernel_rfl) (by simp) (AllReadyH.cons rfl (fun K hK => ?_) AllReadyH.nil)
    go_simp
    go_at_call 30
    refine (sca0 As cs _ (isB_fr HS5.out (HFF.out.trans hHeld.2.2.2.2.2.2.2.2.2.2.2.2.2.2.2.2.2.2.2.out))).mono ?_
    rintro e W1 ⟨⟨vs, rfl⟩, f⟩
    have FW := kf f hHeld.2.2.2.2.2.2.2.2.2.2.2.2.2.2.2.2.2.2.2
    have hn := hn0 vs
    dsimp only
    refine hK.out _ _ ?_ (fun hHeld => ?_)
    · (try dsimp only); (first | exact ⟨kc f hHeld.1, kc f hHeld.2.1, kc f hHeld.2.2.1, kc f hHeld.2.2.2.1, kc f hHeld.2.2.2.2.1, kc f hHeld.2.2.2.2.2.1, kc f hHeld.2.2.2.2.2.2.1, kc f hHeld.2.2.2.2.2.2.2.1, kc f hHeld.2.2.2.2.2.2.2.2.1, kc f hHeld.2.2.2.2.2.2.2.2.2.1, kc f hHeld.2.2.2.2.2.2.2.2.2.2.1, kc f hHeld.2.2.2.2.2.2.2.2.2.2.2.1, kc f hHeld.2.2.2.2.2.2.2.2.2.2.2.2.1, kc f hHeld.2.2.2.2.2.2.2.2.2.2.2.2.2.1, kc f hHeld.2.2.2.2.2.2.2.2.2.2.2.2.2.2.1, kc f hHeld.2.2.2.2.2.2.2.2.2.2.2.2.2.2.2.1, kc f hHeld.2.2.2.2.2.2.2.2.2.2.2.2.2.2.2.2.1, kc f hHeld.2.2.2.2.2.2.2.2.2.2.2.2.2.2.2.2.2.1, kc f hHeld.2.2.2.2.2.2.2.2.2.2.2.2.2.2.2.2.2.2.1, FW⟩ | (go_split_ands; exact ⟨kc f (by assumption), kc f (by assumption), kc f (by assumption), kc f (by assumption), kc f (by assumption), kc f (by assumption), kc f (by assumption), kc f (by assumption), kc f (by assumption), kc f (by assumption), kc f (by assumption), kc f (by assumption), kc f (by assumption), kc f (by assumption), kc f (by assumption), kc f (by assumption), kc f (by assumption), kc f (by assumption), kc f (by assumption), by assumption⟩) | (go_split_ands; exact ⟨(by assumption), (by assumption), (by assumption), (by assumption), (by assumption), (by assumption), (by assumption), (by assumption), (by assumption), (by assumption), (by assumption), (by assumption), (by assumption), (by assumption), (by assumption), (by assumption), (by assumption), (by assumption), (by assumption), by assumption⟩) | (go_split_ands; exact ⟨kc (fr1 _ _) (by assumption), kc (fr1 _ _) (by assumption), kc (fr1 _ _) (by assumption), kc (fr1 _ _) (by assumption), kc (fr1 _ _) (by assumption), kc (fr1 _ _) (by assumption), kc (fr1 _ _) (by assumption), kc (fr1 _ _) (by assumption), kc (fr1 _ _) (by assumption), kc (fr1 _ _) (by assumption), kc (fr1 _ _) (by assumption), kc (fr1 _ _) (by assumption), kc (fr1 _ _) (by assumption), kc (fr1 _ _) (by assumption), kc (fr1 _ _) (by assumption), kc (fr1 _ _) (by assumption), kc (fr1 _ _) (by assumption), kc (fr1 _ _) (by assumption), kc (fr1 _ _) (by assumption), kfa (by assumption)⟩) | (exact hHeld))
    clear hK K
    try simp only [Act.put, List.getElem_toArray, List.getElem_cons_succ, List.getElem_cons_zero, List.setIfInBounds_toArray, List.set_cons_zero, List.set_cons_succ]
    refine wpAnyH_take (i := 62) (oi := ⟨some 110, _, _, _, _, _⟩) (v := (.bool true)) rfl (by kernel_rfl) (by kernel_rfl) (by kernel_rfl) (fun _ _ _ h => h) (Or.inl ⟨by kernel_rfl, fun w hSw => by first | (go_simp; done) | (go_simp; with_reducible rfl) | (go_simp; omega)⟩) (by assumption) ?_
    try simp only [Act.put, List.setIfInBounds_toArray, List.set_cons_zero, List.set_cons_succ]
    refine wpAnyH_take (i := 63) (oi := ⟨some 111, _, _, _, _, _⟩) (v := (.bool true)) rfl (by kernel_rfl) (by kernel_rfl) (by kernel_rfl) (fun _ _ _ h => h) (Or.inl ⟨by kernel_rfl, fun w hSw => by first | (go_simp; done) | (go_simp; with_reducible rfl) | (go_simp; omega)⟩) (by assumption) ?_
    try simp only [Act.put, List.setIfInBounds_toArray, List.set_cons_zero, List.set_cons_succ]
    refine wpAnyH_take (i := 64) (oi := ⟨some 112, _, _, _, _, _⟩) (v := (.bool true)) rfl (by kernel_rfl) (by kernel_rfl) (by kernel_rfl) (fun _ _ _ h => h) (Or.inl ⟨by kernel_rfl, fun w hSw => by first | (go_simp; done) | (go_simp; with_reducible rfl) | (go_simp; omega)⟩) (by assumption) ?_
    try simp only [Act.put, List.setIfInBounds_toArray, List.set_cons_zero, List.set_cons_succ]
    refine wpAnyH_take (i := 65) (oi := ⟨some 113, _, _, _, _, _⟩) (v := ?v30) rfl (by kernel_rfl) (by kernel_rfl) (by kernel_rfl) (fun _ _ _ h => h) (Or.inl ⟨by kernel_rfl, ?y30⟩) (by assumption) ?_
    case y30 => (intro w hSw; (try dsimp only at hSw); go_simp; all_goals with_reducible rfl)
    try simp only [Act.put, List.setIfInBounds_toArray, List.set_cons_zero, List.set_cons_succ]
    refine wpAnyH_take (i := 66) (oi := ⟨some 114, _, _, _, _, _⟩) (v := ?v31) rfl (by kernel_rfl) (by kernel_rfl) (by kernel_rfl) (fun _ _ _ h => h) (Or.inl ⟨by kernel_rfl, ?y31⟩) (by assumption) ?_
    case y31 => (intro w hSw; (try dsimp only at hSw); go_simp; all_goals with_reducible rfl)
    try simp only [Act.put, List.setIfInBounds_toArray, List.set_cons_zero, List.set_cons_succ]
    refine wpAnyH_ready (rs := [67]) (by kernel_rfl) (by simp) (AllReadyH.cons rfl (fun K hK => ?_) AllReadyH.nil)
    go_simp
    go_at_call 28
    refine (bsa0 _ _ _ _ _ (HX5.out.fr (HFF.out.trans hHeld.2.2.2.2.2.2.2.2.2.2.2.2.2.2.2.2.2.2.2.out)) (HRR.out.fr (HF5.out.trans (HFF.out.trans hHeld.2.2.2.2.2.2.2.2.2.2.2.2.2.2.2.2.2.2.2.out)))).mono ?_
    rintro e W1 ⟨rfl, f⟩
    have FW := kf f hHeld.2.2.2.2.2.2.2.2.2.2.2.2.2.2.2.2.2.2.2
    dsimp only
    refine hK.out _ _ ?_ (fun hHeld => ?_)
    · (try dsimp only); (first | exact ⟨kc f hHeld.1, kc f hHeld.2.1, kc f hHeld.2.2.1, kc f hHeld.2.2.2.1, kc f hHeld.2.2.2.2.1, kc f hHeld.2.2.2.2.2.1, kc f hHeld.2.2.2.2.2.2.1, kc f hHeld.2.2.2.2.2.2.2.1, kc f hHeld.2.2.2.2.2.2.2.2.1, kc f hHeld.2.2.2.2.2.2.2.2.2.1, kc f hHeld.2.2.2.2.2.2.2.2.2.2.1, kc f hHeld.2.2.2.2.2.2.2.2.2.2.2.1, kc f hHeld.2.2.2.2.2.2.2.2.2.2.2.2.1, kc f hHeld.2.2.2.2.2.2.2.2.2.2.2.2.2.1, kc f hHeld.2.2.2.2.2.2.2.2.2.2.2.2.2.2.1, kc f hHeld.2.2.2.2.2.2.2.2.2.2.2.2.2.2.2.1, kc f hHeld.2.2.2.2.2.2.2.2.2.2.2.2.2.2.2.2.1, kc f hHeld.2.2.2.2.2.2.2.2.2.2.2.2.2.2.2.2.2.1, kc f hHeld.2.2.2.2.2.2.2.2.2.2.2.2.2.2.2.2.2.2.1, FW⟩ | (go_split_ands; exact ⟨kc f (by assumption), kc f (by assumption), kc f (by assumption), kc f (by assumption), kc f (by assumption), kc f (by assumption), kc f (by assumption), kc f (by assumption), kc f (by assumption), kc f (by assumption), kc f (by assumption), kc f (by assumption), kc f (by assumption), kc f (by assumption), kc f (by assumption), kc f (by assumption), kc f (by assumption), kc f (by assumption), kc f (by assumption), by assumption⟩) | (go_split_ands; exact ⟨(by assumption), (by assumption), (by assumption), (by assumption), (by assumption), (by assumption), (by assumption), (by assumption), (by assumption), (by assumption), (by assumption), (by assumption), (by assumption), (by assumption), (by assumption), (by assumption), (by assumption), (by assumption), (by assumption), by assumption⟩) | (go_split_ands; exact ⟨kc (fr1 _ _) (by assumption), kc (fr1 _ _) (by assumption), kc (fr1 _ _) (by assumption), kc (fr1 _ _) (by assumption), kc (fr1 _ _) (by assumption), kc (fr1 _ _) (by assumption), kc (fr1 _ _) (by assumption), kc (fr1 _ _) (by assumption), kc (fr1 _ _) (by assumption), kc (fr1 _ _) (by assumption), kc (fr1 _ _) (by assumption), kc (fr1 _ _) (by assumption), kc (fr1 _ _) (by assumption), kc (fr1 _ _) (by assumption), kc (fr1 _ _) (by assumption), kc (fr1 _ _) (by assumption), kc (fr1 _ _) (by assumption), kc (fr1 _ _) (by assumption), kc (fr1 _ _) (by assumption), kfa (by assumption)⟩) | (exact hHeld))
    clear hK K
    try simp only [Act.put, List.getElem_toArray, List.getElem_cons_succ, List.getElem_cons_zero, List.setIfInBounds_toArray, List.set_cons_zero, List.set_cons_succ]
    refine wpAnyH_take (i := 68) (oi := ⟨some 116, _, _, _, _, _⟩) (v := (.bool true)) rfl (by kernel_rfl) (by kernel_rfl) (by kernel_rfl) (fun _ _ _ h => h) (Or.inl ⟨by kernel_rfl, fun w hSw => by first | (go_simp; done) | (go_simp; with_reducible rfl) | (go_simp; omega)⟩) (by assumption) ?_
    try simp only [Act.put, List.setIfInBounds_toArray, List.set_cons_zero, List.set_cons_succ]
    refine wpAnyH_take (i := 69) (oi := ⟨some 117, _, _, _, _, _⟩) (v := (.bool true)) rfl (by kernel_rfl) (by kernel_rfl) (by kernel_rfl) (fun _ _ _ h => h) (Or.inl ⟨by kernel_rfl, fun w hSw => by first | (go_simp; done) | (go_simp; with_reducible rfl) | (go_simp; omega)⟩) (by assumption) ?_
    try simp only [Act.put, List.setIfInBounds_toArray, List.set_cons_zero, List.set_cons_succ]
    refine wpAnyH_take (i := 70) (oi := ⟨some 118, _, _, _, _, _⟩) (v := ?v32) rfl (by kernel_rfl) (by kernel_rfl) (by kernel_rfl) (fun _ _ _ h => h) (Or.inl ⟨by kernel_rfl, ?y32⟩) (by assumption) ?_
    case y32 => (intro w hSw; (try dsimp only at hSw); go_simp; all_goals with_reducible rfl)
    try simp only [Act.put, List.setIfInBounds_toArray, List.set_cons_zero, List.set_cons_succ]
    refine wpAnyH_take (i := 71) (oi := ⟨some 119, _, _, _, _, _⟩) (v := ?v33) rfl (by kernel_rfl) (by kernel_rfl) (by kernel_rfl) (fun _ _ _ h => h) (Or.inl ⟨by kernel_rfl, ?y33⟩) (by assumption) ?_
    case y33 => (intro w hSw; (try dsimp only at hSw); go_simp; all_goals with_reducible rfl)
    try simp only [Act.put, List.setIfInBounds_toArray, List.set_cons_zero, List.set_cons_succ]
    refine wpAnyH_ready (rs := [72]) (by kernel_rfl) (by simp) (AllReadyH.cons rfl (fun K hK => ?_) AllReadyH.nil)
    go_simp
    go_at_call 10
    refine (mas0 _ _ (HRR.out.fr (HF5.out.trans (HFF.out.trans hHeld.2.2.2.2.2.2.2.2.2.2.2.2.2.2.2.2.2.2.2.out)))).mono ?_
    rintro e W1 ⟨rfl, f⟩
    have FW := kf f hHeld.2.2.2.2.2.2.2.2.2.2.2.2.2.2.2.2.2.2.2
    dsimp only
    refine hK.out _ _ ?_ (fun hHeld => ?_)
    · (try dsimp only); (first | exact ⟨kc f hHeld.1, kc f hHeld.2.1, kc f hHeld.2.2.1, kc f hHeld.2.2.2.1, kc f hHeld.2.2.2.2.1, kc f hHeld.2.2.2.2.2.1, kc f hHeld.2.2.2.2.2.2.1, kc f hHeld.2.2.2.2.2.2.2.1, kc f hHeld.2.2.2.2.2.2.2.2.1, kc f hHeld.2.2.2.2.2.2.2.2.2.1, kc f hHeld.2.2.2.2.2.2.2.2.2.2.1, kc f hHeld.2.2.2.2.2.2.2.2.2.2.2.1, kc f hHeld.2.2.2.2.2.2.2.2.2.2.2.2.1, kc f hHeld.2.2.2.2.2.2.2.2.2.2.2.2.2.1, kc f hHeld.2.2.2.2.2.2.2.2.2.2.2.2.2.2.1, kc f hHeld.2.2.2.2.2.2.2.2.2.2.2.2.2.2.2.1, kc f hHeld.2.2.2.2.2.2.2.2.2.2.2.2.2.2.2.2.1, kc f hHeld.2.2.2.2.2.2.2.2.2.2.2.2.2.2.2.2.2.1, kc f hHeld.2.2.2.2.2.2.2.2.2.2.2.2.2.2.2.2.2.2.1, FW⟩ | (go_split_ands; exact ⟨kc f (by assumption), kc f (by assumption), kc f (by assumption), kc f (by assumption), kc f (by assumption), kc f (by assumption), kc f (by assumption), kc f (by assumption), kc f (by assumption), kc f (by assumption), kc f (by assumption), kc f (by assumption), kc f (by assumption), kc f (by assumption), kc f (by assumption), kc f (by assumption), kc f (by assumption), kc f (by assumption), kc f (by assumption), by assumption⟩) | (go_split_ands; exact ⟨(by assumption), (by assumption), (by assumption), (by assumption), (by assumption), (by assumption), (by assumption), (by assumption), (by assumption), (by assumption), (by assumption), (by assumption), (by assumption), (by assumption), (by assumption), (by assumption), (by assumption), (by assumption), (by assumption), by assumption⟩) | (go_split_ands; exact ⟨kc (fr1 _ _) (by assumption), kc (fr1 _ _) (by assumption), kc (fr1 _ _) (by assumption), kc (fr1 _ _) (by assumption), kc (fr1 _ _) (by assumption), kc (fr1 _ _) (by assumption), kc (fr1 _ _) (by assumption), kc (fr1 _ _) (by assumption), kc (fr1 _ _) (by assumption), kc (fr1 _ _) (by assumption), kc (fr1 _ _) (by assumption), kc (fr1 _ _) (by assumption), kc (fr1 _ _) (by assumption), kc (fr1 _ _) (by assumption), kc (fr1 _ _) (by assumption), kc (fr1 _ _) (by assumption), kc (fr1 _ _) (by assumption), kc (fr1 _ _) (by assumption), kc (fr1 _ _) (by assumption), kfa (by assumption)⟩) | (exact hHeld))
    clear hK K
    try simp only [Act.put, List.getElem_toArray, List.getElem_cons_succ, List.getElem_cons_zero, List.setIfInBounds_toArray, List.set_cons_zero, List.set_cons_succ]
    refine wpAnyH_take (i := 73) (oi := ⟨some 121, _, _, _, _, _⟩) (v := ?v34) rfl (by kernel_rfl) (by kernel_rfl) (by kernel_rfl) (fun _ _ _ h => h) (Or.inl ⟨by kernel_rfl, ?y34⟩) (by assumption) ?_
    case y34 => (intro w hSw; (try dsimp only at hSw); go_simp; all_goals with_reducible rfl)
    try simp only [Act.put, List.setIfInBounds_toArray, List.set_cons_zero, List.set_cons_succ]
    refine wpAnyH_take (i := 74) (oi := ⟨some 0, _, _, _, _, _⟩) (v := ?v35) rfl (by kernel_rfl) (by kernel_rfl) (by kernel_rfl) (fun _ _ _ h => h) (Or.inl ⟨by kernel_rfl, ?y35⟩) (by assumption) ?_
    case y35 => (intro w hSw; (try dsimp only at hSw); go_simp; all_goals with_reducible rfl)
    try simp only [Act.put, List.setIfInBounds_toArray, List.set_cons_zero]
    refine wpAnyH_done (by kernel_rfl) ?_ _
    refine NoPanic.normal ?_
    have FW8 := hHeld.2.2.2.2.2.2.2.2.2.2.2.2.2.2.2.2.2.2.2
    go_wp2
    go_ret
    exact ⟨rfl, HFb.out.trans (HF5.out.trans (HFF.out.trans FW8.out))⟩
end Go.Proofs.YtcocebfipkbkiaaDoor.BtT
/- The law BatchSame. Conditions: the table of sums is as its text lays it; the slices read as spans. -/
namespace Go.Proofs.YtcocebfipkbkiaaDoor.BtU
open Go.RowKit MSep MSepC MSpM MGeM MFrame Kit BtA BtCc BtT CrcA
open BtM (Ba)

set_option maxRecDepth 100000 in
set_option maxHeartbeats 4000000 in
theorem same_walk (q k : Int) (A : Option Addr) (l c : Nat) (xs : List Sp) (q' k' : Int) (B : Option Addr) (m d : Nat) (ys : List Sp) (w : World) (hl : l ≤ 9223372036854775807) (hm : m ≤ 9223372036854775807) (hx : RdS w A l xs) (hy : RdS w B m ys) (hT : TabAt w) :
    Calls Tryd.prog 7 #[bv q k A l c, bv q' k' B m d] w fun e w' => e = .returned (.bool true) ∧ Fr No w w' := by
  obtain ⟨G, hG⟩ : ∃ G, w.heap.size = G := ⟨_, rfl⟩
  obtain ⟨w1, hw1⟩ : ∃ w1, (w.alloc (.cells (bcs q k A l c) 26)).alloc (.cells (bcs q' k' B m d) 26) = w1 := ⟨_, rfl⟩
  have HF := hid (show Fr No w w1 by rw [← hw1]; exact ((Fr.refl No w).alloc _).alloc _)
  have hb1 : BB w1 G q k A l c := by rw [← hw1, ← hG]; exact Blk.alloc (BB.new w q k A l c) _
  have hb2 : BB w1 (G + 1) q' k' B m d := by
    rw [← hw1, ← hG]
    have := BB.new (w.alloc (.cells (bcs q k A l c) 26)) q' k' B m d
    rwa [World.size_alloc] at this
  have HX := hid (hx.fr HF.out)
  have HY := hid (hy.fr HF.out)
  have HT := hid (hT.fr HF.out (fun h => h))
  have HL := hid (And.intro hl hm)
  obtain ⟨v, hv⟩ : ∃ v, decide ((⟨q, k, xs⟩ : Ba) = ⟨q', k', ys⟩) = v := ⟨_, rfl⟩
  have HV := hid (show v = true ↔ (⟨q, k, xs⟩ : Ba) = ⟨q', k', ys⟩ by rw [← hv, decide_eq_true_iff])
  have HW1 := hid hw1
  clear hx hy hT hl hm hv hw1
  go_enter Tryd.func7, Tryd.ntmps7
  go_upto_region 1 with fail
  rw [show (w.alloc (.cells #[.int .i64 q, .int .i64 k, .slice A l c] 26)).alloc (.cells #[.int .i64 q', .int .i64 k', .slice B m d] 26) = w1 from HW1.out]
  try rw [World.size_alloc]
  try rw [hG]
  obtain ⟨a0, a1, a2⟩ := BB.cells hb1
  obtain ⟨b0, b1, b2⟩ := BB.cells hb2
  clear HW1 hb1 hb2
  have FW : Hid (Fr No w1 w1) := hid (Fr.refl _ _)
  have FW := kd FW
  refine wp_region_noPanic ?_
  refine wp_region_held_drew (S := (fun W' => W'.cell? ⟨G, 0, none⟩ = some (.int .i64 q) ∧ W'.cell? ⟨G, 1, none⟩ = some (.int .i64 k) ∧ W'.cell? ⟨G, 2, none⟩ = some (.slice A l c) ∧ W'.cell? ⟨G + 1, 0, none⟩ = some (.int .i64 q') ∧ W'.cell? ⟨G + 1, 1, none⟩ = some (.int .i64 k') ∧ W'.cell? ⟨G + 1, 2, none⟩ = some (.slice B m d) ∧ Hid (Fr No w1 W'))) (by kernel_rfl) ?_ (fun hHeld => ?_)
  · (try dsimp only); (first | (go_split_ands; exact ⟨kc f (by assumption), kc f (by assumption), kc f (by assumption), kc f (by assumption), kc f (by assumption), kc f (by assumption), by assumption⟩) | (go_split_ands; exact ⟨(by assumption), (by assumption), (by assumption), (by assumption), (by assumption), (by assumption), by assumption⟩) | (go_split_ands; exact ⟨kc (fr1 _ _) (by assumption), kc (fr1 _ _) (by assumption), kc (fr1 _ _) (by assumption), kc (fr1 _ _) (by assumption), kc (fr1 _ _) (by assumption), kc (fr1 _ _) (by assumption), kfa (by assumption)⟩))
  refine wpAnyH_ready (rs := [0]) (by kernel_rfl) (by simp) (AllReadyH.cons rfl (fun K hK => ?_) AllReadyH.nil)
  go_simp
  go_at_call 8
  refine (lives_ok _ (HT.out.fr hHeld.2.2.2.2.2.2.out (fun h => h))).mono ?_
  rintro e W1 ⟨rfl, f⟩
  have FW := kf f hHeld.2.2.2.2.2.2
  dsimp only
  refine hK.out _ _ ?_ (fun hHeld => ?_)
  · (try dsimp only); (first | (go_split_ands; exact ⟨kc f (by assumption), kc f (by assumption), kc f (by assumption), kc f (by assumption), kc f (by assumption), kc f (by assumption), by assumption⟩) | (go_split_ands; exact ⟨(by assumption), (by assumption), (by assumption), (by assumption), (by assumption), (by assumption), by assumption⟩) | (go_split_ands; exact ⟨kc (fr1 _ _) (by assumption), kc (fr1 _ _) (by assumption), kc (fr1 _ _) (by assumption), kc (fr1 _ _) (by assumption), kc (fr1 _ _) (by assumption), kc (fr1 _ _) (by assumption), kfa (by assumption)⟩))
  clear hK K
  try simp only [Act.put, List.getElem_toArray, List.getElem_cons_succ, List.getElem_cons_zero, List.setIfInBounds_toArray, List.set_cons_zero, List.set_cons_succ]
  refine wpAnyH_take (i := 1) (v := (.bool true)) rfl (by kernel_rfl) (by kernel_rfl) (by kernel_rfl) (fun _ _ _ h => h) (Or.inl ⟨by kernel_rfl, fun w hSw => by first | (go_simp; done) | (go_simp; with_reducible rfl) | (go_simp; omega)⟩) (by assumption) ?_
  try simp only [Act.put, List.getElem_toArray, List.getElem_cons_succ, List.getElem_cons_zero, List.setIfInBounds_toArray, List.set_cons_zero, List.set_cons_succ]
  refine wpAnyH_take (i := 2) (v := ?v1) rfl (by kernel_rfl) (by kernel_rfl) (by kernel_rfl) (fun _ _ _ h => h) (Or.inl ⟨by kernel_rfl, ?y1⟩) (by assumption) ?_
  case y1 => (intro w hSw; (try dsimp only at hSw); go_simp; all_goals with_reducible rfl)
  try simp only [Act.put, List.getElem_toArray, List.getElem_cons_succ, List.getElem_cons_zero, List.setIfInBounds_toArray, List.set_cons_zero, List.set_cons_succ]
  refine wpAnyH_take (i := 3) (v := ?v2) rfl (by kernel_rfl) (by kernel_rfl) (by kernel_rfl) (fun _ _ _ h => h) (Or.inl ⟨by kernel_rfl, ?y2⟩) (by assumption) ?_
  case y2 => (intro w hSw; (try dsimp only at hSw); go_simp; all_goals with_reducible rfl)
  try simp only [Act.put, List.getElem_toArray, List.getElem_cons_succ, List.getElem_cons_zero, List.setIfInBounds_toArray, List.set_cons_zero, List.set_cons_succ]
  refine wpAnyH_take (i := 5) (v := ?v3) rfl (by kernel_rfl) (by kernel_rfl) (by kernel_rfl) (fun _ _ _ h => h) (Or.inl ⟨by kernel_rfl, ?y3⟩) (by assumption) ?_
  case y3 => (intro w hSw; (try dsimp only at hSw); go_simp; all_goals with_reducible rfl)
  try simp only [Act.put, List.getElem_toArray, List.getElem_cons_succ, List.getElem_cons_zero, List.setIfInBounds_toArray, List.set_cons_zero, List.set_cons_succ]
  refine wpAnyH_take (i := 6) (v := ?v4) rfl (by kernel_rfl) (by kernel_rfl) (by kernel_rfl) (fun _ _ _ h => h) (Or.inl ⟨by kernel_rfl, ?y4⟩) (by assumption) ?_
  case y4 => (intro w hSw; (try dsimp only at hSw); go_simp; all_goals with_reducible rfl)
  try simp only [Act.put, List.getElem_toArray, List.getElem_cons_succ, List.getElem_cons_zero, List.setIfInBounds_toArray, List.set_cons_zero, List.set_cons_succ]
  refine wpAnyH_ready (rs := [4]) (by kernel_rfl) (by simp) (AllReadyH.cons rfl (fun K hK => ?_) AllReadyH.nil)
  go_simp
  go_at_call 28
  refine (bsame_ok q k A l c xs q' k' B m d ys v _ HL.out.1 HL.out.2 (HX.out.fr hHeld.2.2.2.2.2.2.out) (HY.out.fr hHeld.2.2.2.2.2.2.out) HV.out).mono ?_
  rintro e W1 ⟨rfl, f⟩
  have FW := kf f hHeld.2.2.2.2.2.2
  dsimp only
  refine hK.out _ _ ?_ (fun hHeld => ?_)
  · (try dsimp only); (first | (go_split_ands; exact ⟨kc f (by assumption), kc f (by assumption), kc f (by assumption), kc f (by assumption), kc f (by assumption), kc f (by assumption), by assumption⟩) | (go_split_ands; exact ⟨(by assumption), (by assumption), (by assumption), (by assumption), (by assumption), (by assumption), by assumption⟩) | (go_split_ands; exact ⟨kc (fr1 _ _) (by assumption), kc (fr1 _ _) (by assumption), kc (fr1 _ _) (by assumption), kc (fr1 _ _) (by assumption), kc (fr1 _ _) (by assumption), kc (fr1 _ _) (by assumption), kfa (by assumption)⟩))
  clear hK K
  try simp only [Act.put, List.getElem_toArray, List.getElem_cons_succ, List.getElem_cons_zero, List.setIfInBounds_toArray, List.set_cons_zero, List.set_cons_succ]
  refine wpAnyH_ready (rs := [7]) (by kernel_rfl) (by simp) (AllReadyH.cons rfl (fun K hK => ?_) AllReadyH.nil)
  go_simp
  go_at_call 20
  refine (brsame_ok q k A l c xs q' k' B m d ys v _ HL.out.1 HL.out.2 (HX.out.fr hHeld.2.2.2.2.2.2.out) (HY.out.fr hHeld.2.2.2.2.2.2.out) HV.out).mono ?_
  rintro e W1 ⟨rfl, f⟩
  have FW := kf f hHeld.2.2.2.2.2.2
  dsimp only
  refine hK.out _ _ ?_ (fun hHeld => ?_)
  · (try dsimp only); (first | (go_split_ands; exact ⟨kc f (by assumption), kc f (by assumption), kc f (by assumption), kc f (by assumption), kc f (by assumption), kc f (by assumption), by assumption⟩) | (go_split_ands; exact ⟨(by assumption), (by assumption), (by assumption), (by assumption), (by assumption), (by assumption), by assumption⟩) | (go_split_ands; exact ⟨kc (fr1 _ _) (by assumption), kc (fr1 _ _) (by assumption), kc (fr1 _ _) (by assumption), kc (fr1 _ _) (by assumption), kc (fr1 _ _) (by assumption), kc (fr1 _ _) (by assumption), kfa (by assumption)⟩))
  clear hK K
  try simp only [Act.put, List.getElem_toArray, List.getElem_cons_succ, List.getElem_cons_zero, List.setIfInBounds_toArray, List.set_cons_zero, List.set_cons_succ]
  refine wpAnyH_take (i := 8) (v := (.bool true)) rfl (by kernel_rfl) (by kernel_rfl) (by kernel_rfl) (fun _ _ _ h => h) (Or.inl ⟨by kernel_rfl, fun w hSw => by first | (go_simp; done) | (go_simp; with_reducible rfl) | (go_simp; omega)⟩) (by assumption) ?_
  try simp only [Act.put, List.getElem_toArray, List.getElem_cons_succ, List.getElem_cons_zero, List.setIfInBounds_toArray, List.set_cons_zero, List.set_cons_succ]
  refine wpAnyH_take (i := 9) (v := (.bool true)) rfl (by kernel_rfl) (by kernel_rfl) (by kernel_rfl) (fun _ _ _ h => h) (Or.inl ⟨by kernel_rfl, fun w hSw => by first | (go_simp; done) | (go_simp; with_reducible rfl) | (go_simp; omega)⟩) (by assumption) ?_
  try simp only [Act.put, List.getElem_toArray, List.getElem_cons_succ, List.getElem_cons_zero, List.setIfInBounds_toArray, List.set_cons_zero, List.set_cons_succ]
  refine wpAnyH_take (i := 10) (v := (.bool true)) rfl (by kernel_rfl) (by kernel_rfl) (by kernel_rfl) (fun _ _ _ h => h) (Or.inl ⟨by kernel_rfl, fun w hSw => by first | (go_simp; done) | (go_simp; with_reducible rfl) | (go_simp; omega)⟩) (by assumption) ?_
  try simp only [Act.put, List.getElem_toArray, List.getElem_cons_succ, List.getElem_cons_zero, List.setIfInBounds_toArray, List.set_cons_zero, List.set_cons_succ]
  refine wpAnyH_take (i := 11) (v := ?v5) rfl (by kernel_rfl) (by kernel_rfl) (by kernel_rfl) (fun _ _ _ h => h) (Or.inl ⟨by kernel_rfl, ?y5⟩) (by assumption) ?_
  case y5 => (intro w hSw; (try dsimp only at hSw); go_simp; all_goals with_reducible rfl)
  try simp only [Act.put, List.getElem_toArray, List.getElem_cons_succ, List.getElem_cons_zero, List.setIfInBounds_toArray, List.set_cons_zero, List.set_cons_succ]
  refine wpAnyH_take (i := 12) (v := ?v6) rfl (by kernel_rfl) (by kernel_rfl) (by kernel_rfl) (fun _ _ _ h => h) (Or.inl ⟨by kernel_rfl, ?y6⟩) (by assumption) ?_
  case y6 => (intro w hSw; (try dsimp only at hSw); go_simp; all_goals with_reducible rfl)
  try simp only [Act.put, List.getElem_toArray, List.getElem_cons_succ, List.getElem_cons_zero, List.setIfInBounds_toArray, List.set_cons_zero, List.set_cons_succ]
  refine wpAnyH_ready (rs := [13]) (by kernel_rfl) (by simp) (AllReadyH.cons rfl (fun K hK => ?_) AllReadyH.nil)
  go_simp
  go_at_call 28
  refine (bsame_ok q k A l c xs q k A l c xs true _ HL.out.1 HL.out.1 (HX.out.fr hHeld.2.2.2.2.2.2.out) (HX.out.fr hHeld.2.2.2.2.2.2.out) (by simp)).mono ?_
  rintro e W1 ⟨rfl, f⟩
  have FW := kf f hHeld.2.2.2.2.2.2
  dsimp only
  refine hK.out _ _ ?_ (fun hHeld => ?_)
  · (try dsimp only); (first | (go_split_ands; exact ⟨kc f (by assumption), kc f (by assumption), kc f (by assumption), kc f (by assumption), kc f (by assumption), kc f (by assumption), by assumption⟩) | (go_split_ands; exact ⟨(by assumption), (by assumption), (by assumption), (by assumption), (by assumption), (by assumption), by assumption⟩) | (go_split_ands; exact ⟨kc (fr1 _ _) (by assumption), kc (fr1 _ _) (by assumption), kc (fr1 _ _) (by assumption), kc (fr1 _ _) (by assumption), kc (fr1 _ _) (by assumption), kc (fr1 _ _) (by assumption), kfa (by assumption)⟩))
  clear hK K
  try simp only [Act.put, List.getElem_toArray, List.getElem_cons_succ, List.getElem_cons_zero, List.setIfInBounds_toArray, List.set_cons_zero, List.set_cons_succ]
  refine wpAnyH_take (i := 14) (v := ?v7) rfl (by kernel_rfl) (by kernel_rfl) (by kernel_rfl) (fun _ _ _ h => h) (Or.inl ⟨by kernel_rfl, ?y7⟩) (by assumption) ?_
  case y7 => (intro w hSw; (try dsimp only at hSw); go_simp; all_goals with_reducible rfl)
  try simp only [Act.put, List.getElem_toArray, List.getElem_cons_succ, List.getElem_cons_zero, List.setIfInBounds_toArray, List.set_cons_zero, List.set_cons_succ]
  refine wpAnyH_take (i := 15) (v := ?v8) rfl (by kernel_rfl) (by kernel_rfl) (by kernel_rfl) (fun _ _ _ h => h) (Or.inl ⟨by kernel_rfl, ?y8⟩) (by assumption) ?_
  case y8 => (intro w hSw; (try dsimp only at hSw); go_simp; all_goals with_reducible rfl)
  try simp only [Act.put, List.getElem_toArray, List.getElem_cons_succ, List.getElem_cons_zero, List.setIfInBounds_toArray, List.set_cons_zero, List.set_cons_succ]
  refine wpAnyH_done (by kernel_rfl) ?_ _
  refine NoPanic.normal ?_
  go_wp2
  go_ret
  exact ⟨rfl, HF.out.trans hHeld.2.2.2.2.2.2.out⟩
theorem same_card (q k : Int) (A : Option Addr) (l c : Nat) (xs : List Sp) (q' k' : Int) (B : Option Addr) (m d : Nat) (ys : List Sp) (w : World) (hl : l ≤ maxLen) (_ : l ≤ c) (hx : RdS w A l xs) (_ : ∀ s ∈ xs, SpA.wf s) (hm : m ≤ maxLen) (_ : m ≤ d) (hy : RdS w B m ys) (_ : ∀ s ∈ ys, SpA.wf s) (hT : TabAt w) :
    Calls Tryd.prog 7 #[bv q k A l c, bv q' k' B m d] w fun e w' => e = .returned (.bool true) ∧ Fr No w w' :=
  same_walk q k A l c xs q' k' B m d ys w hl hm hx hy hT
end Go.Proofs.YtcocebfipkbkiaaDoor.BtU
/- What the rows over spans take: a span that came in, a slice of spans that came in. -/
namespace Go.Proofs.YtcocebfipkbkiaaDoor.MSpRow
open Go.Joins Go.ChangeShapes Go.WideShapes Go.RowKit Go.Deep MFrame MSep MSepC MSpM SpA

theorem list_of {α : Type} {Q : Nat → α → Prop} : ∀ l : Nat, (∀ i, i < l → ∃ v, Q i v) → ∃ vs : List α, vs.length = l ∧ ∀ i v, vs[i]? = some v → Q i v
  | 0, _ => ⟨[], rfl, fun i v h => by simp at h⟩
  | l + 1, h => by
    obtain ⟨vs, hl, hv⟩ := list_of l (fun i hi => h i (by omega))
    obtain ⟨v, hq⟩ := h l (by omega)
    refine ⟨vs ++ [v], by simp [hl], fun i u hu => ?_⟩
    rcases Nat.lt_or_ge i l with hi | hi
    · rw [List.getElem?_append_left (by omega)] at hu
      exact hv i u hu
    · rw [List.getElem?_append_right (by omega)] at hu
      by_cases hil : i = l
      · subst hil
        simp [hl] at hu
        subst hu
        exact hq
      · rw [List.getElem?_eq_none (by simp; omega)] at hu
        cases hu

set_option maxRecDepth 100000 in
theorem span_open {H : Type} {enc : TypeId × Value → H} {w : World} {base b0 : Nat} {r : Reach} {spare : Nat → Bool} {held : Bool} {v : Value} {d : DataW H} {p : List MemPlace}
    (hv : Value.okWide Tryd.prog w r b0 53 v) (h : DataW.Trod enc Tryd.prog w base spare held 53 v d p) : ∃ a n : Int, v = .agg #[.int .i64 a, .int .i64 n] ∧ wf (a, n) := by
  obtain ⟨v0, v1, y0, y1, n, rfl, _, _, h0, h1⟩ := open_agg2 Tryd.underlying53 (by kernel_rfl) (by kernel_rfl) hv h
  obtain ⟨a0, e0, _, w0⟩ := DataW.trod_int Tryd.underlying3 h0
  obtain ⟨a1, e1, _, w1⟩ := DataW.trod_int Tryd.underlying3 h1
  simp at e0 e1
  subst e0 e1
  exact ⟨a0, a1, rfl, bounds_i64 w0, bounds_i64 w1⟩

/-- The spans' cells, read one by one, are the slice's. -/
theorem rds_of {w : World} {g o l : Nat} {xs : List Sp} (hl : xs.length = l) (hg : 0 < l → g < w.heap.size) (h : ∀ i s, xs[i]? = some s → w.cell? ⟨g, o + i * 2, none⟩ = some (.int .i64 s.1) ∧ w.cell? ⟨g, o + (i * 2 + 1), none⟩ = some (.int .i64 s.2)) : RdS w (some ⟨g, o, none⟩) l xs := by
  refine ⟨hl, by rw [cs2_len, hl], fun hn => ⟨g, o, rfl, hg (by omega), fun j u hu => ?_⟩⟩
  have hj : j < (cs2 xs).length := (List.getElem?_eq_some_iff.1 hu).1
  rw [cs2_len] at hj
  have hi : j / 2 < xs.length := by omega
  have hx : xs[j / 2]? = some xs[j / 2] := List.getElem?_eq_getElem hi
  obtain ⟨h0, h1⟩ := h _ _ hx
  obtain ⟨c0, c1⟩ := cs2_get0 hx
  rcases Nat.mod_two_eq_zero_or_one j with e | e
  · have ej : j = j / 2 * 2 := by omega
    rw [← ej] at h0 c0
    rw [hu] at c0
    injection c0 with c0
    rw [h0, c0]
  · have ej : j = j / 2 * 2 + 1 := by omega
    rw [← ej] at h1 c1
    rw [hu] at c1
    injection c1 with c1
    rw [h1, c1]

set_option maxRecDepth 100000 in
theorem spans_open {H : Type} {enc : TypeId × Value → H} {w : World} {base : Nat} {spare : Nat → Bool} {held : Bool} {A : Option Addr} {l c : Nat} {d : DataW H} {p : List MemPlace} (hsp : ∀ b, spare b = true)
    (h : DataW.Trod enc Tryd.prog w base spare held 24 (.slice A l c) d p) : ∃ xs, RdS w A l xs ∧ (∀ s ∈ xs, wf s) ∧ l ≤ c ∧ c ≤ maxLen := by
  obtain ⟨fuel, hf⟩ := h
  rcases open_slice_fields Tryd.underlying24 Tryd.underlying53 (by kernel_rfl) (by kernel_rfl) hf with ⟨hcs, _⟩ | ⟨a, l', c', m, D, Pl, hcs, _, hl, hm, hmm, _, hfi⟩
  · simp [Value.cells] at hcs
    obtain ⟨rfl, rfl, rfl⟩ := hcs
    exact ⟨[], RdS.nil _ _, by simp, Nat.le_refl _, by simp [maxLen]⟩
  · simp [Value.cells] at hcs
    obtain ⟨rfl, rfl, rfl⟩ := hcs
    have hmc : m = c := by simpa [hsp] using hmm
    subst hmc
    rcases Nat.eq_zero_or_pos l with h0 | h0
    · subst h0
      exact ⟨[], RdS.nil _ _, by simp, hl, hm⟩
    · have hspot : a.spot = none := by
        obtain ⟨ys, n, _, _, _, hfs⟩ := hfi 0 (by omega)
        obtain ⟨v0, y0, c0, _, t0⟩ := hfs 0 _ rfl
        have := World.cell?_spot c0
        simpa [Addr.add] using this
      have ha : a = ⟨a.block, a.off, none⟩ := by rw [← hspot]
      have hadd : ∀ k, a.add k = ⟨a.block, a.off + k, none⟩ := fun k => by
        rw [ha]
        exact add_off _ _ k
      obtain ⟨xs, hlen, hxs⟩ := list_of (Q := fun i (s : Sp) => wf s ∧ a.block < w.heap.size ∧ w.cell? ⟨a.block, a.off + i * 2, none⟩ = some (.int .i64 s.1) ∧ w.cell? ⟨a.block, a.off + (i * 2 + 1), none⟩ = some (.int .i64 s.2)) l (fun i hi => by
        obtain ⟨ys, n, _, _, _, hfs⟩ := hfi i (by omega)
        obtain ⟨v0, y0, c0, _, t0⟩ := hfs 0 _ rfl
        obtain ⟨v1, y1, c1, _, t1⟩ := hfs 1 _ rfl
        obtain ⟨a0, e0, _, w0⟩ := DataW.trod_int Tryd.underlying3 t0
        obtain ⟨a1, e1, _, w1⟩ := DataW.trod_int Tryd.underlying3 t1
        simp at e0 e1
        subst e0 e1
        have hb := World.block_lt_of_cell? w _ c0
        simp only [hadd] at c0 c1
        refine ⟨(a0, a1), ⟨bounds_i64 w0, bounds_i64 w1⟩, by simpa [block_of_add] using hb, c0, c1⟩)
      refine ⟨xs, ?_, fun s hs => ?_, hl, hm⟩
      · rw [ha]
        refine rds_of hlen (fun _ => ?_) (fun i s hs => (hxs i s hs).2.2)
        have h1 : xs[0]? = some xs[0] := List.getElem?_eq_getElem (by omega)
        exact (hxs 0 _ h1).2.1
      · obtain ⟨i, hi⟩ := List.getElem?_of_mem hs
        exact (hxs i s hi).1
end Go.Proofs.YtcocebfipkbkiaaDoor.MSpRow
/- What the rows over batches take: a batch that came in. -/
namespace Go.Proofs.YtcocebfipkbkiaaDoor.BtRow
open Go.Joins Go.ChangeShapes Go.WideShapes Go.RowKit Go.Deep MFrame MSep MSepC MSpM SpA BtA

section
variable {H : Type} {enc : TypeId × Value → H} {P : Program} {w : World} {base : Nat} {spare : Nat → Bool} {held : Bool}
theorem open_agg3 {r : Reach} {b0 : Nat} {t : TypeId} {f0 f1 f2 : Field} {v : Value} {d : DataW H} {p : List MemPlace} (hs : P.underlying t = some (.struct #[f0, f1, f2])) (hone : oneCellFields P #[f0, f1, f2] = true) (hC : P.cellsOf t = 3)
    (hv : Value.okWide P w r b0 t v) (h : DataW.Trod enc P w base spare held t v d p) :
    ∃ (v0 v1 v2 : Value) (y0 y1 y2 : DataW H × List MemPlace) (n : Nat), v = .agg #[v0, v1, v2] ∧
      DataW.trod enc P w base spare held n f0.type [v0] = some y0 ∧ DataW.trod enc P w base spare held n f1.type [v1] = some y1 ∧ DataW.trod enc P w base spare held n f2.type [v2] = some y2 := by
  obtain ⟨cs, rfl, hsz⟩ := okWide_struct hs hv
  obtain ⟨l⟩ := cs
  match l, hsz.trans hC with
  | [c0, c1, c2], _ =>
    obtain ⟨fuel, hf⟩ := h
    obtain ⟨xs, n, _, hx, _, hlen, hg⟩ := DataW.trod_struct hs hf
    obtain ⟨o0, k0⟩ := hone_of hone 0 f0 rfl
    obtain ⟨o1, k1⟩ := hone_of hone 1 f1 rfl
    obtain ⟨o2, k2⟩ := hone_of hone 2 f2 rfl
    match xs, hlen with
    | [y0, y1, y2], _ =>
      exact ⟨c0, c1, c2, y0, y1, y2, n, rfl, by simpa [Value.cells, o0, k0] using hg 0 f0 rfl, by simpa [Value.cells, o1, k1] using hg 1 f1 rfl, by simpa [Value.cells, o2, k2] using hg 2 f2 rfl⟩
end

set_option maxRecDepth 100000 in
theorem spans_in {H : Type} {enc : TypeId × Value → H} {w : World} {base fuel : Nat} {spare : Nat → Bool} {held : Bool} {u : Value} {y : DataW H × List MemPlace} (hsp : ∀ b, spare b = true)
    (hf : DataW.trod enc Tryd.prog w base spare held fuel 24 [u] = some y) : ∃ A l c xs, u = .slice A l c ∧ RdS w A l xs ∧ (∀ s ∈ xs, wf s) ∧ l ≤ c ∧ c ≤ maxLen := by
  have hu : ∃ A l c, u = .slice A l c := by
    rcases open_slice_fields Tryd.underlying24 Tryd.underlying53 (by kernel_rfl) (by kernel_rfl) hf with ⟨hcs, _⟩ | ⟨a, l, c, m, D, Pl, hcs, _⟩
    · exact ⟨none, 0, 0, by simpa using hcs⟩
    · exact ⟨some a, l, c, by simpa using hcs⟩
  obtain ⟨A, l, c, rfl⟩ := hu
  obtain ⟨xs, h⟩ := MSpRow.spans_open (d := y.1) (p := y.2) hsp ⟨fuel, by simpa [Value.cells] using hf⟩
  exact ⟨A, l, c, xs, rfl, h⟩
set_option maxRecDepth 100000 in
theorem batch_open {H : Type} {enc : TypeId × Value → H} {w : World} {base b0 : Nat} {r : Reach} {spare : Nat → Bool} {held : Bool} {v : Value} {d : DataW H} {p : List MemPlace} (hsp : ∀ b, spare b = true)
    (hv : Value.okWide Tryd.prog w r b0 26 v) (h : DataW.Trod enc Tryd.prog w base spare held 26 v d p) : ∃ q k A l c xs, v = bv q k A l c ∧ RdS w A l xs ∧ (∀ s ∈ xs, wf s) ∧ l ≤ c ∧ c ≤ maxLen := by
  obtain ⟨v0, v1, v2, y0, y1, y2, n, rfl, h0, h1, h2⟩ := open_agg3 Tryd.underlying26 (by kernel_rfl) (by kernel_rfl) hv h
  obtain ⟨a0, e0, _, _⟩ := DataW.trod_int Tryd.underlying3 h0
  obtain ⟨a1, e1, _, _⟩ := DataW.trod_int Tryd.underlying3 h1
  obtain ⟨A, l, c, xs, rfl, hx, hw, hl, hc⟩ := spans_in hsp h2
  simp at e0 e1
  subst e0 e1
  exact ⟨a0, a1, A, l, c, xs, rfl, hx, hw, hl, hc⟩
end Go.Proofs.YtcocebfipkbkiaaDoor.BtRow
/- The frame of the rows of package crc's laws: what the listed table gives. -/
namespace Go.Proofs.YtcocebfipkbkiaaDoor.CrcK
open Go.Joins Go.ChangeShapes Go.WideShapes Go.ChangeAt Go.RowKit Go.Deep MSep MFrame CrcM CrcA

def LD : List (String × DataW Unit) := [("thatch/crc.nibbles", Rows.laid_thatch_crc_nibbles)]
theorem gNib : Tryd.prog.globalNamed "thatch/crc.nibbles" = some 0 := by kernel_rfl
theorem tNib : (Tryd.prog.globals[0]?).map (·.type) = some 126 := by kernel_rfl

theorem door_met (os : Os) (args : Array Value) : laidMetH Tryd.prog LD ((World.doorLaid Tryd.prog 400 os).forCall (fun _ _ => 0) ⟨#[], args, []⟩).memory := by
  rw [MakeChecks.laidMetH_plain _ _ _ (by kernel_rfl)]
  exact laidMet_of_run' 8 (by kernel_rfl) (by kernel_rfl)

theorem tab_of_laid {W : World} (h : laidMetH Tryd.prog LD W) : TabAt W := by
  rw [MakeChecks.laidMetH_plain _ _ _ (by kernel_rfl)] at h
  obtain ⟨ps, ⟨g0, t0, cs0, f0, p0, q0, hg0, ht0, hv0, hd0, _⟩, _⟩ := h
  obtain rfl := Option.some.inj (gNib.symm.trans hg0)
  obtain rfl := Option.some.inj (tNib.symm.trans ht0)
  obtain ⟨xs, m1, rfl, hx1, hlen, hn3, hel⟩ := DataW.trod_array Tryd.underlying126 hd0
  have c1 : Tryd.prog.cellsOf 42 = 1 := by kernel_rfl
  intro i x hi
  have hi16 : i < 16 := by
    have := (List.getElem?_eq_some_iff.1 hi).1
    exact this
  have h0 := hel i hi16
  have hxi : xs[i]? = some (xs[i]'(by omega)) := List.getElem?_eq_getElem (by omega)
  rw [hxi] at h0
  obtain ⟨k, e1, e2, _⟩ := DataW.trod_int Tryd.underlying42 h0
  rw [c1, Nat.mul_one] at e1
  have hk : (xs.map (·.1))[i]? = some (.lit (.int .u32 k)) := by rw [List.getElem?_map, hxi, e2]; rfl
  simp only [Prod.mk.injEq] at hx1
  have hl : (.agg (xs.map (·.1)) : DataW _) = Rows.laid_thatch_crc_nibbles := hx1.1.symm
  rw [show Rows.laid_thatch_crc_nibbles = (.agg (tab.map fun (x : Nat) => DataW.lit (.int .u32 x)) : DataW _) from rfl, DataW.agg.injEq] at hl
  rw [hl, List.getElem?_map, hi] at hk
  have hkx : (x : Int) = k := by simpa using hk
  have hc : cs0.toList[i]? = some (.int .u32 x) := by
    have := congrArg (fun l => l[0]?) e1
    rw [hkx]
    simpa using this
  have := World.var?_cell hg0 hv0 i
  rw [this]
  simpa using hc
end Go.Proofs.YtcocebfipkbkiaaDoor.CrcK
/- BatchSame (P16.1), proved for every input. Conditions: the table is as the program's text lays it, which the card ties; what comes in is no longer than the form's reach. -/
namespace Go.Proofs.YtcocebfipkbkiaaDoor.BatchSameP
open Go.Joins Go.ChangeShapes Go.WideShapes Go.ChangeAt Go.RowKit Go.Deep MSep MFrame CrcA CrcK

set_option maxRecDepth 100000 in
set_option maxHeartbeats 2000000 in
theorem lifted (os : Os) (started : os.Started) (H : Type) (enc : TypeId × Value → H) :
    ReturnsInHanded {} Tryd.checked os 7 .any (fun w args => (Rows.batchSameSpec.pre enc Tryd.prog Tryd.f7 [] false w args ∧ laidMetH Tryd.prog LD w) ∧ sizedMet enc Tryd.prog Tryd.f7 (OpenSpec.ofChange Rows.batchSameSpec) false w args)
      (Rows.batchSameSpec.post enc Tryd.prog Tryd.f7 false true false false) := by
  refine returnsInHanded_of_change_and (C := Tryd.checked) (X := fun w _ => laidMetH Tryd.prog LD w) (fun _ _ _ hh h => h.of_heap hh) own started (by kernel_rfl) Tryd.func7
    (ChangeSpec.witness_shaped (enc := enc) (C := Tryd.checked) (os := os) (X := fun w _ => laidMetH Tryd.prog LD w) false (World.doorLaid Tryd.prog 400 os) #[.agg #[.int .i64 0, .int .i64 0, .slice none 0 0], .agg #[.int .i64 0, .int .i64 0, .slice none 0 0]] 8 rfl (World.shaped_of_RefB (by kernel_rfl) (by kernel_rfl)) (by kernel_rfl) (by kernel_rfl) (by kernel_rfl) (door_met os _)) ?_
  intro W base args ds gs before hval0 hW _ _ hL _
  have hval : ∀ (j : Nat) t v, Tryd.f7.params[j]? = some t → args[j]? = some v → Value.okWide Tryd.prog W .any base t v := hval0
  have hW' := hW
  obtain ⟨p, q, hA0, hV, rfl, hfz, hnd⟩ := hW
  have hA : DataW.TrodAll enc Tryd.prog W 0 (fun _ => true) true Tryd.f7.params.toList args.toList ds p := hA0
  rw [Tryd.params7] at hA hval
  obtain ⟨v0, vs0, d0, ds0, p0, q0, hargs, rfl, rfl, h0, r0⟩ := trodAll_cons hA
  obtain ⟨v1, vs1, d1, ds1, p1, q1, rfl, rfl, rfl, h1, r1⟩ := trodAll_cons r0
  obtain ⟨rfl, rfl, rfl⟩ := trodAll_nil r1
  obtain rfl : args = #[v0, v1] := by cases args; simp_all
  obtain ⟨rfl, rfl⟩ := trodVars_none hV
  have k0 := h0
  have lt0 : ∀ x ∈ p0, x.block < W.heap.size := by obtain ⟨m, hm⟩ := k0; exact DataW.trod_lt m _ _ _ hm
  obtain ⟨bq0, bk0, A0, l0, c0, x0, rfl, rx0, wx0, le0, ce0⟩ := BtRow.batch_open (fun _ => rfl) (hval 0 26 v0 rfl rfl) h0
  have k1 := h1
  have lt1 : ∀ x ∈ p1, x.block < W.heap.size := by obtain ⟨m, hm⟩ := k1; exact DataW.trod_lt m _ _ _ hm
  obtain ⟨bq1, bk1, A1, l1, c1, x1, rfl, rx1, wx1, le1, ce1⟩ := BtRow.batch_open (fun _ => rfl) (hval 1 26 v1 rfl rfl) h1
  clear hA0 hval0
  refine (BtU.same_card bq0 bk0 A0 l0 c0 x0 bq1 bk1 A1 l1 c1 x1 W (Nat.le_trans le0 ce0) le0 rx0 wx0 (Nat.le_trans le1 ce1) le1 rx1 wx1 (tab_of_laid hL)).mono fun e W' ⟨he, fr⟩ => ?_
  have bel : Below W.heap.size W W' := fr.below (Nat.le_refl _) (fun _ h => h.elim)
  subst he
  exact ⟨_, rfl, _, _, _, [], _, [], hW', trodAll_mk1 (shut_bool Tryd.underlying4 _), (trodAll_cons_mk (Below.trod laidOut (by kernel_rfl) (of_decide_eq_true (by kernel_rfl)) k0 bel lt0) (trodAll_cons_mk (Below.trod laidOut (by kernel_rfl) (of_decide_eq_true (by kernel_rfl)) k1 bel lt1) trodAll_mk0)), rfl, bel.frame _, fun h => by cases h⟩

theorem over : Rows.batchSameRow.holds Tryd.pinned (OpenSpec.ofChange Rows.batchSameSpec) :=
  OpenClaim.holds_of_wide 7 Tryd.f7 rfl rfl rfl rfl rfl rfl rfl ⟨rfl, rfl, rfl, rfl, rfl⟩ rfl rfl rfl rfl rfl (by kernel_rfl) Tryd.func7 (by kernel_rfl)
    (of_decide_eq_true (by kernel_rfl)) (by unfold Func.isWrapper; first | (rw [if_pos (by decide +kernel)]; kernel_rfl) | (rw [if_neg (by decide +kernel)]; exact ⟨rfl, rfl⟩))
    (fun os started H enc _ => lifted os started H enc)

theorem proved : Rows.BatchSameCardSaid :=
  Claim7.holds_tied_plain_at .later [] [.data] true Rows.batchSameCard.stood.harness false
    over (fun _ h => by cases h) (by kernel_rfl) (fun _ h => by cases h) batchSame_row_tie rfl ⟨rfl, rfl⟩ (by kernel_rfl) rfl
    (fun f fn hf hfn => by
      obtain rfl : f = 7 := Option.some.inj ((show Tryd.prog.funcNamed "thatch/thatchlaw16.BatchSame" = some 7 by kernel_rfl).symm.trans hf) |>.symm
      obtain rfl : fn = Tryd.f7 := (Option.some.inj (Tryd.func7.symm.trans hfn)).symm
      exact ⟨by kernel_rfl, fun j t ht => by
        rw [Tryd.params7] at ht
        have hm : t ∈ [26, 26] := by simpa using Array.mem_of_getElem? ht
        have hall : ([26, 26].all fun u => !Tryd.prog.wantsStandIn u) = true := by kernel_rfl
        exact (show Tryd.prog.wantsStandIn t = false by simpa using List.all_eq_true.1 hall t hm)⟩)
    (by kernel_rfl)
#print axioms proved
end Go.Proofs.YtcocebfipkbkiaaDoor.BatchSameP
