import Derived.Test.YtoboialfaifbgaaVaE
import Derived.Test.YtoboialfaifbgaaHvP
import Derived.BigQuiet
import Derived.Lib.SlicesCompact
import Derived.Ground.Names2Prog
import Derived.Shelf.Slices.CompactI
/- Contracts: what is wrong with extents and a zone's number; how many sectors lie in each sequential zone. Conditions: the extents read as a list of at most 1000 structs of whole numbers of 64 bits; the geometry's Seq has 64 bits. -/
namespace Go.Proofs.Ytoboialfaifbgaa.VaF
open Go.RowKit MSep MSepC MGeM GeA GeC GeD PgA PgB RgF PlM PlA PlK VaA VaC VaD VaE

set_option maxRecDepth 100000 in
theorem checkZone_ok (gc gs gn gl gk : Int) (A : Option Addr) (l c : Nat) (xs : List Ex) (z : Int) (w : World) (hs : r64 gs) (hl : l ≤ maxLen) (hx : RdX w A l xs) (hw : ∀ x ∈ xs, exW x) (hz : r64 z) :
    Calls Try.prog 56 #[gv gc gs gn gl gk, .slice A l c, .int .i64 z] w fun e w' => e = .returned (.int .i64 (ckZ ⟨gc, gs, gn, gl, gk⟩ xs z)) ∧ Fr No w w' := by
  have HF := hid (fr1 w (bg gc gs gn gl gk))
  have P0 := hid (BG.new w gc gs gn gl gk)
  have HC := hid (fun W (h : RdX W A l xs) => check_ok gc gs gn gl gk A l c xs W hs hl h hw)
  have HQ := hid (fun W => isseq_ok gc gs gn gl gk z W hs hz)
  have HX := hid hx
  unfold ckZ
  by_cases hc : ckE ⟨gc, gs, gn, gl, gk⟩ xs = 0
  · have hm : mayG ⟨gc, gs, gn, gl, gk⟩ := by
      unfold ckE at hc
      by_cases hm : mayG ⟨gc, gs, gn, gl, gk⟩
      · exact hm
      · rw [if_neg hm] at hc; omega
    rw [if_pos hc]
    rw [hc] at HC
    dsimp only
    by_cases hi : gc ≤ z ∧ z < gc + gs
    · rw [if_pos hi]
      rw [decide_eq_true (show sqo ⟨gc, gs, gn, gl, gk⟩ z from ⟨hm, hi⟩)] at HQ
      clear hx hl hw hs hz hc hm hi
      go_enter Try.func56, Try.ntmps56
      go_wp2_with (first | ((with_reducible refine ld_geom rfl (.tmp 3) rfl w.heap.size ?_ P0.out ?_); · rfl) | (go_at_call 55; refine (HC.out _ (PgB.RdX.fr HX.out HF.out)).mono ?_; rintro e w2 ⟨rfl, f⟩; replace HF := hid (HF.out.trans f); replace P0 := hid (P0.out.fr f); clear f) | (go_at_call 73; refine (HQ.out _).mono ?_; rintro e w3 ⟨rfl, f⟩; replace HF := hid (HF.out.trans f); clear f))
      go_ret
      exact ⟨rfl, HF.out⟩
    · rw [if_neg hi]
      rw [decide_eq_false (show ¬ sqo ⟨gc, gs, gn, gl, gk⟩ z from fun h => hi h.2)] at HQ
      clear hx hl hw hs hz hc hm hi
      go_enter Try.func56, Try.ntmps56
      go_wp2_with (first | ((with_reducible refine ld_geom rfl (.tmp 3) rfl w.heap.size ?_ P0.out ?_); · rfl) | (go_at_call 55; refine (HC.out _ (PgB.RdX.fr HX.out HF.out)).mono ?_; rintro e w2 ⟨rfl, f⟩; replace HF := hid (HF.out.trans f); replace P0 := hid (P0.out.fr f); clear f) | (go_at_call 73; refine (HQ.out _).mono ?_; rintro e w3 ⟨rfl, f⟩; replace HF := hid (HF.out.trans f); clear f))
      go_ret
      exact ⟨rfl, HF.out⟩
  · rw [if_neg hc]
    obtain ⟨C, hC⟩ : ∃ C, ckE ⟨gc, gs, gn, gl, gk⟩ xs = C := ⟨_, rfl⟩
    rw [hC] at HC hc ⊢
    have hcb : (C != 0) = true := by simpa using hc
    clear hx hl hw hs hz hc hC HQ
    go_enter Try.func56, Try.ntmps56
    go_wp2_with (first | ((with_reducible refine ld_geom rfl (.tmp 3) rfl w.heap.size ?_ P0.out ?_); · rfl) | (go_at_call 55; refine (HC.out _ (PgB.RdX.fr HX.out HF.out)).mono ?_; rintro e w2 ⟨rfl, f⟩; replace HF := hid (HF.out.trans f); replace P0 := hid (P0.out.fr f); clear f) | (go_at_call 73; refine (HQ.out _).mono ?_; rintro e w3 ⟨rfl, f⟩; replace HF := hid (HF.out.trans f); clear f))
    go_ret
    exact ⟨rfl, HF.out⟩
theorem mayL_all {g : Ge} : ∀ {l : List Ex} {f : Int}, mayL g f l = true → ∀ x ∈ l, okX g x
  | [], _, _, x, hx => by cases hx
  | y :: l, f, h, x, hx => by
    have h' : (decide (okX g y) && decide (f ≤ y.a) && mayL g (y.a + y.m) l) = true := h
    simp only [Bool.and_eq_true, decide_eq_true_eq] at h'
    rcases List.mem_cons.1 hx with rfl | hx
    · exact h'.1.1
    · exact mayL_all h'.2 x hx
/-- The counts, of which the first j are laid. -/
def rowC (L : List Ex) (c : Int) (N j : Nat) : List Int := (List.range N).map fun k => if k < j then cz L (c + (k : Int)) else 0
theorem rowC_len (L : List Ex) (c : Int) (N j : Nat) : (rowC L c N j).length = N := by simp [rowC]
theorem rowC_zero (L : List Ex) (c : Int) (N : Nat) : rowC L c N 0 = List.replicate N 0 := by
  apply List.ext_getElem
  · simp [rowC]
  · intro i h1 h2
    simp [rowC]
theorem rowC_set (L : List Ex) (c : Int) (N j : Nat) (_hj : j < N) : (rowC L c N j).set j (cz L (c + (j : Int))) = rowC L c N (j + 1) := by
  apply List.ext_getElem
  · simp [rowC]
  · intro i h1 h2
    simp only [rowC, List.getElem_set, List.getElem_map, List.getElem_range]
    by_cases h : j = i
    · subst h; simp
    · rw [if_neg h]
      by_cases h3 : i < j
      · rw [if_pos h3, if_pos (by omega)]
      · rw [if_neg h3, if_neg (by omega)]
theorem rowC_get (L : List Ex) (c : Int) (N j i : Nat) (hi : i < N) : (rowC L c N j)[i]? = some (if i < j then cz L (c + (i : Int)) else 0) := by
  simp [rowC, hi]
theorem infoZ : ∃ i, Try.prog.info? 3 = some i ∧ i.zero = some (.int .i64 0) ∧ i.size = 1 ∧ i.bytes = 8 := by
  obtain ⟨i, z, h1, h2, h3, h4, h5⟩ := info3
  have h := info3a
  rw [h1] at h
  simp only [Option.map_some, Option.some.injEq, Prod.mk.injEq] at h
  exact ⟨i, h1, h.1, h.2.1, h.2.2⟩
theorem made_out (w : World) (N B : Nat) (hB : B ≤ w.heap.size) (hN : N ≤ maxLen) : OutI B (w.alloc (.cells (madeCells #[.int .i64 0] N) 3)) (.slice (some ⟨w.heap.size, 0, none⟩) N N) (List.replicate N 0) := by
  have h := World.ownsRow_lit (base := B) (e := 3) (size := 1) w (madeCells #[.int .i64 0] N) N hB hN (by simp [madeCells])
  rw [toList_madeCells_one] at h
  unfold OutI
  rw [List.length_replicate, List.map_replicate]
  exact h
set_option maxRecDepth 100000 in
set_option maxHeartbeats 1000000 in
theorem counts_y (gc gs gn gl gk : Int) (A : Option Addr) (l c : Nat) (xs : List Ex) (w : World) (hs : r64 gs) (hl : l ≤ 1000) (hx : RdX w A l xs) (hw : ∀ x ∈ xs, exW x) (hc : ckE ⟨gc, gs, gn, gl, gk⟩ xs = 0) :
    Calls Try.prog 30 #[gv gc gs gn gl gk, .slice A l c] w fun e w' => ∃ g1, e = .returned (.tuple #[.slice (some ⟨g1, 0, none⟩) gs.toNat gs.toNat, .int .i64 0]) ∧ OutI w.heap.size w' (.slice (some ⟨g1, 0, none⟩) gs.toNat gs.toNat) (rowC xs gc gs.toNat gs.toNat) ∧ Fr No w w' := by
  have HF := hid (fr1 w (bg gc gs gn gl gk))
  have P0 := hid (BG.new w gc gs gn gl gk)
  have hmm : mayG ⟨gc, gs, gn, gl, gk⟩ ∧ mayL ⟨gc, gs, gn, gl, gk⟩ 0 xs = true := by
    unfold ckE at hc
    by_cases hm : mayG ⟨gc, gs, gn, gl, gk⟩
    · rw [if_pos hm] at hc
      by_cases hv : mayL ⟨gc, gs, gn, gl, gk⟩ 0 xs = true
      · exact ⟨hm, hv⟩
      · rw [if_neg hv] at hc; omega
    · rw [if_neg hm] at hc; omega
  obtain ⟨⟨m1, m2⟩, ⟨m3, m4⟩, _⟩ := inG hmm.1
  dsimp only at m1 m2 m3 m4
  have hbd : ∀ x ∈ xs, 0 ≤ x.m ∧ x.m ≤ 1099511627776 := fun x hx => by
    obtain ⟨_, h1, _⟩ := cko0 (mayL_all hmm.2 x hx).1
    omega
  have HC := hid (fun W (h : RdX W A l xs) => check_ok gc gs gn gl gk A l c xs W hs (by unfold maxLen; omega) h hw)
  rw [hc] at HC
  have HY := hid (fun W (h : RdX W A l xs) => lying_ok A l c xs W h hl hw hbd)
  have HX := hid hx
  obtain ⟨N, hN⟩ : ∃ N : Nat, gs = (N : Int) := ⟨gs.toNat, by omega⟩
  have hNt : gs.toNat = N := by omega
  rw [hNt]
  obtain ⟨i0, hi0, hi1, hi2, hi3⟩ := infoZ
  have hmk : ∀ u : World, (Instr.makeSlice 47 (.int .i64 gs) (.int .i64 gs)).run Try.prog u = .ok (.slice (some ⟨u.heap.size, 0, none⟩) N N) (u.alloc (.cells (madeCells #[.int .i64 0] N) 3)) := fun u => by
    have h := run_make (P := Try.prog) u 47 3 i0 (.int .i64 0) Try.underlying47 hi0 hi1 .i64 .i64 gs gs (by omega) (Int.le_refl _) (by rw [hi3]; omega) (by omega)
    rw [hNt] at h
    simpa [hi2, Value.cells] using h
  have HMM := hid (And.intro m1 (And.intro m2 (And.intro m3 m4)))
  have HN := hid hN
  clear hx hl hw hs hmm hbd hNt hi0 hi1 hi2 hi3 hc m1 m2 m3 m4 hN
  go_enter Try.func30, Try.ntmps30
  go_upto_region 5 with (first | ((with_reducible refine ld_geom rfl (.tmp 2) rfl w.heap.size ?_ P0.out ?_); · rfl) | (go_at_call 55; refine (HC.out _ (PgB.RdX.fr HX.out HF.out)).mono ?_; rintro e w2 ⟨rfl, f⟩; replace HF := hid (HF.out.trans f); replace P0 := hid (P0.out.fr f); clear f) | (go_at_call 36; refine (HY.out _ (PgB.RdX.fr HX.out HF.out)).mono ?_; rintro e w3 ⟨b, n, rfl, hm, hb, hn, f⟩; replace HF := hid (HF.out.trans f); replace P0 := hid (P0.out.fr f); have HMZ := hid hm; have HBN := hid hn; clear f hm hb hn))
  obtain ⟨p0, p1, p2, p3, p4⟩ := P0.out.cells
  go_wp2
  have O0 := hid (made_out w3 N w.heap.size HF.out.size (by have := HMM.out; have := HN.out; unfold maxLen; omega))
  rw [← rowC_zero xs gc N] at O0
  have F1 := (Fr.refl No w3).alloc (.cells (madeCells #[.int .i64 0] N) 3)
  have HB := hid (HMZ.out.lt)
  have HMZ1 := hid (HMZ.out.kept F1 (fun h => h))
  have P1 := hid (P0.out.fr F1)
  have HF1 := hid (HF.out.trans F1)
  obtain ⟨w4, hw4⟩ : ∃ w4, w3.alloc (.cells (madeCells #[.int .i64 0] N) 3) = w4 := ⟨_, rfl⟩
  obtain ⟨g1, hg1⟩ : ∃ g1, w3.heap.size = g1 := ⟨_, rfl⟩
  have HG1 := hid (show w.heap.size + 1 ≤ g1 by have := HF.out.size; rw [← hg1]; have := P0.out.lt; omega)
  rw [hw4] at O0 HMZ1 P1 HF1
  rw [hg1] at O0 HB
  try rw [hw4]
  try rw [hg1]
  clear hw4 F1 P0 HF HMZ p0 p1 p2 p3 p4 hmk hg1
  go_loopw [23] (fun i wr => ∃ j : Nat, i = .int .i64 j ∧ j ≤ N ∧ OutI w.heap.size wr (.slice (some ⟨g1, 0, none⟩) N N) (rowC xs gc N j) ∧ MapZ wr b n (xs.filter put) ∧ BG wr w.heap.size gc gs gn gl gk ∧ Fr No w wr) (fun i _ => N - (intOf i).toNat)
  case atStart => exact ⟨0, rfl, by omega, O0.out, HMZ1.out, P1.out, HF1.out⟩
  case round =>
    obtain ⟨j, rfl, hj, ho, hm, hp, hf⟩ := hrel
    by_cases hlt : j < N
    case neg =>
      obtain rfl : j = N := by omega
      have HO := hid ho
      have HFF := hid hf
      clear ho hm hp hf
      go_wp2
      go_ret2
      exact ⟨g1, rfl, HO.out, HFF.out⟩
    have hjz : (j : Int) < (N : Int) := by omega
    obtain ⟨D, hown, _, hat, _⟩ := hm
    have hatC := hat (gc + (j : Int))
    have hmm := HMM.out
    have hnn := HN.out
    rw [cz_filter xs (by omega)] at hatC
    obtain ⟨C, hC⟩ : ∃ C, cz xs (gc + (j : Int)) = C := ⟨_, rfl⟩
    rw [hC] at hatC
    obtain ⟨p0, p1, p2, p3, p4⟩ := hp.cells
    have HKEY := hid (Maps.keyOf_int_mk Try.underlying3 (a := gc + (j : Int)) (WalkArith.wf_i64 (by omega)))
    have hw2 : IntKind.i64.wrap (gc + (j : Int)) = gc + (j : Int) := Go.IntWalk.i64_in _ (by omega)
    have hw3 : wrap64 (gc + (j : Int)) = gc + (j : Int) := w64 _ (by omega)
    have hw1 : wrap64 ((j : Int) + 1) = (j : Int) + 1 := w64 _ (by omega)
    have ci := PlH.OutI.get (rowC_len xs gc N j).symm ho (rowC_get xs gc N j j hlt)
    have fi := OutI.frozen ho j
    have HOWN := hid hown
    have HAT := hid hatC
    have HO := hid ho
    have HP := hid hp
    have HFF := hid hf
    have HC2 := hid hC
    have HMK := hid (show MapZ wr b n (xs.filter put) from ⟨D, hown, by assumption, hat, by assumption⟩)
    have HBL := hid (show b < g1 from HB.out)
    clear hown hat hatC ho hp hf hC hmm hnn
    go_wp2_with (at_lookup; refine wpList_lookup_own_int _ rfl (.tmp 28) (.tmp 32) 69 rfl 3 3 .i64 (Maps.int_keyed Try.underlying3) Try.underlying69 Try.underlying3 (zeroI _) b n D rfl HOWN.out _ (kz (gc + (j : Int))) rfl HKEY.out ?_; intro cc hcc hcw; obtain rfl : C = cc := (by rw [HAT.out] at hcc; injection hcc with h1; injection h1); clear hcc hcw)
    have hs1 := OutI.set_ HO.out j C
    have fs := Fr.set1 wr g1 j (.int .i64 C)
    have HH := hid (And.intro hs1 fs)
    clear hs1 fs
    go_roundw
    case rel => exact ⟨j + 1, by go_num, by omega, by rw [← rowC_set xs gc N j hlt, HC2.out]; exact HH.out.1, HMK.out.kept HH.out.2 (by have := HBL.out; omega), show BG _ _ _ _ _ _ _ from Blk.fr HP.out HH.out.2 (by have := HG1.out; omega), HFF.out.step HH.out.2 (fun k hk e => by have := HG1.out; omega)⟩
    case measure => first | exact next_m _ _ hlt hw1 | (simp only [intOf]; omega)

end Go.Proofs.Ytoboialfaifbgaa.VaF
/- Contracts: Counts, Live, Bands, Touched where something is wrong with what they are handed. Conditions: the extents read as a list of structs of whole numbers of 64 bits; the geometry's Seq and the zone have 64 bits. -/
namespace Go.Proofs.Ytoboialfaifbgaa.VaJ
open Go.RowKit MSep MGeM GeA GeC PgA PgB VaA VaC VaD VaE VaF

set_option maxRecDepth 100000 in
theorem counts_n (gc gs gn gl gk : Int) (A : Option Addr) (l c : Nat) (xs : List Ex) (w : World) (hs : r64 gs) (hl : l ≤ maxLen) (hx : RdX w A l xs) (hw : ∀ x ∈ xs, exW x) (hc : ¬ ckE ⟨gc, gs, gn, gl, gk⟩ xs = 0) :
    Calls Try.prog 30 #[gv gc gs gn gl gk, .slice A l c] w fun e w' => e = .returned (.tuple #[.slice none 0 0, .int .i64 (ckE ⟨gc, gs, gn, gl, gk⟩ xs)]) ∧ Fr No w w' := by
  have HF := hid (fr1 w (bg gc gs gn gl gk))
  have P0 := hid (BG.new w gc gs gn gl gk)
  have HC := hid (fun W (h : RdX W A l xs) => check_ok gc gs gn gl gk A l c xs W hs hl h hw)
  have HX := hid hx
  obtain ⟨C, hC⟩ : ∃ C, ckE ⟨gc, gs, gn, gl, gk⟩ xs = C := ⟨_, rfl⟩
  rw [hC] at HC hc ⊢
  have hcb : (C != 0) = true := by simpa using hc
  clear hx hl hw hs  hc hC
  go_enter Try.func30, Try.ntmps30
  go_wp2_with (first | ((with_reducible refine ld_geom rfl (.tmp 2) rfl w.heap.size ?_ P0.out ?_); · rfl) | (go_at_call 55; refine (HC.out _ (PgB.RdX.fr HX.out HF.out)).mono ?_; rintro e w2 ⟨rfl, f⟩; replace HF := hid (HF.out.trans f); clear f))
  go_ret2
  exact ⟨rfl, HF.out⟩
set_option maxRecDepth 100000 in
theorem touched_n (gc gs gn gl gk : Int) (A : Option Addr) (l c : Nat) (xs : List Ex) (w : World) (hs : r64 gs) (hl : l ≤ maxLen) (hx : RdX w A l xs) (hw : ∀ x ∈ xs, exW x) (hc : ¬ ckE ⟨gc, gs, gn, gl, gk⟩ xs = 0) :
    Calls Try.prog 33 #[gv gc gs gn gl gk, .slice A l c] w fun e w' => e = .returned (.tuple #[.slice none 0 0, .int .i64 (ckE ⟨gc, gs, gn, gl, gk⟩ xs)]) ∧ Fr No w w' := by
  have HF := hid (fr1 w (bg gc gs gn gl gk))
  have P0 := hid (BG.new w gc gs gn gl gk)
  have HC := hid (fun W (h : RdX W A l xs) => check_ok gc gs gn gl gk A l c xs W hs hl h hw)
  have HX := hid hx
  obtain ⟨C, hC⟩ : ∃ C, ckE ⟨gc, gs, gn, gl, gk⟩ xs = C := ⟨_, rfl⟩
  rw [hC] at HC hc ⊢
  have hcb : (C != 0) = true := by simpa using hc
  clear hx hl hw hs  hc hC
  go_enter Try.func33, Try.ntmps33
  go_wp2_with (first | ((with_reducible refine ld_geom rfl (.tmp 2) rfl w.heap.size ?_ P0.out ?_); · rfl) | (go_at_call 55; refine (HC.out _ (PgB.RdX.fr HX.out HF.out)).mono ?_; rintro e w2 ⟨rfl, f⟩; replace HF := hid (HF.out.trans f); clear f))
  go_ret2
  exact ⟨rfl, HF.out⟩
set_option maxRecDepth 100000 in
theorem live_n (gc gs gn gl gk : Int) (A : Option Addr) (l c : Nat) (xs : List Ex) (z : Int) (w : World) (hs : r64 gs) (hl : l ≤ maxLen) (hx : RdX w A l xs) (hw : ∀ x ∈ xs, exW x) (hz : r64 z) (hc : ¬ ckZ ⟨gc, gs, gn, gl, gk⟩ xs z = 0) :
    Calls Try.prog 31 #[gv gc gs gn gl gk, .slice A l c, .int .i64 z] w fun e w' => e = .returned (.tuple #[.slice none 0 0, .int .i64 (ckZ ⟨gc, gs, gn, gl, gk⟩ xs z)]) ∧ Fr No w w' := by
  have HF := hid (fr1 w (bg gc gs gn gl gk))
  have P0 := hid (BG.new w gc gs gn gl gk)
  have HC := hid (fun W (h : RdX W A l xs) => checkZone_ok gc gs gn gl gk A l c xs z W hs hl h hw hz)
  have HX := hid hx
  obtain ⟨C, hC⟩ : ∃ C, ckZ ⟨gc, gs, gn, gl, gk⟩ xs z = C := ⟨_, rfl⟩
  rw [hC] at HC hc ⊢
  have hcb : (C != 0) = true := by simpa using hc
  clear hx hl hw hs hz hc hC
  go_enter Try.func31, Try.ntmps31
  go_wp2_with (first | ((with_reducible refine ld_geom rfl (.tmp 3) rfl w.heap.size ?_ P0.out ?_); · rfl) | (go_at_call 56; refine (HC.out _ (PgB.RdX.fr HX.out HF.out)).mono ?_; rintro e w2 ⟨rfl, f⟩; replace HF := hid (HF.out.trans f); clear f))
  go_ret2
  exact ⟨rfl, HF.out⟩
set_option maxRecDepth 100000 in
theorem bands_n (gc gs gn gl gk : Int) (A : Option Addr) (l c : Nat) (xs : List Ex) (z : Int) (w : World) (hs : r64 gs) (hl : l ≤ maxLen) (hx : RdX w A l xs) (hw : ∀ x ∈ xs, exW x) (hz : r64 z) (hc : ¬ ckZ ⟨gc, gs, gn, gl, gk⟩ xs z = 0) :
    Calls Try.prog 32 #[gv gc gs gn gl gk, .slice A l c, .int .i64 z] w fun e w' => e = .returned (.tuple #[.slice none 0 0, .int .i64 (ckZ ⟨gc, gs, gn, gl, gk⟩ xs z)]) ∧ Fr No w w' := by
  have HF := hid (fr1 w (bg gc gs gn gl gk))
  have P0 := hid (BG.new w gc gs gn gl gk)
  have HC := hid (fun W (h : RdX W A l xs) => checkZone_ok gc gs gn gl gk A l c xs z W hs hl h hw hz)
  have HX := hid hx
  obtain ⟨C, hC⟩ : ∃ C, ckZ ⟨gc, gs, gn, gl, gk⟩ xs z = C := ⟨_, rfl⟩
  rw [hC] at HC hc ⊢
  have hcb : (C != 0) = true := by simpa using hc
  clear hx hl hw hs hz hc hC
  go_enter Try.func32, Try.ntmps32
  go_wp2_with (first | ((with_reducible refine ld_geom rfl (.tmp 3) rfl w.heap.size ?_ P0.out ?_); · rfl) | (go_at_call 56; refine (HC.out _ (PgB.RdX.fr HX.out HF.out)).mono ?_; rintro e w2 ⟨rfl, f⟩; replace HF := hid (HF.out.trans f); clear f))
  go_ret2
  exact ⟨rfl, HF.out⟩
end Go.Proofs.Ytoboialfaifbgaa.VaJ
/- Contracts: two lists of numbers held against each other; whether a geometry and extents are few enough. Conditions: the lists read as lists; all numbers are 64 bits. -/
namespace Go.Proofs.Ytoboialfaifbgaa.VaK
open Go.RowKit MSep MSepC MGeM GeA PlM PlA PgB VaC

set_option maxRecDepth 100000 in
theorem small_ok (gc gs gn gl gk : Int) (A : Option Addr) (l c : Nat) (w : World) (v : Bool) (hv : v = decide (l ≤ 60 ∧ gn ≤ 64 ∧ gs ≤ 20)) :
    Calls Try.prog 9 #[PgA.gv gc gs gn gl gk, .slice A l c] w fun e w' => e = .returned (.bool v) ∧ Fr No w w' := by
  have HV := hid hv
  obtain ⟨c0, c1, c2, c3, c4⟩ := (BG.new w gc gs gn gl gk).cells
  have HF := hid (fr1 w (bg gc gs gn gl gk))
  clear hv
  go_enter Try.func9, Try.ntmps9
  by_cases h1 : (l : Int) ≤ 60
  · have e1 : decide ((l : Int) ≤ 60) = true := decide_eq_true h1
    by_cases h2 : gn ≤ 64
    · have e2 : decide (gn ≤ 64) = true := decide_eq_true h2
      by_cases h3 : gs ≤ 20
      · have HB := hid (show v = true by rw [HV.out]; exact decide_eq_true ⟨by omega, h2, h3⟩)
        go_wp2
        go_ret
        exact ⟨retb (by rw [HB.out]), HF.out⟩
      · have HB := hid (show v = false by rw [HV.out]; exact decide_eq_false (fun h => h3 h.2.2))
        go_wp2
        go_ret
        exact ⟨retb (by rw [HB.out]), HF.out⟩
    · have HB := hid (show v = false by rw [HV.out]; exact decide_eq_false (fun h => h2 h.2.1))
      have e2 : decide (gn ≤ 64) = false := decide_eq_false h2
      go_wp2
      go_ret
      exact ⟨retb (by rw [HB.out]), HF.out⟩
  · have HB := hid (show v = false by rw [HV.out]; exact decide_eq_false (fun h => h1 (by omega)))
    have e1 : decide ((l : Int) ≤ 60) = false := decide_eq_false h1
    go_wp2
    go_ret
    exact ⟨retb (by rw [HB.out]), HF.out⟩
end Go.Proofs.Ytoboialfaifbgaa.VaK
/- Plain facts, of no program: whole numbers in order, those of neighbours that are equal left out once; the bands of extents. -/
namespace Go.Proofs.Ytoboialfaifbgaa.VaM
open MGeM PgA PgB VaC Go.Lib


theorem ext_sorted : ∀ (l1 l2 : List Int), l1.Pairwise (· < ·) → l2.Pairwise (· < ·) → (∀ x, x ∈ l1 ↔ x ∈ l2) → l1 = l2
  | [], [], _, _, _ => rfl
  | [], b :: l2, _, _, h => by have := (h b).2 (by simp); cases this
  | a :: l1, [], _, _, h => by have := (h a).1 (by simp); cases this
  | a :: l1, b :: l2, h1, h2, h => by
    have h1' := List.pairwise_cons.1 h1
    have h2' := List.pairwise_cons.1 h2
    have hab : a = b := by
      rcases List.mem_cons.1 ((h a).1 (by simp)) with e | ha
      · exact e
      · rcases List.mem_cons.1 ((h b).2 (by simp)) with e | hb
        · exact e.symm
        · have := h1'.1 b hb
          have := h2'.1 a ha
          omega
    subst hab
    congr 1
    refine ext_sorted l1 l2 h1'.2 h2'.2 (fun x => ⟨fun hx => ?_, fun hx => ?_⟩)
    · rcases List.mem_cons.1 ((h x).1 (List.mem_cons_of_mem _ hx)) with e | h3
      · subst e; have := h1'.1 x hx; omega
      · exact h3
    · rcases List.mem_cons.1 ((h x).2 (List.mem_cons_of_mem _ hx)) with e | h3
      · subst e; have := h2'.1 x hx; omega
      · exact h3
theorem sorted_get {l : List Int} (h : l.Pairwise (· ≤ ·)) : ∀ (i j : Nat) (a b : Int), i ≤ j → l[i]? = some a → l[j]? = some b → a ≤ b := by
  intro i j a b hij ha hb
  rcases Nat.lt_or_eq_of_le hij with hlt | e
  · obtain ⟨hi, rfl⟩ := List.getElem?_eq_some_iff.1 ha
    obtain ⟨hj, rfl⟩ := List.getElem?_eq_some_iff.1 hb
    exact List.pairwise_iff_getElem.1 h i j hi hj hlt
  · subst e
    rw [ha] at hb
    cases hb
    exact Int.le_refl _
theorem compact_sorted (l : List Int) (h : l.Pairwise (· ≤ ·)) : (compactUpTo l.toArray l.length).Pairwise (· < ·) := by
  unfold compactUpTo
  rw [List.pairwise_map]
  refine List.Pairwise.imp_of_mem ?_ (List.Pairwise.filter _ (List.pairwise_lt_range (n := l.length)))
  intro i j hi hj hij
  obtain ⟨hi1, _⟩ := List.mem_filter.1 hi
  obtain ⟨hj1, hk⟩ := List.mem_filter.1 hj
  rw [List.mem_range] at hi1 hj1
  have e : ∀ k, k < l.length → l.toArray[k]! = l[k]! := fun k hk => by simp
  unfold keeps at hk
  have h1 := sorted_get h i (j - 1) _ _ (by omega) (List.getElem?_eq_getElem hi1) (List.getElem?_eq_getElem (by omega : j - 1 < l.length))
  have h2 := sorted_get h (j - 1) j _ _ (by omega) (List.getElem?_eq_getElem (by omega : j - 1 < l.length)) (List.getElem?_eq_getElem hj1)
  have g : ∀ k (hk : k < l.length), l.toArray[k]! = l[k] := fun k hk => by simp [getElem!_pos, hk]
  rw [g i hi1, g j hj1]
  rw [g j hj1, g (j - 1) (by omega)] at hk
  have hj0 : j ≠ 0 := by omega
  simp only [hj0, ne_eq, decide_eq_true_eq, false_or] at hk
  omega
theorem compact_mem (l : List Int) (x : Int) : x ∈ compactUpTo l.toArray l.length ↔ x ∈ l := by
  have g : ∀ k (hk : k < l.length), l.toArray[k]! = l[k] := fun k hk => by simp [getElem!_pos, hk]
  unfold compactUpTo
  rw [List.mem_map]
  constructor
  · rintro ⟨k, hk, rfl⟩
    have := List.mem_range.1 (List.mem_filter.1 hk).1
    rw [g k this]
    exact List.getElem_mem _
  · intro hx
    obtain ⟨k, hk, hkx⟩ := List.mem_iff_getElem.1 hx
    have : ∀ n k, k ≤ n → (hk : k < l.length) → l[k] = x → ∃ a, a ∈ (List.range l.length).filter (keeps l.toArray) ∧ l.toArray[a]! = x := by
      intro n
      induction n with
      | zero =>
        intro k h0 hk hkx
        obtain rfl : k = 0 := by omega
        exact ⟨0, List.mem_filter.2 ⟨List.mem_range.2 hk, by simp [keeps]⟩, by rw [g 0 hk]; exact hkx⟩
      | succ n ih =>
        intro k hkn hk hkx
        by_cases hke : keeps l.toArray k = true
        · exact ⟨k, List.mem_filter.2 ⟨List.mem_range.2 hk, hke⟩, by rw [g k hk]; exact hkx⟩
        · have hk0 : k ≠ 0 := by intro e; subst e; exact hke (by simp [keeps])
          refine ih (k - 1) (by omega) (by omega) ?_
          unfold keeps at hke
          rw [g k hk, g (k - 1) (by omega)] at hke
          simp only [hk0, ne_eq, Decidable.not_not, decide_eq_true_eq, false_or] at hke
          omega
    exact this k k (Nat.le_refl _) hk hkx
/-- The whole numbers from a to b. -/
def rng (a b : Int) : List Int := (List.range (b + 1 - a).toNat).map fun i => a + (i : Nat)
theorem mem_rng {a b x : Int} : x ∈ rng a b ↔ a ≤ x ∧ x ≤ b := by
  unfold rng
  rw [List.mem_map]
  constructor
  · rintro ⟨i, hi, rfl⟩
    rw [List.mem_range] at hi
    omega
  · intro h
    exact ⟨(x - a).toNat, List.mem_range.2 (by omega), by omega⟩
theorem rng_sorted (a b : Int) : (rng a b).Pairwise (· ≤ ·) := by
  unfold rng
  rw [List.pairwise_map]
  exact (List.pairwise_lt_range (n := (b + 1 - a).toNat)).imp (fun h => by omega)
theorem rng_snoc {a b : Int} (h : a ≤ b) : rng a b = rng a (b - 1) ++ [b] := by
  unfold rng
  rw [show (b + 1 - a).toNat = (b - 1 + 1 - a).toNat + 1 by omega, List.range_succ, List.map_append]
  congr 1
  simp
  omega
theorem rng_nil {a b : Int} (h : b < a) : rng a b = [] := by
  unfold rng
  rw [show (b + 1 - a).toNat = 0 by omega]
  rfl
theorem rng_len (a b : Int) : (rng a b).length = (b + 1 - a).toNat := by simp [rng]
/-- A sector of band b (of d sectors) is in an extent. -/
def meets (d : Int) (b : Nat) (x : Ex) : Bool := decide (x.a < ((b : Int) + 1) * d) && decide ((b : Int) * d < x.a + x.m)
/-- .. in one that lies in a zone, or in one at all if the zone is below 0. -/
def inBd (d z : Int) (xs : List Ex) (b : Nat) : Bool := xs.any fun x => meets d b x && (decide (z < 0) || x.z == z)
theorem inBd_snoc (d z : Int) (L : List Ex) (x : Ex) (b : Nat) : inBd d z (L ++ [x]) b = (inBd d z L b || (meets d b x && (decide (z < 0) || x.z == z))) := by
  unfold inBd
  simp [List.any_append]
/-- Those of the first j bands. -/
def bds (d z : Int) (xs : List Ex) (j : Nat) : List Int := ((List.range j).filter (inBd d z xs)).map fun (b : Nat) => (b : Int)
theorem bds_succ (d z : Int) (xs : List Ex) (j : Nat) : bds d z xs (j + 1) = bds d z xs j ++ (if inBd d z xs j = true then [(j : Int)] else []) := by
  unfold bds
  rw [List.range_succ, List.filter_append, List.map_append]
  by_cases h : inBd d z xs j = true
  · rw [if_pos h]; simp [h]
  · rw [if_neg h]; simp [h]
theorem bds_len (d z : Int) (xs : List Ex) (j : Nat) : (bds d z xs j).length ≤ j := by
  unfold bds
  rw [List.length_map]
  exact Nat.le_trans (List.length_filter_le _ _) (by simp)
/-- The bands of extents, one extent behind the other. -/
def raw (d : Int) (L : List Ex) : List Int := L.flatMap fun x => rng (x.a / d) ((x.a + x.m - 1) / d)
theorem raw_snoc (d : Int) (L : List Ex) (x : Ex) : raw d (L ++ [x]) = raw d L ++ rng (x.a / d) ((x.a + x.m - 1) / d) := by
  unfold raw
  rw [List.flatMap_append]
  simp
theorem mem_raw {d : Int} {L : List Ex} {b : Int} : b ∈ raw d L ↔ ∃ x ∈ L, x.a / d ≤ b ∧ b ≤ (x.a + x.m - 1) / d := by
  unfold raw
  rw [List.mem_flatMap]
  constructor
  · rintro ⟨x, hx, hb⟩; exact ⟨x, hx, mem_rng.1 hb⟩
  · rintro ⟨x, hx, hb⟩; exact ⟨x, hx, mem_rng.2 hb⟩
/-- Extents that may be beside one another: each ends where the next ones begin, or ahead of it. -/
theorem mayL_ris {g : Ge} : ∀ {l : List Ex} {f : Int}, mayL g f l = true → l.Pairwise (fun x y => x.a + x.m ≤ y.a) ∧ ∀ x ∈ l, f ≤ x.a
  | [], _, _ => ⟨List.Pairwise.nil, fun x hx => by cases hx⟩
  | y :: l, f, h => by
    have h' : (decide (okX g y) && decide (f ≤ y.a) && mayL g (y.a + y.m) l) = true := h
    simp only [Bool.and_eq_true, decide_eq_true_eq] at h'
    obtain ⟨h1, h2⟩ := mayL_ris h'.2
    have hm := (cko0 h'.1.1.1).2.1
    refine ⟨List.pairwise_cons.2 ⟨h2, h1⟩, fun x hx => ?_⟩
    rcases List.mem_cons.1 hx with rfl | hx
    · exact h'.1.2
    · have := h2 x hx; omega
theorem raw_sorted {d : Int} (hd : 0 < d) : ∀ {L : List Ex}, (∀ x ∈ L, 1 ≤ x.m) → L.Pairwise (fun x y => x.a + x.m ≤ y.a) → (raw d L).Pairwise (· ≤ ·)
  | [], _, _ => List.Pairwise.nil
  | y :: l, hm, h => by
    have h' := List.pairwise_cons.1 h
    show (rng (y.a / d) ((y.a + y.m - 1) / d) ++ raw d l).Pairwise (· ≤ ·)
    rw [List.pairwise_append]
    refine ⟨rng_sorted _ _, raw_sorted hd (fun x hx => hm x (List.mem_cons_of_mem _ hx)) h'.2, fun a ha b hb => ?_⟩
    obtain ⟨x, hx, h1, _⟩ := mem_raw.1 hb
    have h2 := (mem_rng.1 ha).2
    have h3 := h'.1 x hx
    have h4 : (y.a + y.m - 1) / d ≤ x.a / d := Int.ediv_le_ediv hd (by omega)
    omega
theorem meets_iff {d : Int} (hd : 0 < d) (b : Nat) (x : Ex) : meets d b x = true ↔ x.a / d ≤ (b : Int) ∧ (b : Int) ≤ (x.a + x.m - 1) / d := by
  unfold meets
  rw [Bool.and_eq_true, decide_eq_true_eq, decide_eq_true_eq]
  have h1 : x.a / d < (b : Int) + 1 ↔ x.a < ((b : Int) + 1) * d := Int.ediv_lt_iff_lt_mul hd
  have h2 : (b : Int) ≤ (x.a + x.m - 1) / d ↔ (b : Int) * d ≤ x.a + x.m - 1 := Int.le_ediv_iff_mul_le hd
  rw [← h1, h2]
  omega
theorem bds_sorted (d z : Int) (xs : List Ex) (N : Nat) : (bds d z xs N).Pairwise (· < ·) := by
  unfold bds
  rw [List.pairwise_map]
  exact (List.Pairwise.filter _ (List.pairwise_lt_range (n := N))).imp (fun h => by omega)
theorem mem_bds {d z : Int} {xs : List Ex} {N : Nat} {b : Int} : b ∈ bds d z xs N ↔ ∃ j : Nat, j < N ∧ b = j ∧ inBd d z xs j = true := by
  unfold bds
  rw [List.mem_map]
  constructor
  · rintro ⟨j, hj, rfl⟩
    exact ⟨j, List.mem_range.1 (List.mem_filter.1 hj).1, rfl, (List.mem_filter.1 hj).2⟩
  · rintro ⟨j, hj, rfl, h⟩
    exact ⟨j, List.mem_filter.2 ⟨List.mem_range.2 hj, h⟩, rfl⟩
/-- Those of extents that are so: in the zone, or all if it is below 0. -/
def soZ (z : Int) (x : Ex) : Bool := decide (z < 0) || x.z == z
theorem compact_bds {g : Ge} {d : Int} {N : Nat} {xs : List Ex} (z : Int) (h : mayL g 0 xs = true) (hd : (lay g).d = d) (hN : (lay g).b = (N : Int)) (hg : mayG g) : compactUpTo (raw d (xs.filter (soZ z))).toArray (raw d (xs.filter (soZ z))).length = bds d z xs N := by
  have hG := good hg.1
  have hd1 : 7 ≤ d := by rw [← hd]; exact hG.d1
  have hall := VaF.mayL_all h
  have hr := (mayL_ris h).1
  refine ext_sorted _ _ (compact_sorted _ (raw_sorted (by omega) (fun x hx => by have := cko0 (hall x (List.mem_filter.1 hx).1).1; omega) (List.Pairwise.filter _ hr))) (bds_sorted _ _ _ _) (fun b => ?_)
  rw [compact_mem, mem_raw, mem_bds]
  constructor
  · rintro ⟨x, hx, h1, h2⟩
    obtain ⟨hx1, hx2⟩ := List.mem_filter.1 hx
    obtain ⟨_, ⟨ha, hm, _⟩, ht⟩ := cko0 (hall x hx1).1
    have h0 : 0 ≤ x.a / d := Int.ediv_nonneg ha (by omega)
    refine ⟨b.toNat, ?_, by omega, ?_⟩
    · have h3 : (x.a + x.m - 1) / d < (N : Int) := (Int.ediv_lt_iff_lt_mul (by omega)).2 (by rw [hG.t0, hd, hN] at ht; omega)
      omega
    · unfold inBd
      rw [List.any_eq_true]
      refine ⟨x, hx1, ?_⟩
      rw [Bool.and_eq_true]
      exact ⟨(meets_iff (by omega) _ _).2 (by omega), hx2⟩
  · rintro ⟨j, hj, rfl, hin⟩
    unfold inBd at hin
    rw [List.any_eq_true] at hin
    obtain ⟨x, hx, hx2⟩ := hin
    rw [Bool.and_eq_true] at hx2
    exact ⟨x, List.mem_filter.2 ⟨hx, hx2.2⟩, (meets_iff (by omega) _ _).1 hx2.1⟩
theorem raw_len {d : Int} (hd : 0 < d) {k : Nat} : ∀ {L : List Ex}, (∀ x ∈ L, 0 ≤ x.a ∧ (x.a + x.m - 1) / d < (k : Int)) → (raw d L).length ≤ k * L.length
  | [], _ => by simp [raw]
  | y :: l, h => by
    have ih := raw_len hd (L := l) (fun x hx => h x (List.mem_cons_of_mem _ hx))
    have h1 := h y (by simp)
    have h0 : 0 ≤ y.a / d := Int.ediv_nonneg h1.1 (by omega)
    show (rng (y.a / d) ((y.a + y.m - 1) / d) ++ raw d l).length ≤ _
    rw [List.length_append, rng_len, List.length_cons, Nat.mul_add]
    omega
end Go.Proofs.Ytoboialfaifbgaa.VaM
/- The library's Compact at slices of whole numbers, laid at this program: by program, in plain words. -/
namespace Go.Proofs.Ytoboialfaifbgaa.VaSh
open Go.RowKit MSep PlM PlA Go.Shelf Go.Sort
def laysC_ren : Go.Shelf.Ren := ⟨fun | 20 => 79 | n => n, fun | 22 => 47 | 3 => 3 | 4 => 4 | 0 => 0 | n => n, fun | n => n⟩
theorem laysC : Go.Proofs.Lays2.n20 Try.prog laysC_ren := {
  mixed := by kernel_rfl
  f20 := Try.func79.trans (congrArg some (by kernel_rfl))
  t0 := Try.underlying0
  a0 := Try.isAgg0
  z0 := Try.sizeOf0
  v0 := Try.zeroValue0
  t3 := Try.underlying3
  a3 := Try.isAgg3
  z3 := Try.sizeOf3
  v3 := Try.zeroValue3
  t4 := Try.underlying4
  a4 := Try.isAgg4
  z4 := Try.sizeOf4
  v4 := Try.zeroValue4
  t22 := Try.underlying47
  a22 := Try.isAgg47
  z22 := Try.sizeOf47
  v22 := Try.zeroValue47
  i3 := by kernel_rfl }
theorem get_arr (xs : List Int) (j : Nat) (x : Int) (h : xs[j]? = some x) : xs.toArray[j]! = x := by
  obtain ⟨h1, rfl⟩ := List.getElem?_eq_some_iff.1 h
  simp [getElem!_pos, h1]
theorem holds_of {B : Nat} {w : World} {g c : Nat} {xs : List Int} (h : OutI B w (.slice (some ⟨g, 0, none⟩) xs.length c) xs) : Sort.Holds encI w g 0 xs.toArray := by
  unfold OutI at h
  intro j hj
  have hj' : j < xs.length := by simpa using hj
  have hx : xs[j]? = some xs[j] := List.getElem?_eq_getElem hj'
  rw [Nat.zero_add, get_arr _ _ _ hx]
  refine ⟨?_, World.ownsRow.frozenAt h j⟩
  rw [World.ownsRow.cellAt h j (by omega), List.getElem?_map, hx]
  rfl
theorem fr_put (w : World) (g n : Nat) (d : Array Int) : Fr (fun q => q = g) w (Sort.putRow encI (Sort.ahead w n) g 0 d) := by
  refine ⟨rfl, rfl, rfl, ?_, fun k hk hn => ?_⟩
  · unfold Sort.putRow Sort.mapBlock Sort.ahead
    simp
  · unfold Sort.putRow Sort.mapBlock Sort.ahead
    simp only [Array.getElem?_modify]
    rw [if_neg (fun e => hn e.symm)]
theorem compact_ok (B : Nat) (g c : Nat) (xs : List Int) (w : World) (ho : OutI B w (.slice (some ⟨g, 0, none⟩) xs.length c) xs) (hg : g < w.heap.size) (hl : xs.length ≤ 17592186044416) (hc : xs.length ≤ c) :
    Calls Try.prog 79 #[.slice (some ⟨g, 0, none⟩) xs.length c] w fun e w' => e = .returned (.slice (some ⟨g, 0, none⟩) (Go.Lib.compactUpTo xs.toArray xs.length).length c) ∧ RdI w' (some ⟨g, 0, none⟩) (Go.Lib.compactUpTo xs.toArray xs.length).length (Go.Lib.compactUpTo xs.toArray xs.length) ∧ Fr (fun q => q = g) w w' := by
  have e : xs.toArray.size = xs.length := by simp
  have hH := holds_of ho
  have h := Any.slices_Compact_int_arr laysC g 0 c xs.toArray w hH (by rw [e]; omega) (by rw [e]; exact hc)
  rw [e] at h
  refine h.mono ?_
  rintro e' w' ⟨he, q, rfl⟩
  refine ⟨he, ⟨rfl, by simp, fun _ => ⟨g, 0, rfl, Nat.lt_of_lt_of_le hg (fr_put w g q _).size, fun j u hu => ?_⟩⟩, fr_put w g q _⟩
  have hle : (Go.Lib.compactUpTo xs.toArray xs.length).length ≤ xs.length := by
    unfold Go.Lib.compactUpTo
    rw [List.length_map]
    exact Nat.le_trans (List.length_filter_le _ _) (by simp)
  rw [List.getElem?_map] at hu
  cases hx : (Go.Lib.compactUpTo xs.toArray xs.length)[j]? with
  | none => rw [hx] at hu; cases hu
  | some x =>
    rw [hx] at hu
    obtain ⟨hj, hjx⟩ := List.getElem?_eq_some_iff.1 hx
    have hH2 : Sort.Holds encI (Sort.ahead w q) g 0 xs.toArray := hH
    have hp := Sort.holds_putRow encI (Sort.ahead w q) g 0 xs.toArray (Go.Lib.compactUpTo xs.toArray xs.length ++ List.replicate (xs.length - (Go.Lib.compactUpTo xs.toArray xs.length).length) 0).toArray hH2 (by simp; omega) j (by simp; omega)
    rw [hp.1]
    have : (Go.Lib.compactUpTo xs.toArray xs.length ++ List.replicate (xs.length - (Go.Lib.compactUpTo xs.toArray xs.length).length) 0).toArray[j]! = x := get_arr _ _ _ (by rw [List.getElem?_append_left hj]; exact hx)
    rw [this]
    exact hu
theorem compact_none (A : Option Addr) (c : Nat) (w : World) : Calls Try.prog 79 #[.slice A 0 c] w fun e w' => e = .returned (.slice A 0 c) ∧ w' = w := Any.slices_Compact_int_empty laysC A c w
end Go.Proofs.Ytoboialfaifbgaa.VaSh
