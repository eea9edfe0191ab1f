import Derived.Test.YtoboialfaifbgaaHvA
import Derived.Test.YtoboialfaifbgaaPlC
import Derived.Test.YtoboialfaifbgaaGeD
import Derived.Test.YtoboialfaifbgaaSpNq
import Derived.Test.YtoboialfaifbgaaHvB
import Derived.Maps.RangeWalk
/- Contract: the bands of extents that an iterator hands out, one extent behind the other. Conditions: the geometry may be; at most 1000 extents, each of which may be. -/
namespace Go.Proofs.Ytoboialfaifbgaa.VaO
open Go.RowKit MSep MSepC MGeM GeA GeC PgA PgB RgF PlM PlA PlC VaC VaD VaM VaSh

attribute [local go_sem] Oper.semAt_some

theorem band_in (c s n l k i d : Int) (w : World) (hs : r64 s) (hm : mayG ⟨c, s, n, l, k⟩) (hi : 0 ≤ i ∧ i < (lay ⟨c, s, n, l, k⟩).t) (hd : n - 1 = d) : Calls Try.prog 74 #[gv c s n l k, .int .i64 i] w fun e w' => (∃ z, e = .returned (.tuple #[.int .i64 (i / d), z])) ∧ Fr No w w' := by
  have ht : (lay ⟨c, s, n, l, k⟩).t ≤ 128898 := (good hm.1).t2
  refine (GeD.band_ok c s n l k i w hs (by omega)).mono ?_
  rintro e w' ⟨rfl, f⟩
  have hd1 : (lay ⟨c, s, n, l, k⟩).d = d := by rw [← hd]; exact (good hm.1).d0
  have hb1 : (bno ⟨c, s, n, l, k⟩ i).1 = i / d := by unfold bno; rw [if_pos ⟨hm, hi⟩, hd1]
  exact ⟨⟨.int .i64 (bno ⟨c, s, n, l, k⟩ i).2, by rw [hb1]⟩, f⟩
/-- What the loop over extents keeps: the row of the bands of the first i, in the box of its own. -/
def BI (d : Int) (L : List Ex) (w : World) (Bb B0 G : Nat) (gc gs gn gl gk : Int) (i : Nat) (W : World) : Prop := ∃ A c, Blk W Bb 47 #[.slice A (raw d (L.take i)).length c] ∧ OutI B0 W (.slice A (raw d (L.take i)).length c) (raw d (L.take i)) ∧ BG W G gc gs gn gl gk ∧ Fr No w W
theorem BI.fr {d : Int} {L : List Ex} {w : World} {Bb B0 G : Nat} {gc gs gn gl gk : Int} {i : Nat} {W W' : World} {S : Nat → Prop} (h : BI d L w Bb B0 G gc gs gn gl gk i W) (f : Fr S W W') (h1 : ¬ S Bb) (h2 : ¬ S G) (h3 : ∀ k, B0 ≤ k → ¬ S k) (h4 : ∀ k, k < w.heap.size → ¬ S k) : BI d L w Bb B0 G gc gs gn gl gk i W' := by
  obtain ⟨A, c, a1, a2, a3, a4⟩ := h
  exact ⟨A, c, a1.fr f h1, a2.fr f (fun k hk => h3 k (PlA.own_ge a2 k hk).1), show BG W' G gc gs gn gl gk from Blk.fr a3 f h2, a4.step f (fun k hk e => absurd e (h4 k hk))⟩

set_option maxRecDepth 100000 in
set_option maxHeartbeats 2000000 in
theorem cmp_len (R : List Int) : (Go.Lib.compactUpTo R.toArray R.length).length ≤ R.length := by
  unfold Go.Lib.compactUpTo
  rw [List.length_map]
  exact Nat.le_trans (List.length_filter_le _ _) (by simp)
set_option maxRecDepth 100000 in
set_option maxHeartbeats 4000000 in
theorem bandsOf_cap (gc gs gn gl gk : Int) (gf : Nat) (lb : Array Value) (L : List Ex) (d : Int) (w : World) (hs : r64 gs) (hm : mayG ⟨gc, gs, gn, gl, gk⟩) (hL : ∀ x ∈ L, okX ⟨gc, gs, gn, gl, gk⟩ x) (hl : L.length ≤ 1000) (hd : gn - 1 = d) (heg : ∀ args w, (callFunc gf args).run Try.prog w = .ok (.enter gf args) w)
    (hit : Iter Try.prog gf lb L.length (XE L) (fun k => w.heap.size ≤ k) w) :
    Calls Try.prog 58 #[gv gc gs gn gl gk, .func (.func gf) #[] lb] w fun e w' => ∃ A c, e = .returned (.slice A (Go.Lib.compactUpTo (raw d L).toArray (raw d L).length).length c) ∧ RdI w' A (Go.Lib.compactUpTo (raw d L).toArray (raw d L).length).length (Go.Lib.compactUpTo (raw d L).toArray (raw d L).length) ∧ (Go.Lib.compactUpTo (raw d L).toArray (raw d L).length).length ≤ c ∧ Fr No w w' := by
  have hd7 : 7 ≤ d := by have := (good hm.1).d1; rw [(good hm.1).d0] at this; dsimp only at this; omega
  have hin : ∀ x ∈ L, (0 ≤ x.a ∧ 1 ≤ x.m) ∧ x.a + x.m ≤ (lay ⟨gc, gs, gn, gl, gk⟩).t ∧ (lay ⟨gc, gs, gn, gl, gk⟩).t ≤ 128898 := fun x hx => by
    obtain ⟨_, h1, h2⟩ := cko0 (hL x hx).1
    exact ⟨⟨h1.1, h1.2.1⟩, h2, (good hm.1).t2⟩
  have HIN := hid hin
  have HB := hid (fun W i (h : 0 ≤ i ∧ i < (lay ⟨gc, gs, gn, gl, gk⟩).t) => band_in gc gs gn gl gk i d W hs hm h hd)
  have HLE := hid hl
  have HRL := hid (show ∀ i, (raw d (L.take i)).length ≤ 20000 * 1000 from fun i => by
    have h1 := raw_len (d := d) (k := 20000) (by omega) (L := L.take i) (fun x hx => by
      obtain ⟨⟨a1, a2⟩, a3, a4⟩ := hin x (List.mem_of_mem_take hx)
      exact ⟨a1, (Int.ediv_lt_iff_lt_mul (by omega)).2 (by omega)⟩)
    have h2 : (L.take i).length ≤ L.length := List.length_take_le' _ _
    exact Nat.le_trans h1 (Nat.mul_le_mul_left _ (by omega)))
  have HD7 := hid hd7
  clear hs hm hL hd hin hd7
  refine (callsIn_wide (n := 3)).1 ?_
  refine callsIn_of_wp_marks Try.func58 rfl trivial ?_ rfl
  simp only [Try.ntmps58, List.size_toArray, List.length_cons, List.length_nil, Nat.reduceAdd, Nat.reduceSub, Array.replicate_succ, Array.replicate_zero, List.push_toArray, List.append_toArray, List.nil_append, List.cons_append]
  gi_wp2
  obtain ⟨G, hG⟩ : ∃ G, w.heap.size = G := ⟨_, rfl⟩
  obtain ⟨w0, hw0⟩ : ∃ w0, (w.alloc (.cells #[.int .i64 gc, .int .i64 gs, .int .i64 gn, .int .i64 gl, .int .i64 gk] 23)).alloc (.cells #[.slice none 0 0] 47) = w0 := ⟨_, rfl⟩
  have hF0 : Fr No w w0 := by rw [← hw0]; exact ((Fr.refl No w).alloc _).alloc _
  have hsz : w0.heap.size = G + 2 := by rw [← hw0, ← hG]; simp
  have p0 : BG w0 G gc gs gn gl gk := by rw [← hw0, ← hG]; exact (BG.new w gc gs gn gl gk : Blk _ _ _ _).alloc _
  have q0 : Blk w0 (G + 1) 47 #[.slice none 0 0] := by
    rw [← hw0, ← hG]
    have := Blk.new (w.alloc (.cells #[.int .i64 gc, .int .i64 gs, .int .i64 gn, .int .i64 gl, .int .i64 gk] 23)) 47 #[.slice none 0 0]
    rwa [World.size_alloc] at this
  rw [hw0]
  try rw [hG]
  rw [hG] at hit
  have HGW := hid hG
  clear hw0 hG
  refine range_fn (gf := gf) rfl heg (N := L.length) (X := XE L) (T := fun k => k = G + 1 ∨ G + 4 ≤ k) (T' := fun k => G ≤ k) (fun k h => by omega) (by rw [hsz]; omega)
    (Iter.later hit hF0) (fun k h => by rw [hsz]; omega) (BI d L w (G + 1) (G + 4) G gc gs gn gl gk) (fun _ => False) (fun i W W' h f => h.fr f (by rw [hsz]; omega) (by rw [hsz]; omega) (fun k hk e => by rw [hsz] at e; omega) (fun k hk e => by rw [hsz] at e; have := HGW.out; omega)) (fun W W' h f => h) ?hXs
    ⟨none, 0, q0, own_none _ _, p0, hF0⟩ ?round ?done (fun W h _ => h.elim)
  case hXs =>
    rintro i vs W ⟨x, hx, rfl⟩
    rfl
  case round =>
    rintro lk i vs W hi hW hGi ⟨x, hx, rfl⟩
    rw [hsz] at hW
    gi_wp2
    refine ⟨fr1' _ _ _ trivial, fun W2 f2 => ?_⟩
    rw [hsz] at f2
    obtain ⟨W1, hW1⟩ : ∃ W1, W.alloc (.cells #[.int .i64 x.a, .int .i64 x.m, .int .i64 x.z, .int .i64 x.o] 62) = W1 := ⟨_, rfl⟩
    obtain ⟨X, hX⟩ : ∃ X, W.heap.size = X := ⟨_, rfl⟩
    have fa : Fr No W W1 := by rw [← hW1]; exact (Fr.refl No W).alloc _
    have hX1 : Blk W1 X 62 #[.int .i64 x.a, .int .i64 x.m, .int .i64 x.z, .int .i64 x.o] := by rw [← hW1, ← hX]; exact Blk.new W _ _
    rw [hW1] at f2
    try rw [hX]
    rw [hX] at hW
    have hx2 := hX1.fr f2 (by omega)
    have hG2 := (hGi.fr fa (fun h => h) (fun h => h) (fun _ _ h => h) (fun _ _ h => h)).fr f2 (by omega) (by omega) (fun k hk e => by omega) (fun k hk e => by have := HGW.out; omega)
    obtain ⟨A, c, a1, a2, a3, a4⟩ := hG2
    have HX := hid hx2
    have HA1 := hid a1
    have HA2 := hid a2
    have HA3 := hid a3
    have HA4 := hid a4
    have hxm := HIN.out x (List.mem_of_getElem? hx)
    have HXM := hid hxm
    have hts := take_snoc hx
    have HRS := hid (raw_snoc d (L.take i) x)
    rw [← hts] at HRS
    have HS2 := hid (show G + 4 ≤ W2.heap.size from Nat.le_trans hW (by have := fa.size; have := f2.size; omega))
    obtain ⟨R, hR⟩ : ∃ R, raw d (L.take i) = R := ⟨_, rfl⟩
    have HRR := hid (show R.length ≤ 20000000 by rw [← hR]; exact HRL.out i)
    rw [hR] at HRS HA1 HA2
    have HXW := hid hW
    have HF2 := hid (show Fr (fun k => k = G + 1 ∨ G + 4 ≤ k) W2 W2 from Fr.refl _ _)
    clear a1 a2 a3 a4 hx2 hX1 hts hR hW hX hW1 fa f2 hGi hx
    have x0 := HX.out.cell 0
    have x1 := HX.out.cell 1
    simp only [List.getElem?_toArray, List.getElem?_cons_zero, List.getElem?_cons_succ] at x0 x1
    have hs1 : IntKind.i64.wrap (x.a + x.m) = x.a + x.m := Go.IntWalk.i64_in _ (by omega)
    have hs2 : wrap64 (x.a + x.m) = x.a + x.m := SpA.w64 _ (by omega)
    have hs3 : wrap64 (x.a + x.m - 1) = x.a + x.m - 1 := SpA.w64 _ (by omega)
    have HA3b := HA3
    clear hxm
    obtain ⟨g0, g1, g2, g3, g4⟩ := HA3.out.cells
    have HFW := hid (show Fr No W2 W2 from Fr.refl _ _)
    gi_wp2_with (refine ⟨trivial, ?_⟩; gi_at_call 74; refine (CallsIn.inRound lk (callsIn_wide.2 (HB.out _ _ (by have := HXM.out; omega)))).mono ?_; rintro e' W3 ⟨⟨z, rfl⟩, f3⟩; replace HX := hid (HX.out.fr f3 (fun h => h)); replace HA1 := hid (HA1.out.fr f3 (fun h => h)); replace HA2 := hid (HA2.out.fr0 f3); replace HA3 := hid (BG.fr HA3.out f3); replace HA4 := hid (HA4.out.trans f3); replace HFW := hid (HFW.out.trans f3); clear g0 g1 g2 g3 g4 x0 x1 f3; obtain ⟨g0, g1, g2, g3, g4⟩ := HA3.out.cells; have x0 := HX.out.cell 0; have x1 := HX.out.cell 1; simp only [List.getElem?_toArray, List.getElem?_cons_zero, List.getElem?_cons_succ] at x0 x1)
    obtain ⟨p, hp⟩ : ∃ p, x.a / d = p := ⟨_, rfl⟩
    obtain ⟨q, hq⟩ : ∃ q, (x.a + x.m - 1) / d = q := ⟨_, rfl⟩
    rw [hp, hq] at HRS
    try rw [hp, hq]
    have hpq : (0 ≤ p ∧ p ≤ q) ∧ q ≤ 20000 := by
      have h1 := HXM.out
      have h2 := HD7.out
      have h3 : 0 ≤ x.a / d := Int.ediv_nonneg (by omega) (by omega)
      have h4 : x.a / d ≤ (x.a + x.m - 1) / d := Int.ediv_le_ediv (by omega) (by omega)
      have h5 : (x.a + x.m - 1) / d < 20000 := (Int.ediv_lt_iff_lt_mul (by omega)).2 (by omega)
      omega
    have HPQ := hid hpq
    obtain ⟨W4, hW4⟩ : ∃ W4, W3 = W4 := ⟨_, rfl⟩
    rw [hW4] at HX HA1 HA2 HA3 HA4 HFW
    try rw [hW4]
    have HS4 := hid (show G + 4 ≤ W4.heap.size from Nat.le_trans HS2.out HFW.out.size)
    have HR0 := hid (show R ++ rng p (p - 1) = R by rw [rng_nil (by omega), List.append_nil])
    clear g0 g1 g2 g3 g4 x0 x1 hp hq hW4 hs1 hs2 hs3
    gi_loopw [11] (fun y wr => ∃ (b : Int) (A' : Option Addr) (c' : Nat), y = .int .i64 b ∧ p ≤ b ∧ b ≤ q + 1 ∧ Hid (OutI (G + 4) wr (.slice A' (R ++ rng p (b - 1)).length c') (R ++ rng p (b - 1))) ∧ Hid (Blk wr (G + 1) 47 #[.slice A' (R ++ rng p (b - 1)).length c']) ∧ Hid (BG wr G gc gs gn gl gk) ∧ Hid (Fr No w wr) ∧ Hid (Fr (fun k => k = G + 1 ∨ G + 4 ≤ k) W2 wr) ∧ G + 4 ≤ wr.heap.size) (fun y _ => (q + 1 - intOf y).toNat)
    case atStart => exact ⟨p, A, c, rfl, by omega, by omega, by rw [HR0.out]; exact HA2, by rw [HR0.out]; exact HA1, HA3, HA4, hid (HFW.out.mono fun _ _ h => h.elim), HS4.out⟩
    case round =>
      obtain ⟨b, A', c', rfl, hb1, hb2, HO, HB1, HB3, HB4, HBF, hsz4⟩ := hrel
      have HSZ4 := hid hsz4
      clear hsz4
      by_cases hle : b ≤ q
      case neg =>
        obtain rfl : b = q + 1 := by omega
        have e : R ++ rng p (q + 1 - 1) = raw d (L.take (i + 1)) := by rw [HRS.out, show q + 1 - 1 = q by omega]
        rw [e] at HO HB1
        have hle2 : decide (q + 1 ≤ q) = false := decide_eq_false (by omega)
        clear e hb1 hb2
        gi_wp2
        exact ⟨HBF.out, A', c', HB1.out, HO.out, HB3.out, HB4.out⟩
      have hle2 : decide (b ≤ q) = true := decide_eq_true hle
      have hwb : wrap64 (b + 1) = b + 1 := SpA.w64 _ (by have := HPQ.out; omega)
      have HSN := hid (show R ++ rng p (b + 1 - 1) = R ++ rng p (b - 1) ++ [b] by rw [show b + 1 - 1 = b by omega, rng_snoc hb1, List.append_assoc])
      have HLN := hid (show (R ++ rng p (b - 1)).length ≤ 20100000 by rw [List.length_append, rng_len]; have := HRR.out; have := HPQ.out; omega)
      have HBB := hid (And.intro hb1 hle)
      obtain ⟨Q, hQ⟩ : ∃ Q, R ++ rng p (b - 1) = Q := ⟨_, rfl⟩
      rw [hQ] at HO HB1 HSN HLN
      have z0 := blk0 HB1.out
      clear hb1 hb2 hQ
      gi_wp2_with (gi_at_builtin; refine app_i_in rfl (.tmp 38) (.tmp 40) rfl (G + 4) (.slice A' Q.length c') Q (by rfl) (HO.out.fr0 ((Fr.refl No wr).alloc _)) (some ⟨wr.heap.size, 0, none⟩) 1 1 [b] rfl (lit_i wr b) (by have := HLN.out; omega) (by have := HSZ4.out; simp; omega) ?_; intro A2 k2 W5 hown hf5; have HO5 := hid hown; have HF5 := hid hf5; have hq := Blk.fr (HB1.out.alloc (.cells #[.int .i64 b] 3)) hf5 (fun h => by have := (PlA.own_ge HO.out _ h).1; omega); have z5 := blk0 hq; have y5 := hq.frozen 0; have HQ5 := hid hq; clear hown hf5 hq)
      have f5 : Fr (fun k => k = G + 1 ∨ G + 4 ≤ k) wr (W5.setCell ⟨G + 1, 0, none⟩ (.slice A2 (Q.length + 1) k2)) :=
        (((Fr.refl _ wr).alloc _).step HF5.out (fun q _ h => .inr (PlA.own_ge HO.out q h).1)).setCell (p := ⟨G + 1, 0, none⟩) (fun _ => .inl rfl) _
      have hl2 : Q.length + 1 = (R ++ rng p (b + 1 - 1)).length := by rw [HSN.out]; simp
      go_roundw
      case rel =>
        refine ⟨b + 1, A2, k2, by first | rfl | rw [hwb] | go_num, by have := HBB.out; omega, by have := HBB.out; omega, ?_, ?_, hid (show BG _ G gc gs gn gl gk from Blk.fr HB3.out f5 ?_), hid (HB4.out.step f5 (fun k hk e => by have := HGW.out; omega)), hid (HBF.out.trans f5), Nat.le_trans HSZ4.out f5.size⟩
        · rw [← hl2, HSN.out]
          exact hid (own_fr HO5.out (Fr.set1 W5 (G + 1) 0 _) (fun k hk e => by have := (PlA.own_ge HO5.out k hk).1; omega))
        · rw [← hl2]
          have := HQ5.out.set_ 0 (.slice A2 (Q.length + 1) k2)
          exact hid (by simpa using this)
        · omega
      case measure => rw [hwb]; simp only [intOf]; have := HBB.out; omega
  case done =>
    intro W hGd hK
    rw [hsz] at hK
    obtain ⟨A, c, a1, a2, a3, a4⟩ := hGd
    rw [List.take_length] at a1 a2
    have hr := HRL.out L.length
    rw [List.take_length] at hr
    obtain ⟨R, hR⟩ : ∃ R, raw d L = R := ⟨_, rfl⟩
    rw [hR] at a1 a2 hr
    have HRE := hid hR
    have z0 := blk0 a1
    have HA2 := hid a2
    have HA4 := hid a4
    have HK := hid hK
    have HRN := hid hr
    clear a1 a2 a3 a4 hK hr hR
    obtain ⟨W5, Ac, cc, HCM⟩ : ∃ W5 : World, ∃ (Ac : Option Addr) (cc : Nat), True := ⟨W, A, c, trivial⟩
    clear HCM W5 Ac cc
    have HC := hid (show Calls Try.prog 79 #[.slice A R.length c] W fun e w' => e = .returned (.slice A (Go.Lib.compactUpTo R.toArray R.length).length c) ∧ RdI w' A (Go.Lib.compactUpTo R.toArray R.length).length (Go.Lib.compactUpTo R.toArray R.length) ∧ (Go.Lib.compactUpTo R.toArray R.length).length ≤ c ∧ Fr (fun q => G + 4 ≤ q) W w' by
      rcases HA2.out.2 with ⟨e, hn⟩ | ⟨g, cap, cur, e, hgB, hh, hnc, hr2⟩
      · injection e with e1 e2 e3
        subst e1 e3
        obtain rfl : R = [] := List.eq_nil_of_length_eq_zero hn
        refine (compact_none none 0 W).mono ?_
        rintro e' w' ⟨rfl, rfl⟩
        exact ⟨rfl, ⟨rfl, Rd.nil _ _⟩, Nat.zero_le _, Fr.refl _ _⟩
      · injection e with e1 e2 e3
        subst e1 e3
        refine (compact_ok (G + 4) g c R W HA2.out (Array.getElem?_eq_some_iff.1 hh).1 (by have := HRN.out; omega) hnc).mono ?_
        rintro e' w' ⟨h1, h2, h3⟩
        exact ⟨h1, h2, Nat.le_trans (cmp_len R) hnc, h3.mono (fun k _ e => by rw [e]; exact hgB)⟩)
    gi_wp2_with (refine ⟨trivial, ?_⟩; gi_at_call 79; refine (callsIn_wide.2 HC.out).mono ?_; rintro e' W6 ⟨rfl, hrd, hcap, f6⟩; have HCP := hid hcap; clear hcap; have HRD := hid hrd; have HF6 := hid f6; clear hrd f6)
    have hK6 : W6.heap[G + 2]? = some (.deferred (some [])) := (HF6.out.block (G + 2) (Array.getElem?_eq_some_iff.1 HK.out).1 (by omega)).trans HK.out
    have f7 : Fr (fun k => k = G + 2) W6 (W6.putObj (G + 2) (.deferred none)) := Fr.putObj (S := fun k => k = G + 2) (Fr.refl _ _) (fun _ => rfl) _
    refine ⟨by simp, .inl ⟨_, _, rfl, run_takeDeferred hK6, .slice A (Go.Lib.compactUpTo R.toArray R.length).length c, by simp [results, Try.f58], A, c, by rw [HRE.out], by rw [HRE.out]; exact HRD.out.frS f7 (fun g o hA e => by have h1 := (PlA.own_ge HA2.out g (by rw [hA]; rfl)).1; omega), by rw [HRE.out]; exact HCP.out, (HA4.out.step HF6.out (fun k hk e => by have := HGW.out; omega)).step f7 (fun k hk e => by have := HGW.out; omega)⟩⟩
theorem bandsOf_ok (gc gs gn gl gk : Int) (gf : Nat) (lb : Array Value) (L : List Ex) (d : Int) (w : World) (hs : r64 gs) (hm : mayG ⟨gc, gs, gn, gl, gk⟩) (hL : ∀ x ∈ L, okX ⟨gc, gs, gn, gl, gk⟩ x) (hl : L.length ≤ 1000) (hd : gn - 1 = d) (heg : ∀ args w, (callFunc gf args).run Try.prog w = .ok (.enter gf args) w)
    (hit : Iter Try.prog gf lb L.length (XE L) (fun k => w.heap.size ≤ k) w) :
    Calls Try.prog 58 #[gv gc gs gn gl gk, .func (.func gf) #[] lb] w fun e w' => ∃ A c, e = .returned (.slice A (Go.Lib.compactUpTo (raw d L).toArray (raw d L).length).length c) ∧ RdI w' A (Go.Lib.compactUpTo (raw d L).toArray (raw d L).length).length (Go.Lib.compactUpTo (raw d L).toArray (raw d L).length) ∧ Fr No w w' := by
  refine (bandsOf_cap gc gs gn gl gk gf lb L d w hs hm hL hl hd heg hit).mono ?_
  rintro e w' ⟨A, c, h1, h2, _, h3⟩
  exact ⟨A, c, h1, h2, h3⟩
end Go.Proofs.Ytoboialfaifbgaa.VaO
/- Contract: the set of a zone's live sectors. Conditions: the extents read as a list of at most 1000 structs, each of which may be. -/
namespace Go.Proofs.Ytoboialfaifbgaa.VaQ
open Go.RowKit MSep MSepC MSpM MGeM GeA GeC PgA PgB RgF VaA VaC VaD VaE VaF VaH VaN SpO SpKq

attribute [local go_sem] Oper.semAt_some

theorem blk0 {w : World} {g : Nat} {t : TypeId} {v : Value} (h : Blk w g t #[v]) : w.cell? ⟨g, 0, none⟩ = some v := h.cell 0
theorem padd_nil (s : Sp) (h : 0 < s.2) : padd [] s = [s] := by
  have h0 : ¬ s.2 = 0 := by omega
  simp [padd, h0, absorb]
theorem padd_ne {l : List Sp} {s : Sp} (h : Ris l) (hs : may s) (h0 : 0 < s.2) : ¬ padd l s = [] := by
  intro e
  have := ((padd_ok h hs).2.1 s.1).2 (.inr ⟨by omega, by omega⟩)
  rw [e] at this
  exact in_nil _ this
/-- A set as it stands between two rounds: nil where it is empty, else a row of its own behind block K. -/
structure SetAt (W : World) (A : Option Addr) (c : Nat) (P : List Sp) (K : Nat) : Prop where
  rd : RdS W A P.length P
  nil : P = [] → A = none ∧ c = 0
  lim : P.length ≤ c ∧ c ≤ maxLen
  far : ∀ g o, A = some ⟨g, o, none⟩ → K ≤ g
theorem SetAt.fr {W W' : World} {A : Option Addr} {c : Nat} {P : List Sp} {K : Nat} {S : Nat → Prop} (h : SetAt W A c P K) (f : Fr S W W') (hn : ∀ k, K ≤ k → ¬ S k) : SetAt W' A c P K :=
  ⟨⟨h.rd.1, h.rd.2.fr f (fun g o e => hn g (h.far g o e))⟩, h.nil, h.lim, h.far⟩
theorem addA_ok {W : World} {A : Option Addr} {c : Nat} {P : List Sp} {K : Nat} (h : SetAt W A c P K) (hr : Ris P) (hl : P.length ≤ 2000) (a n : Int) (hs : may (a, n)) (hn : 0 < n) (hK : K ≤ W.heap.size) :
    Calls Try.prog 78 #[.slice A P.length c, .agg #[.int .i64 a, .int .i64 n]] W fun e w' => ∃ A' c', e = .returned (.tuple #[.slice A' (padd P (a, n)).length c', .int .i64 0]) ∧ SetAt w' A' c' (padd P (a, n)) K ∧ Fr No W w' := by
  have hne := padd_ne hr hs hn
  have fin : ∀ e w', RetQ W w' e (padd P (a, n)) 0 → ∃ A' c', e = .returned (.tuple #[.slice A' (padd P (a, n)).length c', .int .i64 0]) ∧ SetAt w' A' c' (padd P (a, n)) K ∧ Fr No W w' := by
    rintro e w' ⟨A', k', c', rfl, h1, h2, h3⟩
    obtain rfl : (padd P (a, n)).length = k' := h1.1
    exact ⟨A', c', rfl, ⟨h1, fun e => absurd e hne, h2.1, fun g o e => Nat.le_trans hK (h2.2 g o e)⟩, h3⟩
  by_cases hP : P = []
  · obtain ⟨rfl, rfl⟩ := h.nil hP
    subst hP
    refine (SpNq.addn_ok a n 0 W hs hn (by simp [maxLen])).mono ?_
    intro e w' hq
    rw [← padd_nil (a, n) hn] at hq
    exact fin e w' hq
  · have hp : 0 < P.length := Nat.pos_of_ne_zero (fun e => hP (List.eq_nil_of_length_eq_zero e))
    obtain ⟨g, o, hA, hg, _⟩ := h.rd.at_ hp
    have hrd := h.rd
    rw [hA] at hrd ⊢
    exact (SpLq.addq_ok g o P.length c P a n W hl h.lim.1 h.lim.2 hg hrd hr hs hn).mono fin
/-- What holds between two rounds. -/
structure LI (F : List Ex) (w : World) (n K : Nat) (i : Nat) (W : World) : Prop where
  set : ∃ A c, Blk W (n + 1 + 1) 64 #[.slice A (pl (F.take i)).length c] ∧ SetAt W A c (pl (F.take i)) (K + 2)
  fr : Fr No w W
  b0 : Blk W n 64 #[.slice none 0 0]
  b1 : Blk W (n + 1) 33 #[.int .i64 0]
  b3 : Blk W (n + 1 + 1 + 1) 33 #[.int .i64 0]
theorem LI.step {F : List Ex} {w : World} {n K i : Nat} {W W' : World} {S : Nat → Prop} (h : LI F w n K i W) (f : Fr S W W') (h1 : ∀ k, k < n + 4 → ¬ S k) (h2 : ∀ k, K + 2 ≤ k → ¬ S k) (hn : n = w.heap.size) : LI F w n K i W' := by
  obtain ⟨⟨A, c, a1, a2⟩, a3, a4, a5, a6⟩ := h
  exact ⟨⟨A, c, a1.fr f (h1 _ (by omega)), a2.fr f h2⟩, a3.step f (fun k hk e => absurd e (h1 k (by omega))), a4.fr f (h1 _ (by omega)), a5.fr f (h1 _ (by omega)), a6.fr f (h1 _ (by omega))⟩

set_option maxRecDepth 100000 in
set_option maxHeartbeats 2000000 in
theorem live_ok (A : Option Addr) (l cp : Nat) (xs : List Ex) (z : Int) (w : World) (hx : RdX w A l xs) (hl : l ≤ 1000) (hm : ∀ x ∈ xs, 1 ≤ x.m ∧ may (sx x)) :
    Calls Try.prog 57 #[.slice A l cp, .int .i64 z] w fun e w' => ∃ A' c', e = .returned (.tuple #[.slice A' (pl (xs.filter (inZ z))).length c', .int .i64 0]) ∧ RdS w' A' (pl (xs.filter (inZ z))).length (pl (xs.filter (inZ z))) ∧ (pl (xs.filter (inZ z))).length ≤ 1000 ∧ Fr No w w' := by
  have HX := hid hx
  have HM := hid hm
  have HL := hid hl
  have HLX := hid hx.1
  clear hx hm hl
  refine (callsIn_wide (n := 3)).1 ?_
  refine callsIn_of_wp_marks Try.func57 rfl trivial ?_ rfl
  simp only [Try.ntmps57, List.size_toArray, List.length_cons, List.length_nil, Nat.reduceAdd, Nat.reduceSub, Array.replicate_succ, Array.replicate_zero, List.push_toArray, List.append_toArray, List.nil_append, List.cons_append]
  obtain ⟨n, hn⟩ : ∃ n, n = w.heap.size := ⟨_, rfl⟩
  obtain ⟨w0, hw0⟩ : ∃ w0, (((w.alloc (Obj.cells #[Value.slice none 0 0] 64)).alloc (Obj.cells #[Value.int IntKind.i64 0] 33)).alloc (Obj.cells #[Value.slice none 0 0] 64)).alloc (Obj.cells #[Value.int IntKind.i64 0] 33) = w0 := ⟨_, rfl⟩
  have hF0 : Fr No w w0 := by rw [← hw0]; exact ((((Fr.refl No w).alloc _).alloc _).alloc _).alloc _
  have hsz : w0.heap.size = n + 4 := by rw [← hw0, hn]; simp
  have q0 : Blk w0 n 64 #[.slice none 0 0] := by rw [← hw0, hn]; exact (((Blk.new w _ _).alloc _).alloc _).alloc _
  have q1 : Blk w0 (n + 1) 33 #[.int .i64 0] := by
    rw [← hw0, hn]
    have := Blk.new (w.alloc (Obj.cells #[Value.slice none 0 0] 64)) 33 #[.int .i64 0]
    rw [World.size_alloc] at this
    exact (this.alloc _).alloc _
  have q2 : Blk w0 (n + 1 + 1) 64 #[.slice none 0 0] := by
    rw [← hw0, hn]
    have := Blk.new ((w.alloc (Obj.cells #[Value.slice none 0 0] 64)).alloc (Obj.cells #[Value.int IntKind.i64 0] 33)) 64 #[.slice none 0 0]
    simp only [World.size_alloc] at this
    exact this.alloc _
  have q3 : Blk w0 (n + 1 + 1 + 1) 33 #[.int .i64 0] := by
    rw [← hw0, hn]
    have := Blk.new (((w.alloc (Obj.cells #[Value.slice none 0 0] 64)).alloc (Obj.cells #[Value.int IntKind.i64 0] 33)).alloc (Obj.cells #[Value.slice none 0 0] 64)) 33 #[.int .i64 0]
    simp only [World.size_alloc] at this
    exact this
  have HW0 := hid hw0
  clear hw0
  have hin := in_ok A l cp xs z w.heap.size w0 (PgB.RdX.fr HX.out hF0) (RdX.low HX.out) (by have := HL.out; unfold maxLen; omega)
  have HIN := hid hin
  clear hin
  gi_wp2_with (refine ⟨trivial, ?_⟩; gi_at_call 59; try rw [show ((((w.alloc (Obj.cells #[Value.slice none 0 0] 64)).alloc (Obj.cells #[Value.int IntKind.i64 0] 33)).alloc (Obj.cells #[Value.slice none 0 0] 64)).alloc (Obj.cells #[Value.int IntKind.i64 0] 33)) = w0 from HW0.out]; refine (callsIn_wide.2 HIN.out).mono ?_; rintro e' w2 ⟨lb, rfl, hit, f⟩; have HIT := hid hit; have HF2 := hid f; clear hit f)
  try rw [← hn]
  have p0 := q0.fr HF2.out (fun h => h)
  have p1 := q1.fr HF2.out (fun h => h)
  have p2 := q2.fr HF2.out (fun h => h)
  have p3 := q3.fr HF2.out (fun h => h)
  obtain ⟨K, hK⟩ : ∃ K, w2.heap.size = K := ⟨_, rfl⟩
  have hK4 : n + 4 ≤ K := by rw [← hK, ← hsz]; exact HF2.out.size
  have I2 := HIT.out (fun k => (k = n + 1 + 1 ∨ k = n + 1 + 1 + 1 ∨ K + 2 ≤ k) ∨ k = K + 1) (fun k hk h hT => by rw [hsz] at h; rw [← hn] at h; omega)
  have HFX := hid (show ∀ x ∈ xs.filter (inZ z), 1 ≤ x.m ∧ may (sx x) from fun x hx => HM.out x (List.mem_filter.1 hx).1)
  have HFN := hid (show (xs.filter (inZ z)).length ≤ 1000 from Nat.le_trans (List.length_filter_le _ _) (by have := HLX.out; have := HL.out; omega))
  obtain ⟨F, hF⟩ : ∃ F, xs.filter (inZ z) = F := ⟨_, rfl⟩
  rw [hF] at I2 HFX HFN
  have HFE := hid hF
  have HPL := hid (fun i => pl_ok (L := F.take i) (fun x hx => (HFX.out x (List.mem_of_mem_take hx)).2))
  have HPF := hid (pl_ok (L := F) (fun x hx => (HFX.out x hx).2))
  have F0 := hF0.trans HF2.out
  have HNN := hid hn
  have HKK := hid hK4
  clear q0 q1 q2 q3 HIT hF HIN HW0 hn
  refine range_fn (gf := 105) rfl (enters_of Try.func105 (by kernel_rfl) rfl) (N := F.length) (X := XE F) (T := fun k => k = n + 1 + 1 ∨ k = n + 1 + 1 + 1 ∨ K + 2 ≤ k) (T' := fun k => (k = n + 1 + 1 ∨ k = n + 1 + 1 + 1 ∨ K + 2 ≤ k) ∨ k = K + 1) (fun k h => .inl h) (.inr (by rw [hK]))
    I2 (fun k h => by rw [hK]; omega) (LI F w n K) (fun _ => False) (fun i W W' h f => h.step f (fun k hk e => by rw [hK] at e; omega) (fun k hk e => by rw [hK] at e; omega) HNN.out) (fun W W' h f => h) ?hXs
    ⟨⟨none, 0, p2, ⟨RdS.nil _ _, fun _ => ⟨rfl, rfl⟩, ⟨Nat.le_refl _, by simp [maxLen]⟩, fun g o e => by cases e⟩⟩, F0, p0, p1, p3⟩ ?round ?done (fun W h _ => h.elim)
  case hXs =>
    rintro i vs W ⟨x, hx, rfl⟩
    rfl
  case round =>
    rintro lk i vs W hi hW hG ⟨x, hx, rfl⟩
    rw [hK] at hW
    gi_wp2
    have hf1 : Fr No W (W.alloc (.cells #[.int .i64 x.a, .int .i64 x.m, .int .i64 x.z, .int .i64 x.o] 62)) := (Fr.refl No W).alloc _
    refine ⟨hf1.mono fun _ _ h => h.elim, fun W2 f2 => ?_⟩
    rw [hK] at f2
    have hW2 := f2.size
    simp only [World.size_alloc] at hW2
    have hx2 : Blk W2 W.heap.size 62 #[.int .i64 x.a, .int .i64 x.m, .int .i64 x.z, .int .i64 x.o] := (Blk.new W _ _).fr f2 (by omega)
    obtain ⟨⟨A1, c1, g2, gs⟩, gf, g0, g1, g3⟩ := (hG.step hf1 (fun _ _ h => h) (fun _ _ h => h) HNN.out).step f2 (fun k hk e => by omega) (fun k hk e => by omega) HNN.out
    have x1 := hx2.cell 1
    have x3 := hx2.cell 3
    simp only [List.getElem?_toArray, List.getElem?_cons_zero, List.getElem?_cons_succ] at x1 x3
    have hts := take_snoc hx
    have HSN := hid (pl_snoc (F.take i) x)
    rw [← hts] at HSN
    have hxm := HFX.out x (List.mem_of_getElem? hx)
    have HPI := HPL.out i
    have hlen : (F.take i).length ≤ 1000 := Nat.le_trans (List.length_take_le' _ _) HFN.out
    have HADD := hid (fun W' (f : Fr No W2 W') => addA_ok (W := W') (gs.fr f (fun _ _ h => h)) HPI.1 (by omega) x.o x.m hxm.2 (by omega) (by have := f.size; omega))
    obtain ⟨P, hP⟩ : ∃ P, pl (F.take i) = P := ⟨_, rfl⟩
    rw [hP] at HSN HADD g2 gs
    have HG0 := hid g0
    have HG1 := hid g1
    have HG2 := hid g2
    have HG3 := hid g3
    have HGF := hid gf
    have z2 := blk0 g2
    have HWW := hid (And.intro hW hW2)
    clear hG hf1 f2 hx2 hts hxm HPI hlen hP gs g0 g1 g2 g3 gf hW hW2 hx p0 p1 p2 p3
    gi_wp2_with (refine ⟨trivial, ?_⟩; gi_at_call 78; refine (CallsIn.inRound lk (callsIn_wide.2 (HADD.out _ (Fr.refl _ _)))).mono ?_; rintro e' W3 ⟨A3, c3, rfl, hs3, f3⟩; have HS3 := hid hs3; have HF3 := hid f3; have y2 := (HG2.out.fr f3 (fun h => h)).frozen 0; have y3 := (HG3.out.fr f3 (fun h => h)).frozen 0; have u2 := blk0 (HG2.out.fr f3 (fun h => h)); have u3 := blk0 (HG3.out.fr f3 (fun h => h)); clear hs3 f3 z2)
    have b2 := HG2.out.fr HF3.out (fun h => h)
    have b3 := HG3.out.fr HF3.out (fun h => h)
    have b0 := HG0.out.fr HF3.out (fun h => h)
    have b1 := HG1.out.fr HF3.out (fun h => h)
    obtain ⟨W5, hW5⟩ : ∃ W5, (W3.setCell ⟨n + 1 + 1, 0, none⟩ (.slice A3 (padd P (x.o, x.m)).length c3)).setCell ⟨n + 1 + 1 + 1, 0, none⟩ (.int .i64 0) = W5 := ⟨_, rfl⟩
    have f5 : Fr (fun k => k = n + 1 + 1 ∨ k = n + 1 + 1 + 1) W3 W5 := by
      rw [← hW5]
      exact ((Fr.refl _ W3).setCell (p := ⟨n + 1 + 1, 0, none⟩) (fun _ => .inl rfl) _).setCell (p := ⟨n + 1 + 1 + 1, 0, none⟩) (fun _ => .inr rfl) _
    have c2 : Blk W5 (n + 1 + 1) 64 #[.slice A3 (padd P (x.o, x.m)).length c3] := by
      rw [← hW5]
      have := (b2.set_ 0 (.slice A3 (padd P (x.o, x.m)).length c3)).far (p := ⟨n + 1 + 1 + 1, 0, none⟩) (by simp only []; omega) (.int .i64 0)
      simpa using this
    have c3' : Blk W5 (n + 1 + 1 + 1) 33 #[.int .i64 0] := by
      rw [← hW5]
      have := (b3.far (p := ⟨n + 1 + 1, 0, none⟩) (by simp only []; omega) (.slice A3 (padd P (x.o, x.m)).length c3)).set_ 0 (.int .i64 0)
      simpa using this
    rw [hW5]
    refine ⟨(HF3.out.mono fun _ _ h => h.elim).trans (f5.mono fun k _ h => by omega), ⟨A3, c3, by rw [HSN.out]; exact c2, by rw [HSN.out]; exact HS3.out.fr f5 (fun k hk e => by have := HKK.out; omega)⟩, (HGF.out.trans HF3.out).step f5 (fun k hk e => by have := HNN.out; omega), b0.fr f5 (by omega), b1.fr f5 (by omega), c3'⟩
  case done =>
    intro W hG hKd
    rw [hK] at hKd
    obtain ⟨⟨A1, c1, g2, gs⟩, gf, g0, g1, g3⟩ := hG
    rw [List.take_length] at g2 gs
    have z2 := blk0 g2
    have z0 := blk0 g0
    have y0 := g0.frozen 0
    have z1 := blk0 g1
    have y1 := g1.frozen 0
    have HG0 := hid g0
    have HG1 := hid g1
    have HGS := hid gs
    have HGF := hid gf
    have HKD := hid hKd
    clear g0 g1 g2 g3 gs gf hKd
    gi_wp2
    obtain ⟨W5, hW5⟩ : ∃ W5, (W.setCell ⟨n, 0, none⟩ (.slice A1 (pl F).length c1)).setCell ⟨n + 1, 0, none⟩ (.int .i64 0) = W5 := ⟨_, rfl⟩
    have f5 : Fr (fun k => k = n ∨ k = n + 1) W W5 := by
      rw [← hW5]
      exact ((Fr.refl _ W).setCell (p := ⟨n, 0, none⟩) (fun _ => .inl rfl) _).setCell (p := ⟨n + 1, 0, none⟩) (fun _ => .inr rfl) _
    have b0 : Blk W5 n 64 #[.slice A1 (pl F).length c1] := by
      rw [← hW5]
      have := (HG0.out.set_ 0 (.slice A1 (pl F).length c1)).far (p := ⟨n + 1, 0, none⟩) (by simp only []; omega) (.int .i64 0)
      simpa using this
    have b1 : Blk W5 (n + 1) 33 #[.int .i64 0] := by
      rw [← hW5]
      have := (HG1.out.far (p := ⟨n, 0, none⟩) (by simp only []; omega) (.slice A1 (pl F).length c1)).set_ 0 (.int .i64 0)
      simpa using this
    have hK5 : W5.heap[w2.heap.size]? = some (.deferred (some [])) := by
      rw [hK]
      exact (f5.block K (Array.getElem?_eq_some_iff.1 HKD.out).1 (by have := HKK.out; omega)).trans HKD.out
    rw [hW5]
    refine ⟨by simp, .inl ⟨_, _, rfl, run_takeDeferred hK5, ?_⟩⟩
    have f6 : Fr (fun k => k = K) W5 (W5.putObj w2.heap.size (.deferred none)) := Fr.putObj (S := fun k => k = K) (Fr.refl _ _) (fun _ => hK) _
    have c0 := blk0 (b0.fr f6 (by have := HKK.out; omega))
    have c1' := blk0 (b1.fr f6 (by have := HKK.out; omega))
    refine ⟨.tuple #[.slice A1 (pl F).length c1, .int .i64 0], ?_, A1, c1, by rw [HFE.out], by rw [HFE.out]; exact ((HGS.out.fr f5 (fun k hk e => by have := HKK.out; omega)).fr f6 (fun k hk e => by omega)).rd, by rw [HFE.out]; exact Nat.le_trans HPF.out.2.2 HFN.out, (HGF.out.step f5 (fun k hk e => by have := HNN.out; omega)).step f6 (fun k hk e => by have := HNN.out; have := HKK.out; omega)⟩
    simp [results, Try.f57, go_sem, c0, c1']
end Go.Proofs.Ytoboialfaifbgaa.VaQ
/- Contracts: Live, Bands, Touched where nothing is wrong with what they are handed. Conditions: the extents read as a list of at most 1000 structs of whole numbers of 64 bits; the geometry's Seq and the zone have 64 bits. -/
namespace Go.Proofs.Ytoboialfaifbgaa.VaT
open Go.RowKit MSep MSepC MSpM MGeM GeA GeC PgA PgB RgF PlM PlA VaA VaC VaD VaE VaF VaH VaM VaN VaQ

theorem ckE0 {g : Ge} {xs : List Ex} (hc : ckE g xs = 0) : mayG g ∧ mayL g 0 xs = true := by
  unfold ckE at hc
  by_cases hm : mayG g
  · rw [if_pos hm] at hc
    by_cases hv : mayL g 0 xs = true
    · exact ⟨hm, hv⟩
    · rw [if_neg hv] at hc; omega
  · rw [if_neg hm] at hc; omega
theorem ckZ0 {g : Ge} {xs : List Ex} {z : Int} (hc : ckZ g xs z = 0) : ckE g xs = 0 ∧ g.c ≤ z ∧ z < g.c + g.s := by
  unfold ckZ at hc
  by_cases h : ckE g xs = 0
  · rw [if_pos h] at hc
    by_cases h2 : g.c ≤ z ∧ z < g.c + g.s
    · exact ⟨h, h2⟩
    · rw [if_neg h2] at hc; omega
  · rw [if_neg h] at hc; exact absurd hc h
theorem okX_may {g : Ge} {x : Ex} (h : okX g x) : 1 ≤ x.m ∧ may (sx x) := by
  obtain ⟨h1, _, h3⟩ := h
  obtain ⟨h4, h5, _⟩ := cko0 h1
  obtain ⟨_, _, h6⟩ := inG h4
  unfold may sx
  dsimp only
  rcases h3 with ⟨_, h3⟩ | ⟨_, _, h3⟩ <;> omega
theorem nG {g : Ge} (h : mayG g) : (lay g).b = (((g.s - g.k - 1).toNat : Nat) : Int) := by
  have h1 := (good h.1).b0
  have h2 := (good h.1).b1
  omega
set_option maxRecDepth 100000 in
set_option maxHeartbeats 1000000 in
theorem live_y (gc gs gn gl gk : Int) (A : Option Addr) (l c : Nat) (xs : List Ex) (z : Int) (w : World) (hs : r64 gs) (hl : l ≤ 1000) (hx : RdX w A l xs) (hw : ∀ x ∈ xs, exW x) (hz : r64 z) (hc : ckZ ⟨gc, gs, gn, gl, gk⟩ xs z = 0) :
    Calls Try.prog 31 #[gv gc gs gn gl gk, .slice A l c, .int .i64 z] w fun e w' => ∃ A' c', e = .returned (.tuple #[.slice A' (pl (xs.filter (inZ z))).length c', .int .i64 0]) ∧ RdS w' A' (pl (xs.filter (inZ z))).length (pl (xs.filter (inZ z))) ∧ (pl (xs.filter (inZ z))).length ≤ 1000 ∧ Fr No w w' := by
  have HF := hid (fr1 w (bg gc gs gn gl gk))
  have P0 := hid (BG.new w gc gs gn gl gk)
  have HC := hid (fun W (h : RdX W A l xs) => checkZone_ok gc gs gn gl gk A l c xs z W hs (by unfold maxLen; omega) h hw hz)
  rw [hc] at HC
  have hok := mayL_all (ckE0 (ckZ0 hc).1).2
  have HV := hid (fun W (h : RdX W A l xs) => live_ok A l c xs z W h hl (fun x hx => okX_may (hok x hx)))
  have HX := hid hx
  clear hx hl hw hs hz hc hok
  go_enter Try.func31, Try.ntmps31
  go_wp2_with (first | ((with_reducible refine ld_geom rfl (.tmp 3) rfl w.heap.size ?_ P0.out ?_); · rfl) | (go_at_call 56; refine (HC.out _ (PgB.RdX.fr HX.out HF.out)).mono ?_; rintro e w2 ⟨rfl, f⟩; replace HF := hid (HF.out.trans f); clear f) | (go_at_call 57; refine (HV.out _ (PgB.RdX.fr HX.out HF.out)).mono ?_; rintro e w3 ⟨A', c', rfl, hrd, hle, f⟩; replace HF := hid (HF.out.trans f); have HRD := hid hrd; have HLE := hid hle; clear f hrd hle))
  go_ret2
  exact ⟨A', c', rfl, HRD.out, HLE.out, HF.out⟩
set_option maxRecDepth 100000 in
set_option maxHeartbeats 1000000 in
theorem bands_y (gc gs gn gl gk : Int) (A : Option Addr) (l c : Nat) (xs : List Ex) (z : Int) (w : World) (hs : r64 gs) (hl : l ≤ 1000) (hx : RdX w A l xs) (hw : ∀ x ∈ xs, exW x) (hz : r64 z) (hc : ckZ ⟨gc, gs, gn, gl, gk⟩ xs z = 0) :
    Calls Try.prog 32 #[gv gc gs gn gl gk, .slice A l c, .int .i64 z] w fun e w' => ∃ A' c', e = .returned (.tuple #[.slice A' (bds (gn - 1) z xs (gs - gk - 1).toNat).length c', .int .i64 0]) ∧ RdI w' A' (bds (gn - 1) z xs (gs - gk - 1).toNat).length (bds (gn - 1) z xs (gs - gk - 1).toNat) ∧ Fr No w w' := by
  have HF := hid (fr1 w (bg gc gs gn gl gk))
  have P0 := hid (BG.new w gc gs gn gl gk)
  have HC := hid (fun W (h : RdX W A l xs) => checkZone_ok gc gs gn gl gk A l c xs z W hs (by unfold maxLen; omega) h hw hz)
  rw [hc] at HC
  obtain ⟨hce, hz0, hz1⟩ := ckZ0 hc
  have hmm := ckE0 hce
  have hg := inG hmm.1
  dsimp only at hg hz0 hz1
  have hok := mayL_all hmm.2
  have HM := hid hmm.1
  have HS := hid hs
  have HOK := hid (fun x (h : x ∈ xs.filter (inZ z)) => hok x (List.mem_filter.1 h).1)
  have HLN := hid (show (xs.filter (inZ z)).length ≤ 1000 from Nat.le_trans (List.length_filter_le _ _) (by have := hx.1; omega))
  have e1 : xs.filter (inZ z) = xs.filter (soZ z) := by
    refine List.filter_congr (fun x _ => ?_)
    unfold inZ soZ
    rw [decide_eq_false (by omega : ¬ z < 0), Bool.false_or]
  have HCB := hid (compact_bds z hmm.2 (good hmm.1.1).d0 (nG hmm.1) hmm.1)
  rw [← e1] at HCB
  dsimp only at HCB
  have HI := hid (fun W (h : RdX W A l xs) => in_ok A l c xs z W.heap.size W h (RdX.low h) (by unfold maxLen; omega))
  have HX := hid hx
  obtain ⟨B, hB⟩ : ∃ B, bds (gn - 1) z xs (gs - gk - 1).toNat = B := ⟨_, rfl⟩
  rw [hB] at HCB ⊢
  clear hx hl hw hs hz hc hce hz0 hz1 hmm hg hok e1 hB
  go_enter Try.func32, Try.ntmps32
  go_upto_region 4 with (first | ((with_reducible refine ld_geom rfl (.tmp 3) rfl w.heap.size ?_ P0.out ?_); · rfl) | (go_at_call 56; refine (HC.out _ (PgB.RdX.fr HX.out HF.out)).mono ?_; rintro e w2 ⟨rfl, f⟩; replace HF := hid (HF.out.trans f); replace P0 := hid (P0.out.fr f); clear f))
  obtain ⟨p0, p1, p2, p3, p4⟩ := P0.out.cells
  have FW : Hid (Fr No w2 w2) := hid (Fr.refl No _)
  have FW := kd FW
  refine wp_region_noPanic ?_
  refine wp_region_held_drew (S := (fun W' => W'.cell? ⟨w.heap.size, 0, none⟩ = some (.int .i64 gc) ∧ W'.cell? ⟨w.heap.size, 1, none⟩ = some (.int .i64 gs) ∧ W'.cell? ⟨w.heap.size, 2, none⟩ = some (.int .i64 gn) ∧ W'.cell? ⟨w.heap.size, 3, none⟩ = some (.int .i64 gl) ∧ W'.cell? ⟨w.heap.size, 4, none⟩ = some (.int .i64 gk) ∧ Hid (Fr No w2 W'))) (by kernel_rfl) ?_ (fun hHeld => ?_)
  · (try dsimp only); (first | (go_split_ands; exact ⟨kc f (by assumption), kc f (by assumption), kc f (by assumption), kc f (by assumption), kc f (by assumption), by assumption⟩) | (go_split_ands; exact ⟨(by assumption), (by assumption), (by assumption), (by assumption), (by assumption), by assumption⟩) | (go_split_ands; exact ⟨kc (fr1 _ _) (by assumption), kc (fr1 _ _) (by assumption), kc (fr1 _ _) (by assumption), kc (fr1 _ _) (by assumption), kc (fr1 _ _) (by assumption), kfa (by assumption)⟩))
  refine wpAnyH_take (i := 0) (v := ?v1) rfl (by kernel_rfl) (by kernel_rfl) (by kernel_rfl) (fun _ _ _ h => h) (Or.inl ⟨by kernel_rfl, ?y1⟩) (by assumption) ?_
  case y1 => (intro w hSw; (try dsimp only at hSw); go_simp; all_goals with_reducible rfl)
  try simp only [Act.put, List.getElem_toArray, List.getElem_cons_zero, List.setIfInBounds_toArray, List.set_cons_zero, List.set_cons_succ]
  refine wpAnyH_take (i := 1) (v := ?v2) rfl (by kernel_rfl) (by kernel_rfl) (by kernel_rfl) (fun _ _ _ h => h) (Or.inl ⟨by kernel_rfl, ?y2⟩) (by assumption) ?_
  case y2 => (intro w hSw; (try dsimp only at hSw); go_simp; all_goals with_reducible rfl)
  try simp only [Act.put, List.getElem_toArray, List.getElem_cons_succ, List.getElem_cons_zero, List.setIfInBounds_toArray, List.set_cons_zero, List.set_cons_succ]
  refine wpAnyH_take (i := 2) (v := ?v3) rfl (by kernel_rfl) (by kernel_rfl) (by kernel_rfl) (fun _ _ _ h => h) (Or.inl ⟨by kernel_rfl, ?y3⟩) (by assumption) ?_
  case y3 => (intro w hSw; (try dsimp only at hSw); go_simp; all_goals with_reducible rfl)
  try simp only [Act.put, List.getElem_toArray, List.getElem_cons_succ, List.getElem_cons_zero, List.setIfInBounds_toArray, List.set_cons_zero, List.set_cons_succ]
  refine wpAnyH_ready (rs := [3]) (by kernel_rfl) (by simp) (AllReadyH.cons rfl (fun K hK => ?_) AllReadyH.nil)
  go_simp
  go_at_call 59
  refine (HI.out _ (PgB.RdX.fr HX.out (HF.out.trans (hHeld.2.2.2.2.2).out))).mono ?_
  rintro e W1 ⟨lb, rfl, hit, f⟩
  have FW := kf f hHeld.2.2.2.2.2
  have HIT := hid hit
  clear hit
  dsimp only
  refine hK.out _ _ ?_ (fun hHeld => ?_)
  · (try dsimp only); (first | (go_split_ands; exact ⟨kc f (by assumption), kc f (by assumption), kc f (by assumption), kc f (by assumption), kc f (by assumption), by assumption⟩) | (go_split_ands; exact ⟨(by assumption), (by assumption), (by assumption), (by assumption), (by assumption), by assumption⟩) | (go_split_ands; exact ⟨kc (fr1 _ _) (by assumption), kc (fr1 _ _) (by assumption), kc (fr1 _ _) (by assumption), kc (fr1 _ _) (by assumption), kc (fr1 _ _) (by assumption), kfa (by assumption)⟩))
  clear hK K
  try simp only [Act.put, List.getElem_toArray, List.getElem_cons_succ, List.getElem_cons_zero, List.setIfInBounds_toArray, List.set_cons_zero, List.set_cons_succ]
  refine wpAnyH_ready (rs := [4]) (by kernel_rfl) (by simp) (AllReadyH.cons rfl (fun K hK => ?_) AllReadyH.nil)
  go_simp
  go_at_call 58
  refine (VaO.bandsOf_ok gc gs gn gl gk 105 lb (xs.filter (inZ z)) (gn - 1) _ HS.out HM.out HOK.out HLN.out rfl (enters_of Try.func105 (by kernel_rfl) rfl) (HIT.out _ (fun k hk _ hT => Nat.not_lt.2 hT hk))).mono ?_
  rintro e W1 ⟨A', c', rfl, hrd, f⟩
  have FW := kf f hHeld.2.2.2.2.2
  have HRD := hid hrd
  clear hrd
  dsimp only
  refine hK.out _ _ ?_ (fun hHeld => ?_)
  · (try dsimp only); (first | (go_split_ands; exact ⟨kc f (by assumption), kc f (by assumption), kc f (by assumption), kc f (by assumption), kc f (by assumption), by assumption⟩) | (go_split_ands; exact ⟨(by assumption), (by assumption), (by assumption), (by assumption), (by assumption), by assumption⟩) | (go_split_ands; exact ⟨kc (fr1 _ _) (by assumption), kc (fr1 _ _) (by assumption), kc (fr1 _ _) (by assumption), kc (fr1 _ _) (by assumption), kc (fr1 _ _) (by assumption), kfa (by assumption)⟩))
  clear hK K
  try simp only [Act.put, List.getElem_toArray, List.getElem_cons_succ, List.getElem_cons_zero, List.setIfInBounds_toArray, List.set_cons_zero, List.set_cons_succ]
  refine wpAnyH_take (i := 5) (v := ?v4) rfl (by kernel_rfl) (by kernel_rfl) (by kernel_rfl) (fun _ _ _ h => h) (Or.inl ⟨by kernel_rfl, ?y4⟩) (by assumption) ?_
  case y4 => (intro w hSw; (try dsimp only at hSw); go_simp; all_goals with_reducible rfl)
  try simp only [Act.put, List.getElem_toArray, List.getElem_cons_succ, List.getElem_cons_zero, List.setIfInBounds_toArray, List.set_cons_zero, List.set_cons_succ]
  refine wpAnyH_take (i := 6) (v := ?v5) rfl (by kernel_rfl) (by kernel_rfl) (by kernel_rfl) (fun _ _ _ h => h) (Or.inl ⟨by kernel_rfl, ?y5⟩) (by assumption) ?_
  case y5 => (intro w hSw; (try dsimp only at hSw); go_simp; all_goals with_reducible rfl)
  try simp only [Act.put, List.getElem_toArray, List.getElem_cons_succ, List.getElem_cons_zero, List.setIfInBounds_toArray, List.set_cons_zero, List.set_cons_succ]
  refine wpAnyH_done (by kernel_rfl) ?_ _
  refine NoPanic.normal ?_
  have FX := hHeld.2.2.2.2.2
  clear hHeld
  go_wp2
  go_ret2
  rw [HCB.out] at HRD ⊢
  exact ⟨A', c', rfl, HRD.out, HF.out.trans FX.out⟩
set_option maxRecDepth 100000 in
set_option maxHeartbeats 1000000 in
theorem touched_cap (gc gs gn gl gk : Int) (A : Option Addr) (l c : Nat) (xs : List Ex) (w : World) (hs : r64 gs) (hl : l ≤ 1000) (hx : RdX w A l xs) (hw : ∀ x ∈ xs, exW x) (hc : ckE ⟨gc, gs, gn, gl, gk⟩ xs = 0) :
    Calls Try.prog 33 #[gv gc gs gn gl gk, .slice A l c] w fun e w' => ∃ A' c', e = .returned (.tuple #[.slice A' (bds (gn - 1) (-1) xs (gs - gk - 1).toNat).length c', .int .i64 0]) ∧ RdI w' A' (bds (gn - 1) (-1) xs (gs - gk - 1).toNat).length (bds (gn - 1) (-1) xs (gs - gk - 1).toNat) ∧ (bds (gn - 1) (-1) xs (gs - gk - 1).toNat).length ≤ c' ∧ Fr No w w' := by
  have HF := hid (fr1 w (bg gc gs gn gl gk))
  have P0 := hid (BG.new w gc gs gn gl gk)
  have HC := hid (fun W (h : RdX W A l xs) => check_ok gc gs gn gl gk A l c xs W hs (by unfold maxLen; omega) h hw)
  rw [hc] at HC
  have hmm := ckE0 hc
  have HOK := hid (mayL_all hmm.2)
  have HM := hid hmm.1
  have HS := hid hs
  have HLN := hid (show xs.length ≤ 1000 by have := hx.1; omega)
  have e1 : xs.filter (soZ (-1)) = xs := List.filter_eq_self.2 (fun x _ => rfl)
  have HCB := hid (compact_bds (-1) hmm.2 (good hmm.1.1).d0 (nG hmm.1) hmm.1)
  rw [e1] at HCB
  dsimp only at HCB
  have HI := hid (fun W (h : RdX W A l xs) => values_ok A l c xs W.heap.size W h (RdX.low h) (by unfold maxLen; omega))
  have HX := hid hx
  obtain ⟨B, hB⟩ : ∃ B, bds (gn - 1) (-1) xs (gs - gk - 1).toNat = B := ⟨_, rfl⟩
  rw [hB] at HCB ⊢
  clear hx hl hw hs hc hmm e1 hB
  go_enter Try.func33, Try.ntmps33
  go_upto_region 4 with (first | ((with_reducible refine ld_geom rfl (.tmp 2) rfl w.heap.size ?_ P0.out ?_); · rfl) | (go_at_call 55; refine (HC.out _ (PgB.RdX.fr HX.out HF.out)).mono ?_; rintro e w2 ⟨rfl, f⟩; replace HF := hid (HF.out.trans f); replace P0 := hid (P0.out.fr f); clear f))
  obtain ⟨p0, p1, p2, p3, p4⟩ := P0.out.cells
  have FW : Hid (Fr No w2 w2) := hid (Fr.refl No _)
  have FW := kd FW
  refine wp_region_noPanic ?_
  refine wp_region_held_drew (S := (fun W' => W'.cell? ⟨w.heap.size, 0, none⟩ = some (.int .i64 gc) ∧ W'.cell? ⟨w.heap.size, 1, none⟩ = some (.int .i64 gs) ∧ W'.cell? ⟨w.heap.size, 2, none⟩ = some (.int .i64 gn) ∧ W'.cell? ⟨w.heap.size, 3, none⟩ = some (.int .i64 gl) ∧ W'.cell? ⟨w.heap.size, 4, none⟩ = some (.int .i64 gk) ∧ Hid (Fr No w2 W'))) (by kernel_rfl) ?_ (fun hHeld => ?_)
  · (try dsimp only); (first | (go_split_ands; exact ⟨kc f (by assumption), kc f (by assumption), kc f (by assumption), kc f (by assumption), kc f (by assumption), by assumption⟩) | (go_split_ands; exact ⟨(by assumption), (by assumption), (by assumption), (by assumption), (by assumption), by assumption⟩) | (go_split_ands; exact ⟨kc (fr1 _ _) (by assumption), kc (fr1 _ _) (by assumption), kc (fr1 _ _) (by assumption), kc (fr1 _ _) (by assumption), kc (fr1 _ _) (by assumption), kfa (by assumption)⟩))
  refine wpAnyH_take (i := 0) (v := ?v6) rfl (by kernel_rfl) (by kernel_rfl) (by kernel_rfl) (fun _ _ _ h => h) (Or.inl ⟨by kernel_rfl, ?y6⟩) (by assumption) ?_
  case y6 => (intro w hSw; (try dsimp only at hSw); go_simp; all_goals with_reducible rfl)
  try simp only [Act.put, List.getElem_toArray, List.getElem_cons_zero, List.setIfInBounds_toArray, List.set_cons_zero, List.set_cons_succ]
  refine wpAnyH_take (i := 1) (v := ?v7) rfl (by kernel_rfl) (by kernel_rfl) (by kernel_rfl) (fun _ _ _ h => h) (Or.inl ⟨by kernel_rfl, ?y7⟩) (by assumption) ?_
  case y7 => (intro w hSw; (try dsimp only at hSw); go_simp; all_goals with_reducible rfl)
  try simp only [Act.put, List.getElem_toArray, List.getElem_cons_succ, List.getElem_cons_zero, List.setIfInBounds_toArray, List.set_cons_zero, List.set_cons_succ]
  refine wpAnyH_ready (rs := [2]) (by kernel_rfl) (by simp) (AllReadyH.cons rfl (fun K hK => ?_) AllReadyH.nil)
  go_simp
  go_at_call 60
  refine (HI.out _ (PgB.RdX.fr HX.out (HF.out.trans (hHeld.2.2.2.2.2).out))).mono ?_
  rintro e W1 ⟨lb, rfl, hit, f⟩
  have FW := kf f hHeld.2.2.2.2.2
  have HIT := hid hit
  clear hit
  dsimp only
  refine hK.out _ _ ?_ (fun hHeld => ?_)
  · (try dsimp only); (first | (go_split_ands; exact ⟨kc f (by assumption), kc f (by assumption), kc f (by assumption), kc f (by assumption), kc f (by assumption), by assumption⟩) | (go_split_ands; exact ⟨(by assumption), (by assumption), (by assumption), (by assumption), (by assumption), by assumption⟩) | (go_split_ands; exact ⟨kc (fr1 _ _) (by assumption), kc (fr1 _ _) (by assumption), kc (fr1 _ _) (by assumption), kc (fr1 _ _) (by assumption), kc (fr1 _ _) (by assumption), kfa (by assumption)⟩))
  clear hK K
  try simp only [Act.put, List.getElem_toArray, List.getElem_cons_succ, List.getElem_cons_zero, List.setIfInBounds_toArray, List.set_cons_zero, List.set_cons_succ]
  refine wpAnyH_ready (rs := [3]) (by kernel_rfl) (by simp) (AllReadyH.cons rfl (fun K hK => ?_) AllReadyH.nil)
  go_simp
  go_at_call 58
  refine (VaO.bandsOf_cap gc gs gn gl gk 82 lb xs (gn - 1) _ HS.out HM.out HOK.out HLN.out rfl (enters_of Try.func82 (by kernel_rfl) rfl) (HIT.out _ (fun k hk _ hT => Nat.not_lt.2 hT hk))).mono ?_
  rintro e W1 ⟨A', c', rfl, hrd, hcp, f⟩
  have HCP := hid hcp
  clear hcp
  have FW := kf f hHeld.2.2.2.2.2
  have HRD := hid hrd
  clear hrd
  dsimp only
  refine hK.out _ _ ?_ (fun hHeld => ?_)
  · (try dsimp only); (first | (go_split_ands; exact ⟨kc f (by assumption), kc f (by assumption), kc f (by assumption), kc f (by assumption), kc f (by assumption), by assumption⟩) | (go_split_ands; exact ⟨(by assumption), (by assumption), (by assumption), (by assumption), (by assumption), by assumption⟩) | (go_split_ands; exact ⟨kc (fr1 _ _) (by assumption), kc (fr1 _ _) (by assumption), kc (fr1 _ _) (by assumption), kc (fr1 _ _) (by assumption), kc (fr1 _ _) (by assumption), kfa (by assumption)⟩))
  clear hK K
  try simp only [Act.put, List.getElem_toArray, List.getElem_cons_succ, List.getElem_cons_zero, List.setIfInBounds_toArray, List.set_cons_zero, List.set_cons_succ]
  refine wpAnyH_take (i := 4) (v := ?v8) rfl (by kernel_rfl) (by kernel_rfl) (by kernel_rfl) (fun _ _ _ h => h) (Or.inl ⟨by kernel_rfl, ?y8⟩) (by assumption) ?_
  case y8 => (intro w hSw; (try dsimp only at hSw); go_simp; all_goals with_reducible rfl)
  try simp only [Act.put, List.getElem_toArray, List.getElem_cons_succ, List.getElem_cons_zero, List.setIfInBounds_toArray, List.set_cons_zero, List.set_cons_succ]
  refine wpAnyH_take (i := 5) (v := ?v9) rfl (by kernel_rfl) (by kernel_rfl) (by kernel_rfl) (fun _ _ _ h => h) (Or.inl ⟨by kernel_rfl, ?y9⟩) (by assumption) ?_
  case y9 => (intro w hSw; (try dsimp only at hSw); go_simp; all_goals with_reducible rfl)
  try simp only [Act.put, List.getElem_toArray, List.getElem_cons_succ, List.getElem_cons_zero, List.setIfInBounds_toArray, List.set_cons_zero, List.set_cons_succ]
  refine wpAnyH_done (by kernel_rfl) ?_ _
  refine NoPanic.normal ?_
  have FX := hHeld.2.2.2.2.2
  clear hHeld
  go_wp2
  go_ret2
  rw [HCB.out] at HRD HCP ⊢
  exact ⟨A', c', rfl, HRD.out, HCP.out, HF.out.trans FX.out⟩
theorem touched_y (gc gs gn gl gk : Int) (A : Option Addr) (l c : Nat) (xs : List Ex) (w : World) (hs : r64 gs) (hl : l ≤ 1000) (hx : RdX w A l xs) (hw : ∀ x ∈ xs, exW x) (hc : ckE ⟨gc, gs, gn, gl, gk⟩ xs = 0) :
    Calls Try.prog 33 #[gv gc gs gn gl gk, .slice A l c] w fun e w' => ∃ A' c', e = .returned (.tuple #[.slice A' (bds (gn - 1) (-1) xs (gs - gk - 1).toNat).length c', .int .i64 0]) ∧ RdI w' A' (bds (gn - 1) (-1) xs (gs - gk - 1).toNat).length (bds (gn - 1) (-1) xs (gs - gk - 1).toNat) ∧ Fr No w w' := by
  refine (touched_cap gc gs gn gl gk A l c xs w hs hl hx hw hc).mono ?_
  rintro e w' ⟨A', c', h1, h2, _, h3⟩
  exact ⟨A', c', h1, h2, h3⟩
end Go.Proofs.Ytoboialfaifbgaa.VaT
/- Contract: whether extents' sectors are apart, by the program. Conditions: the extents read as a list of at most 1000 structs of whole numbers of 64 bits; the geometry's Seq has 64 bits. -/
namespace Go.Proofs.Ytoboialfaifbgaa.VaS
open Go.RowKit MSep MSepC MSpM MGeM GeA GeC PgA PgB RgF VaA VaB VaC VaD VaE VaF VaH VaN VaP VaQ SpJ

theorem grb {w w' : World} (f : Fr No w w') : w.grownBy w' none := ⟨f.os, f.tape, f.output, f.size, fun i hi _ => f.block i hi (fun h => h)⟩
theorem frb {w w' : World} {r : Nat} (h : w.grownBy w' (some r)) : Fr (fun q => q = r) w w' := ⟨h.os, h.tape, h.output, h.size, fun i hi hn => h.block i hi (fun e => hn (by injection e))⟩
theorem samek (x z : Int) : (kz z).sameKey (kz x) = decide (z = x) := by
  by_cases h : z = x
  · subst h; simp [Lit.sameKey]
  · simp [Lit.sameKey, h]
set_option maxRecDepth 100000 in
set_option maxHeartbeats 2000000 in
theorem apart_ok (gc gs gn gl gk : Int) (A : Option Addr) (l c : Nat) (xs : List Ex) (w : World) (hs : r64 gs) (hl : l ≤ 1000) (hx : RdX w A l xs) (hw : ∀ x ∈ xs, exW x) :
    Calls Try.prog 34 #[gv gc gs gn gl gk, .slice A l c] w fun e w' => e = .returned (.bool (apB ⟨gc, gs, gn, gl, gk⟩ xs)) ∧ Fr No w w' := by
  have HF := hid (fr1 w (bg gc gs gn gl gk))
  have P0 := hid (BG.new w gc gs gn gl gk)
  have HV := hid (fun W (h : RdX W A l xs) => vmay_ok gc gs gn gl gk A l c xs W hs (by unfold maxLen; omega) h hw)
  have HX := hid hx
  unfold apB
  cases hv : vM ⟨gc, gs, gn, gl, gk⟩ xs
  · rw [hv] at HV
    rw [Bool.false_and]
    clear hx hl hw hs hv
    go_enter Try.func34, Try.ntmps34
    go_wp2_with (first | ((with_reducible refine ld_geom rfl (.tmp 2) rfl w.heap.size ?_ P0.out ?_); · rfl) | (go_at_call 35; refine (HV.out _ (PgB.RdX.fr HX.out HF.out)).mono ?_; rintro e w2 ⟨rfl, f⟩; replace HF := hid (HF.out.trans f); clear f))
    go_ret
    exact ⟨rfl, HF.out⟩
  rw [hv] at HV
  rw [Bool.true_and]
  have hmm : mayG ⟨gc, gs, gn, gl, gk⟩ ∧ mayL ⟨gc, gs, gn, gl, gk⟩ 0 xs = true := by
    unfold vM at hv
    rw [Bool.and_eq_true, decide_eq_true_eq] at hv
    exact hv
  have hok := mayL_all hmm.2
  have HT := hid (ap_tot hmm.1 hok)
  have hbd : ∀ x ∈ xs, 0 ≤ x.m ∧ x.m ≤ 1099511627776 := fun x hx => (okX_in (hok x hx)).1
  have HMS := hid (fun x hx => (okX_zone (hok x hx)).1)
  have HLY := hid (fun W (h : RdX W A l xs) => lying_ok A l c xs W h hl hw hbd)
  have HLV := hid (fun z W (h : RdX W A l xs) => live_ok A l c xs z W h hl HMS.out)
  have HRS := hid (fun z => (pl_ok (L := xs.filter (inZ z)) (fun x hx => (HMS.out x (List.mem_filter.1 hx).1).2)).1)
  obtain ⟨V, hV⟩ : ∃ V, decide (apL xs) = V := ⟨_, rfl⟩
  rw [hV]
  have HVV := hid hV
  clear hx hl hw hs hv hmm hok hbd hV
  go_enter Try.func34, Try.ntmps34
  go_wp2_with (first | ((with_reducible refine ld_geom rfl (.tmp 2) rfl w.heap.size ?_ P0.out ?_); · rfl) | (go_at_call 35; refine (HV.out _ (PgB.RdX.fr HX.out HF.out)).mono ?_; rintro e w2 ⟨rfl, f⟩; replace HF := hid (HF.out.trans f); clear f) | (go_at_call 36; refine (HLY.out _ (PgB.RdX.fr HX.out HF.out)).mono ?_; rintro e w3 ⟨b, n, rfl, hm, hb, hn, f⟩; replace HF := hid (HF.out.trans f); obtain ⟨D, hown, htidy, hat, hhas⟩ := hm; have HOWN := hid hown; have HAT := hid hat; have HAS := hid hhas; clear f hown htidy hat hhas hn) | (at_range; refine wpList_range_own _ rfl (.tmp 14) 69 rfl 3 3 (Maps.int_keyed Try.underlying3) Try.underlying69 _ b n D rfl HOWN.out ?_; intro w4 hrg hg4 hs4))
  have HF4 := hid (HF.out.step (frb (r := w3.heap.size) ⟨hg4.os, hg4.tape, hg4.output, hg4.size, fun i hi _ => hg4.block i hi (by simp)⟩) (fun i hi e => by have := HF.out.size; omega))
  have HBL := hid hb
  obtain ⟨r, hr⟩ : ∃ r, w3.heap.size = r := ⟨_, rfl⟩
  have HRW := hid (show w.heap.size ≤ r by rw [← hr]; exact HF.out.size)
  try rw [hr]
  rw [hr] at hrg
  have HRG := hid hrg
  clear hrg hg4 hs4 hb hr
  go_frame
  go_loopw [5, 6, 7, 8] (fun _ _ _ _ wr => ∃ left cnt, wr.ranges Try.prog 3 (plainElem Try.prog 3) b r n D left cnt ∧ Hid (∀ z, left (kz z) = true → Maps.has D (kz z) = true) ∧ Hid (∀ z, Maps.has D (kz z) = true → left (kz z) = false → tot (pl (xs.filter (inZ z))) = cz xs z) ∧ Fr No w wr) (fun _ _ _ _ wr => wr.rangeLeft b r)
  case atStart => exact ⟨_, _, HRG.out, hid (fun z h => h), hid (fun z h1 h2 => by rw [h1] at h2; cases h2), HF4.out⟩
  case round =>
    obtain ⟨left, cnt, hrg, H1, H2, hf⟩ := hrel
    have HFR := hid hf
    have HRG2 := hid hrg
    clear hf hrg
    go_wp2_with (at_next; refine wpList_next_ranges_ii _ rfl (.tmp 15) rfl 3 3 .i64 .i64 (Maps.int_keyed Try.underlying3) Try.underlying3 Try.underlying3 b r n D left cnt rfl HRG2.out ?_ ?_)
    · intro hc0 hl0
      have HL0 := hid hl0
      have hap : apL xs := HT.out.2 (fun z hz => by
        cases hh : Maps.has D (kz z) with
        | true => exact H2.out z hh (HL0.out _)
        | false =>
          have h3 := HAS.out z
          rw [hh, any_put hz] at h3
          obtain ⟨c1, c2⟩ := cz_no h3.symm
          rw [c1, c2]
          rfl)
      obtain rfl : V = true := by rw [← HVV.out]; exact decide_eq_true hap
      clear hc0 hl0 hap
      go_wp2
      go_ret
      exact ⟨rfl, HFR.out⟩
    · intro x c1 w1 cnt1 hwx hwc hlx hat1 hrg1 hlt hg1 hs1 hen
      have hhx := H1.out x hlx
      have hx255 : x ≠ 255 := by
        rintro rfl
        have h3 := HAS.out 255
        rw [hhx, put_255] at h3
        cases h3
      have hcx : c1 = cz xs x := by
        have h3 := HAT.out x
        rw [hat1] at h3
        rw [cz_filter xs hx255] at h3
        injection h3 with h3
        injection h3
      subst hcx
      have HFR1 := hid (HFR.out.step (frb hg1) (fun i hi e => by have := HRW.out; omega))
      have HRG1 := hid hrg1
      have HLT := hid hlt
      have HX255 := hid hx255
      have HHX := hid hhx
      have HLE := hid (HRG2.out.left_eq)
      obtain ⟨C, hC⟩ : ∃ C, cz xs x = C := ⟨_, rfl⟩
      rw [hC] at hen hwc ⊢
      have HC := hid hC
      obtain ⟨T, hT⟩ : ∃ T, tot (pl (xs.filter (inZ x))) = T := ⟨_, rfl⟩
      have HTT := hid hT
      clear hwx hwc hlx hat1 hrg1 hlt hg1 hs1 hhx hx255 hC hT
      by_cases hq : T = C
      · have hqb : (T == C) = true := by simpa using hq
        have hqb2 : (T != C) = false := by rw [bne, hqb]; rfl
        have HQ := hid hq
        clear hq
        go_wp2_with (first | (go_at_call 57; refine (HLV.out _ _ (PgB.RdX.fr HX.out HFR1.out)).mono ?_; rintro e w2 ⟨A', c', rfl, hrd, hle, f⟩; have HF2 := hid f; have HRD := hid hrd; have HLL := hid hle; clear f hrd hle) | (go_at_call 61; refine (total_ok _ _ _ _ _ (by have := HLL.out; omega) HRD.out (HRS.out _)).mono ?_; rintro e w5 ⟨rfl, f⟩; rw [HTT.out]; have HF5 := hid f; clear f))
        have HRN := hid ((HRG1.out.kept (grb HF2.out) (by simp) (by simp)).kept (grb HF5.out) (by simp) (by simp))
        go_roundw
        case rel => exact ⟨_, _, HRN.out, hid (fun z h => H1.out z (by revert h; cases left (kz z) <;> simp)), hid (fun z h1 h2 => by
          by_cases e : z = x
          · subst e; rw [HTT.out, HC.out]; exact HQ.out
          · exact H2.out z h1 (by rw [samek] at h2; simpa [e] using h2)), (HFR1.out.trans HF2.out).trans HF5.out⟩
        case measure => rw [HRN.out.left_eq, HLE.out]; exact HLT.out
      · have hqb : (T == C) = false := by simpa using hq
        have hqb2 : (T != C) = true := by rw [bne, hqb]; rfl
        obtain rfl : V = false := by
          rw [← HVV.out]
          exact decide_eq_false (fun h => hq (by rw [← HTT.out, ← HC.out]; exact HT.out.1 h x HX255.out))
        clear hq
        go_wp2_with (first | (go_at_call 57; refine (HLV.out _ _ (PgB.RdX.fr HX.out HFR1.out)).mono ?_; rintro e w2 ⟨A', c', rfl, hrd, hle, f⟩; have HF2 := hid f; have HRD := hid hrd; have HLL := hid hle; clear f hrd hle) | (go_at_call 61; refine (total_ok _ _ _ _ _ (by have := HLL.out; omega) HRD.out (HRS.out _)).mono ?_; rintro e w5 ⟨rfl, f⟩; rw [HTT.out]; have HF5 := hid f; clear f))
        go_ret
        exact ⟨rfl, (HFR1.out.trans HF2.out).trans HF5.out⟩
end Go.Proofs.Ytoboialfaifbgaa.VaS
