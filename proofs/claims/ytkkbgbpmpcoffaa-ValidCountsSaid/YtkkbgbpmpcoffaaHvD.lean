import Derived.Test.YtkkbgbpmpcoffaaHvC
import Derived.Test.YtkkbgbpmpcoffaaHvA
import Derived.Test.YtkkbgbpmpcoffaaVaG
/- Contracts: the iterator over zones in which something lies, made; what must come of every program. Conditions: the extents read as a list of at most 1000 structs of whole numbers of 64 bits; the geometry's Seq has 64 bits. -/
namespace Go.Proofs.Ytkkbgbpmpcoffaa.VaU
open Go.RowKit MSep MSepC MSpM MGeM GeA GeC PgA PgB RgF PlM PlA VaA VaC VaD VaE VaF VaH VaM VaN VaQ VaT VaS SpO

/-- The box in which the iterator over zones finds its map: nil where the extents may not be. -/
def ZBox (w : World) (B : Nat) (v : Bool) (xs : List Ex) : Prop := if v = true then ∃ b n, Blk w B 97 #[.map (some b)] ∧ MapZ w b n (xs.filter put) ∧ n ≤ 1000 else Blk w B 97 #[.map none]
set_option maxRecDepth 100000 in
theorem zones_ok (gc gs gn gl gk : Int) (A : Option Addr) (l c : Nat) (xs : List Ex) (w : World) (hs : r64 gs) (hl : l ≤ 1000) (hx : RdX w A l xs) (hw : ∀ x ∈ xs, exW x) :
    Calls Try.prog 31 #[gv gc gs gn gl gk, .slice A l c] w fun e w' => ∃ B, e = .returned (.func (.func 76) #[] #[.pointer (some ⟨B, 0, none⟩)]) ∧ ZBox w' B (vM ⟨gc, gs, gn, gl, gk⟩ xs) xs ∧ Fr No w w' := by
  have HF := hid ((fr1 w (bg gc gs gn gl gk)).alloc (.cells #[.map none] 97))
  have P0 := hid (show BG ((w.alloc (bg gc gs gn gl gk)).alloc (.cells #[.map none] 97)) w.heap.size gc gs gn gl gk from (BG.new w gc gs gn gl gk : Blk _ _ _ _).alloc _)
  have Q0 := hid (show Blk ((w.alloc (bg gc gs gn gl gk)).alloc (.cells #[.map none] 97)) (w.heap.size + 1) 97 #[.map none] by
    have := Blk.new (w.alloc (bg gc gs gn gl gk)) 97 #[.map none]
    rwa [World.size_alloc] at this)
  have HV := hid (fun W (h : RdX W A l xs) => vmay_ok gc gs gn gl gk A l c xs W hs (by unfold maxLen; omega) h hw)
  have HX := hid hx
  cases hv : vM ⟨gc, gs, gn, gl, gk⟩ xs
  · rw [hv] at HV
    clear hx hl hw hs hv
    go_enter Try.func31, Try.ntmps31
    go_wp2_with (first | ((with_reducible refine ld_geom rfl (.tmp 2) rfl w.heap.size ?_ P0.out ?_); · rfl) | (go_at_call 19; refine (HV.out _ (PgB.RdX.fr HX.out HF.out)).mono ?_; rintro e w2 ⟨rfl, f⟩; replace HF := hid (HF.out.trans f); replace Q0 := hid (Q0.out.fr f (fun h => h)); clear f))
    go_ret
    exact ⟨_, rfl, by unfold ZBox; rw [if_neg (by decide)]; exact Q0.out, HF.out⟩
  rw [hv] at HV
  have hmm : mayG ⟨gc, gs, gn, gl, gk⟩ ∧ mayL ⟨gc, gs, gn, gl, gk⟩ 0 xs = true := by
    unfold vM at hv
    rw [Bool.and_eq_true, decide_eq_true_eq] at hv
    exact hv
  have hok := mayL_all hmm.2
  have HLY := hid (fun W (h : RdX W A l xs) => lying_ok A l c xs W h hl hw (fun x hx => (okX_in (hok x hx)).1))
  clear hx hl hw hs hv hmm hok
  go_enter Try.func31, Try.ntmps31
  go_wp2_with (first | ((with_reducible refine ld_geom rfl (.tmp 2) rfl w.heap.size ?_ P0.out ?_); · rfl) | (go_at_call 19; refine (HV.out _ (PgB.RdX.fr HX.out HF.out)).mono ?_; rintro e w2 ⟨rfl, f⟩; replace HF := hid (HF.out.trans f); replace Q0 := hid (Q0.out.fr f (fun h => h)); clear f) | (go_at_call 64; refine (HLY.out _ (PgB.RdX.fr HX.out HF.out)).mono ?_; rintro e w3 ⟨b, n, rfl, hm, hb, hn, f⟩; have HSZ := hid (show w.heap.size + 1 < b by have := Q0.out.lt; omega); replace HF := hid (HF.out.trans f); replace Q0 := hid (Q0.out.fr f (fun h => h)); have HM := hid hm; have HN := hid hn; have y1 := Q0.out.frozen 0; have u1 := PlC.blk0 Q0.out; clear f hm hb hn))
  go_ret
  have f5 : Fr (fun q => q = w.heap.size + 1) w3 (w3.setCell ⟨w.heap.size + 1, 0, none⟩ (.map (some b))) := Fr.set1 w3 (w.heap.size + 1) 0 _
  have q5 := Q0.out.set_ 0 (.map (some b))
  exact ⟨_, rfl, by unfold ZBox; rw [if_pos rfl]; exact ⟨b, n, by simpa using q5, HM.out.kept f5 (by have := HSZ.out; omega), HN.out⟩, HF.out.step f5 (fun i hi e => by omega)⟩
def g0 : Ge := ⟨2, 6, 16, 3, 2⟩
def x0 : List Ex := [⟨0, 5, 3, 2⟩, ⟨20, 1, 255, 0⟩]
theorem may0 : mayG g0 := by decide
theorem mayL0 : mayL g0 0 x0 = true := by decide
theorem ckE_0 : ckE g0 x0 = 0 := by unfold ckE; rw [if_pos may0, if_pos mayL0]
theorem ckZ_0 : ckZ g0 x0 3 = 0 := by unfold ckZ; rw [if_pos ckE_0]; decide
theorem row0 : rowC x0 2 6 6 = [0, 5, 0, 0, 0, 0] := by decide
theorem pl0 : pl (x0.filter (inZ 3)) = [(2, 5)] := by decide
theorem bds0 : bds 15 3 x0 3 = [0] := by decide
theorem bds1 : bds 15 (-1) x0 3 = [0, 1] := by decide
theorem ap0 : apB g0 x0 = true := by
  unfold apB
  rw [show vM g0 x0 = true by unfold vM; rw [decide_eq_true may0, mayL0]; rfl]
  decide
theorem vM0 : vM g0 x0 = true := by unfold vM; rw [decide_eq_true may0, mayL0]; rfl
theorem r6 : r64 6 := by unfold r64; omega
theorem r3 : r64 3 := by unfold r64; omega
theorem w0 : ∀ x ∈ x0, exW x := by
  intro x hx
  simp only [x0, List.mem_cons, List.not_mem_nil, or_false] at hx
  rcases hx with rfl | rfl <;> (unfold exW r64; dsimp only; omega)
abbrev gv0 : Value := gv 2 6 16 3 2
theorem l_counts (A : Option Addr) (c : Nat) (W : World) (hx : RdX W A 2 x0) : Calls Try.prog 17 #[gv0, .slice A 2 c] W fun e w' => ∃ g, e = .returned (.tuple #[.slice (some ⟨g, 0, none⟩) 6 6, .int .i64 0]) ∧ w'.cell? ⟨g, 1, none⟩ = some (.int .i64 5) ∧ Fr No W w' := by
  refine (counts_y 2 6 16 3 2 A 2 c x0 W r6 (by omega) hx w0 ckE_0).mono ?_
  rintro e w' ⟨g, rfl, ho, f⟩
  rw [show (6 : Int).toNat = 6 from rfl, row0] at ho
  exact ⟨g, rfl, PlH.OutI.get (n := 6) (L := [0, 5, 0, 0, 0, 0]) rfl ho (i := 1) rfl, f⟩
theorem l_live (A : Option Addr) (c : Nat) (W : World) (hx : RdX W A 2 x0) : Calls Try.prog 25 #[gv0, .slice A 2 c, .int .i64 3] W fun e w' => ∃ g o c', e = .returned (.tuple #[.slice (some ⟨g, o, none⟩) 1 c', .int .i64 0]) ∧ (w'.cell? ⟨g, o, none⟩ = some (.int .i64 2) ∧ w'.cell? ⟨g, o + 1, none⟩ = some (.int .i64 5)) ∧ Fr No W w' := by
  refine (live_y 2 6 16 3 2 A 2 c x0 3 W r6 (by omega) hx w0 r3 ckZ_0).mono ?_
  rintro e w' ⟨A', c', rfl, hrd, _, f⟩
  rw [pl0] at hrd ⊢
  obtain ⟨g, o, rfl, _, hc⟩ := hrd.at_ (by decide)
  have h := hc 0 (2, 5) rfl
  exact ⟨g, o, c', rfl, ⟨by simpa using h.1, by simpa using h.2⟩, f⟩
theorem l_bands (A : Option Addr) (c : Nat) (W : World) (hx : RdX W A 2 x0) : Calls Try.prog 26 #[gv0, .slice A 2 c, .int .i64 3] W fun e w' => ∃ A' c', e = .returned (.tuple #[.slice A' 1 c', .int .i64 0]) ∧ Fr No W w' := by
  refine (bands_y 2 6 16 3 2 A 2 c x0 3 W r6 (by omega) hx w0 r3 ckZ_0).mono ?_
  rintro e w' ⟨A', c', rfl, _, f⟩
  exact ⟨A', c', by rw [show bds (16 - 1) 3 x0 (6 - 2 - 1 : Int).toNat = [0] from bds0]; rfl, f⟩
theorem l_touched (A : Option Addr) (c : Nat) (W : World) (hx : RdX W A 2 x0) : Calls Try.prog 18 #[gv0, .slice A 2 c] W fun e w' => ∃ g o c', e = .returned (.tuple #[.slice (some ⟨g, o, none⟩) 2 c', .int .i64 0]) ∧ w'.cell? ⟨g, o + 1, none⟩ = some (.int .i64 1) ∧ Fr No W w' := by
  refine (touched_y 2 6 16 3 2 A 2 c x0 W r6 (by omega) hx w0 ckE_0).mono ?_
  rintro e w' ⟨A', c', rfl, hrd, f⟩
  rw [show bds (16 - 1) (-1) x0 (6 - 2 - 1 : Int).toNat = [0, 1] from bds1] at hrd ⊢
  obtain ⟨g, o, rfl, _, hc⟩ := hrd.at_ (by decide)
  exact ⟨g, o, c', rfl, hc 1 1 rfl, f⟩
theorem l_apart (A : Option Addr) (c : Nat) (W : World) (hx : RdX W A 2 x0) : Calls Try.prog 30 #[gv0, .slice A 2 c] W fun e w' => e = .returned (.bool true) ∧ Fr No W w' := by
  have h := apart_ok 2 6 16 3 2 A 2 c x0 W r6 (by omega) hx w0
  rwa [show apB ⟨2, 6, 16, 3, 2⟩ x0 = true from ap0] at h
theorem l_may (A : Option Addr) (c : Nat) (W : World) (hx : RdX W A 2 x0) : Calls Try.prog 19 #[gv0, .slice A 2 c] W fun e w' => e = .returned (.bool true) ∧ Fr No W w' := by
  have h := vmay_ok 2 6 16 3 2 A 2 c x0 W r6 (by simp [maxLen]) hx w0
  rwa [show vM ⟨2, 6, 16, 3, 2⟩ x0 = true from vM0] at h
set_option maxRecDepth 100000 in
set_option maxHeartbeats 2000000 in
theorem lives_ok (w : World) : Calls Try.prog 16 #[] w fun e w' => e = .returned (.bool true) ∧ Fr No w w' := by
  have hnf : ∀ (w : World) (B : Nat), (binOp .neq 48 (.func (.func 76) #[] #[.pointer (some ⟨B, 0, none⟩)]) .nilFunc).run Try.prog w = .ok (.bool true) w := fun w B => by kernel_rfl
  have hsp : ∀ (w : World), (binOp .eql 46 (.agg #[.int .i64 2, .int .i64 5]) (.agg #[.int .i64 2, .int .i64 5])).run Try.prog w = .ok (.bool true) w := fun w => by kernel_rfl
  go_enter Try.func16, Try.ntmps16
  go_upto_region 3 with fail
  obtain ⟨G, hG⟩ : ∃ G, w.heap.size = G := ⟨_, rfl⟩
  obtain ⟨w1, hw1⟩ : ∃ w1, (w.alloc (bg 2 6 16 3 2)).alloc (.cells #[.int .i64 0, .int .i64 5, .int .i64 3, .int .i64 2, .int .i64 20, .int .i64 1, .int .i64 255, .int .i64 0] 95) = w1 := ⟨_, rfl⟩
  have HF := hid (show Fr No w w1 by rw [← hw1]; exact (fr1 _ _).alloc _)
  have P0 := hid (show BG w1 G 2 6 16 3 2 by rw [← hw1, ← hG]; exact (BG.new w 2 6 16 3 2 : Blk _ _ _ _).alloc _)
  have HX := hid (show RdX w1 (some ⟨G + 1, 0, none⟩) 2 x0 by
    rw [← hw1, ← hG]
    have h := Rd.lit (w.alloc (bg 2 6 16 3 2)) [.int .i64 0, .int .i64 5, .int .i64 3, .int .i64 2, .int .i64 20, .int .i64 1, .int .i64 255, .int .i64 0] 95
    rw [World.size_alloc] at h
    exact ⟨rfl, h⟩)
  try rw [show (w.alloc (Obj.cells #[.int .i64 2, .int .i64 6, .int .i64 16, .int .i64 3, .int .i64 2] 23)).alloc (Obj.cells #[.int .i64 0, .int .i64 5, .int .i64 3, .int .i64 2, .int .i64 20, .int .i64 1, .int .i64 255, .int .i64 0] 95) = w1 from hw1]
  try rw [World.size_alloc]
  try rw [hG]
  clear hw1 hG
  go_wp2_with (first | ((with_reducible refine ld_geom rfl (.tmp 1) rfl G ?_ P0.out ?_); · rfl) | (go_at_call 17; refine (l_counts _ _ _ HX.out).mono ?_; rintro e w2 ⟨gc1, rfl, hc, f⟩; replace HF := hid (HF.out.trans f); replace P0 := hid (BG.fr P0.out f); replace HX := hid (PgB.RdX.fr HX.out f); have HC1 := hid hc; clear f hc) | (go_at_call 25; refine (l_live _ _ _ HX.out).mono ?_; rintro e w3 ⟨gc2, oc2, cc2, rfl, hc, f⟩; replace HF := hid (HF.out.trans f); replace P0 := hid (BG.fr P0.out f); replace HX := hid (PgB.RdX.fr HX.out f); replace HC1 := hid (f.cell_some HC1.out (fun h => h)); have HC2 := hid hc; clear f hc) | (go_at_call 26; refine (l_bands _ _ _ HX.out).mono ?_; rintro e w4 ⟨A4, cc4, rfl, f⟩; replace HF := hid (HF.out.trans f); replace P0 := hid (BG.fr P0.out f); replace HX := hid (PgB.RdX.fr HX.out f); replace HC1 := hid (f.cell_some HC1.out (fun h => h)); replace HC2 := hid (And.intro (f.cell_some HC2.out.1 (fun h => h)) (f.cell_some HC2.out.2 (fun h => h))); clear f) | (go_at_call 18; refine (l_touched _ _ _ HX.out).mono ?_; rintro e w5 ⟨gc5, oc5, cc5, rfl, hc5, f⟩; replace HF := hid (HF.out.trans f); replace P0 := hid (BG.fr P0.out f); replace HX := hid (PgB.RdX.fr HX.out f); have hc1 := f.cell_some HC1.out (fun h => h); have hc2 := f.cell_some HC2.out.1 (fun h => h); have hc3 := f.cell_some HC2.out.2 (fun h => h); obtain ⟨p0, p1, p2, p3, p4⟩ := BG.cells P0.out; clear f) | (go_at_call 30; refine (l_apart _ _ _ HX.out).mono ?_; rintro e w6 ⟨rfl, f⟩; replace HF := hid (HF.out.trans f); replace P0 := hid (BG.fr P0.out f); replace HX := hid (PgB.RdX.fr HX.out f); clear p0 p1 p2 p3 p4; obtain ⟨p0, p1, p2, p3, p4⟩ := BG.cells P0.out; clear f) | (go_at_call 19; refine (l_may _ _ _ HX.out).mono ?_; rintro e w7 ⟨rfl, f⟩; replace HF := hid (HF.out.trans f); replace P0 := hid (BG.fr P0.out f); replace HX := hid (PgB.RdX.fr HX.out f); clear p0 p1 p2 p3 p4; obtain ⟨p0, p1, p2, p3, p4⟩ := BG.cells P0.out; clear f) | (go_at_call 31; refine (zones_ok 2 6 16 3 2 _ 2 _ x0 _ r6 (by omega) HX.out w0).mono ?_; rintro e w8 ⟨B8, rfl, _, f⟩; replace HF := hid (HF.out.trans f); clear f))
  go_ret
  exact ⟨rfl, HF.out⟩
end Go.Proofs.Ytkkbgbpmpcoffaa.VaU
/- The law ValidApart. Conditions: the extents read as a list of structs of whole numbers of 64 bits; the geometry's Seq has 64 bits. -/
namespace Go.Proofs.Ytkkbgbpmpcoffaa.VaW
open Go.RowKit MSep MSepC MSpM MGeM GeA GeC PgA PgB RgF PlM PlA VaA VaB VaC VaD VaE VaF VaG VaH VaJ VaK VaM VaN VaP VaQ VaT VaS VaU SpJ

set_option maxRecDepth 100000 in
set_option maxHeartbeats 2000000 in
theorem apart_far (gc gs gn gl gk : Int) (A : Option Addr) (l c : Nat) (xs : List Ex) (w : World) (_hs : r64 gs) (_hl0 : l ≤ maxLen) (hx : RdX w A l xs) (_hw : ∀ x ∈ xs, exW x) (hf : ¬ (l ≤ 60 ∧ gn ≤ 64 ∧ gs ≤ 20)) :
    Calls Try.prog 5 #[gv gc gs gn gl gk, .slice A l c] w fun e w' => e = .returned (.bool true) ∧ Fr No w w' := by
  have HSM := hid (show false = decide (l ≤ 60 ∧ gn ≤ 64 ∧ gs ≤ 20) from (decide_eq_false hf).symm)
  obtain ⟨G, hG⟩ : ∃ G, w.heap.size = G := ⟨_, rfl⟩
  obtain ⟨w1, hw1⟩ : ∃ w1, w.alloc (bg gc gs gn gl gk) = w1 := ⟨_, rfl⟩
  have HF := hid (show Fr No w w1 by rw [← hw1]; exact fr1 _ _)
  have P0 := hid (show BG w1 G gc gs gn gl gk by rw [← hw1, ← hG]; exact BG.new w gc gs gn gl gk)
  have HX := hid hx
  have HW1 := hid hw1
  clear _hs _hl0 hx _hw hf
  go_enter Try.func5, Try.ntmps5
  go_upto_region 1 with fail
  try rw [show w.alloc (Obj.cells #[.int .i64 gc, .int .i64 gs, .int .i64 gn, .int .i64 gl, .int .i64 gk] 23) = w1 from HW1.out]
  try rw [hG]
  clear hG hw1
  go_wp2_with (first | ((with_reducible refine ld_geom rfl (.tmp 2) rfl G ?_ P0.out ?_); · rfl) | (go_at_call 15; refine (small_ok gc gs gn gl gk A l c _ false HSM.out).mono ?_; rintro e w2 ⟨rfl, f⟩; replace HF := hid (HF.out.trans f); replace P0 := hid (BG.fr P0.out f); clear f) | (go_at_call 16; refine (lives_ok _).mono ?_; rintro e w3 ⟨rfl, f⟩; replace HF := hid (HF.out.trans f); replace P0 := hid (BG.fr P0.out f); clear f))
  go_ret
  exact ⟨rfl, HF.out⟩
theorem wj_b {j n : Nat} (h : j < n) (h2 : n ≤ 1000) : -9223372036854775808 ≤ (j : Int) + 1 ∧ (j : Int) + 1 ≤ 9223372036854775807 := by omega
theorem wt_b {T sa sm : Int} {n : Nat} (h1 : 0 ≤ T) (h2 : T ≤ (n : Int) * 1099511627776) (h3 : n ≤ 1000) (h4 : 0 ≤ sa ∧ 0 ≤ sm ∧ sa + sm ≤ 1099511627776) : -9223372036854775808 ≤ T + sm ∧ T + sm ≤ 9223372036854775807 := by omega
set_option maxRecDepth 100000 in
set_option maxHeartbeats 4000000 in
theorem apart_near (gc gs gn gl gk : Int) (A : Option Addr) (l c : Nat) (xs : List Ex) (w : World) (hs : r64 gs) (_hl0 : l ≤ maxLen) (hx : RdX w A l xs) (hw : ∀ x ∈ xs, exW x) (hf : l ≤ 60 ∧ gn ≤ 64 ∧ gs ≤ 20) :
    Calls Try.prog 5 #[gv gc gs gn gl gk, .slice A l c] w fun e w' => e = .returned (.bool true) ∧ Fr No w w' := by
  have HSM := hid (show true = decide (l ≤ 60 ∧ gn ≤ 64 ∧ gs ≤ 20) from (decide_eq_true hf).symm)
  have hl : l ≤ 1000 := by omega
  have HRA := hid (fun W (h : RdX W A l xs) => rapart_ok gc gs gn gl gk A l c xs W hs hl h hw)
  have HPA := hid (fun W (h : RdX W A l xs) => apart_ok gc gs gn gl gk A l c xs W hs hl h hw)
  obtain ⟨G, hG⟩ : ∃ G, w.heap.size = G := ⟨_, rfl⟩
  obtain ⟨w1, hw1⟩ : ∃ w1, w.alloc (bg gc gs gn gl gk) = w1 := ⟨_, rfl⟩
  have HF := hid (show Fr No w w1 by rw [← hw1]; exact fr1 _ _)
  have P0 := hid (show BG w1 G gc gs gn gl gk by rw [← hw1, ← hG]; exact BG.new w gc gs gn gl gk)
  have HX := hid hx
  have HW1 := hid hw1
  cases hv : apB ⟨gc, gs, gn, gl, gk⟩ xs with
  | false =>
    rw [hv] at HRA HPA
    clear hs _hl0 hx hw hf hl hv
    go_enter Try.func5, Try.ntmps5
    go_upto_region 1 with fail
    try rw [show w.alloc (Obj.cells #[.int .i64 gc, .int .i64 gs, .int .i64 gn, .int .i64 gl, .int .i64 gk] 23) = w1 from HW1.out]
    try rw [hG]
    clear hG hw1
    go_wp2_with (first | ((with_reducible refine ld_geom rfl (.tmp 2) rfl G ?_ P0.out ?_); · rfl) | (go_at_call 15; refine (small_ok gc gs gn gl gk A l c _ true HSM.out).mono ?_; rintro e w2 ⟨rfl, f⟩; replace HF := hid (HF.out.trans f); replace P0 := hid (BG.fr P0.out f); clear f) | (go_at_call 16; refine (lives_ok _).mono ?_; rintro e w4 ⟨rfl, f⟩; replace HF := hid (HF.out.trans f); replace P0 := hid (BG.fr P0.out f); clear f; obtain ⟨p0, p1, p2, p3, p4⟩ := BG.cells P0.out) | (go_at_call 29; refine (HRA.out _ (PgB.RdX.fr HX.out HF.out)).mono ?_; rintro e w3 ⟨rfl, f⟩; replace HF := hid (HF.out.trans f); replace P0 := hid (BG.fr P0.out f); clear f) | (go_at_call 30; refine (HPA.out _ (PgB.RdX.fr HX.out HF.out)).mono ?_; rintro e w5 ⟨rfl, f⟩; replace HF := hid (HF.out.trans f); replace P0 := hid (BG.fr P0.out f); clear f; clear p0 p1 p2 p3 p4; obtain ⟨p0, p1, p2, p3, p4⟩ := BG.cells P0.out))
    go_loopw [6] (fun v wr => (∃ z : Int, v = .int .i64 z) ∧ wr = w5) (fun _ _ => 0)
    case atStart => exact ⟨⟨_, rfl⟩, rfl⟩
    case round =>
      obtain ⟨⟨z, rfl⟩, hwr⟩ := hrel
      subst wr
      obtain ⟨y, hy⟩ : ∃ y, wrap64 (gc + gs) = y := ⟨_, rfl⟩
      by_cases hz : z < y
      · have hzb : decide (z < y) = true := decide_eq_true hz
        go_wp2
        go_ret
        exact ⟨rfl, HF.out⟩
      · have hzb : decide (z < y) = false := decide_eq_false hz
        go_wp2
        go_ret
        exact ⟨rfl, HF.out⟩
  | true =>
    have hv2 := hv
    unfold apB at hv2
    rw [Bool.and_eq_true, decide_eq_true_eq] at hv2
    have hmm : mayG ⟨gc, gs, gn, gl, gk⟩ ∧ mayL ⟨gc, gs, gn, gl, gk⟩ 0 xs = true := by
      have := hv2.1
      unfold vM at this
      rw [Bool.and_eq_true, decide_eq_true_eq] at this
      exact this
    have hok := mayL_all hmm.2
    have HTT := hid ((ap_tot hmm.1 hok).1 hv2.2)
    have hg := inG hmm.1
    dsimp only at hg
    have hckE : ckE ⟨gc, gs, gn, gl, gk⟩ xs = 0 := by unfold ckE; rw [if_pos hmm.1, if_pos hmm.2]
    have HLV := hid (fun z (h : gc ≤ z ∧ z < gc + gs) W (hx : RdX W A l xs) => live_y gc gs gn gl gk A l c xs z W hs hl hx hw (by unfold r64; omega) (by unfold ckZ; rw [if_pos hckE, if_pos h]))
    have HCT := hid (fun z W (hx : RdX W A l xs) => rcnt_ok A l c xs z W hl hx (fun x hx => (okX_in (hok x hx)).1))
    have HRS := hid (fun z => (pl_ok (L := xs.filter (inZ z)) (fun x hx => (okX_zone (hok x (List.mem_filter.1 hx).1)).1.2)).1)
    have HGG := hid (show (2 ≤ gc ∧ gc ≤ 16) ∧ 4 ≤ gs ∧ gs ≤ 128 from ⟨hg.1, hg.2.1⟩)
    rw [hv] at HRA HPA
    clear hs _hl0 hx hw hf hl hv hv2 hmm hok hg hckE
    go_enter Try.func5, Try.ntmps5
    go_upto_region 1 with fail
    try rw [show w.alloc (Obj.cells #[.int .i64 gc, .int .i64 gs, .int .i64 gn, .int .i64 gl, .int .i64 gk] 23) = w1 from HW1.out]
    try rw [hG]
    clear hG hw1
    go_wp2_with (first | ((with_reducible refine ld_geom rfl (.tmp 2) rfl G ?_ P0.out ?_); · rfl) | (go_at_call 15; refine (small_ok gc gs gn gl gk A l c _ true HSM.out).mono ?_; rintro e w2 ⟨rfl, f⟩; replace HF := hid (HF.out.trans f); replace P0 := hid (BG.fr P0.out f); clear f) | (go_at_call 16; refine (lives_ok _).mono ?_; rintro e w4 ⟨rfl, f⟩; replace HF := hid (HF.out.trans f); replace P0 := hid (BG.fr P0.out f); clear f; obtain ⟨p0, p1, p2, p3, p4⟩ := BG.cells P0.out) | (go_at_call 29; refine (HRA.out _ (PgB.RdX.fr HX.out HF.out)).mono ?_; rintro e w3 ⟨rfl, f⟩; replace HF := hid (HF.out.trans f); replace P0 := hid (BG.fr P0.out f); clear f) | (go_at_call 30; refine (HPA.out _ (PgB.RdX.fr HX.out HF.out)).mono ?_; rintro e w5 ⟨rfl, f⟩; replace HF := hid (HF.out.trans f); replace P0 := hid (BG.fr P0.out f); clear f; clear p0 p1 p2 p3 p4; obtain ⟨p0, p1, p2, p3, p4⟩ := BG.cells P0.out))
    obtain ⟨N, hN⟩ : ∃ N : Nat, gs = (N : Int) := ⟨gs.toNat, by have := HGG.out; omega⟩
    subst hN
    go_loopw [6] (fun v wr => ∃ k : Nat, v = .int .i64 (gc + k) ∧ k ≤ N ∧ Fr No w5 wr) (fun v _ => (gc + N - intOf v).toNat)
    case atStart => exact ⟨0, by simp, by omega, Fr.refl _ _⟩
    case round =>
      obtain ⟨k, rfl, hk, hf⟩ := hrel
      clear p0 p1 p2 p3 p4
      obtain ⟨p0, p1, p2, p3, p4⟩ := BG.cells (BG.fr P0.out hf)
      have hwg : wrap64 (gc + (N : Int)) = gc + N := by have := HGG.out; exact SpA.w64 _ (by omega)
      have hwk : wrap64 (gc + (k : Int) + 1) = gc + k + 1 := by have := HGG.out; exact SpA.w64 _ (by omega)
      have HFF := hid hf
      clear hf
      by_cases hlt : k < N
      case neg =>
        have hzb : decide (gc + (k : Int) < gc + N) = false := decide_eq_false (by omega)
        go_wp2
        go_ret
        exact ⟨rfl, HF.out.trans HFF.out⟩
      have hzb : decide (gc + (k : Int) < gc + N) = true := decide_eq_true (by omega)
      have hzi : gc + (k : Int) < gc + N := by omega
      have HZ := hid (show gc ≤ gc + (k : Int) ∧ gc + (k : Int) < gc + N by omega)
      obtain ⟨z, hz⟩ : ∃ z, gc + (k : Int) = z := ⟨_, rfl⟩
      rw [hz] at hzb hzi HZ hwk ⊢
      have HZE := hid hz
      have HKL := hid hlt
      have hz255 : z ≠ 255 := by have := HGG.out; have := HZ.out; omega
      have HZT := hid (HTT.out z hz255)
      obtain ⟨S, hS⟩ : ∃ S, pl (xs.filter (inZ z)) = S := ⟨_, rfl⟩
      have HLZ := hid (HLV.out z HZ.out)
      have HRZ := hid (HRS.out z)
      rw [hS] at HZT HLZ HRZ
      clear hz hlt hz255 hS
      go_wp2_with (first | ((with_reducible refine ld_geom rfl (.tmp 2) rfl G ?_ (BG.fr P0.out HFF.out) ?_); · rfl) | (go_at_call 25; refine (HLZ.out _ (PgB.RdX.fr HX.out (HF.out.trans HFF.out))).mono ?_; rintro e w6 ⟨A', c', rfl, hrd, hle, f⟩; have HF6 := hid f; have HRD := hid hrd; have HLE := hid hle; clear f hrd hle p0 p1 p2 p3 p4))
      obtain ⟨wz, hwz⟩ : ∃ wz, wz = w6 := ⟨_, rfl⟩
      go_loopw [9, 10] (fun n i wr => ∃ j : Nat, i = .int .i64 j ∧ j ≤ S.length ∧ n = .int .i64 (tot (S.take j)) ∧ wr = wz) (fun _ i _ => S.length - (intOf i).toNat)
      case atStart => exact ⟨0, rfl, by omega, by simp [tot], hwz.symm⟩
      case round =>
        obtain ⟨j, rfl, hj, rfl, hwr⟩ := hrel
        subst wr
        subst hwz
        by_cases hjl : j < S.length
        case neg =>
          obtain rfl : j = S.length := by omega
          rw [List.take_length, HZT.out]
          obtain ⟨C, hC⟩ : ∃ C, cz xs z = C := ⟨_, rfl⟩
          have HCC := hid hC
          rw [hC]
          clear hC
          go_wp2_with (go_at_call 24; refine (HCT.out _ _ (PgB.RdX.fr HX.out ((HF.out.trans HFF.out).trans HF6.out))).mono ?_; rintro e w7 ⟨rfl, rfl⟩; rw [HCC.out])
          go_roundw
          case rel => exact ⟨k + 1, by first | (rw [← HZE.out]; go_num) | (rw [hwk, ← HZE.out]; simp; omega), HKL.out, HFF.out.trans HF6.out⟩
          case measure => first | (rw [hwk]; simp only [intOf]; omega) | (simp only [intOf]; omega)
        obtain ⟨⟨sa, sm⟩, hgs⟩ : ∃ s, S[j]? = some s := ⟨_, List.getElem?_eq_getElem hjl⟩
        obtain ⟨g, o, rfl, _, hc⟩ := HRD.out.at_ (by omega)
        obtain ⟨c0, c1⟩ := hc j _ hgs
        have hjz : (j : Int) < (S.length : Int) := by omega
        have hwj : wrap64 ((j : Int) + 1) = (j : Int) + 1 := SpA.w64 _ (wj_b hjl HLE.out)
        have hts := tot_snoc hgs
        have htk := tot_range (S.take j) (fun s hs => (HRZ.out.2 s (List.mem_of_mem_take hs)).1)
        have hms := (HRZ.out.2 (sa, sm) (List.mem_of_getElem? hgs)).1
        unfold may at hms
        dsimp only at hts hms c0 c1
        have hlen : (S.take j).length ≤ 1000 := Nat.le_trans (List.length_take_le' _ _) HLE.out
        obtain ⟨T, hT⟩ : ∃ T, tot (S.take j) = T := ⟨_, rfl⟩
        rw [hT] at htk hts
        have hwt : wrap64 (T + sm) = T + sm := SpA.w64 _ (wt_b htk.1 htk.2 hlen hms)
        have HTS := hid hts
        rw [hT]
        clear hc hgs hts htk hms hlen hT
        go_wp2
        go_roundw
        case rel => exact ⟨j + 1, congrArg (Value.int .i64) (hwj.trans (Int.natCast_succ j).symm), Nat.succ_le_of_lt hjl, congrArg (Value.int .i64) (hwt.trans HTS.out.symm), trivial⟩
        case measure => exact VaC.next_m _ _ hjl hwj
end Go.Proofs.Ytkkbgbpmpcoffaa.VaW
