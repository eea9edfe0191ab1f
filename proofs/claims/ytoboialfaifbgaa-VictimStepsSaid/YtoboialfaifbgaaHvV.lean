import Derived.Test.YtoboialfaifbgaaHvC
import Derived.Test.YtoboialfaifbgaaGeA
import Derived.BigQuiet
import Derived.Test.YtoboialfaifbgaaGeEk
/- Contracts: the iterator over zones in which something lies, made; what must come of every program. Conditions: the extents read as a list of at most 1000 structs of whole numbers of 64 bits; the geometry's Seq has 64 bits. -/
namespace Go.Proofs.Ytoboialfaifbgaa.VaU
open Go.RowKit MSep MSepC MSpM MGeM GeA GeC PgA PgB RgF PlM PlA VaA VaC VaD VaE VaF VaH VaM VaN VaQ VaT VaS SpO

/-- The box in which the iterator over zones finds its map: nil where the extents may not be. -/
def ZBox (w : World) (B : Nat) (v : Bool) (xs : List Ex) : Prop := if v = true then ∃ b n, Blk w B 69 #[.map (some b)] ∧ MapZ w b n (xs.filter put) ∧ n ≤ 1000 else Blk w B 69 #[.map none]
set_option maxRecDepth 100000 in
theorem zones_ok (gc gs gn gl gk : Int) (A : Option Addr) (l c : Nat) (xs : List Ex) (w : World) (hs : r64 gs) (hl : l ≤ 1000) (hx : RdX w A l xs) (hw : ∀ x ∈ xs, exW x) :
    Calls Try.prog 11 #[gv gc gs gn gl gk, .slice A l c] w fun e w' => ∃ B, e = .returned (.func (.func 37) #[] #[.pointer (some ⟨B, 0, none⟩)]) ∧ ZBox w' B (vM ⟨gc, gs, gn, gl, gk⟩ xs) xs ∧ Fr No w w' := by
  have HF := hid ((fr1 w (bg gc gs gn gl gk)).alloc (.cells #[.map none] 69))
  have P0 := hid (show BG ((w.alloc (bg gc gs gn gl gk)).alloc (.cells #[.map none] 69)) w.heap.size gc gs gn gl gk from (BG.new w gc gs gn gl gk : Blk _ _ _ _).alloc _)
  have Q0 := hid (show Blk ((w.alloc (bg gc gs gn gl gk)).alloc (.cells #[.map none] 69)) (w.heap.size + 1) 69 #[.map none] by
    have := Blk.new (w.alloc (bg gc gs gn gl gk)) 69 #[.map none]
    rwa [World.size_alloc] at this)
  have HV := hid (fun W (h : RdX W A l xs) => vmay_ok gc gs gn gl gk A l c xs W hs (by unfold maxLen; omega) h hw)
  have HX := hid hx
  cases hv : vM ⟨gc, gs, gn, gl, gk⟩ xs
  · rw [hv] at HV
    clear hx hl hw hs hv
    go_enter Try.func11, Try.ntmps11
    go_wp2_with (first | ((with_reducible refine ld_geom rfl (.tmp 2) rfl w.heap.size ?_ P0.out ?_); · rfl) | (go_at_call 35; refine (HV.out _ (PgB.RdX.fr HX.out HF.out)).mono ?_; rintro e w2 ⟨rfl, f⟩; replace HF := hid (HF.out.trans f); replace Q0 := hid (Q0.out.fr f (fun h => h)); clear f))
    go_ret
    exact ⟨_, rfl, by unfold ZBox; rw [if_neg (by decide)]; exact Q0.out, HF.out⟩
  rw [hv] at HV
  have hmm : mayG ⟨gc, gs, gn, gl, gk⟩ ∧ mayL ⟨gc, gs, gn, gl, gk⟩ 0 xs = true := by
    unfold vM at hv
    rw [Bool.and_eq_true, decide_eq_true_eq] at hv
    exact hv
  have hok := mayL_all hmm.2
  have HLY := hid (fun W (h : RdX W A l xs) => lying_ok A l c xs W h hl hw (fun x hx => (okX_in (hok x hx)).1))
  clear hx hl hw hs hv hmm hok
  go_enter Try.func11, Try.ntmps11
  go_wp2_with (first | ((with_reducible refine ld_geom rfl (.tmp 2) rfl w.heap.size ?_ P0.out ?_); · rfl) | (go_at_call 35; refine (HV.out _ (PgB.RdX.fr HX.out HF.out)).mono ?_; rintro e w2 ⟨rfl, f⟩; replace HF := hid (HF.out.trans f); replace Q0 := hid (Q0.out.fr f (fun h => h)); clear f) | (go_at_call 36; refine (HLY.out _ (PgB.RdX.fr HX.out HF.out)).mono ?_; rintro e w3 ⟨b, n, rfl, hm, hb, hn, f⟩; have HSZ := hid (show w.heap.size + 1 < b by have := Q0.out.lt; omega); replace HF := hid (HF.out.trans f); replace Q0 := hid (Q0.out.fr f (fun h => h)); have HM := hid hm; have HN := hid hn; have y1 := Q0.out.frozen 0; have u1 := PlC.blk0 Q0.out; clear f hm hb hn))
  go_ret
  have f5 : Fr (fun q => q = w.heap.size + 1) w3 (w3.setCell ⟨w.heap.size + 1, 0, none⟩ (.map (some b))) := Fr.set1 w3 (w.heap.size + 1) 0 _
  have q5 := Q0.out.set_ 0 (.map (some b))
  exact ⟨_, rfl, by unfold ZBox; rw [if_pos rfl]; exact ⟨b, n, by simpa using q5, HM.out.kept f5 (by have := HSZ.out; omega), HN.out⟩, HF.out.step f5 (fun i hi e => by omega)⟩
def g0 : Ge := ⟨2, 6, 16, 3, 2⟩
def x0 : List Ex := [⟨0, 5, 3, 2⟩, ⟨20, 1, 255, 0⟩]
theorem may0 : mayG g0 := by decide
theorem mayL0 : mayL g0 0 x0 = true := by decide
theorem ckE_0 : ckE g0 x0 = 0 := by unfold ckE; rw [if_pos may0, if_pos mayL0]
theorem ckZ_0 : ckZ g0 x0 3 = 0 := by unfold ckZ; rw [if_pos ckE_0]; decide
theorem row0 : rowC x0 2 6 6 = [0, 5, 0, 0, 0, 0] := by decide
theorem pl0 : pl (x0.filter (inZ 3)) = [(2, 5)] := by decide
theorem bds0 : bds 15 3 x0 3 = [0] := by decide
theorem bds1 : bds 15 (-1) x0 3 = [0, 1] := by decide
theorem ap0 : apB g0 x0 = true := by
  unfold apB
  rw [show vM g0 x0 = true by unfold vM; rw [decide_eq_true may0, mayL0]; rfl]
  decide
theorem vM0 : vM g0 x0 = true := by unfold vM; rw [decide_eq_true may0, mayL0]; rfl
theorem r6 : r64 6 := by unfold r64; omega
theorem r3 : r64 3 := by unfold r64; omega
theorem w0 : ∀ x ∈ x0, exW x := by
  intro x hx
  simp only [x0, List.mem_cons, List.not_mem_nil, or_false] at hx
  rcases hx with rfl | rfl <;> (unfold exW r64; dsimp only; omega)
abbrev gv0 : Value := gv 2 6 16 3 2
theorem l_counts (A : Option Addr) (c : Nat) (W : World) (hx : RdX W A 2 x0) : Calls Try.prog 30 #[gv0, .slice A 2 c] W fun e w' => ∃ g, e = .returned (.tuple #[.slice (some ⟨g, 0, none⟩) 6 6, .int .i64 0]) ∧ w'.cell? ⟨g, 1, none⟩ = some (.int .i64 5) ∧ Fr No W w' := by
  refine (counts_y 2 6 16 3 2 A 2 c x0 W r6 (by omega) hx w0 ckE_0).mono ?_
  rintro e w' ⟨g, rfl, ho, f⟩
  rw [show (6 : Int).toNat = 6 from rfl, row0] at ho
  exact ⟨g, rfl, PlH.OutI.get (n := 6) (L := [0, 5, 0, 0, 0, 0]) rfl ho (i := 1) rfl, f⟩
theorem l_live (A : Option Addr) (c : Nat) (W : World) (hx : RdX W A 2 x0) : Calls Try.prog 31 #[gv0, .slice A 2 c, .int .i64 3] W fun e w' => ∃ g o c', e = .returned (.tuple #[.slice (some ⟨g, o, none⟩) 1 c', .int .i64 0]) ∧ (w'.cell? ⟨g, o, none⟩ = some (.int .i64 2) ∧ w'.cell? ⟨g, o + 1, none⟩ = some (.int .i64 5)) ∧ Fr No W w' := by
  refine (live_y 2 6 16 3 2 A 2 c x0 3 W r6 (by omega) hx w0 r3 ckZ_0).mono ?_
  rintro e w' ⟨A', c', rfl, hrd, _, f⟩
  rw [pl0] at hrd ⊢
  obtain ⟨g, o, rfl, _, hc⟩ := hrd.at_ (by decide)
  have h := hc 0 (2, 5) rfl
  exact ⟨g, o, c', rfl, ⟨by simpa using h.1, by simpa using h.2⟩, f⟩
theorem l_bands (A : Option Addr) (c : Nat) (W : World) (hx : RdX W A 2 x0) : Calls Try.prog 32 #[gv0, .slice A 2 c, .int .i64 3] W fun e w' => ∃ A' c', e = .returned (.tuple #[.slice A' 1 c', .int .i64 0]) ∧ Fr No W w' := by
  refine (bands_y 2 6 16 3 2 A 2 c x0 3 W r6 (by omega) hx w0 r3 ckZ_0).mono ?_
  rintro e w' ⟨A', c', rfl, _, f⟩
  exact ⟨A', c', by rw [show bds (16 - 1) 3 x0 (6 - 2 - 1 : Int).toNat = [0] from bds0]; rfl, f⟩
theorem l_touched (A : Option Addr) (c : Nat) (W : World) (hx : RdX W A 2 x0) : Calls Try.prog 33 #[gv0, .slice A 2 c] W fun e w' => ∃ g o c', e = .returned (.tuple #[.slice (some ⟨g, o, none⟩) 2 c', .int .i64 0]) ∧ w'.cell? ⟨g, o + 1, none⟩ = some (.int .i64 1) ∧ Fr No W w' := by
  refine (touched_y 2 6 16 3 2 A 2 c x0 W r6 (by omega) hx w0 ckE_0).mono ?_
  rintro e w' ⟨A', c', rfl, hrd, f⟩
  rw [show bds (16 - 1) (-1) x0 (6 - 2 - 1 : Int).toNat = [0, 1] from bds1] at hrd ⊢
  obtain ⟨g, o, rfl, _, hc⟩ := hrd.at_ (by decide)
  exact ⟨g, o, c', rfl, hc 1 1 rfl, f⟩
theorem l_apart (A : Option Addr) (c : Nat) (W : World) (hx : RdX W A 2 x0) : Calls Try.prog 34 #[gv0, .slice A 2 c] W fun e w' => e = .returned (.bool true) ∧ Fr No W w' := by
  have h := apart_ok 2 6 16 3 2 A 2 c x0 W r6 (by omega) hx w0
  rwa [show apB ⟨2, 6, 16, 3, 2⟩ x0 = true from ap0] at h
theorem l_may (A : Option Addr) (c : Nat) (W : World) (hx : RdX W A 2 x0) : Calls Try.prog 35 #[gv0, .slice A 2 c] W fun e w' => e = .returned (.bool true) ∧ Fr No W w' := by
  have h := vmay_ok 2 6 16 3 2 A 2 c x0 W r6 (by simp [maxLen]) hx w0
  rwa [show vM ⟨2, 6, 16, 3, 2⟩ x0 = true from vM0] at h
set_option maxRecDepth 100000 in
set_option maxHeartbeats 2000000 in
theorem lives_ok (w : World) : Calls Try.prog 10 #[] w fun e w' => e = .returned (.bool true) ∧ Fr No w w' := by
  have hnf : ∀ (w : World) (B : Nat), (binOp .neq 28 (.func (.func 37) #[] #[.pointer (some ⟨B, 0, none⟩)]) .nilFunc).run Try.prog w = .ok (.bool true) w := fun w B => by kernel_rfl
  have hsp : ∀ (w : World), (binOp .eql 68 (.agg #[.int .i64 2, .int .i64 5]) (.agg #[.int .i64 2, .int .i64 5])).run Try.prog w = .ok (.bool true) w := fun w => by kernel_rfl
  go_enter Try.func10, Try.ntmps10
  go_upto_region 3 with fail
  obtain ⟨G, hG⟩ : ∃ G, w.heap.size = G := ⟨_, rfl⟩
  obtain ⟨w1, hw1⟩ : ∃ w1, (w.alloc (bg 2 6 16 3 2)).alloc (.cells #[.int .i64 0, .int .i64 5, .int .i64 3, .int .i64 2, .int .i64 20, .int .i64 1, .int .i64 255, .int .i64 0] 62) = w1 := ⟨_, rfl⟩
  have HF := hid (show Fr No w w1 by rw [← hw1]; exact (fr1 _ _).alloc _)
  have P0 := hid (show BG w1 G 2 6 16 3 2 by rw [← hw1, ← hG]; exact (BG.new w 2 6 16 3 2 : Blk _ _ _ _).alloc _)
  have HX := hid (show RdX w1 (some ⟨G + 1, 0, none⟩) 2 x0 by
    rw [← hw1, ← hG]
    have h := Rd.lit (w.alloc (bg 2 6 16 3 2)) [.int .i64 0, .int .i64 5, .int .i64 3, .int .i64 2, .int .i64 20, .int .i64 1, .int .i64 255, .int .i64 0] 62
    rw [World.size_alloc] at h
    exact ⟨rfl, h⟩)
  try rw [show (w.alloc (Obj.cells #[.int .i64 2, .int .i64 6, .int .i64 16, .int .i64 3, .int .i64 2] 23)).alloc (Obj.cells #[.int .i64 0, .int .i64 5, .int .i64 3, .int .i64 2, .int .i64 20, .int .i64 1, .int .i64 255, .int .i64 0] 62) = w1 from hw1]
  try rw [World.size_alloc]
  try rw [hG]
  clear hw1 hG
  go_wp2_with (first | ((with_reducible refine ld_geom rfl (.tmp 1) rfl G ?_ P0.out ?_); · rfl) | (go_at_call 30; refine (l_counts _ _ _ HX.out).mono ?_; rintro e w2 ⟨gc1, rfl, hc, f⟩; replace HF := hid (HF.out.trans f); replace P0 := hid (BG.fr P0.out f); replace HX := hid (PgB.RdX.fr HX.out f); have HC1 := hid hc; clear f hc) | (go_at_call 31; refine (l_live _ _ _ HX.out).mono ?_; rintro e w3 ⟨gc2, oc2, cc2, rfl, hc, f⟩; replace HF := hid (HF.out.trans f); replace P0 := hid (BG.fr P0.out f); replace HX := hid (PgB.RdX.fr HX.out f); replace HC1 := hid (f.cell_some HC1.out (fun h => h)); have HC2 := hid hc; clear f hc) | (go_at_call 32; refine (l_bands _ _ _ HX.out).mono ?_; rintro e w4 ⟨A4, cc4, rfl, f⟩; replace HF := hid (HF.out.trans f); replace P0 := hid (BG.fr P0.out f); replace HX := hid (PgB.RdX.fr HX.out f); replace HC1 := hid (f.cell_some HC1.out (fun h => h)); replace HC2 := hid (And.intro (f.cell_some HC2.out.1 (fun h => h)) (f.cell_some HC2.out.2 (fun h => h))); clear f) | (go_at_call 33; refine (l_touched _ _ _ HX.out).mono ?_; rintro e w5 ⟨gc5, oc5, cc5, rfl, hc5, f⟩; replace HF := hid (HF.out.trans f); replace P0 := hid (BG.fr P0.out f); replace HX := hid (PgB.RdX.fr HX.out f); have hc1 := f.cell_some HC1.out (fun h => h); have hc2 := f.cell_some HC2.out.1 (fun h => h); have hc3 := f.cell_some HC2.out.2 (fun h => h); obtain ⟨p0, p1, p2, p3, p4⟩ := BG.cells P0.out; clear f) | (go_at_call 34; refine (l_apart _ _ _ HX.out).mono ?_; rintro e w6 ⟨rfl, f⟩; replace HF := hid (HF.out.trans f); replace P0 := hid (BG.fr P0.out f); replace HX := hid (PgB.RdX.fr HX.out f); clear p0 p1 p2 p3 p4; obtain ⟨p0, p1, p2, p3, p4⟩ := BG.cells P0.out; clear f) | (go_at_call 35; refine (l_may _ _ _ HX.out).mono ?_; rintro e w7 ⟨rfl, f⟩; replace HF := hid (HF.out.trans f); replace P0 := hid (BG.fr P0.out f); replace HX := hid (PgB.RdX.fr HX.out f); clear p0 p1 p2 p3 p4; obtain ⟨p0, p1, p2, p3, p4⟩ := BG.cells P0.out; clear f) | (go_at_call 11; refine (zones_ok 2 6 16 3 2 _ 2 _ x0 _ r6 (by omega) HX.out w0).mono ?_; rintro e w8 ⟨B8, rfl, _, f⟩; replace HF := hid (HF.out.trans f); clear f))
  go_ret
  exact ⟨rfl, HF.out⟩
end Go.Proofs.Ytoboialfaifbgaa.VaU
/- Contracts: what a policy asks of a choice, key by key; two choices compared. No condition. -/
namespace Go.Proofs.Ytoboialfaifbgaa.ViA
open Go.RowKit MSep MSepC GeA
theorem fr1d (w : World) (A : Obj) : Fr No w (w.alloc A).drew := (fr1 w A).drew
theorem kfae {a b : World} {o : Obj} (h : Hid (Fr No a b.drew)) : Hid (Fr No a (b.alloc o).drew) := hid (h.out.alloc o)

/-- A choice. -/
structure Ch where
  z : Int
  lv : Int
  bd : Int
  ag : Int
deriving DecidableEq
abbrev chv (x : Ch) : Value := .agg #[.int .i64 x.z, .int .i64 x.lv, .int .i64 x.bd, .int .i64 x.ag]
abbrev och (x : Ch) : Obj := .cells #[.int .i64 x.z, .int .i64 x.lv, .int .i64 x.bd, .int .i64 x.ag] 37
def BC (w : World) (g : Nat) (x : Ch) : Prop := Blk w g 37 #[.int .i64 x.z, .int .i64 x.lv, .int .i64 x.bd, .int .i64 x.ag]
theorem BC.new (w : World) (x : Ch) : BC (w.alloc (och x)) w.heap.size x := Blk.new w _ _
theorem BC.fr {w w' : World} {g : Nat} {x : Ch} (h : BC w g x) (f : Fr No w w') : BC w' g x := Blk.fr h f (fun h => h)
theorem BC.cells {w : World} {g : Nat} {x : Ch} (h : BC w g x) : w.cell? ⟨g, 0, none⟩ = some (.int .i64 x.z) ∧ w.cell? ⟨g, 1, none⟩ = some (.int .i64 x.lv) ∧ w.cell? ⟨g, 2, none⟩ = some (.int .i64 x.bd) ∧ w.cell? ⟨g, 3, none⟩ = some (.int .i64 x.ag) :=
  ⟨Blk.cell h 0, Blk.cell h 1, Blk.cell h 2, Blk.cell h 3⟩
def cmpI (x y : Int) : Int := if x < y then -1 else if y < x then 1 else 0
theorem cmpI_0 {x y : Int} : cmpI x y = 0 ↔ x = y := by unfold cmpI; split <;> (try split) <;> omega
def thn (x y : Int) : Int := if x = 0 then y else x
/-- Two choices compared by policy 1, by policy 2. -/
def c1 (a b : Ch) : Int := thn (cmpI a.ag b.ag) (cmpI a.z b.z)
def c2 (a b : Ch) : Int := thn (cmpI a.lv b.lv) (c1 a b)
set_option maxRecDepth 100000 in
theorem isNaN_ok (x : Int) (w : World) : Calls Try.prog 76 #[.int .i64 x] w fun e w' => e = .returned (.bool false) ∧ w = w' := by
  go_enter Try.func76, Try.ntmps76
  go_wp2
  go_ret
  exact ⟨by simp, rfl⟩
set_option maxRecDepth 100000 in
theorem compare_ok (x y : Int) (w : World) : Calls Try.prog 52 #[.int .i64 x, .int .i64 y] w fun e w' => e = .returned (.int .i64 (if x < y then -1 else if y < x then 1 else 0)) ∧ w = w' := by
  rcases Int.lt_trichotomy x y with h | h | h
  · rw [if_pos h]
    go_enter Try.func52, Try.ntmps52
    go_wp2_with fail
    refine (isNaN_ok _ _).mono ?_
    rintro e w1 ⟨rfl, rfl⟩
    go_wp2_with fail
    refine (isNaN_ok _ _).mono ?_
    rintro e w1 ⟨rfl, rfl⟩
    go_wp2
    go_ret
    exact ⟨rfl, rfl⟩
  · subst h
    rw [if_neg (by omega), if_neg (by omega)]
    go_enter Try.func52, Try.ntmps52
    go_wp2_with fail
    refine (isNaN_ok _ _).mono ?_
    rintro e w1 ⟨rfl, rfl⟩
    go_wp2_with fail
    refine (isNaN_ok _ _).mono ?_
    rintro e w1 ⟨rfl, rfl⟩
    go_wp2
    all_goals (go_ret; exact ⟨by first | rfl | (simp_all; done), rfl⟩)
  · have h' : ¬ x < y := by omega
    rw [if_neg h', if_pos h]
    go_enter Try.func52, Try.ntmps52
    go_wp2_with fail
    refine (isNaN_ok _ _).mono ?_
    rintro e w1 ⟨rfl, rfl⟩
    go_wp2_with fail
    refine (isNaN_ok _ _).mono ?_
    rintro e w1 ⟨rfl, rfl⟩
    go_wp2
    go_ret
    exact ⟨rfl, rfl⟩
theorem cmp_ok (x y : Int) (w : World) : Calls Try.prog 52 #[.int .i64 x, .int .i64 y] w fun e w' => e = .returned (.int .i64 (cmpI x y)) ∧ Fr No w w' := by
  refine (compare_ok x y w).mono ?_
  rintro e w' ⟨rfl, rfl⟩
  exact ⟨rfl, Fr.refl _ _⟩
set_option maxRecDepth 100000 in
theorem k_lv (x : Ch) (w : World) : Calls Try.prog 91 #[chv x] w fun e w' => e = .returned (.int .i64 x.lv) ∧ Fr No w w' := by
  go_enter Try.func91, Try.ntmps91
  go_wp2
  go_ret
  exact ⟨rfl, fr1 _ _⟩
set_option maxRecDepth 100000 in
theorem k_ag (x : Ch) (w : World) : Calls Try.prog 92 #[chv x] w fun e w' => e = .returned (.int .i64 x.ag) ∧ Fr No w w' := by
  go_enter Try.func92, Try.ntmps92
  go_wp2
  go_ret
  exact ⟨rfl, fr1 _ _⟩
set_option maxRecDepth 100000 in
theorem k_z (x : Ch) (w : World) : Calls Try.prog 93 #[chv x] w fun e w' => e = .returned (.int .i64 x.z) ∧ Fr No w w' := by
  go_enter Try.func93, Try.ntmps93
  go_wp2
  go_ret
  exact ⟨rfl, fr1 _ _⟩
/-- The keys of policy 1, as they lie. -/
def K1 (w : World) (S : Nat) : Prop := Blk w S 112 #[.func (.func 92) #[] #[], .func (.func 93) #[] #[]]
set_option maxRecDepth 100000 in
theorem keys1 (w : World) : Calls Try.prog 70 #[.int .i64 1] w fun e w' => ∃ S, e = .returned (.slice (some ⟨S, 0, none⟩) 2 2) ∧ K1 w' S ∧ Fr No w w' := by
  go_enter Try.func70, Try.ntmps70
  go_wp2
  go_ret
  exact ⟨_, rfl, Blk.new _ _ _, fr1 _ _⟩
/-- The keys of policy 2, as they lie. -/
def K2 (w : World) (S : Nat) : Prop := Blk w S 112 #[.func (.func 91) #[] #[], .func (.func 92) #[] #[], .func (.func 93) #[] #[]]
set_option maxRecDepth 100000 in
theorem keys2 (w : World) : Calls Try.prog 70 #[.int .i64 2] w fun e w' => ∃ S, e = .returned (.slice (some ⟨S, 0, none⟩) 3 3) ∧ K2 w' S ∧ Fr No w w' := by
  go_enter Try.func70, Try.ntmps70
  go_wp2
  go_ret
  exact ⟨_, rfl, Blk.new _ _ _, fr1 _ _⟩
set_option maxRecDepth 100000 in
theorem keys_no (p : Int) (w : World) (h1 : p ≠ 1) (h2 : p ≠ 2) : Calls Try.prog 70 #[.int .i64 p] w fun e w' => e = .returned (.slice none 0 0) ∧ Fr No w w' := by
  have e1 : (p == 1) = false := by simpa using h1
  have e2 : (p == 2) = false := by simpa using h2
  clear h1 h2
  go_enter Try.func70, Try.ntmps70
  go_wp2
  go_ret
  exact ⟨rfl, Fr.refl _ _⟩
/-- The box in which the comparison by policy 1 finds its keys. -/
def KB1 (w : World) (B : Nat) : Prop := ∃ S, Blk w B 109 #[.slice (some ⟨S, 0, none⟩) 2 2] ∧ K1 w S
theorem KB1.fr {w w' : World} {B : Nat} (h : KB1 w B) (f : Fr No w w') : KB1 w' B := by
  obtain ⟨S, h1, h2⟩ := h
  exact ⟨S, h1.fr f (fun h => h), Blk.fr h2 f (fun h => h)⟩
set_option maxRecDepth 100000 in
theorem comparison1 (w : World) : Calls Try.prog 41 #[.int .i64 1] w fun e w' => ∃ B, e = .returned (.tuple #[.func (.func 71) #[] #[.pointer (some ⟨B, 0, none⟩)], .int .i64 0]) ∧ KB1 w' B ∧ Fr No w w' := by
  go_enter Try.func41, Try.ntmps41
  go_wp2_with (go_at_call 70; refine (keys1 _).mono ?_; rintro e w2 ⟨S, rfl, hk, f⟩; have HK := hid hk; have HF := hid f; clear hk f)
  go_ret2
  exact ⟨w2.heap.size, rfl, ⟨S, Blk.new _ _ _, Blk.alloc HK.out _⟩, HF.out.alloc _⟩
/-- The box in which the comparison by policy 2 finds its keys. -/
def KB2 (w : World) (B : Nat) : Prop := ∃ S, Blk w B 109 #[.slice (some ⟨S, 0, none⟩) 3 3] ∧ K2 w S
theorem KB2.fr {w w' : World} {B : Nat} (h : KB2 w B) (f : Fr No w w') : KB2 w' B := by
  obtain ⟨S, h1, h2⟩ := h
  exact ⟨S, h1.fr f (fun h => h), Blk.fr h2 f (fun h => h)⟩
set_option maxRecDepth 100000 in
theorem comparison2 (w : World) : Calls Try.prog 41 #[.int .i64 2] w fun e w' => ∃ B, e = .returned (.tuple #[.func (.func 71) #[] #[.pointer (some ⟨B, 0, none⟩)], .int .i64 0]) ∧ KB2 w' B ∧ Fr No w w' := by
  go_enter Try.func41, Try.ntmps41
  go_wp2_with (go_at_call 70; refine (keys2 _).mono ?_; rintro e w2 ⟨S, rfl, hk, f⟩; have HK := hid hk; have HF := hid f; clear hk f)
  go_ret2
  exact ⟨w2.heap.size, rfl, ⟨S, Blk.new _ _ _, Blk.alloc HK.out _⟩, HF.out.alloc _⟩
set_option maxRecDepth 100000 in
theorem comparison_no (p : Int) (w : World) (h1 : p ≠ 1) (h2 : p ≠ 2) : Calls Try.prog 41 #[.int .i64 p] w fun e w' => e = .returned (.tuple #[.nilFunc, .int .i64 1]) ∧ Fr No w w' := by
  go_enter Try.func41, Try.ntmps41
  go_wp2_with (go_at_call 70; refine (keys_no p _ h1 h2).mono ?_; rintro e w2 ⟨rfl, f⟩; have HF := hid f; clear f)
  go_ret2
  exact ⟨rfl, HF.out.alloc _⟩
/-- As Fr, and no answer of the tape is taken back. -/
def Gx (S : Nat → Prop) (w w' : World) : Prop := Fr S w w' ∧ w.drawn ≤ w'.drawn
theorem Gx.grown {w w' : World} (h : Gx No w w') : ∃ n os, w' = Sort.grow (w.drewN n) os := by
  obtain ⟨f, hd⟩ := h
  refine ⟨w'.drawn - w.drawn, w'.heap.extract w.heap.size w'.heap.size, ?_⟩
  have hh : w'.heap = w.heap ++ w'.heap.extract w.heap.size w'.heap.size := by
    refine Array.ext_getElem? fun k => ?_
    by_cases hk : k < w.heap.size
    · rw [Array.getElem?_append_left hk]
      exact f.block k hk (fun h => h)
    · rw [Array.getElem?_append_right (by omega), Array.getElem?_extract]
      have hs := f.size
      split
      · congr 1
        omega
      · rw [Array.getElem?_eq_none]
        omega
  have e : w' = ⟨w'.heap, w'.tape, w'.drawn, w'.os, w'.output⟩ := rfl
  rw [e]
  unfold Sort.grow World.drewN
  simp only [World.mk.injEq]
  exact ⟨hh, f.tape, by omega, f.os, f.output⟩
namespace Gz
theorem Gx.refl (S : Nat → Prop) (w : World) : Gx S w w := ⟨Fr.refl _ _, Nat.le_refl _⟩
theorem _root_.Go.Proofs.Ytoboialfaifbgaa.ViA.Gx.trans {S : Nat → Prop} {a b c : World} (h : Gx S a b) (k : Gx S b c) : Gx S a c := ⟨h.1.trans k.1, Nat.le_trans h.2 k.2⟩
theorem _root_.Go.Proofs.Ytoboialfaifbgaa.ViA.Gx.alloc {S : Nat → Prop} {a b : World} (h : Gx S a b) (o : Obj) : Gx S a (b.alloc o) := ⟨h.1.alloc o, h.2⟩
theorem _root_.Go.Proofs.Ytoboialfaifbgaa.ViA.Gx.drew {S : Nat → Prop} {a b : World} (h : Gx S a b) : Gx S a b.drew := ⟨h.1.drew, Nat.le_succ_of_le h.2⟩
theorem fr1 (w : World) (A : Obj) : Gx No w (w.alloc A) := (Gx.refl No w).alloc A
theorem fr1d (w : World) (A : Obj) : Gx No w (w.alloc A).drew := (fr1 w A).drew
theorem kf {a b c : World} (k : Gx No b c) (h : Hid (Gx No a b)) : Hid (Gx No a c) := hid (h.out.trans k)
theorem kc {b c : World} {p : Addr} {v : Value} (k : Gx No b c) (h : b.cell? p = some v) : c.cell? p = some v := k.1.cell_some h (fun h => h)
theorem kd {a b : World} (h : Hid (Gx No a b)) : Hid (Gx No a b.drew) := hid h.out.drew
theorem kfa {a b : World} {o : Obj} (h : Hid (Gx No a b)) : Hid (Gx No a (b.alloc o)) := hid (h.out.alloc o)
theorem kfae {a b : World} {o : Obj} (h : Hid (Gx No a b.drew)) : Hid (Gx No a (b.alloc o).drew) := hid ⟨h.out.1.alloc o, h.out.2⟩
theorem cmp_ok (x y : Int) (w : World) : Calls Try.prog 52 #[.int .i64 x, .int .i64 y] w fun e w' => e = .returned (.int .i64 (cmpI x y)) ∧ Gx No w w' := by
  refine (compare_ok x y w).mono ?_
  rintro e w' ⟨rfl, rfl⟩
  exact ⟨rfl, Gx.refl _ _⟩
set_option maxRecDepth 100000 in
theorem k_lv (x : Ch) (w : World) : Calls Try.prog 91 #[chv x] w fun e w' => e = .returned (.int .i64 x.lv) ∧ Gx No w w' := by
  go_enter Try.func91, Try.ntmps91
  go_wp2
  go_ret
  exact ⟨rfl, fr1 _ _⟩
set_option maxRecDepth 100000 in
theorem k_ag (x : Ch) (w : World) : Calls Try.prog 92 #[chv x] w fun e w' => e = .returned (.int .i64 x.ag) ∧ Gx No w w' := by
  go_enter Try.func92, Try.ntmps92
  go_wp2
  go_ret
  exact ⟨rfl, fr1 _ _⟩
set_option maxRecDepth 100000 in
theorem k_z (x : Ch) (w : World) : Calls Try.prog 93 #[chv x] w fun e w' => e = .returned (.int .i64 x.z) ∧ Gx No w w' := by
  go_enter Try.func93, Try.ntmps93
  go_wp2
  go_ret
  exact ⟨rfl, fr1 _ _⟩
set_option maxRecDepth 100000 in
set_option maxHeartbeats 4000000 in
theorem cmp1 (a b : Ch) (B : Nat) (w : World) (h : KB1 w B) : Calls Try.prog 71 #[chv a, chv b, .pointer (some ⟨B, 0, none⟩)] w fun e w' => e = .returned (.int .i64 (c1 a b)) ∧ Gx No w w' := by
  obtain ⟨G, hG⟩ : ∃ G, w.heap.size = G := ⟨_, rfl⟩
  obtain ⟨w1, hw1⟩ : ∃ w1, (w.alloc (och a)).alloc (och b) = w1 := ⟨_, rfl⟩
  have HF := hid (show Gx No w w1 by rw [← hw1]; exact (fr1 _ _).alloc _)
  have PA := hid (show BC w1 G a by rw [← hw1, ← hG]; exact Blk.alloc (BC.new w a) _)
  have PB := hid (show BC w1 (G + 1) b by
    rw [← hw1, ← hG]
    have := BC.new (w.alloc (och a)) b
    rwa [World.size_alloc] at this)
  obtain ⟨S, hB, hK⟩ := KB1.fr h HF.out.1
  have y0 : w1.cell? ⟨B, 0, none⟩ = some (.slice (some ⟨S, 0, none⟩) 2 2) := hB.cell 0
  have HK := hid hK
  have HW1 := hid hw1
  clear h hB hK hw1
  go_enter Try.func71, Try.ntmps71
  go_upto_region 1 with fail
  try rw [show (w.alloc (och a)).alloc (och b) = w1 from HW1.out]
  try simp only [World.size_alloc]
  try rw [hG]
  clear hG
  go_upto_region 2 with fail
  clear y0
  go_loopw [11] (fun t wr => ∃ j : Nat, t = .int .i64 j ∧ j ≤ 2 ∧ Gx No w1 wr ∧ (1 ≤ j → cmpI a.ag b.ag = 0) ∧ (2 ≤ j → cmpI a.z b.z = 0)) (fun t _ => 2 - (intOf t).toNat)
  case atStart => exact ⟨0, rfl, by omega, Gx.refl _ _, fun h => absurd h (by omega), fun h => absurd h (by omega)⟩
  case round =>
    obtain ⟨j, rfl, hj, hf, e0, e1⟩ := hrel
    have HI := hid hf
    have HR := hid (HF.out.trans hf)
    have a4 := BC.cells (PA.out.fr hf.1)
    have b4 := BC.cells (PB.out.fr hf.1)
    obtain ⟨a0, a1, a2, a3⟩ := a4
    obtain ⟨b0, b1, b2, b3⟩ := b4
    have hk := Blk.fr HK.out hf.1 (fun h => h)
    match j, hj with
    | 0, _ =>
      clear hf
      have y1 : wr.cell? ⟨S, 0, none⟩ = some (.func (.func 92) #[] #[]) := hk.cell 0
      clear hk
      obtain ⟨R, hR⟩ : ∃ R, cmpI a.ag b.ag = R := ⟨_, rfl⟩
      have HC := hid (fun w => cmp_ok a.ag b.ag w)
      rw [hR] at HC
      have HRR := hid hR
      clear hR e0 e1
      go_upto_region 4 with fail
      have FW := hid (Gx.refl No wr)
      have FW := kd FW
      refine wp_region_noPanic ?_
      refine wp_region_held_drew (S := (fun W' => W'.cell? ⟨G, 0, none⟩ = some (.int .i64 a.z) ∧ W'.cell? ⟨G, 1, none⟩ = some (.int .i64 a.lv) ∧ W'.cell? ⟨G, 2, none⟩ = some (.int .i64 a.bd) ∧ W'.cell? ⟨G, 3, none⟩ = some (.int .i64 a.ag) ∧ W'.cell? ⟨G + 1, 0, none⟩ = some (.int .i64 b.z) ∧ W'.cell? ⟨G + 1, 1, none⟩ = some (.int .i64 b.lv) ∧ W'.cell? ⟨G + 1, 2, none⟩ = some (.int .i64 b.bd) ∧ W'.cell? ⟨G + 1, 3, none⟩ = some (.int .i64 b.ag) ∧ Hid (Gx No wr W'))) (by kernel_rfl) ?_ (fun hHeld => ?_)
      · (try dsimp only); (first | (go_split_ands; exact ⟨kc f (by assumption), kc f (by assumption), kc f (by assumption), kc f (by assumption), kc f (by assumption), kc f (by assumption), kc f (by assumption), kc f (by assumption), by assumption⟩) | (go_split_ands; exact ⟨(by assumption), (by assumption), (by assumption), (by assumption), (by assumption), (by assumption), (by assumption), (by assumption), by assumption⟩) | (go_split_ands; exact ⟨kc (fr1 _ _) (by assumption), kc (fr1 _ _) (by assumption), kc (fr1 _ _) (by assumption), kc (fr1 _ _) (by assumption), kc (fr1 _ _) (by assumption), kc (fr1 _ _) (by assumption), kc (fr1 _ _) (by assumption), kc (fr1 _ _) (by assumption), kfa (by assumption)⟩) | (go_split_ands; exact ⟨kc (fr1d _ _) (by assumption), kc (fr1d _ _) (by assumption), kc (fr1d _ _) (by assumption), kc (fr1d _ _) (by assumption), kc (fr1d _ _) (by assumption), kc (fr1d _ _) (by assumption), kc (fr1d _ _) (by assumption), kc (fr1d _ _) (by assumption), kfae (by assumption)⟩))
      refine wpAnyH_take (i := 0) (v := ?v1) rfl (by kernel_rfl) (by kernel_rfl) (by kernel_rfl) (fun _ _ _ h => h) (Or.inl ⟨by kernel_rfl, ?y1⟩) (by assumption) ?_
      case y1 => (intro w hSw; (try dsimp only at hSw); go_simp; all_goals with_reducible rfl)
      try simp only [Act.put, List.getElem_toArray, List.getElem_cons_zero, List.setIfInBounds_toArray, List.set_cons_zero, List.set_cons_succ]
      refine wpAnyH_take (i := 1) (v := ?v2) rfl (by kernel_rfl) (by kernel_rfl) (by kernel_rfl) (fun _ _ _ h => h) (Or.inl ⟨by kernel_rfl, ?y2⟩) (by assumption) ?_
      case y2 => (intro w hSw; (try dsimp only at hSw); go_simp; all_goals with_reducible rfl)
      try simp only [Act.put, List.getElem_toArray, List.getElem_cons_succ, List.getElem_cons_zero, List.setIfInBounds_toArray, List.set_cons_zero, List.set_cons_succ]
      refine wpAnyH_take (i := 3) (v := ?v3) rfl (by kernel_rfl) (by kernel_rfl) (by kernel_rfl) (fun _ _ _ h => h) (Or.inl ⟨by kernel_rfl, ?y3⟩) (by assumption) ?_
      case y3 => (intro w hSw; (try dsimp only at hSw); go_simp; all_goals with_reducible rfl)
      try simp only [Act.put, List.getElem_toArray, List.getElem_cons_succ, List.getElem_cons_zero, List.setIfInBounds_toArray, List.set_cons_zero, List.set_cons_succ]
      refine wpAnyH_take (i := 4) (v := ?v4) rfl (by kernel_rfl) (by kernel_rfl) (by kernel_rfl) (fun _ _ _ h => h) (Or.inl ⟨by kernel_rfl, ?y4⟩) (by assumption) ?_
      case y4 => (intro w hSw; (try dsimp only at hSw); go_simp; all_goals with_reducible rfl)
      try simp only [Act.put, List.getElem_toArray, List.getElem_cons_succ, List.getElem_cons_zero, List.setIfInBounds_toArray, List.set_cons_zero, List.set_cons_succ]
      refine wpAnyH_ready (rs := [2]) (by kernel_rfl) (by simp) (AllReadyH.cons rfl (fun K hK => ?_) AllReadyH.nil)
      go_simp
      go_at_call 92
      refine (k_ag a _).mono ?_
      rintro e W1 ⟨rfl, f⟩
      have FW := kf f hHeld.2.2.2.2.2.2.2.2
      dsimp only
      refine hK.out _ _ ?_ (fun hHeld => ?_)
      · (try dsimp only); (first | (go_split_ands; exact ⟨kc f (by assumption), kc f (by assumption), kc f (by assumption), kc f (by assumption), kc f (by assumption), kc f (by assumption), kc f (by assumption), kc f (by assumption), by assumption⟩) | (go_split_ands; exact ⟨(by assumption), (by assumption), (by assumption), (by assumption), (by assumption), (by assumption), (by assumption), (by assumption), by assumption⟩) | (go_split_ands; exact ⟨kc (fr1 _ _) (by assumption), kc (fr1 _ _) (by assumption), kc (fr1 _ _) (by assumption), kc (fr1 _ _) (by assumption), kc (fr1 _ _) (by assumption), kc (fr1 _ _) (by assumption), kc (fr1 _ _) (by assumption), kc (fr1 _ _) (by assumption), kfa (by assumption)⟩) | (go_split_ands; exact ⟨kc (fr1d _ _) (by assumption), kc (fr1d _ _) (by assumption), kc (fr1d _ _) (by assumption), kc (fr1d _ _) (by assumption), kc (fr1d _ _) (by assumption), kc (fr1d _ _) (by assumption), kc (fr1d _ _) (by assumption), kc (fr1d _ _) (by assumption), kfae (by assumption)⟩))
      clear hK K
      try simp only [Act.put, List.getElem_toArray, List.getElem_cons_succ, List.getElem_cons_zero, List.setIfInBounds_toArray, List.set_cons_zero, List.set_cons_succ]
      refine wpAnyH_ready (rs := [5]) (by kernel_rfl) (by simp) (AllReadyH.cons rfl (fun K hK => ?_) AllReadyH.nil)
      go_simp
      go_at_call 92
      refine (k_ag b _).mono ?_
      rintro e W1 ⟨rfl, f⟩
      have FW := kf f hHeld.2.2.2.2.2.2.2.2
      dsimp only
      refine hK.out _ _ ?_ (fun hHeld => ?_)
      · (try dsimp only); (first | (go_split_ands; exact ⟨kc f (by assumption), kc f (by assumption), kc f (by assumption), kc f (by assumption), kc f (by assumption), kc f (by assumption), kc f (by assumption), kc f (by assumption), by assumption⟩) | (go_split_ands; exact ⟨(by assumption), (by assumption), (by assumption), (by assumption), (by assumption), (by assumption), (by assumption), (by assumption), by assumption⟩) | (go_split_ands; exact ⟨kc (fr1 _ _) (by assumption), kc (fr1 _ _) (by assumption), kc (fr1 _ _) (by assumption), kc (fr1 _ _) (by assumption), kc (fr1 _ _) (by assumption), kc (fr1 _ _) (by assumption), kc (fr1 _ _) (by assumption), kc (fr1 _ _) (by assumption), kfa (by assumption)⟩) | (go_split_ands; exact ⟨kc (fr1d _ _) (by assumption), kc (fr1d _ _) (by assumption), kc (fr1d _ _) (by assumption), kc (fr1d _ _) (by assumption), kc (fr1d _ _) (by assumption), kc (fr1d _ _) (by assumption), kc (fr1d _ _) (by assumption), kc (fr1d _ _) (by assumption), kfae (by assumption)⟩))
      clear hK K
      try simp only [Act.put, List.getElem_toArray, List.getElem_cons_succ, List.getElem_cons_zero, List.setIfInBounds_toArray, List.set_cons_zero, List.set_cons_succ]
      refine wpAnyH_ready (rs := [6]) (by kernel_rfl) (by simp) (AllReadyH.cons rfl (fun K hK => ?_) AllReadyH.nil)
      go_simp
      go_at_call 52
      refine (HC.out _).mono ?_
      rintro e W1 ⟨rfl, f⟩
      have FW := kf f hHeld.2.2.2.2.2.2.2.2
      dsimp only
      refine hK.out _ _ ?_ (fun hHeld => ?_)
      · (try dsimp only); (first | (go_split_ands; exact ⟨kc f (by assumption), kc f (by assumption), kc f (by assumption), kc f (by assumption), kc f (by assumption), kc f (by assumption), kc f (by assumption), kc f (by assumption), by assumption⟩) | (go_split_ands; exact ⟨(by assumption), (by assumption), (by assumption), (by assumption), (by assumption), (by assumption), (by assumption), (by assumption), by assumption⟩) | (go_split_ands; exact ⟨kc (fr1 _ _) (by assumption), kc (fr1 _ _) (by assumption), kc (fr1 _ _) (by assumption), kc (fr1 _ _) (by assumption), kc (fr1 _ _) (by assumption), kc (fr1 _ _) (by assumption), kc (fr1 _ _) (by assumption), kc (fr1 _ _) (by assumption), kfa (by assumption)⟩) | (go_split_ands; exact ⟨kc (fr1d _ _) (by assumption), kc (fr1d _ _) (by assumption), kc (fr1d _ _) (by assumption), kc (fr1d _ _) (by assumption), kc (fr1d _ _) (by assumption), kc (fr1d _ _) (by assumption), kc (fr1d _ _) (by assumption), kc (fr1d _ _) (by assumption), kfae (by assumption)⟩))
      clear hK K
      try simp only [Act.put, List.getElem_toArray, List.getElem_cons_succ, List.getElem_cons_zero, List.setIfInBounds_toArray, List.set_cons_zero, List.set_cons_succ]
      refine wpAnyH_take (i := 7) (v := ?v5) rfl (by kernel_rfl) (by kernel_rfl) (by kernel_rfl) (fun _ _ _ h => h) (Or.inl ⟨by kernel_rfl, ?y5⟩) (by assumption) ?_
      case y5 => (intro w hSw; (try dsimp only at hSw); go_simp; all_goals with_reducible rfl)
      try simp only [Act.put, List.getElem_toArray, List.getElem_cons_succ, List.getElem_cons_zero, List.setIfInBounds_toArray, List.set_cons_zero, List.set_cons_succ]
      refine wpAnyH_done (by kernel_rfl) ?_ _
      refine NoPanic.normal ?_
      have FX := hid (HR.out.trans (hHeld.2.2.2.2.2.2.2.2).out)
      have FY := hid (HI.out.trans (hHeld.2.2.2.2.2.2.2.2).out)
      clear hHeld FW a0 a1 a2 a3 b0 b1 b2 b3 y1
      by_cases h0 : R = 0
      · subst h0
        go_wp2
        go_roundw
        case rel => exact ⟨1, rfl, by omega, FY.out, fun _ => HRR.out, fun h => absurd h (by omega)⟩
        case measure => decide
      · have h1 : (R != 0) = true := by simpa using h0
        have HV := hid (show c1 a b = R by unfold c1 thn; simp [HRR.out, h0])
        clear h0
        go_wp2
        go_ret
        exact ⟨congrArg (fun v => Ending.returned (.int .i64 v)) HV.out.symm, FX.out⟩
    | 1, _ =>
      clear hf
      have y1 : wr.cell? ⟨S, 1, none⟩ = some (.func (.func 93) #[] #[]) := hk.cell 1
      clear hk
      obtain ⟨R, hR⟩ : ∃ R, cmpI a.z b.z = R := ⟨_, rfl⟩
      have HC := hid (fun w => cmp_ok a.z b.z w)
      rw [hR] at HC
      have HRR := hid hR
      have E0 := hid (e0 (by omega))
      clear hR e0 e1
      go_upto_region 4 with fail
      have FW := hid (Gx.refl No wr)
      have FW := kd FW
      refine wp_region_noPanic ?_
      refine wp_region_held_drew (S := (fun W' => W'.cell? ⟨G, 0, none⟩ = some (.int .i64 a.z) ∧ W'.cell? ⟨G, 1, none⟩ = some (.int .i64 a.lv) ∧ W'.cell? ⟨G, 2, none⟩ = some (.int .i64 a.bd) ∧ W'.cell? ⟨G, 3, none⟩ = some (.int .i64 a.ag) ∧ W'.cell? ⟨G + 1, 0, none⟩ = some (.int .i64 b.z) ∧ W'.cell? ⟨G + 1, 1, none⟩ = some (.int .i64 b.lv) ∧ W'.cell? ⟨G + 1, 2, none⟩ = some (.int .i64 b.bd) ∧ W'.cell? ⟨G + 1, 3, none⟩ = some (.int .i64 b.ag) ∧ Hid (Gx No wr W'))) (by kernel_rfl) ?_ (fun hHeld => ?_)
      · (try dsimp only); (first | (go_split_ands; exact ⟨kc f (by assumption), kc f (by assumption), kc f (by assumption), kc f (by assumption), kc f (by assumption), kc f (by assumption), kc f (by assumption), kc f (by assumption), by assumption⟩) | (go_split_ands; exact ⟨(by assumption), (by assumption), (by assumption), (by assumption), (by assumption), (by assumption), (by assumption), (by assumption), by assumption⟩) | (go_split_ands; exact ⟨kc (fr1 _ _) (by assumption), kc (fr1 _ _) (by assumption), kc (fr1 _ _) (by assumption), kc (fr1 _ _) (by assumption), kc (fr1 _ _) (by assumption), kc (fr1 _ _) (by assumption), kc (fr1 _ _) (by assumption), kc (fr1 _ _) (by assumption), kfa (by assumption)⟩) | (go_split_ands; exact ⟨kc (fr1d _ _) (by assumption), kc (fr1d _ _) (by assumption), kc (fr1d _ _) (by assumption), kc (fr1d _ _) (by assumption), kc (fr1d _ _) (by assumption), kc (fr1d _ _) (by assumption), kc (fr1d _ _) (by assumption), kc (fr1d _ _) (by assumption), kfae (by assumption)⟩))
      refine wpAnyH_take (i := 0) (v := ?v6) rfl (by kernel_rfl) (by kernel_rfl) (by kernel_rfl) (fun _ _ _ h => h) (Or.inl ⟨by kernel_rfl, ?y6⟩) (by assumption) ?_
      case y6 => (intro w hSw; (try dsimp only at hSw); go_simp; all_goals with_reducible rfl)
      try simp only [Act.put, List.getElem_toArray, List.getElem_cons_zero, List.setIfInBounds_toArray, List.set_cons_zero, List.set_cons_succ]
      refine wpAnyH_take (i := 1) (v := ?v7) rfl (by kernel_rfl) (by kernel_rfl) (by kernel_rfl) (fun _ _ _ h => h) (Or.inl ⟨by kernel_rfl, ?y7⟩) (by assumption) ?_
      case y7 => (intro w hSw; (try dsimp only at hSw); go_simp; all_goals with_reducible rfl)
      try simp only [Act.put, List.getElem_toArray, List.getElem_cons_succ, List.getElem_cons_zero, List.setIfInBounds_toArray, List.set_cons_zero, List.set_cons_succ]
      refine wpAnyH_take (i := 3) (v := ?v8) rfl (by kernel_rfl) (by kernel_rfl) (by kernel_rfl) (fun _ _ _ h => h) (Or.inl ⟨by kernel_rfl, ?y8⟩) (by assumption) ?_
      case y8 => (intro w hSw; (try dsimp only at hSw); go_simp; all_goals with_reducible rfl)
      try simp only [Act.put, List.getElem_toArray, List.getElem_cons_succ, List.getElem_cons_zero, List.setIfInBounds_toArray, List.set_cons_zero, List.set_cons_succ]
      refine wpAnyH_take (i := 4) (v := ?v9) rfl (by kernel_rfl) (by kernel_rfl) (by kernel_rfl) (fun _ _ _ h => h) (Or.inl ⟨by kernel_rfl, ?y9⟩) (by assumption) ?_
      case y9 => (intro w hSw; (try dsimp only at hSw); go_simp; all_goals with_reducible rfl)
      try simp only [Act.put, List.getElem_toArray, List.getElem_cons_succ, List.getElem_cons_zero, List.setIfInBounds_toArray, List.set_cons_zero, List.set_cons_succ]
      refine wpAnyH_ready (rs := [2]) (by kernel_rfl) (by simp) (AllReadyH.cons rfl (fun K hK => ?_) AllReadyH.nil)
      go_simp
      go_at_call 93
      refine (k_z a _).mono ?_
      rintro e W1 ⟨rfl, f⟩
      have FW := kf f hHeld.2.2.2.2.2.2.2.2
      dsimp only
      refine hK.out _ _ ?_ (fun hHeld => ?_)
      · (try dsimp only); (first | (go_split_ands; exact ⟨kc f (by assumption), kc f (by assumption), kc f (by assumption), kc f (by assumption), kc f (by assumption), kc f (by assumption), kc f (by assumption), kc f (by assumption), by assumption⟩) | (go_split_ands; exact ⟨(by assumption), (by assumption), (by assumption), (by assumption), (by assumption), (by assumption), (by assumption), (by assumption), by assumption⟩) | (go_split_ands; exact ⟨kc (fr1 _ _) (by assumption), kc (fr1 _ _) (by assumption), kc (fr1 _ _) (by assumption), kc (fr1 _ _) (by assumption), kc (fr1 _ _) (by assumption), kc (fr1 _ _) (by assumption), kc (fr1 _ _) (by assumption), kc (fr1 _ _) (by assumption), kfa (by assumption)⟩) | (go_split_ands; exact ⟨kc (fr1d _ _) (by assumption), kc (fr1d _ _) (by assumption), kc (fr1d _ _) (by assumption), kc (fr1d _ _) (by assumption), kc (fr1d _ _) (by assumption), kc (fr1d _ _) (by assumption), kc (fr1d _ _) (by assumption), kc (fr1d _ _) (by assumption), kfae (by assumption)⟩))
      clear hK K
      try simp only [Act.put, List.getElem_toArray, List.getElem_cons_succ, List.getElem_cons_zero, List.setIfInBounds_toArray, List.set_cons_zero, List.set_cons_succ]
      refine wpAnyH_ready (rs := [5]) (by kernel_rfl) (by simp) (AllReadyH.cons rfl (fun K hK => ?_) AllReadyH.nil)
      go_simp
      go_at_call 93
      refine (k_z b _).mono ?_
      rintro e W1 ⟨rfl, f⟩
      have FW := kf f hHeld.2.2.2.2.2.2.2.2
      dsimp only
      refine hK.out _ _ ?_ (fun hHeld => ?_)
      · (try dsimp only); (first | (go_split_ands; exact ⟨kc f (by assumption), kc f (by assumption), kc f (by assumption), kc f (by assumption), kc f (by assumption), kc f (by assumption), kc f (by assumption), kc f (by assumption), by assumption⟩) | (go_split_ands; exact ⟨(by assumption), (by assumption), (by assumption), (by assumption), (by assumption), (by assumption), (by assumption), (by assumption), by assumption⟩) | (go_split_ands; exact ⟨kc (fr1 _ _) (by assumption), kc (fr1 _ _) (by assumption), kc (fr1 _ _) (by assumption), kc (fr1 _ _) (by assumption), kc (fr1 _ _) (by assumption), kc (fr1 _ _) (by assumption), kc (fr1 _ _) (by assumption), kc (fr1 _ _) (by assumption), kfa (by assumption)⟩) | (go_split_ands; exact ⟨kc (fr1d _ _) (by assumption), kc (fr1d _ _) (by assumption), kc (fr1d _ _) (by assumption), kc (fr1d _ _) (by assumption), kc (fr1d _ _) (by assumption), kc (fr1d _ _) (by assumption), kc (fr1d _ _) (by assumption), kc (fr1d _ _) (by assumption), kfae (by assumption)⟩))
      clear hK K
      try simp only [Act.put, List.getElem_toArray, List.getElem_cons_succ, List.getElem_cons_zero, List.setIfInBounds_toArray, List.set_cons_zero, List.set_cons_succ]
      refine wpAnyH_ready (rs := [6]) (by kernel_rfl) (by simp) (AllReadyH.cons rfl (fun K hK => ?_) AllReadyH.nil)
      go_simp
      go_at_call 52
      refine (HC.out _).mono ?_
      rintro e W1 ⟨rfl, f⟩
      have FW := kf f hHeld.2.2.2.2.2.2.2.2
      dsimp only
      refine hK.out _ _ ?_ (fun hHeld => ?_)
      · (try dsimp only); (first | (go_split_ands; exact ⟨kc f (by assumption), kc f (by assumption), kc f (by assumption), kc f (by assumption), kc f (by assumption), kc f (by assumption), kc f (by assumption), kc f (by assumption), by assumption⟩) | (go_split_ands; exact ⟨(by assumption), (by assumption), (by assumption), (by assumption), (by assumption), (by assumption), (by assumption), (by assumption), by assumption⟩) | (go_split_ands; exact ⟨kc (fr1 _ _) (by assumption), kc (fr1 _ _) (by assumption), kc (fr1 _ _) (by assumption), kc (fr1 _ _) (by assumption), kc (fr1 _ _) (by assumption), kc (fr1 _ _) (by assumption), kc (fr1 _ _) (by assumption), kc (fr1 _ _) (by assumption), kfa (by assumption)⟩) | (go_split_ands; exact ⟨kc (fr1d _ _) (by assumption), kc (fr1d _ _) (by assumption), kc (fr1d _ _) (by assumption), kc (fr1d _ _) (by assumption), kc (fr1d _ _) (by assumption), kc (fr1d _ _) (by assumption), kc (fr1d _ _) (by assumption), kc (fr1d _ _) (by assumption), kfae (by assumption)⟩))
      clear hK K
      try simp only [Act.put, List.getElem_toArray, List.getElem_cons_succ, List.getElem_cons_zero, List.setIfInBounds_toArray, List.set_cons_zero, List.set_cons_succ]
      refine wpAnyH_take (i := 7) (v := ?v10) rfl (by kernel_rfl) (by kernel_rfl) (by kernel_rfl) (fun _ _ _ h => h) (Or.inl ⟨by kernel_rfl, ?y10⟩) (by assumption) ?_
      case y10 => (intro w hSw; (try dsimp only at hSw); go_simp; all_goals with_reducible rfl)
      try simp only [Act.put, List.getElem_toArray, List.getElem_cons_succ, List.getElem_cons_zero, List.setIfInBounds_toArray, List.set_cons_zero, List.set_cons_succ]
      refine wpAnyH_done (by kernel_rfl) ?_ _
      refine NoPanic.normal ?_
      have FX := hid (HR.out.trans (hHeld.2.2.2.2.2.2.2.2).out)
      have FY := hid (HI.out.trans (hHeld.2.2.2.2.2.2.2.2).out)
      clear hHeld FW a0 a1 a2 a3 b0 b1 b2 b3 y1
      by_cases h0 : R = 0
      · subst h0
        go_wp2
        go_roundw
        case rel => exact ⟨2, rfl, by omega, FY.out, fun _ => E0.out, fun _ => HRR.out⟩
        case measure => decide
      · have h1 : (R != 0) = true := by simpa using h0
        have HV := hid (show c1 a b = R by unfold c1 thn; simp [HRR.out, E0.out])
        clear h0
        go_wp2
        go_ret
        exact ⟨congrArg (fun v => Ending.returned (.int .i64 v)) HV.out.symm, FX.out⟩
    | 2, _ =>
      have HV := hid (show c1 a b = 0 by unfold c1 thn; simp [e0 (by omega), e1 (by omega)])
      clear hf hk a0 a1 a2 a3 b0 b1 b2 b3 e0 e1
      go_wp2
      go_ret
      exact ⟨congrArg (fun v => Ending.returned (.int .i64 v)) HV.out.symm, HR.out⟩
    | j + 3, h => omega
set_option maxRecDepth 100000 in
set_option maxHeartbeats 4000000 in
theorem cmp2 (a b : Ch) (B : Nat) (w : World) (h : KB2 w B) : Calls Try.prog 71 #[chv a, chv b, .pointer (some ⟨B, 0, none⟩)] w fun e w' => e = .returned (.int .i64 (c2 a b)) ∧ Gx No w w' := by
  obtain ⟨G, hG⟩ : ∃ G, w.heap.size = G := ⟨_, rfl⟩
  obtain ⟨w1, hw1⟩ : ∃ w1, (w.alloc (och a)).alloc (och b) = w1 := ⟨_, rfl⟩
  have HF := hid (show Gx No w w1 by rw [← hw1]; exact (fr1 _ _).alloc _)
  have PA := hid (show BC w1 G a by rw [← hw1, ← hG]; exact Blk.alloc (BC.new w a) _)
  have PB := hid (show BC w1 (G + 1) b by
    rw [← hw1, ← hG]
    have := BC.new (w.alloc (och a)) b
    rwa [World.size_alloc] at this)
  obtain ⟨S, hB, hK⟩ := KB2.fr h HF.out.1
  have y0 : w1.cell? ⟨B, 0, none⟩ = some (.slice (some ⟨S, 0, none⟩) 3 3) := hB.cell 0
  have HK := hid hK
  have HW1 := hid hw1
  clear h hB hK hw1
  go_enter Try.func71, Try.ntmps71
  go_upto_region 1 with fail
  try rw [show (w.alloc (och a)).alloc (och b) = w1 from HW1.out]
  try simp only [World.size_alloc]
  try rw [hG]
  clear hG
  go_upto_region 2 with fail
  clear y0
  go_loopw [11] (fun t wr => ∃ j : Nat, t = .int .i64 j ∧ j ≤ 3 ∧ Gx No w1 wr ∧ (1 ≤ j → cmpI a.lv b.lv = 0) ∧ (2 ≤ j → cmpI a.ag b.ag = 0) ∧ (3 ≤ j → cmpI a.z b.z = 0)) (fun t _ => 3 - (intOf t).toNat)
  case atStart => exact ⟨0, rfl, by omega, Gx.refl _ _, fun h => absurd h (by omega), fun h => absurd h (by omega), fun h => absurd h (by omega)⟩
  case round =>
    obtain ⟨j, rfl, hj, hf, e0, e1, e2⟩ := hrel
    have HI := hid hf
    have HR := hid (HF.out.trans hf)
    have a4 := BC.cells (PA.out.fr hf.1)
    have b4 := BC.cells (PB.out.fr hf.1)
    obtain ⟨a0, a1, a2, a3⟩ := a4
    obtain ⟨b0, b1, b2, b3⟩ := b4
    have hk := Blk.fr HK.out hf.1 (fun h => h)
    match j, hj with
    | 0, _ =>
      clear hf
      have y1 : wr.cell? ⟨S, 0, none⟩ = some (.func (.func 91) #[] #[]) := hk.cell 0
      clear hk
      obtain ⟨R, hR⟩ : ∃ R, cmpI a.lv b.lv = R := ⟨_, rfl⟩
      have HC := hid (fun w => cmp_ok a.lv b.lv w)
      rw [hR] at HC
      have HRR := hid hR
      clear hR e0 e1 e2
      go_upto_region 4 with fail
      have FW := hid (Gx.refl No wr)
      have FW := kd FW
      refine wp_region_noPanic ?_
      refine wp_region_held_drew (S := (fun W' => W'.cell? ⟨G, 0, none⟩ = some (.int .i64 a.z) ∧ W'.cell? ⟨G, 1, none⟩ = some (.int .i64 a.lv) ∧ W'.cell? ⟨G, 2, none⟩ = some (.int .i64 a.bd) ∧ W'.cell? ⟨G, 3, none⟩ = some (.int .i64 a.ag) ∧ W'.cell? ⟨G + 1, 0, none⟩ = some (.int .i64 b.z) ∧ W'.cell? ⟨G + 1, 1, none⟩ = some (.int .i64 b.lv) ∧ W'.cell? ⟨G + 1, 2, none⟩ = some (.int .i64 b.bd) ∧ W'.cell? ⟨G + 1, 3, none⟩ = some (.int .i64 b.ag) ∧ Hid (Gx No wr W'))) (by kernel_rfl) ?_ (fun hHeld => ?_)
      · (try dsimp only); (first | (go_split_ands; exact ⟨kc f (by assumption), kc f (by assumption), kc f (by assumption), kc f (by assumption), kc f (by assumption), kc f (by assumption), kc f (by assumption), kc f (by assumption), by assumption⟩) | (go_split_ands; exact ⟨(by assumption), (by assumption), (by assumption), (by assumption), (by assumption), (by assumption), (by assumption), (by assumption), by assumption⟩) | (go_split_ands; exact ⟨kc (fr1 _ _) (by assumption), kc (fr1 _ _) (by assumption), kc (fr1 _ _) (by assumption), kc (fr1 _ _) (by assumption), kc (fr1 _ _) (by assumption), kc (fr1 _ _) (by assumption), kc (fr1 _ _) (by assumption), kc (fr1 _ _) (by assumption), kfa (by assumption)⟩) | (go_split_ands; exact ⟨kc (fr1d _ _) (by assumption), kc (fr1d _ _) (by assumption), kc (fr1d _ _) (by assumption), kc (fr1d _ _) (by assumption), kc (fr1d _ _) (by assumption), kc (fr1d _ _) (by assumption), kc (fr1d _ _) (by assumption), kc (fr1d _ _) (by assumption), kfae (by assumption)⟩))
      refine wpAnyH_take (i := 0) (v := ?v11) rfl (by kernel_rfl) (by kernel_rfl) (by kernel_rfl) (fun _ _ _ h => h) (Or.inl ⟨by kernel_rfl, ?y11⟩) (by assumption) ?_
      case y11 => (intro w hSw; (try dsimp only at hSw); go_simp; all_goals with_reducible rfl)
      try simp only [Act.put, List.getElem_toArray, List.getElem_cons_zero, List.setIfInBounds_toArray, List.set_cons_zero, List.set_cons_succ]
      refine wpAnyH_take (i := 1) (v := ?v12) rfl (by kernel_rfl) (by kernel_rfl) (by kernel_rfl) (fun _ _ _ h => h) (Or.inl ⟨by kernel_rfl, ?y12⟩) (by assumption) ?_
      case y12 => (intro w hSw; (try dsimp only at hSw); go_simp; all_goals with_reducible rfl)
      try simp only [Act.put, List.getElem_toArray, List.getElem_cons_succ, List.getElem_cons_zero, List.setIfInBounds_toArray, List.set_cons_zero, List.set_cons_succ]
      refine wpAnyH_take (i := 3) (v := ?v13) rfl (by kernel_rfl) (by kernel_rfl) (by kernel_rfl) (fun _ _ _ h => h) (Or.inl ⟨by kernel_rfl, ?y13⟩) (by assumption) ?_
      case y13 => (intro w hSw; (try dsimp only at hSw); go_simp; all_goals with_reducible rfl)
      try simp only [Act.put, List.getElem_toArray, List.getElem_cons_succ, List.getElem_cons_zero, List.setIfInBounds_toArray, List.set_cons_zero, List.set_cons_succ]
      refine wpAnyH_take (i := 4) (v := ?v14) rfl (by kernel_rfl) (by kernel_rfl) (by kernel_rfl) (fun _ _ _ h => h) (Or.inl ⟨by kernel_rfl, ?y14⟩) (by assumption) ?_
      case y14 => (intro w hSw; (try dsimp only at hSw); go_simp; all_goals with_reducible rfl)
      try simp only [Act.put, List.getElem_toArray, List.getElem_cons_succ, List.getElem_cons_zero, List.setIfInBounds_toArray, List.set_cons_zero, List.set_cons_succ]
      refine wpAnyH_ready (rs := [2]) (by kernel_rfl) (by simp) (AllReadyH.cons rfl (fun K hK => ?_) AllReadyH.nil)
      go_simp
      go_at_call 91
      refine (k_lv a _).mono ?_
      rintro e W1 ⟨rfl, f⟩
      have FW := kf f hHeld.2.2.2.2.2.2.2.2
      dsimp only
      refine hK.out _ _ ?_ (fun hHeld => ?_)
      · (try dsimp only); (first | (go_split_ands; exact ⟨kc f (by assumption), kc f (by assumption), kc f (by assumption), kc f (by assumption), kc f (by assumption), kc f (by assumption), kc f (by assumption), kc f (by assumption), by assumption⟩) | (go_split_ands; exact ⟨(by assumption), (by assumption), (by assumption), (by assumption), (by assumption), (by assumption), (by assumption), (by assumption), by assumption⟩) | (go_split_ands; exact ⟨kc (fr1 _ _) (by assumption), kc (fr1 _ _) (by assumption), kc (fr1 _ _) (by assumption), kc (fr1 _ _) (by assumption), kc (fr1 _ _) (by assumption), kc (fr1 _ _) (by assumption), kc (fr1 _ _) (by assumption), kc (fr1 _ _) (by assumption), kfa (by assumption)⟩) | (go_split_ands; exact ⟨kc (fr1d _ _) (by assumption), kc (fr1d _ _) (by assumption), kc (fr1d _ _) (by assumption), kc (fr1d _ _) (by assumption), kc (fr1d _ _) (by assumption), kc (fr1d _ _) (by assumption), kc (fr1d _ _) (by assumption), kc (fr1d _ _) (by assumption), kfae (by assumption)⟩))
      clear hK K
      try simp only [Act.put, List.getElem_toArray, List.getElem_cons_succ, List.getElem_cons_zero, List.setIfInBounds_toArray, List.set_cons_zero, List.set_cons_succ]
      refine wpAnyH_ready (rs := [5]) (by kernel_rfl) (by simp) (AllReadyH.cons rfl (fun K hK => ?_) AllReadyH.nil)
      go_simp
      go_at_call 91
      refine (k_lv b _).mono ?_
      rintro e W1 ⟨rfl, f⟩
      have FW := kf f hHeld.2.2.2.2.2.2.2.2
      dsimp only
      refine hK.out _ _ ?_ (fun hHeld => ?_)
      · (try dsimp only); (first | (go_split_ands; exact ⟨kc f (by assumption), kc f (by assumption), kc f (by assumption), kc f (by assumption), kc f (by assumption), kc f (by assumption), kc f (by assumption), kc f (by assumption), by assumption⟩) | (go_split_ands; exact ⟨(by assumption), (by assumption), (by assumption), (by assumption), (by assumption), (by assumption), (by assumption), (by assumption), by assumption⟩) | (go_split_ands; exact ⟨kc (fr1 _ _) (by assumption), kc (fr1 _ _) (by assumption), kc (fr1 _ _) (by assumption), kc (fr1 _ _) (by assumption), kc (fr1 _ _) (by assumption), kc (fr1 _ _) (by assumption), kc (fr1 _ _) (by assumption), kc (fr1 _ _) (by assumption), kfa (by assumption)⟩) | (go_split_ands; exact ⟨kc (fr1d _ _) (by assumption), kc (fr1d _ _) (by assumption), kc (fr1d _ _) (by assumption), kc (fr1d _ _) (by assumption), kc (fr1d _ _) (by assumption), kc (fr1d _ _) (by assumption), kc (fr1d _ _) (by assumption), kc (fr1d _ _) (by assumption), kfae (by assumption)⟩))
      clear hK K
      try simp only [Act.put, List.getElem_toArray, List.getElem_cons_succ, List.getElem_cons_zero, List.setIfInBounds_toArray, List.set_cons_zero, List.set_cons_succ]
      refine wpAnyH_ready (rs := [6]) (by kernel_rfl) (by simp) (AllReadyH.cons rfl (fun K hK => ?_) AllReadyH.nil)
      go_simp
      go_at_call 52
      refine (HC.out _).mono ?_
      rintro e W1 ⟨rfl, f⟩
      have FW := kf f hHeld.2.2.2.2.2.2.2.2
      dsimp only
      refine hK.out _ _ ?_ (fun hHeld => ?_)
      · (try dsimp only); (first | (go_split_ands; exact ⟨kc f (by assumption), kc f (by assumption), kc f (by assumption), kc f (by assumption), kc f (by assumption), kc f (by assumption), kc f (by assumption), kc f (by assumption), by assumption⟩) | (go_split_ands; exact ⟨(by assumption), (by assumption), (by assumption), (by assumption), (by assumption), (by assumption), (by assumption), (by assumption), by assumption⟩) | (go_split_ands; exact ⟨kc (fr1 _ _) (by assumption), kc (fr1 _ _) (by assumption), kc (fr1 _ _) (by assumption), kc (fr1 _ _) (by assumption), kc (fr1 _ _) (by assumption), kc (fr1 _ _) (by assumption), kc (fr1 _ _) (by assumption), kc (fr1 _ _) (by assumption), kfa (by assumption)⟩) | (go_split_ands; exact ⟨kc (fr1d _ _) (by assumption), kc (fr1d _ _) (by assumption), kc (fr1d _ _) (by assumption), kc (fr1d _ _) (by assumption), kc (fr1d _ _) (by assumption), kc (fr1d _ _) (by assumption), kc (fr1d _ _) (by assumption), kc (fr1d _ _) (by assumption), kfae (by assumption)⟩))
      clear hK K
      try simp only [Act.put, List.getElem_toArray, List.getElem_cons_succ, List.getElem_cons_zero, List.setIfInBounds_toArray, List.set_cons_zero, List.set_cons_succ]
      refine wpAnyH_take (i := 7) (v := ?v15) rfl (by kernel_rfl) (by kernel_rfl) (by kernel_rfl) (fun _ _ _ h => h) (Or.inl ⟨by kernel_rfl, ?y15⟩) (by assumption) ?_
      case y15 => (intro w hSw; (try dsimp only at hSw); go_simp; all_goals with_reducible rfl)
      try simp only [Act.put, List.getElem_toArray, List.getElem_cons_succ, List.getElem_cons_zero, List.setIfInBounds_toArray, List.set_cons_zero, List.set_cons_succ]
      refine wpAnyH_done (by kernel_rfl) ?_ _
      refine NoPanic.normal ?_
      have FX := hid (HR.out.trans (hHeld.2.2.2.2.2.2.2.2).out)
      have FY := hid (HI.out.trans (hHeld.2.2.2.2.2.2.2.2).out)
      clear hHeld FW a0 a1 a2 a3 b0 b1 b2 b3 y1
      by_cases h0 : R = 0
      · subst h0
        go_wp2
        go_roundw
        case rel => exact ⟨1, rfl, by omega, FY.out, fun _ => HRR.out, fun h => absurd h (by omega), fun h => absurd h (by omega)⟩
        case measure => decide
      · have h1 : (R != 0) = true := by simpa using h0
        have HV := hid (show c2 a b = R by unfold c2 c1 thn; simp [HRR.out, h0])
        clear h0
        go_wp2
        go_ret
        exact ⟨congrArg (fun v => Ending.returned (.int .i64 v)) HV.out.symm, FX.out⟩
    | 1, _ =>
      clear hf
      have y1 : wr.cell? ⟨S, 1, none⟩ = some (.func (.func 92) #[] #[]) := hk.cell 1
      clear hk
      obtain ⟨R, hR⟩ : ∃ R, cmpI a.ag b.ag = R := ⟨_, rfl⟩
      have HC := hid (fun w => cmp_ok a.ag b.ag w)
      rw [hR] at HC
      have HRR := hid hR
      have E0 := hid (e0 (by omega))
      clear hR e0 e1 e2
      go_upto_region 4 with fail
      have FW := hid (Gx.refl No wr)
      have FW := kd FW
      refine wp_region_noPanic ?_
      refine wp_region_held_drew (S := (fun W' => W'.cell? ⟨G, 0, none⟩ = some (.int .i64 a.z) ∧ W'.cell? ⟨G, 1, none⟩ = some (.int .i64 a.lv) ∧ W'.cell? ⟨G, 2, none⟩ = some (.int .i64 a.bd) ∧ W'.cell? ⟨G, 3, none⟩ = some (.int .i64 a.ag) ∧ W'.cell? ⟨G + 1, 0, none⟩ = some (.int .i64 b.z) ∧ W'.cell? ⟨G + 1, 1, none⟩ = some (.int .i64 b.lv) ∧ W'.cell? ⟨G + 1, 2, none⟩ = some (.int .i64 b.bd) ∧ W'.cell? ⟨G + 1, 3, none⟩ = some (.int .i64 b.ag) ∧ Hid (Gx No wr W'))) (by kernel_rfl) ?_ (fun hHeld => ?_)
      · (try dsimp only); (first | (go_split_ands; exact ⟨kc f (by assumption), kc f (by assumption), kc f (by assumption), kc f (by assumption), kc f (by assumption), kc f (by assumption), kc f (by assumption), kc f (by assumption), by assumption⟩) | (go_split_ands; exact ⟨(by assumption), (by assumption), (by assumption), (by assumption), (by assumption), (by assumption), (by assumption), (by assumption), by assumption⟩) | (go_split_ands; exact ⟨kc (fr1 _ _) (by assumption), kc (fr1 _ _) (by assumption), kc (fr1 _ _) (by assumption), kc (fr1 _ _) (by assumption), kc (fr1 _ _) (by assumption), kc (fr1 _ _) (by assumption), kc (fr1 _ _) (by assumption), kc (fr1 _ _) (by assumption), kfa (by assumption)⟩) | (go_split_ands; exact ⟨kc (fr1d _ _) (by assumption), kc (fr1d _ _) (by assumption), kc (fr1d _ _) (by assumption), kc (fr1d _ _) (by assumption), kc (fr1d _ _) (by assumption), kc (fr1d _ _) (by assumption), kc (fr1d _ _) (by assumption), kc (fr1d _ _) (by assumption), kfae (by assumption)⟩))
      refine wpAnyH_take (i := 0) (v := ?v16) rfl (by kernel_rfl) (by kernel_rfl) (by kernel_rfl) (fun _ _ _ h => h) (Or.inl ⟨by kernel_rfl, ?y16⟩) (by assumption) ?_
      case y16 => (intro w hSw; (try dsimp only at hSw); go_simp; all_goals with_reducible rfl)
      try simp only [Act.put, List.getElem_toArray, List.getElem_cons_zero, List.setIfInBounds_toArray, List.set_cons_zero, List.set_cons_succ]
      refine wpAnyH_take (i := 1) (v := ?v17) rfl (by kernel_rfl) (by kernel_rfl) (by kernel_rfl) (fun _ _ _ h => h) (Or.inl ⟨by kernel_rfl, ?y17⟩) (by assumption) ?_
      case y17 => (intro w hSw; (try dsimp only at hSw); go_simp; all_goals with_reducible rfl)
      try simp only [Act.put, List.getElem_toArray, List.getElem_cons_succ, List.getElem_cons_zero, List.setIfInBounds_toArray, List.set_cons_zero, List.set_cons_succ]
      refine wpAnyH_take (i := 3) (v := ?v18) rfl (by kernel_rfl) (by kernel_rfl) (by kernel_rfl) (fun _ _ _ h => h) (Or.inl ⟨by kernel_rfl, ?y18⟩) (by assumption) ?_
      case y18 => (intro w hSw; (try dsimp only at hSw); go_simp; all_goals with_reducible rfl)
      try simp only [Act.put, List.getElem_toArray, List.getElem_cons_succ, List.getElem_cons_zero, List.setIfInBounds_toArray, List.set_cons_zero, List.set_cons_succ]
      refine wpAnyH_take (i := 4) (v := ?v19) rfl (by kernel_rfl) (by kernel_rfl) (by kernel_rfl) (fun _ _ _ h => h) (Or.inl ⟨by kernel_rfl, ?y19⟩) (by assumption) ?_
      case y19 => (intro w hSw; (try dsimp only at hSw); go_simp; all_goals with_reducible rfl)
      try simp only [Act.put, List.getElem_toArray, List.getElem_cons_succ, List.getElem_cons_zero, List.setIfInBounds_toArray, List.set_cons_zero, List.set_cons_succ]
      refine wpAnyH_ready (rs := [2]) (by kernel_rfl) (by simp) (AllReadyH.cons rfl (fun K hK => ?_) AllReadyH.nil)
      go_simp
      go_at_call 92
      refine (k_ag a _).mono ?_
      rintro e W1 ⟨rfl, f⟩
      have FW := kf f hHeld.2.2.2.2.2.2.2.2
      dsimp only
      refine hK.out _ _ ?_ (fun hHeld => ?_)
      · (try dsimp only); (first | (go_split_ands; exact ⟨kc f (by assumption), kc f (by assumption), kc f (by assumption), kc f (by assumption), kc f (by assumption), kc f (by assumption), kc f (by assumption), kc f (by assumption), by assumption⟩) | (go_split_ands; exact ⟨(by assumption), (by assumption), (by assumption), (by assumption), (by assumption), (by assumption), (by assumption), (by assumption), by assumption⟩) | (go_split_ands; exact ⟨kc (fr1 _ _) (by assumption), kc (fr1 _ _) (by assumption), kc (fr1 _ _) (by assumption), kc (fr1 _ _) (by assumption), kc (fr1 _ _) (by assumption), kc (fr1 _ _) (by assumption), kc (fr1 _ _) (by assumption), kc (fr1 _ _) (by assumption), kfa (by assumption)⟩) | (go_split_ands; exact ⟨kc (fr1d _ _) (by assumption), kc (fr1d _ _) (by assumption), kc (fr1d _ _) (by assumption), kc (fr1d _ _) (by assumption), kc (fr1d _ _) (by assumption), kc (fr1d _ _) (by assumption), kc (fr1d _ _) (by assumption), kc (fr1d _ _) (by assumption), kfae (by assumption)⟩))
      clear hK K
      try simp only [Act.put, List.getElem_toArray, List.getElem_cons_succ, List.getElem_cons_zero, List.setIfInBounds_toArray, List.set_cons_zero, List.set_cons_succ]
      refine wpAnyH_ready (rs := [5]) (by kernel_rfl) (by simp) (AllReadyH.cons rfl (fun K hK => ?_) AllReadyH.nil)
      go_simp
      go_at_call 92
      refine (k_ag b _).mono ?_
      rintro e W1 ⟨rfl, f⟩
      have FW := kf f hHeld.2.2.2.2.2.2.2.2
      dsimp only
      refine hK.out _ _ ?_ (fun hHeld => ?_)
      · (try dsimp only); (first | (go_split_ands; exact ⟨kc f (by assumption), kc f (by assumption), kc f (by assumption), kc f (by assumption), kc f (by assumption), kc f (by assumption), kc f (by assumption), kc f (by assumption), by assumption⟩) | (go_split_ands; exact ⟨(by assumption), (by assumption), (by assumption), (by assumption), (by assumption), (by assumption), (by assumption), (by assumption), by assumption⟩) | (go_split_ands; exact ⟨kc (fr1 _ _) (by assumption), kc (fr1 _ _) (by assumption), kc (fr1 _ _) (by assumption), kc (fr1 _ _) (by assumption), kc (fr1 _ _) (by assumption), kc (fr1 _ _) (by assumption), kc (fr1 _ _) (by assumption), kc (fr1 _ _) (by assumption), kfa (by assumption)⟩) | (go_split_ands; exact ⟨kc (fr1d _ _) (by assumption), kc (fr1d _ _) (by assumption), kc (fr1d _ _) (by assumption), kc (fr1d _ _) (by assumption), kc (fr1d _ _) (by assumption), kc (fr1d _ _) (by assumption), kc (fr1d _ _) (by assumption), kc (fr1d _ _) (by assumption), kfae (by assumption)⟩))
      clear hK K
      try simp only [Act.put, List.getElem_toArray, List.getElem_cons_succ, List.getElem_cons_zero, List.setIfInBounds_toArray, List.set_cons_zero, List.set_cons_succ]
      refine wpAnyH_ready (rs := [6]) (by kernel_rfl) (by simp) (AllReadyH.cons rfl (fun K hK => ?_) AllReadyH.nil)
      go_simp
      go_at_call 52
      refine (HC.out _).mono ?_
      rintro e W1 ⟨rfl, f⟩
      have FW := kf f hHeld.2.2.2.2.2.2.2.2
      dsimp only
      refine hK.out _ _ ?_ (fun hHeld => ?_)
      · (try dsimp only); (first | (go_split_ands; exact ⟨kc f (by assumption), kc f (by assumption), kc f (by assumption), kc f (by assumption), kc f (by assumption), kc f (by assumption), kc f (by assumption), kc f (by assumption), by assumption⟩) | (go_split_ands; exact ⟨(by assumption), (by assumption), (by assumption), (by assumption), (by assumption), (by assumption), (by assumption), (by assumption), by assumption⟩) | (go_split_ands; exact ⟨kc (fr1 _ _) (by assumption), kc (fr1 _ _) (by assumption), kc (fr1 _ _) (by assumption), kc (fr1 _ _) (by assumption), kc (fr1 _ _) (by assumption), kc (fr1 _ _) (by assumption), kc (fr1 _ _) (by assumption), kc (fr1 _ _) (by assumption), kfa (by assumption)⟩) | (go_split_ands; exact ⟨kc (fr1d _ _) (by assumption), kc (fr1d _ _) (by assumption), kc (fr1d _ _) (by assumption), kc (fr1d _ _) (by assumption), kc (fr1d _ _) (by assumption), kc (fr1d _ _) (by assumption), kc (fr1d _ _) (by assumption), kc (fr1d _ _) (by assumption), kfae (by assumption)⟩))
      clear hK K
      try simp only [Act.put, List.getElem_toArray, List.getElem_cons_succ, List.getElem_cons_zero, List.setIfInBounds_toArray, List.set_cons_zero, List.set_cons_succ]
      refine wpAnyH_take (i := 7) (v := ?v20) rfl (by kernel_rfl) (by kernel_rfl) (by kernel_rfl) (fun _ _ _ h => h) (Or.inl ⟨by kernel_rfl, ?y20⟩) (by assumption) ?_
      case y20 => (intro w hSw; (try dsimp only at hSw); go_simp; all_goals with_reducible rfl)
      try simp only [Act.put, List.getElem_toArray, List.getElem_cons_succ, List.getElem_cons_zero, List.setIfInBounds_toArray, List.set_cons_zero, List.set_cons_succ]
      refine wpAnyH_done (by kernel_rfl) ?_ _
      refine NoPanic.normal ?_
      have FX := hid (HR.out.trans (hHeld.2.2.2.2.2.2.2.2).out)
      have FY := hid (HI.out.trans (hHeld.2.2.2.2.2.2.2.2).out)
      clear hHeld FW a0 a1 a2 a3 b0 b1 b2 b3 y1
      by_cases h0 : R = 0
      · subst h0
        go_wp2
        go_roundw
        case rel => exact ⟨2, rfl, by omega, FY.out, fun _ => E0.out, fun _ => HRR.out, fun h => absurd h (by omega)⟩
        case measure => decide
      · have h1 : (R != 0) = true := by simpa using h0
        have HV := hid (show c2 a b = R by unfold c2 c1 thn; simp [HRR.out, h0, E0.out])
        clear h0
        go_wp2
        go_ret
        exact ⟨congrArg (fun v => Ending.returned (.int .i64 v)) HV.out.symm, FX.out⟩
    | 2, _ =>
      clear hf
      have y1 : wr.cell? ⟨S, 2, none⟩ = some (.func (.func 93) #[] #[]) := hk.cell 2
      clear hk
      obtain ⟨R, hR⟩ : ∃ R, cmpI a.z b.z = R := ⟨_, rfl⟩
      have HC := hid (fun w => cmp_ok a.z b.z w)
      rw [hR] at HC
      have HRR := hid hR
      have E0 := hid (e0 (by omega))
      have E1 := hid (e1 (by omega))
      clear hR e0 e1 e2
      go_upto_region 4 with fail
      have FW := hid (Gx.refl No wr)
      have FW := kd FW
      refine wp_region_noPanic ?_
      refine wp_region_held_drew (S := (fun W' => W'.cell? ⟨G, 0, none⟩ = some (.int .i64 a.z) ∧ W'.cell? ⟨G, 1, none⟩ = some (.int .i64 a.lv) ∧ W'.cell? ⟨G, 2, none⟩ = some (.int .i64 a.bd) ∧ W'.cell? ⟨G, 3, none⟩ = some (.int .i64 a.ag) ∧ W'.cell? ⟨G + 1, 0, none⟩ = some (.int .i64 b.z) ∧ W'.cell? ⟨G + 1, 1, none⟩ = some (.int .i64 b.lv) ∧ W'.cell? ⟨G + 1, 2, none⟩ = some (.int .i64 b.bd) ∧ W'.cell? ⟨G + 1, 3, none⟩ = some (.int .i64 b.ag) ∧ Hid (Gx No wr W'))) (by kernel_rfl) ?_ (fun hHeld => ?_)
      · (try dsimp only); (first | (go_split_ands; exact ⟨kc f (by assumption), kc f (by assumption), kc f (by assumption), kc f (by assumption), kc f (by assumption), kc f (by assumption), kc f (by assumption), kc f (by assumption), by assumption⟩) | (go_split_ands; exact ⟨(by assumption), (by assumption), (by assumption), (by assumption), (by assumption), (by assumption), (by assumption), (by assumption), by assumption⟩) | (go_split_ands; exact ⟨kc (fr1 _ _) (by assumption), kc (fr1 _ _) (by assumption), kc (fr1 _ _) (by assumption), kc (fr1 _ _) (by assumption), kc (fr1 _ _) (by assumption), kc (fr1 _ _) (by assumption), kc (fr1 _ _) (by assumption), kc (fr1 _ _) (by assumption), kfa (by assumption)⟩) | (go_split_ands; exact ⟨kc (fr1d _ _) (by assumption), kc (fr1d _ _) (by assumption), kc (fr1d _ _) (by assumption), kc (fr1d _ _) (by assumption), kc (fr1d _ _) (by assumption), kc (fr1d _ _) (by assumption), kc (fr1d _ _) (by assumption), kc (fr1d _ _) (by assumption), kfae (by assumption)⟩))
      refine wpAnyH_take (i := 0) (v := ?v21) rfl (by kernel_rfl) (by kernel_rfl) (by kernel_rfl) (fun _ _ _ h => h) (Or.inl ⟨by kernel_rfl, ?y21⟩) (by assumption) ?_
      case y21 => (intro w hSw; (try dsimp only at hSw); go_simp; all_goals with_reducible rfl)
      try simp only [Act.put, List.getElem_toArray, List.getElem_cons_zero, List.setIfInBounds_toArray, List.set_cons_zero, List.set_cons_succ]
      refine wpAnyH_take (i := 1) (v := ?v22) rfl (by kernel_rfl) (by kernel_rfl) (by kernel_rfl) (fun _ _ _ h => h) (Or.inl ⟨by kernel_rfl, ?y22⟩) (by assumption) ?_
      case y22 => (intro w hSw; (try dsimp only at hSw); go_simp; all_goals with_reducible rfl)
      try simp only [Act.put, List.getElem_toArray, List.getElem_cons_succ, List.getElem_cons_zero, List.setIfInBounds_toArray, List.set_cons_zero, List.set_cons_succ]
      refine wpAnyH_take (i := 3) (v := ?v23) rfl (by kernel_rfl) (by kernel_rfl) (by kernel_rfl) (fun _ _ _ h => h) (Or.inl ⟨by kernel_rfl, ?y23⟩) (by assumption) ?_
      case y23 => (intro w hSw; (try dsimp only at hSw); go_simp; all_goals with_reducible rfl)
      try simp only [Act.put, List.getElem_toArray, List.getElem_cons_succ, List.getElem_cons_zero, List.setIfInBounds_toArray, List.set_cons_zero, List.set_cons_succ]
      refine wpAnyH_take (i := 4) (v := ?v24) rfl (by kernel_rfl) (by kernel_rfl) (by kernel_rfl) (fun _ _ _ h => h) (Or.inl ⟨by kernel_rfl, ?y24⟩) (by assumption) ?_
      case y24 => (intro w hSw; (try dsimp only at hSw); go_simp; all_goals with_reducible rfl)
      try simp only [Act.put, List.getElem_toArray, List.getElem_cons_succ, List.getElem_cons_zero, List.setIfInBounds_toArray, List.set_cons_zero, List.set_cons_succ]
      refine wpAnyH_ready (rs := [2]) (by kernel_rfl) (by simp) (AllReadyH.cons rfl (fun K hK => ?_) AllReadyH.nil)
      go_simp
      go_at_call 93
      refine (k_z a _).mono ?_
      rintro e W1 ⟨rfl, f⟩
      have FW := kf f hHeld.2.2.2.2.2.2.2.2
      dsimp only
      refine hK.out _ _ ?_ (fun hHeld => ?_)
      · (try dsimp only); (first | (go_split_ands; exact ⟨kc f (by assumption), kc f (by assumption), kc f (by assumption), kc f (by assumption), kc f (by assumption), kc f (by assumption), kc f (by assumption), kc f (by assumption), by assumption⟩) | (go_split_ands; exact ⟨(by assumption), (by assumption), (by assumption), (by assumption), (by assumption), (by assumption), (by assumption), (by assumption), by assumption⟩) | (go_split_ands; exact ⟨kc (fr1 _ _) (by assumption), kc (fr1 _ _) (by assumption), kc (fr1 _ _) (by assumption), kc (fr1 _ _) (by assumption), kc (fr1 _ _) (by assumption), kc (fr1 _ _) (by assumption), kc (fr1 _ _) (by assumption), kc (fr1 _ _) (by assumption), kfa (by assumption)⟩) | (go_split_ands; exact ⟨kc (fr1d _ _) (by assumption), kc (fr1d _ _) (by assumption), kc (fr1d _ _) (by assumption), kc (fr1d _ _) (by assumption), kc (fr1d _ _) (by assumption), kc (fr1d _ _) (by assumption), kc (fr1d _ _) (by assumption), kc (fr1d _ _) (by assumption), kfae (by assumption)⟩))
      clear hK K
      try simp only [Act.put, List.getElem_toArray, List.getElem_cons_succ, List.getElem_cons_zero, List.setIfInBounds_toArray, List.set_cons_zero, List.set_cons_succ]
      refine wpAnyH_ready (rs := [5]) (by kernel_rfl) (by simp) (AllReadyH.cons rfl (fun K hK => ?_) AllReadyH.nil)
      go_simp
      go_at_call 93
      refine (k_z b _).mono ?_
      rintro e W1 ⟨rfl, f⟩
      have FW := kf f hHeld.2.2.2.2.2.2.2.2
      dsimp only
      refine hK.out _ _ ?_ (fun hHeld => ?_)
      · (try dsimp only); (first | (go_split_ands; exact ⟨kc f (by assumption), kc f (by assumption), kc f (by assumption), kc f (by assumption), kc f (by assumption), kc f (by assumption), kc f (by assumption), kc f (by assumption), by assumption⟩) | (go_split_ands; exact ⟨(by assumption), (by assumption), (by assumption), (by assumption), (by assumption), (by assumption), (by assumption), (by assumption), by assumption⟩) | (go_split_ands; exact ⟨kc (fr1 _ _) (by assumption), kc (fr1 _ _) (by assumption), kc (fr1 _ _) (by assumption), kc (fr1 _ _) (by assumption), kc (fr1 _ _) (by assumption), kc (fr1 _ _) (by assumption), kc (fr1 _ _) (by assumption), kc (fr1 _ _) (by assumption), kfa (by assumption)⟩) | (go_split_ands; exact ⟨kc (fr1d _ _) (by assumption), kc (fr1d _ _) (by assumption), kc (fr1d _ _) (by assumption), kc (fr1d _ _) (by assumption), kc (fr1d _ _) (by assumption), kc (fr1d _ _) (by assumption), kc (fr1d _ _) (by assumption), kc (fr1d _ _) (by assumption), kfae (by assumption)⟩))
      clear hK K
      try simp only [Act.put, List.getElem_toArray, List.getElem_cons_succ, List.getElem_cons_zero, List.setIfInBounds_toArray, List.set_cons_zero, List.set_cons_succ]
      refine wpAnyH_ready (rs := [6]) (by kernel_rfl) (by simp) (AllReadyH.cons rfl (fun K hK => ?_) AllReadyH.nil)
      go_simp
      go_at_call 52
      refine (HC.out _).mono ?_
      rintro e W1 ⟨rfl, f⟩
      have FW := kf f hHeld.2.2.2.2.2.2.2.2
      dsimp only
      refine hK.out _ _ ?_ (fun hHeld => ?_)
      · (try dsimp only); (first | (go_split_ands; exact ⟨kc f (by assumption), kc f (by assumption), kc f (by assumption), kc f (by assumption), kc f (by assumption), kc f (by assumption), kc f (by assumption), kc f (by assumption), by assumption⟩) | (go_split_ands; exact ⟨(by assumption), (by assumption), (by assumption), (by assumption), (by assumption), (by assumption), (by assumption), (by assumption), by assumption⟩) | (go_split_ands; exact ⟨kc (fr1 _ _) (by assumption), kc (fr1 _ _) (by assumption), kc (fr1 _ _) (by assumption), kc (fr1 _ _) (by assumption), kc (fr1 _ _) (by assumption), kc (fr1 _ _) (by assumption), kc (fr1 _ _) (by assumption), kc (fr1 _ _) (by assumption), kfa (by assumption)⟩) | (go_split_ands; exact ⟨kc (fr1d _ _) (by assumption), kc (fr1d _ _) (by assumption), kc (fr1d _ _) (by assumption), kc (fr1d _ _) (by assumption), kc (fr1d _ _) (by assumption), kc (fr1d _ _) (by assumption), kc (fr1d _ _) (by assumption), kc (fr1d _ _) (by assumption), kfae (by assumption)⟩))
      clear hK K
      try simp only [Act.put, List.getElem_toArray, List.getElem_cons_succ, List.getElem_cons_zero, List.setIfInBounds_toArray, List.set_cons_zero, List.set_cons_succ]
      refine wpAnyH_take (i := 7) (v := ?v25) rfl (by kernel_rfl) (by kernel_rfl) (by kernel_rfl) (fun _ _ _ h => h) (Or.inl ⟨by kernel_rfl, ?y25⟩) (by assumption) ?_
      case y25 => (intro w hSw; (try dsimp only at hSw); go_simp; all_goals with_reducible rfl)
      try simp only [Act.put, List.getElem_toArray, List.getElem_cons_succ, List.getElem_cons_zero, List.setIfInBounds_toArray, List.set_cons_zero, List.set_cons_succ]
      refine wpAnyH_done (by kernel_rfl) ?_ _
      refine NoPanic.normal ?_
      have FX := hid (HR.out.trans (hHeld.2.2.2.2.2.2.2.2).out)
      have FY := hid (HI.out.trans (hHeld.2.2.2.2.2.2.2.2).out)
      clear hHeld FW a0 a1 a2 a3 b0 b1 b2 b3 y1
      by_cases h0 : R = 0
      · subst h0
        go_wp2
        go_roundw
        case rel => exact ⟨3, rfl, by omega, FY.out, fun _ => E0.out, fun _ => E1.out, fun _ => HRR.out⟩
        case measure => decide
      · have h1 : (R != 0) = true := by simpa using h0
        have HV := hid (show c2 a b = R by unfold c2 c1 thn; simp [HRR.out, E0.out, E1.out])
        clear h0
        go_wp2
        go_ret
        exact ⟨congrArg (fun v => Ending.returned (.int .i64 v)) HV.out.symm, FX.out⟩
    | 3, _ =>
      have HV := hid (show c2 a b = 0 by unfold c2 c1 thn; simp [e0 (by omega), e1 (by omega), e2 (by omega)])
      clear hf hk a0 a1 a2 a3 b0 b1 b2 b3 e0 e1 e2
      go_wp2
      go_ret
      exact ⟨congrArg (fun v => Ending.returned (.int .i64 v)) HV.out.symm, HR.out⟩
    | j + 4, h => omega
end Gz
theorem cmp1 (a b : Ch) (B : Nat) (w : World) (h : KB1 w B) : Calls Try.prog 71 #[chv a, chv b, .pointer (some ⟨B, 0, none⟩)] w fun e w' => e = .returned (.int .i64 (c1 a b)) ∧ Fr No w w' :=
  (Gz.cmp1 a b B w h).mono fun _ _ h => ⟨h.1, h.2.1⟩
theorem cmp2 (a b : Ch) (B : Nat) (w : World) (h : KB2 w B) : Calls Try.prog 71 #[chv a, chv b, .pointer (some ⟨B, 0, none⟩)] w fun e w' => e = .returned (.int .i64 (c2 a b)) ∧ Fr No w w' :=
  (Gz.cmp2 a b B w h).mono fun _ _ h => ⟨h.1, h.2.1⟩
end Go.Proofs.Ytoboialfaifbgaa.ViA
/- Contracts: how many steps a zone takes, how many are enough: the program's and the document's. Conditions: the geometry's Seq and the numbers have 64 bits. -/
namespace Go.Proofs.Ytoboialfaifbgaa.ViB
open Go.RowKit MSep MSepC MSpM MGeM GeA GeC GeE PgA PgB ViA

/-- How many chunks a band has; how many steps. -/
def chk (D ch : Int) : Int := (D - 1) / ch + 1
def stp (g : Ge) (b ch : Int) : Int := if mayG g ∧ 0 ≤ b ∧ b ≤ g.s - g.k - 1 ∧ 1 ≤ ch then 2 + b * (3 + chk (g.n - 1) ch) else 0
def bnd (g : Ge) (ch : Int) : Int := if mayG g ∧ 1 ≤ ch then 2 * stp g (g.s - g.k - 1) ch + 4 else 0
theorem chk_in {D ch : Int} (h1 : 7 ≤ D) (h2 : D ≤ 1023) (h3 : 1 ≤ ch) : 1 ≤ chk D ch ∧ chk D ch ≤ 1023 := by
  unfold chk
  have a1 : 0 ≤ (D - 1) / ch := Int.ediv_nonneg (by omega) (by omega)
  have a2 : (D - 1) / ch ≤ D - 1 := Int.ediv_le_self _ (by omega)
  omega
theorem prod_in {b c : Int} (h1 : 0 ≤ b) (h2 : b ≤ 126) (h3 : 1 ≤ c) (h4 : c ≤ 1023) : 0 ≤ b * (3 + c) ∧ b * (3 + c) ≤ 129276 := by
  have a1 := Int.mul_nonneg h1 (show 0 ≤ 3 + c by omega)
  have a2 := Int.mul_le_mul h2 (show 3 + c ≤ 1026 by omega) (by omega) (by omega)
  omega
theorem ediv_of {a c q : Int} (hc : 0 < c) (h1 : q * c ≤ a) (h2 : a < q * c + c) : a / c = q := by
  refine Int.le_antisymm ?_ ?_
  · have : a / c < q + 1 := Int.ediv_lt_of_lt_mul hc (by rw [Int.add_mul, Int.one_mul]; exact h2)
    omega
  · exact Int.le_ediv_of_mul_le hc h1
theorem wr64 (x y : Int) (h : IntKind.wrap .i64 x = y) : wrap64 x = y := by
  rw [IntKind.wrap_i64] at h
  rw [← h]; unfold wrap64; rfl
theorem rs_in {D ch P : Int} {j : Nat} (hP : (j : Int) * ch = P) (h1 : 1 ≤ ch) (h2 : P < D) (hD : D ≤ 1023) : (0 ≤ P ∧ P ≤ 1023) ∧ (j : Int) ≤ 1022 := by
  have a1 := Int.mul_le_mul_of_nonneg_left h1 (show (0 : Int) ≤ (j : Int) by omega)
  rw [hP, Int.mul_one] at a1
  omega
theorem rs_yes {D ch P : Int} {j : Nat} (hP : (j : Int) * ch = P) (h1 : 1 ≤ ch) (h2 : P < D) (hx : D - P ≤ ch) : chk D ch = (j : Int) + 1 := by
  unfold chk
  rw [ediv_of (q := (j : Int)) (by omega) (by rw [hP]; omega) (by rw [hP]; omega)]
theorem rs_no {D ch P : Int} {j : Nat} (hP : (j : Int) * ch = P) (h1 : 1 ≤ ch) (h2 : P < D) (hx : ¬ D - P ≤ ch) (hD : D ≤ 1023) : P + ch < D ∧ ((j : Int) + 1) * ch = P + ch ∧ (j : Int) + 1 ≤ 1023 := by
  have h3 := rs_in hP h1 h2 hD
  exact ⟨by omega, by rw [Int.add_mul, Int.one_mul, hP], by omega⟩
theorem gnum {g : Ge} (h : mayG g) : (7 ≤ g.n - 1 ∧ g.n - 1 ≤ 1023) ∧ (1 ≤ g.s - g.k - 1 ∧ g.s - g.k - 1 ≤ 126) := by
  have h1 := h.1
  unfold inB at h1
  omega
theorem stp_in (g : Ge) (b ch : Int) : 0 ≤ stp g b ch ∧ stp g b ch ≤ 129278 := by
  unfold stp
  split
  · rename_i h
    obtain ⟨h1, h2⟩ := gnum h.1
    obtain ⟨h3, h4⟩ := chk_in h1.1 h1.2 h.2.2.2
    obtain ⟨h5, h6⟩ := prod_in h.2.1 (Int.le_trans h.2.2.1 h2.2) h3 h4
    omega
  · omega
theorem mul_mono {b B c : Int} (_h0 : 0 ≤ b) (h : b ≤ B) (h3 : 1 ≤ c) : b * (3 + c) ≤ B * (3 + c) := Int.mul_le_mul_of_nonneg_right h (by omega)
theorem bnd_gt (g : Ge) (b ch : Int) : stp g b ch = 0 ∨ 2 * stp g b ch - 1 < bnd g ch := by
  by_cases h : mayG g ∧ 0 ≤ b ∧ b ≤ g.s - g.k - 1 ∧ 1 ≤ ch
  · right
    obtain ⟨h1, h2⟩ := gnum h.1
    obtain ⟨h3, _⟩ := chk_in h1.1 h1.2 h.2.2.2
    have h7 := mul_mono h.2.1 h.2.2.1 h3
    unfold bnd stp
    rw [if_pos h, if_pos ⟨h.1, h.2.2.2⟩, if_pos ⟨h.1, by omega, by omega, h.2.2.2⟩]
    omega
  · left
    unfold stp
    rw [if_neg h]
theorem layY (gc gs gn gl gk : Int) (w : World) (hs : PgB.r64 gs) (hm : mayG ⟨gc, gs, gn, gl, gk⟩) : Calls Try.prog 54 #[gv gc gs gn gl gk] w fun e w' => (∃ a r q t x u : Int, e = .returned (.tuple #[.agg #[.int .i64 a, .int .i64 r, .int .i64 q, .int .i64 (gs - gk - 1), .int .i64 (gn - 1), .int .i64 t, .int .i64 x, .int .i64 u], .int .i64 0])) ∧ Fr No w w' := by
  refine (layout_ok gc gs gn gl gk w hs).mono ?_
  rintro e w' ⟨h, f⟩
  rw [lyo, if_pos hm] at h
  exact ⟨⟨_, _, _, _, _, _, h⟩, f⟩
theorem layN (gc gs gn gl gk : Int) (w : World) (hs : PgB.r64 gs) (hm : ¬ mayG ⟨gc, gs, gn, gl, gk⟩) : Calls Try.prog 54 #[gv gc gs gn gl gk] w fun e w' => e = .returned (.tuple #[.agg #[.int .i64 0, .int .i64 0, .int .i64 0, .int .i64 0, .int .i64 0, .int .i64 0, .int .i64 0, .int .i64 0], .int .i64 70]) ∧ Fr No w w' := by
  refine (layout_ok gc gs gn gl gk w hs).mono ?_
  rintro e w' ⟨h, f⟩
  rw [lyo, if_neg hm] at h
  exact ⟨h, f⟩
theorem rlayY (gc gs gn gl gk : Int) (w : World) (hs : PgB.r64 gs) (hm : mayG ⟨gc, gs, gn, gl, gk⟩) : Calls Try.prog 22 #[gv gc gs gn gl gk] w fun e w' => (∃ a r q t x u : Int, e = .returned (.tuple #[.agg #[.int .i64 a, .int .i64 r, .int .i64 q, .int .i64 (gs - gk - 1), .int .i64 (gn - 1), .int .i64 t, .int .i64 x, .int .i64 u], .bool true])) ∧ Fr No w w' := by
  refine (GeEk.rlayout_ok gc gs gn gl gk w hs).mono ?_
  rintro e w' ⟨h, f⟩
  rw [rlo, if_pos hm] at h
  exact ⟨⟨_, _, _, _, _, _, h⟩, f⟩
theorem rlayN (gc gs gn gl gk : Int) (w : World) (hs : PgB.r64 gs) (hm : ¬ mayG ⟨gc, gs, gn, gl, gk⟩) : Calls Try.prog 22 #[gv gc gs gn gl gk] w fun e w' => e = .returned (.tuple #[.agg #[.int .i64 0, .int .i64 0, .int .i64 0, .int .i64 0, .int .i64 0, .int .i64 0, .int .i64 0, .int .i64 0], .bool false]) ∧ Fr No w w' := by
  refine (GeEk.rlayout_ok gc gs gn gl gk w hs).mono ?_
  rintro e w' ⟨h, f⟩
  rw [rlo, if_neg hm] at h
  exact ⟨h, f⟩
-- WALKS
set_option maxRecDepth 100000 in
set_option maxHeartbeats 2000000 in
theorem steps_ok (gc gs gn gl gk b ch : Int) (w : World) (hs : PgB.r64 gs) : Calls Try.prog 26 #[gv gc gs gn gl gk, .int .i64 b, .int .i64 ch] w fun e w' => e = .returned (.int .i64 (stp ⟨gc, gs, gn, gl, gk⟩ b ch)) ∧ Fr No w w' := by
  have HF := hid (fr1 w (bg gc gs gn gl gk))
  have P0 := hid (BG.new w gc gs gn gl gk)
  by_cases hm : mayG ⟨gc, gs, gn, gl, gk⟩
  case neg =>
    rw [show stp ⟨gc, gs, gn, gl, gk⟩ b ch = 0 from if_neg (fun h => hm h.1)]
    have HLY := hid (fun W => layN gc gs gn gl gk W hs hm)
    clear hm hs
    go_enter Try.func26, Try.ntmps26
    go_wp2_with (first | ((with_reducible refine ld_geom rfl (.tmp 11) rfl w.heap.size ?_ P0.out ?_); · rfl) | (go_at_call 54; refine (HLY.out _).mono ?_; rintro e w2 ⟨rfl, f2⟩; replace HF := hid (HF.out.trans f2); clear f2))
    go_ret
    exact ⟨rfl, HF.out.alloc _⟩
  have HLY := hid (fun W => layY gc gs gn gl gk W hs hm)
  obtain ⟨hD, hB⟩ := gnum hm
  dsimp only at hD hB
  obtain ⟨Bn, hBn⟩ : ∃ Bn, gs - gk - 1 = Bn := ⟨_, rfl⟩
  obtain ⟨D, hDD⟩ : ∃ D, gn - 1 = D := ⟨_, rfl⟩
  rw [hBn] at hB HLY
  rw [hDD] at hD HLY
  by_cases hb : 0 ≤ b ∧ b ≤ Bn ∧ 1 ≤ ch
  case neg =>
    rw [show stp ⟨gc, gs, gn, gl, gk⟩ b ch = 0 from if_neg (fun h => hb ⟨h.2.1, by rw [← hBn]; exact h.2.2.1, h.2.2.2⟩)]
    have hb3 : b < 0 ∨ (0 ≤ b ∧ Bn < b) ∨ (0 ≤ b ∧ b ≤ Bn ∧ ch < 1) := by omega
    clear hm hs hD hB hBn hDD hb
    rcases hb3 with hb | hb | hb
    · have e1 : decide (b < 0) = true := decide_eq_true hb
      go_enter Try.func26, Try.ntmps26
      go_wp2_with (first | ((with_reducible refine ld_geom rfl (.tmp 11) rfl w.heap.size ?_ P0.out ?_); · rfl) | (go_at_call 54; refine (HLY.out _).mono ?_; rintro e w2 ⟨⟨ya, yr, yq, yt, yx, yu, rfl⟩, f2⟩; have HF2 := hid (HF.out.trans f2); have P2 := hid (BG.fr P0.out f2); clear f2))
      go_ret
      exact ⟨rfl, HF2.out.alloc _⟩
    · have e1 : decide (b < 0) = false := decide_eq_false (by omega)
      have e2 : decide (Bn < b) = true := decide_eq_true hb.2
      have e3 := hb.1
      have e4 := hb.2
      clear hb
      go_enter Try.func26, Try.ntmps26
      go_wp2_with (first | ((with_reducible refine ld_geom rfl (.tmp 11) rfl w.heap.size ?_ P0.out ?_); · rfl) | (go_at_call 54; refine (HLY.out _).mono ?_; rintro e w2 ⟨⟨ya, yr, yq, yt, yx, yu, rfl⟩, f2⟩; have HF2 := hid (HF.out.trans f2); have P2 := hid (BG.fr P0.out f2); clear f2))
      go_ret
      exact ⟨rfl, HF2.out.alloc _⟩
    · have e1 : decide (b < 0) = false := decide_eq_false (by omega)
      have e2 : decide (Bn < b) = false := decide_eq_false (by omega)
      have e3 := hb.1
      have e4 := hb.2.1
      have e5 := hb.2.2
      have e6 : decide (ch < 1) = true := decide_eq_true hb.2.2
      clear hb
      go_enter Try.func26, Try.ntmps26
      go_wp2_with (first | ((with_reducible refine ld_geom rfl (.tmp 11) rfl w.heap.size ?_ P0.out ?_); · rfl) | (go_at_call 54; refine (HLY.out _).mono ?_; rintro e w2 ⟨⟨ya, yr, yq, yt, yx, yu, rfl⟩, f2⟩; have HF2 := hid (HF.out.trans f2); have P2 := hid (BG.fr P0.out f2); clear f2))
      go_ret
      exact ⟨rfl, HF2.out.alloc _⟩
  have HV := hid (show stp ⟨gc, gs, gn, gl, gk⟩ b ch = 2 + b * (3 + chk D ch) from by rw [← hDD]; exact if_pos ⟨hm, hb.1, by rw [hBn]; exact hb.2.1, hb.2.2⟩)
  obtain ⟨c1, c2⟩ := chk_in hD.1 hD.2 hb.2.2
  obtain ⟨q1, q2⟩ := prod_in hb.1 (Int.le_trans hb.2.1 hB.2) c1 c2
  obtain ⟨C, hC⟩ : ∃ C, chk D ch = C := ⟨_, rfl⟩
  rw [hC] at HV c1 c2 q1 q2
  have e1 : decide (b < 0) = false := decide_eq_false (by omega)
  have e2 : decide (Bn < b) = false := decide_eq_false (by omega)
  have e3 := hb.1
  have e4 := hb.2.1
  have e5 := hb.2.2
  have e6 : decide (ch < 1) = false := decide_eq_false (by omega)
  have m1 : wrap64 (3 + C) = 3 + C := SpA.w64 _ (by omega)
  have m2 : wrap64 (b * (3 + C)) = b * (3 + C) := SpA.w64 _ (by omega)
  have m3 : wrap64 (2 + b * (3 + C)) = 2 + b * (3 + C) := SpA.w64 _ (by omega)
  have m4 : wrap64 (D - 1) = D - 1 := SpA.w64 _ (by omega)
  have m5' : IntKind.i64.wrap ((D - 1).tdiv ch) = (D - 1) / ch := Go.IntWalk.i64_quo (D - 1) ch ⟨by omega, by omega, by omega⟩
  have m5 : wrap64 ((D - 1).tdiv ch) = (D - 1) / ch := wr64 _ _ m5'
  have m6 : wrap64 ((D - 1) / ch + 1) = C := (SpA.w64 _ (by unfold chk at hC; omega)).trans hC
  have m7 : ch ≠ 0 := by omega
  have m8 : (ch == 0) = false := by simpa using m7
  clear hm hs hD hB hBn hDD hb hC c1 c2 q1 q2
  go_enter Try.func26, Try.ntmps26
  go_wp2_with (first | ((with_reducible refine ld_geom rfl (.tmp 11) rfl w.heap.size ?_ P0.out ?_); · rfl) | (go_at_call 54; refine (HLY.out _).mono ?_; rintro e w2 ⟨⟨ya, yr, yq, yt, yx, yu, rfl⟩, f2⟩; have HF2 := hid (HF.out.trans f2); have P2 := hid (BG.fr P0.out f2); clear f2))
  go_ret
  exact ⟨congrArg (fun v => Ending.returned (.int .i64 v)) (m3.trans HV.out.symm), HF2.out.alloc _⟩
set_option maxRecDepth 100000 in
set_option maxHeartbeats 2000000 in
theorem bound_ok (gc gs gn gl gk ch : Int) (w : World) (hs : PgB.r64 gs) : Calls Try.prog 27 #[gv gc gs gn gl gk, .int .i64 ch] w fun e w' => e = .returned (.int .i64 (bnd ⟨gc, gs, gn, gl, gk⟩ ch)) ∧ Fr No w w' := by
  have HF := hid (fr1 w (bg gc gs gn gl gk))
  have P0 := hid (BG.new w gc gs gn gl gk)
  by_cases hm : mayG ⟨gc, gs, gn, gl, gk⟩
  case neg =>
    rw [show bnd ⟨gc, gs, gn, gl, gk⟩ ch = 0 from if_neg (fun h => hm h.1)]
    have HLY := hid (fun W => layN gc gs gn gl gk W hs hm)
    clear hm hs
    go_enter Try.func27, Try.ntmps27
    go_wp2_with (first | ((with_reducible refine ld_geom rfl (.tmp 8) rfl w.heap.size ?_ P0.out ?_); · rfl) | (go_at_call 54; refine (HLY.out _).mono ?_; rintro e w2 ⟨rfl, f2⟩; replace HF := hid (HF.out.trans f2); clear f2))
    go_ret
    exact ⟨rfl, HF.out.alloc _⟩
  have HLY := hid (fun W => layY gc gs gn gl gk W hs hm)
  by_cases hc : 1 ≤ ch
  case neg =>
    rw [show bnd ⟨gc, gs, gn, gl, gk⟩ ch = 0 from if_neg (fun h => hc h.2)]
    have e1 : ch < 1 := by omega
    have e2 : decide (ch < 1) = true := decide_eq_true e1
    clear hm hs hc
    go_enter Try.func27, Try.ntmps27
    go_wp2_with (first | ((with_reducible refine ld_geom rfl (.tmp 8) rfl w.heap.size ?_ P0.out ?_); · rfl) | (go_at_call 54; refine (HLY.out _).mono ?_; rintro e w2 ⟨⟨ya, yr, yq, yt, yx, yu, rfl⟩, f2⟩; have HF2 := hid (HF.out.trans f2); have P2 := hid (BG.fr P0.out f2); clear f2))
    go_ret
    exact ⟨rfl, HF2.out.alloc _⟩
  obtain ⟨V, hV⟩ : ∃ V, stp ⟨gc, gs, gn, gl, gk⟩ (gs - gk - 1) ch = V := ⟨_, rfl⟩
  have HV := hid (show bnd ⟨gc, gs, gn, gl, gk⟩ ch = 2 * V + 4 from by rw [← hV]; exact if_pos ⟨hm, hc⟩)
  obtain ⟨v1, v2⟩ := stp_in ⟨gc, gs, gn, gl, gk⟩ (gs - gk - 1) ch
  rw [hV] at v1 v2
  have HS := hid (fun W => steps_ok gc gs gn gl gk (gs - gk - 1) ch W hs)
  rw [hV] at HS
  obtain ⟨Bn, hBn⟩ : ∃ Bn, gs - gk - 1 = Bn := ⟨_, rfl⟩
  rw [hBn] at HLY HS
  have e1 : ¬ ch < 1 := by omega
  have e2 : decide (ch < 1) = false := decide_eq_false e1
  have m1 : wrap64 (2 * V) = 2 * V := SpA.w64 _ (by omega)
  have m2 : wrap64 (2 * V + 4) = 2 * V + 4 := SpA.w64 _ (by omega)
  clear hm hs hc hV v1 v2 hBn
  go_enter Try.func27, Try.ntmps27
  go_upto_region 4 with (first | ((with_reducible refine ld_geom rfl (.tmp 8) rfl w.heap.size ?_ P0.out ?_); · rfl) | (go_at_call 54; refine (HLY.out _).mono ?_; rintro e w2 ⟨⟨ya, yr, yq, yt, yx, yu, rfl⟩, f2⟩; have HF2 := hid (HF.out.trans f2); have P2 := hid (BG.fr P0.out f2); clear f2))
  obtain ⟨p0, p1, p2, p3, p4⟩ := BG.cells (Blk.alloc P2.out (by_ ya yr yq Bn (gn - 1) yt yx yu) : BG _ _ _ _ _ _ _)
  go_wp2_with (go_at_call 26; refine (HS.out _).mono ?_; rintro e w4 ⟨rfl, f4⟩; have HF4 := hid ((HF2.out.alloc (by_ ya yr yq Bn (gn - 1) yt yx yu)).trans f4); clear f4)
  go_ret
  exact ⟨congrArg (fun v => Ending.returned (.int .i64 v)) (m2.trans HV.out.symm), HF4.out⟩
set_option maxRecDepth 100000 in
set_option maxHeartbeats 2000000 in
theorem rsteps_ok (gc gs gn gl gk b ch : Int) (w : World) (hs : PgB.r64 gs) : Calls Try.prog 28 #[gv gc gs gn gl gk, .int .i64 b, .int .i64 ch] w fun e w' => e = .returned (.int .i64 (stp ⟨gc, gs, gn, gl, gk⟩ b ch)) ∧ Fr No w w' := by
  have HF := hid (fr1 w (bg gc gs gn gl gk))
  have P0 := hid (BG.new w gc gs gn gl gk)
  by_cases hm : mayG ⟨gc, gs, gn, gl, gk⟩
  case neg =>
    rw [show stp ⟨gc, gs, gn, gl, gk⟩ b ch = 0 from if_neg (fun h => hm h.1)]
    have HLY := hid (fun W => rlayN gc gs gn gl gk W hs hm)
    clear hm hs
    go_enter Try.func28, Try.ntmps28
    go_wp2_with (first | ((with_reducible refine ld_geom rfl (.tmp 12) rfl w.heap.size ?_ P0.out ?_); · rfl) | (go_at_call 22; refine (HLY.out _).mono ?_; rintro e w2 ⟨rfl, f2⟩; replace HF := hid (HF.out.trans f2); clear f2))
    go_ret
    exact ⟨rfl, HF.out.alloc _⟩
  have HLY := hid (fun W => rlayY gc gs gn gl gk W hs hm)
  obtain ⟨hD, hB⟩ := gnum hm
  dsimp only at hD hB
  obtain ⟨Bn, hBn⟩ : ∃ Bn, gs - gk - 1 = Bn := ⟨_, rfl⟩
  obtain ⟨D, hDD⟩ : ∃ D, gn - 1 = D := ⟨_, rfl⟩
  rw [hBn] at hB HLY
  rw [hDD] at hD HLY
  by_cases hb : 0 ≤ b ∧ b ≤ Bn ∧ 1 ≤ ch
  case neg =>
    rw [show stp ⟨gc, gs, gn, gl, gk⟩ b ch = 0 from if_neg (fun h => hb ⟨h.2.1, by rw [← hBn]; exact h.2.2.1, h.2.2.2⟩)]
    have hb3 : b < 0 ∨ (0 ≤ b ∧ Bn < b) ∨ (0 ≤ b ∧ b ≤ Bn ∧ ch < 1) := by omega
    clear hm hs hD hB hBn hDD hb
    rcases hb3 with hb | hb | hb
    · have e1 : decide (b < 0) = true := decide_eq_true hb
      go_enter Try.func28, Try.ntmps28
      go_wp2_with (first | ((with_reducible refine ld_geom rfl (.tmp 12) rfl w.heap.size ?_ P0.out ?_); · rfl) | (go_at_call 22; refine (HLY.out _).mono ?_; rintro e w2 ⟨⟨ya, yr, yq, yt, yx, yu, rfl⟩, f2⟩; have HF2 := hid (HF.out.trans f2); have P2 := hid (BG.fr P0.out f2); clear f2))
      go_ret
      exact ⟨rfl, HF2.out.alloc _⟩
    · have e1 : decide (b < 0) = false := decide_eq_false (by omega)
      have e2 : decide (Bn < b) = true := decide_eq_true hb.2
      have e3 := hb.1
      have e4 := hb.2
      clear hb
      go_enter Try.func28, Try.ntmps28
      go_wp2_with (first | ((with_reducible refine ld_geom rfl (.tmp 12) rfl w.heap.size ?_ P0.out ?_); · rfl) | (go_at_call 22; refine (HLY.out _).mono ?_; rintro e w2 ⟨⟨ya, yr, yq, yt, yx, yu, rfl⟩, f2⟩; have HF2 := hid (HF.out.trans f2); have P2 := hid (BG.fr P0.out f2); clear f2))
      go_ret
      exact ⟨rfl, HF2.out.alloc _⟩
    · have e1 : decide (b < 0) = false := decide_eq_false (by omega)
      have e2 : decide (Bn < b) = false := decide_eq_false (by omega)
      have e3 := hb.1
      have e4 := hb.2.1
      have e5 := hb.2.2
      have e6 : decide (ch < 1) = true := decide_eq_true hb.2.2
      clear hb
      go_enter Try.func28, Try.ntmps28
      go_wp2_with (first | ((with_reducible refine ld_geom rfl (.tmp 12) rfl w.heap.size ?_ P0.out ?_); · rfl) | (go_at_call 22; refine (HLY.out _).mono ?_; rintro e w2 ⟨⟨ya, yr, yq, yt, yx, yu, rfl⟩, f2⟩; have HF2 := hid (HF.out.trans f2); have P2 := hid (BG.fr P0.out f2); clear f2))
      go_ret
      exact ⟨rfl, HF2.out.alloc _⟩
  have HV := hid (show stp ⟨gc, gs, gn, gl, gk⟩ b ch = 2 + b * (3 + chk D ch) from by rw [← hDD]; exact if_pos ⟨hm, hb.1, by rw [hBn]; exact hb.2.1, hb.2.2⟩)
  obtain ⟨c1, c2⟩ := chk_in hD.1 hD.2 hb.2.2
  obtain ⟨q1, q2⟩ := prod_in hb.1 (Int.le_trans hb.2.1 hB.2) c1 c2
  obtain ⟨C, hC⟩ : ∃ C, chk D ch = C := ⟨_, rfl⟩
  rw [hC] at HV c1 c2 q1 q2
  have e1 : decide (b < 0) = false := decide_eq_false (by omega)
  have e2 : decide (Bn < b) = false := decide_eq_false (by omega)
  have e3 := hb.1
  have e4 := hb.2.1
  have e5 := hb.2.2
  have e6 : decide (ch < 1) = false := decide_eq_false (by omega)
  have m1 : wrap64 (3 + C) = 3 + C := SpA.w64 _ (by omega)
  have m2 : wrap64 (b * (3 + C)) = b * (3 + C) := SpA.w64 _ (by omega)
  have m3 : wrap64 (2 + b * (3 + C)) = 2 + b * (3 + C) := SpA.w64 _ (by omega)
  have HC := hid hC
  have HD := hid hD
  clear hm hs hB hBn hDD hb hC c1 c2 q1 q2 hD
  go_enter Try.func28, Try.ntmps28
  go_upto_region 4 with (first | ((with_reducible refine ld_geom rfl (.tmp 12) rfl w.heap.size ?_ P0.out ?_); · rfl) | (go_at_call 22; refine (HLY.out _).mono ?_; rintro e w2 ⟨⟨ya, yr, yq, yt, yx, yu, rfl⟩, f2⟩; have HF2 := hid (HF.out.trans f2); have P2 := hid (BG.fr P0.out f2); clear f2))
  obtain ⟨Y, hY⟩ : ∃ Y, w2.heap.size = Y := ⟨_, rfl⟩
  obtain ⟨w3, hw3⟩ : ∃ w3, w2.alloc (by_ ya yr yq Bn D yt yx yu) = w3 := ⟨_, rfl⟩
  have PY := hid (show BL w3 Y ya yr yq Bn D yt yx yu by rw [← hw3, ← hY]; exact BL.new _ _ _ _ _ _ _ _ _)
  replace HF := hid (show Fr No w w3 by rw [← hw3]; exact HF2.out.alloc _)
  try rw [show w2.alloc (Obj.cells #[.int .i64 ya, .int .i64 yr, .int .i64 yq, .int .i64 Bn, .int .i64 D, .int .i64 yt, .int .i64 yx, .int .i64 yu] 50) = w3 from hw3]
  try rw [hY]
  clear hw3 hY
  have y4 : w3.cell? ⟨Y, 4, none⟩ = some (.int .i64 D) := PY.out.cells.2.2.2.2.1
  go_upto_region 6 with fail
  go_loopw [9, 10] (fun n at_ wr => ∃ j : Nat, n = .int .i64 j ∧ at_ = .int .i64 ((j : Int) * ch) ∧ (j : Int) * ch < D ∧ (j : Int) ≤ 1023 ∧ wr = w3) (fun _ at_ _ => (D - intOf at_).toNat)
  case atStart => exact ⟨0, rfl, by simp, by have := HD.out; omega, by omega, rfl⟩
  case round =>
    obtain ⟨j, rfl, rfl, hj, hj2, hwr⟩ := hrel
    subst hwr
    obtain ⟨P, hP⟩ : ∃ P, (j : Int) * ch = P := ⟨_, rfl⟩
    rw [hP] at hj ⊢
    have hr := rs_in hP e5 hj HD.out.2
    have HP := hid hP
    clear hP
    have k1 : wrap64 ((j : Int) + 1) = (j : Int) + 1 := SpA.w64 _ (by omega)
    have k2 : wrap64 (D - P) = D - P := SpA.w64 _ (by have := HD.out; omega)
    have k3 : wrap64 (P + ch) = P + ch ∨ D - P ≤ ch := by by_cases h : D - P ≤ ch; exact .inr h; exact .inl (SpA.w64 _ (by have := HD.out; omega))
    by_cases hx : D - P ≤ ch
    · have e7 : decide (D - P ≤ ch) = true := decide_eq_true hx
      have HV2 := hid (HC.out.symm.trans (rs_yes HP.out e5 hj hx))
      clear hr k3
      have hC2 := HV2.out
      clear HV2 HC
      subst hC2
      go_wp2
      go_ret
      exact ⟨congrArg (fun v => Ending.returned (.int .i64 v)) (m3.trans HV.out.symm), HF.out⟩
    · have e7 : decide (D - P ≤ ch) = false := decide_eq_false hx
      replace k3 := k3.resolve_right hx
      have HQ := hid (rs_no HP.out e5 hj hx HD.out.2)
      have e8 : decide (P < D) = true := decide_eq_true hj
      clear hr hx hj
      go_wp2
      go_roundw
      case rel => exact ⟨j + 1, congrArg (Value.int .i64) (Int.natCast_add j 1).symm, by rw [k3, ← HQ.out.2.1]; exact congrArg (fun t : Int => Value.int .i64 (t * ch)) (Int.natCast_add j 1).symm, by rw [show ((j + 1 : Nat) : Int) = (j : Int) + 1 from rfl, HQ.out.2.1]; exact HQ.out.1, HQ.out.2.2, by trivial⟩
      case measure => (have := HQ.out.1; simp only [intOf]; omega)
set_option maxRecDepth 100000 in
set_option maxHeartbeats 2000000 in
theorem rbound_ok (gc gs gn gl gk ch : Int) (w : World) (hs : PgB.r64 gs) : Calls Try.prog 29 #[gv gc gs gn gl gk, .int .i64 ch] w fun e w' => e = .returned (.int .i64 (bnd ⟨gc, gs, gn, gl, gk⟩ ch)) ∧ Fr No w w' := by
  have HF := hid (fr1 w (bg gc gs gn gl gk))
  have P0 := hid (BG.new w gc gs gn gl gk)
  by_cases hm : mayG ⟨gc, gs, gn, gl, gk⟩
  case neg =>
    rw [show bnd ⟨gc, gs, gn, gl, gk⟩ ch = 0 from if_neg (fun h => hm h.1)]
    have HLY := hid (fun W => rlayN gc gs gn gl gk W hs hm)
    clear hm hs
    go_enter Try.func29, Try.ntmps29
    go_wp2_with (first | ((with_reducible refine ld_geom rfl (.tmp 8) rfl w.heap.size ?_ P0.out ?_); · rfl) | (go_at_call 22; refine (HLY.out _).mono ?_; rintro e w2 ⟨rfl, f2⟩; replace HF := hid (HF.out.trans f2); clear f2))
    go_ret
    exact ⟨rfl, HF.out.alloc _⟩
  have HLY := hid (fun W => rlayY gc gs gn gl gk W hs hm)
  by_cases hc : 1 ≤ ch
  case neg =>
    rw [show bnd ⟨gc, gs, gn, gl, gk⟩ ch = 0 from if_neg (fun h => hc h.2)]
    have e1 : ch < 1 := by omega
    have e2 : decide (ch < 1) = true := decide_eq_true e1
    clear hm hs hc
    go_enter Try.func29, Try.ntmps29
    go_wp2_with (first | ((with_reducible refine ld_geom rfl (.tmp 8) rfl w.heap.size ?_ P0.out ?_); · rfl) | (go_at_call 22; refine (HLY.out _).mono ?_; rintro e w2 ⟨⟨ya, yr, yq, yt, yx, yu, rfl⟩, f2⟩; have HF2 := hid (HF.out.trans f2); have P2 := hid (BG.fr P0.out f2); clear f2))
    go_ret
    exact ⟨rfl, HF2.out.alloc _⟩
  obtain ⟨V, hV⟩ : ∃ V, stp ⟨gc, gs, gn, gl, gk⟩ (gs - gk - 1) ch = V := ⟨_, rfl⟩
  have HV := hid (show bnd ⟨gc, gs, gn, gl, gk⟩ ch = 2 * V + 4 from by rw [← hV]; exact if_pos ⟨hm, hc⟩)
  obtain ⟨v1, v2⟩ := stp_in ⟨gc, gs, gn, gl, gk⟩ (gs - gk - 1) ch
  rw [hV] at v1 v2
  have HS := hid (fun W => rsteps_ok gc gs gn gl gk (gs - gk - 1) ch W hs)
  rw [hV] at HS
  obtain ⟨Bn, hBn⟩ : ∃ Bn, gs - gk - 1 = Bn := ⟨_, rfl⟩
  rw [hBn] at HLY HS
  have e1 : ¬ ch < 1 := by omega
  have e2 : decide (ch < 1) = false := decide_eq_false e1
  have m1 : wrap64 (2 * V) = 2 * V := SpA.w64 _ (by omega)
  have m2 : wrap64 (2 * V + 4) = 2 * V + 4 := SpA.w64 _ (by omega)
  clear hm hs hc hV v1 v2 hBn
  go_enter Try.func29, Try.ntmps29
  go_upto_region 4 with (first | ((with_reducible refine ld_geom rfl (.tmp 8) rfl w.heap.size ?_ P0.out ?_); · rfl) | (go_at_call 22; refine (HLY.out _).mono ?_; rintro e w2 ⟨⟨ya, yr, yq, yt, yx, yu, rfl⟩, f2⟩; have HF2 := hid (HF.out.trans f2); have P2 := hid (BG.fr P0.out f2); clear f2))
  obtain ⟨p0, p1, p2, p3, p4⟩ := BG.cells (Blk.alloc P2.out (by_ ya yr yq Bn (gn - 1) yt yx yu) : BG _ _ _ _ _ _ _)
  go_wp2_with (go_at_call 28; refine (HS.out _).mono ?_; rintro e w4 ⟨rfl, f4⟩; have HF4 := hid ((HF2.out.alloc (by_ ya yr yq Bn (gn - 1) yt yx yu)).trans f4); clear f4)
  go_ret
  exact ⟨congrArg (fun v => Ending.returned (.int .i64 v)) (m2.trans HV.out.symm), HF4.out⟩
end Go.Proofs.Ytoboialfaifbgaa.ViB
/- Contracts: which of two choices comes ahead: the program's and the document's. No condition. -/
namespace Go.Proofs.Ytoboialfaifbgaa.ViC
open Go.RowKit MSep MSepC MSpM MGeM GeA GeC GeE PgA PgB ViA ViB

/-- Of two choices by a policy: does the first one come ahead? -/
def ahd (p : Int) (a b : Ch) : Bool := if p = 2 ∧ a.lv ≠ b.lv then decide (a.lv < b.lv) else if a.ag ≠ b.ag then decide (a.ag < b.ag) else decide (a.z < b.z)
theorem cmpI_lt (x y : Int) : decide (cmpI x y < 0) = decide (x < y) := by
  refine decide_eq_decide.2 ?_
  unfold cmpI
  split
  · simp [*]
  · split <;> simp [*]
theorem thn_lt (x y z : Int) : decide (thn (cmpI x y) z < 0) = if x ≠ y then decide (x < y) else decide (z < 0) := by
  unfold thn
  by_cases h : x = y
  · rw [if_pos (cmpI_0.2 h), if_neg (fun h' => h' h)]
  · rw [if_neg (fun e => h (cmpI_0.1 e)), if_pos h]
    exact cmpI_lt x y
theorem ahd1 (a b : Ch) : decide (c1 a b < 0) = ahd 1 a b := by
  unfold c1 ahd
  rw [thn_lt, cmpI_lt, if_neg (fun h : (1 : Int) = 2 ∧ a.lv ≠ b.lv => absurd h.1 (by decide))]
theorem ahd2 (a b : Ch) : decide (c2 a b < 0) = ahd 2 a b := by
  unfold c2
  rw [thn_lt]
  by_cases h : a.lv = b.lv
  · rw [if_neg (fun h' => h' h), ahd1]
    unfold ahd
    rw [if_neg (fun h : (1 : Int) = 2 ∧ a.lv ≠ b.lv => absurd h.1 (by decide)), if_neg (fun h' : (2 : Int) = 2 ∧ a.lv ≠ b.lv => h'.2 h)]
  · rw [if_pos h]
    unfold ahd
    rw [if_pos ⟨rfl, h⟩]
theorem ahd_anti (p : Int) (a b : Ch) : (ahd p a b && ahd p b a) = false := by
  cases h : ahd p a b with
  | false => rfl
  | true =>
    rw [Bool.true_and]
    cases h2 : ahd p b a with
    | false => rfl
    | true =>
      exfalso
      unfold ahd at h h2
      repeat' split at h
      all_goals repeat' split at h2
      all_goals simp only [decide_eq_true_eq] at h h2
      all_goals omega
theorem ahd_tr (p : Int) (a b c : Ch) (h : ahd p a b = true) (h2 : ahd p b c = true) : ahd p a c = true := by
  unfold ahd at h h2 ⊢
  repeat' split at h
  all_goals repeat' split at h2
  all_goals repeat' split
  all_goals simp only [decide_eq_true_eq] at h h2 ⊢
  all_goals omega
set_option maxRecDepth 100000 in
set_option maxHeartbeats 1000000 in
theorem ahead1 (a b : Ch) (w : World) : Calls Try.prog 20 #[.int .i64 1, chv a, chv b] w fun e w' => e = .returned (.tuple #[.bool (ahd 1 a b), .int .i64 0]) ∧ Fr No w w' := by
  obtain ⟨w1, hw1⟩ : ∃ w1, (w.alloc (och a)).alloc (och b) = w1 := ⟨_, rfl⟩
  have HF := hid (show Fr No w w1 by rw [← hw1]; exact (fr1 _ _).alloc _)
  have PA := hid (show BC w1 w.heap.size a by rw [← hw1]; exact Blk.alloc (BC.new w a) _)
  have PB := hid (show BC w1 (w.heap.size + 1) b by
    rw [← hw1]
    have := BC.new (w.alloc (och a)) b
    rwa [World.size_alloc] at this)
  have HW1 := hid hw1
  obtain ⟨R, hR⟩ : ∃ R, c1 a b = R := ⟨_, rfl⟩
  have HV := hid (show decide (R < 0) = ahd 1 a b by rw [← hR]; exact ahd1 a b)
  have HC := hid (fun B W h => cmp1 a b B W h)
  rw [hR] at HC
  clear hw1 hR
  go_enter Try.func20, Try.ntmps20
  go_upto_region 1 with fail
  try rw [show (w.alloc (och a)).alloc (och b) = w1 from HW1.out]
  try simp only [World.size_alloc]
  go_upto_region 4 with (go_at_call 41; refine (comparison1 _).mono ?_; rintro e w2 ⟨B, rfl, hk, f⟩; replace HF := hid (HF.out.trans f); have HK := hid hk; replace PA := hid (PA.out.fr f); replace PB := hid (PB.out.fr f); clear f hk)
  obtain ⟨a0, a1, a2, a3⟩ := BC.cells PA.out
  obtain ⟨b0, b1, b2, b3⟩ := BC.cells PB.out
  go_wp2_with (go_at_call 71; refine (HC.out _ _ HK.out).mono ?_; rintro e w3 ⟨rfl, f⟩; replace HF := hid (HF.out.trans f); clear f)
  go_ret2
  exact ⟨congrArg (fun v => Ending.returned (.tuple #[.bool v, .int .i64 0])) HV.out, HF.out⟩
set_option maxRecDepth 100000 in
set_option maxHeartbeats 1000000 in
theorem ahead2 (a b : Ch) (w : World) : Calls Try.prog 20 #[.int .i64 2, chv a, chv b] w fun e w' => e = .returned (.tuple #[.bool (ahd 2 a b), .int .i64 0]) ∧ Fr No w w' := by
  obtain ⟨w1, hw1⟩ : ∃ w1, (w.alloc (och a)).alloc (och b) = w1 := ⟨_, rfl⟩
  have HF := hid (show Fr No w w1 by rw [← hw1]; exact (fr1 _ _).alloc _)
  have PA := hid (show BC w1 w.heap.size a by rw [← hw1]; exact Blk.alloc (BC.new w a) _)
  have PB := hid (show BC w1 (w.heap.size + 1) b by
    rw [← hw1]
    have := BC.new (w.alloc (och a)) b
    rwa [World.size_alloc] at this)
  have HW1 := hid hw1
  obtain ⟨R, hR⟩ : ∃ R, c2 a b = R := ⟨_, rfl⟩
  have HV := hid (show decide (R < 0) = ahd 2 a b by rw [← hR]; exact ahd2 a b)
  have HC := hid (fun B W h => cmp2 a b B W h)
  rw [hR] at HC
  clear hw1 hR
  go_enter Try.func20, Try.ntmps20
  go_upto_region 1 with fail
  try rw [show (w.alloc (och a)).alloc (och b) = w1 from HW1.out]
  try simp only [World.size_alloc]
  go_upto_region 4 with (go_at_call 41; refine (comparison2 _).mono ?_; rintro e w2 ⟨B, rfl, hk, f⟩; replace HF := hid (HF.out.trans f); have HK := hid hk; replace PA := hid (PA.out.fr f); replace PB := hid (PB.out.fr f); clear f hk)
  obtain ⟨a0, a1, a2, a3⟩ := BC.cells PA.out
  obtain ⟨b0, b1, b2, b3⟩ := BC.cells PB.out
  go_wp2_with (go_at_call 71; refine (HC.out _ _ HK.out).mono ?_; rintro e w3 ⟨rfl, f⟩; replace HF := hid (HF.out.trans f); clear f)
  go_ret2
  exact ⟨congrArg (fun v => Ending.returned (.tuple #[.bool v, .int .i64 0])) HV.out, HF.out⟩
set_option maxRecDepth 100000 in
set_option maxHeartbeats 1000000 in
theorem ahead_no (p : Int) (a b : Ch) (w : World) (h1 : p ≠ 1) (h2 : p ≠ 2) : Calls Try.prog 20 #[.int .i64 p, chv a, chv b] w fun e w' => e = .returned (.tuple #[.bool false, .int .i64 1]) ∧ Fr No w w' := by
  have HF := hid ((fr1 w (och a)).alloc (och b))
  go_enter Try.func20, Try.ntmps20
  go_wp2_with (go_at_call 41; refine (comparison_no p _ h1 h2).mono ?_; rintro e w2 ⟨rfl, f⟩; replace HF := hid (HF.out.trans f); clear f)
  go_ret2
  exact ⟨rfl, HF.out⟩
set_option maxRecDepth 100000 in
set_option maxHeartbeats 1000000 in
theorem rahead_ok (p : Int) (a b : Ch) (w : World) : Calls Try.prog 19 #[.int .i64 p, chv a, chv b] w fun e w' => e = .returned (.bool (ahd p a b)) ∧ Fr No w w' := by
  have HF := hid ((fr1 w (och a)).alloc (och b))
  unfold ahd
  by_cases hp : p = 2
  · subst hp
    by_cases h : a.lv = b.lv
    · rw [if_neg (fun h' => h'.2 h)]
      have e1 : (a.lv != b.lv) = false := by simp [h]
      clear h
      by_cases h : a.ag = b.ag
      · rw [if_neg (fun h' => h' h)]
        have e2 : (a.ag != b.ag) = false := by simp [h]
        clear h
        go_enter Try.func19, Try.ntmps19
        go_wp2
        go_ret
        exact ⟨rfl, HF.out⟩
      · rw [if_pos h]
        have e2 : (a.ag != b.ag) = true := by simpa using h
        clear h
        go_enter Try.func19, Try.ntmps19
        go_wp2
        go_ret
        exact ⟨rfl, HF.out⟩
    · rw [if_pos ⟨rfl, h⟩]
      have e1 : (a.lv != b.lv) = true := by simpa using h
      clear h
      go_enter Try.func19, Try.ntmps19
      go_wp2
      go_ret
      exact ⟨rfl, HF.out⟩
  · rw [if_neg (fun h' => hp h'.1)]
    have e0 : (p == 2) = false := by simpa using hp
    clear hp
    by_cases h : a.ag = b.ag
    · rw [if_neg (fun h' => h' h)]
      have e2 : (a.ag != b.ag) = false := by simp [h]
      clear h
      go_enter Try.func19, Try.ntmps19
      go_wp2
      go_ret
      exact ⟨rfl, HF.out⟩
    · rw [if_pos h]
      have e2 : (a.ag != b.ag) = true := by simpa using h
      clear h
      go_enter Try.func19, Try.ntmps19
      go_wp2
      go_ret
      exact ⟨rfl, HF.out⟩
end Go.Proofs.Ytoboialfaifbgaa.ViC
/- The laws VictimAhead, VictimSteps, over what lives answers. Conditions: the geometry's Seq has 64 bits. -/
namespace Go.Proofs.Ytoboialfaifbgaa.ViD
open Go.RowKit MSep MSepC MSpM MGeM GeA GeC GeE PgA PgB ViA ViB ViC
theorem tr3 {X Z W : Bool} (h : X = true → Z = true → W = true) : ((!X || !Z) || W) = true := by cases X <;> cases Z <;> simp_all
set_option maxRecDepth 100000 in
set_option maxHeartbeats 2000000 in
theorem la1 (a b c : Ch) (w : World) (hl : ∀ w, Calls Try.prog 14 #[] w fun e w' => e = .returned (.bool true) ∧ Fr No w w') : Calls Try.prog 5 #[.int .i64 1, chv a, chv b, chv c] w fun e w' => e = .returned (.bool true) ∧ Fr No w w' := by
  have HL := hid hl
  clear hl
  obtain ⟨X, hX⟩ : ∃ X, ahd 1 a b = X := ⟨_, rfl⟩
  obtain ⟨Y, hY⟩ : ∃ Y, ahd 1 b a = Y := ⟨_, rfl⟩
  obtain ⟨Z, hZ⟩ : ∃ Z, ahd 1 b c = Z := ⟨_, rfl⟩
  obtain ⟨V, hV⟩ : ∃ V, ahd 1 a c = V := ⟨_, rfl⟩
  have HXY := hid (show (X && Y) = false by rw [← hX, ← hY]; exact ahd_anti 1 a b)
  have HXZ := hid (show X = true → Z = true → V = true from fun h1 h2 => by rw [← hV]; exact ahd_tr 1 a b c (hX.trans h1) (hZ.trans h2))
  have HC1 := hid (fun W => ahead1 a b W)
  have HC2 := hid (fun W => ahead1 b a W)
  have HC3 := hid (fun W => ahead1 b c W)
  have HC4 := hid (fun W => ahead1 a c W)
  have HC5 := hid (fun W => rahead_ok 1 a b W)
  rw [hX] at HC1 HC5
  rw [hY] at HC2
  rw [hZ] at HC3
  rw [hV] at HC4
  clear hX hY hZ hV
  obtain ⟨G, hG⟩ : ∃ G, w.heap.size = G := ⟨_, rfl⟩
  obtain ⟨w1, hw1⟩ : ∃ w1, ((w.alloc (och a)).alloc (och b)).alloc (och c) = w1 := ⟨_, rfl⟩
  have HF := hid (show Fr No w w1 by rw [← hw1]; exact ((fr1 _ _).alloc _).alloc _)
  have PA := hid (show BC w1 G a by rw [← hw1, ← hG]; exact Blk.alloc (Blk.alloc (BC.new w a) _) _)
  have PB := hid (show BC w1 (G + 1) b by
    rw [← hw1, ← hG]
    have := Blk.alloc (BC.new (w.alloc (och a)) b) (och c)
    rwa [World.size_alloc] at this)
  have PC := hid (show BC w1 (G + 1 + 1) c by
    rw [← hw1, ← hG]
    have := BC.new ((w.alloc (och a)).alloc (och b)) c
    rwa [World.size_alloc, World.size_alloc] at this)
  have HW1 := hid hw1
  clear hw1
  go_enter Try.func5, Try.ntmps5
  go_upto_region 1 with fail
  try rw [show ((w.alloc (och a)).alloc (och b)).alloc (och c) = w1 from HW1.out]
  try simp only [World.size_alloc]
  try rw [hG]
  clear hG
  obtain ⟨a0, a1, a2, a3⟩ := BC.cells PA.out
  obtain ⟨b0, b1, b2, b3⟩ := BC.cells PB.out
  obtain ⟨k0, k1, k2, k3⟩ := BC.cells PC.out
  go_upto_region 2 with ((go_at_call 20; refine (HC1.out _).mono ?_; rintro e wn ⟨rfl, f⟩; replace HF := hid (HF.out.trans f); replace PA := hid (PA.out.fr f); replace PB := hid (PB.out.fr f); replace PC := hid (PC.out.fr f); clear f; clear a0 a1 a2 a3 b0 b1 b2 b3 k0 k1 k2 k3; obtain ⟨a0, a1, a2, a3⟩ := BC.cells PA.out; obtain ⟨b0, b1, b2, b3⟩ := BC.cells PB.out; obtain ⟨k0, k1, k2, k3⟩ := BC.cells PC.out))
  go_upto_region 3 with ((go_at_call 20; refine (HC2.out _).mono ?_; rintro e wn ⟨rfl, f⟩; replace HF := hid (HF.out.trans f); replace PA := hid (PA.out.fr f); replace PB := hid (PB.out.fr f); replace PC := hid (PC.out.fr f); clear f; clear a0 a1 a2 a3 b0 b1 b2 b3 k0 k1 k2 k3; obtain ⟨a0, a1, a2, a3⟩ := BC.cells PA.out; obtain ⟨b0, b1, b2, b3⟩ := BC.cells PB.out; obtain ⟨k0, k1, k2, k3⟩ := BC.cells PC.out))
  go_upto_region 4 with ((go_at_call 20; refine (HC3.out _).mono ?_; rintro e wn ⟨rfl, f⟩; replace HF := hid (HF.out.trans f); replace PA := hid (PA.out.fr f); replace PB := hid (PB.out.fr f); replace PC := hid (PC.out.fr f); clear f; clear a0 a1 a2 a3 b0 b1 b2 b3 k0 k1 k2 k3; obtain ⟨a0, a1, a2, a3⟩ := BC.cells PA.out; obtain ⟨b0, b1, b2, b3⟩ := BC.cells PB.out; obtain ⟨k0, k1, k2, k3⟩ := BC.cells PC.out))
  go_upto_region 5 with ((go_at_call 20; refine (HC4.out _).mono ?_; rintro e wn ⟨rfl, f⟩; replace HF := hid (HF.out.trans f); replace PA := hid (PA.out.fr f); replace PB := hid (PB.out.fr f); replace PC := hid (PC.out.fr f); clear f; clear a0 a1 a2 a3 b0 b1 b2 b3 k0 k1 k2 k3; obtain ⟨a0, a1, a2, a3⟩ := BC.cells PA.out; obtain ⟨b0, b1, b2, b3⟩ := BC.cells PB.out; obtain ⟨k0, k1, k2, k3⟩ := BC.cells PC.out))
  go_upto_region 9 with ((go_at_call 14; refine (HL.out _).mono ?_; rintro e wn ⟨rfl, f⟩; replace HF := hid (HF.out.trans f); replace PA := hid (PA.out.fr f); replace PB := hid (PB.out.fr f); replace PC := hid (PC.out.fr f); clear f; clear a0 a1 a2 a3 b0 b1 b2 b3 k0 k1 k2 k3; obtain ⟨a0, a1, a2, a3⟩ := BC.cells PA.out; obtain ⟨b0, b1, b2, b3⟩ := BC.cells PB.out; obtain ⟨k0, k1, k2, k3⟩ := BC.cells PC.out))
  cases X with
  | false =>
    go_wp2_with ((go_at_call 19; refine (HC5.out _).mono ?_; rintro e wn ⟨rfl, f⟩; replace HF := hid (HF.out.trans f); replace PA := hid (PA.out.fr f); replace PB := hid (PB.out.fr f); replace PC := hid (PC.out.fr f); clear f; clear a0 a1 a2 a3 b0 b1 b2 b3 k0 k1 k2 k3; obtain ⟨a0, a1, a2, a3⟩ := BC.cells PA.out; obtain ⟨b0, b1, b2, b3⟩ := BC.cells PB.out; obtain ⟨k0, k1, k2, k3⟩ := BC.cells PC.out))
    go_ret
    exact ⟨by simp, HF.out⟩
  | true =>
    have hy : Y = false := by have := HXY.out; simpa using this
    subst hy
    cases Z with
    | false =>
      go_wp2_with ((go_at_call 19; refine (HC5.out _).mono ?_; rintro e wn ⟨rfl, f⟩; replace HF := hid (HF.out.trans f); replace PA := hid (PA.out.fr f); replace PB := hid (PB.out.fr f); replace PC := hid (PC.out.fr f); clear f; clear a0 a1 a2 a3 b0 b1 b2 b3 k0 k1 k2 k3; obtain ⟨a0, a1, a2, a3⟩ := BC.cells PA.out; obtain ⟨b0, b1, b2, b3⟩ := BC.cells PB.out; obtain ⟨k0, k1, k2, k3⟩ := BC.cells PC.out))
      go_ret
      exact ⟨by simp, HF.out⟩
    | true =>
      have hv := HXZ.out rfl rfl
      subst hv
      go_wp2_with ((go_at_call 19; refine (HC5.out _).mono ?_; rintro e wn ⟨rfl, f⟩; replace HF := hid (HF.out.trans f); replace PA := hid (PA.out.fr f); replace PB := hid (PB.out.fr f); replace PC := hid (PC.out.fr f); clear f; clear a0 a1 a2 a3 b0 b1 b2 b3 k0 k1 k2 k3; obtain ⟨a0, a1, a2, a3⟩ := BC.cells PA.out; obtain ⟨b0, b1, b2, b3⟩ := BC.cells PB.out; obtain ⟨k0, k1, k2, k3⟩ := BC.cells PC.out))
      go_ret
      exact ⟨by simp, HF.out⟩
set_option maxRecDepth 100000 in
set_option maxHeartbeats 2000000 in
theorem la2 (a b c : Ch) (w : World) (hl : ∀ w, Calls Try.prog 14 #[] w fun e w' => e = .returned (.bool true) ∧ Fr No w w') : Calls Try.prog 5 #[.int .i64 2, chv a, chv b, chv c] w fun e w' => e = .returned (.bool true) ∧ Fr No w w' := by
  have HL := hid hl
  clear hl
  obtain ⟨X, hX⟩ : ∃ X, ahd 2 a b = X := ⟨_, rfl⟩
  obtain ⟨Y, hY⟩ : ∃ Y, ahd 2 b a = Y := ⟨_, rfl⟩
  obtain ⟨Z, hZ⟩ : ∃ Z, ahd 2 b c = Z := ⟨_, rfl⟩
  obtain ⟨V, hV⟩ : ∃ V, ahd 2 a c = V := ⟨_, rfl⟩
  have HXY := hid (show (X && Y) = false by rw [← hX, ← hY]; exact ahd_anti 2 a b)
  have HXZ := hid (show X = true → Z = true → V = true from fun h1 h2 => by rw [← hV]; exact ahd_tr 2 a b c (hX.trans h1) (hZ.trans h2))
  have HC1 := hid (fun W => ahead2 a b W)
  have HC2 := hid (fun W => ahead2 b a W)
  have HC3 := hid (fun W => ahead2 b c W)
  have HC4 := hid (fun W => ahead2 a c W)
  have HC5 := hid (fun W => rahead_ok 2 a b W)
  rw [hX] at HC1 HC5
  rw [hY] at HC2
  rw [hZ] at HC3
  rw [hV] at HC4
  clear hX hY hZ hV
  obtain ⟨G, hG⟩ : ∃ G, w.heap.size = G := ⟨_, rfl⟩
  obtain ⟨w1, hw1⟩ : ∃ w1, ((w.alloc (och a)).alloc (och b)).alloc (och c) = w1 := ⟨_, rfl⟩
  have HF := hid (show Fr No w w1 by rw [← hw1]; exact ((fr1 _ _).alloc _).alloc _)
  have PA := hid (show BC w1 G a by rw [← hw1, ← hG]; exact Blk.alloc (Blk.alloc (BC.new w a) _) _)
  have PB := hid (show BC w1 (G + 1) b by
    rw [← hw1, ← hG]
    have := Blk.alloc (BC.new (w.alloc (och a)) b) (och c)
    rwa [World.size_alloc] at this)
  have PC := hid (show BC w1 (G + 1 + 1) c by
    rw [← hw1, ← hG]
    have := BC.new ((w.alloc (och a)).alloc (och b)) c
    rwa [World.size_alloc, World.size_alloc] at this)
  have HW1 := hid hw1
  clear hw1
  go_enter Try.func5, Try.ntmps5
  go_upto_region 1 with fail
  try rw [show ((w.alloc (och a)).alloc (och b)).alloc (och c) = w1 from HW1.out]
  try simp only [World.size_alloc]
  try rw [hG]
  clear hG
  obtain ⟨a0, a1, a2, a3⟩ := BC.cells PA.out
  obtain ⟨b0, b1, b2, b3⟩ := BC.cells PB.out
  obtain ⟨k0, k1, k2, k3⟩ := BC.cells PC.out
  go_upto_region 2 with ((go_at_call 20; refine (HC1.out _).mono ?_; rintro e wn ⟨rfl, f⟩; replace HF := hid (HF.out.trans f); replace PA := hid (PA.out.fr f); replace PB := hid (PB.out.fr f); replace PC := hid (PC.out.fr f); clear f; clear a0 a1 a2 a3 b0 b1 b2 b3 k0 k1 k2 k3; obtain ⟨a0, a1, a2, a3⟩ := BC.cells PA.out; obtain ⟨b0, b1, b2, b3⟩ := BC.cells PB.out; obtain ⟨k0, k1, k2, k3⟩ := BC.cells PC.out))
  go_upto_region 3 with ((go_at_call 20; refine (HC2.out _).mono ?_; rintro e wn ⟨rfl, f⟩; replace HF := hid (HF.out.trans f); replace PA := hid (PA.out.fr f); replace PB := hid (PB.out.fr f); replace PC := hid (PC.out.fr f); clear f; clear a0 a1 a2 a3 b0 b1 b2 b3 k0 k1 k2 k3; obtain ⟨a0, a1, a2, a3⟩ := BC.cells PA.out; obtain ⟨b0, b1, b2, b3⟩ := BC.cells PB.out; obtain ⟨k0, k1, k2, k3⟩ := BC.cells PC.out))
  go_upto_region 4 with ((go_at_call 20; refine (HC3.out _).mono ?_; rintro e wn ⟨rfl, f⟩; replace HF := hid (HF.out.trans f); replace PA := hid (PA.out.fr f); replace PB := hid (PB.out.fr f); replace PC := hid (PC.out.fr f); clear f; clear a0 a1 a2 a3 b0 b1 b2 b3 k0 k1 k2 k3; obtain ⟨a0, a1, a2, a3⟩ := BC.cells PA.out; obtain ⟨b0, b1, b2, b3⟩ := BC.cells PB.out; obtain ⟨k0, k1, k2, k3⟩ := BC.cells PC.out))
  go_upto_region 5 with ((go_at_call 20; refine (HC4.out _).mono ?_; rintro e wn ⟨rfl, f⟩; replace HF := hid (HF.out.trans f); replace PA := hid (PA.out.fr f); replace PB := hid (PB.out.fr f); replace PC := hid (PC.out.fr f); clear f; clear a0 a1 a2 a3 b0 b1 b2 b3 k0 k1 k2 k3; obtain ⟨a0, a1, a2, a3⟩ := BC.cells PA.out; obtain ⟨b0, b1, b2, b3⟩ := BC.cells PB.out; obtain ⟨k0, k1, k2, k3⟩ := BC.cells PC.out))
  go_upto_region 9 with ((go_at_call 14; refine (HL.out _).mono ?_; rintro e wn ⟨rfl, f⟩; replace HF := hid (HF.out.trans f); replace PA := hid (PA.out.fr f); replace PB := hid (PB.out.fr f); replace PC := hid (PC.out.fr f); clear f; clear a0 a1 a2 a3 b0 b1 b2 b3 k0 k1 k2 k3; obtain ⟨a0, a1, a2, a3⟩ := BC.cells PA.out; obtain ⟨b0, b1, b2, b3⟩ := BC.cells PB.out; obtain ⟨k0, k1, k2, k3⟩ := BC.cells PC.out))
  cases X with
  | false =>
    go_wp2_with ((go_at_call 19; refine (HC5.out _).mono ?_; rintro e wn ⟨rfl, f⟩; replace HF := hid (HF.out.trans f); replace PA := hid (PA.out.fr f); replace PB := hid (PB.out.fr f); replace PC := hid (PC.out.fr f); clear f; clear a0 a1 a2 a3 b0 b1 b2 b3 k0 k1 k2 k3; obtain ⟨a0, a1, a2, a3⟩ := BC.cells PA.out; obtain ⟨b0, b1, b2, b3⟩ := BC.cells PB.out; obtain ⟨k0, k1, k2, k3⟩ := BC.cells PC.out))
    go_ret
    exact ⟨by simp, HF.out⟩
  | true =>
    have hy : Y = false := by have := HXY.out; simpa using this
    subst hy
    cases Z with
    | false =>
      go_wp2_with ((go_at_call 19; refine (HC5.out _).mono ?_; rintro e wn ⟨rfl, f⟩; replace HF := hid (HF.out.trans f); replace PA := hid (PA.out.fr f); replace PB := hid (PB.out.fr f); replace PC := hid (PC.out.fr f); clear f; clear a0 a1 a2 a3 b0 b1 b2 b3 k0 k1 k2 k3; obtain ⟨a0, a1, a2, a3⟩ := BC.cells PA.out; obtain ⟨b0, b1, b2, b3⟩ := BC.cells PB.out; obtain ⟨k0, k1, k2, k3⟩ := BC.cells PC.out))
      go_ret
      exact ⟨by simp, HF.out⟩
    | true =>
      have hv := HXZ.out rfl rfl
      subst hv
      go_wp2_with ((go_at_call 19; refine (HC5.out _).mono ?_; rintro e wn ⟨rfl, f⟩; replace HF := hid (HF.out.trans f); replace PA := hid (PA.out.fr f); replace PB := hid (PB.out.fr f); replace PC := hid (PC.out.fr f); clear f; clear a0 a1 a2 a3 b0 b1 b2 b3 k0 k1 k2 k3; obtain ⟨a0, a1, a2, a3⟩ := BC.cells PA.out; obtain ⟨b0, b1, b2, b3⟩ := BC.cells PB.out; obtain ⟨k0, k1, k2, k3⟩ := BC.cells PC.out))
      go_ret
      exact ⟨by simp, HF.out⟩
set_option maxRecDepth 100000 in
set_option maxHeartbeats 2000000 in
theorem la_no (p : Int) (a b c : Ch) (w : World) (hl : ∀ w, Calls Try.prog 14 #[] w fun e w' => e = .returned (.bool true) ∧ Fr No w w') (h1 : p ≠ 1) (h2 : p ≠ 2) : Calls Try.prog 5 #[.int .i64 p, chv a, chv b, chv c] w fun e w' => e = .returned (.bool true) ∧ Fr No w w' := by
  have HL := hid hl
  have HC := hid (fun x y W => ahead_no p x y W h1 h2)
  have e1 : (p == 1) = false := by simpa using h1
  have e2 : (p == 2) = false := by simpa using h2
  have e3 : (p != 1) = true := by simpa using h1
  have e4 : (p != 2) = true := by simpa using h2
  clear hl h1 h2
  obtain ⟨G, hG⟩ : ∃ G, w.heap.size = G := ⟨_, rfl⟩
  obtain ⟨w1, hw1⟩ : ∃ w1, ((w.alloc (och a)).alloc (och b)).alloc (och c) = w1 := ⟨_, rfl⟩
  have HF := hid (show Fr No w w1 by rw [← hw1]; exact ((fr1 _ _).alloc _).alloc _)
  have PA := hid (show BC w1 G a by rw [← hw1, ← hG]; exact Blk.alloc (Blk.alloc (BC.new w a) _) _)
  have PB := hid (show BC w1 (G + 1) b by
    rw [← hw1, ← hG]
    have := Blk.alloc (BC.new (w.alloc (och a)) b) (och c)
    rwa [World.size_alloc] at this)
  have PC := hid (show BC w1 (G + 1 + 1) c by
    rw [← hw1, ← hG]
    have := BC.new ((w.alloc (och a)).alloc (och b)) c
    rwa [World.size_alloc, World.size_alloc] at this)
  have HW1 := hid hw1
  clear hw1
  go_enter Try.func5, Try.ntmps5
  go_upto_region 1 with fail
  try rw [show ((w.alloc (och a)).alloc (och b)).alloc (och c) = w1 from HW1.out]
  try simp only [World.size_alloc]
  try rw [hG]
  clear hG
  obtain ⟨a0, a1, a2, a3⟩ := BC.cells PA.out
  obtain ⟨b0, b1, b2, b3⟩ := BC.cells PB.out
  obtain ⟨k0, k1, k2, k3⟩ := BC.cells PC.out
  go_upto_region 2 with ((go_at_call 20; refine (HC.out _ _ _).mono ?_; rintro e wn ⟨rfl, f⟩; replace HF := hid (HF.out.trans f); replace PA := hid (PA.out.fr f); replace PB := hid (PB.out.fr f); replace PC := hid (PC.out.fr f); clear f; clear a0 a1 a2 a3 b0 b1 b2 b3 k0 k1 k2 k3; obtain ⟨a0, a1, a2, a3⟩ := BC.cells PA.out; obtain ⟨b0, b1, b2, b3⟩ := BC.cells PB.out; obtain ⟨k0, k1, k2, k3⟩ := BC.cells PC.out))
  go_upto_region 3 with ((go_at_call 20; refine (HC.out _ _ _).mono ?_; rintro e wn ⟨rfl, f⟩; replace HF := hid (HF.out.trans f); replace PA := hid (PA.out.fr f); replace PB := hid (PB.out.fr f); replace PC := hid (PC.out.fr f); clear f; clear a0 a1 a2 a3 b0 b1 b2 b3 k0 k1 k2 k3; obtain ⟨a0, a1, a2, a3⟩ := BC.cells PA.out; obtain ⟨b0, b1, b2, b3⟩ := BC.cells PB.out; obtain ⟨k0, k1, k2, k3⟩ := BC.cells PC.out))
  go_upto_region 4 with ((go_at_call 20; refine (HC.out _ _ _).mono ?_; rintro e wn ⟨rfl, f⟩; replace HF := hid (HF.out.trans f); replace PA := hid (PA.out.fr f); replace PB := hid (PB.out.fr f); replace PC := hid (PC.out.fr f); clear f; clear a0 a1 a2 a3 b0 b1 b2 b3 k0 k1 k2 k3; obtain ⟨a0, a1, a2, a3⟩ := BC.cells PA.out; obtain ⟨b0, b1, b2, b3⟩ := BC.cells PB.out; obtain ⟨k0, k1, k2, k3⟩ := BC.cells PC.out))
  go_upto_region 5 with ((go_at_call 20; refine (HC.out _ _ _).mono ?_; rintro e wn ⟨rfl, f⟩; replace HF := hid (HF.out.trans f); replace PA := hid (PA.out.fr f); replace PB := hid (PB.out.fr f); replace PC := hid (PC.out.fr f); clear f; clear a0 a1 a2 a3 b0 b1 b2 b3 k0 k1 k2 k3; obtain ⟨a0, a1, a2, a3⟩ := BC.cells PA.out; obtain ⟨b0, b1, b2, b3⟩ := BC.cells PB.out; obtain ⟨k0, k1, k2, k3⟩ := BC.cells PC.out))
  go_wp2_with ((go_at_call 14; refine (HL.out _).mono ?_; rintro e wn ⟨rfl, f⟩; replace HF := hid (HF.out.trans f); replace PA := hid (PA.out.fr f); replace PB := hid (PB.out.fr f); replace PC := hid (PC.out.fr f); clear f; clear a0 a1 a2 a3 b0 b1 b2 b3 k0 k1 k2 k3; obtain ⟨a0, a1, a2, a3⟩ := BC.cells PA.out; obtain ⟨b0, b1, b2, b3⟩ := BC.cells PB.out; obtain ⟨k0, k1, k2, k3⟩ := BC.cells PC.out))
  go_ret
  exact ⟨by simp, HF.out⟩
theorem ahead_w (p : Int) (a b c : Ch) (w : World) (hl : ∀ w, Calls Try.prog 14 #[] w fun e w' => e = .returned (.bool true) ∧ Fr No w w') : Calls Try.prog 5 #[.int .i64 p, chv a, chv b, chv c] w fun e w' => e = .returned (.bool true) ∧ Fr No w w' := by
  by_cases h1 : p = 1
  · subst h1
    exact la1 a b c w hl
  · by_cases h2 : p = 2
    · subst h2
      exact la2 a b c w hl
    · exact la_no p a b c w hl h1 h2
set_option maxRecDepth 100000 in
set_option maxHeartbeats 4000000 in
theorem steps_w (gc gs gn gl gk b ch : Int) (w : World) (hs : PgB.r64 gs) (hl : ∀ w, Calls Try.prog 14 #[] w fun e w' => e = .returned (.bool true) ∧ Fr No w w') : Calls Try.prog 8 #[gv gc gs gn gl gk, .int .i64 b, .int .i64 ch] w fun e w' => e = .returned (.bool true) ∧ Fr No w w' := by
  have HL := hid hl
  have HC1 := hid (fun W => steps_ok gc gs gn gl gk b ch W hs)
  have HC2 := hid (fun W => bound_ok gc gs gn gl gk ch W hs)
  have HR1 := hid (fun W => rsteps_ok gc gs gn gl gk b ch W hs)
  have HR2 := hid (fun W => rbound_ok gc gs gn gl gk ch W hs)
  have hgt := bnd_gt ⟨gc, gs, gn, gl, gk⟩ b ch
  obtain ⟨hi1, hi2⟩ := stp_in ⟨gc, gs, gn, gl, gk⟩ b ch
  obtain ⟨V, hV⟩ : ∃ V, stp ⟨gc, gs, gn, gl, gk⟩ b ch = V := ⟨_, rfl⟩
  obtain ⟨U, hU⟩ : ∃ U, bnd ⟨gc, gs, gn, gl, gk⟩ ch = U := ⟨_, rfl⟩
  rw [hV] at HC1 HR1 hgt hi1 hi2
  rw [hU] at HC2 HR2 hgt
  have HGT := hid hgt
  have m1 : wrap64 (2 * V) = 2 * V := SpA.w64 _ (by omega)
  have m2 : wrap64 (2 * V - 1) = 2 * V - 1 := SpA.w64 _ (by omega)
  have e1 : decide (0 ≤ V) = true := decide_eq_true hi1
  obtain ⟨G, hG⟩ : ∃ G, w.heap.size = G := ⟨_, rfl⟩
  obtain ⟨w1, hw1⟩ : ∃ w1, w.alloc (bg gc gs gn gl gk) = w1 := ⟨_, rfl⟩
  have HF := hid (show Fr No w w1 by rw [← hw1]; exact fr1 _ _)
  have P0 := hid (show BG w1 G gc gs gn gl gk by rw [← hw1, ← hG]; exact BG.new w gc gs gn gl gk)
  have HW1 := hid hw1
  clear hs hl hV hU hgt hi2 hw1
  go_enter Try.func8, Try.ntmps8
  go_upto_region 1 with fail
  try rw [show w.alloc (Obj.cells #[.int .i64 gc, .int .i64 gs, .int .i64 gn, .int .i64 gl, .int .i64 gk] 23) = w1 from HW1.out]
  try rw [hG]
  clear hG
  obtain ⟨p0, p1, p2, p3, p4⟩ := BG.cells P0.out
  have FW := hid (Fr.refl No w1)
  have FW := kd FW
  refine wp_region_noPanic ?_
  refine wp_region_held_drew (S := (fun W' => W'.cell? ⟨G, 0, none⟩ = some (.int .i64 gc) ∧ W'.cell? ⟨G, 1, none⟩ = some (.int .i64 gs) ∧ W'.cell? ⟨G, 2, none⟩ = some (.int .i64 gn) ∧ W'.cell? ⟨G, 3, none⟩ = some (.int .i64 gl) ∧ W'.cell? ⟨G, 4, none⟩ = some (.int .i64 gk) ∧ Hid (Fr No w1 W'))) (by kernel_rfl) ?_ (fun hHeld => ?_)
  · (try dsimp only); (first | (go_split_ands; exact ⟨kc f (by assumption), kc f (by assumption), kc f (by assumption), kc f (by assumption), kc f (by assumption), by assumption⟩) | (go_split_ands; exact ⟨(by assumption), (by assumption), (by assumption), (by assumption), (by assumption), by assumption⟩) | (go_split_ands; exact ⟨kc (fr1 _ _) (by assumption), kc (fr1 _ _) (by assumption), kc (fr1 _ _) (by assumption), kc (fr1 _ _) (by assumption), kc (fr1 _ _) (by assumption), kfa (by assumption)⟩) | (go_split_ands; exact ⟨kc (fr1d _ _) (by assumption), kc (fr1d _ _) (by assumption), kc (fr1d _ _) (by assumption), kc (fr1d _ _) (by assumption), kc (fr1d _ _) (by assumption), kfae (by assumption)⟩))
  refine wpAnyH_take (i := 0) (v := ?v1) rfl (by kernel_rfl) (by kernel_rfl) (by kernel_rfl) (fun _ _ _ h => h) (Or.inl ⟨by kernel_rfl, ?y1⟩) (by assumption) ?_
  case y1 => (intro w hSw; (try dsimp only at hSw); go_simp; all_goals with_reducible rfl)
  try simp only [Act.put, List.getElem_toArray, List.getElem_cons_zero, List.setIfInBounds_toArray, List.set_cons_zero, List.set_cons_succ]
  refine wpAnyH_take (i := 1) (v := ?v2) rfl (by kernel_rfl) (by kernel_rfl) (by kernel_rfl) (fun _ _ _ h => h) (Or.inl ⟨by kernel_rfl, ?y2⟩) (by assumption) ?_
  case y2 => (intro w hSw; (try dsimp only at hSw); go_simp; all_goals with_reducible rfl)
  try simp only [Act.put, List.getElem_toArray, List.getElem_cons_succ, List.getElem_cons_zero, List.setIfInBounds_toArray, List.set_cons_zero, List.set_cons_succ]
  refine wpAnyH_take (i := 2) (v := ?v3) rfl (by kernel_rfl) (by kernel_rfl) (by kernel_rfl) (fun _ _ _ h => h) (Or.inl ⟨by kernel_rfl, ?y3⟩) (by assumption) ?_
  case y3 => (intro w hSw; (try dsimp only at hSw); go_simp; all_goals with_reducible rfl)
  try simp only [Act.put, List.getElem_toArray, List.getElem_cons_succ, List.getElem_cons_zero, List.setIfInBounds_toArray, List.set_cons_zero, List.set_cons_succ]
  refine wpAnyH_take (i := 4) (v := ?v4) rfl (by kernel_rfl) (by kernel_rfl) (by kernel_rfl) (fun _ _ _ h => h) (Or.inl ⟨by kernel_rfl, ?y4⟩) (by assumption) ?_
  case y4 => (intro w hSw; (try dsimp only at hSw); go_simp; all_goals with_reducible rfl)
  try simp only [Act.put, List.getElem_toArray, List.getElem_cons_succ, List.getElem_cons_zero, List.setIfInBounds_toArray, List.set_cons_zero, List.set_cons_succ]
  refine wpAnyH_take (i := 5) (v := ?v5) rfl (by kernel_rfl) (by kernel_rfl) (by kernel_rfl) (fun _ _ _ h => h) (Or.inl ⟨by kernel_rfl, ?y5⟩) (by assumption) ?_
  case y5 => (intro w hSw; (try dsimp only at hSw); go_simp; all_goals with_reducible rfl)
  try simp only [Act.put, List.getElem_toArray, List.getElem_cons_succ, List.getElem_cons_zero, List.setIfInBounds_toArray, List.set_cons_zero, List.set_cons_succ]
  refine wpAnyH_ready (rs := [3]) (by kernel_rfl) (by simp) (AllReadyH.cons rfl (fun K hK => ?_) AllReadyH.nil)
  go_simp
  go_at_call 26
  refine (HC1.out _).mono ?_
  rintro e W1 ⟨rfl, f⟩
  have FW := kf f hHeld.2.2.2.2.2
  dsimp only
  refine hK.out _ _ ?_ (fun hHeld => ?_)
  · (try dsimp only); (first | (go_split_ands; exact ⟨kc f (by assumption), kc f (by assumption), kc f (by assumption), kc f (by assumption), kc f (by assumption), by assumption⟩) | (go_split_ands; exact ⟨(by assumption), (by assumption), (by assumption), (by assumption), (by assumption), by assumption⟩) | (go_split_ands; exact ⟨kc (fr1 _ _) (by assumption), kc (fr1 _ _) (by assumption), kc (fr1 _ _) (by assumption), kc (fr1 _ _) (by assumption), kc (fr1 _ _) (by assumption), kfa (by assumption)⟩) | (go_split_ands; exact ⟨kc (fr1d _ _) (by assumption), kc (fr1d _ _) (by assumption), kc (fr1d _ _) (by assumption), kc (fr1d _ _) (by assumption), kc (fr1d _ _) (by assumption), kfae (by assumption)⟩))
  clear hK K
  try simp only [Act.put, List.getElem_toArray, List.getElem_cons_succ, List.getElem_cons_zero, List.setIfInBounds_toArray, List.set_cons_zero, List.set_cons_succ]
  refine wpAnyH_ready (rs := [6]) (by kernel_rfl) (by simp) (AllReadyH.cons rfl (fun K hK => ?_) AllReadyH.nil)
  go_simp
  go_at_call 27
  refine (HC2.out _).mono ?_
  rintro e W1 ⟨rfl, f⟩
  have FW := kf f hHeld.2.2.2.2.2
  dsimp only
  refine hK.out _ _ ?_ (fun hHeld => ?_)
  · (try dsimp only); (first | (go_split_ands; exact ⟨kc f (by assumption), kc f (by assumption), kc f (by assumption), kc f (by assumption), kc f (by assumption), by assumption⟩) | (go_split_ands; exact ⟨(by assumption), (by assumption), (by assumption), (by assumption), (by assumption), by assumption⟩) | (go_split_ands; exact ⟨kc (fr1 _ _) (by assumption), kc (fr1 _ _) (by assumption), kc (fr1 _ _) (by assumption), kc (fr1 _ _) (by assumption), kc (fr1 _ _) (by assumption), kfa (by assumption)⟩) | (go_split_ands; exact ⟨kc (fr1d _ _) (by assumption), kc (fr1d _ _) (by assumption), kc (fr1d _ _) (by assumption), kc (fr1d _ _) (by assumption), kc (fr1d _ _) (by assumption), kfae (by assumption)⟩))
  clear hK K
  try simp only [Act.put, List.getElem_toArray, List.getElem_cons_succ, List.getElem_cons_zero, List.setIfInBounds_toArray, List.set_cons_zero, List.set_cons_succ]
  refine wpAnyH_take (i := 7) (v := ?v6) rfl (by kernel_rfl) (by kernel_rfl) (by kernel_rfl) (fun _ _ _ h => h) (Or.inl ⟨by kernel_rfl, ?y6⟩) (by assumption) ?_
  case y6 => (intro w hSw; (try dsimp only at hSw); go_simp; all_goals with_reducible rfl)
  try simp only [Act.put, List.getElem_toArray, List.getElem_cons_succ, List.getElem_cons_zero, List.setIfInBounds_toArray, List.set_cons_zero, List.set_cons_succ]
  refine wpAnyH_take (i := 8) (v := ?v7) rfl (by kernel_rfl) (by kernel_rfl) (by kernel_rfl) (fun _ _ _ h => h) (Or.inl ⟨by kernel_rfl, ?y7⟩) (by assumption) ?_
  case y7 => (intro w hSw; (try dsimp only at hSw); go_simp; all_goals with_reducible rfl)
  try simp only [Act.put, List.getElem_toArray, List.getElem_cons_succ, List.getElem_cons_zero, List.setIfInBounds_toArray, List.set_cons_zero, List.set_cons_succ]
  refine wpAnyH_done (by kernel_rfl) ?_ _
  refine NoPanic.normal ?_
  have f := (hHeld.2.2.2.2.2).out
  clear hHeld FW
  replace HF := hid (HF.out.trans f); replace P0 := hid (BG.fr P0.out f); clear f; clear p0 p1 p2 p3 p4; obtain ⟨p0, p1, p2, p3, p4⟩ := BG.cells P0.out
  by_cases h0 : V = 0
  · subst h0
    go_wp2_with (first | (go_at_call 14; refine (HL.out _).mono ?_; rintro e wn ⟨rfl, f⟩; replace HF := hid (HF.out.trans f); replace P0 := hid (BG.fr P0.out f); clear f; clear p0 p1 p2 p3 p4; obtain ⟨p0, p1, p2, p3, p4⟩ := BG.cells P0.out) | (go_at_call 28; refine (HR1.out _).mono ?_; rintro e wn ⟨rfl, f⟩; replace HF := hid (HF.out.trans f); replace P0 := hid (BG.fr P0.out f); clear f; clear p0 p1 p2 p3 p4; obtain ⟨p0, p1, p2, p3, p4⟩ := BG.cells P0.out) | (go_at_call 29; refine (HR2.out _).mono ?_; rintro e wn ⟨rfl, f⟩; replace HF := hid (HF.out.trans f); replace P0 := hid (BG.fr P0.out f); clear f; clear p0 p1 p2 p3 p4; obtain ⟨p0, p1, p2, p3, p4⟩ := BG.cells P0.out))
    go_ret
    exact ⟨rfl, HF.out⟩
  · have e0 : (V == 0) = false := by simpa using h0
    have e2 := HGT.out.resolve_left h0
    clear h0
    go_wp2_with (first | (go_at_call 14; refine (HL.out _).mono ?_; rintro e wn ⟨rfl, f⟩; replace HF := hid (HF.out.trans f); replace P0 := hid (BG.fr P0.out f); clear f; clear p0 p1 p2 p3 p4; obtain ⟨p0, p1, p2, p3, p4⟩ := BG.cells P0.out) | (go_at_call 28; refine (HR1.out _).mono ?_; rintro e wn ⟨rfl, f⟩; replace HF := hid (HF.out.trans f); replace P0 := hid (BG.fr P0.out f); clear f; clear p0 p1 p2 p3 p4; obtain ⟨p0, p1, p2, p3, p4⟩ := BG.cells P0.out) | (go_at_call 29; refine (HR2.out _).mono ?_; rintro e wn ⟨rfl, f⟩; replace HF := hid (HF.out.trans f); replace P0 := hid (BG.fr P0.out f); clear f; clear p0 p1 p2 p3 p4; obtain ⟨p0, p1, p2, p3, p4⟩ := BG.cells P0.out))
    go_ret
    exact ⟨by simp, HF.out⟩
end Go.Proofs.Ytoboialfaifbgaa.ViD
