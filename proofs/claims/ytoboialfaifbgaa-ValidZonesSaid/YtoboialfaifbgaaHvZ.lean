import Derived.Test.YtoboialfaifbgaaHvC
import Derived.Shelf.SlIterI.Nil
import Derived.Shelf.SortM.Plain
import Derived.Shelf.SortM.SortNone
import Derived.Ground.GgzProg
import Derived.Ground.SlgmProg
import Derived.Test.YtoboialfaifbgaaVaD
import Derived.Test.YtoboialfaifbgaaVaB
import Derived.Test.YtoboialfaifbgaaHvA
import Derived.Test.YtoboialfaifbgaaHvB
import Derived.Sort.CutIn
import Derived.Test.YtoboialfaifbgaaPgB
import Derived.Test.YtoboialfaifbgaaFrameB
import Derived.Test.YtoboialfaifbgaaHvP
import Derived.Test.YtoboialfaifbgaaGeRow
/- Contracts: the iterator over zones in which something lies, made; what must come of every program. Conditions: the extents read as a list of at most 1000 structs of whole numbers of 64 bits; the geometry's Seq has 64 bits. -/
namespace Go.Proofs.Ytoboialfaifbgaa.VaU
open Go.RowKit MSep MSepC MSpM MGeM GeA GeC PgA PgB RgF PlM PlA VaA VaC VaD VaE VaF VaH VaM VaN VaQ VaT VaS SpO

/-- The box in which the iterator over zones finds its map: nil where the extents may not be. -/
def ZBox (w : World) (B : Nat) (v : Bool) (xs : List Ex) : Prop := if v = true then ∃ b n, Blk w B 69 #[.map (some b)] ∧ MapZ w b n (xs.filter put) ∧ n ≤ 1000 else Blk w B 69 #[.map none]
set_option maxRecDepth 100000 in
theorem zones_ok (gc gs gn gl gk : Int) (A : Option Addr) (l c : Nat) (xs : List Ex) (w : World) (hs : r64 gs) (hl : l ≤ 1000) (hx : RdX w A l xs) (hw : ∀ x ∈ xs, exW x) :
    Calls Try.prog 11 #[gv gc gs gn gl gk, .slice A l c] w fun e w' => ∃ B, e = .returned (.func (.func 37) #[] #[.pointer (some ⟨B, 0, none⟩)]) ∧ ZBox w' B (vM ⟨gc, gs, gn, gl, gk⟩ xs) xs ∧ Fr No w w' := by
  have HF := hid ((fr1 w (bg gc gs gn gl gk)).alloc (.cells #[.map none] 69))
  have P0 := hid (show BG ((w.alloc (bg gc gs gn gl gk)).alloc (.cells #[.map none] 69)) w.heap.size gc gs gn gl gk from (BG.new w gc gs gn gl gk : Blk _ _ _ _).alloc _)
  have Q0 := hid (show Blk ((w.alloc (bg gc gs gn gl gk)).alloc (.cells #[.map none] 69)) (w.heap.size + 1) 69 #[.map none] by
    have := Blk.new (w.alloc (bg gc gs gn gl gk)) 69 #[.map none]
    rwa [World.size_alloc] at this)
  have HV := hid (fun W (h : RdX W A l xs) => vmay_ok gc gs gn gl gk A l c xs W hs (by unfold maxLen; omega) h hw)
  have HX := hid hx
  cases hv : vM ⟨gc, gs, gn, gl, gk⟩ xs
  · rw [hv] at HV
    clear hx hl hw hs hv
    go_enter Try.func11, Try.ntmps11
    go_wp2_with (first | ((with_reducible refine ld_geom rfl (.tmp 2) rfl w.heap.size ?_ P0.out ?_); · rfl) | (go_at_call 35; refine (HV.out _ (PgB.RdX.fr HX.out HF.out)).mono ?_; rintro e w2 ⟨rfl, f⟩; replace HF := hid (HF.out.trans f); replace Q0 := hid (Q0.out.fr f (fun h => h)); clear f))
    go_ret
    exact ⟨_, rfl, by unfold ZBox; rw [if_neg (by decide)]; exact Q0.out, HF.out⟩
  rw [hv] at HV
  have hmm : mayG ⟨gc, gs, gn, gl, gk⟩ ∧ mayL ⟨gc, gs, gn, gl, gk⟩ 0 xs = true := by
    unfold vM at hv
    rw [Bool.and_eq_true, decide_eq_true_eq] at hv
    exact hv
  have hok := mayL_all hmm.2
  have HLY := hid (fun W (h : RdX W A l xs) => lying_ok A l c xs W h hl hw (fun x hx => (okX_in (hok x hx)).1))
  clear hx hl hw hs hv hmm hok
  go_enter Try.func11, Try.ntmps11
  go_wp2_with (first | ((with_reducible refine ld_geom rfl (.tmp 2) rfl w.heap.size ?_ P0.out ?_); · rfl) | (go_at_call 35; refine (HV.out _ (PgB.RdX.fr HX.out HF.out)).mono ?_; rintro e w2 ⟨rfl, f⟩; replace HF := hid (HF.out.trans f); replace Q0 := hid (Q0.out.fr f (fun h => h)); clear f) | (go_at_call 36; refine (HLY.out _ (PgB.RdX.fr HX.out HF.out)).mono ?_; rintro e w3 ⟨b, n, rfl, hm, hb, hn, f⟩; have HSZ := hid (show w.heap.size + 1 < b by have := Q0.out.lt; omega); replace HF := hid (HF.out.trans f); replace Q0 := hid (Q0.out.fr f (fun h => h)); have HM := hid hm; have HN := hid hn; have y1 := Q0.out.frozen 0; have u1 := PlC.blk0 Q0.out; clear f hm hb hn))
  go_ret
  have f5 : Fr (fun q => q = w.heap.size + 1) w3 (w3.setCell ⟨w.heap.size + 1, 0, none⟩ (.map (some b))) := Fr.set1 w3 (w.heap.size + 1) 0 _
  have q5 := Q0.out.set_ 0 (.map (some b))
  exact ⟨_, rfl, by unfold ZBox; rw [if_pos rfl]; exact ⟨b, n, by simpa using q5, HM.out.kept f5 (by have := HSZ.out; omega), HN.out⟩, HF.out.step f5 (fun i hi e => by omega)⟩
def g0 : Ge := ⟨2, 6, 16, 3, 2⟩
def x0 : List Ex := [⟨0, 5, 3, 2⟩, ⟨20, 1, 255, 0⟩]
theorem may0 : mayG g0 := by decide
theorem mayL0 : mayL g0 0 x0 = true := by decide
theorem ckE_0 : ckE g0 x0 = 0 := by unfold ckE; rw [if_pos may0, if_pos mayL0]
theorem ckZ_0 : ckZ g0 x0 3 = 0 := by unfold ckZ; rw [if_pos ckE_0]; decide
theorem row0 : rowC x0 2 6 6 = [0, 5, 0, 0, 0, 0] := by decide
theorem pl0 : pl (x0.filter (inZ 3)) = [(2, 5)] := by decide
theorem bds0 : bds 15 3 x0 3 = [0] := by decide
theorem bds1 : bds 15 (-1) x0 3 = [0, 1] := by decide
theorem ap0 : apB g0 x0 = true := by
  unfold apB
  rw [show vM g0 x0 = true by unfold vM; rw [decide_eq_true may0, mayL0]; rfl]
  decide
theorem vM0 : vM g0 x0 = true := by unfold vM; rw [decide_eq_true may0, mayL0]; rfl
theorem r6 : r64 6 := by unfold r64; omega
theorem r3 : r64 3 := by unfold r64; omega
theorem w0 : ∀ x ∈ x0, exW x := by
  intro x hx
  simp only [x0, List.mem_cons, List.not_mem_nil, or_false] at hx
  rcases hx with rfl | rfl <;> (unfold exW r64; dsimp only; omega)
abbrev gv0 : Value := gv 2 6 16 3 2
theorem l_counts (A : Option Addr) (c : Nat) (W : World) (hx : RdX W A 2 x0) : Calls Try.prog 30 #[gv0, .slice A 2 c] W fun e w' => ∃ g, e = .returned (.tuple #[.slice (some ⟨g, 0, none⟩) 6 6, .int .i64 0]) ∧ w'.cell? ⟨g, 1, none⟩ = some (.int .i64 5) ∧ Fr No W w' := by
  refine (counts_y 2 6 16 3 2 A 2 c x0 W r6 (by omega) hx w0 ckE_0).mono ?_
  rintro e w' ⟨g, rfl, ho, f⟩
  rw [show (6 : Int).toNat = 6 from rfl, row0] at ho
  exact ⟨g, rfl, PlH.OutI.get (n := 6) (L := [0, 5, 0, 0, 0, 0]) rfl ho (i := 1) rfl, f⟩
theorem l_live (A : Option Addr) (c : Nat) (W : World) (hx : RdX W A 2 x0) : Calls Try.prog 31 #[gv0, .slice A 2 c, .int .i64 3] W fun e w' => ∃ g o c', e = .returned (.tuple #[.slice (some ⟨g, o, none⟩) 1 c', .int .i64 0]) ∧ (w'.cell? ⟨g, o, none⟩ = some (.int .i64 2) ∧ w'.cell? ⟨g, o + 1, none⟩ = some (.int .i64 5)) ∧ Fr No W w' := by
  refine (live_y 2 6 16 3 2 A 2 c x0 3 W r6 (by omega) hx w0 r3 ckZ_0).mono ?_
  rintro e w' ⟨A', c', rfl, hrd, _, f⟩
  rw [pl0] at hrd ⊢
  obtain ⟨g, o, rfl, _, hc⟩ := hrd.at_ (by decide)
  have h := hc 0 (2, 5) rfl
  exact ⟨g, o, c', rfl, ⟨by simpa using h.1, by simpa using h.2⟩, f⟩
theorem l_bands (A : Option Addr) (c : Nat) (W : World) (hx : RdX W A 2 x0) : Calls Try.prog 32 #[gv0, .slice A 2 c, .int .i64 3] W fun e w' => ∃ A' c', e = .returned (.tuple #[.slice A' 1 c', .int .i64 0]) ∧ Fr No W w' := by
  refine (bands_y 2 6 16 3 2 A 2 c x0 3 W r6 (by omega) hx w0 r3 ckZ_0).mono ?_
  rintro e w' ⟨A', c', rfl, _, f⟩
  exact ⟨A', c', by rw [show bds (16 - 1) 3 x0 (6 - 2 - 1 : Int).toNat = [0] from bds0]; rfl, f⟩
theorem l_touched (A : Option Addr) (c : Nat) (W : World) (hx : RdX W A 2 x0) : Calls Try.prog 33 #[gv0, .slice A 2 c] W fun e w' => ∃ g o c', e = .returned (.tuple #[.slice (some ⟨g, o, none⟩) 2 c', .int .i64 0]) ∧ w'.cell? ⟨g, o + 1, none⟩ = some (.int .i64 1) ∧ Fr No W w' := by
  refine (touched_y 2 6 16 3 2 A 2 c x0 W r6 (by omega) hx w0 ckE_0).mono ?_
  rintro e w' ⟨A', c', rfl, hrd, f⟩
  rw [show bds (16 - 1) (-1) x0 (6 - 2 - 1 : Int).toNat = [0, 1] from bds1] at hrd ⊢
  obtain ⟨g, o, rfl, _, hc⟩ := hrd.at_ (by decide)
  exact ⟨g, o, c', rfl, hc 1 1 rfl, f⟩
theorem l_apart (A : Option Addr) (c : Nat) (W : World) (hx : RdX W A 2 x0) : Calls Try.prog 34 #[gv0, .slice A 2 c] W fun e w' => e = .returned (.bool true) ∧ Fr No W w' := by
  have h := apart_ok 2 6 16 3 2 A 2 c x0 W r6 (by omega) hx w0
  rwa [show apB ⟨2, 6, 16, 3, 2⟩ x0 = true from ap0] at h
theorem l_may (A : Option Addr) (c : Nat) (W : World) (hx : RdX W A 2 x0) : Calls Try.prog 35 #[gv0, .slice A 2 c] W fun e w' => e = .returned (.bool true) ∧ Fr No W w' := by
  have h := vmay_ok 2 6 16 3 2 A 2 c x0 W r6 (by simp [maxLen]) hx w0
  rwa [show vM ⟨2, 6, 16, 3, 2⟩ x0 = true from vM0] at h
set_option maxRecDepth 100000 in
set_option maxHeartbeats 2000000 in
theorem lives_ok (w : World) : Calls Try.prog 10 #[] w fun e w' => e = .returned (.bool true) ∧ Fr No w w' := by
  have hnf : ∀ (w : World) (B : Nat), (binOp .neq 28 (.func (.func 37) #[] #[.pointer (some ⟨B, 0, none⟩)]) .nilFunc).run Try.prog w = .ok (.bool true) w := fun w B => by kernel_rfl
  have hsp : ∀ (w : World), (binOp .eql 68 (.agg #[.int .i64 2, .int .i64 5]) (.agg #[.int .i64 2, .int .i64 5])).run Try.prog w = .ok (.bool true) w := fun w => by kernel_rfl
  go_enter Try.func10, Try.ntmps10
  go_upto_region 3 with fail
  obtain ⟨G, hG⟩ : ∃ G, w.heap.size = G := ⟨_, rfl⟩
  obtain ⟨w1, hw1⟩ : ∃ w1, (w.alloc (bg 2 6 16 3 2)).alloc (.cells #[.int .i64 0, .int .i64 5, .int .i64 3, .int .i64 2, .int .i64 20, .int .i64 1, .int .i64 255, .int .i64 0] 62) = w1 := ⟨_, rfl⟩
  have HF := hid (show Fr No w w1 by rw [← hw1]; exact (fr1 _ _).alloc _)
  have P0 := hid (show BG w1 G 2 6 16 3 2 by rw [← hw1, ← hG]; exact (BG.new w 2 6 16 3 2 : Blk _ _ _ _).alloc _)
  have HX := hid (show RdX w1 (some ⟨G + 1, 0, none⟩) 2 x0 by
    rw [← hw1, ← hG]
    have h := Rd.lit (w.alloc (bg 2 6 16 3 2)) [.int .i64 0, .int .i64 5, .int .i64 3, .int .i64 2, .int .i64 20, .int .i64 1, .int .i64 255, .int .i64 0] 62
    rw [World.size_alloc] at h
    exact ⟨rfl, h⟩)
  try rw [show (w.alloc (Obj.cells #[.int .i64 2, .int .i64 6, .int .i64 16, .int .i64 3, .int .i64 2] 23)).alloc (Obj.cells #[.int .i64 0, .int .i64 5, .int .i64 3, .int .i64 2, .int .i64 20, .int .i64 1, .int .i64 255, .int .i64 0] 62) = w1 from hw1]
  try rw [World.size_alloc]
  try rw [hG]
  clear hw1 hG
  go_wp2_with (first | ((with_reducible refine ld_geom rfl (.tmp 1) rfl G ?_ P0.out ?_); · rfl) | (go_at_call 30; refine (l_counts _ _ _ HX.out).mono ?_; rintro e w2 ⟨gc1, rfl, hc, f⟩; replace HF := hid (HF.out.trans f); replace P0 := hid (BG.fr P0.out f); replace HX := hid (PgB.RdX.fr HX.out f); have HC1 := hid hc; clear f hc) | (go_at_call 31; refine (l_live _ _ _ HX.out).mono ?_; rintro e w3 ⟨gc2, oc2, cc2, rfl, hc, f⟩; replace HF := hid (HF.out.trans f); replace P0 := hid (BG.fr P0.out f); replace HX := hid (PgB.RdX.fr HX.out f); replace HC1 := hid (f.cell_some HC1.out (fun h => h)); have HC2 := hid hc; clear f hc) | (go_at_call 32; refine (l_bands _ _ _ HX.out).mono ?_; rintro e w4 ⟨A4, cc4, rfl, f⟩; replace HF := hid (HF.out.trans f); replace P0 := hid (BG.fr P0.out f); replace HX := hid (PgB.RdX.fr HX.out f); replace HC1 := hid (f.cell_some HC1.out (fun h => h)); replace HC2 := hid (And.intro (f.cell_some HC2.out.1 (fun h => h)) (f.cell_some HC2.out.2 (fun h => h))); clear f) | (go_at_call 33; refine (l_touched _ _ _ HX.out).mono ?_; rintro e w5 ⟨gc5, oc5, cc5, rfl, hc5, f⟩; replace HF := hid (HF.out.trans f); replace P0 := hid (BG.fr P0.out f); replace HX := hid (PgB.RdX.fr HX.out f); have hc1 := f.cell_some HC1.out (fun h => h); have hc2 := f.cell_some HC2.out.1 (fun h => h); have hc3 := f.cell_some HC2.out.2 (fun h => h); obtain ⟨p0, p1, p2, p3, p4⟩ := BG.cells P0.out; clear f) | (go_at_call 34; refine (l_apart _ _ _ HX.out).mono ?_; rintro e w6 ⟨rfl, f⟩; replace HF := hid (HF.out.trans f); replace P0 := hid (BG.fr P0.out f); replace HX := hid (PgB.RdX.fr HX.out f); clear p0 p1 p2 p3 p4; obtain ⟨p0, p1, p2, p3, p4⟩ := BG.cells P0.out; clear f) | (go_at_call 35; refine (l_may _ _ _ HX.out).mono ?_; rintro e w7 ⟨rfl, f⟩; replace HF := hid (HF.out.trans f); replace P0 := hid (BG.fr P0.out f); replace HX := hid (PgB.RdX.fr HX.out f); clear p0 p1 p2 p3 p4; obtain ⟨p0, p1, p2, p3, p4⟩ := BG.cells P0.out; clear f) | (go_at_call 11; refine (zones_ok 2 6 16 3 2 _ 2 _ x0 _ r6 (by omega) HX.out w0).mono ?_; rintro e w8 ⟨B8, rfl, _, f⟩; replace HF := hid (HF.out.trans f); clear f))
  go_ret
  exact ⟨rfl, HF.out⟩
end Go.Proofs.Ytoboialfaifbgaa.VaU
/- The library's maps.Keys, slices.Sorted and slices.Sort at whole numbers, laid at this program: by program, in plain words. -/
namespace Go.Proofs.Ytoboialfaifbgaa.VaZs
open Go.RowKit Go.Maps Go.Sort Go.Shelf MSep VaD
def keysA_ren : Go.Shelf.Ren := ⟨fun | 7 => 39 | 10 => 67 | n => n, fun | 23 => 69 | 26 => 3 | 3 => 3 | 28 => 74 | 0 => 0 | 27 => 73 | 33 => 106 | 4 => 4 | n => n, fun | n => n⟩
theorem keysA : Go.Proofs.SlLaysZI.n7 Try.prog keysA_ren := {
  mixed := by kernel_rfl
  f7 := ⟨Try.f39.name, by decide, Try.func39.trans (congrArg some (by kernel_rfl))⟩
  f10 := ⟨Try.f67.name, by decide, Try.func67.trans (congrArg some (by kernel_rfl))⟩
  t0 := Try.underlying0
  a0 := Try.isAgg0
  z0 := Try.sizeOf0
  v0 := Try.zeroValue0
  t4 := Try.underlying4
  a4 := Try.isAgg4
  z4 := Try.sizeOf4
  v4 := Try.zeroValue4
  t23 := Try.underlying69
  a23 := Try.isAgg69
  z23 := Try.sizeOf69
  v23 := Try.zeroValue69
  t26 := Try.underlying3
  a26 := Try.isAgg3
  z26 := Try.sizeOf3
  v26 := Try.zeroValue3
  t27 := Try.underlying73
  a27 := Try.isAgg73
  z27 := Try.sizeOf73
  v27 := Try.zeroValue73
  t28 := Try.underlying74
  a28 := Try.isAgg74
  z28 := Try.sizeOf74
  v28 := Try.zeroValue74
  t33 := Try.underlying106
  a33 := Try.isAgg106
  z33 := Try.sizeOf106
  v33 := Try.zeroValue106 }
def sortedA_ren : Go.Shelf.Ren := ⟨fun | 6 => 38 | 8 => 65 | 9 => 66 | 11 => 87 | 13 => 89 | 12 => 88 | 23 => 115 | 24 => 116 | 14 => 106 | 15 => 107 | 16 => 108 | 17 => 109 | 18 => 110 | 19 => 111 | 20 => 112 | 21 => 113 | 22 => 114 | 25 => 121 | 26 => 122 | 27 => 123 | 28 => 124 | 29 => 125 | 30 => 76 | 31 => 128 | n => n, fun | 26 => 3 | 28 => 74 | 24 => 47 | 0 => 0 | 3 => 3 | 37 => 127 | 48 => 148 | 50 => 150 | 4 => 4 | 40 => 141 | 39 => 140 | 45 => 145 | 5 => 5 | 9 => 9 | 51 => 154 | 55 => 158 | 57 => 160 | 58 => 114 | 33 => 106 | n => n, fun | n => n⟩
theorem sortedA : Go.Proofs.SlLaysZI.n6 Try.prog sortedA_ren := {
  mixed := by kernel_rfl
  f6 := ⟨Try.f38.name, by decide, Try.func38.trans (congrArg some (by kernel_rfl))⟩
  f8 := ⟨Try.f65.name, by decide, Try.func65.trans (congrArg some (by kernel_rfl))⟩
  f11 := ⟨Try.f87.name, by decide, Try.func87.trans (congrArg some (by kernel_rfl))⟩
  t0 := Try.underlying0
  a0 := Try.isAgg0
  z0 := Try.sizeOf0
  v0 := Try.zeroValue0
  t24 := Try.underlying47
  a24 := Try.isAgg47
  z24 := Try.sizeOf47
  v24 := Try.zeroValue47
  t26 := Try.underlying3
  a26 := Try.isAgg3
  z26 := Try.sizeOf3
  v26 := Try.zeroValue3
  t28 := Try.underlying74
  a28 := Try.isAgg74
  z28 := Try.sizeOf74
  v28 := Try.zeroValue74
  i26 := by kernel_rfl }
def sortA_ren : Go.Shelf.Ren := ⟨fun | 5 => 66 | 8 => 89 | 7 => 88 | 19 => 115 | 20 => 116 | 10 => 106 | 11 => 107 | 12 => 108 | 13 => 109 | 14 => 110 | 15 => 111 | 16 => 112 | 17 => 113 | 18 => 114 | 30 => 121 | 31 => 122 | 32 => 123 | 33 => 124 | 34 => 125 | 35 => 76 | 40 => 128 | n => n, fun | 23 => 47 | 25 => 3 | 3 => 3 | 32 => 127 | 22 => 47 | 0 => 0 | 44 => 148 | 46 => 150 | 4 => 4 | 36 => 141 | 35 => 140 | 41 => 145 | 5 => 5 | 9 => 9 | 53 => 154 | 57 => 158 | 63 => 160 | 64 => 114 | n => n, fun | n => n⟩
theorem sortA : Go.Proofs.SlLaysM.n5 Try.prog sortA_ren := {
  mixed := by kernel_rfl
  f5 := ⟨Try.f66.name, by decide, Try.func66.trans (congrArg some (by kernel_rfl))⟩
  f7 := ⟨Try.f88.name, by decide, Try.func88.trans (congrArg some (by kernel_rfl))⟩
  f8 := Try.func89.trans (congrArg some (by kernel_rfl))
  f10 := ⟨Try.f106.name, by decide, Try.func106.trans (congrArg some (by kernel_rfl))⟩
  f11 := ⟨Try.f107.name, by decide, Try.func107.trans (congrArg some (by kernel_rfl))⟩
  f12 := ⟨Try.f108.name, by decide, Try.func108.trans (congrArg some (by kernel_rfl))⟩
  f13 := ⟨Try.f109.name, by decide, Try.func109.trans (congrArg some (by kernel_rfl))⟩
  f14 := ⟨Try.f110.name, by decide, Try.func110.trans (congrArg some (by kernel_rfl))⟩
  f15 := ⟨Try.f111.name, by decide, Try.func111.trans (congrArg some (by kernel_rfl))⟩
  f16 := ⟨Try.f112.name, by decide, Try.func112.trans (congrArg some (by kernel_rfl))⟩
  f17 := ⟨Try.f113.name, by decide, Try.func113.trans (congrArg some (by kernel_rfl))⟩
  f18 := ⟨Try.f114.name, by decide, Try.func114.trans (congrArg some (by kernel_rfl))⟩
  f19 := Try.func115.trans (congrArg some (by kernel_rfl))
  f20 := Try.func116.trans (congrArg some (by kernel_rfl))
  f30 := ⟨Try.f121.name, by decide, Try.func121.trans (congrArg some (by kernel_rfl))⟩
  f31 := Try.func122.trans (congrArg some (by kernel_rfl))
  f32 := Try.func123.trans (congrArg some (by kernel_rfl))
  f33 := ⟨Try.f124.name, by decide, Try.func124.trans (congrArg some (by kernel_rfl))⟩
  f34 := ⟨Try.f125.name, by decide, Try.func125.trans (congrArg some (by kernel_rfl))⟩
  f35 := ⟨Try.f76.name, by decide, Try.func76.trans (congrArg some (by kernel_rfl))⟩
  f40 := ⟨Try.f128.name, by decide, Try.func128.trans (congrArg some (by kernel_rfl))⟩
  t0 := Try.underlying0
  a0 := Try.isAgg0
  z0 := Try.sizeOf0
  v0 := Try.zeroValue0
  t3 := Try.underlying3
  a3 := Try.isAgg3
  z3 := Try.sizeOf3
  v3 := Try.zeroValue3
  t4 := Try.underlying4
  a4 := Try.isAgg4
  z4 := Try.sizeOf4
  v4 := Try.zeroValue4
  t5 := Try.underlying5
  a5 := Try.isAgg5
  z5 := Try.sizeOf5
  v5 := Try.zeroValue5
  t9 := Try.underlying9
  a9 := Try.isAgg9
  z9 := Try.sizeOf9
  v9 := Try.zeroValue9
  t22 := Try.underlying47
  a22 := Try.isAgg47
  z22 := Try.sizeOf47
  v22 := Try.zeroValue47
  t23 := Try.underlying47
  a23 := Try.isAgg47
  z23 := Try.sizeOf47
  v23 := Try.zeroValue47
  t25 := Try.underlying3
  a25 := Try.isAgg3
  z25 := Try.sizeOf3
  v25 := Try.zeroValue3
  t32 := Try.underlying127
  a32 := Try.isAgg127
  z32 := Try.sizeOf127
  v32 := Try.zeroValue127
  t35 := Try.underlying140
  a35 := Try.isAgg140
  z35 := Try.sizeOf140
  v35 := Try.zeroValue140
  t36 := Try.underlying141
  a36 := Try.isAgg141
  z36 := Try.sizeOf141
  v36 := Try.zeroValue141
  t41 := Try.underlying145
  a41 := Try.isAgg145
  z41 := Try.sizeOf145
  v41 := Try.zeroValue145
  t44 := Try.underlying148
  a44 := Try.isAgg148
  z44 := Try.sizeOf148
  v44 := Try.zeroValue148
  t46 := Try.underlying150
  a46 := Try.isAgg150
  z46 := Try.sizeOf150
  v46 := Try.zeroValue150
  t53 := Try.underlying154
  a53 := Try.isAgg154
  z53 := Try.sizeOf154
  v53 := Try.zeroValue154
  t57 := Try.underlying158
  a57 := Try.isAgg158
  z57 := Try.sizeOf158
  v57 := Try.zeroValue158
  t63 := Try.underlying160
  a63 := Try.isAgg160
  z63 := Try.sizeOf160
  v63 := Try.zeroValue160
  t64 := Try.underlying114
  a64 := Try.isAgg114
  z64 := Try.sizeOf114
  v64 := Try.zeroValue114 }
end Go.Proofs.Ytoboialfaifbgaa.VaZs
/- The keys of a map of whole numbers, sorted, by the library. Condition: the map is there and has no more keys than a slice has room for. -/
namespace Go.Proofs.Ytoboialfaifbgaa.VaZa
open Go.RowKit Go.Maps Go.Sort Go.Shelf MSep VaD VaZs

theorem sorts (m : Nat) : AnyZI.SortsIn Try.prog sortedA_ren Fence.wide m :=
  ⟨fun blk off cap ss W hH hblk hsz => callsIn_wide.2 (AnyM.slices_Sort_int sortA blk off cap ss W hH hblk hsz),
   fun p cap W => callsIn_wide.2 (AnyM.slices_Sort_int_none sortA p cap W)⟩
theorem keys_ok (mb : Option Nat) (W : World) : Calls Try.prog 39 #[.map mb] W fun e w' => e = .returned (.func (.func 67) #[] #[.pointer (some ⟨W.heap.size, 0, none⟩)]) ∧ w' = W.alloc (.cells #[.map mb] 69) :=
  (callsIn_wide (n := 5)).1 (AnyZI.keys_in keysA Fence.wide 5 trivial rfl mb W)
set_option maxRecDepth 100000 in
set_option maxHeartbeats 1000000 in
theorem sorted_ok {H : Type} (b nn : Nat) (D0 : DataW H) (R : Value → Option (DataW H × List MemPlace)) (w : World) (hown : w.ownsMap Try.prog 3 R b nn D0) (hmax : Maps.size D0 ≤ maxLen) (hbytes : Maps.size D0 * 8 ≤ 140737488355328) :
    Calls Try.prog 38 #[.func (.func 67) #[] #[.pointer (some ⟨w.heap.size, 0, none⟩)]] (w.alloc (.cells #[.map (some b)] 69)) fun e w' => ∃ (v : Value) (ss : List Int), e = .returned v ∧ ss.Perm (intKeys D0) ∧
      w'.ownsRow (w.alloc (.cells #[.map (some b)] 69)).heap.size 3 1 v ss.length ((ss.mergeSort (fun x y => decide (x ≤ y))).map encZ) ∧ (v = .slice none 0 0 ↔ ss = []) ∧ Below (w.alloc (.cells #[.map (some b)] 69)).heap.size (w.alloc (.cells #[.map (some b)] 69)) w' := by
  refine (callsIn_wide (n := 5)).1 ?_
  have hbl := hown.lt
  have hseq : SeqGives Fence.wide 2 Try.prog 67 #[.pointer (some ⟨w.heap.size, 0, none⟩)] encZ (fun ss => ss.Perm (intKeys D0)) (Maps.size D0) (w.alloc (.cells #[.map (some b)] 69)) :=
    AnyZI.keys_gives (ρ := keysA_ren) { keysA with } Fence.wide _ trivial rfl (by omega) w.heap.size b nn D0 _ (by simp) (by simp) (by
      obtain ⟨es, clock, hb, Ft, hs, hD⟩ := hown
      exact ⟨es, clock, (Below.heap_alloc _ _ b hbl).trans hb, Ft, hs, hD⟩)
  have cS := AnyZI.sorted_in sortedA Fence.wide 5 trivial trivial trivial trivial rfl (by omega) (sorts _) (enters_of Try.func66 (by kernel_rfl) rfl) 67 #[.pointer (some ⟨w.heap.size, 0, none⟩)] trivial (enters_of Try.func67 (by kernel_rfl) rfl) _ _ hmax hbytes _ hseq
  exact cS
end Go.Proofs.Ytoboialfaifbgaa.VaZa
/- Contract: Zones' iterator: each key of the map, rising, and what it counts. Conditions: the box holds the map; the map is as it was made; at most 1000 keys. -/
namespace Go.Proofs.Ytoboialfaifbgaa.VaZb
open Go.RowKit MSep MSepC MGeM GeA GeC PgA PgB RgF PlM PlA VaA VaC VaD

attribute [local go_sem] Oper.semAt_some

/-- What the i-th round is handed: the i-th key and its count. -/
def XZ (L : List Ex) (S : List Int) (i : Nat) (ys : Array Value) (_ : World) : Prop := ∃ z, S[i]? = some z ∧ ys = #[.int .i64 z, .int .i64 (cz L z)]
theorem fr_bel {w w' : World} (h : Go.RowKit.Below w.heap.size w w') : Fr No w w' := ⟨h.os, h.tape, h.output, h.size, fun k hk _ => h.block k hk⟩

set_option maxRecDepth 100000 in
set_option maxHeartbeats 2000000 in
theorem zones_iter (b n : Nat) (L : List Ex) (D : DataW Unit) (B : Nat) (w : World) (T : Nat → Prop) (hB : Blk w B 69 #[.map (some b)]) (hown : w.ownsMap Try.prog 3 (plainElem Try.prog 3) b n D)
    (hat : ∀ z, D.atKey (kz z) (.lit (.int .i64 0)) = .lit (.int .i64 (cz L z))) (hn : n ≤ 1000) (hTB : ¬ T B) (hTb : ¬ T b) (hT2 : ∀ k, w.heap.size + 2 ≤ k → ¬ T k) :
    Iter Try.prog 37 #[.pointer (some ⟨B, 0, none⟩)] ((intKeys D).mergeSort leI).length (XZ L ((intKeys D).mergeSort leI)) T w := by
  intro l J Jx W hW hsz hJ hY h0
  obtain ⟨S, hS⟩ : ∃ S, (intKeys D).mergeSort leI = S := ⟨_, rfl⟩
  have hwf : ∀ z ∈ S, (Lit.int .i64 z).wf = true := fun z hz => by
    rw [← hS, List.mem_mergeSort] at hz
    exact intKeys_wf hown Try.underlying3 z hz
  have hsize := hown.size_le
  have hownW : W.ownsMap Try.prog 3 (plainElem Try.prog 3) b n D := by
    obtain ⟨es, clock, hb1, r⟩ := hown
    exact ⟨es, clock, (hW.block b (Array.getElem?_eq_some_iff.1 hb1).1 (fun h => h)).trans hb1, r⟩
  have hbW : b < W.heap.size := hownW.lt
  have hBW := hB.fr hW (fun h => h)
  have hBl := hBW.lt
  have c0 : W.cell? ⟨B, 0, none⟩ = some (.map (some b)) := hBW.cell 0
  have HK := hid (fun mb W => (callsIn_wide (n := 1)).2 (VaZa.keys_ok mb W))
  have HS := hid ((callsIn_wide (n := 1)).2 (VaZa.sorted_ok b n D (plainElem Try.prog 3) W hownW (by unfold maxLen; omega) (by omega)))
  rw [hS] at hY ⊢
  obtain ⟨N, hSN⟩ : ∃ N, S.length = N := ⟨_, rfl⟩
  rw [hSN] at hY ⊢
  have HNN := hid hSN
  have HSS := hid hS
  have HOW := hid hownW
  have HBW := hid hBW
  have HW := hid hW
  have HSZ := hid (And.intro hsz (And.intro hbW hBl))
  have HWF := hid hwf
  have HAT0 := hid hat
  have HT := hid (And.intro hTB (And.intro hTb hT2))
  clear hSN hS hownW hBW hW hsz hbW hBl hwf hat hTB hTb hT2 hB hown hsize
  refine callsIn_of_wp Try.func37 rfl trivial ?_ rfl
  simp only [Try.ntmps37, List.size_toArray, List.length_cons, List.length_nil, Nat.reduceAdd, Nat.reduceSub, Array.replicate_succ, Array.replicate_zero, List.push_toArray, List.append_toArray, List.nil_append, List.cons_append]
  gi_wp2_with (first | (refine ⟨trivial, ?_⟩; gi_at_call 39; refine (HK.out _ _).mono ?_; rintro e wk ⟨rfl, rfl⟩) | (refine ⟨trivial, ?_⟩; gi_at_call 38; refine HS.out.mono ?_; rintro e w3 ⟨v, ss, rfl, hp, hrow, hnil, hb⟩; obtain ⟨A, c, rfl⟩ := own_form hrow; have HP := hid hp; have HR := hid hrow; have HBE := hid (fr_bel hb); clear hp hrow hnil hb))
  have hSS : ss.mergeSort leI = S := (mergeSort_of_perm_i HP.out).trans HSS.out
  have hN : ss.length = N := by rw [← HNN.out, ← hSS, List.length_mergeSort]
  have hrow := HR.out
  rw [show (ss.mergeSort fun x y => decide (x ≤ y)) = S from hSS, hN] at hrow
  have HR2 := hid hrow
  try rw [hN]
  have HNL := hid (show N ≤ 1000 by
    have h1 := HOW.out.size_le
    have h2 := HP.out.length_eq
    have h3 : (intKeys D).length ≤ Maps.size D := by cases D <;> simp [intKeys, Maps.size]
    omega)
  have HF3 := hid (show Fr No W w3 from (fr1 W _).trans HBE.out)
  have h03 : J 0 w3 := hJ _ _ _ h0 HF3.out
  have HLT := hid (show ∀ q, (Value.slice A N c).ownBlock = some q → ¬ T q from fun q hq => by
    have h1 := (PlA.own_ge hrow q hq).1
    have h2 := HSZ.out.1
    refine HT.out.2.2 q ?_
    simp at h1
    omega)
  clear hSS hrow HS HK HR h0 HP HBE
  gi_wp2
  gi_loopw [9] (fun y wr => ∃ i : Nat, y = .int .i64 i ∧ i ≤ N ∧ J i wr ∧ Fr T w3 wr) (fun y _ => N - (intOf y).toNat)
  case atStart => exact ⟨0, rfl, by omega, h03, Fr.refl _ _⟩
  case round =>
    obtain ⟨i, rfl, hi, hJi, hf⟩ := hrel
    by_cases hlt : i < N
    case neg =>
      obtain rfl : i = N := by omega
      gi_wp2
      go_end0
      exact ⟨⟨_, rfl⟩, .inl hJi⟩
    obtain ⟨z, hz⟩ : ∃ z, S[i]? = some z := ⟨_, List.getElem?_eq_getElem (by have := HNN.out; omega)⟩
    have hrd : PlA.RdI w3 A N S := PlA.OutI.rd (c := c) (B := (W.alloc (Obj.cells #[Value.map (some b)] 69)).heap.size) HNN.out.symm (by
      unfold PlA.OutI
      rw [HNN.out]
      exact HR2.out)
    obtain ⟨g, o, hA, _, hc⟩ := PlA.RdI.at_ (PlA.RdI.frS hrd hf (fun g o h => HLT.out g (by rw [h]; simp [Value.ownBlock]))) (by omega)
    subst hA
    have hcz := hc i z hz
    have y0 : wr.cell? ⟨B, 0, none⟩ = some (.map (some b)) := ((HBW.out.fr HF3.out (fun h => h)).fr hf HT.out.1).cell 0
    have hown : wr.ownsMap Try.prog 3 (plainElem Try.prog 3) b n D := by
      obtain ⟨es, clock, hb1, r⟩ := HOW.out
      exact ⟨es, clock, (hf.block b (Nat.lt_of_lt_of_le HSZ.out.2.1 HF3.out.size) HT.out.2.1).trans ((HF3.out.block b HSZ.out.2.1 (fun h => h)).trans hb1), r⟩
    obtain ⟨C, hC⟩ : ∃ C, cz L z = C := ⟨_, rfl⟩
    have hatC := HAT0.out z
    rw [hC] at hatC
    have HKEY := hid (Maps.keyOf_int_mk Try.underlying3 (a := z) (HWF.out z (List.mem_of_getElem? hz)))
    have HOWN := hid hown
    have HAT := hid hatC
    have hiz : (i : Int) < (N : Int) := by omega
    have hw1 : wrap64 ((i : Int) + 1) = (i : Int) + 1 := SpA.w64 _ (by have := HNL.out; omega)
    have HFF := hid hf
    obtain ⟨fn, tmps, assign, body, hy, hR⟩ := hY i #[.int .i64 z, .int .i64 C] wr hlt hJi ⟨z, hz, by rw [hC]⟩
    clear hc hrd hown hatC hC hJi hf hz hY
    gi_wp2_with (gi_at_lookup; refine wpListIn_lookup_own_int _ rfl (.tmp 15) (.tmp 16) 69 rfl 3 3 .i64 (Maps.int_keyed Try.underlying3) Try.underlying69 Try.underlying3 (zeroI _) b n D rfl HOWN.out _ (kz z) rfl HKEY.out ?_; intro cc hcc hcw; obtain rfl : C = cc := (by rw [HAT.out] at hcc; injection hcc with h1; injection h1); clear hcc hcw)
    refine hR.mono ?_
    rintro e' W5 (⟨rfl, hJ5, hk5⟩ | ⟨rfl, hJx⟩)
    · gi_wp2
      go_roundw
      case rel => exact ⟨i + 1, by rw [hw1]; exact congrArg (Value.int .i64) (Int.natCast_add i 1).symm, Nat.succ_le_of_lt hlt, hJ5, HFF.out.trans hk5⟩
      case measure => first | exact next_m _ _ hlt hw1 | (simp only [intOf]; omega)
    · gi_wp2
      refine bodyPost_ret (results_none rfl _ _ _) rfl ?_
      exact ⟨⟨_, rfl⟩, .inr hJx⟩
end Go.Proofs.Ytoboialfaifbgaa.VaZb
/- Contract: Zones' iterator where nothing was counted: no round. Condition: the box holds no map. -/
namespace Go.Proofs.Ytoboialfaifbgaa.VaZc
open Go.RowKit MSep MSepC MGeM GeA GeC PgA PgB RgF PlM PlA VaA VaC VaD VaZs VaZb
open Go.Maps Go.Sort Go.Shelf in
set_option maxRecDepth 100000 in
set_option maxHeartbeats 1000000 in
theorem sorted_nil (w : World) :
    Calls Try.prog 38 #[.func (.func 67) #[] #[.pointer (some ⟨w.heap.size, 0, none⟩)]] (w.alloc (.cells #[.map none] 69)) fun e w' => e = .returned (.slice none 0 0) ∧ Go.RowKit.Below (w.alloc (.cells #[.map none] 69)).heap.size (w.alloc (.cells #[.map none] 69)) w' := by
  refine (callsIn_wide (n := 5)).1 ?_
  have hseq : SeqGives Fence.wide 2 Try.prog 67 #[.pointer (some ⟨w.heap.size, 0, none⟩)] encZ (fun ss : List Int => ss = []) 0 (w.alloc (.cells #[.map none] 69)) :=
    AnyZI.keys_gives_nil (ρ := keysA_ren) { keysA with } Fence.wide _ trivial rfl w.heap.size _ (by simp) (by simp)
  have cS := AnyZI.sorted_in sortedA Fence.wide 5 trivial trivial trivial trivial rfl (by omega) (VaZa.sorts _) (enters_of Try.func66 (by kernel_rfl) rfl) 67 #[.pointer (some ⟨w.heap.size, 0, none⟩)] trivial (enters_of Try.func67 (by kernel_rfl) rfl) _ 0 (Nat.zero_le _) (by omega) _ hseq
  change CallsIn _ _ Try.prog 38 _ _ _ at cS
  refine cS.mono ?_
  rintro e w' ⟨v, ss, rfl, rfl, hrow, hnil, hb⟩
  exact ⟨by rw [hnil.2 rfl], hb⟩

attribute [local go_sem] Oper.semAt_some
set_option maxRecDepth 100000 in
set_option maxHeartbeats 2000000 in
theorem zones_none (B : Nat) (w : World) (X : Nat → Array Value → World → Prop) (T : Nat → Prop) (hB : Blk w B 69 #[.map none]) :
    Iter Try.prog 37 #[.pointer (some ⟨B, 0, none⟩)] 0 X T w := by
  intro l J Jx W hW hsz hJ hY h0
  have hBW := hB.fr hW (fun h => h)
  have c0 : W.cell? ⟨B, 0, none⟩ = some (.map none) := hBW.cell 0
  have HK := hid (fun mb W => (callsIn_wide (n := 1)).2 (VaZa.keys_ok mb W))
  have HS := hid ((callsIn_wide (n := 1)).2 (sorted_nil W))
  clear hW hsz hY hB hBW
  refine callsIn_of_wp Try.func37 rfl trivial ?_ rfl
  simp only [Try.ntmps37, List.size_toArray, List.length_cons, List.length_nil, Nat.reduceAdd, Nat.reduceSub, Array.replicate_succ, Array.replicate_zero, List.push_toArray, List.append_toArray, List.nil_append, List.cons_append]
  gi_wp2_with (first | (refine ⟨trivial, ?_⟩; gi_at_call 39; refine (HK.out _ _).mono ?_; rintro e wk ⟨rfl, rfl⟩) | (refine ⟨trivial, ?_⟩; gi_at_call 38; refine HS.out.mono ?_; rintro e w3 ⟨rfl, hb⟩; have HBE := hid (fr_bel hb); clear hb))
  have h03 : J 0 w3 := hJ _ _ _ h0 ((fr1 W _).trans HBE.out)
  gi_wp2
  gi_loopw [9] (fun y wr => y = .int .i64 0 ∧ J 0 wr) (fun y _ => (0 : Nat))
  case atStart => exact ⟨rfl, h03⟩
  case round =>
    obtain ⟨rfl, hJi⟩ := hrel
    gi_wp2
    go_end0
    exact ⟨⟨_, rfl⟩, .inl hJi⟩
end Go.Proofs.Ytoboialfaifbgaa.VaZc
/- The keys of a map of whole numbers, sorted, in plain words: rising, and each key that the map has. -/
namespace Go.Proofs.Ytoboialfaifbgaa.VaZp
open Go.RowKit Go.Maps Go.Sort MSep VaD

theorem keys_mem {H : Type} {w : World} {b n : Nat} {R : Value → Option (DataW H × List MemPlace)} {D : DataW H} (hown : w.ownsMap Try.prog 3 R b n D) :
    (intKeys D).Nodup ∧ ∀ z, z ∈ intKeys D ↔ has D (.int .i64 z) = true := by
  obtain ⟨es, hD, hpw, _⟩ := hown.entries (Maps.int_keyed Try.underlying3)
  obtain ⟨es', hD', hko⟩ := hown.keysOf
  obtain rfl : es = es' := by rw [hD] at hD'; simpa using hD'
  subst hD
  have hk : ∀ p ∈ es, ∃ x, p.1 = .int .i64 x := fun p hp => by
    obtain ⟨v, hv⟩ := hko p hp
    obtain ⟨x, _, hx, _⟩ := Maps.keyOf_i64 Try.underlying3 hv
    exact ⟨x, hx⟩
  refine ⟨?_, fun z => ?_⟩
  · show (es.map fun p => Go.intOf p.1).Nodup
    refine List.pairwise_map.2 (hpw.imp_of_mem fun {p q} hp' hq' hne e => hne ?_)
    obtain ⟨a, ha⟩ := hk p hp'
    obtain ⟨c, hc⟩ := hk q hq'
    rw [ha, hc] at e ⊢
    exact congrArg _ e
  · rw [has_eq, List.any_eq_true]
    show z ∈ es.map (fun p => Go.intOf p.1) ↔ _
    rw [List.mem_map]
    constructor
    · rintro ⟨p, hp', rfl⟩
      obtain ⟨a, ha⟩ := hk p hp'
      exact ⟨p, hp', by rw [ha]; simp [Lit.sameKey, Go.intOf]⟩
    · rintro ⟨p, hp', hs⟩
      obtain ⟨a, ha⟩ := hk p hp'
      rw [ha] at hs
      exact ⟨p, hp', by rw [ha]; simpa [Lit.sameKey, Go.intOf] using hs⟩
theorem sorted_lt {H : Type} {w : World} {b n : Nat} {R : Value → Option (DataW H × List MemPlace)} {D : DataW H} (hown : w.ownsMap Try.prog 3 R b n D) :
    ((intKeys D).mergeSort leI).Pairwise (· < ·) ∧ ∀ z, z ∈ (intKeys D).mergeSort leI ↔ has D (.int .i64 z) = true := by
  obtain ⟨h1, h2⟩ := keys_mem hown
  have tr : ∀ a b c : Int, leI a b = true → leI b c = true → leI a c = true := fun a b c h1 h2 => by simp only [leI, decide_eq_true_eq] at *; exact Int.le_trans h1 h2
  have tot : ∀ a b : Int, (leI a b || leI b a) = true := fun a b => by simp only [leI, Bool.or_eq_true, decide_eq_true_eq]; exact Int.le_total a b
  refine ⟨?_, fun z => by rw [List.mem_mergeSort]; exact h2 z⟩
  have h3 := List.pairwise_mergeSort tr tot (intKeys D)
  have h4 : ((intKeys D).mergeSort leI).Nodup := (List.mergeSort_perm _ leI).nodup_iff.2 h1
  refine (h3.and h4).imp ?_
  rintro a c ⟨h5, h6⟩
  simp only [leI, decide_eq_true_eq] at h5
  omega
theorem flen (p : Int → Bool) : ∀ l : List Int, l.length = (l.filter p).length + (l.filter fun z => !p z).length
  | [] => rfl
  | a :: l => by
    have := flen p l
    cases h : p a <;> simp [h] <;> omega
/-- How many of N numbers from c on f tells to be there. -/
def cnt (f : Int → Bool) (c : Int) : Nat → Nat
  | 0 => 0
  | k + 1 => cnt f c k + if f (c + (k : Int)) = true then 1 else 0
theorem cnt_le (f : Int → Bool) (c : Int) : ∀ k, cnt f c k ≤ k
  | 0 => Nat.le_refl _
  | k + 1 => by
    have := cnt_le f c k
    unfold cnt
    split <;> omega
/-- A rising list that holds just what f tells, from c on, below c + N, is as long as f counts. -/
theorem cnt_len (f : Int → Bool) (c : Int) (N : Nat) (S : List Int) (hp : S.Pairwise (· < ·)) (hm : ∀ z, z ∈ S ↔ (c ≤ z ∧ z < c + N) ∧ f z = true) : S.length = cnt f c N := by
  induction N generalizing S with
  | zero =>
    have : S = [] := List.eq_nil_iff_forall_not_mem.2 fun z hz => by have := ((hm z).1 hz).1; omega
    rw [this]; rfl
  | succ k ih =>
    have h1 := ih (S.filter fun z => decide (z < c + k)) (hp.filter _) (fun z => by
      rw [List.mem_filter, hm, decide_eq_true_eq]
      constructor
      · rintro ⟨⟨⟨a, _⟩, b⟩, d⟩; exact ⟨⟨a, d⟩, b⟩
      · rintro ⟨⟨a, d⟩, b⟩; exact ⟨⟨⟨a, by omega⟩, b⟩, d⟩)
    have h2 : (S.filter fun z => !decide (z < c + k)).length = if f (c + (k : Int)) = true then 1 else 0 := by
      have hall : ∀ z ∈ S.filter fun z => !decide (z < c + k), z = c + k := fun z hz => by
        rw [List.mem_filter, hm] at hz
        have h := hz.2
        simp at h
        omega
      have hnd : (S.filter fun z => !decide (z < c + k)).Pairwise (· < ·) := hp.filter _
      by_cases hf : f (c + (k : Int)) = true
      · rw [if_pos hf]
        have hin : c + (k : Int) ∈ S.filter fun z => !decide (z < c + k) := by
          rw [List.mem_filter, hm]
          exact ⟨⟨by omega, hf⟩, by simp⟩
        generalize S.filter (fun z => !decide (z < c + k)) = Q at hall hnd hin
        match Q, hall, hnd, hin with
        | [], _, _, hin => simp at hin
        | [_], _, _, _ => rfl
        | a :: d :: _, hall, hnd, _ =>
          have e1 := hall a (by simp)
          have e2 := hall d (by simp)
          have := (List.pairwise_cons.1 hnd).1 d (by simp)
          omega
      · rw [if_neg hf, List.length_eq_zero_iff]
        refine List.eq_nil_iff_forall_not_mem.2 fun z hz => ?_
        have e := hall z hz
        rw [List.mem_filter, hm] at hz
        rw [e] at hz
        exact hf hz.1.2
    have h3 := flen (fun z => decide (z < c + k)) S
    unfold cnt
    rw [← h1, ← h2]
    exact h3
end Go.Proofs.Ytoboialfaifbgaa.VaZp
/- The law ValidZones, first part: the call's own boxes; the iterator over zones in plain words; where there are too many. Conditions: the extents read as a list of structs of whole numbers of 64 bits; the geometry's Seq has 64 bits. -/
namespace Go.Proofs.Ytoboialfaifbgaa.VaZq
open Go.RowKit MSep MSepC MSpM MGeM GeA GeC GeE PgA PgB RgF PlM PlA VaA VaB VaC VaD VaE VaF VaG VaH VaJ VaK VaM VaN VaP VaQ VaT VaS VaU VaZb VaZc VaZp

attribute [local go_sem] Oper.semAt_some

/-- The call's own boxes: the geometry, the extents, where to stop, the result. -/
structure BX (w : World) (G : Nat) (gc gs gn gl gk : Int) (A : Option Addr) (l c : Nat) (st : Int) (r : Bool) : Prop where
  p : BG w G gc gs gn gl gk
  a : Blk w (G + 1) 24 #[.slice A l c]
  s : Blk w (G + 2) 3 #[.int .i64 st]
  r : Blk w (G + 3) 4 #[.bool r]
section
variable {w w' : World} {G : Nat} {gc gs gn gl gk st : Int} {A : Option Addr} {l c : Nat} {r : Bool}
theorem BX.fr {S : Nat → Prop} (h : BX w G gc gs gn gl gk A l c st r) (f : Fr S w w') (hS : ¬ S G ∧ ¬ S (G + 1) ∧ ¬ S (G + 2) ∧ ¬ S (G + 3)) : BX w' G gc gs gn gl gk A l c st r :=
  ⟨Blk.fr h.p f hS.1, h.a.fr f hS.2.1, h.s.fr f hS.2.2.1, h.r.fr f hS.2.2.2⟩
theorem BX.frN (h : BX w G gc gs gn gl gk A l c st r) (f : Fr No w w') : BX w' G gc gs gn gl gk A l c st r :=
  h.fr f ⟨fun h => h, fun h => h, fun h => h, fun h => h⟩
theorem BX.cells (h : BX w G gc gs gn gl gk A l c st r) : (w.cell? ⟨G, 0, none⟩ = some (.int .i64 gc) ∧ w.cell? ⟨G, 1, none⟩ = some (.int .i64 gs) ∧ w.cell? ⟨G, 2, none⟩ = some (.int .i64 gn) ∧ w.cell? ⟨G, 3, none⟩ = some (.int .i64 gl) ∧ w.cell? ⟨G, 4, none⟩ = some (.int .i64 gk)) ∧
    w.cell? ⟨G + 1, 0, none⟩ = some (.slice A l c) ∧ w.cell? ⟨G + 2, 0, none⟩ = some (.int .i64 st) ∧ w.cell? ⟨G + 3, 0, none⟩ = some (.bool r) ∧ w.frozen? ⟨G + 3, 0, none⟩ = false :=
  ⟨BG.cells h.p, h.a.cell 0, h.s.cell 0, h.r.cell 0, h.r.frozen 0⟩
theorem BX.new (w : World) (gc gs gn gl gk : Int) (A : Option Addr) (l c : Nat) (st : Int) (r : Bool) :
    BX ((((w.alloc (bg gc gs gn gl gk)).alloc (.cells #[.slice A l c] 24)).alloc (.cells #[.int .i64 st] 3)).alloc (.cells #[.bool r] 4)) w.heap.size gc gs gn gl gk A l c st r := by
  refine ⟨(((BG.new w gc gs gn gl gk : Blk _ _ _ _).alloc _).alloc _).alloc _, ?_, ?_, ?_⟩
  · have := ((Blk.new (w.alloc (bg gc gs gn gl gk)) 24 #[.slice A l c]).alloc (.cells #[.int .i64 st] 3)).alloc (.cells #[.bool r] 4)
    simpa only [World.size_alloc] using this
  · have := (Blk.new ((w.alloc (bg gc gs gn gl gk)).alloc (.cells #[.slice A l c] 24)) 3 #[.int .i64 st]).alloc (.cells #[.bool r] 4)
    simpa only [World.size_alloc] using this
  · have := Blk.new (((w.alloc (bg gc gs gn gl gk)).alloc (.cells #[.slice A l c] 24)).alloc (.cells #[.int .i64 st] 3)) 4 #[.bool r]
    simpa only [World.size_alloc] using this
end
theorem fr4 (w : World) (a b c d : Obj) : Fr No w ((((w.alloc a).alloc b).alloc c).alloc d) := (((fr1 w a).alloc b).alloc c).alloc d
/-- The result, read from its box. -/
theorem res_box {fn : Func} {p : Tmp} (h : fn.results = #[.cell p 4]) (tmps : Array Value) (w : World) (g : Nat) (b : Bool) (hp : tmps.getD p undef = .pointer (some ⟨g, 0, none⟩)) (hg : Blk w g 4 #[.bool b]) :
    (results fn tmps).run Try.prog w = .ok (.bool b) w := by
  have c0 := hg.cell 0
  have hp' : tmps[p]?.getD undef = .pointer (some ⟨g, 0, none⟩) := by simpa using hp
  simp at c0
  simp [results, h, hp', asAddr, go_sem, c0]

/-- A map's block is none of the boxes. -/
theorem MapZ.ne_ {w : World} {b n g : Nat} {L : List Ex} {t : TypeId} {cs : Array Value} (h : MapZ w b n L) (hg : Blk w g t cs) : b ≠ g := by
  rintro rfl
  obtain ⟨D, ⟨es, clock, hb, _⟩, _⟩ := h
  unfold Blk at hg
  rw [hb] at hg
  injection hg with hg
  cases hg
theorem ZBox.fr {w w' : World} {B : Nat} {v : Bool} {xs : List Ex} (h : ZBox w B v xs) (f : Fr No w w') : ZBox w' B v xs := by
  unfold ZBox at h ⊢
  split
  · rename_i hv
    rw [if_pos hv] at h
    obtain ⟨b, n, h1, h2, h3⟩ := h
    exact ⟨b, n, h1.fr f (fun h => h), h2.kept f (fun h => h), h3⟩
  · rename_i hv
    rw [if_neg hv] at h
    exact h.fr f (fun h => h)
theorem Iter.monoX {P : Program} {gf N : Nat} {lb : Array Value} {X X' : Nat → Array Value → World → Prop} {T : Nat → Prop} {w : World} (h : Iter P gf lb N X T w) (hX : ∀ i, i < N → ∀ ys W, X i ys W → X' i ys W) : Iter P gf lb N X' T w :=
  fun l J Jx W hW hsz hJ hY h0 => h l J Jx W hW hsz hJ (fun i ys W1 hi hJ1 hx => hY i ys W1 hi hJ1 (hX i hi ys W1 hx)) h0
/-- What may be written while the iterator goes on: boxes that are no map's, and the loop's own block. -/
def TOk (w : World) (T : Nat → Prop) : Prop := ∀ k, T k → k = w.heap.size + 1 ∨ ∃ t cs, Blk w k t cs ∧ t ≠ 69
theorem TOk.box {w : World} {T : Nat → Prop} {B : Nat} {cs : Array Value} (h : TOk w T) (hB : Blk w B 69 cs) : ¬ T B := fun hT => by
  rcases h B hT with h | ⟨t, cs', h1, h2⟩
  · have := hB.lt
    omega
  · exact Blk.ne_ h1 hB h2 rfl
theorem TOk.map {w : World} {T : Nat → Prop} {b n : Nat} {L : List Ex} (h : TOk w T) (hm : MapZ w b n L) : ¬ T b := fun hT => by
  rcases h b hT with h | ⟨t, cs', h1, _⟩
  · have := hm.lt
    omega
  · exact MapZ.ne_ hm h1 rfl
theorem TOk.new {w : World} {T : Nat → Prop} (h : TOk w T) : ∀ k, w.heap.size + 2 ≤ k → ¬ T k := fun k hk hT => by
  rcases h k hT with h | ⟨t, cs', h1, _⟩
  · omega
  · have := h1.lt
    omega
/-- Zones' iterator in plain words: it goes over the zones in which something lies, rising. -/
theorem zones_all {w : World} {B : Nat} {xs : List Ex} (h : ZBox w B true xs) : ∃ S : List Int, S.Pairwise (· < ·) ∧ (∀ z, z ∈ S ↔ z ≠ 255 ∧ xs.any (inZ z) = true) ∧
    ∀ T : Nat → Prop, TOk w T → Iter Try.prog 37 #[.pointer (some ⟨B, 0, none⟩)] S.length (XZ xs S) T w := by
  unfold ZBox at h
  rw [if_pos rfl] at h
  obtain ⟨b, n, hB, hM, hn⟩ := h
  have hM' := hM
  obtain ⟨D, hown, _, hat, hhas⟩ := hM'
  obtain ⟨h1, h2⟩ := sorted_lt hown
  have h3' : ∀ z, Maps.has D (.int .i64 z) = true ↔ z ≠ 255 ∧ xs.any (inZ z) = true := fun z => by
    rw [show Maps.has D (.int .i64 z) = (xs.filter put).any (inZ z) from hhas z]
    by_cases hz : z = 255
    · subst hz
      rw [put_255]
      simp
    · rw [any_put hz]
      simp [hz]
  have h3 := fun z => (h2 z).trans (h3' z)
  refine ⟨_, h1, h3, fun T hT => ?_⟩
  refine Iter.monoX (zones_iter b n (xs.filter put) D B w T hB hown hat hn (hT.box hB) (hT.map hM) hT.new) ?_
  rintro i hi ys W ⟨z, hz, rfl⟩
  exact ⟨z, hz, by rw [cz_filter xs ((h3 z).1 (List.mem_of_getElem? hz)).1]⟩
theorem zones_no {w : World} {B : Nat} {xs : List Ex} (h : ZBox w B false xs) (X : Nat → Array Value → World → Prop) (T : Nat → Prop) :
    Iter Try.prog 37 #[.pointer (some ⟨B, 0, none⟩)] 0 X T w := by
  unfold ZBox at h
  rw [if_neg (by decide)] at h
  exact zones_none B w X T h
/-- Where something lies, it is a zone of the geometry's, and at least one sector. -/
theorem z_in {g : Ge} {xs : List Ex} (h : ∀ x ∈ xs, okX g x) {z : Int} (hz : z ≠ 255) (ha : xs.any (inZ z) = true) : (g.c ≤ z ∧ z < g.c + g.s) ∧ 0 < cz xs z := by
  have hp : ∀ L : List Ex, (∀ x ∈ L, okX g x) → 0 ≤ cz L z := fun L => by
    induction L with
    | nil => intro _; simp [cz]
    | cons y l ih =>
      intro hL
      have h1 := (cko0 (hL y (by simp)).1).2.1
      have h2 := ih (fun x hx => hL x (by simp [hx]))
      simp only [cz]
      split <;> omega
  induction xs with
  | nil => simp at ha
  | cons y l ih =>
    have h1 := h y (by simp)
    have h2 := (cko0 h1.1).2.1
    have h3 := hp l (fun x hx => h x (by simp [hx]))
    simp only [cz]
    by_cases e : y.z = z
    · rw [if_pos e]
      rcases h1.2.2 with h4 | h4
      · exact absurd (e ▸ h4.1) hz
      · rw [e] at h4
        exact ⟨h4.2.1, by omega⟩
    · rw [if_neg e]
      have h4 : l.any (inZ z) = true := by
        rw [List.any_cons] at ha
        have : inZ z y = false := by simpa [inZ] using e
        rw [this, Bool.false_or] at ha
        exact ha
      obtain ⟨h5, h6⟩ := ih (fun x hx => h x (by simp [hx])) h4
      exact ⟨h5, by omega⟩
/-- As many zones are gone over as there are zones in which something lies. -/
theorem all_len {g : Ge} {xs : List Ex} (hg : mayG g) (h : ∀ x ∈ xs, okX g x) (N : Nat) (hN : g.s = (N : Int)) {S : List Int} (hp : S.Pairwise (· < ·)) (hm : ∀ z, z ∈ S ↔ z ≠ 255 ∧ xs.any (inZ z) = true) :
    S.length = cnt (fun z => decide (0 < cz xs z)) g.c N := by
  have h3 := inG hg
  refine cnt_len _ _ _ _ hp fun z => ?_
  rw [hm]
  constructor
  · rintro ⟨h1, h2⟩
    obtain ⟨h4, h5⟩ := z_in h h1 h2
    exact ⟨by omega, by simpa using h5⟩
  · rintro ⟨h1, h2⟩
    refine ⟨by omega, ?_⟩
    cases ha : xs.any (inZ z) with
    | true => rfl
    | false =>
      rw [(cz_no ha).1] at h2
      simp at h2
/-- What 'last' holds ahead of the i-th round. -/
def lastv (S : List Int) : Nat → Int
  | 0 => -1
  | i + 1 => S[i]?.getD 0
theorem lastv_lt {S : List Int} (hp : S.Pairwise (· < ·)) (h0 : ∀ z ∈ S, 0 ≤ z) {i : Nat} {z : Int} (hz : S[i]? = some z) : lastv S i < z := by
  cases i with
  | zero =>
    have := h0 z (List.mem_of_getElem? hz)
    show (-1 : Int) < z
    omega
  | succ k =>
    obtain ⟨hk, rfl⟩ := List.getElem?_eq_some_iff.1 hz
    show S[k]?.getD 0 < _
    rw [List.getElem?_eq_getElem (by omega)]
    exact List.pairwise_iff_getElem.1 hp k (k + 1) (by omega) hk (by omega)
theorem lastv_succ {S : List Int} {i : Nat} {z : Int} (hz : S[i]? = some z) : lastv S (i + 1) = z := by
  show S[i]?.getD 0 = z
  rw [hz]; rfl
/-- The boxes of what is counted, and of the zone ahead. -/
def TX (w : World) (NB : Nat) (n last : Int) : Prop := Blk w NB 3 #[.int .i64 n] ∧ Blk w (NB + 1) 3 #[.int .i64 last]
theorem TX.fr {S : Nat → Prop} {w w' : World} {NB : Nat} {n last : Int} (h : TX w NB n last) (f : Fr S w w') (h1 : ¬ S NB) (h2 : ¬ S (NB + 1)) : TX w' NB n last := ⟨h.1.fr f h1, h.2.fr f h2⟩
theorem TX.new (w : World) (n last : Int) : TX ((w.alloc (.cells #[.int .i64 n] 3)).alloc (.cells #[.int .i64 last] 3)) w.heap.size n last := by
  refine ⟨(Blk.new w _ _).alloc _, ?_⟩
  have := Blk.new (w.alloc (.cells #[.int .i64 n] 3)) 3 #[.int .i64 last]
  rwa [World.size_alloc] at this
theorem TX.cells {w : World} {NB : Nat} {n last : Int} (h : TX w NB n last) : (w.cell? ⟨NB, 0, none⟩ = some (.int .i64 n) ∧ w.frozen? ⟨NB, 0, none⟩ = false) ∧ w.cell? ⟨NB + 1, 0, none⟩ = some (.int .i64 last) ∧ w.frozen? ⟨NB + 1, 0, none⟩ = false :=
  ⟨⟨h.1.cell 0, h.1.frozen 0⟩, h.2.cell 0, h.2.frozen 0⟩
theorem TX.put {w : World} {NB : Nat} {n last : Int} (h : TX w NB n last) (m z : Int) : TX ((w.setCell ⟨NB + 1, 0, none⟩ (.int .i64 z)).setCell ⟨NB, 0, none⟩ (.int .i64 m)) NB m z := by
  refine ⟨?_, ?_⟩
  · have := (h.1.far (p := ⟨NB + 1, 0, none⟩) (by simp only []; omega) (.int .i64 z)).set_ 0 (.int .i64 m)
    simpa using this
  · have := (h.2.set_ 0 (.int .i64 z)).far (p := ⟨NB, 0, none⟩) (by simp only []; omega) (.int .i64 m)
    simpa using this
theorem fr_put (w : World) (NB : Nat) (m z : Value) : Fr (fun k => k = NB ∨ k = NB + 1) w ((w.setCell ⟨NB + 1, 0, none⟩ z).setCell ⟨NB, 0, none⟩ m) :=
  ((Fr.refl _ w).setCell (p := ⟨NB + 1, 0, none⟩) (fun _ => .inr rfl) _).setCell (p := ⟨NB, 0, none⟩) (fun _ => .inl rfl) _
theorem BX.yes {w : World} {G : Nat} {gc gs gn gl gk st : Int} {A : Option Addr} {l c : Nat} {r : Bool} (h : BX w G gc gs gn gl gk A l c st r) : BX (w.setCell ⟨G + 3, 0, none⟩ (.bool true)) G gc gs gn gl gk A l c st true :=
  have f := Fr.set1 w (G + 3) 0 (.bool true)
  ⟨Blk.fr h.p f (by omega), h.a.fr f (by omega), h.s.fr f (by omega), by simpa using h.r.set_ 0 (.bool true)⟩
/-- The loop over zones: what its boxes hold ahead of the i-th round. -/
structure ZI (S : List Int) (w : World) (G NB : Nat) (gc gs gn gl gk : Int) (A : Option Addr) (l c : Nat) (st : Int) (i : Nat) (W : World) : Prop where
  b : BX W G gc gs gn gl gk A l c st false
  t : TX W NB i (lastv S i)
  f : Fr No w W
theorem cnt_fr (A : Option Addr) (l c : Nat) (xs : List Ex) (z : Int) (w : World) (hl : l ≤ 1000) (hx : RdX w A l xs) (hm : ∀ x ∈ xs, 0 ≤ x.m ∧ x.m ≤ 1099511627776) :
    Calls Try.prog 13 #[.slice A l c, .int .i64 z] w fun e w' => e = .returned (.int .i64 (cz xs z)) ∧ Fr No w w' := by
  refine (rcnt_ok A l c xs z w hl hx hm).mono ?_
  rintro e w' ⟨h, rfl⟩
  exact ⟨h, Fr.refl _ _⟩
theorem cnt_yes {f : Int → Bool} {c : Int} {j : Nat} (h : f (c + (j : Int)) = true) : cnt f c (j + 1) = cnt f c j + 1 := by
  show cnt f c j + _ = _
  rw [if_pos h]
theorem cnt_no {f : Int → Bool} {c : Int} {j : Nat} (h : f (c + (j : Int)) = false) : cnt f c (j + 1) = cnt f c j := by
  show cnt f c j + _ = _
  rw [h]; rfl
end Go.Proofs.Ytoboialfaifbgaa.VaZq
/- The law ValidZones. Conditions: the extents read as a list of structs of whole numbers of 64 bits; the geometry's Seq has 64 bits. -/
namespace Go.Proofs.Ytoboialfaifbgaa.VaZr
open Go.RowKit MSep MSepC MSpM MGeM GeA GeC GeE PgA PgB RgF PlM PlA VaA VaB VaC VaD VaE VaF VaG VaH VaJ VaK VaM VaN VaP VaQ VaT VaS VaU VaZb VaZc VaZp VaZq

attribute [local go_sem] Oper.semAt_some

set_option maxRecDepth 100000 in
set_option maxHeartbeats 2000000 in
theorem zl_far (gc gs gn gl gk : Int) (A : Option Addr) (l c : Nat) (xs : List Ex) (st : Int) (w : World) (_hs : r64 gs) (_hl0 : l ≤ maxLen) (hx : RdX w A l xs) (_hw : ∀ x ∈ xs, exW x) (hf : ¬ (l ≤ 60 ∧ gn ≤ 64 ∧ gs ≤ 20)) :
    Calls Try.prog 3 #[gv gc gs gn gl gk, .slice A l c, .int .i64 st] w fun e w' => e = .returned (.bool true) ∧ Fr No w w' := by
  have HSM := hid (show false = decide (l ≤ 60 ∧ gn ≤ 64 ∧ gs ≤ 20) from (decide_eq_false hf).symm)
  obtain ⟨G, hG⟩ : ∃ G, w.heap.size = G := ⟨_, rfl⟩
  obtain ⟨w1, hw1⟩ : ∃ w1, (((w.alloc (bg gc gs gn gl gk)).alloc (.cells #[.slice A l c] 24)).alloc (.cells #[.int .i64 st] 3)).alloc (.cells #[.bool false] 4) = w1 := ⟨_, rfl⟩
  have HF := hid (show Fr No w w1 by rw [← hw1]; exact fr4 _ _ _ _ _)
  have HB := hid (show BX w1 G gc gs gn gl gk A l c st false by rw [← hw1, ← hG]; exact BX.new _ _ _ _ _ _ _ _ _ _ _)
  have HX := hid hx
  have HW1 := hid hw1
  have HGW := hid hG
  clear _hs _hl0 hx _hw hf
  refine (callsIn_wide (n := 3)).1 ?_
  refine callsIn_of_wp_marks Try.func3 rfl trivial ?_ rfl
  simp only [Try.ntmps3, List.size_toArray, List.length_cons, List.length_nil, Nat.reduceAdd, Nat.reduceSub, Array.replicate_succ, Array.replicate_zero, List.push_toArray, List.append_toArray, List.nil_append, List.cons_append]
  gi_upto_region 1 with fail
  try rw [show (((w.alloc (Obj.cells #[.int .i64 gc, .int .i64 gs, .int .i64 gn, .int .i64 gl, .int .i64 gk] 23)).alloc (Obj.cells #[.slice A l c] 24)).alloc (Obj.cells #[.int .i64 st] 3)).alloc (Obj.cells #[.bool false] 4) = w1 from HW1.out]
  try simp only [World.size_alloc]
  try rw [hG]
  clear hG hw1
  obtain ⟨⟨p0, p1, p2, p3, p4⟩, p5, p6, p7, p8⟩ := HB.out.cells
  gi_wp2_with (first | (refine ⟨trivial, ?_⟩; gi_at_call 9; refine (callsIn_wide.2 (small_ok gc gs gn gl gk A l c _ false HSM.out)).mono ?_; rintro e wn ⟨rfl, f⟩; (try replace HI := hid (HI.out.trans f)); (try replace HT := hid (HT.out.fr f (fun h => h) (fun h => h))); replace HF := hid (HF.out.trans f); replace HB := hid (HB.out.frN f); clear f; clear p0 p1 p2 p3 p4 p5 p6 p7 p8; obtain ⟨⟨p0, p1, p2, p3, p4⟩, p5, p6, p7, p8⟩ := HB.out.cells) | (refine ⟨trivial, ?_⟩; gi_at_call 10; refine (callsIn_wide.2 (lives_ok _)).mono ?_; rintro e wn ⟨rfl, f⟩; (try replace HI := hid (HI.out.trans f)); (try replace HT := hid (HT.out.fr f (fun h => h) (fun h => h))); replace HF := hid (HF.out.trans f); replace HB := hid (HB.out.frN f); clear f; clear p0 p1 p2 p3 p4 p5 p6 p7 p8; obtain ⟨⟨p0, p1, p2, p3, p4⟩, p5, p6, p7, p8⟩ := HB.out.cells))
  exact ⟨.bool true, res_box rfl _ _ (G + 3) true rfl (HB.out.yes).r, rfl, HF.out.step (Fr.set1 _ (G + 3) 0 _) (fun k hk e => by have := HGW.out; omega)⟩
set_option maxRecDepth 100000 in
set_option maxHeartbeats 4000000 in
theorem zl_n (gc gs gn gl gk : Int) (A : Option Addr) (l c : Nat) (xs : List Ex) (st : Int) (w : World) (hs : r64 gs) (hl0 : l ≤ maxLen) (hx : RdX w A l xs) (hw : ∀ x ∈ xs, exW x) (hf : l ≤ 60 ∧ gn ≤ 64 ∧ gs ≤ 20) (hv : vM ⟨gc, gs, gn, gl, gk⟩ xs = false) :
    Calls Try.prog 3 #[gv gc gs gn gl gk, .slice A l c, .int .i64 st] w fun e w' => e = .returned (.bool true) ∧ Fr No w w' := by
  have HSM := hid (show true = decide (l ≤ 60 ∧ gn ≤ 64 ∧ gs ≤ 20) from (decide_eq_true hf).symm)
  have hl : l ≤ 1000 := by omega
  have HMY := hid (fun W (h : RdX W A l xs) => rmay_ok gc gs gn gl gk A l c xs W hs hl0 h hw)
  have HZN := hid (fun W (h : RdX W A l xs) => zones_ok gc gs gn gl gk A l c xs W hs hl h hw)
  rw [hv] at HMY HZN
  have hnf : ∀ (w : World) (B : Nat), (binOp .eql 28 (.func (.func 37) #[] #[.pointer (some ⟨B, 0, none⟩)]) .nilFunc).run Try.prog w = .ok (.bool false) w := fun w B => by kernel_rfl
  obtain ⟨G, hG⟩ : ∃ G, w.heap.size = G := ⟨_, rfl⟩
  obtain ⟨w1, hw1⟩ : ∃ w1, (((w.alloc (bg gc gs gn gl gk)).alloc (.cells #[.slice A l c] 24)).alloc (.cells #[.int .i64 st] 3)).alloc (.cells #[.bool false] 4) = w1 := ⟨_, rfl⟩
  have HF := hid (show Fr No w w1 by rw [← hw1]; exact fr4 _ _ _ _ _)
  have HB := hid (show BX w1 G gc gs gn gl gk A l c st false by rw [← hw1, ← hG]; exact BX.new _ _ _ _ _ _ _ _ _ _ _)
  have HX := hid hx
  have HW1 := hid hw1
  have HGW := hid hG
  clear hs hl0 hx hw hf hl hv
  refine (callsIn_wide (n := 3)).1 ?_
  refine callsIn_of_wp_marks Try.func3 rfl trivial ?_ rfl
  simp only [Try.ntmps3, List.size_toArray, List.length_cons, List.length_nil, Nat.reduceAdd, Nat.reduceSub, Array.replicate_succ, Array.replicate_zero, List.push_toArray, List.append_toArray, List.nil_append, List.cons_append]
  gi_upto_region 1 with fail
  try rw [show (((w.alloc (Obj.cells #[.int .i64 gc, .int .i64 gs, .int .i64 gn, .int .i64 gl, .int .i64 gk] 23)).alloc (Obj.cells #[.slice A l c] 24)).alloc (Obj.cells #[.int .i64 st] 3)).alloc (Obj.cells #[.bool false] 4) = w1 from HW1.out]
  try simp only [World.size_alloc]
  try rw [hG]
  clear hG hw1
  obtain ⟨⟨p0, p1, p2, p3, p4⟩, p5, p6, p7, p8⟩ := HB.out.cells
  gi_upto_region 7 with (first | (refine ⟨trivial, ?_⟩; gi_at_call 9; refine (callsIn_wide.2 (small_ok gc gs gn gl gk A l c _ true HSM.out)).mono ?_; rintro e wn ⟨rfl, f⟩; (try replace HI := hid (HI.out.trans f)); (try replace HT := hid (HT.out.fr f (fun h => h) (fun h => h))); replace HF := hid (HF.out.trans f); replace HB := hid (HB.out.frN f); clear f; clear p0 p1 p2 p3 p4 p5 p6 p7 p8; obtain ⟨⟨p0, p1, p2, p3, p4⟩, p5, p6, p7, p8⟩ := HB.out.cells) | (refine ⟨trivial, ?_⟩; gi_at_call 11; refine (callsIn_wide.2 (HZN.out _ (PgB.RdX.fr HX.out HF.out))).mono ?_; rintro e wn ⟨B0, rfl, hz, f⟩; (try replace HI := hid (HI.out.trans f)); (try replace HT := hid (HT.out.fr f (fun h => h) (fun h => h))); replace HF := hid (HF.out.trans f); replace HB := hid (HB.out.frN f); clear f; clear p0 p1 p2 p3 p4 p5 p6 p7 p8; obtain ⟨⟨p0, p1, p2, p3, p4⟩, p5, p6, p7, p8⟩ := HB.out.cells; have HZ0 := hid hz; clear hz) | (refine ⟨trivial, ?_⟩; gi_at_call 10; refine (callsIn_wide.2 (lives_ok _)).mono ?_; rintro e wn ⟨rfl, f⟩; replace HZ0 := hid (ZBox.fr HZ0.out f); (try replace HI := hid (HI.out.trans f)); (try replace HT := hid (HT.out.fr f (fun h => h) (fun h => h))); replace HF := hid (HF.out.trans f); replace HB := hid (HB.out.frN f); clear f; clear p0 p1 p2 p3 p4 p5 p6 p7 p8; obtain ⟨⟨p0, p1, p2, p3, p4⟩, p5, p6, p7, p8⟩ := HB.out.cells))
  obtain ⟨NB, hNB⟩ : ∃ NB, wn.heap.size = NB := ⟨_, rfl⟩
  obtain ⟨w6, hw6⟩ : ∃ w6, (wn.alloc (.cells #[.int .i64 0] 3)).alloc (.cells #[.int .i64 (-1)] 3) = w6 := ⟨_, rfl⟩
  have f : Fr No wn w6 := by rw [← hw6]; exact (fr1 _ _).alloc _
  have HT := hid (show TX w6 NB 0 (-1) by rw [← hw6, ← hNB]; exact TX.new _ _ _)
  have HSZ := hid (show G + 3 < NB ∧ NB + 2 ≤ w6.heap.size from ⟨by rw [← hNB]; exact HB.out.r.lt, by rw [← hw6, ← hNB]; simp⟩)
  try rw [show (wn.alloc (Obj.cells #[.int .i64 0] 3)).alloc (Obj.cells #[.int .i64 (-1)] 3) = w6 from hw6]
  try simp only [World.size_alloc]
  try rw [hNB]
  replace HZ0 := hid (ZBox.fr HZ0.out f)
  replace HF := hid (HF.out.trans f); replace HB := hid (HB.out.frN f); clear f; clear p0 p1 p2 p3 p4 p5 p6 p7 p8
  obtain ⟨⟨p0, p1, p2, p3, p4⟩, p5, p6, p7, p8⟩ := HB.out.cells
  clear hNB hw6
  gi_wp2
  gi_loopw [10, 11] (fun a z wr => a = .int .i64 0 ∧ z = .int .i64 gc ∧ wr = w6) (fun _ _ _ => (0 : Nat))
  case atStart => exact ⟨rfl, rfl, rfl⟩
  case round =>
    obtain ⟨rfl, rfl, hwr⟩ := hrel
    subst hwr
    have HI := hid (Fr.refl No wr)
    gi_wp2_with (first | (refine ⟨trivial, ?_⟩; gi_at_call 12; refine (callsIn_wide.2 (HMY.out _ (PgB.RdX.fr HX.out HF.out))).mono ?_; rintro e wn ⟨rfl, f⟩; replace HZ0 := hid (ZBox.fr HZ0.out f); (try replace HI := hid (HI.out.trans f)); (try replace HT := hid (HT.out.fr f (fun h => h) (fun h => h))); replace HF := hid (HF.out.trans f); replace HB := hid (HB.out.frN f); clear f; clear p0 p1 p2 p3 p4 p5 p6 p7 p8; obtain ⟨⟨p0, p1, p2, p3, p4⟩, p5, p6, p7, p8⟩ := HB.out.cells))
    obtain ⟨wz, hwz⟩ : ∃ wz, wn = wz := ⟨_, rfl⟩
    try rw [hwz] at HF HB HT HZ0 HI
    try rw [hwz] at HIT
    try rw [hwz]
    clear hwz p0 p1 p2 p3 p4 p5 p6 p7 p8
    have hsz : G + 3 < NB ∧ NB + 2 ≤ wz.heap.size := ⟨HSZ.out.1, Nat.le_trans HSZ.out.2 HI.out.size⟩
    have HTK := hid (show TOk wz (fun k => (k = G + 3 ∨ k = NB ∨ k = NB + 1) ∨ k = wz.heap.size + 1) from fun k hk => by
      rcases hk with (rfl | rfl | rfl) | hk
      · exact .inr ⟨_, _, HB.out.r, by decide⟩
      · exact .inr ⟨_, _, HT.out.1, by decide⟩
      · exact .inr ⟨_, _, HT.out.2, by decide⟩
      · exact .inl hk)
    refine range_fn (gf := 37) rfl (enters_of Try.func37 (by kernel_rfl) rfl) (N := 0) (X := XZ xs []) (T := fun k => k = G + 3 ∨ k = NB ∨ k = NB + 1) (T' := fun k => (k = G + 3 ∨ k = NB ∨ k = NB + 1) ∨ k = wz.heap.size + 1) (fun k h => .inl h) (.inr rfl)
      (zones_no HZ0.out _ _) (fun k h => by omega)
      (fun i W => ZI [] w G NB gc gs gn gl gk A l c st i W) (fun W => BX W G gc gs gn gl gk A l c st true ∧ Fr No w W)
      (fun i W W' h f => ⟨h.b.fr f ⟨by omega, by omega, by omega, by omega⟩, h.t.fr f (by omega) (by omega), h.f.step f (fun k hk e => by have := HGW.out; omega)⟩) (fun W W' h f => ⟨h.1.fr f ⟨by omega, by omega, by omega, by omega⟩, h.2.step f (fun k hk e => by have := HGW.out; omega)⟩) ?hXs
      ⟨HB.out, HT.out, HF.out⟩ ?round ?done ?stop
    case hXs =>
      rintro i vs W ⟨z, hz, rfl⟩
      rfl
    case round =>
      rintro lk i vs W hi
      omega
    case done =>
      intro W hG hK
      obtain ⟨hb, ht, hf⟩ := hG
      obtain ⟨⟨p0, p1, p2, p3, p4⟩, p5, p6, p7, p8⟩ := hb.cells
      obtain ⟨⟨t0, t1⟩, t2, t3⟩ := ht.cells
      clear p0 p1 p2 p3 p4 p5 p6 t1 t2 t3
      gi_wp2
      obtain ⟨W5, hW5⟩ : ∃ W5, W.setCell ⟨G + 3, 0, none⟩ (.bool true) = W5 := ⟨_, rfl⟩
      have f5 : Fr (fun k => k = G + 3) W W5 := by rw [← hW5]; exact Fr.set1 _ _ _ _
      have b5 : Blk W5 (G + 3) 4 #[.bool true] := by rw [← hW5]; simpa using hb.r.set_ 0 (.bool true)
      have hK5 : W5.heap[wz.heap.size]? = some (.deferred (some [])) := (f5.block _ (Array.getElem?_eq_some_iff.1 hK).1 (by omega)).trans hK
      try rw [hW5]
      have f6 : Fr (fun k => k = wz.heap.size) W5 (W5.putObj wz.heap.size (.deferred none)) := Fr.putObj (S := fun k => k = wz.heap.size) (Fr.refl _ _) (fun _ => rfl) _
      refine ⟨by simp, .inl ⟨_, _, rfl, run_takeDeferred hK5, .bool true, res_box rfl _ _ (G + 3) true rfl (b5.fr f6 (by omega)), rfl, (hf.step f5 (fun k hk e => by have := HGW.out; omega)).step f6 (fun k hk e => by have := HI.out.size; have := HSZ.out; have := HGW.out; omega)⟩⟩
    case stop =>
      intro W hG hK
      obtain ⟨hb, hf⟩ := hG
      gi_wp2
      have f6 : Fr (fun k => k = wz.heap.size) W (W.putObj wz.heap.size (.deferred none)) := Fr.putObj (S := fun k => k = wz.heap.size) (Fr.refl _ _) (fun _ => rfl) _
      refine ⟨by simp, .inl ⟨_, _, rfl, run_takeDeferred hK, .bool true, res_box rfl _ _ (G + 3) true rfl (hb.r.fr f6 (by omega)), rfl, hf.step f6 (fun k hk e => by have := HI.out.size; have := HSZ.out; have := HGW.out; omega)⟩⟩
set_option maxRecDepth 100000 in
set_option maxHeartbeats 4000000 in
theorem zl_y (gc gs gn gl gk : Int) (A : Option Addr) (l c : Nat) (xs : List Ex) (st : Int) (w : World) (hs : r64 gs) (hl0 : l ≤ maxLen) (hx : RdX w A l xs) (hw : ∀ x ∈ xs, exW x) (hf : l ≤ 60 ∧ gn ≤ 64 ∧ gs ≤ 20) (hv : vM ⟨gc, gs, gn, gl, gk⟩ xs = true) :
    Calls Try.prog 3 #[gv gc gs gn gl gk, .slice A l c, .int .i64 st] w fun e w' => e = .returned (.bool true) ∧ Fr No w w' := by
  have HSM := hid (show true = decide (l ≤ 60 ∧ gn ≤ 64 ∧ gs ≤ 20) from (decide_eq_true hf).symm)
  have hl : l ≤ 1000 := by omega
  have hmm : mayG ⟨gc, gs, gn, gl, gk⟩ ∧ mayL ⟨gc, gs, gn, gl, gk⟩ 0 xs = true := by
    have hv' := hv
    unfold vM at hv'
    rw [Bool.and_eq_true, decide_eq_true_eq] at hv'
    exact hv'
  have hok := mayL_all hmm.2
  have hig := inG hmm.1
  dsimp only at hig
  obtain ⟨N, rfl⟩ : ∃ N : Nat, gs = (N : Int) := ⟨gs.toNat, by omega⟩
  have HMG := hid (show (2 ≤ gc ∧ gc ≤ 16) ∧ N ≤ 20 from ⟨hig.1, by omega⟩)
  have HZI := hid (fun z (h1 : z ≠ 255) h2 => z_in (g := ⟨gc, (N : Int), gn, gl, gk⟩) (xs := xs) hok h1 h2)
  dsimp only at HZI
  have HAL := hid (fun S h1 h2 => all_len (g := ⟨gc, (N : Int), gn, gl, gk⟩) (xs := xs) hmm.1 hok N rfl (S := S) h1 h2)
  dsimp only at HAL
  have HMY := hid (fun W (h : RdX W A l xs) => rmay_ok gc (N : Int) gn gl gk A l c xs W hs hl0 h hw)
  have HZN := hid (fun W (h : RdX W A l xs) => zones_ok gc (N : Int) gn gl gk A l c xs W hs hl h hw)
  have HCN := hid (fun W z (h : RdX W A l xs) => cnt_fr A l c xs z W hl h (fun x hx => (okX_in (hok x hx)).1))
  rw [hv] at HMY HZN
  have hnf : ∀ (w : World) (B : Nat), (binOp .eql 28 (.func (.func 37) #[] #[.pointer (some ⟨B, 0, none⟩)]) .nilFunc).run Try.prog w = .ok (.bool false) w := fun w B => by kernel_rfl
  obtain ⟨G, hG⟩ : ∃ G, w.heap.size = G := ⟨_, rfl⟩
  obtain ⟨w1, hw1⟩ : ∃ w1, (((w.alloc (bg gc (N : Int) gn gl gk)).alloc (.cells #[.slice A l c] 24)).alloc (.cells #[.int .i64 st] 3)).alloc (.cells #[.bool false] 4) = w1 := ⟨_, rfl⟩
  have HF := hid (show Fr No w w1 by rw [← hw1]; exact fr4 _ _ _ _ _)
  have HB := hid (show BX w1 G gc (N : Int) gn gl gk A l c st false by rw [← hw1, ← hG]; exact BX.new _ _ _ _ _ _ _ _ _ _ _)
  have HX := hid hx
  have HW1 := hid hw1
  have HGW := hid hG
  clear hs hl0 hx hw hf hl hv hmm hok hig
  refine (callsIn_wide (n := 3)).1 ?_
  refine callsIn_of_wp_marks Try.func3 rfl trivial ?_ rfl
  simp only [Try.ntmps3, List.size_toArray, List.length_cons, List.length_nil, Nat.reduceAdd, Nat.reduceSub, Array.replicate_succ, Array.replicate_zero, List.push_toArray, List.append_toArray, List.nil_append, List.cons_append]
  gi_upto_region 1 with fail
  try rw [show (((w.alloc (Obj.cells #[.int .i64 gc, .int .i64 (N : Int), .int .i64 gn, .int .i64 gl, .int .i64 gk] 23)).alloc (Obj.cells #[.slice A l c] 24)).alloc (Obj.cells #[.int .i64 st] 3)).alloc (Obj.cells #[.bool false] 4) = w1 from HW1.out]
  try simp only [World.size_alloc]
  try rw [hG]
  clear hG hw1
  obtain ⟨⟨p0, p1, p2, p3, p4⟩, p5, p6, p7, p8⟩ := HB.out.cells
  gi_upto_region 7 with (first | (refine ⟨trivial, ?_⟩; gi_at_call 9; refine (callsIn_wide.2 (small_ok gc (N : Int) gn gl gk A l c _ true HSM.out)).mono ?_; rintro e wn ⟨rfl, f⟩; (try replace HI := hid (HI.out.trans f)); (try replace HT := hid (HT.out.fr f (fun h => h) (fun h => h))); replace HF := hid (HF.out.trans f); replace HB := hid (HB.out.frN f); clear f; clear p0 p1 p2 p3 p4 p5 p6 p7 p8; obtain ⟨⟨p0, p1, p2, p3, p4⟩, p5, p6, p7, p8⟩ := HB.out.cells) | (refine ⟨trivial, ?_⟩; gi_at_call 11; refine (callsIn_wide.2 (HZN.out _ (PgB.RdX.fr HX.out HF.out))).mono ?_; rintro e wn ⟨B0, rfl, hz, f⟩; (try replace HI := hid (HI.out.trans f)); (try replace HT := hid (HT.out.fr f (fun h => h) (fun h => h))); replace HF := hid (HF.out.trans f); replace HB := hid (HB.out.frN f); clear f; clear p0 p1 p2 p3 p4 p5 p6 p7 p8; obtain ⟨⟨p0, p1, p2, p3, p4⟩, p5, p6, p7, p8⟩ := HB.out.cells; have HZ0 := hid hz; clear hz) | (refine ⟨trivial, ?_⟩; gi_at_call 10; refine (callsIn_wide.2 (lives_ok _)).mono ?_; rintro e wn ⟨rfl, f⟩; replace HZ0 := hid (ZBox.fr HZ0.out f); (try replace HI := hid (HI.out.trans f)); (try replace HT := hid (HT.out.fr f (fun h => h) (fun h => h))); replace HF := hid (HF.out.trans f); replace HB := hid (HB.out.frN f); clear f; clear p0 p1 p2 p3 p4 p5 p6 p7 p8; obtain ⟨⟨p0, p1, p2, p3, p4⟩, p5, p6, p7, p8⟩ := HB.out.cells))
  obtain ⟨NB, hNB⟩ : ∃ NB, wn.heap.size = NB := ⟨_, rfl⟩
  obtain ⟨w6, hw6⟩ : ∃ w6, (wn.alloc (.cells #[.int .i64 0] 3)).alloc (.cells #[.int .i64 (-1)] 3) = w6 := ⟨_, rfl⟩
  have f : Fr No wn w6 := by rw [← hw6]; exact (fr1 _ _).alloc _
  have HT := hid (show TX w6 NB 0 (-1) by rw [← hw6, ← hNB]; exact TX.new _ _ _)
  have HSZ := hid (show G + 3 < NB ∧ NB + 2 ≤ w6.heap.size from ⟨by rw [← hNB]; exact HB.out.r.lt, by rw [← hw6, ← hNB]; simp⟩)
  try rw [show (wn.alloc (Obj.cells #[.int .i64 0] 3)).alloc (Obj.cells #[.int .i64 (-1)] 3) = w6 from hw6]
  try simp only [World.size_alloc]
  try rw [hNB]
  replace HZ0 := hid (ZBox.fr HZ0.out f)
  replace HF := hid (HF.out.trans f); replace HB := hid (HB.out.frN f); clear f; clear p0 p1 p2 p3 p4 p5 p6 p7 p8
  obtain ⟨⟨p0, p1, p2, p3, p4⟩, p5, p6, p7, p8⟩ := HB.out.cells
  clear hNB hw6
  obtain ⟨cf, hcf⟩ : ∃ cf : Int → Bool, (fun z => decide (0 < cz xs z)) = cf := ⟨_, rfl⟩
  have HCF := hid (fun z => (congrFun hcf z).symm)
  rw [hcf] at HAL
  clear hcf
  have HBO := hid HB.out
  have HFO := hid HF.out
  have HTO := hid HT.out
  have HZO := hid HZ0.out
  gi_wp2
  gi_loopw [10, 11] (fun a z wr => ∃ j : Nat, a = .int .i64 (cnt cf gc j : Nat) ∧ z = .int .i64 (gc + (j : Int)) ∧ j ≤ N ∧ Fr No w6 wr) (fun _ z _ => (gc + (N : Int) - intOf z).toNat)
  case atStart => exact ⟨0, rfl, by simp, Nat.zero_le _, Fr.refl _ _⟩
  case round =>
    obtain ⟨j, rfl, rfl, hj, hfi⟩ := hrel
    have HI := hid hfi
    have HB := hid (HBO.out.frN hfi)
    have HF := hid (HFO.out.trans hfi)
    have HT := hid (HTO.out.fr hfi (fun h => h) (fun h => h))
    have HZ0 := hid (ZBox.fr HZO.out hfi)
    clear hfi p0 p1 p2 p3 p4 p5 p6 p7 p8
    obtain ⟨⟨p0, p1, p2, p3, p4⟩, p5, p6, p7, p8⟩ := HB.out.cells
    have hw1 : wrap64 (gc + (N : Int)) = gc + (N : Int) := SpA.w64 _ (by have := HMG.out; omega)
    have hw1' : IntKind.i64.wrap (gc + (N : Int)) = gc + (N : Int) := Go.IntWalk.i64_in _ (by have := HMG.out; omega)
    by_cases hjN : j < N
    case neg =>
      obtain rfl : N = j := by omega
      gi_wp2_with (first | (refine ⟨trivial, ?_⟩; gi_at_call 12; refine (callsIn_wide.2 (HMY.out _ (PgB.RdX.fr HX.out HF.out))).mono ?_; rintro e wn ⟨rfl, f⟩; replace HZ0 := hid (ZBox.fr HZ0.out f); (try replace HI := hid (HI.out.trans f)); (try replace HT := hid (HT.out.fr f (fun h => h) (fun h => h))); replace HF := hid (HF.out.trans f); replace HB := hid (HB.out.frN f); clear f; clear p0 p1 p2 p3 p4 p5 p6 p7 p8; obtain ⟨⟨p0, p1, p2, p3, p4⟩, p5, p6, p7, p8⟩ := HB.out.cells))
      obtain ⟨S, hsp, hsm, hit⟩ := zones_all HZ0.out
      have hsl := HAL.out S hsp hsm
      have HSP := hid hsp
      have HSM2 := hid hsm
      have HIT := hid hit
      have HSL := hid (show S.length ≤ 1000 by rw [hsl]; have := cnt_le cf gc N; have := HMG.out; omega)
      rw [← hsl]
      clear hsp hsm hit hsl
      obtain ⟨wz, hwz⟩ : ∃ wz, wn = wz := ⟨_, rfl⟩
      try rw [hwz] at HF HB HT HZ0 HI
      try rw [hwz] at HIT
      try rw [hwz]
      clear hwz p0 p1 p2 p3 p4 p5 p6 p7 p8
      have hsz : G + 3 < NB ∧ NB + 2 ≤ wz.heap.size := ⟨HSZ.out.1, Nat.le_trans HSZ.out.2 HI.out.size⟩
      have HTK := hid (show TOk wz (fun k => (k = G + 3 ∨ k = NB ∨ k = NB + 1) ∨ k = wz.heap.size + 1) from fun k hk => by
        rcases hk with (rfl | rfl | rfl) | hk
        · exact .inr ⟨_, _, HB.out.r, by decide⟩
        · exact .inr ⟨_, _, HT.out.1, by decide⟩
        · exact .inr ⟨_, _, HT.out.2, by decide⟩
        · exact .inl hk)
      refine range_fn (gf := 37) rfl (enters_of Try.func37 (by kernel_rfl) rfl) (N := S.length) (X := XZ xs S) (T := fun k => k = G + 3 ∨ k = NB ∨ k = NB + 1) (T' := fun k => (k = G + 3 ∨ k = NB ∨ k = NB + 1) ∨ k = wz.heap.size + 1) (fun k h => .inl h) (.inr rfl)
        (HIT.out _ HTK.out) (fun k h => by omega)
        (fun i W => ZI S w G NB gc (N : Int) gn gl gk A l c st i W) (fun W => BX W G gc (N : Int) gn gl gk A l c st true ∧ Fr No w W)
        (fun i W W' h f => ⟨h.b.fr f ⟨by omega, by omega, by omega, by omega⟩, h.t.fr f (by omega) (by omega), h.f.step f (fun k hk e => by have := HGW.out; omega)⟩) (fun W W' h f => ⟨h.1.fr f ⟨by omega, by omega, by omega, by omega⟩, h.2.step f (fun k hk e => by have := HGW.out; omega)⟩) ?hXs
        ⟨HB.out, HT.out, HF.out⟩ ?round ?done ?stop
      case hXs =>
        rintro i vs W ⟨z, hz, rfl⟩
        rfl
      case round =>
        rintro lk i vs W hi hW hG ⟨z, hz, rfl⟩
        gi_wp2
        refine ⟨Fr.refl _ _, fun W3 f3 => ?_⟩
        have hG3 : ZI S w G NB gc (N : Int) gn gl gk A l c st i W3 := ⟨hG.b.fr f3 ⟨by omega, by omega, by omega, by omega⟩, hG.t.fr f3 (by omega) (by omega), hG.f.step f3 (fun k hk e => by have := HGW.out; omega)⟩
        obtain ⟨h1, h2⟩ := (HSM2.out z).1 (List.mem_of_getElem? hz)
        obtain ⟨⟨h3, h4⟩, h5⟩ := HZI.out z h1 h2
        have h6 := lastv_lt HSP.out (fun y hy => by have := HZI.out y ((HSM2.out y).1 hy).1 ((HSM2.out y).1 hy).2; have := HMG.out; omega) hz
        have h7 := lastv_succ hz
        have hil : i < 1000 := Nat.lt_of_lt_of_le hi HSL.out
        have HL1 := hid h7
        obtain ⟨C, hC⟩ : ∃ C, cz xs z = C := ⟨_, rfl⟩
        obtain ⟨LV, hLV⟩ : ∃ LV, lastv S i = LV := ⟨_, rfl⟩
        rw [hC] at h5
        try rw [hC]
        have HC := hid hC
        have HB := hid hG3.b
        have HF := hid hG3.f
        have HT := hid (show TX W3 NB i LV by rw [← hLV]; exact hG3.t)
        have HI := hid (Fr.refl No W3)
        rw [hLV] at h6
        have e1 : decide (z ≤ LV) = false := decide_eq_false (by omega)
        have e2 : decide (C < 1) = false := decide_eq_false (by omega)
        have e3 : decide (gc + (N : Int) ≤ z) = false := decide_eq_false (by omega)
        have hw1 : wrap64 (gc + (N : Int)) = gc + (N : Int) := SpA.w64 _ (by have := HMG.out; omega)
        have hw1' : IntKind.i64.wrap (gc + (N : Int)) = gc + (N : Int) := Go.IntWalk.i64_in _ (by have := HMG.out; omega)
        have hw2 : wrap64 ((i : Int) + 1) = (i : Int) + 1 := SpA.w64 _ (by omega)
        have HCN2 := hid (fun W (h : RdX W A l xs) => HC.out ▸ HCN.out W z h)
        have h8 : LV < z := h6
        have h9 : ¬ C < 1 := by omega
        have h10 : z < gc + (N : Int) := by omega
        clear hG hG3 f3 hz h1 h2 h3 h4 h5 h6 h7 hC hLV hi hW
        obtain ⟨⟨p0, p1, p2, p3, p4⟩, p5, p6, p7, p8⟩ := HB.out.cells
        obtain ⟨⟨t0, t1⟩, t2, t3⟩ := HT.out.cells
        gi_upto_region 17 with (first | (refine ⟨trivial, ?_⟩; gi_at_call 13; refine (CallsIn.inRound lk (callsIn_wide.2 (HCN2.out _ (PgB.RdX.fr HX.out HF.out)))).mono ?_; rintro e wn ⟨rfl, f⟩; (try replace HI := hid (HI.out.trans f)); (try replace HT := hid (HT.out.fr f (fun h => h) (fun h => h))); replace HF := hid (HF.out.trans f); replace HB := hid (HB.out.frN f); clear f; clear p0 p1 p2 p3 p4 p5 p6 p7 p8; obtain ⟨⟨p0, p1, p2, p3, p4⟩, p5, p6, p7, p8⟩ := HB.out.cells; clear t0 t1 t2 t3; obtain ⟨⟨t0, t1⟩, t2, t3⟩ := HT.out.cells) | (refine ⟨trivial, ?_⟩; gi_at_call 12; refine (CallsIn.inRound lk (callsIn_wide.2 (HMY.out _ (PgB.RdX.fr HX.out HF.out)))).mono ?_; rintro e wn ⟨rfl, f⟩; (try replace HI := hid (HI.out.trans f)); (try replace HT := hid (HT.out.fr f (fun h => h) (fun h => h))); replace HF := hid (HF.out.trans f); replace HB := hid (HB.out.frN f); clear f; clear p0 p1 p2 p3 p4 p5 p6 p7 p8; obtain ⟨⟨p0, p1, p2, p3, p4⟩, p5, p6, p7, p8⟩ := HB.out.cells; clear t0 t1 t2 t3; obtain ⟨⟨t0, t1⟩, t2, t3⟩ := HT.out.cells))
        have n1 : NB ≠ G + 1 + 1 + 1 := by have := HSZ.out; omega
        have n2 : NB + 1 ≠ G + 1 + 1 + 1 := by have := HSZ.out; omega
        have n3 : G + 1 + 1 + 1 ≠ NB := by have := HSZ.out; omega
        have n4 : G + 1 + 1 + 1 ≠ NB + 1 := by have := HSZ.out; omega
        have n5 : G + 1 + 1 ≠ NB := by have := HSZ.out; omega
        have n6 : G + 1 + 1 ≠ NB + 1 := by have := HSZ.out; omega
        have n7 : NB ≠ G + 1 + 1 := by have := HSZ.out; omega
        have n8 : NB + 1 ≠ G + 1 + 1 := by have := HSZ.out; omega
        by_cases hst : (i : Int) + 1 = st
        · have e4 : ((i : Int) + 1 == st) = true := by simpa using hst
          clear hst p0 p1 p2 p3 p4 p5
          gi_wp2
          obtain ⟨w8, hw8⟩ : ∃ w8, (wn.setCell ⟨NB + 1, 0, none⟩ (.int .i64 z)).setCell ⟨NB, 0, none⟩ (.int .i64 ((i : Int) + 1)) = w8 := ⟨_, rfl⟩
          have f8 : Fr (fun k => k = NB ∨ k = NB + 1) wn w8 := by rw [← hw8]; exact fr_put _ _ _ _
          have t8 : TX w8 NB ((i : Int) + 1) z := by rw [← hw8]; exact TX.put HT.out _ _
          have hsz := HSZ.out
          have hgw := HGW.out
          have b8 := HB.out.fr f8 ⟨by omega, by omega, by omega, by omega⟩
          have F8 : Fr No w w8 := HF.out.step f8 (fun k hk e => by omega)
          have T8 : Fr (fun k => k = G + 3 ∨ k = NB ∨ k = NB + 1) W3 w8 := (HI.out.mono (fun _ _ h => h.elim)).trans (f8.mono fun k _ h => .inr h)
          rw [show (wn.setCell ⟨NB + 1, 0, none⟩ (.int .i64 z)).setCell ⟨NB, 0, none⟩ (.int .i64 ((i : Int) + 1)) = w8 from hw8]
          have f9 := Fr.set1 w8 (G + 3) 0 (.bool true)
          exact ⟨T8.trans (f9.mono fun k _ h => .inl h), b8.yes, F8.step f9 (fun k hk e => by omega)⟩
        · have e4 : ((i : Int) + 1 == st) = false := by simpa using hst
          clear hst p0 p1 p2 p3 p4 p5
          gi_wp2
          obtain ⟨w8, hw8⟩ : ∃ w8, (wn.setCell ⟨NB + 1, 0, none⟩ (.int .i64 z)).setCell ⟨NB, 0, none⟩ (.int .i64 ((i : Int) + 1)) = w8 := ⟨_, rfl⟩
          have f8 : Fr (fun k => k = NB ∨ k = NB + 1) wn w8 := by rw [← hw8]; exact fr_put _ _ _ _
          have t8 : TX w8 NB ((i : Int) + 1) z := by rw [← hw8]; exact TX.put HT.out _ _
          have hsz := HSZ.out
          have hgw := HGW.out
          have b8 := HB.out.fr f8 ⟨by omega, by omega, by omega, by omega⟩
          have F8 : Fr No w w8 := HF.out.step f8 (fun k hk e => by omega)
          have T8 : Fr (fun k => k = G + 3 ∨ k = NB ∨ k = NB + 1) W3 w8 := (HI.out.mono (fun _ _ h => h.elim)).trans (f8.mono fun k _ h => .inr h)
          rw [show (wn.setCell ⟨NB + 1, 0, none⟩ (.int .i64 z)).setCell ⟨NB, 0, none⟩ (.int .i64 ((i : Int) + 1)) = w8 from hw8]
          exact ⟨T8, ⟨b8, by rw [HL1.out]; exact t8, F8⟩⟩
      case done =>
        intro W hG hK
        obtain ⟨hb, ht, hf⟩ := hG
        obtain ⟨⟨p0, p1, p2, p3, p4⟩, p5, p6, p7, p8⟩ := hb.cells
        obtain ⟨⟨t0, t1⟩, t2, t3⟩ := ht.cells
        clear p0 p1 p2 p3 p4 p5 p6 t1 t2 t3
        gi_wp2
        obtain ⟨W5, hW5⟩ : ∃ W5, W.setCell ⟨G + 3, 0, none⟩ (.bool true) = W5 := ⟨_, rfl⟩
        have f5 : Fr (fun k => k = G + 3) W W5 := by rw [← hW5]; exact Fr.set1 _ _ _ _
        have b5 : Blk W5 (G + 3) 4 #[.bool true] := by rw [← hW5]; simpa using hb.r.set_ 0 (.bool true)
        have hK5 : W5.heap[wz.heap.size]? = some (.deferred (some [])) := (f5.block _ (Array.getElem?_eq_some_iff.1 hK).1 (by omega)).trans hK
        try rw [hW5]
        have f6 : Fr (fun k => k = wz.heap.size) W5 (W5.putObj wz.heap.size (.deferred none)) := Fr.putObj (S := fun k => k = wz.heap.size) (Fr.refl _ _) (fun _ => rfl) _
        refine ⟨by simp, .inl ⟨_, _, rfl, run_takeDeferred hK5, .bool true, res_box rfl _ _ (G + 3) true rfl (b5.fr f6 (by omega)), rfl, (hf.step f5 (fun k hk e => by have := HGW.out; omega)).step f6 (fun k hk e => by have := HI.out.size; have := HSZ.out; have := HGW.out; omega)⟩⟩
      case stop =>
        intro W hG hK
        obtain ⟨hb, hf⟩ := hG
        gi_wp2
        have f6 : Fr (fun k => k = wz.heap.size) W (W.putObj wz.heap.size (.deferred none)) := Fr.putObj (S := fun k => k = wz.heap.size) (Fr.refl _ _) (fun _ => rfl) _
        refine ⟨by simp, .inl ⟨_, _, rfl, run_takeDeferred hK, .bool true, res_box rfl _ _ (G + 3) true rfl (hb.r.fr f6 (by omega)), rfl, hf.step f6 (fun k hk e => by have := HI.out.size; have := HSZ.out; have := HGW.out; omega)⟩⟩
    obtain ⟨C, hC⟩ : ∃ C, cz xs (gc + (j : Int)) = C := ⟨_, rfl⟩
    obtain ⟨K, hK⟩ : ∃ K, cnt cf gc j = K := ⟨_, rfl⟩
    have hcf := HCF.out (gc + (j : Int))
    rw [hC] at hcf
    have hKle := cnt_le cf gc j
    rw [hK] at hKle
    have HCN2 := hid (fun W (h : RdX W A l xs) => hC ▸ HCN.out W (gc + (j : Int)) h)
    have hw2 : wrap64 (gc + (j : Int) + 1) = gc + (j : Int) + 1 := SpA.w64 _ (by have := HMG.out; omega)
    have hw3 : wrap64 ((K : Int) + 1) = (K : Int) + 1 := SpA.w64 _ (by have := HMG.out; omega)
    have hjz : (j : Int) < (N : Int) := by omega
    have HJN := hid hjN
    by_cases hc : 0 < C
    · have hk := cnt_yes (f := cf) (c := gc) (j := j) (by rw [hcf]; simpa using hc)
      rw [hK] at hk ⊢
      have HK := hid hk
      clear hk hcf hC hK hKle hjN
      gi_wp2_with (first | (refine ⟨trivial, ?_⟩; gi_at_call 12; refine (callsIn_wide.2 (HMY.out _ (PgB.RdX.fr HX.out HF.out))).mono ?_; rintro e wn ⟨rfl, f⟩; replace HZ0 := hid (ZBox.fr HZ0.out f); (try replace HI := hid (HI.out.trans f)); (try replace HT := hid (HT.out.fr f (fun h => h) (fun h => h))); replace HF := hid (HF.out.trans f); replace HB := hid (HB.out.frN f); clear f; clear p0 p1 p2 p3 p4 p5 p6 p7 p8; obtain ⟨⟨p0, p1, p2, p3, p4⟩, p5, p6, p7, p8⟩ := HB.out.cells) | (refine ⟨trivial, ?_⟩; gi_at_call 13; refine (callsIn_wide.2 (HCN2.out _ (PgB.RdX.fr HX.out HF.out))).mono ?_; rintro e wn ⟨rfl, f⟩; replace HZ0 := hid (ZBox.fr HZ0.out f); (try replace HI := hid (HI.out.trans f)); (try replace HT := hid (HT.out.fr f (fun h => h) (fun h => h))); replace HF := hid (HF.out.trans f); replace HB := hid (HB.out.frN f); clear f; clear p0 p1 p2 p3 p4 p5 p6 p7 p8; obtain ⟨⟨p0, p1, p2, p3, p4⟩, p5, p6, p7, p8⟩ := HB.out.cells))
      go_roundw
      case rel => exact ⟨j + 1, by rw [HK.out]; go_num, by rw [hw2]; go_num, HJN.out, HI.out⟩
      case measure => simp only [intOf]; omega
    · have hk := cnt_no (f := cf) (c := gc) (j := j) (by rw [hcf]; simpa using hc)
      rw [hK] at hk ⊢
      have HK := hid hk
      clear hk hcf hC hK hKle hjN
      gi_wp2_with (first | (refine ⟨trivial, ?_⟩; gi_at_call 12; refine (callsIn_wide.2 (HMY.out _ (PgB.RdX.fr HX.out HF.out))).mono ?_; rintro e wn ⟨rfl, f⟩; replace HZ0 := hid (ZBox.fr HZ0.out f); (try replace HI := hid (HI.out.trans f)); (try replace HT := hid (HT.out.fr f (fun h => h) (fun h => h))); replace HF := hid (HF.out.trans f); replace HB := hid (HB.out.frN f); clear f; clear p0 p1 p2 p3 p4 p5 p6 p7 p8; obtain ⟨⟨p0, p1, p2, p3, p4⟩, p5, p6, p7, p8⟩ := HB.out.cells) | (refine ⟨trivial, ?_⟩; gi_at_call 13; refine (callsIn_wide.2 (HCN2.out _ (PgB.RdX.fr HX.out HF.out))).mono ?_; rintro e wn ⟨rfl, f⟩; replace HZ0 := hid (ZBox.fr HZ0.out f); (try replace HI := hid (HI.out.trans f)); (try replace HT := hid (HT.out.fr f (fun h => h) (fun h => h))); replace HF := hid (HF.out.trans f); replace HB := hid (HB.out.frN f); clear f; clear p0 p1 p2 p3 p4 p5 p6 p7 p8; obtain ⟨⟨p0, p1, p2, p3, p4⟩, p5, p6, p7, p8⟩ := HB.out.cells))
      go_roundw
      case rel => exact ⟨j + 1, by rw [HK.out], by rw [hw2]; go_num, HJN.out, HI.out⟩
      case measure => simp only [intOf]; omega
theorem zones_w (gc gs gn gl gk : Int) (A : Option Addr) (l c : Nat) (xs : List Ex) (st : Int) (w : World) (hs : r64 gs) (hx : RdX w A l xs) (hw : ∀ x ∈ xs, exW x) (hlc : l ≤ c) (hcm : c ≤ maxLen) (_hz : r64 st) :
    Calls Try.prog 3 #[gv gc gs gn gl gk, .slice A l c, .int .i64 st] w fun e w' => e = .returned (.bool true) ∧ Fr No w w' := by
  have hl0 := Nat.le_trans hlc hcm
  by_cases hf : l ≤ 60 ∧ gn ≤ 64 ∧ gs ≤ 20
  · cases hv : vM ⟨gc, gs, gn, gl, gk⟩ xs with
    | false => exact zl_n gc gs gn gl gk A l c xs st w hs hl0 hx hw hf hv
    | true => exact zl_y gc gs gn gl gk A l c xs st w hs hl0 hx hw hf hv
  · exact zl_far gc gs gn gl gk A l c xs st w hs hl0 hx hw hf
end Go.Proofs.Ytoboialfaifbgaa.VaZr
/- Extents that came in, as a list in memory. -/
namespace Go.Proofs.Ytoboialfaifbgaa.VaRow
open Go.Joins Go.ChangeShapes Go.WideShapes Go.RowKit Go.Deep MFrame MSep MSepC MGeM GeA PgA PgB

theorem cs4_at {l : List Ex} {j : Nat} {u : Value} (h : (cs4 l)[j]? = some u) : ∃ i d, l[i]? = some d ∧ ((j = i * 4 ∧ u = .int .i64 d.a) ∨ (j = i * 4 + 1 ∧ u = .int .i64 d.m) ∨ (j = i * 4 + 2 ∧ u = .int .i64 d.z) ∨ (j = i * 4 + 3 ∧ u = .int .i64 d.o)) := by
  have hj := (List.getElem?_eq_some_iff.1 h).1
  rw [cs4_len] at hj
  obtain ⟨d, hd⟩ : ∃ d, l[j / 4]? = some d := ⟨_, List.getElem?_eq_getElem (by omega)⟩
  obtain ⟨h0, h1, h2, h3⟩ := cs4_get hd
  refine ⟨j / 4, d, hd, ?_⟩
  rcases (by omega : j = j / 4 * 4 ∨ j = j / 4 * 4 + 1 ∨ j = j / 4 * 4 + 2 ∨ j = j / 4 * 4 + 3) with e | e | e | e
  · rw [e, h0] at h; exact .inl ⟨e, by injection h with h; exact h.symm⟩
  · rw [e, h1] at h; exact .inr (.inl ⟨e, by injection h with h; exact h.symm⟩)
  · rw [e, h2] at h; exact .inr (.inr (.inl ⟨e, by injection h with h; exact h.symm⟩))
  · rw [e, h3] at h; exact .inr (.inr (.inr ⟨e, by injection h with h; exact h.symm⟩))
theorem rdX_of {w : World} {A : Option Addr} {l : Nat} {xs : List Ex} (hl : xs.length = l) (h : 0 < l → ∃ g o, A = some ⟨g, o, none⟩ ∧ g < w.heap.size ∧ ∀ i d, xs[i]? = some d →
    w.cell? ⟨g, o + i * 4, none⟩ = some (.int .i64 d.a) ∧ w.cell? ⟨g, o + i * 4 + 1, none⟩ = some (.int .i64 d.m) ∧ w.cell? ⟨g, o + i * 4 + 2, none⟩ = some (.int .i64 d.z) ∧ w.cell? ⟨g, o + i * 4 + 3, none⟩ = some (.int .i64 d.o)) : RdX w A l xs := by
  refine ⟨hl, by rw [cs4_len, hl], fun hp => ?_⟩
  obtain ⟨g, o, hA, hg, hc⟩ := h (by omega)
  refine ⟨g, o, hA, hg, fun j u hu => ?_⟩
  obtain ⟨i, d, hi, hh⟩ := cs4_at hu
  obtain ⟨c0, c1, c2, c3⟩ := hc i d hi
  rcases hh with ⟨rfl, rfl⟩ | ⟨rfl, rfl⟩ | ⟨rfl, rfl⟩ | ⟨rfl, rfl⟩
  · exact c0
  · rw [← Nat.add_assoc]; exact c1
  · rw [← Nat.add_assoc]; exact c2
  · rw [← Nat.add_assoc]; exact c3
set_option maxRecDepth 100000 in
theorem exts_open {H : Type} {enc : TypeId × Value → H} {w : World} {base : Nat} {spare : Nat → Bool} {held : Bool} {A : Option Addr} {l c : Nat} {d : DataW H} {p : List MemPlace} (hsp : ∀ b, spare b = true)
    (h : DataW.Trod enc Try.prog w base spare held 24 (.slice A l c) d p) : ∃ xs, RdX w A l xs ∧ (∀ t ∈ xs, exW t) ∧ l ≤ c ∧ c ≤ maxLen := by
  obtain ⟨fuel, hf⟩ := h
  rcases open_slice_fields Try.underlying24 Try.underlying62 (by kernel_rfl) (by kernel_rfl) hf with ⟨hcs, _⟩ | ⟨a, l', c', m, D, Pl, hcs, _, hl, hm, hmm, _, hfi⟩
  · simp [Value.cells] at hcs
    obtain ⟨rfl, rfl, rfl⟩ := hcs
    exact ⟨[], RdX.nil _ _, by simp, Nat.le_refl _, by simp [maxLen]⟩
  · simp [Value.cells] at hcs
    obtain ⟨rfl, rfl, rfl⟩ := hcs
    have hmc : m = c := by simpa [hsp] using hmm
    subst hmc
    rcases Nat.eq_zero_or_pos l with h0 | h0
    · subst h0
      exact ⟨[], RdX.nil _ _, by simp, hl, hm⟩
    · have hspot : a.spot = none := by
        obtain ⟨ys, n, _, _, _, hfs⟩ := hfi 0 (by omega)
        obtain ⟨v0, y0, c0, _, t0⟩ := hfs 0 _ rfl
        have := World.cell?_spot c0
        simpa [Addr.add] using this
      have ha : a = ⟨a.block, a.off, none⟩ := by rw [← hspot]
      have hadd : ∀ k, a.add k = ⟨a.block, a.off + k, none⟩ := fun k => by
        rw [ha]
        exact add_off _ _ k
      obtain ⟨xs, hlen, hxs⟩ := PlOps.list_of (Q := fun i (t : Ex) => (exW t ∧ a.block < w.heap.size) ∧ w.cell? ⟨a.block, a.off + (i * 4), none⟩ = some (.int .i64 t.a) ∧ w.cell? ⟨a.block, a.off + (i * 4 + 1), none⟩ = some (.int .i64 t.m) ∧ w.cell? ⟨a.block, a.off + (i * 4 + 2), none⟩ = some (.int .i64 t.z) ∧ w.cell? ⟨a.block, a.off + (i * 4 + 3), none⟩ = some (.int .i64 t.o)) l (fun i hi => by
        obtain ⟨ys, n, _, _, _, hfs⟩ := hfi i (by omega)
        obtain ⟨v0, y0, c0, _, t0⟩ := hfs 0 _ rfl
        obtain ⟨v1, y1, c1, _, t1⟩ := hfs 1 _ rfl
        obtain ⟨v2, y2, c2, _, t2⟩ := hfs 2 _ rfl
        obtain ⟨v3, y3, c3, _, t3⟩ := hfs 3 _ rfl
        obtain ⟨a0, e0, _, w0⟩ := DataW.trod_int Try.underlying3 t0
        obtain ⟨a1, e1, _, w1⟩ := DataW.trod_int Try.underlying3 t1
        obtain ⟨a2, e2, _, w2⟩ := DataW.trod_int Try.underlying3 t2
        obtain ⟨a3, e3, _, w3⟩ := DataW.trod_int Try.underlying3 t3
        simp at e0 e1 e2 e3
        subst e0 e1 e2 e3
        have hb := World.block_lt_of_cell? w _ c0
        simp only [hadd] at c0 c1 c2 c3
        exact ⟨⟨a0, a1, a2, a3⟩, ⟨⟨bounds_i64 w0, bounds_i64 w1, bounds_i64 w2, bounds_i64 w3⟩, by simpa [block_of_add] using hb⟩, c0, c1, c2, c3⟩)
      refine ⟨xs, rdX_of hlen (fun h1 => ⟨a.block, a.off, by rw [← ha], ?_, fun i t hi => ?_⟩), fun t ht => ?_, hl, hm⟩
      · have h1 : xs[0]? = some xs[0] := List.getElem?_eq_getElem (by omega)
        exact (hxs 0 _ h1).1.2
      · obtain ⟨_, c0, c1, c2, c3⟩ := hxs i t hi
        exact ⟨c0, by rw [Nat.add_assoc]; exact c1, by rw [Nat.add_assoc]; exact c2, by rw [Nat.add_assoc]; exact c3⟩
      · obtain ⟨i, hi⟩ := List.mem_iff_getElem?.1 ht
        exact (hxs i t hi).1.1
end Go.Proofs.Ytoboialfaifbgaa.VaRow
/- ValidZones, as the row asks it. Conditions: none but the statement's own. -/
namespace Go.Proofs.Ytoboialfaifbgaa.ValidZonesP
open Go.ChangeShapes Go.WideShapes Go.ChangeAt Go.RowKit MFrame

set_option maxRecDepth 100000 in
theorem lifted (os : Os) (started : os.Started) (H : Type) (enc : TypeId × Value → H) :
    ReturnsInHanded {} Try.checked os 3 .any (Rows.validZonesSpec.pre6 enc Try.prog Try.f3 Rows.validZonesRow.domain false) (Rows.validZonesSpec.post enc Try.prog Try.f3 false true false false) := by
  refine returnsInHanded_of_change_sized (C := Try.checked) own started (by kernel_rfl) Try.func3
    (ChangeSpec.witness6 (enc := enc) (C := Try.checked) false ⟨#[], #[.agg #[.int .i64 0, .int .i64 0, .int .i64 0, .int .i64 0, .int .i64 0], .slice none 0 0, .int .i64 0], []⟩ 8 (by kernel_rfl) (by kernel_rfl) (by kernel_rfl) (by kernel_rfl)) ?_
  intro W base args ds gs before hval0 hW hcnd hsz0 _
  have hval : ∀ (j : Nat) t v, Try.f3.params[j]? = some t → args[j]? = some v → Value.okWide Try.prog W .any base t v := hval0
  have hW' := hW
  obtain ⟨p, q, hA0, hV, rfl, hfz, hnd⟩ := hW
  have hA : DataW.TrodAll enc Try.prog W 0 (fun _ => true) true Try.f3.params.toList args.toList ds p := hA0
  have hsz : (DataW.weightsEach Try.prog (Try.f3.params.toList ++ Rows.validZonesSpec.plain.varTypes Try.prog) (ds ++ gs)).all (· ≤ reachBytes) = true := hsz0
  rw [Try.params3] at hA hval hsz
  obtain ⟨v0, vs0, d0, ds0, p0, q0, hargs, rfl, rfl, h0, r0⟩ := trodAll_cons hA
  obtain ⟨v1, vs1, d1, ds1, p1, q1, rfl, rfl, rfl, h1, r1⟩ := trodAll_cons r0
  obtain ⟨v2, vs2, d2, ds2, p2, q2, rfl, rfl, rfl, h2, r2⟩ := trodAll_cons r1
  obtain ⟨rfl, rfl, rfl⟩ := trodAll_nil r2
  obtain rfl : args = #[v0, v1, v2] := by cases args; simp_all
  obtain ⟨rfl, rfl⟩ := trodVars_none hV
  have k0 := h0
  have lt0 : ∀ x ∈ p0, x.block < W.heap.size := by obtain ⟨m, hm⟩ := k0; exact DataW.trod_lt m _ _ _ hm
  obtain ⟨gc0, gs0, gn0, gl0, gk0, rfl, f0⟩ := MGeRow.geom_open (hval 0 23 v0 rfl rfl) h0
  have k1 := h1
  have lt1 : ∀ x ∈ p1, x.block < W.heap.size := by obtain ⟨m, hm⟩ := k1; exact DataW.trod_lt m _ _ _ hm
  obtain ⟨A1, l1, c1, rfl⟩ := okWide_slice Try.underlying24 (hval 1 24 v1 rfl rfl)
  obtain ⟨z1, r1_, i1_, lc1, cm1⟩ := VaRow.exts_open (fun _ => rfl) h1
  obtain ⟨a2, rfl, rfl, rfl, w2⟩ := open_int Try.underlying3 (hval 2 3 v2 rfl rfl) h2
  clear hA0 hval0
  refine (VaZr.zones_w gc0 gs0 gn0 gl0 gk0 A1 l1 c1 z1 a2 W f0 r1_ i1_ lc1 cm1 (bounds_i64 w2)).mono fun e W' ⟨he, fr⟩ => ?_
  have bel : Below W.heap.size W W' := fr.below (Nat.le_refl _) (fun _ h => h.elim)
  subst he
  exact ⟨_, rfl, _, _, _, [], _, [], hW', trodAll_mk1 (shut_bool Try.underlying4 _), (trodAll_cons_mk (Below.trod laidOut (by kernel_rfl) (of_decide_eq_true (by kernel_rfl)) k0 bel lt0) (trodAll_cons_mk (Below.trod laidOut (by kernel_rfl) (of_decide_eq_true (by kernel_rfl)) k1 bel lt1) (trodAll_cons_mk (shut_int Try.underlying3 w2) trodAll_mk0))), rfl, bel.frame _, fun h => by cases h⟩

theorem over : Rows.validZonesRow.holds Try.pinned (OpenSpec.ofChange Rows.validZonesSpec) :=
  OpenClaim.holds_of_wide 3 Try.f3 rfl rfl rfl rfl rfl rfl rfl ⟨rfl, rfl, rfl, rfl, rfl⟩ rfl rfl rfl rfl rfl (by kernel_rfl) Try.func3 (by kernel_rfl)
    (of_decide_eq_true (by kernel_rfl)) (by unfold Func.isWrapper; first | (rw [if_pos (by decide +kernel)]; kernel_rfl) | (rw [if_neg (by decide +kernel)]; exact ⟨rfl, rfl⟩))
    (fun os started H enc _ => lifted os started H enc)

theorem proved : Rows.ValidZonesSaid := over
#print axioms proved
end Go.Proofs.Ytoboialfaifbgaa.ValidZonesP
