/- Contract: a map of how many sectors lie in each zone. Conditions: the extents read as a list of at most 1000 structs of whole numbers of 64 bits, each of no more than 2^40 sectors. -/
import Derived.Test.YtoboialfaifbgaaVaC
import Derived.Maps.OwnIn
import Derived.Maps.Views
import Derived.Carry
namespace Go.Proofs.Ytoboialfaifbgaa.VaD
open Go.RowKit MSep MGeM GeA PgA PgB RgF VaC

attribute [local go_sem] Oper.semAt_some

/-- How many sectors lie in a zone. -/
def cz (L : List Ex) (z : Int) : Int := match L with
  | [] => 0
  | x :: l => (if x.z = z then x.m else 0) + cz l z
theorem cz_snoc (L : List Ex) (x : Ex) (z : Int) : cz (L ++ [x]) z = cz L z + (if x.z = z then x.m else 0) := by
  induction L with
  | nil => simp [cz]
  | cons y l ih => simp only [List.cons_append, cz, ih]; omega
theorem cz_in {L : List Ex} {z : Int} (h : ∀ x ∈ L, 0 ≤ x.m ∧ x.m ≤ 1099511627776) : 0 ≤ cz L z ∧ cz L z ≤ 1099511627776 * L.length := by
  induction L with
  | nil => simp [cz]
  | cons y l ih =>
    have h1 := h y (by simp)
    have h2 := ih (fun x hx => h x (by simp [hx]))
    simp only [cz, List.length_cons]
    split <;> omega
theorem cz_filter (L : List Ex) {z : Int} (hz : z ≠ 255) : cz (L.filter put) z = cz L z := by
  induction L with
  | nil => rfl
  | cons y l ih =>
    rw [List.filter_cons]
    split
    · simp only [cz, ih]
    · rename_i hp
      have : y.z = 255 := by simpa [put] using hp
      simp only [cz, ih, this]
      rw [if_neg (fun e => hz e.symm)]
      omega
theorem fr1' (T : Nat → Prop) (w : World) (o : Obj) (_ : True) : Fr T w (w.alloc o) := (Fr.refl T w).alloc o
theorem zeroI (w : World) : (zeroValue 3).run Try.prog w = .ok (.int .i64 0) w := by kernel_rfl
abbrev kz (z : Int) : Lit := .int .i64 z
theorem key_lit (z : Int) : WideAt.IsKeyLit (kz z) := trivial
theorem kz_ne {a b : Int} (h : a ≠ b) : kz a ≠ kz b := fun e => h (by injection e)
/-- Block b is a map that says of each zone how many sectors of these extents lie there; it has the zones in which one lies. -/
def MapZ (w : World) (b n : Nat) (L : List Ex) : Prop := ∃ D : DataW Unit, w.ownsMap Try.prog 3 (plainElem Try.prog 3) b n D ∧ Maps.Tidy D ∧ (∀ z, D.atKey (kz z) (.lit (.int .i64 0)) = .lit (.int .i64 (cz L z))) ∧ (∀ z, Maps.has D (kz z) = L.any (inZ z))
theorem MapZ.kept {w w' : World} {b n : Nat} {L : List Ex} {S : Nat → Prop} (h : MapZ w b n L) (f : Fr S w w') (hb : ¬ S b) : MapZ w' b n L := by
  obtain ⟨D, h1, h2, h3, h4⟩ := h
  obtain ⟨es, clock, hb1, r⟩ := h1
  exact ⟨D, ⟨es, clock, (f.block b (Array.getElem?_eq_some_iff.1 hb1).1 hb).trans hb1, r⟩, h2, h3, h4⟩
theorem MapZ.lt {w : World} {b n : Nat} {L : List Ex} (h : MapZ w b n L) : b < w.heap.size := by
  obtain ⟨D, h1, _⟩ := h
  exact h1.lt

set_option maxRecDepth 100000 in
set_option maxHeartbeats 2000000 in
theorem lying_ok (A : Option Addr) (l cp : Nat) (xs : List Ex) (w : World) (hx : RdX w A l xs) (hl : l ≤ 1000) (hw : ∀ x ∈ xs, exW x) (hm : ∀ x ∈ xs, 0 ≤ x.m ∧ x.m ≤ 1099511627776) :
    Calls Try.prog 36 #[.slice A l cp] w fun e w' => ∃ b n, e = .returned (.map (some b)) ∧ MapZ w' b n (xs.filter put) ∧ w.heap.size ≤ b ∧ n ≤ 1000 ∧ Fr No w w' := by
  have HX := hid hx
  have HW := hid hw
  have HM := hid hm
  have HL := hid hl
  have HLX := hid hx.1
  clear hx hw hm hl
  refine (callsIn_wide (n := 3)).1 ?_
  refine callsIn_of_wp_marks Try.func36 rfl trivial ?_ rfl
  simp only [Try.ntmps36, List.size_toArray, List.length_cons, List.length_nil, Nat.reduceAdd, Nat.reduceSub, Array.replicate_succ, Array.replicate_zero, List.push_toArray, List.append_toArray, List.nil_append, List.cons_append]
  have hmk := fun w => run_makeMap (P := Try.prog) 69 w
  gi_wp2_with (refine ⟨trivial, ?_⟩; gi_at_call 64; refine (callsIn_wide.2 (placed_ok A l cp xs w.heap.size _ (PgB.RdX.fr HX.out (((Fr.refl No w).alloc _).alloc _)) (RdX.low HX.out) (by have := HL.out; unfold maxLen; omega))).mono ?_; rintro e' w2 ⟨lb, rfl, hit, f⟩; have HIT := hid hit; have HF2 := hid f; clear hit f)
  obtain ⟨w1, hw1⟩ : ∃ w1, (w.alloc (.map #[] 0)).alloc (.cells #[.map (some w.heap.size)] 69) = w1 := ⟨_, rfl⟩
  have F1 : Fr No w w1 := by rw [← hw1]; exact ((Fr.refl No w).alloc _).alloc _
  have S1 : w1.heap.size = w.heap.size + 2 := by rw [← hw1]; simp
  have M1 : MapZ w1 w.heap.size 0 [] := by
    refine ⟨.map [], ?_, Maps.tidy_empty, fun z => rfl, fun z => rfl⟩
    rw [← hw1]
    exact (World.ownsMap_made w _ _ _).alloc _
  have Q1 : Blk w1 (w.heap.size + 1) 69 #[.map (some w.heap.size)] := by
    rw [← hw1]
    have := Blk.new (w.alloc (.map #[] 0)) 69 #[.map (some w.heap.size)]
    rwa [World.size_alloc] at this
  rw [hw1] at HF2 HIT
  clear hw1 hmk
  have S2 := HF2.out.size
  obtain ⟨B, hB⟩ : ∃ B, w.heap.size = B := ⟨_, rfl⟩
  have I2 := HIT.out (fun k => k = B ∨ w2.heap.size ≤ k) (fun k hk h hT => by omega)
  have HXL := hid (show ∀ x ∈ xs.filter put, exW x ∧ 0 ≤ x.m ∧ x.m ≤ 1099511627776 from fun x hx => ⟨HW.out x (List.mem_filter.1 hx).1, HM.out x (List.mem_filter.1 hx).1⟩)
  have HXN := hid (show (xs.filter put).length ≤ 1000 from Nat.le_trans (List.length_filter_le _ _) (by have := HLX.out; have := HL.out; omega))
  obtain ⟨L, hL⟩ : ∃ L, xs.filter put = L := ⟨_, rfl⟩
  rw [hL] at I2 HXL HXN
  have HLL := hid hL
  have HBB := hid hB
  rw [hB] at S1 M1 Q1
  try rw [hB]
  refine range_fn (gf := 105) rfl (enters_of Try.func105 (by kernel_rfl) rfl) (N := L.length) (X := XE L) (T := fun k => k = B ∨ w2.heap.size + 2 ≤ k) (T' := fun k => k = B ∨ w2.heap.size ≤ k) (fun k h => by omega) (.inr (by omega))
    I2 (fun k h => by omega) (fun i W => MapZ W B i (L.take i) ∧ Blk W (B + 1) 69 #[.map (some B)] ∧ Fr No w W) (fun _ => False) (fun i W W' h f => ⟨h.1.kept f (by omega), h.2.1.fr f (by omega), h.2.2.step f (fun k hk e => by omega)⟩) (fun W W' h f => h) ?hXs
    ⟨M1.kept HF2.out (fun h => h), Q1.fr HF2.out (fun h => h), F1.trans HF2.out⟩ ?round ?done (fun W h _ => h.elim)
  case hXs =>
    rintro i vs W ⟨x, hx, rfl⟩
    rfl
  case round =>
    rintro lk i vs W hi hW hG ⟨x, hx, rfl⟩
    gi_wp2
    refine ⟨fr1' _ _ _ trivial, fun W3 f3 => ?_⟩
    obtain ⟨hm, hq, hf⟩ := hG
    obtain ⟨⟨_, _, wz, _⟩, hm0, hm1⟩ := HXL.out x (List.mem_of_getElem? hx)
    have fa := (Fr.refl No W).alloc (.cells #[.int .i64 x.a, .int .i64 x.m, .int .i64 x.z, .int .i64 x.o] 62)
    have hb := hm.lt
    have hq3 := (hq.fr fa (fun h => h)).fr f3 (by omega)
    have z0 : W3.cell? ⟨B + 1, 0, none⟩ = some (.map (some B)) := hq3.cell 0
    have hx3 : Blk W3 W.heap.size 62 #[.int .i64 x.a, .int .i64 x.m, .int .i64 x.z, .int .i64 x.o] := (Blk.new W _ _).fr f3 (by omega)
    have d1 : W3.cell? ⟨W.heap.size, 1, none⟩ = some (.int .i64 x.m) := hx3.cell 1
    have d2 : W3.cell? ⟨W.heap.size, 2, none⟩ = some (.int .i64 x.z) := hx3.cell 2
    have hf3 : Fr No w W3 := (hf.trans fa).step f3 (fun k hk e => by have := HF2.out.size; omega)
    obtain ⟨D, hown, htidy, hat, hhas⟩ := (hm.kept fa (fun h => h)).kept f3 (by omega)
    have hts := take_snoc hx
    obtain ⟨C, hC⟩ : ∃ C, cz (L.take i) x.z = C := ⟨_, rfl⟩
    have hCi := cz_in (L := L.take i) (z := x.z) (fun y hy => (HXL.out y (List.mem_of_mem_take hy)).2)
    have hlen : (L.take i).length ≤ 1000 := Nat.le_trans (List.length_take_le' _ _) HXN.out
    rw [hC] at hCi
    have hatC := hat x.z
    rw [hC] at hatC
    have hw2 : IntKind.i64.wrap (C + x.m) = C + x.m := Go.IntWalk.i64_in _ (by omega)
    have hw3 : wrap64 (C + x.m) = C + x.m := w64 _ (by omega)
    have HKEY := hid (Maps.keyOf_int_mk Try.underlying3 (a := x.z) (WalkArith.wf_i64 wz))
    have HVAL := hid (plainElem_int (H := Unit) Try.underlying3 (a := C + x.m) (WalkArith.wf_i64 (by omega)))
    have HOWN := hid hown
    have HAT := hid hatC
    have HALL := hid (And.intro htidy (And.intro hat hhas))
    have HQ3 := hid hq3
    have HF3 := hid hf3
    have HTS := hid hts
    have HC := hid hC
    have HMX := hid (show i < maxLen by have := HXN.out; unfold maxLen; omega)
    have HWW := hid (And.intro hW (And.intro f3.size hb))
    clear hm hq hf wz hm0 hm1 fa hb hq3 hx3 hf3 hown htidy hat hhas hts hC hCi hlen hatC f3 hW
    gi_wp2_with (first | (gi_at_lookup; refine wpListIn_lookup_own_int _ rfl (.tmp 9) (.tmp 11) 69 rfl 3 3 .i64 (Maps.int_keyed Try.underlying3) Try.underlying69 Try.underlying3 (zeroI _) B i D rfl HOWN.out _ (kz x.z) rfl HKEY.out ?_; intro cc hcc hcw; obtain rfl : C = cc := (by rw [HAT.out] at hcc; injection hcc with h1; injection h1); clear hcc hcw) | (gi_at_mapUpdate; refine wpListIn_mapUpdate_own _ rfl (.tmp 9) (.tmp 11) (.tmp 15) 69 rfl 3 3 (Maps.int_keyed Try.underlying3) Try.underlying69 _ B i D rfl HOWN.out HMX.out _ _ (kz x.z) rfl rfl HKEY.out _ [] HVAL.out ?_; intro W5 hown5 hg5; have HO5 := hid hown5; have HG5 := hid hg5; clear hown5 hg5))
    obtain ⟨htidy, hat, hhas⟩ := HALL.out
    have hfr : Fr (fun k => k = B ∨ w2.heap.size + 2 ≤ k) W3 W5 := Fr.grown (Fr.refl _ W3) HG5.out (fun k hk _ => .inl (by injection hk with hk; exact hk.symm))
    have hfB : Fr (fun k => k = B) W3 W5 := Fr.grown (Fr.refl _ W3) HG5.out (fun k hk _ => by injection hk with hk; exact hk.symm)
    refine ⟨hfr, ⟨_, HO5.out, htidy.put (key_lit _) _, fun z => ?_, fun z => ?_⟩, HQ3.out.fr hfB (by omega), HF3.out.step hfB (fun k hk e => by have := HBB.out; omega)⟩
    · by_cases hz : z = x.z
      · subst hz
        rw [Maps.atKey_put_same htidy.isMap (key_lit _), HTS.out, cz_snoc, if_pos rfl, HC.out]
      · rw [Maps.atKey_put_other (kz_ne hz), hat z, HTS.out, cz_snoc, if_neg (fun e => hz e.symm), Int.add_zero]
    · rw [HTS.out, List.any_append]
      by_cases hz : z = x.z
      · subst hz
        rw [Maps.has_put_same htidy.isMap (key_lit _)]
        simp [inZ]
      · rw [Maps.has_put_other (kz_ne hz), hhas z]
        have : inZ z x = false := by simpa [inZ] using fun e => hz e.symm
        simp [this]
  case done =>
    intro W hG hK
    obtain ⟨hm, hq, hf⟩ := hG
    have z0 : W.cell? ⟨B + 1, 0, none⟩ = some (.map (some B)) := hq.cell 0
    rw [List.take_length] at hm
    gi_wp2
    have f6 : Fr (fun k => k = w2.heap.size) W (W.putObj w2.heap.size (.deferred none)) := Fr.putObj (S := fun k => k = w2.heap.size) (Fr.refl _ _) (fun _ => rfl) _
    refine ⟨by simp, .inl ⟨_, _, rfl, run_takeDeferred hK, .map (some B), by simp [results, Try.f36], B, L.length, rfl, ?_, by have := HBB.out; omega, HXN.out, hf.step f6 (fun i hi h => by have := HF2.out.size; omega)⟩⟩
    rw [HLL.out]
    exact hm.kept f6 (by have := HF2.out.size; omega)
end Go.Proofs.Ytoboialfaifbgaa.VaD
