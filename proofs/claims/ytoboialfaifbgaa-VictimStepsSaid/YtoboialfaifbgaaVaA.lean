/- Contracts: whether extents may be. Conditions: the extents read as a list of structs of whole numbers of 64 bits; the geometry's Seq has 64 bits. -/
import Derived.Test.YtoboialfaifbgaaPgB
namespace Go.Proofs.Ytoboialfaifbgaa.VaA
open Go.RowKit MSep MGeM GeA GeC PgA PgB

set_option maxRecDepth 100000 in
theorem vmay_n (gc gs gn gl gk : Int) (A : Option Addr) (l c : Nat) (w : World) (hs : r64 gs) (hm : ¬ mayG ⟨gc, gs, gn, gl, gk⟩) :
    Calls Try.prog 35 #[gv gc gs gn gl gk, .slice A l c] w fun e w' => e = .returned (.bool false) ∧ Fr No w w' := by
  have HF := hid (fr1 w (bg gc gs gn gl gk))
  have P0 := hid (BG.new w gc gs gn gl gk)
  have HM := hid (fun W => may_ok gc gs gn gl gk W hs)
  rw [decide_eq_false hm] at HM
  clear hm hs
  go_enter Try.func35, Try.ntmps35
  go_wp2_with (first | ((with_reducible refine ld_geom rfl (.tmp 2) rfl w.heap.size ?_ P0.out ?_); · rfl) | (go_at_call 62; refine (HM.out _).mono ?_; rintro e w1 ⟨rfl, f⟩; replace HF := hid (HF.out.trans f); clear f))
  go_ret
  exact ⟨rfl, HF.out⟩
set_option maxRecDepth 100000 in
set_option maxHeartbeats 4000000 in
theorem vmay_y (gc gs gn gl gk : Int) (A : Option Addr) (l c : Nat) (xs : List Ex) (w : World) (hs : r64 gs) (hl : l ≤ maxLen) (hx : RdX w A l xs) (hw : ∀ x ∈ xs, exW x) (hm : mayG ⟨gc, gs, gn, gl, gk⟩) :
    Calls Try.prog 35 #[gv gc gs gn gl gk, .slice A l c] w fun e w' => e = .returned (.bool (mayL ⟨gc, gs, gn, gl, gk⟩ 0 xs)) ∧ Fr No w w' := by
  unfold maxLen at hl
  obtain ⟨V, hV⟩ : ∃ V, mayL ⟨gc, gs, gn, gl, gk⟩ 0 xs = V := ⟨_, rfl⟩
  rw [hV]
  have HV := hid hV
  obtain ⟨G, hG⟩ : ∃ G, w.heap.size = G := ⟨_, rfl⟩
  obtain ⟨w1, hw1⟩ : ∃ w1, w.alloc (.cells #[.int .i64 gc, .int .i64 gs, .int .i64 gn, .int .i64 gl, .int .i64 gk] 23) = w1 := ⟨_, rfl⟩
  have FW := hid (show Fr No w w1 by rw [← hw1]; exact (Fr.refl _ w).alloc _)
  have HG := hid (show GB w1 G gc gs gn gl gk by rw [← hw1, ← hG]; exact Blk.new w _ _)
  have HS := hid hs
  have hs0 := hs
  have HX := hid hx
  have HW := hid hw
  have HW1 := hid hw1
  have hlx := hx.1
  have HLX := hid hlx
  clear hV hs hx hw hw1 hlx
  go_enter Try.func35, Try.ntmps35
  have HM := hid (fun W => may_ok gc gs gn gl gk W hs0)
  rw [decide_eq_true hm] at HM
  clear hm hs0
  go_upto_region 1 with fail
  try rw [show w.alloc (Obj.cells #[Value.int IntKind.i64 gc, Value.int IntKind.i64 gs, Value.int IntKind.i64 gn, Value.int IntKind.i64 gl, Value.int IntKind.i64 gk] 23) = w1 from HW1.out]
  try rw [hG]
  clear HW1
  have y0 : w1.cell? ⟨G, 0, none⟩ = some (.int .i64 gc) := Blk.cell HG.out 0
  have y1 : w1.cell? ⟨G, 1, none⟩ = some (.int .i64 gs) := Blk.cell HG.out 1
  have y2 : w1.cell? ⟨G, 2, none⟩ = some (.int .i64 gn) := Blk.cell HG.out 2
  have y3 : w1.cell? ⟨G, 3, none⟩ = some (.int .i64 gl) := Blk.cell HG.out 3
  have y4 : w1.cell? ⟨G, 4, none⟩ = some (.int .i64 gk) := Blk.cell HG.out 4
  go_upto_region 3 with (go_at_call 62; refine (HM.out _).mono ?_; rintro e wq ⟨rfl, f⟩; replace FW := hid (FW.out.trans f); replace HG := hid (show GB _ _ _ _ _ _ _ from Blk.fr HG.out f (fun h => h)); clear f y0 y1 y2 y3 y4)
  go_wp2
  go_loopw [5, 13] (fun f i wr => ∃ k : Nat, k ≤ l ∧ i = .int .i64 k ∧ mayL ⟨gc, gs, gn, gl, gk⟩ 0 (xs.take k) = true ∧ f = .int .i64 (endL 0 (xs.take k)) ∧ Fr No wq wr) (fun _ i _ => l - (intOf i).toNat)
  case atStart => exact ⟨0, by omega, rfl, rfl, rfl, Fr.refl _ _⟩
  case round =>
    obtain ⟨k, hk, rfl, hmk, rfl, hf⟩ := hrel
    by_cases hlt : k < l
    · obtain ⟨x, hxk⟩ : ∃ x, xs[k]? = some x := ⟨_, List.getElem?_eq_getElem (by have := HLX.out; omega)⟩
      have hxw := HW.out x (List.mem_of_getElem? hxk)
      have hsn := take_snoc hxk
      have hms := mayL_snoc ⟨gc, gs, gn, gl, gk⟩ x (xs.take k) 0
      rw [← hsn, hmk, Bool.true_and] at hms
      have hes : endL 0 (xs.take (k + 1)) = x.a + x.m := by rw [hsn]; simp [endL]
      have hei := endL_in (f := 0) (by omega) hmk
      obtain ⟨e, he⟩ : ∃ e, endL 0 (xs.take k) = e := ⟨_, rfl⟩
      rw [he] at hms hei ⊢
      obtain ⟨g, o, rfl, hg, hc⟩ := (HX.out.fr (FW.out.trans hf)).at_ (by omega)
      obtain ⟨c0, c1, c2, c3⟩ := hc k x hxk
      have HK := hid hmk
      have HES := hid hes
      have HMS := hid hms
      have HFR := hid hf
      have HXK := hid hxk
      have hlt3 : (k : Int) < l := by omega
      have h0k : (0 : Int) ≤ k := by omega
      have hG2 := Blk.fr HG.out hf (fun h => h)
      have HGW := hid hG2
      obtain ⟨a, m, z, q⟩ := x
      simp only [] at c0 c1 c2 c3
      obtain ⟨wa, wm, wz, _⟩ := hxw
      have HWS := hid (show SpA.wf (a, m) from ⟨wa, wm⟩)
      have HWZ := hid (show r64 z from wz)
      clear hf hc hsn hxk hmk hes hms wa wm wz he
      go_upto_region 7 with (refine st_X rfl (.tmp 7) (.tmp 16) rfl wr.heap.size rfl rfl (by simp [Value.oneCell']) (Blk.new wr _ _) rfl ?_; intro w3 HD f3; have f : Fr No wr w3 := ((Fr.refl No wr).alloc _).step f3 (fun i hi e => by omega); replace HFR := hid (HFR.out.trans f); replace HGW := hid (Blk.fr HGW.out f (fun h => h)); have HDD := hid HD; clear f f3 HD c0 c1 c2 c3)
      obtain ⟨D, hD⟩ : ∃ D, wr.heap.size = D := ⟨_, rfl⟩
      rw [hD] at HDD ⊢
      clear hD
      have y0 : w3.cell? ⟨G, 0, none⟩ = some (.int .i64 gc) := Blk.cell HGW.out 0
      have y1 : w3.cell? ⟨G, 1, none⟩ = some (.int .i64 gs) := Blk.cell HGW.out 1
      have y2 : w3.cell? ⟨G, 2, none⟩ = some (.int .i64 gn) := Blk.cell HGW.out 2
      have y3 : w3.cell? ⟨G, 3, none⟩ = some (.int .i64 gl) := Blk.cell HGW.out 3
      have y4 : w3.cell? ⟨G, 4, none⟩ = some (.int .i64 gk) := Blk.cell HGW.out 4
      have d0 : w3.cell? ⟨D, 0, none⟩ = some (.int .i64 a) := Blk.cell HDD.out 0
      have d1 : w3.cell? ⟨D, 1, none⟩ = some (.int .i64 m) := Blk.cell HDD.out 1
      have d2 : w3.cell? ⟨D, 2, none⟩ = some (.int .i64 z) := Blk.cell HDD.out 2
      have d3 : w3.cell? ⟨D, 3, none⟩ = some (.int .i64 q) := Blk.cell HDD.out 3
      by_cases hok : okX ⟨gc, gs, gn, gl, gk⟩ ⟨a, m, z, q⟩
      · have HOK := hid (decide_eq_true (show mayX ⟨gc, gs, gn, gl, gk⟩ a m z q from hok))
        obtain ⟨_, ⟨ba, bm, bam⟩, _⟩ := cko0 hok.1
        by_cases hle : e ≤ a
        · have hab : decide (a < e) = false := decide_eq_false (by omega)
          have HMT := hid (show mayL ⟨gc, gs, gn, gl, gk⟩ 0 (xs.take (k + 1)) = true by rw [HMS.out, decide_eq_true hok, decide_eq_true hle]; rfl)
          clear hok hle
          go_wp2_with (go_at_call 63; go_loud (refine (mx_ok gc gs gn gl gk a m z q _ HS.out HWS.out HWZ.out).mono ?_; rintro e' w4 ⟨rfl, f⟩; rw [HOK.out]; replace HFR := hid (HFR.out.trans f); replace HDD := hid (Blk.fr HDD.out f (fun h => h)); clear f y0 y1 y2 y3 y4 d0 d1 d2 d3; have d0 : w4.cell? ⟨D, 0, none⟩ = some (.int .i64 a) := Blk.cell HDD.out 0; have d1 : w4.cell? ⟨D, 1, none⟩ = some (.int .i64 m) := Blk.cell HDD.out 1; have d2 : w4.cell? ⟨D, 2, none⟩ = some (.int .i64 z) := Blk.cell HDD.out 2; have d3 : w4.cell? ⟨D, 3, none⟩ = some (.int .i64 q) := Blk.cell HDD.out 3))
          go_roundw
          case rel => exact ⟨k + 1, by omega, by go_num, HMT.out, by rw [HES.out], HFR.out⟩
          case measure => simp [intOf]; omega
        · have hab : decide (a < e) = true := decide_eq_true (by omega)
          have HVF := hid (show V = false by
            rw [← HV.out, ← List.take_append_drop (k + 1) xs]
            exact mayL_no (by rw [HMS.out, decide_eq_true hok, decide_eq_false hle]; rfl))
          clear hok hle
          go_wp2_with (go_at_call 63; go_loud (refine (mx_ok gc gs gn gl gk a m z q _ HS.out HWS.out HWZ.out).mono ?_; rintro e' w4 ⟨rfl, f⟩; rw [HOK.out]; replace HFR := hid (HFR.out.trans f); replace HDD := hid (Blk.fr HDD.out f (fun h => h)); clear f y0 y1 y2 y3 y4 d0 d1 d2 d3; have d0 : w4.cell? ⟨D, 0, none⟩ = some (.int .i64 a) := Blk.cell HDD.out 0; have d1 : w4.cell? ⟨D, 1, none⟩ = some (.int .i64 m) := Blk.cell HDD.out 1; have d2 : w4.cell? ⟨D, 2, none⟩ = some (.int .i64 z) := Blk.cell HDD.out 2; have d3 : w4.cell? ⟨D, 3, none⟩ = some (.int .i64 q) := Blk.cell HDD.out 3))
          go_ret
          exact ⟨congrArg (fun b => Ending.returned (.bool b)) HVF.out.symm, FW.out.trans HFR.out⟩
      · have HOK := hid (decide_eq_false (show ¬ mayX ⟨gc, gs, gn, gl, gk⟩ a m z q from hok))
        have HVF := hid (show V = false by
          rw [← HV.out, ← List.take_append_drop (k + 1) xs]
          exact mayL_no (by rw [HMS.out, decide_eq_false hok]; rfl))
        clear hok
        go_wp2_with (go_at_call 63; go_loud (refine (mx_ok gc gs gn gl gk a m z q _ HS.out HWS.out HWZ.out).mono ?_; rintro e' w4 ⟨rfl, f⟩; rw [HOK.out]; replace HFR := hid (HFR.out.trans f); replace HDD := hid (Blk.fr HDD.out f (fun h => h)); clear f y0 y1 y2 y3 y4 d0 d1 d2 d3; have d0 : w4.cell? ⟨D, 0, none⟩ = some (.int .i64 a) := Blk.cell HDD.out 0; have d1 : w4.cell? ⟨D, 1, none⟩ = some (.int .i64 m) := Blk.cell HDD.out 1; have d2 : w4.cell? ⟨D, 2, none⟩ = some (.int .i64 z) := Blk.cell HDD.out 2; have d3 : w4.cell? ⟨D, 3, none⟩ = some (.int .i64 q) := Blk.cell HDD.out 3))
        go_ret
        exact ⟨congrArg (fun b => Ending.returned (.bool b)) HVF.out.symm, FW.out.trans HFR.out⟩
    · obtain rfl : k = l := by omega
      have HVT := hid (show V = true by rw [← HV.out, ← hmk, List.take_of_length_le (by have := HLX.out; omega)])
      have HFR := hid hf
      clear hmk hf
      go_wp2
      go_ret
      exact ⟨congrArg (fun b => Ending.returned (.bool b)) HVT.out.symm, FW.out.trans HFR.out⟩
/-- What is told of 'may these extents be'. -/
def vM (g : Ge) (xs : List Ex) : Bool := decide (mayG g) && mayL g 0 xs
theorem vmay_ok (gc gs gn gl gk : Int) (A : Option Addr) (l c : Nat) (xs : List Ex) (w : World) (hs : r64 gs) (hl : l ≤ maxLen) (hx : RdX w A l xs) (hw : ∀ x ∈ xs, exW x) :
    Calls Try.prog 35 #[gv gc gs gn gl gk, .slice A l c] w fun e w' => e = .returned (.bool (vM ⟨gc, gs, gn, gl, gk⟩ xs)) ∧ Fr No w w' := by
  unfold vM
  by_cases hm : mayG ⟨gc, gs, gn, gl, gk⟩
  · rw [decide_eq_true hm, Bool.true_and]
    exact vmay_y gc gs gn gl gk A l c xs w hs hl hx hw hm
  · rw [decide_eq_false hm, Bool.false_and]
    exact vmay_n gc gs gn gl gk A l c w hs hm
end Go.Proofs.Ytoboialfaifbgaa.VaA
