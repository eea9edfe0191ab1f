/- Contracts: all extents, one by one; what is wrong with a geometry, with extents, with a zone's number; how many sectors lie in each zone. Conditions: the extents read as a list of structs of whole numbers of 64 bits; the geometry's Seq has 64 bits. -/
import Derived.Test.YtoboialfaifbgaaVaD
namespace Go.Proofs.Ytoboialfaifbgaa.VaE
open Go.RowKit MSep MGeM GeA GeC PgA PgB RgF VaA VaC VaD

attribute [local go_sem] Oper.semAt_some

set_option maxRecDepth 100000 in
set_option maxHeartbeats 2000000 in
theorem values_iter (A : Option Addr) (l cp : Nat) (xs : List Ex) (w : World) (B1 n0 n1 : Nat) (T : Nat → Prop) (hx : RdX w A l xs) (hA : 0 < l → ∀ g o, A = some ⟨g, o, none⟩ → g < n0) (hl : l ≤ maxLen)
    (b0 : w.cell? ⟨B1, 0, none⟩ = some (.slice A l cp)) (hT : ∀ k, k < w.heap.size → (k < n0 ∨ n1 ≤ k) → ¬ T k) :
    Iter Try.prog 82 #[.pointer (some ⟨B1, 0, none⟩)] xs.length (XE xs) T w := by
  unfold maxLen at hl
  intro L J Jx W hW hsz hJ hY h0
  have HW0 := hid hW
  have HX := hid hx
  have HAA := hid (fun (h0 : 0 < l) g o (h : A = some ⟨g, o, none⟩) (hg : g < w.heap.size) => hT g hg (.inl (hA h0 g o h)))
  have HLX := hid hx.1
  have a0 := hW.cell_some b0 (fun h => h)
  clear hx hT hW hsz hA
  refine callsIn_of_wp Try.func82 rfl trivial ?_ rfl
  simp only [Try.ntmps82, List.size_toArray, List.length_cons, List.length_nil, Nat.reduceAdd, Nat.reduceSub, Array.replicate_succ, Array.replicate_zero, List.push_toArray, List.append_toArray, List.nil_append, List.cons_append]
  gi_wp2
  gi_loopw [7] (fun y wr => ∃ i : Nat, y = .int .i64 i ∧ i ≤ l ∧ J i wr ∧ Fr T W wr) (fun y _ => l - (intOf y).toNat)
  case atStart => exact ⟨0, rfl, by omega, h0, Fr.refl _ _⟩
  case round =>
    obtain ⟨i, rfl, hi, hJi, hf⟩ := hrel
    by_cases hlt : i < l
    case neg =>
      obtain rfl : i = l := by omega
      gi_wp2
      go_end0
      exact ⟨⟨_, rfl⟩, .inl (by rw [HLX.out]; exact hJi)⟩
    obtain ⟨x, hget⟩ : ∃ x, xs[i]? = some x := ⟨_, List.getElem?_eq_getElem (by have := HLX.out; omega)⟩
    have hwf : Fr T w wr := (HW0.out.mono fun _ _ h => h.elim).trans hf
    obtain ⟨g, oo, rfl, _, hc⟩ := PgB.RdX.at_ (RdX.frT HX.out hwf (fun g o h => by
      obtain ⟨g', o', h', hg', _⟩ := PgB.RdX.at_ HX.out (by omega)
      have := HAA.out (by omega) g o h (by rw [h] at h'; cases h'; exact hg')
      exact this)) (by omega)
    obtain ⟨c0, c1, c2, c3⟩ := hc i x hget
    have hlt2 : (i : Int) < (l : Int) := by omega
    have hw1 : wrap64 ((i : Int) + 1) = (i : Int) + 1 := w64 _ (by omega)
    have HF := hid (hf.alloc (.cells #[.int .i64 x.a, .int .i64 x.m, .int .i64 x.z, .int .i64 x.o] 62))
    obtain ⟨fn, tmps, assign, body, hy, hR⟩ := hY i _ (wr.alloc (.cells #[.int .i64 x.a, .int .i64 x.m, .int .i64 x.z, .int .i64 x.o] 62)) (by have := HLX.out; omega) (hJ _ _ _ hJi ((Fr.refl No wr).alloc _)) ⟨x, hget, rfl⟩
    clear hf hJi hc hwf hget
    gi_wp2
    refine hR.mono ?_
    rintro e' W5 (⟨rfl, hJ5, hk5⟩ | ⟨rfl, hJx⟩)
    · gi_wp2
      go_roundw
      case rel => exact ⟨i + 1, by go_num, by omega, hJ5, HF.out.trans hk5⟩
      case measure => first | exact next_m _ _ hlt hw1 | (simp only [intOf]; omega)
    · gi_wp2
      refine bodyPost_ret (results_none rfl _ _ _) rfl ?_
      exact ⟨⟨_, rfl⟩, .inr hJx⟩
set_option maxRecDepth 100000 in
theorem values_ok (A : Option Addr) (l cp : Nat) (xs : List Ex) (n0 : Nat) (w : World) (hx : RdX w A l xs) (hA : 0 < l → ∀ g o, A = some ⟨g, o, none⟩ → g < n0) (hl : l ≤ maxLen) : Calls Try.prog 60 #[.slice A l cp] w fun e w' =>
      ∃ lb, e = .returned (.func (.func 82) #[] lb) ∧ (∀ T : Nat → Prop, (∀ k, k < w'.heap.size → (k < n0 ∨ w.heap.size ≤ k) → ¬ T k) → Iter Try.prog 82 lb xs.length (XE xs) T w') ∧ Fr No w w' := by
  have HX := hid hx
  have HL := hid hl
  have HA := hid hA
  clear hx hl hA
  go_enter Try.func60, Try.ntmps60
  go_wp2
  go_ret
  have h4 := (Fr.refl No w).alloc (.cells #[.slice A l cp] 24)
  exact ⟨_, rfl, fun T hT => values_iter A l cp xs _ _ n0 w.heap.size T (PgB.RdX.fr HX.out h4) HA.out HL.out ((Blk.new w _ _).cell 0) hT, h4⟩
/-- What is told of extents. -/
def ckE (g : Ge) (xs : List Ex) : Int := if mayG g then (if mayL g 0 xs = true then 0 else 1) else 70
set_option maxRecDepth 100000 in
theorem check_ok (gc gs gn gl gk : Int) (A : Option Addr) (l c : Nat) (xs : List Ex) (w : World) (hs : r64 gs) (hl : l ≤ maxLen) (hx : RdX w A l xs) (hw : ∀ x ∈ xs, exW x) :
    Calls Try.prog 55 #[gv gc gs gn gl gk, .slice A l c] w fun e w' => e = .returned (.int .i64 (ckE ⟨gc, gs, gn, gl, gk⟩ xs)) ∧ Fr No w w' := by
  have HF := hid (fr1 w (bg gc gs gn gl gk))
  have P0 := hid (BG.new w gc gs gn gl gk)
  have HM := hid (fun W => may_ok gc gs gn gl gk W hs)
  have HV := hid (fun W (h : RdX W A l xs) => vmay_ok gc gs gn gl gk A l c xs W hs hl h hw)
  have HX := hid hx
  unfold ckE
  unfold vM at HV
  clear hx hl hw hs
  by_cases hm : mayG ⟨gc, gs, gn, gl, gk⟩
  · rw [decide_eq_true hm] at HM HV
    rw [if_pos hm]
    clear hm
    cases hv : mayL ⟨gc, gs, gn, gl, gk⟩ 0 xs
    · rw [hv] at HV
      clear hv
      go_enter Try.func55, Try.ntmps55
      go_wp2_with (first | ((with_reducible refine ld_geom rfl (.tmp 2) rfl w.heap.size ?_ P0.out ?_); · rfl) | (go_at_call 62; refine (HM.out _).mono ?_; rintro e w1 ⟨rfl, f⟩; replace HF := hid (HF.out.trans f); replace P0 := hid (P0.out.fr f); clear f) | (go_at_call 35; refine (HV.out _ (PgB.RdX.fr HX.out HF.out)).mono ?_; rintro e w2 ⟨rfl, f⟩; replace HF := hid (HF.out.trans f); clear f))
      go_ret
      exact ⟨rfl, HF.out⟩
    · rw [hv] at HV
      clear hv
      go_enter Try.func55, Try.ntmps55
      go_wp2_with (first | ((with_reducible refine ld_geom rfl (.tmp 2) rfl w.heap.size ?_ P0.out ?_); · rfl) | (go_at_call 62; refine (HM.out _).mono ?_; rintro e w1 ⟨rfl, f⟩; replace HF := hid (HF.out.trans f); replace P0 := hid (P0.out.fr f); clear f) | (go_at_call 35; refine (HV.out _ (PgB.RdX.fr HX.out HF.out)).mono ?_; rintro e w2 ⟨rfl, f⟩; replace HF := hid (HF.out.trans f); clear f))
      go_ret
      exact ⟨rfl, HF.out⟩
  · rw [decide_eq_false hm] at HM
    rw [if_neg hm]
    clear hm HV
    go_enter Try.func55, Try.ntmps55
    go_wp2_with (first | ((with_reducible refine ld_geom rfl (.tmp 2) rfl w.heap.size ?_ P0.out ?_); · rfl) | (go_at_call 62; refine (HM.out _).mono ?_; rintro e w1 ⟨rfl, f⟩; replace HF := hid (HF.out.trans f); replace P0 := hid (P0.out.fr f); clear f) | (go_at_call 35; refine (HV.out _ (PgB.RdX.fr HX.out HF.out)).mono ?_; rintro e w2 ⟨rfl, f⟩; replace HF := hid (HF.out.trans f); clear f))
    go_ret
    exact ⟨rfl, HF.out⟩
/-- What is told of extents and a zone. -/
def ckZ (g : Ge) (xs : List Ex) (z : Int) : Int := if ckE g xs = 0 then (if g.c ≤ z ∧ z < g.c + g.s then 0 else 1) else ckE g xs

end Go.Proofs.Ytoboialfaifbgaa.VaE
