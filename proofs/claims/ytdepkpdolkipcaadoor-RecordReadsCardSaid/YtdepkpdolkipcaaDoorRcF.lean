/- Contract: records that are one group, joined, by the program. Condition: the records read as a list, and are a group. -/
import Derived.Test.YtdepkpdolkipcaaDoorRcE
import Derived.Test.YtdepkpdolkipcaaDoorKit
namespace Go.Proofs.YtdepkpdolkipcaaDoor.RcF
open Go.RowKit MSep MSepC RcM RcA RcB RcC DlO RgF RcD RcE Kit

set_option maxRecDepth 100000 in
set_option maxHeartbeats 1000000 in
theorem follows_ok (e s u : Int) (b b' : Bool) (A A' : Option Addr) (n c n' c' : Nat) (w : World) : Calls Tryd.prog 71 #[rv e s b u A n c, rv e (s + 1) b' u A' n' c'] w fun E w' => E = .returned (.bool true) ∧ Fr No w w' := by
  have HF := hid (fun o o' => ((Fr.refl No w).alloc o).alloc o')
  have h1 : s < s + 1 := by omega
  have h2 : wrap64 (s + 1 - s) = 1 := by unfold wrap64; omega
  go_enter Tryd.func71, Tryd.ntmps71
  go_wp2
  go_ret
  exact ⟨rfl, HF.out _ _⟩
/-- Records that are one group. -/
structure GJ (rs : List Rc) : Prop where
  c : ∀ (k : Nat) r, rs[k]? = some r → r.c = decide (k + 1 = rs.length)
  six : ∀ (k : Nat) r, rs[k]? = some r → k + 1 < rs.length → r.l.length = 6
  nxt : ∀ (k : Nat) r p, rs[k + 1]? = some r → rs[k]? = some p → r.s = p.s + 1 ∧ (0 ≤ p.s ∧ p.s ≤ 1099511627776) ∧ r.e = p.e ∧ r.u = p.u
  few : ∀ (k : Nat) r, rs[k]? = some r → r.l.length ≤ 6
def ds (rs : List Rc) : List De := rs.flatMap Rc.l
theorem ds_snoc {rs : List Rc} {k : Nat} {r : Rc} (h : rs[k]? = some r) : ds (rs.take (k + 1)) = ds (rs.take k) ++ r.l := by
  rw [List.take_add_one, h]
  simp [ds]
theorem ds_len {rs : List Rc} (h : ∀ (k : Nat) r, rs[k]? = some r → r.l.length ≤ 6) (k : Nat) : (ds (rs.take k)).length ≤ 6 * k := by
  induction k with
  | zero => simp [ds]
  | succ k ih =>
    cases hr : rs[k]? with
    | none =>
      rw [List.take_add_one, hr]
      simp
      omega
    | some r =>
      rw [ds_snoc hr, List.length_append]
      have := h k r hr
      omega
theorem dout_len {B : Nat} {w : World} {A : Option Addr} {n c : Nat} {l : List De} (h : DOut B w (.slice A n c) l) (_ : l.length = n) : DOut B w (.slice A n c) l := h
set_option maxRecDepth 100000 in
set_option maxHeartbeats 4000000 in
theorem join_ok (A : Option Addr) (n c : Nat) (rs : List Rc) (w : World) (hn : 0 < n) (hl : n ≤ 100000) (hx : RdG w A n rs) (hg : GJ rs) :
    Calls Tryd.prog 40 #[.slice A n c] w fun E w' => ∃ A' c', E = .returned (.tuple #[.slice A' (ds rs).length c', .bool true]) ∧ RdD w' A' (ds rs).length (ds rs) ∧ Fr No w w' := by
  obtain ⟨vs, hv, hrl, hm⟩ := hx
  have HG := hid hg
  have HV := hid hv
  have HM := hid hm
  clear hg hv hm
  subst hrl
  go_enter Tryd.func40, Tryd.ntmps40
  go_wp2_with fail
  go_loopw [4, 10] (fun d i wr => ∃ k : Nat, k ≤ rs.length ∧ i = .int .i64 k ∧ DOut w.heap.size wr d (ds (rs.take k)) ∧ Fr No w wr) (fun _ i _ => rs.length - (intOf i).toNat)
  case atStart => exact ⟨0, by omega, rfl, DOut.nil _ _, Fr.refl _ _⟩
  case round =>
    obtain ⟨k, hk, rfl, hd, hf⟩ := hrel
    by_cases hlt : k < rs.length
    · obtain ⟨A1, k1, rfl⟩ := hd.form
      obtain ⟨r, hr⟩ : ∃ r, rs[k]? = some r := ⟨_, List.getElem?_eq_getElem hlt⟩
      obtain ⟨v, hv⟩ : ∃ v, vs[k]? = some v := ⟨_, List.getElem?_eq_getElem (by rw [HV.out.1]; exact hlt)⟩
      obtain ⟨g, o, rfl, hgs, hc⟩ := (HV.out.fr hf (fun _ _ _ h => h)).at_ (by omega)
      obtain ⟨c0, c1, c2, c3, c4⟩ := hc k v hv
      have hme := (HM.out k v r hv hr).fr hf (fun _ _ _ h => h)
      have hb := HG.out.c k r hr
      have hlt3 : (k : Int) < rs.length := by omega
      have h0 : (0 : Int) ≤ k := by omega
      have HR := hid hr
      have HL6 := hid (HG.out.few k r hr)
      have HLN := hid (ds_len HG.out.few k)
      have hcr : r.l.length = v.n := hme.rd.1
      have HCR := hid hcr
      have HE := hid hme.rd
      have hbv : v.b = decide (k + 1 = rs.length) := by rw [hme.b, hb]
      have hsix : k + 1 < rs.length → v.n = 6 := fun h => by rw [← hcr]; exact HG.out.six k r hr h
      obtain ⟨pv, hpv⟩ : ∃ pv : RV, 0 < k → vs[k - 1]? = some pv ∧ v.s = pv.s + 1 ∧ (0 ≤ pv.s ∧ pv.s ≤ 1099511627776) ∧ v.e = pv.e ∧ v.u = pv.u := by
        by_cases hk0 : 0 < k
        · obtain ⟨p, hp⟩ : ∃ p, rs[k - 1]? = some p := ⟨_, List.getElem?_eq_getElem (by omega)⟩
          obtain ⟨pv, hpv⟩ : ∃ v, vs[k - 1]? = some v := ⟨_, List.getElem?_eq_getElem (by rw [HV.out.1]; omega)⟩
          have hm2 := HM.out (k - 1) pv p hpv hp
          have hj := HG.out.nxt (k - 1) r p (by rw [Nat.sub_add_cancel (by omega)]; exact hr) hp
          exact ⟨pv, fun _ => ⟨hpv, by rw [hme.s, hm2.s]; exact hj.1, by rw [hm2.s]; exact hj.2.1, by rw [hme.e, hm2.e]; exact hj.2.2.1, by rw [hme.u, hm2.u]; exact hj.2.2.2⟩⟩
        · exact ⟨v, fun h => absurd h hk0⟩
      have HC := hid hc
      clear hcr
      clear hc hb hme hr
      obtain ⟨ve, vss, vb, vu, vA, vn, vc⟩ := v
      obtain ⟨pe, ps, pb, pu, pA, pn, pc⟩ := pv
      simp only [] at c0 c1 c2 c3 c4 hbv hsix HCR hpv HE
      have HDk := hid hd
      have HFk := hid hf
      clear hd hf
      by_cases hk0 : 0 < k
      · obtain ⟨hp1, hp2, hp3, hp4, hp5⟩ := hpv hk0
        subst hp2
        subst hp4
        subst hp5
        obtain ⟨m, hm⟩ : ∃ m, k - 1 = m := ⟨_, rfl⟩
        rw [hm] at hp1
        obtain ⟨d0, d1, d2, d3, d4⟩ := HC.out m _ hp1
        simp only [] at d0 d1 d2 d3 d4
        have hmz : (k : Int) - 1 = (m : Int) := by omega
        have hml : (m : Int) < rs.length := by omega
        have hm0 : (0 : Int) ≤ m := by omega
        have hkz : (0 : Int) < (k : Int) := by omega
        have hwm : IntKind.i64.wrap (m : Int) = m := IntWalk.i64_in _ (by omega)
        by_cases hlast : k + 1 = rs.length
        · obtain rfl : vb = true := by rw [hbv, decide_eq_true hlast]
          have hlz : (rs.length : Int) - 1 = (k : Int) := by omega
          have HP3 := hid hp3; clear hpv hsix hbv hp1 hm hp3 HC hv; have HLST := hid hlast; clear hlast
          go_wp2_with fail
          obtain ⟨W2, hW2⟩ : ∃ W2, wr.alloc (rx ve (ps + 1) true vu vA vn vc) = W2 := ⟨_, rfl⟩
          have HB := hid (show RB W2 wr.heap.size ve (ps + 1) true vu vA vn vc by rw [← hW2]; exact Blk.new wr _ _)
          have HF2 := hid (show Fr No wr W2 by rw [← hW2]; exact (Fr.refl No wr).alloc _)
          rw [show wr.alloc (Obj.cells #[Value.int IntKind.i64 ve, Value.int IntKind.i64 (ps + 1), Value.bool true, Value.int IntKind.i64 vu, Value.slice vA vn vc] 48) = W2 from hW2]
          clear hW2
          obtain ⟨r0, r1, r2, r3, r4⟩ := RB.cells HB.out
          obtain ⟨e0, e1, e2, e3, e4⟩ : W2.cell? ⟨g, o + m * 5, none⟩ = some (.int .i64 ve) ∧ W2.cell? ⟨g, o + m * 5 + 1, none⟩ = some (.int .i64 ps) ∧ W2.cell? ⟨g, o + m * 5 + 2, none⟩ = some (.bool pb) ∧ W2.cell? ⟨g, o + m * 5 + 3, none⟩ = some (.int .i64 vu) ∧ W2.cell? ⟨g, o + m * 5 + 4, none⟩ = some (.slice pA pn pc) := ⟨HF2.out.cell_some d0 (fun h => h), HF2.out.cell_some d1 (fun h => h), HF2.out.cell_some d2 (fun h => h), HF2.out.cell_some d3 (fun h => h), HF2.out.cell_some d4 (fun h => h)⟩
          --REG
          have FW := HF2
          have FW := kd FW
          refine wp_region_noPanic ?_
          refine wp_region_held_drew (S := (fun W' => W'.cell? ⟨wr.heap.size, 0, none⟩ = some (.int .i64 ve) ∧ W'.cell? ⟨wr.heap.size, 1, none⟩ = some (.int .i64 (ps + 1)) ∧ W'.cell? ⟨wr.heap.size, 2, none⟩ = some (.bool true) ∧ W'.cell? ⟨wr.heap.size, 3, none⟩ = some (.int .i64 vu) ∧ W'.cell? ⟨wr.heap.size, 4, none⟩ = some (.slice vA vn vc) ∧ W'.cell? ⟨g, o + m * 5, none⟩ = some (.int .i64 ve) ∧ W'.cell? ⟨g, o + m * 5 + 1, none⟩ = some (.int .i64 ps) ∧ W'.cell? ⟨g, o + m * 5 + 2, none⟩ = some (.bool pb) ∧ W'.cell? ⟨g, o + m * 5 + 3, none⟩ = some (.int .i64 vu) ∧ W'.cell? ⟨g, o + m * 5 + 4, none⟩ = some (.slice pA pn pc) ∧ Hid (Fr No wr W'))) (by kernel_rfl) ?_ (fun hHeld => ?_)
          · (try dsimp only); (first | (go_split_ands; exact ⟨kc f (by assumption), kc f (by assumption), kc f (by assumption), kc f (by assumption), kc f (by assumption), kc f (by assumption), kc f (by assumption), kc f (by assumption), kc f (by assumption), kc f (by assumption), by assumption⟩) | (go_split_ands; exact ⟨(by assumption), (by assumption), (by assumption), (by assumption), (by assumption), (by assumption), (by assumption), (by assumption), (by assumption), (by assumption), by assumption⟩) | (go_split_ands; exact ⟨kc (fr1 _ _) (by assumption), kc (fr1 _ _) (by assumption), kc (fr1 _ _) (by assumption), kc (fr1 _ _) (by assumption), kc (fr1 _ _) (by assumption), kc (fr1 _ _) (by assumption), kc (fr1 _ _) (by assumption), kc (fr1 _ _) (by assumption), kc (fr1 _ _) (by assumption), kc (fr1 _ _) (by assumption), kfa (by assumption)⟩))
          refine wpAnyH_take (i := 0) (v := ?v1) rfl (by kernel_rfl) (by kernel_rfl) (by kernel_rfl) (fun _ _ _ h => h) (Or.inl ⟨by kernel_rfl, ?y1⟩) (by assumption) ?_
          case y1 => (intro w hSw; (try dsimp only at hSw); go_simp; all_goals with_reducible rfl)
          try simp only [Act.put, List.getElem_toArray, List.getElem_cons_zero, List.setIfInBounds_toArray, List.set_cons_zero, List.set_cons_succ]
          refine wpAnyH_take (i := 1) (v := (.bool true)) rfl (by kernel_rfl) (by kernel_rfl) (by kernel_rfl) (fun _ _ _ h => h) (Or.inl ⟨by kernel_rfl, fun w hSw => by first | (go_simp; done) | (go_simp; with_reducible rfl) | (go_simp; omega)⟩) (by assumption) ?_
          try simp only [Act.put, List.getElem_toArray, List.getElem_cons_succ, List.getElem_cons_zero, List.setIfInBounds_toArray, List.set_cons_zero, List.set_cons_succ]
          refine wpAnyH_take (i := 2) (v := (.bool true)) rfl (by kernel_rfl) (by kernel_rfl) (by kernel_rfl) (fun _ _ _ h => h) (Or.inl ⟨by kernel_rfl, fun w hSw => by first | (go_simp; done) | (go_simp; with_reducible rfl) | (go_simp; omega)⟩) (by assumption) ?_
          try simp only [Act.put, List.getElem_toArray, List.getElem_cons_succ, List.getElem_cons_zero, List.setIfInBounds_toArray, List.set_cons_zero, List.set_cons_succ]
          refine wpAnyH_take (i := 3) (v := ?v2) rfl (by kernel_rfl) (by kernel_rfl) (by kernel_rfl) (fun _ _ _ h => h) (Or.inl ⟨by kernel_rfl, ?y2⟩) (by assumption) ?_
          case y2 => (intro w hSw; (try dsimp only at hSw); go_simp; all_goals with_reducible rfl)
          try simp only [Act.put, List.getElem_toArray, List.getElem_cons_succ, List.getElem_cons_zero, List.setIfInBounds_toArray, List.set_cons_zero, List.set_cons_succ]
          refine wpAnyH_take (i := 4) (v := ?v3) rfl (by kernel_rfl) (by kernel_rfl) (by kernel_rfl) (fun _ _ _ h => h) (Or.inl ⟨by kernel_rfl, ?y3⟩) (by assumption) ?_
          case y3 => (intro w hSw; (try dsimp only at hSw); go_simp; all_goals with_reducible rfl)
          try simp only [Act.put, List.getElem_toArray, List.getElem_cons_succ, List.getElem_cons_zero, List.setIfInBounds_toArray, List.set_cons_zero, List.set_cons_succ]
          refine wpAnyH_take (i := 5) (v := ?v4) rfl (by kernel_rfl) (by kernel_rfl) (by kernel_rfl) (fun _ _ _ h => h) (Or.inl ⟨by kernel_rfl, ?y4⟩) (by assumption) ?_
          case y4 => (intro w hSw; (try dsimp only at hSw); go_simp; all_goals with_reducible rfl)
          try simp only [Act.put, List.getElem_toArray, List.getElem_cons_succ, List.getElem_cons_zero, List.setIfInBounds_toArray, List.set_cons_zero, List.set_cons_succ]
          refine wpAnyH_take (i := 6) (v := ?v5) rfl (by kernel_rfl) (by kernel_rfl) (by kernel_rfl) (fun _ _ _ h => h) (Or.inl ⟨by kernel_rfl, ?y5⟩) (by assumption) ?_
          case y5 => (intro w hSw; (try dsimp only at hSw); go_simp; all_goals with_reducible rfl)
          try simp only [Act.put, List.getElem_toArray, List.getElem_cons_succ, List.getElem_cons_zero, List.setIfInBounds_toArray, List.set_cons_zero, List.set_cons_succ]
          refine wpAnyH_take (i := 7) (v := ?v6) rfl (by kernel_rfl) (by kernel_rfl) (by kernel_rfl) (fun _ _ _ h => h) (Or.inl ⟨by kernel_rfl, ?y6⟩) (by assumption) ?_
          case y6 => (intro w hSw; (try dsimp only at hSw); go_simp; all_goals with_reducible rfl)
          try simp only [Act.put, List.getElem_toArray, List.getElem_cons_succ, List.getElem_cons_zero, List.setIfInBounds_toArray, List.set_cons_zero, List.set_cons_succ]
          refine wpAnyH_take (i := 8) (v := ?v7) rfl (by kernel_rfl) (by kernel_rfl) (by kernel_rfl) (fun _ _ _ h => h) (Or.inl ⟨by kernel_rfl, ?y7⟩) (by assumption) ?_
          case y7 => (intro w hSw; (try dsimp only at hSw); go_simp; all_goals with_reducible rfl)
          try simp only [Act.put, List.getElem_toArray, List.getElem_cons_succ, List.getElem_cons_zero, List.setIfInBounds_toArray, List.set_cons_zero, List.set_cons_succ]
          refine wpAnyH_ready (rs := [9]) (by kernel_rfl) (by simp) (AllReadyH.cons rfl (fun K hK => ?_) AllReadyH.nil)
          go_simp
          go_at_call 71
          refine (follows_ok _ _ _ _ _ _ _ _ _ _ _ _).mono ?_
          rintro e W1 ⟨rfl, f⟩
          have FW := kf f hHeld.2.2.2.2.2.2.2.2.2.2
          dsimp only
          refine hK.out _ _ ?_ (fun hHeld => ?_)
          · (try dsimp only); (first | (go_split_ands; exact ⟨kc f (by assumption), kc f (by assumption), kc f (by assumption), kc f (by assumption), kc f (by assumption), kc f (by assumption), kc f (by assumption), kc f (by assumption), kc f (by assumption), kc f (by assumption), by assumption⟩) | (go_split_ands; exact ⟨(by assumption), (by assumption), (by assumption), (by assumption), (by assumption), (by assumption), (by assumption), (by assumption), (by assumption), (by assumption), by assumption⟩) | (go_split_ands; exact ⟨kc (fr1 _ _) (by assumption), kc (fr1 _ _) (by assumption), kc (fr1 _ _) (by assumption), kc (fr1 _ _) (by assumption), kc (fr1 _ _) (by assumption), kc (fr1 _ _) (by assumption), kc (fr1 _ _) (by assumption), kc (fr1 _ _) (by assumption), kc (fr1 _ _) (by assumption), kc (fr1 _ _) (by assumption), kfa (by assumption)⟩))
          clear hK K
          try simp only [Act.put, List.getElem_toArray, List.getElem_cons_succ, List.getElem_cons_zero, List.setIfInBounds_toArray, List.set_cons_zero, List.set_cons_succ]
          refine wpAnyH_take (i := 10) (v := ?v8) rfl (by kernel_rfl) (by kernel_rfl) (by kernel_rfl) (fun _ _ _ h => h) (Or.inl ⟨by kernel_rfl, ?y8⟩) (by assumption) ?_
          case y8 => (intro w hSw; (try dsimp only at hSw); go_simp; all_goals with_reducible rfl)
          try simp only [Act.put, List.getElem_toArray, List.getElem_cons_succ, List.getElem_cons_zero, List.setIfInBounds_toArray, List.set_cons_zero, List.set_cons_succ]
          refine wpAnyH_take (i := 11) (v := ?v9) rfl (by kernel_rfl) (by kernel_rfl) (by kernel_rfl) (fun _ _ _ h => h) (Or.inl ⟨by kernel_rfl, ?y9⟩) (by assumption) ?_
          case y9 => (intro w hSw; (try dsimp only at hSw); go_simp; all_goals with_reducible rfl)
          try simp only [Act.put, List.getElem_toArray, List.getElem_cons_succ, List.getElem_cons_zero, List.setIfInBounds_toArray, List.set_cons_zero, List.set_cons_succ]
          refine wpAnyH_done (by kernel_rfl) ?_ _
          refine NoPanic.normal ?_
          go_split_ands
          obtain ⟨HF3, s4⟩ : Hid (Fr No wr _) ∧ World.cell? _ ⟨wr.heap.size, 4, none⟩ = some (.slice vA vn vc) := ⟨by assumption, by assumption⟩
          have HD3 := hid (HDk.out.fr HF3.out (fun _ _ h => h))
          have HE3 := hid (HE.out.fr HF3.out)
          clear r0 r1 r2 r3 r4 HB FW
          --END
          go_wp2_with (refine app_d rfl (.tmp 46) (.tmp 48) rfl w.heap.size (.slice A1 (ds (rs.take k)).length k1) (ds (rs.take k)) rfl HD3.out vA vn vc r.l rfl HE3.out (by have := HLN.out; have := HE3.out.1; have := HL6.out; omega) (by have := (HFk.out.trans HF3.out).size; omega) ?_; intro A2 k2 W5 hown hf5; have HO5 := hid hown; have HF5 := hid (HFk.out.step ((HF3.out.mono (T := fun q => (Value.slice A1 (ds (rs.take k)).length k1).ownBlock = some q) fun _ _ h => h.elim).trans hf5) (fun i hi h => by have := (own_ge HD3.out i h).1; omega)); clear hown hf5)
          go_roundw
          case rel => exact ⟨k + 1, by omega, by go_num, by rw [ds_snoc HR.out]; exact dout_len HO5.out (by rw [List.length_append, HE3.out.1]), HF5.out⟩
          case measure => simp [intOf]; omega
        · obtain rfl : vb = false := by rw [hbv, decide_eq_false hlast]
          obtain rfl := hsix (by omega)
          have hqz : ((k : Int) == (rs.length : Int) - 1) = false := by simp; omega
          have HP3 := hid hp3; clear hpv hsix hbv hp1 hm hp3 HC hv; have HLST := hid hlast; clear hlast
          go_wp2_with fail
          obtain ⟨W2, hW2⟩ : ∃ W2, wr.alloc (rx ve (ps + 1) false vu vA 6 vc) = W2 := ⟨_, rfl⟩
          have HB := hid (show RB W2 wr.heap.size ve (ps + 1) false vu vA 6 vc by rw [← hW2]; exact Blk.new wr _ _)
          have HF2 := hid (show Fr No wr W2 by rw [← hW2]; exact (Fr.refl No wr).alloc _)
          rw [show wr.alloc (Obj.cells #[Value.int IntKind.i64 ve, Value.int IntKind.i64 (ps + 1), Value.bool false, Value.int IntKind.i64 vu, Value.slice vA 6 vc] 48) = W2 from hW2]
          clear hW2
          obtain ⟨r0, r1, r2, r3, r4⟩ := RB.cells HB.out
          obtain ⟨e0, e1, e2, e3, e4⟩ : W2.cell? ⟨g, o + m * 5, none⟩ = some (.int .i64 ve) ∧ W2.cell? ⟨g, o + m * 5 + 1, none⟩ = some (.int .i64 ps) ∧ W2.cell? ⟨g, o + m * 5 + 2, none⟩ = some (.bool pb) ∧ W2.cell? ⟨g, o + m * 5 + 3, none⟩ = some (.int .i64 vu) ∧ W2.cell? ⟨g, o + m * 5 + 4, none⟩ = some (.slice pA pn pc) := ⟨HF2.out.cell_some d0 (fun h => h), HF2.out.cell_some d1 (fun h => h), HF2.out.cell_some d2 (fun h => h), HF2.out.cell_some d3 (fun h => h), HF2.out.cell_some d4 (fun h => h)⟩
          --REG
          have FW := HF2
          have FW := kd FW
          refine wp_region_noPanic ?_
          refine wp_region_held_drew (S := (fun W' => W'.cell? ⟨wr.heap.size, 0, none⟩ = some (.int .i64 ve) ∧ W'.cell? ⟨wr.heap.size, 1, none⟩ = some (.int .i64 (ps + 1)) ∧ W'.cell? ⟨wr.heap.size, 2, none⟩ = some (.bool false) ∧ W'.cell? ⟨wr.heap.size, 3, none⟩ = some (.int .i64 vu) ∧ W'.cell? ⟨wr.heap.size, 4, none⟩ = some (.slice vA 6 vc) ∧ W'.cell? ⟨g, o + m * 5, none⟩ = some (.int .i64 ve) ∧ W'.cell? ⟨g, o + m * 5 + 1, none⟩ = some (.int .i64 ps) ∧ W'.cell? ⟨g, o + m * 5 + 2, none⟩ = some (.bool pb) ∧ W'.cell? ⟨g, o + m * 5 + 3, none⟩ = some (.int .i64 vu) ∧ W'.cell? ⟨g, o + m * 5 + 4, none⟩ = some (.slice pA pn pc) ∧ Hid (Fr No wr W'))) (by kernel_rfl) ?_ (fun hHeld => ?_)
          · (try dsimp only); (first | (go_split_ands; exact ⟨kc f (by assumption), kc f (by assumption), kc f (by assumption), kc f (by assumption), kc f (by assumption), kc f (by assumption), kc f (by assumption), kc f (by assumption), kc f (by assumption), kc f (by assumption), by assumption⟩) | (go_split_ands; exact ⟨(by assumption), (by assumption), (by assumption), (by assumption), (by assumption), (by assumption), (by assumption), (by assumption), (by assumption), (by assumption), by assumption⟩) | (go_split_ands; exact ⟨kc (fr1 _ _) (by assumption), kc (fr1 _ _) (by assumption), kc (fr1 _ _) (by assumption), kc (fr1 _ _) (by assumption), kc (fr1 _ _) (by assumption), kc (fr1 _ _) (by assumption), kc (fr1 _ _) (by assumption), kc (fr1 _ _) (by assumption), kc (fr1 _ _) (by assumption), kc (fr1 _ _) (by assumption), kfa (by assumption)⟩))
          refine wpAnyH_take (i := 0) (v := ?v10) rfl (by kernel_rfl) (by kernel_rfl) (by kernel_rfl) (fun _ _ _ h => h) (Or.inl ⟨by kernel_rfl, ?y10⟩) (by assumption) ?_
          case y10 => (intro w hSw; (try dsimp only at hSw); go_simp; all_goals with_reducible rfl)
          try simp only [Act.put, List.getElem_toArray, List.getElem_cons_zero, List.setIfInBounds_toArray, List.set_cons_zero, List.set_cons_succ]
          refine wpAnyH_take (i := 1) (v := (.bool true)) rfl (by kernel_rfl) (by kernel_rfl) (by kernel_rfl) (fun _ _ _ h => h) (Or.inl ⟨by kernel_rfl, fun w hSw => by first | (go_simp; done) | (go_simp; with_reducible rfl) | (go_simp; omega)⟩) (by assumption) ?_
          try simp only [Act.put, List.getElem_toArray, List.getElem_cons_succ, List.getElem_cons_zero, List.setIfInBounds_toArray, List.set_cons_zero, List.set_cons_succ]
          refine wpAnyH_take (i := 2) (v := (.bool true)) rfl (by kernel_rfl) (by kernel_rfl) (by kernel_rfl) (fun _ _ _ h => h) (Or.inl ⟨by kernel_rfl, fun w hSw => by first | (go_simp; done) | (go_simp; with_reducible rfl) | (go_simp; omega)⟩) (by assumption) ?_
          try simp only [Act.put, List.getElem_toArray, List.getElem_cons_succ, List.getElem_cons_zero, List.setIfInBounds_toArray, List.set_cons_zero, List.set_cons_succ]
          refine wpAnyH_take (i := 3) (v := ?v11) rfl (by kernel_rfl) (by kernel_rfl) (by kernel_rfl) (fun _ _ _ h => h) (Or.inl ⟨by kernel_rfl, ?y11⟩) (by assumption) ?_
          case y11 => (intro w hSw; (try dsimp only at hSw); go_simp; all_goals with_reducible rfl)
          try simp only [Act.put, List.getElem_toArray, List.getElem_cons_succ, List.getElem_cons_zero, List.setIfInBounds_toArray, List.set_cons_zero, List.set_cons_succ]
          refine wpAnyH_take (i := 4) (v := ?v12) rfl (by kernel_rfl) (by kernel_rfl) (by kernel_rfl) (fun _ _ _ h => h) (Or.inl ⟨by kernel_rfl, ?y12⟩) (by assumption) ?_
          case y12 => (intro w hSw; (try dsimp only at hSw); go_simp; all_goals with_reducible rfl)
          try simp only [Act.put, List.getElem_toArray, List.getElem_cons_succ, List.getElem_cons_zero, List.setIfInBounds_toArray, List.set_cons_zero, List.set_cons_succ]
          refine wpAnyH_take (i := 5) (v := ?v13) rfl (by kernel_rfl) (by kernel_rfl) (by kernel_rfl) (fun _ _ _ h => h) (Or.inl ⟨by kernel_rfl, ?y13⟩) (by assumption) ?_
          case y13 => (intro w hSw; (try dsimp only at hSw); go_simp; all_goals with_reducible rfl)
          try simp only [Act.put, List.getElem_toArray, List.getElem_cons_succ, List.getElem_cons_zero, List.setIfInBounds_toArray, List.set_cons_zero, List.set_cons_succ]
          refine wpAnyH_take (i := 6) (v := ?v14) rfl (by kernel_rfl) (by kernel_rfl) (by kernel_rfl) (fun _ _ _ h => h) (Or.inl ⟨by kernel_rfl, ?y14⟩) (by assumption) ?_
          case y14 => (intro w hSw; (try dsimp only at hSw); go_simp; all_goals with_reducible rfl)
          try simp only [Act.put, List.getElem_toArray, List.getElem_cons_succ, List.getElem_cons_zero, List.setIfInBounds_toArray, List.set_cons_zero, List.set_cons_succ]
          refine wpAnyH_take (i := 7) (v := ?v15) rfl (by kernel_rfl) (by kernel_rfl) (by kernel_rfl) (fun _ _ _ h => h) (Or.inl ⟨by kernel_rfl, ?y15⟩) (by assumption) ?_
          case y15 => (intro w hSw; (try dsimp only at hSw); go_simp; all_goals with_reducible rfl)
          try simp only [Act.put, List.getElem_toArray, List.getElem_cons_succ, List.getElem_cons_zero, List.setIfInBounds_toArray, List.set_cons_zero, List.set_cons_succ]
          refine wpAnyH_take (i := 8) (v := ?v16) rfl (by kernel_rfl) (by kernel_rfl) (by kernel_rfl) (fun _ _ _ h => h) (Or.inl ⟨by kernel_rfl, ?y16⟩) (by assumption) ?_
          case y16 => (intro w hSw; (try dsimp only at hSw); go_simp; all_goals with_reducible rfl)
          try simp only [Act.put, List.getElem_toArray, List.getElem_cons_succ, List.getElem_cons_zero, List.setIfInBounds_toArray, List.set_cons_zero, List.set_cons_succ]
          refine wpAnyH_ready (rs := [9]) (by kernel_rfl) (by simp) (AllReadyH.cons rfl (fun K hK => ?_) AllReadyH.nil)
          go_simp
          go_at_call 71
          refine (follows_ok _ _ _ _ _ _ _ _ _ _ _ _).mono ?_
          rintro e W1 ⟨rfl, f⟩
          have FW := kf f hHeld.2.2.2.2.2.2.2.2.2.2
          dsimp only
          refine hK.out _ _ ?_ (fun hHeld => ?_)
          · (try dsimp only); (first | (go_split_ands; exact ⟨kc f (by assumption), kc f (by assumption), kc f (by assumption), kc f (by assumption), kc f (by assumption), kc f (by assumption), kc f (by assumption), kc f (by assumption), kc f (by assumption), kc f (by assumption), by assumption⟩) | (go_split_ands; exact ⟨(by assumption), (by assumption), (by assumption), (by assumption), (by assumption), (by assumption), (by assumption), (by assumption), (by assumption), (by assumption), by assumption⟩) | (go_split_ands; exact ⟨kc (fr1 _ _) (by assumption), kc (fr1 _ _) (by assumption), kc (fr1 _ _) (by assumption), kc (fr1 _ _) (by assumption), kc (fr1 _ _) (by assumption), kc (fr1 _ _) (by assumption), kc (fr1 _ _) (by assumption), kc (fr1 _ _) (by assumption), kc (fr1 _ _) (by assumption), kc (fr1 _ _) (by assumption), kfa (by assumption)⟩))
          clear hK K
          try simp only [Act.put, List.getElem_toArray, List.getElem_cons_succ, List.getElem_cons_zero, List.setIfInBounds_toArray, List.set_cons_zero, List.set_cons_succ]
          refine wpAnyH_take (i := 10) (v := ?v17) rfl (by kernel_rfl) (by kernel_rfl) (by kernel_rfl) (fun _ _ _ h => h) (Or.inl ⟨by kernel_rfl, ?y17⟩) (by assumption) ?_
          case y17 => (intro w hSw; (try dsimp only at hSw); go_simp; all_goals with_reducible rfl)
          try simp only [Act.put, List.getElem_toArray, List.getElem_cons_succ, List.getElem_cons_zero, List.setIfInBounds_toArray, List.set_cons_zero, List.set_cons_succ]
          refine wpAnyH_take (i := 11) (v := ?v18) rfl (by kernel_rfl) (by kernel_rfl) (by kernel_rfl) (fun _ _ _ h => h) (Or.inl ⟨by kernel_rfl, ?y18⟩) (by assumption) ?_
          case y18 => (intro w hSw; (try dsimp only at hSw); go_simp; all_goals with_reducible rfl)
          try simp only [Act.put, List.getElem_toArray, List.getElem_cons_succ, List.getElem_cons_zero, List.setIfInBounds_toArray, List.set_cons_zero, List.set_cons_succ]
          refine wpAnyH_done (by kernel_rfl) ?_ _
          refine NoPanic.normal ?_
          go_split_ands
          obtain ⟨HF3, s4⟩ : Hid (Fr No wr _) ∧ World.cell? _ ⟨wr.heap.size, 4, none⟩ = some (.slice vA 6 vc) := ⟨by assumption, by assumption⟩
          have HD3 := hid (HDk.out.fr HF3.out (fun _ _ h => h))
          have HE3 := hid (HE.out.fr HF3.out)
          clear r0 r1 r2 r3 r4 HB FW
          --END
          go_wp2_with (refine app_d rfl (.tmp 46) (.tmp 48) rfl w.heap.size (.slice A1 (ds (rs.take k)).length k1) (ds (rs.take k)) rfl HD3.out vA 6 vc r.l rfl HE3.out (by have := HLN.out; have := HE3.out.1; have := HL6.out; omega) (by have := (HFk.out.trans HF3.out).size; omega) ?_; intro A2 k2 W5 hown hf5; have HO5 := hid hown; have HF5 := hid (HFk.out.step ((HF3.out.mono (T := fun q => (Value.slice A1 (ds (rs.take k)).length k1).ownBlock = some q) fun _ _ h => h.elim).trans hf5) (fun i hi h => by have := (own_ge HD3.out i h).1; omega)); clear hown hf5)
          go_roundw
          case rel => exact ⟨k + 1, by omega, by go_num, by rw [ds_snoc HR.out]; exact dout_len HO5.out (by rw [List.length_append, HE3.out.1]), HF5.out⟩
          case measure => simp [intOf]; omega
      · have hkz : ¬ (0 : Int) < (k : Int) := by omega
        by_cases hlast : k + 1 = rs.length
        · obtain rfl : vb = true := by rw [hbv, decide_eq_true hlast]
          have hlz : (rs.length : Int) - 1 = (k : Int) := by omega
          clear hpv hsix hbv HC hv; have HLST := hid hlast; clear hlast
          go_wp2_with fail
          obtain ⟨W2, hW2⟩ : ∃ W2, wr.alloc (rx ve vss true vu vA vn vc) = W2 := ⟨_, rfl⟩
          have HB := hid (show RB W2 wr.heap.size ve vss true vu vA vn vc by rw [← hW2]; exact Blk.new wr _ _)
          have HF2 := hid (show Fr No wr W2 by rw [← hW2]; exact (Fr.refl No wr).alloc _)
          rw [show wr.alloc (Obj.cells #[Value.int IntKind.i64 ve, Value.int IntKind.i64 vss, Value.bool true, Value.int IntKind.i64 vu, Value.slice vA vn vc] 48) = W2 from hW2]
          clear hW2
          obtain ⟨r0, r1, r2, r3, r4⟩ := RB.cells HB.out
          --REG
          have FW := HF2
          have FW := kd FW
          refine wp_region_noPanic ?_
          refine wp_region_held_drew (S := (fun W' => W'.cell? ⟨wr.heap.size, 0, none⟩ = some (.int .i64 ve) ∧ W'.cell? ⟨wr.heap.size, 1, none⟩ = some (.int .i64 vss) ∧ W'.cell? ⟨wr.heap.size, 2, none⟩ = some (.bool true) ∧ W'.cell? ⟨wr.heap.size, 3, none⟩ = some (.int .i64 vu) ∧ W'.cell? ⟨wr.heap.size, 4, none⟩ = some (.slice vA vn vc) ∧ Hid (Fr No wr W'))) (by kernel_rfl) ?_ (fun hHeld => ?_)
          · (try dsimp only); (first | (go_split_ands; exact ⟨kc f (by assumption), kc f (by assumption), kc f (by assumption), kc f (by assumption), kc f (by assumption), by assumption⟩) | (go_split_ands; exact ⟨(by assumption), (by assumption), (by assumption), (by assumption), (by assumption), by assumption⟩) | (go_split_ands; exact ⟨kc (fr1 _ _) (by assumption), kc (fr1 _ _) (by assumption), kc (fr1 _ _) (by assumption), kc (fr1 _ _) (by assumption), kc (fr1 _ _) (by assumption), kfa (by assumption)⟩))
          refine wpAnyH_take (i := 0) (v := ?v19) rfl (by kernel_rfl) (by kernel_rfl) (by kernel_rfl) (fun _ _ _ h => h) (Or.inl ⟨by kernel_rfl, ?y19⟩) (by assumption) ?_
          case y19 => (intro w hSw; (try dsimp only at hSw); go_simp; all_goals with_reducible rfl)
          try simp only [Act.put, List.getElem_toArray, List.getElem_cons_zero, List.setIfInBounds_toArray, List.set_cons_zero, List.set_cons_succ]
          refine wpAnyH_take (i := 1) (v := (.bool false)) rfl (by kernel_rfl) (by kernel_rfl) (by kernel_rfl) (fun _ _ _ h => h) (Or.inl ⟨by kernel_rfl, fun w hSw => by first | (go_simp; done) | (go_simp; with_reducible rfl) | (go_simp; omega)⟩) (by assumption) ?_
          try simp only [Act.put, List.getElem_toArray, List.getElem_cons_succ, List.getElem_cons_zero, List.setIfInBounds_toArray, List.set_cons_zero, List.set_cons_succ]
          refine wpAnyH_take (i := 2) (v := (.bool false)) rfl (by kernel_rfl) (by kernel_rfl) (by kernel_rfl) (fun _ _ _ h => h) (Or.inl ⟨by kernel_rfl, fun w hSw => by first | (go_simp; done) | (go_simp; with_reducible rfl) | (go_simp; omega)⟩) (by assumption) ?_
          try simp only [Act.put, List.getElem_toArray, List.getElem_cons_succ, List.getElem_cons_zero, List.setIfInBounds_toArray, List.set_cons_zero, List.set_cons_succ]
          refine wpAnyH_take (i := 3) (v := undef) rfl (by kernel_rfl) (by kernel_rfl) (by kernel_rfl) (fun _ _ _ h => h) (Or.inr ⟨by kernel_rfl, rfl⟩) (by assumption) ?_
          try simp only [Act.put, List.getElem_toArray, List.getElem_cons_succ, List.getElem_cons_zero, List.setIfInBounds_toArray, List.set_cons_zero, List.set_cons_succ]
          refine wpAnyH_take (i := 4) (v := undef) rfl (by kernel_rfl) (by kernel_rfl) (by kernel_rfl) (fun _ _ _ h => h) (Or.inr ⟨by kernel_rfl, rfl⟩) (by assumption) ?_
          try simp only [Act.put, List.getElem_toArray, List.getElem_cons_succ, List.getElem_cons_zero, List.setIfInBounds_toArray, List.set_cons_zero, List.set_cons_succ]
          refine wpAnyH_take (i := 5) (v := undef) rfl (by kernel_rfl) (by kernel_rfl) (by kernel_rfl) (fun _ _ _ h => h) (Or.inr ⟨by kernel_rfl, rfl⟩) (by assumption) ?_
          try simp only [Act.put, List.getElem_toArray, List.getElem_cons_succ, List.getElem_cons_zero, List.setIfInBounds_toArray, List.set_cons_zero, List.set_cons_succ]
          refine wpAnyH_take (i := 6) (v := undef) rfl (by kernel_rfl) (by kernel_rfl) (by kernel_rfl) (fun _ _ _ h => h) (Or.inr ⟨by kernel_rfl, rfl⟩) (by assumption) ?_
          try simp only [Act.put, List.getElem_toArray, List.getElem_cons_succ, List.getElem_cons_zero, List.setIfInBounds_toArray, List.set_cons_zero, List.set_cons_succ]
          refine wpAnyH_take (i := 7) (v := undef) rfl (by kernel_rfl) (by kernel_rfl) (by kernel_rfl) (fun _ _ _ h => h) (Or.inr ⟨by kernel_rfl, rfl⟩) (by assumption) ?_
          try simp only [Act.put, List.getElem_toArray, List.getElem_cons_succ, List.getElem_cons_zero, List.setIfInBounds_toArray, List.set_cons_zero, List.set_cons_succ]
          refine wpAnyH_take (i := 8) (v := undef) rfl (by kernel_rfl) (by kernel_rfl) (by kernel_rfl) (fun _ _ _ h => h) (Or.inr ⟨by kernel_rfl, rfl⟩) (by assumption) ?_
          try simp only [Act.put, List.getElem_toArray, List.getElem_cons_succ, List.getElem_cons_zero, List.setIfInBounds_toArray, List.set_cons_zero, List.set_cons_succ]
          refine wpAnyH_take (i := 9) (v := undef) rfl (by kernel_rfl) (by kernel_rfl) (by kernel_rfl) (fun _ _ _ h => h) (Or.inr ⟨by kernel_rfl, rfl⟩) (by assumption) ?_
          try simp only [Act.put, List.getElem_toArray, List.getElem_cons_succ, List.getElem_cons_zero, List.setIfInBounds_toArray, List.set_cons_zero, List.set_cons_succ]
          refine wpAnyH_take (i := 10) (v := undef) rfl (by kernel_rfl) (by kernel_rfl) (by kernel_rfl) (fun _ _ _ h => h) (Or.inr ⟨by kernel_rfl, rfl⟩) (by assumption) ?_
          try simp only [Act.put, List.getElem_toArray, List.getElem_cons_succ, List.getElem_cons_zero, List.setIfInBounds_toArray, List.set_cons_zero, List.set_cons_succ]
          refine wpAnyH_take (i := 11) (v := (.bool false)) rfl (by kernel_rfl) (by kernel_rfl) (by kernel_rfl) (fun _ _ _ h => h) (Or.inl ⟨by kernel_rfl, fun w hSw => by first | (go_simp; done) | (go_simp; with_reducible rfl) | (go_simp; omega)⟩) (by assumption) ?_
          try simp only [Act.put, List.getElem_toArray, List.getElem_cons_succ, List.getElem_cons_zero, List.setIfInBounds_toArray, List.set_cons_zero, List.set_cons_succ]
          refine wpAnyH_done (by kernel_rfl) ?_ _
          refine NoPanic.normal ?_
          go_split_ands
          obtain ⟨HF3, s4⟩ : Hid (Fr No wr _) ∧ World.cell? _ ⟨wr.heap.size, 4, none⟩ = some (.slice vA vn vc) := ⟨by assumption, by assumption⟩
          have HD3 := hid (HDk.out.fr HF3.out (fun _ _ h => h))
          have HE3 := hid (HE.out.fr HF3.out)
          clear r0 r1 r2 r3 r4 HB FW
          --END
          go_wp2_with (refine app_d rfl (.tmp 46) (.tmp 48) rfl w.heap.size (.slice A1 (ds (rs.take k)).length k1) (ds (rs.take k)) rfl HD3.out vA vn vc r.l rfl HE3.out (by have := HLN.out; have := HE3.out.1; have := HL6.out; omega) (by have := (HFk.out.trans HF3.out).size; omega) ?_; intro A2 k2 W5 hown hf5; have HO5 := hid hown; have HF5 := hid (HFk.out.step ((HF3.out.mono (T := fun q => (Value.slice A1 (ds (rs.take k)).length k1).ownBlock = some q) fun _ _ h => h.elim).trans hf5) (fun i hi h => by have := (own_ge HD3.out i h).1; omega)); clear hown hf5)
          go_roundw
          case rel => exact ⟨k + 1, by omega, by go_num, by rw [ds_snoc HR.out]; exact dout_len HO5.out (by rw [List.length_append, HE3.out.1]), HF5.out⟩
          case measure => simp [intOf]; omega
        · obtain rfl : vb = false := by rw [hbv, decide_eq_false hlast]
          obtain rfl := hsix (by omega)
          have hqz : ((k : Int) == (rs.length : Int) - 1) = false := by simp; omega
          clear hpv hsix hbv HC hv; have HLST := hid hlast; clear hlast
          go_wp2_with fail
          obtain ⟨W2, hW2⟩ : ∃ W2, wr.alloc (rx ve vss false vu vA 6 vc) = W2 := ⟨_, rfl⟩
          have HB := hid (show RB W2 wr.heap.size ve vss false vu vA 6 vc by rw [← hW2]; exact Blk.new wr _ _)
          have HF2 := hid (show Fr No wr W2 by rw [← hW2]; exact (Fr.refl No wr).alloc _)
          rw [show wr.alloc (Obj.cells #[Value.int IntKind.i64 ve, Value.int IntKind.i64 vss, Value.bool false, Value.int IntKind.i64 vu, Value.slice vA 6 vc] 48) = W2 from hW2]
          clear hW2
          obtain ⟨r0, r1, r2, r3, r4⟩ := RB.cells HB.out
          --REG
          have FW := HF2
          have FW := kd FW
          refine wp_region_noPanic ?_
          refine wp_region_held_drew (S := (fun W' => W'.cell? ⟨wr.heap.size, 0, none⟩ = some (.int .i64 ve) ∧ W'.cell? ⟨wr.heap.size, 1, none⟩ = some (.int .i64 vss) ∧ W'.cell? ⟨wr.heap.size, 2, none⟩ = some (.bool false) ∧ W'.cell? ⟨wr.heap.size, 3, none⟩ = some (.int .i64 vu) ∧ W'.cell? ⟨wr.heap.size, 4, none⟩ = some (.slice vA 6 vc) ∧ Hid (Fr No wr W'))) (by kernel_rfl) ?_ (fun hHeld => ?_)
          · (try dsimp only); (first | (go_split_ands; exact ⟨kc f (by assumption), kc f (by assumption), kc f (by assumption), kc f (by assumption), kc f (by assumption), by assumption⟩) | (go_split_ands; exact ⟨(by assumption), (by assumption), (by assumption), (by assumption), (by assumption), by assumption⟩) | (go_split_ands; exact ⟨kc (fr1 _ _) (by assumption), kc (fr1 _ _) (by assumption), kc (fr1 _ _) (by assumption), kc (fr1 _ _) (by assumption), kc (fr1 _ _) (by assumption), kfa (by assumption)⟩))
          refine wpAnyH_take (i := 0) (v := ?v20) rfl (by kernel_rfl) (by kernel_rfl) (by kernel_rfl) (fun _ _ _ h => h) (Or.inl ⟨by kernel_rfl, ?y20⟩) (by assumption) ?_
          case y20 => (intro w hSw; (try dsimp only at hSw); go_simp; all_goals with_reducible rfl)
          try simp only [Act.put, List.getElem_toArray, List.getElem_cons_zero, List.setIfInBounds_toArray, List.set_cons_zero, List.set_cons_succ]
          refine wpAnyH_take (i := 1) (v := (.bool false)) rfl (by kernel_rfl) (by kernel_rfl) (by kernel_rfl) (fun _ _ _ h => h) (Or.inl ⟨by kernel_rfl, fun w hSw => by first | (go_simp; done) | (go_simp; with_reducible rfl) | (go_simp; omega)⟩) (by assumption) ?_
          try simp only [Act.put, List.getElem_toArray, List.getElem_cons_succ, List.getElem_cons_zero, List.setIfInBounds_toArray, List.set_cons_zero, List.set_cons_succ]
          refine wpAnyH_take (i := 2) (v := (.bool false)) rfl (by kernel_rfl) (by kernel_rfl) (by kernel_rfl) (fun _ _ _ h => h) (Or.inl ⟨by kernel_rfl, fun w hSw => by first | (go_simp; done) | (go_simp; with_reducible rfl) | (go_simp; omega)⟩) (by assumption) ?_
          try simp only [Act.put, List.getElem_toArray, List.getElem_cons_succ, List.getElem_cons_zero, List.setIfInBounds_toArray, List.set_cons_zero, List.set_cons_succ]
          refine wpAnyH_take (i := 3) (v := undef) rfl (by kernel_rfl) (by kernel_rfl) (by kernel_rfl) (fun _ _ _ h => h) (Or.inr ⟨by kernel_rfl, rfl⟩) (by assumption) ?_
          try simp only [Act.put, List.getElem_toArray, List.getElem_cons_succ, List.getElem_cons_zero, List.setIfInBounds_toArray, List.set_cons_zero, List.set_cons_succ]
          refine wpAnyH_take (i := 4) (v := undef) rfl (by kernel_rfl) (by kernel_rfl) (by kernel_rfl) (fun _ _ _ h => h) (Or.inr ⟨by kernel_rfl, rfl⟩) (by assumption) ?_
          try simp only [Act.put, List.getElem_toArray, List.getElem_cons_succ, List.getElem_cons_zero, List.setIfInBounds_toArray, List.set_cons_zero, List.set_cons_succ]
          refine wpAnyH_take (i := 5) (v := undef) rfl (by kernel_rfl) (by kernel_rfl) (by kernel_rfl) (fun _ _ _ h => h) (Or.inr ⟨by kernel_rfl, rfl⟩) (by assumption) ?_
          try simp only [Act.put, List.getElem_toArray, List.getElem_cons_succ, List.getElem_cons_zero, List.setIfInBounds_toArray, List.set_cons_zero, List.set_cons_succ]
          refine wpAnyH_take (i := 6) (v := undef) rfl (by kernel_rfl) (by kernel_rfl) (by kernel_rfl) (fun _ _ _ h => h) (Or.inr ⟨by kernel_rfl, rfl⟩) (by assumption) ?_
          try simp only [Act.put, List.getElem_toArray, List.getElem_cons_succ, List.getElem_cons_zero, List.setIfInBounds_toArray, List.set_cons_zero, List.set_cons_succ]
          refine wpAnyH_take (i := 7) (v := undef) rfl (by kernel_rfl) (by kernel_rfl) (by kernel_rfl) (fun _ _ _ h => h) (Or.inr ⟨by kernel_rfl, rfl⟩) (by assumption) ?_
          try simp only [Act.put, List.getElem_toArray, List.getElem_cons_succ, List.getElem_cons_zero, List.setIfInBounds_toArray, List.set_cons_zero, List.set_cons_succ]
          refine wpAnyH_take (i := 8) (v := undef) rfl (by kernel_rfl) (by kernel_rfl) (by kernel_rfl) (fun _ _ _ h => h) (Or.inr ⟨by kernel_rfl, rfl⟩) (by assumption) ?_
          try simp only [Act.put, List.getElem_toArray, List.getElem_cons_succ, List.getElem_cons_zero, List.setIfInBounds_toArray, List.set_cons_zero, List.set_cons_succ]
          refine wpAnyH_take (i := 9) (v := undef) rfl (by kernel_rfl) (by kernel_rfl) (by kernel_rfl) (fun _ _ _ h => h) (Or.inr ⟨by kernel_rfl, rfl⟩) (by assumption) ?_
          try simp only [Act.put, List.getElem_toArray, List.getElem_cons_succ, List.getElem_cons_zero, List.setIfInBounds_toArray, List.set_cons_zero, List.set_cons_succ]
          refine wpAnyH_take (i := 10) (v := undef) rfl (by kernel_rfl) (by kernel_rfl) (by kernel_rfl) (fun _ _ _ h => h) (Or.inr ⟨by kernel_rfl, rfl⟩) (by assumption) ?_
          try simp only [Act.put, List.getElem_toArray, List.getElem_cons_succ, List.getElem_cons_zero, List.setIfInBounds_toArray, List.set_cons_zero, List.set_cons_succ]
          refine wpAnyH_take (i := 11) (v := (.bool false)) rfl (by kernel_rfl) (by kernel_rfl) (by kernel_rfl) (fun _ _ _ h => h) (Or.inl ⟨by kernel_rfl, fun w hSw => by first | (go_simp; done) | (go_simp; with_reducible rfl) | (go_simp; omega)⟩) (by assumption) ?_
          try simp only [Act.put, List.getElem_toArray, List.getElem_cons_succ, List.getElem_cons_zero, List.setIfInBounds_toArray, List.set_cons_zero, List.set_cons_succ]
          refine wpAnyH_done (by kernel_rfl) ?_ _
          refine NoPanic.normal ?_
          go_split_ands
          obtain ⟨HF3, s4⟩ : Hid (Fr No wr _) ∧ World.cell? _ ⟨wr.heap.size, 4, none⟩ = some (.slice vA 6 vc) := ⟨by assumption, by assumption⟩
          have HD3 := hid (HDk.out.fr HF3.out (fun _ _ h => h))
          have HE3 := hid (HE.out.fr HF3.out)
          clear r0 r1 r2 r3 r4 HB FW
          --END
          go_wp2_with (refine app_d rfl (.tmp 46) (.tmp 48) rfl w.heap.size (.slice A1 (ds (rs.take k)).length k1) (ds (rs.take k)) rfl HD3.out vA 6 vc r.l rfl HE3.out (by have := HLN.out; have := HE3.out.1; have := HL6.out; omega) (by have := (HFk.out.trans HF3.out).size; omega) ?_; intro A2 k2 W5 hown hf5; have HO5 := hid hown; have HF5 := hid (HFk.out.step ((HF3.out.mono (T := fun q => (Value.slice A1 (ds (rs.take k)).length k1).ownBlock = some q) fun _ _ h => h.elim).trans hf5) (fun i hi h => by have := (own_ge HD3.out i h).1; omega)); clear hown hf5)
          go_roundw
          case rel => exact ⟨k + 1, by omega, by go_num, by rw [ds_snoc HR.out]; exact dout_len HO5.out (by rw [List.length_append, HE3.out.1]), HF5.out⟩
          case measure => simp [intOf]; omega
    · obtain rfl : k = rs.length := by omega
      have HF := hid hf
      rw [List.take_length] at hd
      obtain ⟨A1, k1, rfl⟩ := hd.form
      have hd2 := hid (hd.rd rfl)
      clear hf hd
      have hn2 : (0 : Int) < rs.length := by omega
      go_wp2
      go_ret2
      exact ⟨A1, k1, rfl, hd2.out, HF.out⟩
end Go.Proofs.YtdepkpdolkipcaaDoor.RcF
