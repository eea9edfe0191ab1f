/- Contracts: a group of deltas, cut into records by an iterator, by the program. Condition: the deltas read as a list. -/
import Derived.Test.YtdepkpdolkipcaaDoorRcC
import Derived.Test.YtdepkpdolkipcaaDoorRgF
import Derived.Test.YtdepkpdolkipcaaDoorDlO
import Derived.OwnWalkIn
import Derived.TacticsInMore
import Derived.LoopNIn
import Derived.LoopIn
namespace Go.Proofs.YtdepkpdolkipcaaDoor.RcD
open Go.RowKit MSep MSepC RcM RcA RcB RcC DlO RgF

attribute [local go_sem] Oper.semAt_some

def nd (n : Nat) : Nat := (need n).toNat
theorem nd_pos (n : Nat) : 0 < nd n := by unfold nd need; split <;> (try split) <;> omega
theorem need_nd (n : Nat) : need n = (nd n : Int) := by unfold nd need; split <;> (try split) <;> omega
theorem nd_lt (n i : Nat) (h : i < nd n) : 6 * i ≤ n ∧ (0 < i → 6 * i < n) ∧ (n ≤ 6 * i + 6 ↔ i + 1 = nd n) := by
  unfold nd need at *
  split at h
  · omega
  · split at h
    · rename_i h1 h2
      simp only [h2, if_true]
      omega
    · rename_i h1 h2
      simp only [h1, h2, if_false]
      omega
/-- The i-th six deltas; the i-th record. -/
def chunk (xs : List De) (i : Nat) : List De := (xs.drop (6 * i)).take 6
def rcI (xs : List De) (e s u : Int) (i : Nat) : Rc := ⟨e, wrap64 (s + i), decide (i + 1 = nd xs.length), u, chunk xs i⟩

set_option maxRecDepth 100000 in
theorem cut_ok (A : Option Addr) (l c : Nat) (e s u : Int) (w : World) :
    Calls Tryd.prog 70 #[.slice A l c, .int .i64 e, .int .i64 s, .int .i64 u] w fun E w' =>
      E = .returned (.func (.func 85) #[] #[.pointer (some ⟨w.heap.size, 0, none⟩), .pointer (some ⟨w.heap.size + 1, 0, none⟩), .pointer (some ⟨w.heap.size + 1 + 1, 0, none⟩), .pointer (some ⟨w.heap.size + 1 + 1 + 1, 0, none⟩)]) ∧
      w' = (((w.alloc (.cells #[.slice A l c] 46)).alloc (.cells #[.int .i64 e] 3)).alloc (.cells #[.int .i64 s] 3)).alloc (.cells #[.int .i64 u] 3) := by
  go_enter Tryd.func70, Tryd.ntmps70
  go_wp2
  go_ret
  exact ⟨rfl, rfl⟩
theorem rdD_fr {S : Nat → Prop} {w w' : World} {A : Option Addr} {n : Nat} {l : List De} (h : RdD w A n l) (hf : Fr S w w') (hn : 0 < n → ∀ g o, A = some ⟨g, o, none⟩ → ¬ S g) : RdD w' A n l := by
  by_cases h0 : 0 < n
  · exact ⟨h.1, h.2.fr hf (hn h0)⟩
  · obtain rfl : n = 0 := by omega
    obtain rfl : l = [] := List.eq_nil_of_length_eq_zero h.1
    exact RdD.nil _ _
/-- The address of 'l[k:]', elements of five cells. -/
def cutK (A : Option Addr) (c k : Nat) : Option Addr := if c = k then A else A.map (·.add (k * 5))
theorem slice_d (A : Option Addr) (n c fr t : Nat) (h1 : fr ≤ t) (h2 : t ≤ c) (W : World) : (Instr.sliceAt 46 (.slice A n c) (some (.int .i64 fr)) (some (.int .i64 t)) none).run Tryd.prog W = .ok (.slice (cutK A c fr) (t - fr) (c - fr)) W := by
  obtain ⟨i0, z0, hi, hz0, hz1, hz2, hz3⟩ := infoD
  have e1 : (fr : Int) ≤ t := by omega
  have e2 : (t : Int) ≤ c := by omega
  simp [Instr.sliceAt, Instr.slice, run_underlying Tryd.underlying46, Instr.sliceBounds, run_sliceBound, sizeOf, typeInfo, hi, hz1, Result.andThen, e1, e2, cutK]
theorem chunk_rd {w w' : World} {A : Option Addr} {c : Nat} {xs : List De} (h : RdD w A xs.length xs) (f : Fr No w w') (t fr i : Nat) (h1 : fr ≤ t) (h2 : t ≤ xs.length) (h3 : 6 * i = fr ∧ (t = fr + 6 ∨ t < fr + 6 ∧ t = xs.length)) (hc : xs.length ≤ c) : RdD w' (cutK A c fr) (t - fr) (chunk xs i) := by
  have h := h.fr f
  obtain ⟨h3, h4⟩ := h3
  have hl : (chunk xs i).length = t - fr := by
    unfold chunk
    rw [List.length_take, List.length_drop, h3]
    omega
  refine ⟨hl, by rw [cs5_len, hl], fun hn => ?_⟩
  obtain ⟨g, o, rfl, hg, hcell⟩ := h.2.2 (by omega)
  unfold cutK
  rw [if_neg (by omega)]
  refine ⟨g, o + fr * 5, by simp [add_off], hg, fun j u hu => ?_⟩
  rw [Nat.add_assoc]
  refine hcell _ u ?_
  unfold chunk at hu
  rw [← cs5_take, ← cs5_drop, List.getElem?_take] at hu
  split at hu
  · rw [List.getElem?_drop] at hu
    rw [h3] at hu
    exact hu
  · cases hu
/-- What the i-th round is handed. -/
def XC (xs : List De) (e s u : Int) (M : Nat) (i : Nat) (vs : Array Value) (W : World) : Prop :=
  ∃ A' n' c', vs = #[rv e (wrap64 (s + i)) (decide (i + 1 = nd xs.length)) u A' n' c'] ∧ RdD W A' n' (chunk xs i) ∧ ∀ g o, A' = some ⟨g, o, none⟩ → M ≤ g ∧ ∃ cs, Blk W g 58 cs
theorem app_v_in {F : Fence} {n : Nat} {w : World} {ops : Array Oper} {rest : List Oper} {o : Oper} {a : Act} {Q : Exit → Act → World → Prop} (hgd : o.guard = none) (s x : Operand)
    (ho : o.op = .call { callee := .builtin .append, args := #[s, x], argTypes := #[61, 61] })
    (B : Nat) (v : Value) (l : List RV) (hs : a.eval s = v) (hown : VOut B w v l)
    (A : Option Addr) (m c : Nat) (news : List RV) (hx : a.eval x = .slice A m c) (hr : RdV w A m news)
    (hlim : l.length + m ≤ 1000000000000) (hbase : B ≤ w.heap.size)
    (h : ∀ A' c' w', VOut B w' (.slice A' (l.length + m) c') (l ++ news) → Fr (fun q => v.ownBlock = some q) w w' → wpListIn F n Tryd.prog ops Q rest (a.put o.dst (.slice A' (l.length + m) c')) w') :
    wpListIn F n Tryd.prog ops Q (o :: rest) a w := by
  refine wpListIn_plain hgd fun K hK' => ?_
  obtain ⟨A', c', w', hrun, h2, h3⟩ := run_app_v (ty := o.type) B v l hown A m c news hr hlim hbase
  unfold Oper.wpIn
  refine ⟨by simp [Oper.about, ho, resolve, Target.leads, Sem.run_pure], ?_⟩
  rw [Oper.semAt_plain F _ _ (by rw [ho]; intro c hc'; cases hc')]
  simp [execOp, ho, resolve, invoke, builtin, hs, hx, hrun, Result.andThen]
  exact hK' _ _ (h A' c' w' h2 h3)

set_option maxRecDepth 100000 in
set_option maxHeartbeats 2000000 in
theorem cut1_iter (A : Option Addr) (l c : Nat) (xs : List De) (e s u : Int) (w : World) (B : Nat) (T : Nat → Prop) (hl : l ≤ 6000) (hc : l ≤ c) (hx : RdD w A l xs)
    (b0 : w.cell? ⟨B, 0, none⟩ = some (.slice A l c)) (b1 : w.cell? ⟨B + 1, 0, none⟩ = some (.int .i64 e)) (b2 : w.cell? ⟨B + 1 + 1, 0, none⟩ = some (.int .i64 s)) (b3 : w.cell? ⟨B + 1 + 1 + 1, 0, none⟩ = some (.int .i64 u))
    (hTB : ∀ k, T k → k ≠ B ∧ k ≠ B + 1 ∧ k ≠ B + 1 + 1 ∧ k ≠ B + 1 + 1 + 1) (hTA : 0 < l → ∀ g o, A = some ⟨g, o, none⟩ → ¬ T g) :
    Iter Tryd.prog 85 #[.pointer (some ⟨B, 0, none⟩), .pointer (some ⟨B + 1, 0, none⟩), .pointer (some ⟨B + 1 + 1, 0, none⟩), .pointer (some ⟨B + 1 + 1 + 1, 0, none⟩)] (nd xs.length) (XC xs e s u (w.heap.size + 2)) T w := by
  intro L J Jx W hW hsz hJ hY h0
  have HX := hid (hx.fr hW)
  have hlen := hx.1
  subst hlen
  have a0 := (hW.cell_some b0 (fun h => h))
  have a1 := (hW.cell_some b1 (fun h => h))
  have a2 := (hW.cell_some b2 (fun h => h))
  have a3 := (hW.cell_some b3 (fun h => h))
  clear b0 b1 b2 b3 hx
  refine callsIn_of_wp Tryd.func85 rfl trivial ?_ rfl
  simp only [Tryd.ntmps85, List.size_toArray, List.length_cons, List.length_nil, Nat.reduceAdd, Nat.reduceSub, Array.replicate_succ, Array.replicate_zero, List.push_toArray, List.append_toArray, List.nil_append, List.cons_append]
  gi_wp2_with (refine ⟨trivial, ?_⟩; gi_at_call 36; refine (callsIn_wide.2 (needs_ok _ _ (by omega))).mono ?_; rintro e' w' ⟨rfl, rfl⟩; rw [need_nd])

  gi_loopw [13] (fun p wr => ∃ i : Nat, p = .int .i64 i ∧ i ≤ nd xs.length ∧ J i wr ∧ Fr T W wr) (fun p _ => nd xs.length - (intOf p).toNat)
  case atStart => exact ⟨0, rfl, by omega, h0, Fr.refl _ _⟩
  case round =>
    obtain ⟨i, rfl, hi, hJi, hf⟩ := hrel
    by_cases hlt : i < nd xs.length
    case neg =>
      obtain rfl : i = nd xs.length := by omega
      gi_wp2
      go_end0
      exact ⟨⟨_, rfl⟩, .inl hJi⟩
    obtain ⟨q1, q2, q3⟩ := nd_lt xs.length i hlt
    have c0 := hf.cell_some a0 (fun h => by have := hTB _ h; simp only [ne_eq, not_true_eq_false, false_and] at this)
    have c1 := hf.cell_some a1 (fun h => by have := hTB _ h; simp only [ne_eq, not_true_eq_false, false_and, and_false] at this)
    have c2 := hf.cell_some a2 (fun h => by have := hTB _ h; simp only [ne_eq, not_true_eq_false, false_and, and_false] at this)
    have c3 := hf.cell_some a3 (fun h => by have := hTB _ h; simp only [ne_eq, not_true_eq_false, and_false] at this)
    have HXw := hid (show RdD wr A xs.length xs from rdD_fr HX.out hf hTA)
    have HF := hid hf
    have HJ := hid hJi
    clear hf hJi
    have hlt2 : (i : Int) < (nd xs.length : Int) := by omega
    obtain ⟨fr, hfr⟩ : ∃ fr : Nat, 6 * i = fr := ⟨_, rfl⟩
    have hfz : (i : Int) * 6 = (fr : Int) := by omega
    have HQ := hid (And.intro q1 (And.intro q2 q3))
    have HL := hid (And.intro hl hc)
    by_cases hm : fr + 6 ≤ xs.length
    · obtain ⟨t, ht⟩ : ∃ t, fr + 6 = t := ⟨_, rfl⟩
      have htz : (fr : Int) + 6 = (t : Int) := by omega
      have htl : (t : Int) ≤ (xs.length : Int) := by omega
      obtain ⟨b, hb⟩ : ∃ b, decide (i + 1 = nd xs.length) = b := ⟨_, rfl⟩
      have hbz : ((t : Int) == (xs.length : Int)) = b := by
        rw [← hb, Bool.eq_iff_iff, beq_iff_eq, decide_eq_true_iff, ← q3]
        omega
      gi_wp2_with fail
      obtain ⟨W3, hW3⟩ : ∃ W3, wr.alloc (rx e (wrap64 (s + i)) b u none 0 0) = W3 := ⟨_, rfl⟩
      have HB := hid (show Blk W3 wr.heap.size 48 #[.int .i64 e, .int .i64 (wrap64 (s + i)), .bool b, .int .i64 u, .slice none 0 0] by rw [← hW3]; exact Blk.new wr _ _)
      have HS := hid (show W3.heap.size = wr.heap.size + 1 by rw [← hW3]; simp)
      have HF3 := hid (show Fr No wr W3 by rw [← hW3]; exact (Fr.refl No wr).alloc _)
      rw [show wr.alloc (Obj.cells #[Value.int IntKind.i64 e, Value.int IntKind.i64 (wrap64 (s + i)), Value.bool b, Value.int IntKind.i64 u, Value.slice none 0 0] 48) = W3 from hW3]
      clear hW3
      obtain ⟨G, hG⟩ : ∃ G, wr.heap.size = G := ⟨_, rfl⟩
      rw [hG] at HB HS ⊢
      have d4 := (RB.cells HB.out).2.2.2.2
      have f4 := HB.out.frozen 4
      have d1 := HF3.out.cell_some c0 (fun h => h)
      have hsl := slice_d A xs.length c fr t (by omega) (by omega)
      have HCK := hid (chunk_rd HXw.out HF3.out t fr i (by omega) (by omega) (by omega) hc)
      refine wpIn_wide.2 ?_
      go_region_law (refine app_d_step rfl (.tmp 34) (.tmp 38) rfl (G + 1) (.slice none 0 0) [] (by simp [Act.eval, Act.put]) (DOut.nil _ _) (cutK A c fr) (t - fr) (c - fr) (chunk xs i) (by simp [Act.eval, Act.put]) HCK.out (by simp; omega) (by have := HS.out; simp; omega) ?_; intro A1 k1 w1 hown1 hF1; have HO1 := hid hown1; have HF1 := hid hF1; have hb1 := Blk.fr (Blk.drew HB.out) hF1 (by simp [Value.ownBlock]); have g4 := (RB.cells hb1).2.2.2.2; have k4 := hb1.frozen 4; have HB1 := hid hb1; clear hown1 hF1 hb1)
      all_goals
        obtain ⟨W4, hW4⟩ : ∃ W4, w1.setCell ⟨G, 4, none⟩ (.slice A1 (t - fr) k1) = W4 := ⟨_, rfl⟩
        have HO4 : DOut (G + 1) W4 (.slice A1 (t - fr) k1) (chunk xs i) := by
          rw [← hW4]
          have := own_fr (S := fun q => q = G) HO1.out (Fr.set1 w1 G 4 (.slice A1 (t - fr) k1)) (fun k hk e => by have := (own_ge HO1.out k hk).1; omega)
          simpa [DOut] using this
        have HB4 := RB.cells (show RB W4 G e (wrap64 (s + i)) b u A1 (t - fr) k1 by rw [← hW4]; have := HB1.out.set_ 4 (.slice A1 (t - fr) k1); simpa [RB] using this)
        have HF4 : Fr No wr W4 := by
          rw [← hW4]
          have h1 : Fr No wr w1 := HF3.out.drew.trans (HF1.out.mono fun _ _ h => by simp [Value.ownBlock] at h)
          exact h1.setCell (p := ⟨G, 4, none⟩) (fun h => by simp only [] at h; omega) _
        rw [hW4]
        clear hW4
        have hJ4 := hJ i wr W4 HJ.out HF4
        have hX4 : XC xs e s u (w.heap.size + 2) i #[rv e (wrap64 (s + i)) b u A1 (t - fr) k1] W4 :=
          ⟨A1, t - fr, k1, by simp only [hb], HO4.rd (by rw [HCK.out.1]), fun g o h => by
            subst h
            obtain ⟨h5, h6⟩ := own_blk HO4 g rfl
            have := HF.out.size
            exact ⟨by omega, h6⟩⟩
        obtain ⟨fn, tmps, assign, body, hy, hR⟩ := hY i _ W4 hlt hJ4 hX4
        obtain ⟨r0, r1, r2, r3, r4⟩ := HB4
        have HFT := hid (HF.out.trans (HF4.mono fun _ _ h => h.elim))
        clear hJ4 hX4 HO4 HF4
        gi_wp2
        refine hR.mono ?_
        rintro e' W5 (⟨rfl, hJ5, hk5⟩ | ⟨rfl, hJx⟩)
        · gi_wp2
          go_roundw
          case rel => exact ⟨i + 1, by go_num, by omega, hJ5, HFT.out.trans hk5⟩
          case measure => simp [intOf]; omega
        · gi_wp2
          refine bodyPost_ret (results_none rfl _ _ _) rfl ?_
          exact ⟨⟨_, rfl⟩, .inr hJx⟩
    · have hmz : ¬ (fr : Int) + 6 ≤ (xs.length : Int) := by omega
      have hb : decide (i + 1 = nd xs.length) = true := by rw [decide_eq_true_iff, ← q3]; omega
      gi_wp2_with fail
      obtain ⟨W3, hW3⟩ : ∃ W3, wr.alloc (rx e (wrap64 (s + i)) true u none 0 0) = W3 := ⟨_, rfl⟩
      have HB := hid (show Blk W3 wr.heap.size 48 #[.int .i64 e, .int .i64 (wrap64 (s + i)), .bool true, .int .i64 u, .slice none 0 0] by rw [← hW3]; exact Blk.new wr _ _)
      have HS := hid (show W3.heap.size = wr.heap.size + 1 by rw [← hW3]; simp)
      have HF3 := hid (show Fr No wr W3 by rw [← hW3]; exact (Fr.refl No wr).alloc _)
      rw [show wr.alloc (Obj.cells #[Value.int IntKind.i64 e, Value.int IntKind.i64 (wrap64 (s + i)), Value.bool true, Value.int IntKind.i64 u, Value.slice none 0 0] 48) = W3 from hW3]
      clear hW3
      obtain ⟨G, hG⟩ : ∃ G, wr.heap.size = G := ⟨_, rfl⟩
      rw [hG] at HB HS ⊢
      have d4 := (RB.cells HB.out).2.2.2.2
      have f4 := HB.out.frozen 4
      have d1 := HF3.out.cell_some c0 (fun h => h)
      have hsl := slice_d A xs.length c fr xs.length (by omega) (by omega)
      have HCK := hid (chunk_rd HXw.out HF3.out xs.length fr i (by omega) (by omega) (by omega) hc)
      refine wpIn_wide.2 ?_
      go_region_law (refine app_d_step rfl (.tmp 34) (.tmp 38) rfl (G + 1) (.slice none 0 0) [] (by simp [Act.eval, Act.put]) (DOut.nil _ _) (cutK A c fr) (xs.length - fr) (c - fr) (chunk xs i) (by simp [Act.eval, Act.put]) HCK.out (by simp; omega) (by have := HS.out; simp; omega) ?_; intro A1 k1 w1 hown1 hF1; have HO1 := hid hown1; have HF1 := hid hF1; have hb1 := Blk.fr (Blk.drew HB.out) hF1 (by simp [Value.ownBlock]); have g4 := (RB.cells hb1).2.2.2.2; have k4 := hb1.frozen 4; have HB1 := hid hb1; clear hown1 hF1 hb1)
      all_goals
        obtain ⟨W4, hW4⟩ : ∃ W4, w1.setCell ⟨G, 4, none⟩ (.slice A1 (xs.length - fr) k1) = W4 := ⟨_, rfl⟩
        have HO4 : DOut (G + 1) W4 (.slice A1 (xs.length - fr) k1) (chunk xs i) := by
          rw [← hW4]
          have := own_fr (S := fun q => q = G) HO1.out (Fr.set1 w1 G 4 (.slice A1 (xs.length - fr) k1)) (fun k hk e => by have := (own_ge HO1.out k hk).1; omega)
          simpa [DOut] using this
        have HB4 := RB.cells (show RB W4 G e (wrap64 (s + i)) true u A1 (xs.length - fr) k1 by rw [← hW4]; have := HB1.out.set_ 4 (.slice A1 (xs.length - fr) k1); simpa [RB] using this)
        have HF4 : Fr No wr W4 := by
          rw [← hW4]
          have h1 : Fr No wr w1 := HF3.out.drew.trans (HF1.out.mono fun _ _ h => by simp [Value.ownBlock] at h)
          exact h1.setCell (p := ⟨G, 4, none⟩) (fun h => by simp only [] at h; omega) _
        rw [hW4]
        clear hW4
        have hJ4 := hJ i wr W4 HJ.out HF4
        have hX4 : XC xs e s u (w.heap.size + 2) i #[rv e (wrap64 (s + i)) true u A1 (xs.length - fr) k1] W4 :=
          ⟨A1, xs.length - fr, k1, by simp only [hb], HO4.rd (by rw [HCK.out.1]), fun g o h => by
            subst h
            obtain ⟨h5, h6⟩ := own_blk HO4 g rfl
            have := HF.out.size
            exact ⟨by omega, h6⟩⟩
        obtain ⟨fn, tmps, assign, body, hy, hR⟩ := hY i _ W4 hlt hJ4 hX4
        obtain ⟨r0, r1, r2, r3, r4⟩ := HB4
        have HFT := hid (HF.out.trans (HF4.mono fun _ _ h => h.elim))
        clear hJ4 hX4 HO4 HF4
        gi_wp2
        refine hR.mono ?_
        rintro e' W5 (⟨rfl, hJ5, hk5⟩ | ⟨rfl, hJx⟩)
        · gi_wp2
          go_roundw
          case rel => exact ⟨i + 1, by go_num, by omega, hJ5, HFT.out.trans hk5⟩
          case measure => simp [intOf]; omega
        · gi_wp2
          refine bodyPost_ret (results_none rfl _ _ _) rfl ?_
          exact ⟨⟨_, rfl⟩, .inr hJx⟩
end Go.Proofs.YtdepkpdolkipcaaDoor.RcD
