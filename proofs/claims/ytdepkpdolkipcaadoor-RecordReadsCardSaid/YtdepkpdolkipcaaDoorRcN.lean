/- Contract: a group of deltas as records, by the document. Conditions: the deltas read as a list, and are no more than 6000. -/
import Derived.Test.YtdepkpdolkipcaaDoorRcJ
namespace Go.Proofs.YtdepkpdolkipcaaDoor.RcN
open Go.RowKit MSep MSepC RcM RcA RcB RcC DlO RgF RcD RcE Kit RcI RcJ

/-- A row of the first i records of the call's own. -/
def VI (xs : List De) (e s u : Int) (B : Nat) (i : Nat) (v : Value) (W : World) : Prop :=
  ∃ vs, VOut B W v vs ∧ vs.length = i ∧ ∀ (j : Nat) x, vs[j]? = some x → Means W x (rcI xs e s u j) ∧ ∀ g o, x.A = some ⟨g, o, none⟩ → B ≤ g ∧ ∃ cs, Blk W g 58 cs
theorem VI.fr {xs : List De} {e s u : Int} {B i : Nat} {v : Value} {W W' : World} (h : VI xs e s u B i v W) (f : Fr No W W') : VI xs e s u B i v W' := by
  obtain ⟨vs, h1, h2, h3⟩ := h
  refine ⟨vs, h1.fr f (fun _ _ h => h), h2, fun j x hx => ⟨(h3 j x hx).1.fr f (fun _ _ _ h => h), fun g o hg => ?_⟩⟩
  obtain ⟨h4, cs, h5⟩ := (h3 j x hx).2 g o hg
  exact ⟨h4, cs, h5.fr f (fun h => h)⟩
theorem VI.form {xs : List De} {e s u : Int} {B i : Nat} {v : Value} {W : World} (h : VI xs e s u B i v W) : ∃ A c, v = .slice A i c := by
  obtain ⟨vs, h1, h2, _⟩ := h
  obtain ⟨A, c, rfl⟩ := own_form h1
  exact ⟨A, c, by rw [h2]⟩
theorem VI.rd {xs : List De} {e s u : Int} {B : Nat} {A : Option Addr} {c : Nat} {W : World} (h : VI xs e s u B (nd xs.length) (.slice A (nd xs.length) c) W) : RdG W A (nd xs.length) (gRs xs e s u) := by
  obtain ⟨vs, h1, h2, h3⟩ := h
  refine ⟨vs, h1.rd h2.symm, gRs_len xs e s u, fun j x r hx hr => ?_⟩
  obtain rfl := gRs_get xs e s u hr
  exact (h3 j x hx).1
/-- One more. -/
theorem VI.app {xs : List De} {e s u : Int} {B i : Nat} {A1 : Option Addr} {k1 : Nat} {w : World} {ops : Array Oper} {rest : List Oper} {o : Oper} {a : Act} {Q : Exit → Act → World → Prop} (hgd : o.guard = none) (p q : Operand)
    (ho : o.op = .call { callee := .builtin .append, args := #[p, q], argTypes := #[61, 61] })
    (hs : a.eval p = .slice A1 i k1) (hv : VI xs e s u B i (.slice A1 i k1) w) (W0 : World) (x : RV) (hw : w = W0.alloc (.cells #[.int .i64 x.e, .int .i64 x.s, .bool x.b, .int .i64 x.u, .slice x.A x.n x.c] 48))
    (hq : a.eval q = .slice (some ⟨W0.heap.size, 0, none⟩) 1 1) (hx : Means w x (rcI xs e s u i)) (ha : ∀ g o, x.A = some ⟨g, o, none⟩ → B ≤ g ∧ ∃ cs, Blk w g 58 cs) (hi : i ≤ 10000) (hB : B ≤ w.heap.size)
    (h : ∀ A' c' w', VI xs e s u B (i + 1) (.slice A' (i + 1) c') w' → Fr (fun q => B ≤ q) w w' → wpList Tryd.prog ops Q rest (a.put o.dst (.slice A' (i + 1) c')) w') :
    wpList Tryd.prog ops Q (o :: rest) a w := by
  obtain ⟨vs, h1, h2, h3⟩ := hv
  subst h2
  have hr : RdV w (some ⟨W0.heap.size, 0, none⟩) 1 [x] := by rw [hw]; exact lit_v W0 x
  refine app_v hgd p q ho B (.slice A1 vs.length k1) vs hs h1 _ 1 1 [x] hq hr (by omega) hB ?_
  intro A' c' w' ho' f
  have far : ∀ {y : RV}, (∀ g o, y.A = some ⟨g, o, none⟩ → B ≤ g ∧ ∃ cs, Blk w g 58 cs) → ∀ g o, y.A = some ⟨g, o, none⟩ → ¬ (Value.slice A1 vs.length k1).ownBlock = some g := by
    intro y hy g o hg h
    obtain ⟨_, cs, h7⟩ := hy g o hg
    obtain ⟨_, cs', h8⟩ := own_blk h1 g h
    exact Blk.ne_ h8 h7 (by decide) rfl
  refine h A' c' w' ⟨vs ++ [x], ho', by simp, fun j y hj => ?_⟩ (f.mono fun k _ hk => (own_ge h1 k hk).1)
  by_cases hjl : j < vs.length
  · rw [List.getElem?_append_left hjl] at hj
    obtain ⟨h6, h7⟩ := h3 j y hj
    exact ⟨h6.fr f (far h7), fun g o hg => ⟨(h7 g o hg).1, by obtain ⟨_, cs, h8⟩ := h7 g o hg; exact ⟨cs, h8.fr f (far h7 g o hg)⟩⟩⟩
  · rw [List.getElem?_append_right (by omega)] at hj
    obtain ⟨hj0, rfl⟩ : j = vs.length ∧ x = y := by
      by_cases h : j - vs.length = 0
      · rw [h] at hj
        exact ⟨by omega, by simpa using hj⟩
      · rw [List.getElem?_eq_none (by simp; omega)] at hj
        cases hj
    subst hj0
    exact ⟨hx.fr f (far ha), fun g o hg => ⟨(ha g o hg).1, by obtain ⟨_, cs, h8⟩ := ha g o hg; exact ⟨cs, h8.fr f (far ha g o hg)⟩⟩⟩
theorem chunk_get {xs : List De} {i m F : Nat} {d : De} (hF : 6 * i = F) (hm : m < 6) (hd : xs[F + m]? = some d) : (chunk xs i).take (m + 1) = (chunk xs i).take m ++ [d] := by
  refine RcB.take_snoc ?_
  unfold chunk
  rw [List.getElem?_take, if_pos hm, List.getElem?_drop, hF]
  exact hd
theorem chunk_len (xs : List De) (i F : Nat) (hF : 6 * i = F) : (chunk xs i).length = min 6 (xs.length - F) := by
  unfold chunk
  rw [List.length_take, List.length_drop, hF]
set_option maxRecDepth 100000 in
set_option maxHeartbeats 4000000 in
theorem rgroup_ok (A : Option Addr) (l c : Nat) (xs : List De) (e s u : Int) (w : World) (hl : l ≤ 6000) (hx : RdD w A l xs) :
    Calls Tryd.prog 39 #[.slice A l c, .int .i64 e, .int .i64 s, .int .i64 u] w fun E w' =>
      ∃ A' c', E = .returned (.slice A' (nd xs.length) c') ∧ RdG w' A' (nd xs.length) (gRs xs e s u) ∧ Fr No w w' := by
  have HL := hid hl
  have hlen := hx.1
  subst hlen
  have hnd : nd xs.length ≤ 1001 := by unfold nd need; split <;> (try split) <;> omega
  have HND := hid hnd
  have HX := hid hx
  obtain ⟨B, hB⟩ : ∃ B, w.heap.size = B := ⟨_, rfl⟩
  obtain ⟨N, hN⟩ : ∃ N, nd xs.length = N := ⟨_, rfl⟩
  have HN := hid hN
  clear hx hnd
  go_enter Tryd.func39, Tryd.ntmps39
  go_wp2_with fail
  go_loopw [9, 10] (fun v i wr => ∃ k : Nat, k ≤ N ∧ i = .int .i64 k ∧ VI xs e s u B k v wr ∧ Fr No w wr) (fun _ i _ => N - (intOf i).toNat)
  case atStart => exact ⟨0, by omega, rfl, ⟨[], VOut.nil _ _, rfl, fun j x h => by simp at h⟩, Fr.refl _ _⟩
  case round =>
    obtain ⟨w4, hw4⟩ : ∃ w4, w4 = wr := ⟨_, rfl⟩
    subst hw4
    obtain ⟨i, hi, rfl, hv, hf⟩ := hrel
    obtain ⟨A1, k1, rfl⟩ := hv.form
    have HV := hid hv
    have HF := hid hf
    clear hv hf
    by_cases hlt : i < N
    · have hlt3 : (i : Int) < (N : Int) := by omega
      obtain ⟨q1, q2, q3⟩ := nd_lt xs.length i (by rw [hN]; exact hlt)
      obtain ⟨F, hF⟩ : ∃ F, 6 * i = F := ⟨_, rfl⟩
      have hFz : (6 : Int) * (i : Int) = (F : Int) := by omega
      obtain ⟨b, hb⟩ : ∃ b, decide (i + 1 = N) = b := ⟨_, rfl⟩
      have hbz : ((i : Int) == (N : Int) - 1) = b := by
        rw [← hb, Bool.eq_iff_iff, beq_iff_eq, decide_eq_true_iff]
        omega
      obtain ⟨D, hD⟩ : ∃ D, w4.heap.size = D := ⟨_, rfl⟩
      have HBD := hid (show B ≤ D by have := HF.out.size; omega)
      have HFF := hid hF
      have HBB := hid hb
      have HQ := hid (And.intro q1 q3)
      have hi1 := HND.out
      go_wp2_with (go_at_call 37; refine (rneeds_ok _ _ (by omega)).mono ?_; rintro e' w' ⟨rfl, rfl⟩; rw [need_nd, hN])
      obtain ⟨W1, hW1⟩ : ∃ W1, w4.alloc (rx e (wrap64 (s + i)) b u none 0 0) = W1 := ⟨_, rfl⟩
      have HB1 := hid (show Blk W1 D 48 #[.int .i64 e, .int .i64 (wrap64 (s + i)), .bool b, .int .i64 u, .slice none 0 0] by rw [← hW1, ← hD]; exact Blk.new w4 _ _)
      have HFW1 := hid (show Fr No w4 W1 by rw [← hW1]; exact (Fr.refl No w4).alloc _)
      rw [show w4.alloc (Obj.cells #[Value.int IntKind.i64 e, Value.int IntKind.i64 (wrap64 (s + i)), Value.bool b, Value.int IntKind.i64 u, Value.slice none 0 0] 48) = W1 from hW1]
      clear hW1 hb hF hN
      go_loopw [12] (fun kk wx => ∃ m : Nat, m ≤ 6 ∧ F + m ≤ xs.length ∧ kk = .int .i64 ((F + m : Nat) : Int) ∧ (∃ A2 c2, Blk wx D 48 #[.int .i64 e, .int .i64 (wrap64 (s + i)), .bool b, .int .i64 u, .slice A2 m c2] ∧ DOut (D + 1) wx (.slice A2 m c2) ((chunk xs i).take m)) ∧ Fr No w4 wx) (fun kk _ => F + 6 - (intOf kk).toNat)
      case atStart => exact ⟨0, by omega, by omega, by simp, ⟨none, 0, HB1.out, DOut.nil _ _⟩, HFW1.out⟩
      case round =>
        obtain ⟨m, hm6, hml, rfl, ⟨A2, c2, hb2, hd2⟩, hfx⟩ := hrel
        obtain ⟨K, hK⟩ : ∃ K, F + m = K := ⟨_, rfl⟩
        rw [hK] at hml ⊢
        have HB2 := hid hb2
        have HD2 := hid hd2
        have HFX := hid hfx
        obtain ⟨_, _, _, _, ⟨c4, z4⟩⟩ := r5 hb2
        clear hb2 hd2 hfx
        by_cases hgo : m < 6 ∧ K < xs.length
        · obtain ⟨d, hd⟩ : ∃ d, xs[K]? = some d := ⟨_, List.getElem?_eq_getElem hgo.2⟩
          have h1 : (K : Int) < (F : Int) + 6 := by omega
          have h2 : (K : Int) < (xs.length : Int) := by omega
          have h3 : (0 : Int) ≤ (K : Int) := by omega
          obtain ⟨g, o, rfl, hg, hc⟩ := ((HX.out.fr HF.out).fr HFX.out).at_ (by omega)
          obtain ⟨d0, d1, d2, d3, d4⟩ := hc K d hd
          have HDk := hid (show xs[F + m]? = some d by rw [hK]; exact hd)
          obtain ⟨dk, da, dn, dz, dq⟩ := d
          simp only [] at d0 d1 d2 d3 d4
          have HGO := hid hgo
          clear hc hd hgo
          have ga : ∀ o', (wr.alloc o').cell? ⟨D, 4, none⟩ = some (.slice A2 m c2) := fun o' => (Blk.alloc HB2.out o').cell 4
          obtain ⟨cp, hcp⟩ : ∃ cp, (chunk xs i).take m = cp := ⟨_, rfl⟩
          have HCL := hid (show cp.length = m by rw [← hcp, List.length_take, chunk_len xs i F HFF.out]; have := HGO.out; omega)
          rw [hcp] at HD2
          have HCP := hid hcp
          clear hcp
          go_wp2_with fail
          go_region_law (refine app_d_step rfl (.tmp 48) (.tmp 53) rfl (D + 1) (.slice A2 m c2) cp (by simp [Act.eval, Act.put]) (by exact HD2.out.fr (S := No) ((Fr.refl No wr).alloc _).drew (fun _ _ h => h)) (some ⟨wr.heap.size, 0, none⟩) 1 1 [⟨dk, da, dn, dz, dq⟩] (by simp [Act.eval, Act.put]) (by exact lit_d wr _) (by have := HCL.out; have := HGO.out.1; omega) (by have := Blk.lt HB2.out; simp; omega) ?_; intro A5 k5 w6 hown6 hf6; have hb6 := Blk.fr (Blk.drew (Blk.alloc HB2.out (dx dk da dn dz dq))) hf6 (fun h => by have := (own_ge HD2.out _ h).1; omega); obtain ⟨_, _, _, _, ⟨e4, y4⟩⟩ := r5 hb6; have HB6 := hid hb6; have HO6 := hid hown6; have HF6 := hid hf6; clear hown6 hf6 hb6)
          all_goals
            obtain ⟨W7, hW7⟩ : ∃ W7, w6.setCell ⟨D, 4, none⟩ (.slice A5 (cp.length + 1) k5) = W7 := ⟨_, rfl⟩
            have hlm := HCL.out
            have HB7 : Blk W7 D 48 #[.int .i64 e, .int .i64 (wrap64 (s + i)), .bool b, .int .i64 u, .slice A5 (m + 1) k5] := by rw [← hW7, hlm]; exact HB6.out.set_ 4 _
            have HO7 : DOut (D + 1) W7 (.slice A5 (m + 1) k5) ((chunk xs i).take (m + 1)) := by
              rw [← hW7, chunk_get HFF.out HGO.out.1 HDk.out, HCP.out]
              have h := HO6.out
              rw [hlm] at h ⊢
              exact h.fr (Fr.set1 w6 D 4 _) (fun q hq h2 => by have := (own_ge h q hq).1; omega)
            have HF7 : Fr No w4 W7 := by rw [← hW7]; exact ((HFX.out.alloc (dx dk da dn dz dq)).drew.step HF6.out (fun i hi h => by have := (own_ge HD2.out i h).1; omega)).setCell (p := ⟨D, 4, none⟩) (fun h => by simp only [] at h; omega) _
            rw [hW7]
            clear hW7
            go_wp2
            go_roundw
            case rel => exact ⟨m + 1, by have := HGO.out.1; omega, by have := HGO.out.2; omega, by first | (congr 1; unfold wrap64; omega) | (congr 2; omega) | (go_num), ⟨A5, k5, HB7, HO7⟩, HF7⟩
            case measure => simp [intOf]; (try unfold wrap64); omega
        · have hch : (chunk xs i).take m = chunk xs i := by
            refine List.take_of_length_le ?_
            rw [chunk_len xs i F HFF.out]
            omega
          rw [hch] at HD2
          have hcm : m = (chunk xs i).length := by
            rw [chunk_len xs i F HFF.out]
            omega
          have HRD := hid (DOut.rd hcm HD2.out)
          have HME : Hid (Means (wr.alloc (rx e (wrap64 (s + i)) b u A2 m c2)) ⟨e, wrap64 (s + i), b, u, A2, m, c2⟩ (rcI xs e s u i)) := hid ⟨rfl, rfl, by simp only [rcI]; rw [HN.out, HBB.out], rfl, by simp only [maxLen]; omega, HRD.out.fr ((Fr.refl No wr).alloc _)⟩
          have HAA : Hid (∀ g o, A2 = some ⟨g, o, none⟩ → B ≤ g ∧ ∃ cs, Blk (wr.alloc (rx e (wrap64 (s + i)) b u A2 m c2)) g 58 cs) := hid (fun g o hg => by
            subst hg
            obtain ⟨h5, cs, h6⟩ := own_blk HD2.out g rfl
            exact ⟨by have := HBD.out; omega, cs, h6.alloc _⟩)
          have HI9 := hid (show i ≤ 10000 by omega)
          have HBW := hid (show B ≤ (wr.alloc (rx e (wrap64 (s + i)) b u A2 m c2)).heap.size by have := HFX.out.size; have := HBD.out; simp; omega)
          obtain ⟨⟨b0, _⟩, ⟨b1, _⟩, ⟨b2, _⟩, ⟨b3, _⟩, ⟨b4, _⟩⟩ := r5 HB2.out
          have hcase : (¬ (K : Int) < (F : Int) + 6) ∨ ((K : Int) < (F : Int) + 6 ∧ ¬ (K : Int) < (xs.length : Int)) := by omega
          clear hch hcm hgo
          rcases hcase with h1 | ⟨h1, h2⟩
          · go_wp2_with (refine VI.app (o := _) rfl (.tmp 56) (.tmp 58) rfl rfl (HV.out.fr (HFX.out.alloc (rx e (wrap64 (s + i)) b u A2 m c2))) wr ⟨e, wrap64 (s + i), b, u, A2, m, c2⟩ rfl rfl HME.out HAA.out HI9.out HBW.out ?_; intro A9 k9 w9 hv9 hf9; have HV9 := hid hv9; have HF9 := hid (((HF.out.trans HFX.out).alloc (rx e (wrap64 (s + i)) b u A2 m c2)).step hf9 (fun q hq h => by omega)); clear hv9 hf9)
            go_roundw
            case rel => exact ⟨i + 1, by omega, by go_num, HV9.out, HF9.out⟩
            case measure => simp [intOf]; omega
          · go_wp2_with (refine VI.app (o := _) rfl (.tmp 56) (.tmp 58) rfl rfl (HV.out.fr (HFX.out.alloc (rx e (wrap64 (s + i)) b u A2 m c2))) wr ⟨e, wrap64 (s + i), b, u, A2, m, c2⟩ rfl rfl HME.out HAA.out HI9.out HBW.out ?_; intro A9 k9 w9 hv9 hf9; have HV9 := hid hv9; have HF9 := hid (((HF.out.trans HFX.out).alloc (rx e (wrap64 (s + i)) b u A2 m c2)).step hf9 (fun q hq h => by omega)); clear hv9 hf9)
            go_roundw
            case rel => exact ⟨i + 1, by omega, by go_num, HV9.out, HF9.out⟩
            case measure => simp [intOf]; omega
    · obtain rfl : i = N := by omega
      have hkN : ¬ (i : Int) < (i : Int) := by omega
      go_wp2_with (go_at_call 37; refine (rneeds_ok _ _ (by omega)).mono ?_; rintro e' w' ⟨rfl, rfl⟩; rw [need_nd, hN])
      go_ret
      have h := HV.out
      rw [← HN.out] at h ⊢
      exact ⟨A1, k1, rfl, h.rd, HF.out⟩
end Go.Proofs.YtdepkpdolkipcaaDoor.RcN
