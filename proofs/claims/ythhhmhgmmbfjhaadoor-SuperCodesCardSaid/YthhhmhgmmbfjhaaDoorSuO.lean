/- Contract: the sector of a superblock, by the document. Condition: the superblock may be. -/
import Derived.Test.YthhhmhgmmbfjhaaDoorSuG
import Derived.Deep.DeepCutAuto
import Derived.Handy
namespace Go.Proofs.YthhhmhgmmbfjhaaDoor.SuO
open Go.RowKit MSep MFrame LeA LeW LeR LeX Kit WrB SuA SuB SuD SuF SuG CrcA CrcM CrcE CrcG

theorem u64w (n : Int) (h : 0 ≤ n ∧ n < 18446744073709551616) : IntKind.u64.wrap n = n := by rw [IntKind.wrap_u64]; omega
/-- The bytes behind the geometry's numbers. -/
def eA (g _c _s _n _l _k _t _e _f : Int) : List Int := [84, 72, 65, 84, 67, 72, 83, 66] ++ low 2 1 ++ low 8 g
def eL (l : List Int) : List Int := l.flatMap (low 2)
theorem eL_len (l : List Int) : (eL l).length = 2 * l.length := by
  induction l with
  | nil => rfl
  | cons a l ih => show (low 2 a ++ eL l).length = _; rw [List.length_append, ih, low_len]; simp; omega
theorem eL_snoc {l : List Int} {j : Nat} {x : Int} (h : l[j]? = some x) : eL (l.take (j + 1)) = eL (l.take j) ++ low 2 x := by
  rw [List.take_add_one, h]
  simp [eL]
def vL (l : List Int) : List Value := l.map (Value.int .i64)
theorem mayS_b {g c s n l k t e f : Int} (h : mayS g c s n l k t e f) : (1 ≤ g ∧ g ≤ 1099511627776) ∧ (∀ x ∈ [c, s, n, l, k], 0 ≤ x ∧ x ≤ 65535) ∧ (0 ≤ t ∧ t ≤ 1) ∧ (1 ≤ e ∧ e ≤ 2147483648) ∧ (0 ≤ f ∧ f ≤ 1099511627776) := by
  obtain ⟨_, h1, ⟨h2, h3, h4, h5, h6⟩, h7, h8, h9⟩ := h
  exact ⟨h1, by simp; omega, h7, h8, h9⟩
def Enc (zs : List Int) (w : World) (E : Ending) (w' : World) : Prop := ∃ A' c', E = .returned (.slice A' 128 c') ∧ Rd w' A' 128 (cells (seal_ zs)) ∧ Fr No w w'
theorem seal0 (zs : List Int) (h : zs.length < 124) : seal_ (zs ++ [0]) = seal_ zs := by
  rw [← pad_rest (zs ++ [0]) (by simp; omega), ← pad_rest zs (by omega)]
  congr 1
  unfold padded
  rw [List.length_append, List.append_assoc]
  congr 1
  have : 124 - zs.length = (124 - (zs.length + 1)) + 1 := by omega
  simp only [List.length_cons, List.length_nil, Nat.zero_add]
  rw [this, List.replicate_succ]
  rfl
set_option maxRecDepth 100000 in
set_option maxHeartbeats 4000000 in
theorem rencS_ok (g c s n l k t e f : Int) (b : Bool) (w : World) (hm : mayS g c s n l k t e f) :
    Calls Tryd.prog 20 #[sv g c s n l k t e f b] w fun E w' => Enc (eTo g c s n l k t e f 1 (if b then 1 else 0) 11) w E w' := by
  obtain ⟨⟨ma1, ma2⟩, hml, ⟨mt1, mt2⟩, ⟨me1, me2⟩, ⟨mf1, mf2⟩⟩ := mayS_b hm
  have HML := hid hml
  have u1 : IntKind.u64.wrap g = g := u64w g (by omega)
  have u2 : IntKind.u64.wrap t = t := u64w t (by omega)
  have u3 : IntKind.u64.wrap e = e := u64w e (by omega)
  have u4 : IntKind.u64.wrap f = f := u64w f (by omega)
  have kcv := fun w C n c => Lib.run_convert_bytes_const (P := Tryd.prog) w 26 5 C n c Tryd.underlying26 Tryd.underlying5
  obtain ⟨w2, hw2⟩ : ∃ w2, (w.alloc (sbx g c s n l k t e f b)).alloc (.cells #[.int .i64 124, .slice none 0 0, .bool false] 103) = w2 := ⟨_, rfl⟩
  obtain ⟨X, hX⟩ : ∃ X, w.heap.size = X := ⟨_, rfl⟩
  obtain ⟨B, hB⟩ : ∃ B, X + 1 = B := ⟨_, rfl⟩
  have HXB : X < B := by omega
  have HF2 := hid (show Fr No w w2 by rw [← hw2]; exact ((Fr.refl No w).alloc _).alloc _)
  have HR2 := hid (show Blk w2 X 25 #[.int .i64 g, .int .i64 c, .int .i64 s, .int .i64 n, .int .i64 l, .int .i64 k, .int .i64 t, .int .i64 e, .int .i64 f, .bool b] by rw [← hw2, ← hX]; exact Blk.alloc (Blk.new w _ _) _)
  have HW : XrP w2 B X B [] := by
    have := new_xp w.heap.size (w.alloc (sbx g c s n l k t e f b)) (by simp)
    rw [hw2, World.size_alloc, hX, hB] at this
    exact this
  have HS2 := hid hw2
  have HXX := hid hX
  clear hw2 hm hml
  cases b
  · go_enter Tryd.func20, Tryd.ntmps20
    go_upto_region 2 with fail
    rw [show (w.alloc (sbx g c s n l k t e f false)).alloc (Obj.cells #[Value.int IntKind.i64 124, Value.slice none 0 0, Value.bool false] 103) = w2 from HS2.out]
    try rw [hX]
    try rw [hB]
    go_upto_region 6 with (first | (go_at_call 60; refine (bytes_xp B _ 8 8 [84, 72, 65, 84, 67, 72, 83, 66] B X [] _ (by decide) (CrcG.lit_rd w2 [84, 72, 65, 84, 67, 72, 83, 66] (8, 9)) (HW.fr ((Fr.refl No _).alloc _))).mono ?_; rintro e' w3 ⟨rfl, HW, f3⟩; have FW : Hid (Fr (NP B X) w w3) := hid (((HF2.out.alloc _).mono fun _ _ h => h.elim).trans f3); have HR := hid (Blk.fr (Blk.alloc HR2.out (.cells #[.int .u8 84, .int .u8 72, .int .u8 65, .int .u8 84, .int .u8 67, .int .u8 72, .int .u8 83, .int .u8 66] 5 (8, 9))) f3 (by unfold NP; omega)); have r0 := Blk.cell HR.out 0; have r1 := Blk.cell HR.out 1; have r2 := Blk.cell HR.out 2; have r3 := Blk.cell HR.out 3; have r4 := Blk.cell HR.out 4; have r5 := Blk.cell HR.out 5; have r6 := Blk.cell HR.out 6; have r7 := Blk.cell HR.out 7; have r8 := Blk.cell HR.out 8; have r9 := Blk.cell HR.out 9; simp only [List.getElem?_toArray, List.getElem?_cons_zero, List.getElem?_cons_succ] at r0 r1 r2 r3 r4 r5 r6 r7 r8 r9; clear f3 HR) | (go_at_call 61; refine (put_xp B _ _ B X _ _ (by decide) (by first | (simp [low_len]; done) | (simp [low_len]; omega) | omega) (by first | decide | omega) HW).mono ?_; rintro e' w3 ⟨rfl, HW, f⟩; replace r0 := kcN f r0; replace r1 := kcN f r1; replace r2 := kcN f r2; replace r3 := kcN f r3; replace r4 := kcN f r4; replace r5 := kcN f r5; replace r6 := kcN f r6; replace r7 := kcN f r7; replace r8 := kcN f r8; replace r9 := kcN f r9; replace FW := kfN f FW; clear f))
    obtain ⟨T, hT⟩ : ∃ T, w3.heap.size = T := ⟨_, rfl⟩
    obtain ⟨w4, hw4⟩ : ∃ w4, w3.alloc (.cells #[.int .i64 c, .int .i64 s, .int .i64 n, .int .i64 l, .int .i64 k] 3) = w4 := ⟨_, rfl⟩
    have HT : Hid (Blk w4 T 3 (vL [c, s, n, l, k]).toArray) := hid (by rw [← hw4, ← hT]; exact Blk.new w3 _ _)
    have HBT := hid (show B ≤ T by have := HW.le; omega)
    replace HW := show XrP w4 B T B _ from (by have q := HW.box (.cells #[.int .i64 c, .int .i64 s, .int .i64 n, .int .i64 l, .int .i64 k] 3); rw [hw4, hT] at q; exact q)
    replace FW := hid (show Fr (NP B X) w w4 by rw [← hw4]; exact FW.out.alloc _)
    replace r0 : w4.cell? ⟨X, 0, none⟩ = some (.int .i64 g) := hw4 ▸ kc (fr1 _ _) r0
    replace r1 : w4.cell? ⟨X, 1, none⟩ = some (.int .i64 c) := hw4 ▸ kc (fr1 _ _) r1
    replace r2 : w4.cell? ⟨X, 2, none⟩ = some (.int .i64 s) := hw4 ▸ kc (fr1 _ _) r2
    replace r3 : w4.cell? ⟨X, 3, none⟩ = some (.int .i64 n) := hw4 ▸ kc (fr1 _ _) r3
    replace r4 : w4.cell? ⟨X, 4, none⟩ = some (.int .i64 l) := hw4 ▸ kc (fr1 _ _) r4
    replace r5 : w4.cell? ⟨X, 5, none⟩ = some (.int .i64 k) := hw4 ▸ kc (fr1 _ _) r5
    replace r6 : w4.cell? ⟨X, 6, none⟩ = some (.int .i64 t) := hw4 ▸ kc (fr1 _ _) r6
    replace r7 : w4.cell? ⟨X, 7, none⟩ = some (.int .i64 e) := hw4 ▸ kc (fr1 _ _) r7
    replace r8 : w4.cell? ⟨X, 8, none⟩ = some (.int .i64 f) := hw4 ▸ kc (fr1 _ _) r8
    replace r9 : w4.cell? ⟨X, 9, none⟩ = some (.bool false) := hw4 ▸ kc (fr1 _ _) r9
    try rw [hT]
    rw [show w3.alloc (Obj.cells #[Value.int IntKind.i64 c, Value.int IntKind.i64 s, Value.int IntKind.i64 n, Value.int IntKind.i64 l, Value.int IntKind.i64 k] 3) = w4 from hw4]
    clear hw4 hT
    obtain ⟨L, hL⟩ : ∃ L, [c, s, n, l, k] = L := ⟨_, rfl⟩
    have hl5 : L.length = 5 := by rw [← hL]; rfl
    rw [hL] at HT HML
    have HLL := hid hL
    have HL5 := hid hl5
    clear hL hl5
    have F4 : Hid (Fr (NP B X) w w4) := FW
    have HE := hid HW
    clear HW FW u1
    have HRR := hid (show w4.cell? ⟨X, 6, none⟩ = some (.int .i64 t) ∧ w4.cell? ⟨X, 7, none⟩ = some (.int .i64 e) ∧ w4.cell? ⟨X, 8, none⟩ = some (.int .i64 f) ∧ w4.cell? ⟨X, 9, none⟩ = some (.bool false) from ⟨r6, r7, r8, r9⟩)
    clear r0 r1 r2 r3 r4 r5 r6 r7 r8 r9
    go_wp2
    go_loopw [5] (fun i wr => ∃ j : Nat, j ≤ 5 ∧ i = .int .i64 j ∧ XrP wr B T B (eA g c s n l k t e f ++ eL (L.take j)) ∧ Fr (NP B T) w4 wr) (fun i _ => 5 - (intOf i).toNat)
    case atStart => exact ⟨0, by omega, rfl, by simpa [eA, eL, List.append_assoc] using HE.out, Fr.refl _ _⟩
    case round =>
      clear HE
      obtain ⟨j, hj, rfl, HW, hf⟩ := hrel
      have HTr := hid (Blk.fr HT.out hf (fun h => h.2 rfl))
      by_cases hlt : j < 5
      · obtain ⟨x, hx⟩ : ∃ x, L[j]? = some x := ⟨_, List.getElem?_eq_getElem (by have := HL5.out; omega)⟩
        have hxb := HML.out x (List.mem_of_getElem? hx)
        obtain ⟨hx0, hx1⟩ := hxb
        have ux : IntKind.u64.wrap x = x := u64w x (by omega)
        have cx : wr.cell? ⟨T, j, none⟩ = some (.int .i64 x) := by rw [Blk.cell HTr.out]; simp [vL, hx]
        have HX2 := hid hx
        have HF := hid hf
        have hlen := eL_len (L.take j)
        rw [List.length_take] at hlen
        have hlenA : (eA g c s n l k t e f ++ eL (L.take j)).length ≤ 26 := by rw [List.length_append, hlen]; simp [eA, low_len]; omega
        have HLA := hid hlenA
        have HWH := hid HW
        have h50 : (0 : Int) ≤ j := by omega
        have h51 : (j : Int) < 5 := by omega
        clear hx hf hlen hlenA HW
        go_wp2_with (go_at_call 61; go_loud (refine (put_xp B 2 x B T _ _ (by decide) (by have := HLA.out; omega) ⟨by omega, by omega⟩ HWH.out).mono ?_; rintro e' w5 ⟨rfl, HW, f⟩))
        go_roundw
        case rel => exact ⟨j + 1, by omega, by go_num, by rw [eL_snoc HX2.out, ← List.append_assoc]; exact HW, HF.out.trans f⟩
        case measure => simp [intOf]; omega
      · obtain rfl : j = 5 := by omega
        have hL5 : L.take 5 = L := List.take_of_length_le (by have := HL5.out; omega)
        rw [hL5] at HW
        obtain ⟨r6, r7, r8, r9⟩ := HRR.out
        replace r6 := kcN hf r6
        replace r7 := kcN hf r7
        replace r8 := kcN hf r8
        replace r9 := kcN hf r9
        have FW : Hid (Fr (NP B T) w4 wr) := hid hf
        have hYl : (eA g c s n l k t e f ++ eL L).length = 28 := by rw [List.length_append, eL_len, HL5.out]; simp [eA, low_len]
        obtain ⟨Y, hY⟩ : ∃ Y, eA g c s n l k t e f ++ eL L = Y := ⟨_, rfl⟩
        rw [hY] at HW hYl
        have HYY := hid hY
        clear hf hY hL5 HRR
        go_upto_region 15 with (go_at_call 61; go_loud (refine (put_xp B _ _ B T _ _ (by decide) (by first | (simp [low_len]; omega) | omega) (by first | decide | omega) HW).mono ?_; rintro e' w5 ⟨rfl, HW, f⟩; replace r6 := kcN f r6; replace r7 := kcN f r7; replace r8 := kcN f r8; replace r9 := kcN f r9; replace FW := kfN f FW; clear f))
        obtain ⟨Z, hZ⟩ : ∃ Z, eTo g c s n l k t e f 1 0 11 = Z := ⟨_, rfl⟩
        have hZl := eTo_len g c s n l k t e f 1 0 11
        have hZu := eTo_u8 g c s n l k t e f 1 0 11
        have HZ2 := hid hZ
        rw [hZ] at hZl hZu
        have hZY : Z = (Y ++ low 1 t ++ low 4 e ++ low 8 f) ++ [0] := by rw [← hZ, ← HYY.out, ← HLL.out]; simp [eTo, eA, eL, sz, va, low]
        obtain ⟨Q, hQ⟩ : ∃ Q, Y ++ low 1 t ++ low 4 e ++ low 8 f = Q := ⟨_, rfl⟩
        have hql : Q.length = 41 := by rw [← hQ]; simp only [List.length_append, low_len, hYl]
        replace HW := show XrP _ B T B Q from (by rw [← hQ]; exact HW)
        rw [hQ] at hZY
        have hQu : ∀ x ∈ Q, 0 ≤ x ∧ x ≤ 255 := fun x hx => hZu x (by rw [hZY]; exact List.mem_append_left _ hx)
        have HSE := hid (show seal_ Z = seal_ Q by rw [hZY]; exact seal0 Q (by omega))
        have HQL := hid hql
        have HQU := hid hQu
        clear hQ hql hQu
        obtain ⟨A4, c4, z1, HD4⟩ := HW.rd
        have HD5 := hid HD4
        have HZL := hid hZl
        have HZU := hid hZu
        clear HW HD4 hZl hZu hZ hZY
        go_wp2_with (go_at_call 62; go_loud (refine (CrcF.refSeal_ok _ _ _ Q _ (by have := HQL.out; omega) HD5.out HQU.out).mono ?_; rintro e' w6 ⟨A6, c6, rfl, hb5, f5⟩; have HB5 := hid hb5; have HF5 := hid (FW.out.trans (f5.mono fun _ _ h => h.elim)); clear f5 hb5))
        go_ret
        exact show Enc (eTo g c s n l k t e f 1 0 11) w _ _ from ⟨_, _, rfl, by rw [HZ2.out, HSE.out]; exact Rd.own HB5.out, ((F4.out.mono (T := fun k => B ≤ k) fun k _ h => h.1).trans (HF5.out.mono fun k _ h => h.1)).mono fun k hk h => by have := HXX.out; omega⟩
  · go_enter Tryd.func20, Tryd.ntmps20
    go_upto_region 2 with fail
    rw [show (w.alloc (sbx g c s n l k t e f true)).alloc (Obj.cells #[Value.int IntKind.i64 124, Value.slice none 0 0, Value.bool false] 103) = w2 from HS2.out]
    try rw [hX]
    try rw [hB]
    go_upto_region 6 with (first | (go_at_call 60; refine (bytes_xp B _ 8 8 [84, 72, 65, 84, 67, 72, 83, 66] B X [] _ (by decide) (CrcG.lit_rd w2 [84, 72, 65, 84, 67, 72, 83, 66] (8, 9)) (HW.fr ((Fr.refl No _).alloc _))).mono ?_; rintro e' w3 ⟨rfl, HW, f3⟩; have FW : Hid (Fr (NP B X) w w3) := hid (((HF2.out.alloc _).mono fun _ _ h => h.elim).trans f3); have HR := hid (Blk.fr (Blk.alloc HR2.out (.cells #[.int .u8 84, .int .u8 72, .int .u8 65, .int .u8 84, .int .u8 67, .int .u8 72, .int .u8 83, .int .u8 66] 5 (8, 9))) f3 (by unfold NP; omega)); have r0 := Blk.cell HR.out 0; have r1 := Blk.cell HR.out 1; have r2 := Blk.cell HR.out 2; have r3 := Blk.cell HR.out 3; have r4 := Blk.cell HR.out 4; have r5 := Blk.cell HR.out 5; have r6 := Blk.cell HR.out 6; have r7 := Blk.cell HR.out 7; have r8 := Blk.cell HR.out 8; have r9 := Blk.cell HR.out 9; simp only [List.getElem?_toArray, List.getElem?_cons_zero, List.getElem?_cons_succ] at r0 r1 r2 r3 r4 r5 r6 r7 r8 r9; clear f3 HR) | (go_at_call 61; refine (put_xp B _ _ B X _ _ (by decide) (by first | (simp [low_len]; done) | (simp [low_len]; omega) | omega) (by first | decide | omega) HW).mono ?_; rintro e' w3 ⟨rfl, HW, f⟩; replace r0 := kcN f r0; replace r1 := kcN f r1; replace r2 := kcN f r2; replace r3 := kcN f r3; replace r4 := kcN f r4; replace r5 := kcN f r5; replace r6 := kcN f r6; replace r7 := kcN f r7; replace r8 := kcN f r8; replace r9 := kcN f r9; replace FW := kfN f FW; clear f))
    obtain ⟨T, hT⟩ : ∃ T, w3.heap.size = T := ⟨_, rfl⟩
    obtain ⟨w4, hw4⟩ : ∃ w4, w3.alloc (.cells #[.int .i64 c, .int .i64 s, .int .i64 n, .int .i64 l, .int .i64 k] 3) = w4 := ⟨_, rfl⟩
    have HT : Hid (Blk w4 T 3 (vL [c, s, n, l, k]).toArray) := hid (by rw [← hw4, ← hT]; exact Blk.new w3 _ _)
    have HBT := hid (show B ≤ T by have := HW.le; omega)
    replace HW := show XrP w4 B T B _ from (by have q := HW.box (.cells #[.int .i64 c, .int .i64 s, .int .i64 n, .int .i64 l, .int .i64 k] 3); rw [hw4, hT] at q; exact q)
    replace FW := hid (show Fr (NP B X) w w4 by rw [← hw4]; exact FW.out.alloc _)
    replace r0 : w4.cell? ⟨X, 0, none⟩ = some (.int .i64 g) := hw4 ▸ kc (fr1 _ _) r0
    replace r1 : w4.cell? ⟨X, 1, none⟩ = some (.int .i64 c) := hw4 ▸ kc (fr1 _ _) r1
    replace r2 : w4.cell? ⟨X, 2, none⟩ = some (.int .i64 s) := hw4 ▸ kc (fr1 _ _) r2
    replace r3 : w4.cell? ⟨X, 3, none⟩ = some (.int .i64 n) := hw4 ▸ kc (fr1 _ _) r3
    replace r4 : w4.cell? ⟨X, 4, none⟩ = some (.int .i64 l) := hw4 ▸ kc (fr1 _ _) r4
    replace r5 : w4.cell? ⟨X, 5, none⟩ = some (.int .i64 k) := hw4 ▸ kc (fr1 _ _) r5
    replace r6 : w4.cell? ⟨X, 6, none⟩ = some (.int .i64 t) := hw4 ▸ kc (fr1 _ _) r6
    replace r7 : w4.cell? ⟨X, 7, none⟩ = some (.int .i64 e) := hw4 ▸ kc (fr1 _ _) r7
    replace r8 : w4.cell? ⟨X, 8, none⟩ = some (.int .i64 f) := hw4 ▸ kc (fr1 _ _) r8
    replace r9 : w4.cell? ⟨X, 9, none⟩ = some (.bool true) := hw4 ▸ kc (fr1 _ _) r9
    try rw [hT]
    rw [show w3.alloc (Obj.cells #[Value.int IntKind.i64 c, Value.int IntKind.i64 s, Value.int IntKind.i64 n, Value.int IntKind.i64 l, Value.int IntKind.i64 k] 3) = w4 from hw4]
    clear hw4 hT
    obtain ⟨L, hL⟩ : ∃ L, [c, s, n, l, k] = L := ⟨_, rfl⟩
    have hl5 : L.length = 5 := by rw [← hL]; rfl
    rw [hL] at HT HML
    have HLL := hid hL
    have HL5 := hid hl5
    clear hL hl5
    have F4 : Hid (Fr (NP B X) w w4) := FW
    have HE := hid HW
    clear HW FW u1
    have HRR := hid (show w4.cell? ⟨X, 6, none⟩ = some (.int .i64 t) ∧ w4.cell? ⟨X, 7, none⟩ = some (.int .i64 e) ∧ w4.cell? ⟨X, 8, none⟩ = some (.int .i64 f) ∧ w4.cell? ⟨X, 9, none⟩ = some (.bool true) from ⟨r6, r7, r8, r9⟩)
    clear r0 r1 r2 r3 r4 r5 r6 r7 r8 r9
    go_wp2
    go_loopw [5] (fun i wr => ∃ j : Nat, j ≤ 5 ∧ i = .int .i64 j ∧ XrP wr B T B (eA g c s n l k t e f ++ eL (L.take j)) ∧ Fr (NP B T) w4 wr) (fun i _ => 5 - (intOf i).toNat)
    case atStart => exact ⟨0, by omega, rfl, by simpa [eA, eL, List.append_assoc] using HE.out, Fr.refl _ _⟩
    case round =>
      clear HE
      obtain ⟨j, hj, rfl, HW, hf⟩ := hrel
      have HTr := hid (Blk.fr HT.out hf (fun h => h.2 rfl))
      by_cases hlt : j < 5
      · obtain ⟨x, hx⟩ : ∃ x, L[j]? = some x := ⟨_, List.getElem?_eq_getElem (by have := HL5.out; omega)⟩
        have hxb := HML.out x (List.mem_of_getElem? hx)
        obtain ⟨hx0, hx1⟩ := hxb
        have ux : IntKind.u64.wrap x = x := u64w x (by omega)
        have cx : wr.cell? ⟨T, j, none⟩ = some (.int .i64 x) := by rw [Blk.cell HTr.out]; simp [vL, hx]
        have HX2 := hid hx
        have HF := hid hf
        have hlen := eL_len (L.take j)
        rw [List.length_take] at hlen
        have hlenA : (eA g c s n l k t e f ++ eL (L.take j)).length ≤ 26 := by rw [List.length_append, hlen]; simp [eA, low_len]; omega
        have HLA := hid hlenA
        have HWH := hid HW
        have h50 : (0 : Int) ≤ j := by omega
        have h51 : (j : Int) < 5 := by omega
        clear hx hf hlen hlenA HW
        go_wp2_with (go_at_call 61; go_loud (refine (put_xp B 2 x B T _ _ (by decide) (by have := HLA.out; omega) ⟨by omega, by omega⟩ HWH.out).mono ?_; rintro e' w5 ⟨rfl, HW, f⟩))
        go_roundw
        case rel => exact ⟨j + 1, by omega, by go_num, by rw [eL_snoc HX2.out, ← List.append_assoc]; exact HW, HF.out.trans f⟩
        case measure => simp [intOf]; omega
      · obtain rfl : j = 5 := by omega
        have hL5 : L.take 5 = L := List.take_of_length_le (by have := HL5.out; omega)
        rw [hL5] at HW
        obtain ⟨r6, r7, r8, r9⟩ := HRR.out
        replace r6 := kcN hf r6
        replace r7 := kcN hf r7
        replace r8 := kcN hf r8
        replace r9 := kcN hf r9
        have FW : Hid (Fr (NP B T) w4 wr) := hid hf
        have hYl : (eA g c s n l k t e f ++ eL L).length = 28 := by rw [List.length_append, eL_len, HL5.out]; simp [eA, low_len]
        obtain ⟨Y, hY⟩ : ∃ Y, eA g c s n l k t e f ++ eL L = Y := ⟨_, rfl⟩
        rw [hY] at HW hYl
        have HYY := hid hY
        clear hf hY hL5 HRR
        go_upto_region 15 with (go_at_call 61; go_loud (refine (put_xp B _ _ B T _ _ (by decide) (by first | (simp [low_len]; omega) | omega) (by first | decide | omega) HW).mono ?_; rintro e' w5 ⟨rfl, HW, f⟩; replace r6 := kcN f r6; replace r7 := kcN f r7; replace r8 := kcN f r8; replace r9 := kcN f r9; replace FW := kfN f FW; clear f))
        obtain ⟨Z, hZ⟩ : ∃ Z, eTo g c s n l k t e f 1 1 11 = Z := ⟨_, rfl⟩
        have hZl := eTo_len g c s n l k t e f 1 1 11
        have hZu := eTo_u8 g c s n l k t e f 1 1 11
        have HZ2 := hid hZ
        rw [hZ] at hZl hZu
        have hZY : Z = Y ++ low 1 t ++ low 4 e ++ low 8 f ++ low 1 1 := by rw [← hZ, ← HYY.out, ← HLL.out]; simp [eTo, eA, eL, sz, va]
        replace HW := show XrP _ B T B Z from (by rw [hZY]; exact HW)
        obtain ⟨A4, c4, z1, HD4⟩ := HW.rd
        have HD5 := hid HD4
        have HZL := hid hZl
        have HZU := hid hZu
        clear HW HD4 hZl hZu hZ hZY
        go_wp2_with (go_at_call 62; go_loud (refine (CrcF.refSeal_ok _ _ _ Z _ (by have := HZL.out; omega) HD5.out HZU.out).mono ?_; rintro e' w6 ⟨A6, c6, rfl, hb5, f5⟩; have HB5 := hid hb5; have HF5 := hid (FW.out.trans (f5.mono fun _ _ h => h.elim)); clear f5 hb5))
        go_ret
        exact show Enc (eTo g c s n l k t e f 1 1 11) w _ _ from ⟨_, _, rfl, by rw [HZ2.out]; exact Rd.own HB5.out, ((F4.out.mono (T := fun k => B ≤ k) fun k _ h => h.1).trans (HF5.out.mono fun k _ h => h.1)).mono fun k hk h => by have := HXX.out; omega⟩
end Go.Proofs.YthhhmhgmmbfjhaaDoor.SuO
