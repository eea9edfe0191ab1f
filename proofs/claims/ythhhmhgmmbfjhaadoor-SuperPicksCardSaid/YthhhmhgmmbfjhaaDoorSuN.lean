/- Contract: the right one of two sectors, by the document; it is the program's. Condition: what comes in reads as bytes. -/
import Derived.Test.YthhhmhgmmbfjhaaDoorSuL
import Derived.Test.YthhhmhgmmbfjhaaDoorSuMd
namespace Go.Proofs.YthhhmhgmmbfjhaaDoor.SuN
open Go.RowKit MSep MFrame SuA SuB SuD SuJ SuK SuL SuM SuMd

def ev (j : Int) : Option Sp → Option Sp
  | none => none
  | some x => if x.g % 2 = j then some x else none
def pkR1 : Option Sp → Option Sp → Option Sp
  | some x, some y => if y.g < x.g then some x else some y
  | some x, none => some x
  | none, r => r
def pkR (a b : Option Sp) : Option Sp := pkR1 (ev 0 a) (ev 1 b)
theorem pkP_pkR {a b : Option Sp} (ha : ∀ x, a = some x → 1 ≤ x.g) (hb : ∀ x, b = some x → 1 ≤ x.g) : pkP a b = pkR a b := by
  have z : rz.g = 0 := rfl
  unfold pkP pkR
  rcases a with _ | x <;> rcases b with _ | y
  · rfl
  · have h := hb y rfl
    by_cases p : y.g % 2 = 1
    · simp only [pk1, ev, pkR1, p, z, true_and, if_true]
      rw [if_pos (show 0 < y.g by omega), if_neg (show ¬ y.g = 0 by omega)]
    · simp only [pk1, ev, pkR1, p, z, false_and, if_false, if_true]
  · have h := ha x rfl
    by_cases p : x.g % 2 = 0
    · simp only [pk1, ev, pkR1, p, z, true_and, if_true]
      rw [if_pos (show 0 < x.g by omega), if_neg (show ¬ x.g = 0 by omega)]
    · simp only [pk1, ev, pkR1, p, z, false_and, if_false, if_true]
  · have h := hb y rfl
    have h2 := ha x rfl
    by_cases p : x.g % 2 = 0 <;> by_cases q : y.g % 2 = 1
    · simp only [pk1, ev, pkR1, p, q, z, true_and, if_true]
      rw [if_pos (show 0 < x.g by omega)]
      by_cases r : x.g < y.g
      · rw [if_pos r, if_neg (show ¬ y.g = 0 by omega), if_neg (show ¬ y.g < x.g by omega)]
      · rw [if_neg r, if_neg (show ¬ x.g = 0 by omega), if_pos (show y.g < x.g by omega)]
    · simp only [pk1, ev, pkR1, p, q, z, true_and, false_and, if_false, if_true]
      rw [if_pos (show 0 < x.g by omega), if_neg (show ¬ x.g = 0 by omega)]
    · simp only [pk1, ev, pkR1, p, q, z, true_and, false_and, if_false, if_true]
      rw [if_pos (show 0 < y.g by omega), if_neg (show ¬ y.g = 0 by omega)]
    · simp only [pk1, ev, pkR1, p, q, z, false_and, if_false, if_true]
theorem rdec_none (A : Option Addr) (l c : Nat) (zs : List Int) (w : World) (hb : IsB w A l c zs) (hd : decR zs = none) :
    Calls Tryd.prog 21 #[.slice A l c] w fun E w' => E = .returned (.tuple #[sv 0 0 0 0 0 0 0 0 0 false, .bool false]) ∧ Fr No w w' := by
  refine (rdecS_ok A l c zs w hb).mono ?_
  rintro E w' ⟨h, f⟩
  rw [hd] at h
  exact ⟨h, f⟩
theorem rdec_some (A : Option Addr) (l c : Nat) (zs : List Int) (w : World) (hb : IsB w A l c zs) {g k1 s n l1 k t e f : Int} {b : Bool} (hd : decR zs = some ⟨g, k1, s, n, l1, k, t, e, f, b⟩) :
    Calls Tryd.prog 21 #[.slice A l c] w fun E w' => E = .returned (.tuple #[sv g k1 s n l1 k t e f b, .bool true]) ∧ Fr No w w' := by
  refine (rdecS_ok A l c zs w hb).mono ?_
  rintro E w' ⟨h, f⟩
  rw [hd] at h
  exact ⟨h, f⟩
set_option maxRecDepth 100000 in
set_option maxHeartbeats 2000000 in
theorem way0  (A1 : Option Addr) (l1 c1 : Nat) (za : List Int) (A2 : Option Addr) (l2 c2 : Nat) (zb : List Int) (w : World) (h1 : IsB w A1 l1 c1 za) (h2 : IsB w A2 l2 c2 zb) (ha : decR za = none) (hb : decR zb = none) :
    Calls Tryd.prog 23 #[.slice A1 l1 c1, .slice A2 l2 c2] w fun E w' => E = .returned (.tuple #[spv (outS (pkR (none) (none))), .bool (pkR (none) (none)).isSome]) ∧ Fr No w w' := by
  have hv : pkR (none) (none) = none := by
    unfold pkR
    rw [show ev 0 none = none from rfl, show ev 1 none = none from rfl]
    exact rfl
  rw [hv]
  clear hv
  obtain ⟨R, hR⟩ : ∃ R, w.heap.size = R := ⟨_, rfl⟩
  obtain ⟨w1, hw1⟩ : ∃ w1, w.alloc (.cells #[.int .i64 0, .int .i64 0, .int .i64 0, .int .i64 0, .int .i64 0, .int .i64 0, .int .i64 0, .int .i64 0, .int .i64 0, .bool false] 25) = w1 := ⟨_, rfl⟩
  have FW := hid (show Fr No w w1 by rw [← hw1]; exact (Fr.refl _ w).alloc _)
  have HQ := hid (show BS w1 R rz by
    rw [← hw1, ← hR]
    exact Blk.new w _ _)
  have HW1 := hid hw1
  have HA := hid ha
  have HBB := hid hb
  have H1 := hid h1
  have H2 := hid h2
  have HRR := hid hR
  clear hw1 ha hb h1 h2
  go_enter Tryd.func23, Tryd.ntmps23
  go_upto_region 1 with fail
  rw [show w.alloc (Obj.cells #[Value.int IntKind.i64 0, Value.int IntKind.i64 0, Value.int IntKind.i64 0, Value.int IntKind.i64 0, Value.int IntKind.i64 0, Value.int IntKind.i64 0, Value.int IntKind.i64 0, Value.int IntKind.i64 0, Value.int IntKind.i64 0, Value.bool false] 25) = w1 from HW1.out]
  try rw [hR]
  go_upto_region 2 with (first | (go_at_call 21; refine (rdec_none A1 l1 c1 za _ (H1.out.fr FW.out) HA.out).mono ?_; rintro e' w2 ⟨rfl, f2⟩; replace FW := hid (FW.out.trans f2); replace HQ := hid (BS.fr HQ.out f2 (fun h => h)); clear f2) | (refine st_S rfl (.tmp 6) (.tmp 13) rfl w2.heap.size rfl rfl (by simp [Value.oneCell']) (Blk.new w2 _ _) rfl ?_; intro w3 HD0 f3; have FX : Fr No w2 w3 := ((Fr.refl No w2).alloc _).step f3 (fun i hi e => by omega); replace FW := hid (FW.out.trans FX); replace HQ := hid (BS.fr HQ.out FX (fun h => h)); have HD := hid (show BS w3 w2.heap.size rz from HD0); clear f3 FX HD0))
  obtain ⟨D, hD⟩ : ∃ D, w2.heap.size = D := ⟨_, rfl⟩
  rw [hD] at HD ⊢
  clear hD
  have d0 : w3.cell? ⟨D, 0, none⟩ = some (.int .i64 0) := Blk.cell HD.out 0
  go_upto_region 4 with (first | (go_at_call 21; refine (rdec_none A2 l2 c2 zb _ (H2.out.fr FW.out) HBB.out).mono ?_; rintro e' w4 ⟨rfl, f4⟩; replace FW := hid (FW.out.trans f4); replace HQ := hid (BS.fr HQ.out f4 (fun h => h)); replace HD := hid (BS.fr HD.out f4 (fun h => h)); clear f4 d0) | (refine st_S rfl (.tmp 8) (.tmp 25) rfl w4.heap.size rfl rfl (by simp [Value.oneCell']) (Blk.new w4 _ _) rfl ?_; intro w5 HE0 f5; have FX : Fr No w4 w5 := ((Fr.refl No w4).alloc _).step f5 (fun i hi e => by omega); replace FW := hid (FW.out.trans FX); replace HQ := hid (BS.fr HQ.out FX (fun h => h)); replace HD := hid (BS.fr HD.out FX (fun h => h)); have HE := hid (show BS w5 w4.heap.size rz from HE0); clear f5 FX HE0))
  obtain ⟨D2, hD2⟩ : ∃ D2, w4.heap.size = D2 := ⟨_, rfl⟩
  rw [hD2] at HE ⊢
  clear hD2
  have d0 : w5.cell? ⟨D, 0, none⟩ = some (.int .i64 0) := Blk.cell HD.out 0
  have e0 : w5.cell? ⟨D2, 0, none⟩ = some (.int .i64 0) := Blk.cell HE.out 0
  go_wp2_with (refine st_S rfl (.tmp 4) (.tmp 51) rfl R rfl rfl (by simp [Value.oneCell']) HQ.out rfl ?_; intro w11 HQ11 f11; have HF11 := hid (FW.out.step f11 (fun i hi e => absurd hi (by have := HRR.out; omega))); clear f11)
  exact bodyPost_ret (v := .tuple #[spv rz, .bool false]) (resS rfl _ _ R rz (.bool false) rfl rfl HQ11) rfl ⟨rfl, HF11.out⟩
set_option maxRecDepth 100000 in
set_option maxHeartbeats 2000000 in
theorem way1 {y0 y1 y2 y3 y4 y5 y6 y7 y8 : Int} {yb : Bool} (A1 : Option Addr) (l1 c1 : Nat) (za : List Int) (A2 : Option Addr) (l2 c2 : Nat) (zb : List Int) (w : World) (h1 : IsB w A1 l1 c1 za) (h2 : IsB w A2 l2 c2 zb) (ha : decR za = none) (hb : decR zb = some ⟨y0, y1, y2, y3, y4, y5, y6, y7, y8, yb⟩) (gy : 1 ≤ y0 ∧ y0 ≤ 1099511627776) (q : y0 % 2 = 1) :
    Calls Tryd.prog 23 #[.slice A1 l1 c1, .slice A2 l2 c2] w fun E w' => E = .returned (.tuple #[spv (outS (pkR (none) (some ⟨y0, y1, y2, y3, y4, y5, y6, y7, y8, yb⟩))), .bool (pkR (none) (some ⟨y0, y1, y2, y3, y4, y5, y6, y7, y8, yb⟩)).isSome]) ∧ Fr No w w' := by
  have hv : pkR (none) (some ⟨y0, y1, y2, y3, y4, y5, y6, y7, y8, yb⟩) = some ⟨y0, y1, y2, y3, y4, y5, y6, y7, y8, yb⟩ := by
    unfold pkR
    rw [show ev 0 none = none from rfl, show ev 1 (some ⟨y0, y1, y2, y3, y4, y5, y6, y7, y8, yb⟩) = some ⟨y0, y1, y2, y3, y4, y5, y6, y7, y8, yb⟩ from if_pos q]
    exact rfl
  rw [hv]
  clear hv
  obtain ⟨R, hR⟩ : ∃ R, w.heap.size = R := ⟨_, rfl⟩
  obtain ⟨w1, hw1⟩ : ∃ w1, w.alloc (.cells #[.int .i64 0, .int .i64 0, .int .i64 0, .int .i64 0, .int .i64 0, .int .i64 0, .int .i64 0, .int .i64 0, .int .i64 0, .bool false] 25) = w1 := ⟨_, rfl⟩
  have FW := hid (show Fr No w w1 by rw [← hw1]; exact (Fr.refl _ w).alloc _)
  have HQ := hid (show BS w1 R rz by
    rw [← hw1, ← hR]
    exact Blk.new w _ _)
  have HW1 := hid hw1
  have HA := hid ha
  have HBB := hid hb
  have H1 := hid h1
  have H2 := hid h2
  have HRR := hid hR
  clear hw1 ha hb h1 h2
  have q2 : (y0 % 2 == 1) = true := by simpa using q
  obtain ⟨gy1, gy2⟩ := gy
  clear q
  go_enter Tryd.func23, Tryd.ntmps23
  go_upto_region 1 with fail
  rw [show w.alloc (Obj.cells #[Value.int IntKind.i64 0, Value.int IntKind.i64 0, Value.int IntKind.i64 0, Value.int IntKind.i64 0, Value.int IntKind.i64 0, Value.int IntKind.i64 0, Value.int IntKind.i64 0, Value.int IntKind.i64 0, Value.int IntKind.i64 0, Value.bool false] 25) = w1 from HW1.out]
  try rw [hR]
  go_upto_region 2 with (first | (go_at_call 21; refine (rdec_none A1 l1 c1 za _ (H1.out.fr FW.out) HA.out).mono ?_; rintro e' w2 ⟨rfl, f2⟩; replace FW := hid (FW.out.trans f2); replace HQ := hid (BS.fr HQ.out f2 (fun h => h)); clear f2) | (refine st_S rfl (.tmp 6) (.tmp 13) rfl w2.heap.size rfl rfl (by simp [Value.oneCell']) (Blk.new w2 _ _) rfl ?_; intro w3 HD0 f3; have FX : Fr No w2 w3 := ((Fr.refl No w2).alloc _).step f3 (fun i hi e => by omega); replace FW := hid (FW.out.trans FX); replace HQ := hid (BS.fr HQ.out FX (fun h => h)); have HD := hid (show BS w3 w2.heap.size rz from HD0); clear f3 FX HD0))
  obtain ⟨D, hD⟩ : ∃ D, w2.heap.size = D := ⟨_, rfl⟩
  rw [hD] at HD ⊢
  clear hD
  have d0 : w3.cell? ⟨D, 0, none⟩ = some (.int .i64 0) := Blk.cell HD.out 0
  go_upto_region 4 with (first | (go_at_call 21; refine (rdec_some A2 l2 c2 zb _ (H2.out.fr FW.out) HBB.out).mono ?_; rintro e' w4 ⟨rfl, f4⟩; replace FW := hid (FW.out.trans f4); replace HQ := hid (BS.fr HQ.out f4 (fun h => h)); replace HD := hid (BS.fr HD.out f4 (fun h => h)); clear f4 d0) | (refine st_S rfl (.tmp 8) (.tmp 25) rfl w4.heap.size rfl rfl (by simp [Value.oneCell']) (Blk.new w4 _ _) rfl ?_; intro w5 HE0 f5; have FX : Fr No w4 w5 := ((Fr.refl No w4).alloc _).step f5 (fun i hi e => by omega); replace FW := hid (FW.out.trans FX); replace HQ := hid (BS.fr HQ.out FX (fun h => h)); replace HD := hid (BS.fr HD.out FX (fun h => h)); have HE := hid (show BS w5 w4.heap.size ⟨y0, y1, y2, y3, y4, y5, y6, y7, y8, yb⟩ from HE0); clear f5 FX HE0))
  obtain ⟨D2, hD2⟩ : ∃ D2, w4.heap.size = D2 := ⟨_, rfl⟩
  rw [hD2] at HE ⊢
  clear hD2
  have d0 : w5.cell? ⟨D, 0, none⟩ = some (.int .i64 0) := Blk.cell HD.out 0
  have e0 : w5.cell? ⟨D2, 0, none⟩ = some (.int .i64 y0) := Blk.cell HE.out 0
  go_wp2_with (first | (refine ld_S rfl (.tmp 8) rfl D2 rfl HE.out ?_; dsimp only) | (refine st_S rfl (.tmp 4) (.tmp 50) rfl R rfl rfl (by simp [Value.oneCell']) HQ.out rfl ?_; intro w11 HQ11 f11; have HF11 := hid (FW.out.step f11 (fun i hi e => absurd hi (by have := HRR.out; omega))); clear f11))
  exact bodyPost_ret (v := .tuple #[spv ⟨y0, y1, y2, y3, y4, y5, y6, y7, y8, yb⟩, .bool true]) (resS rfl _ _ R ⟨y0, y1, y2, y3, y4, y5, y6, y7, y8, yb⟩ (.bool true) rfl rfl HQ11) rfl ⟨rfl, HF11.out⟩
set_option maxRecDepth 100000 in
set_option maxHeartbeats 2000000 in
theorem way2 {y0 y1 y2 y3 y4 y5 y6 y7 y8 : Int} {yb : Bool} (A1 : Option Addr) (l1 c1 : Nat) (za : List Int) (A2 : Option Addr) (l2 c2 : Nat) (zb : List Int) (w : World) (h1 : IsB w A1 l1 c1 za) (h2 : IsB w A2 l2 c2 zb) (ha : decR za = none) (hb : decR zb = some ⟨y0, y1, y2, y3, y4, y5, y6, y7, y8, yb⟩) (gy : 1 ≤ y0 ∧ y0 ≤ 1099511627776) (q : ¬ y0 % 2 = 1) :
    Calls Tryd.prog 23 #[.slice A1 l1 c1, .slice A2 l2 c2] w fun E w' => E = .returned (.tuple #[spv (outS (pkR (none) (some ⟨y0, y1, y2, y3, y4, y5, y6, y7, y8, yb⟩))), .bool (pkR (none) (some ⟨y0, y1, y2, y3, y4, y5, y6, y7, y8, yb⟩)).isSome]) ∧ Fr No w w' := by
  have hv : pkR (none) (some ⟨y0, y1, y2, y3, y4, y5, y6, y7, y8, yb⟩) = none := by
    unfold pkR
    rw [show ev 0 none = none from rfl, show ev 1 (some ⟨y0, y1, y2, y3, y4, y5, y6, y7, y8, yb⟩) = none from if_neg q]
    exact rfl
  rw [hv]
  clear hv
  obtain ⟨R, hR⟩ : ∃ R, w.heap.size = R := ⟨_, rfl⟩
  obtain ⟨w1, hw1⟩ : ∃ w1, w.alloc (.cells #[.int .i64 0, .int .i64 0, .int .i64 0, .int .i64 0, .int .i64 0, .int .i64 0, .int .i64 0, .int .i64 0, .int .i64 0, .bool false] 25) = w1 := ⟨_, rfl⟩
  have FW := hid (show Fr No w w1 by rw [← hw1]; exact (Fr.refl _ w).alloc _)
  have HQ := hid (show BS w1 R rz by
    rw [← hw1, ← hR]
    exact Blk.new w _ _)
  have HW1 := hid hw1
  have HA := hid ha
  have HBB := hid hb
  have H1 := hid h1
  have H2 := hid h2
  have HRR := hid hR
  clear hw1 ha hb h1 h2
  have q2 : (y0 % 2 == 1) = false := by simpa using q
  obtain ⟨gy1, gy2⟩ := gy
  clear q
  go_enter Tryd.func23, Tryd.ntmps23
  go_upto_region 1 with fail
  rw [show w.alloc (Obj.cells #[Value.int IntKind.i64 0, Value.int IntKind.i64 0, Value.int IntKind.i64 0, Value.int IntKind.i64 0, Value.int IntKind.i64 0, Value.int IntKind.i64 0, Value.int IntKind.i64 0, Value.int IntKind.i64 0, Value.int IntKind.i64 0, Value.bool false] 25) = w1 from HW1.out]
  try rw [hR]
  go_upto_region 2 with (first | (go_at_call 21; refine (rdec_none A1 l1 c1 za _ (H1.out.fr FW.out) HA.out).mono ?_; rintro e' w2 ⟨rfl, f2⟩; replace FW := hid (FW.out.trans f2); replace HQ := hid (BS.fr HQ.out f2 (fun h => h)); clear f2) | (refine st_S rfl (.tmp 6) (.tmp 13) rfl w2.heap.size rfl rfl (by simp [Value.oneCell']) (Blk.new w2 _ _) rfl ?_; intro w3 HD0 f3; have FX : Fr No w2 w3 := ((Fr.refl No w2).alloc _).step f3 (fun i hi e => by omega); replace FW := hid (FW.out.trans FX); replace HQ := hid (BS.fr HQ.out FX (fun h => h)); have HD := hid (show BS w3 w2.heap.size rz from HD0); clear f3 FX HD0))
  obtain ⟨D, hD⟩ : ∃ D, w2.heap.size = D := ⟨_, rfl⟩
  rw [hD] at HD ⊢
  clear hD
  have d0 : w3.cell? ⟨D, 0, none⟩ = some (.int .i64 0) := Blk.cell HD.out 0
  go_upto_region 4 with (first | (go_at_call 21; refine (rdec_some A2 l2 c2 zb _ (H2.out.fr FW.out) HBB.out).mono ?_; rintro e' w4 ⟨rfl, f4⟩; replace FW := hid (FW.out.trans f4); replace HQ := hid (BS.fr HQ.out f4 (fun h => h)); replace HD := hid (BS.fr HD.out f4 (fun h => h)); clear f4 d0) | (refine st_S rfl (.tmp 8) (.tmp 25) rfl w4.heap.size rfl rfl (by simp [Value.oneCell']) (Blk.new w4 _ _) rfl ?_; intro w5 HE0 f5; have FX : Fr No w4 w5 := ((Fr.refl No w4).alloc _).step f5 (fun i hi e => by omega); replace FW := hid (FW.out.trans FX); replace HQ := hid (BS.fr HQ.out FX (fun h => h)); replace HD := hid (BS.fr HD.out FX (fun h => h)); have HE := hid (show BS w5 w4.heap.size ⟨y0, y1, y2, y3, y4, y5, y6, y7, y8, yb⟩ from HE0); clear f5 FX HE0))
  obtain ⟨D2, hD2⟩ : ∃ D2, w4.heap.size = D2 := ⟨_, rfl⟩
  rw [hD2] at HE ⊢
  clear hD2
  have d0 : w5.cell? ⟨D, 0, none⟩ = some (.int .i64 0) := Blk.cell HD.out 0
  have e0 : w5.cell? ⟨D2, 0, none⟩ = some (.int .i64 y0) := Blk.cell HE.out 0
  go_wp2_with (refine st_S rfl (.tmp 4) (.tmp 51) rfl R rfl rfl (by simp [Value.oneCell']) HQ.out rfl ?_; intro w11 HQ11 f11; have HF11 := hid (FW.out.step f11 (fun i hi e => absurd hi (by have := HRR.out; omega))); clear f11)
  exact bodyPost_ret (v := .tuple #[spv rz, .bool false]) (resS rfl _ _ R rz (.bool false) rfl rfl HQ11) rfl ⟨rfl, HF11.out⟩
set_option maxRecDepth 100000 in
set_option maxHeartbeats 2000000 in
theorem way3 {x0 x1 x2 x3 x4 x5 x6 x7 x8 : Int} {xb : Bool} (A1 : Option Addr) (l1 c1 : Nat) (za : List Int) (A2 : Option Addr) (l2 c2 : Nat) (zb : List Int) (w : World) (h1 : IsB w A1 l1 c1 za) (h2 : IsB w A2 l2 c2 zb) (ha : decR za = some ⟨x0, x1, x2, x3, x4, x5, x6, x7, x8, xb⟩) (gx : 1 ≤ x0 ∧ x0 ≤ 1099511627776) (p : x0 % 2 = 0) (hb : decR zb = none) :
    Calls Tryd.prog 23 #[.slice A1 l1 c1, .slice A2 l2 c2] w fun E w' => E = .returned (.tuple #[spv (outS (pkR (some ⟨x0, x1, x2, x3, x4, x5, x6, x7, x8, xb⟩) (none))), .bool (pkR (some ⟨x0, x1, x2, x3, x4, x5, x6, x7, x8, xb⟩) (none)).isSome]) ∧ Fr No w w' := by
  have hv : pkR (some ⟨x0, x1, x2, x3, x4, x5, x6, x7, x8, xb⟩) (none) = some ⟨x0, x1, x2, x3, x4, x5, x6, x7, x8, xb⟩ := by
    unfold pkR
    rw [show ev 0 (some ⟨x0, x1, x2, x3, x4, x5, x6, x7, x8, xb⟩) = some ⟨x0, x1, x2, x3, x4, x5, x6, x7, x8, xb⟩ from if_pos p, show ev 1 none = none from rfl]
    exact rfl
  rw [hv]
  clear hv
  obtain ⟨R, hR⟩ : ∃ R, w.heap.size = R := ⟨_, rfl⟩
  obtain ⟨w1, hw1⟩ : ∃ w1, w.alloc (.cells #[.int .i64 0, .int .i64 0, .int .i64 0, .int .i64 0, .int .i64 0, .int .i64 0, .int .i64 0, .int .i64 0, .int .i64 0, .bool false] 25) = w1 := ⟨_, rfl⟩
  have FW := hid (show Fr No w w1 by rw [← hw1]; exact (Fr.refl _ w).alloc _)
  have HQ := hid (show BS w1 R rz by
    rw [← hw1, ← hR]
    exact Blk.new w _ _)
  have HW1 := hid hw1
  have HA := hid ha
  have HBB := hid hb
  have H1 := hid h1
  have H2 := hid h2
  have HRR := hid hR
  clear hw1 ha hb h1 h2
  have p2 : (x0 % 2 == 0) = true := by simpa using p
  obtain ⟨gx1, gx2⟩ := gx
  clear p
  go_enter Tryd.func23, Tryd.ntmps23
  go_upto_region 1 with fail
  rw [show w.alloc (Obj.cells #[Value.int IntKind.i64 0, Value.int IntKind.i64 0, Value.int IntKind.i64 0, Value.int IntKind.i64 0, Value.int IntKind.i64 0, Value.int IntKind.i64 0, Value.int IntKind.i64 0, Value.int IntKind.i64 0, Value.int IntKind.i64 0, Value.bool false] 25) = w1 from HW1.out]
  try rw [hR]
  go_upto_region 2 with (first | (go_at_call 21; refine (rdec_some A1 l1 c1 za _ (H1.out.fr FW.out) HA.out).mono ?_; rintro e' w2 ⟨rfl, f2⟩; replace FW := hid (FW.out.trans f2); replace HQ := hid (BS.fr HQ.out f2 (fun h => h)); clear f2) | (refine st_S rfl (.tmp 6) (.tmp 13) rfl w2.heap.size rfl rfl (by simp [Value.oneCell']) (Blk.new w2 _ _) rfl ?_; intro w3 HD0 f3; have FX : Fr No w2 w3 := ((Fr.refl No w2).alloc _).step f3 (fun i hi e => by omega); replace FW := hid (FW.out.trans FX); replace HQ := hid (BS.fr HQ.out FX (fun h => h)); have HD := hid (show BS w3 w2.heap.size ⟨x0, x1, x2, x3, x4, x5, x6, x7, x8, xb⟩ from HD0); clear f3 FX HD0))
  obtain ⟨D, hD⟩ : ∃ D, w2.heap.size = D := ⟨_, rfl⟩
  rw [hD] at HD ⊢
  clear hD
  have d0 : w3.cell? ⟨D, 0, none⟩ = some (.int .i64 x0) := Blk.cell HD.out 0
  go_upto_region 4 with (first | (go_at_call 21; refine (rdec_none A2 l2 c2 zb _ (H2.out.fr FW.out) HBB.out).mono ?_; rintro e' w4 ⟨rfl, f4⟩; replace FW := hid (FW.out.trans f4); replace HQ := hid (BS.fr HQ.out f4 (fun h => h)); replace HD := hid (BS.fr HD.out f4 (fun h => h)); clear f4 d0) | (refine st_S rfl (.tmp 8) (.tmp 25) rfl w4.heap.size rfl rfl (by simp [Value.oneCell']) (Blk.new w4 _ _) rfl ?_; intro w5 HE0 f5; have FX : Fr No w4 w5 := ((Fr.refl No w4).alloc _).step f5 (fun i hi e => by omega); replace FW := hid (FW.out.trans FX); replace HQ := hid (BS.fr HQ.out FX (fun h => h)); replace HD := hid (BS.fr HD.out FX (fun h => h)); have HE := hid (show BS w5 w4.heap.size rz from HE0); clear f5 FX HE0))
  obtain ⟨D2, hD2⟩ : ∃ D2, w4.heap.size = D2 := ⟨_, rfl⟩
  rw [hD2] at HE ⊢
  clear hD2
  have d0 : w5.cell? ⟨D, 0, none⟩ = some (.int .i64 x0) := Blk.cell HD.out 0
  have e0 : w5.cell? ⟨D2, 0, none⟩ = some (.int .i64 0) := Blk.cell HE.out 0
  go_wp2_with (first | (refine ld_S rfl (.tmp 6) rfl D rfl HD.out ?_; dsimp only) | (refine st_S rfl (.tmp 4) (.tmp 47) rfl R rfl rfl (by simp [Value.oneCell']) HQ.out rfl ?_; intro w11 HQ11 f11; have HF11 := hid (FW.out.step f11 (fun i hi e => absurd hi (by have := HRR.out; omega))); clear f11))
  exact bodyPost_ret (v := .tuple #[spv ⟨x0, x1, x2, x3, x4, x5, x6, x7, x8, xb⟩, .bool true]) (resS rfl _ _ R ⟨x0, x1, x2, x3, x4, x5, x6, x7, x8, xb⟩ (.bool true) rfl rfl HQ11) rfl ⟨rfl, HF11.out⟩
set_option maxRecDepth 100000 in
set_option maxHeartbeats 2000000 in
theorem way4 {x0 x1 x2 x3 x4 x5 x6 x7 x8 : Int} {xb : Bool} {y0 y1 y2 y3 y4 y5 y6 y7 y8 : Int} {yb : Bool} (A1 : Option Addr) (l1 c1 : Nat) (za : List Int) (A2 : Option Addr) (l2 c2 : Nat) (zb : List Int) (w : World) (h1 : IsB w A1 l1 c1 za) (h2 : IsB w A2 l2 c2 zb) (ha : decR za = some ⟨x0, x1, x2, x3, x4, x5, x6, x7, x8, xb⟩) (gx : 1 ≤ x0 ∧ x0 ≤ 1099511627776) (p : x0 % 2 = 0) (hb : decR zb = some ⟨y0, y1, y2, y3, y4, y5, y6, y7, y8, yb⟩) (gy : 1 ≤ y0 ∧ y0 ≤ 1099511627776) (q : ¬ y0 % 2 = 1) :
    Calls Tryd.prog 23 #[.slice A1 l1 c1, .slice A2 l2 c2] w fun E w' => E = .returned (.tuple #[spv (outS (pkR (some ⟨x0, x1, x2, x3, x4, x5, x6, x7, x8, xb⟩) (some ⟨y0, y1, y2, y3, y4, y5, y6, y7, y8, yb⟩))), .bool (pkR (some ⟨x0, x1, x2, x3, x4, x5, x6, x7, x8, xb⟩) (some ⟨y0, y1, y2, y3, y4, y5, y6, y7, y8, yb⟩)).isSome]) ∧ Fr No w w' := by
  have hv : pkR (some ⟨x0, x1, x2, x3, x4, x5, x6, x7, x8, xb⟩) (some ⟨y0, y1, y2, y3, y4, y5, y6, y7, y8, yb⟩) = some ⟨x0, x1, x2, x3, x4, x5, x6, x7, x8, xb⟩ := by
    unfold pkR
    rw [show ev 0 (some ⟨x0, x1, x2, x3, x4, x5, x6, x7, x8, xb⟩) = some ⟨x0, x1, x2, x3, x4, x5, x6, x7, x8, xb⟩ from if_pos p, show ev 1 (some ⟨y0, y1, y2, y3, y4, y5, y6, y7, y8, yb⟩) = none from if_neg q]
    exact rfl
  rw [hv]
  clear hv
  obtain ⟨R, hR⟩ : ∃ R, w.heap.size = R := ⟨_, rfl⟩
  obtain ⟨w1, hw1⟩ : ∃ w1, w.alloc (.cells #[.int .i64 0, .int .i64 0, .int .i64 0, .int .i64 0, .int .i64 0, .int .i64 0, .int .i64 0, .int .i64 0, .int .i64 0, .bool false] 25) = w1 := ⟨_, rfl⟩
  have FW := hid (show Fr No w w1 by rw [← hw1]; exact (Fr.refl _ w).alloc _)
  have HQ := hid (show BS w1 R rz by
    rw [← hw1, ← hR]
    exact Blk.new w _ _)
  have HW1 := hid hw1
  have HA := hid ha
  have HBB := hid hb
  have H1 := hid h1
  have H2 := hid h2
  have HRR := hid hR
  clear hw1 ha hb h1 h2
  have p2 : (x0 % 2 == 0) = true := by simpa using p
  obtain ⟨gx1, gx2⟩ := gx
  clear p
  have q2 : (y0 % 2 == 1) = false := by simpa using q
  obtain ⟨gy1, gy2⟩ := gy
  clear q
  go_enter Tryd.func23, Tryd.ntmps23
  go_upto_region 1 with fail
  rw [show w.alloc (Obj.cells #[Value.int IntKind.i64 0, Value.int IntKind.i64 0, Value.int IntKind.i64 0, Value.int IntKind.i64 0, Value.int IntKind.i64 0, Value.int IntKind.i64 0, Value.int IntKind.i64 0, Value.int IntKind.i64 0, Value.int IntKind.i64 0, Value.bool false] 25) = w1 from HW1.out]
  try rw [hR]
  go_upto_region 2 with (first | (go_at_call 21; refine (rdec_some A1 l1 c1 za _ (H1.out.fr FW.out) HA.out).mono ?_; rintro e' w2 ⟨rfl, f2⟩; replace FW := hid (FW.out.trans f2); replace HQ := hid (BS.fr HQ.out f2 (fun h => h)); clear f2) | (refine st_S rfl (.tmp 6) (.tmp 13) rfl w2.heap.size rfl rfl (by simp [Value.oneCell']) (Blk.new w2 _ _) rfl ?_; intro w3 HD0 f3; have FX : Fr No w2 w3 := ((Fr.refl No w2).alloc _).step f3 (fun i hi e => by omega); replace FW := hid (FW.out.trans FX); replace HQ := hid (BS.fr HQ.out FX (fun h => h)); have HD := hid (show BS w3 w2.heap.size ⟨x0, x1, x2, x3, x4, x5, x6, x7, x8, xb⟩ from HD0); clear f3 FX HD0))
  obtain ⟨D, hD⟩ : ∃ D, w2.heap.size = D := ⟨_, rfl⟩
  rw [hD] at HD ⊢
  clear hD
  have d0 : w3.cell? ⟨D, 0, none⟩ = some (.int .i64 x0) := Blk.cell HD.out 0
  go_upto_region 4 with (first | (go_at_call 21; refine (rdec_some A2 l2 c2 zb _ (H2.out.fr FW.out) HBB.out).mono ?_; rintro e' w4 ⟨rfl, f4⟩; replace FW := hid (FW.out.trans f4); replace HQ := hid (BS.fr HQ.out f4 (fun h => h)); replace HD := hid (BS.fr HD.out f4 (fun h => h)); clear f4 d0) | (refine st_S rfl (.tmp 8) (.tmp 25) rfl w4.heap.size rfl rfl (by simp [Value.oneCell']) (Blk.new w4 _ _) rfl ?_; intro w5 HE0 f5; have FX : Fr No w4 w5 := ((Fr.refl No w4).alloc _).step f5 (fun i hi e => by omega); replace FW := hid (FW.out.trans FX); replace HQ := hid (BS.fr HQ.out FX (fun h => h)); replace HD := hid (BS.fr HD.out FX (fun h => h)); have HE := hid (show BS w5 w4.heap.size ⟨y0, y1, y2, y3, y4, y5, y6, y7, y8, yb⟩ from HE0); clear f5 FX HE0))
  obtain ⟨D2, hD2⟩ : ∃ D2, w4.heap.size = D2 := ⟨_, rfl⟩
  rw [hD2] at HE ⊢
  clear hD2
  have d0 : w5.cell? ⟨D, 0, none⟩ = some (.int .i64 x0) := Blk.cell HD.out 0
  have e0 : w5.cell? ⟨D2, 0, none⟩ = some (.int .i64 y0) := Blk.cell HE.out 0
  go_wp2_with (first | (refine ld_S rfl (.tmp 6) rfl D rfl HD.out ?_; dsimp only) | (refine st_S rfl (.tmp 4) (.tmp 47) rfl R rfl rfl (by simp [Value.oneCell']) HQ.out rfl ?_; intro w11 HQ11 f11; have HF11 := hid (FW.out.step f11 (fun i hi e => absurd hi (by have := HRR.out; omega))); clear f11))
  exact bodyPost_ret (v := .tuple #[spv ⟨x0, x1, x2, x3, x4, x5, x6, x7, x8, xb⟩, .bool true]) (resS rfl _ _ R ⟨x0, x1, x2, x3, x4, x5, x6, x7, x8, xb⟩ (.bool true) rfl rfl HQ11) rfl ⟨rfl, HF11.out⟩
set_option maxRecDepth 100000 in
set_option maxHeartbeats 2000000 in
theorem way5 {x0 x1 x2 x3 x4 x5 x6 x7 x8 : Int} {xb : Bool} {y0 y1 y2 y3 y4 y5 y6 y7 y8 : Int} {yb : Bool} (A1 : Option Addr) (l1 c1 : Nat) (za : List Int) (A2 : Option Addr) (l2 c2 : Nat) (zb : List Int) (w : World) (h1 : IsB w A1 l1 c1 za) (h2 : IsB w A2 l2 c2 zb) (ha : decR za = some ⟨x0, x1, x2, x3, x4, x5, x6, x7, x8, xb⟩) (gx : 1 ≤ x0 ∧ x0 ≤ 1099511627776) (p : x0 % 2 = 0) (hb : decR zb = some ⟨y0, y1, y2, y3, y4, y5, y6, y7, y8, yb⟩) (gy : 1 ≤ y0 ∧ y0 ≤ 1099511627776) (q : y0 % 2 = 1) (r : y0 < x0) :
    Calls Tryd.prog 23 #[.slice A1 l1 c1, .slice A2 l2 c2] w fun E w' => E = .returned (.tuple #[spv (outS (pkR (some ⟨x0, x1, x2, x3, x4, x5, x6, x7, x8, xb⟩) (some ⟨y0, y1, y2, y3, y4, y5, y6, y7, y8, yb⟩))), .bool (pkR (some ⟨x0, x1, x2, x3, x4, x5, x6, x7, x8, xb⟩) (some ⟨y0, y1, y2, y3, y4, y5, y6, y7, y8, yb⟩)).isSome]) ∧ Fr No w w' := by
  have hv : pkR (some ⟨x0, x1, x2, x3, x4, x5, x6, x7, x8, xb⟩) (some ⟨y0, y1, y2, y3, y4, y5, y6, y7, y8, yb⟩) = some ⟨x0, x1, x2, x3, x4, x5, x6, x7, x8, xb⟩ := by
    unfold pkR
    rw [show ev 0 (some ⟨x0, x1, x2, x3, x4, x5, x6, x7, x8, xb⟩) = some ⟨x0, x1, x2, x3, x4, x5, x6, x7, x8, xb⟩ from if_pos p, show ev 1 (some ⟨y0, y1, y2, y3, y4, y5, y6, y7, y8, yb⟩) = some ⟨y0, y1, y2, y3, y4, y5, y6, y7, y8, yb⟩ from if_pos q]
    exact if_pos r
  rw [hv]
  clear hv
  obtain ⟨R, hR⟩ : ∃ R, w.heap.size = R := ⟨_, rfl⟩
  obtain ⟨w1, hw1⟩ : ∃ w1, w.alloc (.cells #[.int .i64 0, .int .i64 0, .int .i64 0, .int .i64 0, .int .i64 0, .int .i64 0, .int .i64 0, .int .i64 0, .int .i64 0, .bool false] 25) = w1 := ⟨_, rfl⟩
  have FW := hid (show Fr No w w1 by rw [← hw1]; exact (Fr.refl _ w).alloc _)
  have HQ := hid (show BS w1 R rz by
    rw [← hw1, ← hR]
    exact Blk.new w _ _)
  have HW1 := hid hw1
  have HA := hid ha
  have HBB := hid hb
  have H1 := hid h1
  have H2 := hid h2
  have HRR := hid hR
  clear hw1 ha hb h1 h2
  have p2 : (x0 % 2 == 0) = true := by simpa using p
  obtain ⟨gx1, gx2⟩ := gx
  clear p
  have q2 : (y0 % 2 == 1) = true := by simpa using q
  obtain ⟨gy1, gy2⟩ := gy
  clear q
  have r2 : decide (y0 < x0) = true := by simpa using r
  clear r
  go_enter Tryd.func23, Tryd.ntmps23
  go_upto_region 1 with fail
  rw [show w.alloc (Obj.cells #[Value.int IntKind.i64 0, Value.int IntKind.i64 0, Value.int IntKind.i64 0, Value.int IntKind.i64 0, Value.int IntKind.i64 0, Value.int IntKind.i64 0, Value.int IntKind.i64 0, Value.int IntKind.i64 0, Value.int IntKind.i64 0, Value.bool false] 25) = w1 from HW1.out]
  try rw [hR]
  go_upto_region 2 with (first | (go_at_call 21; refine (rdec_some A1 l1 c1 za _ (H1.out.fr FW.out) HA.out).mono ?_; rintro e' w2 ⟨rfl, f2⟩; replace FW := hid (FW.out.trans f2); replace HQ := hid (BS.fr HQ.out f2 (fun h => h)); clear f2) | (refine st_S rfl (.tmp 6) (.tmp 13) rfl w2.heap.size rfl rfl (by simp [Value.oneCell']) (Blk.new w2 _ _) rfl ?_; intro w3 HD0 f3; have FX : Fr No w2 w3 := ((Fr.refl No w2).alloc _).step f3 (fun i hi e => by omega); replace FW := hid (FW.out.trans FX); replace HQ := hid (BS.fr HQ.out FX (fun h => h)); have HD := hid (show BS w3 w2.heap.size ⟨x0, x1, x2, x3, x4, x5, x6, x7, x8, xb⟩ from HD0); clear f3 FX HD0))
  obtain ⟨D, hD⟩ : ∃ D, w2.heap.size = D := ⟨_, rfl⟩
  rw [hD] at HD ⊢
  clear hD
  have d0 : w3.cell? ⟨D, 0, none⟩ = some (.int .i64 x0) := Blk.cell HD.out 0
  go_upto_region 4 with (first | (go_at_call 21; refine (rdec_some A2 l2 c2 zb _ (H2.out.fr FW.out) HBB.out).mono ?_; rintro e' w4 ⟨rfl, f4⟩; replace FW := hid (FW.out.trans f4); replace HQ := hid (BS.fr HQ.out f4 (fun h => h)); replace HD := hid (BS.fr HD.out f4 (fun h => h)); clear f4 d0) | (refine st_S rfl (.tmp 8) (.tmp 25) rfl w4.heap.size rfl rfl (by simp [Value.oneCell']) (Blk.new w4 _ _) rfl ?_; intro w5 HE0 f5; have FX : Fr No w4 w5 := ((Fr.refl No w4).alloc _).step f5 (fun i hi e => by omega); replace FW := hid (FW.out.trans FX); replace HQ := hid (BS.fr HQ.out FX (fun h => h)); replace HD := hid (BS.fr HD.out FX (fun h => h)); have HE := hid (show BS w5 w4.heap.size ⟨y0, y1, y2, y3, y4, y5, y6, y7, y8, yb⟩ from HE0); clear f5 FX HE0))
  obtain ⟨D2, hD2⟩ : ∃ D2, w4.heap.size = D2 := ⟨_, rfl⟩
  rw [hD2] at HE ⊢
  clear hD2
  have d0 : w5.cell? ⟨D, 0, none⟩ = some (.int .i64 x0) := Blk.cell HD.out 0
  have e0 : w5.cell? ⟨D2, 0, none⟩ = some (.int .i64 y0) := Blk.cell HE.out 0
  go_wp2_with (first | (refine ld_S rfl (.tmp 6) rfl D rfl HD.out ?_; dsimp only) | (refine st_S rfl (.tmp 4) (.tmp 47) rfl R rfl rfl (by simp [Value.oneCell']) HQ.out rfl ?_; intro w11 HQ11 f11; have HF11 := hid (FW.out.step f11 (fun i hi e => absurd hi (by have := HRR.out; omega))); clear f11))
  exact bodyPost_ret (v := .tuple #[spv ⟨x0, x1, x2, x3, x4, x5, x6, x7, x8, xb⟩, .bool true]) (resS rfl _ _ R ⟨x0, x1, x2, x3, x4, x5, x6, x7, x8, xb⟩ (.bool true) rfl rfl HQ11) rfl ⟨rfl, HF11.out⟩
set_option maxRecDepth 100000 in
set_option maxHeartbeats 2000000 in
theorem way6 {x0 x1 x2 x3 x4 x5 x6 x7 x8 : Int} {xb : Bool} {y0 y1 y2 y3 y4 y5 y6 y7 y8 : Int} {yb : Bool} (A1 : Option Addr) (l1 c1 : Nat) (za : List Int) (A2 : Option Addr) (l2 c2 : Nat) (zb : List Int) (w : World) (h1 : IsB w A1 l1 c1 za) (h2 : IsB w A2 l2 c2 zb) (ha : decR za = some ⟨x0, x1, x2, x3, x4, x5, x6, x7, x8, xb⟩) (gx : 1 ≤ x0 ∧ x0 ≤ 1099511627776) (p : x0 % 2 = 0) (hb : decR zb = some ⟨y0, y1, y2, y3, y4, y5, y6, y7, y8, yb⟩) (gy : 1 ≤ y0 ∧ y0 ≤ 1099511627776) (q : y0 % 2 = 1) (r : ¬ y0 < x0) :
    Calls Tryd.prog 23 #[.slice A1 l1 c1, .slice A2 l2 c2] w fun E w' => E = .returned (.tuple #[spv (outS (pkR (some ⟨x0, x1, x2, x3, x4, x5, x6, x7, x8, xb⟩) (some ⟨y0, y1, y2, y3, y4, y5, y6, y7, y8, yb⟩))), .bool (pkR (some ⟨x0, x1, x2, x3, x4, x5, x6, x7, x8, xb⟩) (some ⟨y0, y1, y2, y3, y4, y5, y6, y7, y8, yb⟩)).isSome]) ∧ Fr No w w' := by
  have hv : pkR (some ⟨x0, x1, x2, x3, x4, x5, x6, x7, x8, xb⟩) (some ⟨y0, y1, y2, y3, y4, y5, y6, y7, y8, yb⟩) = some ⟨y0, y1, y2, y3, y4, y5, y6, y7, y8, yb⟩ := by
    unfold pkR
    rw [show ev 0 (some ⟨x0, x1, x2, x3, x4, x5, x6, x7, x8, xb⟩) = some ⟨x0, x1, x2, x3, x4, x5, x6, x7, x8, xb⟩ from if_pos p, show ev 1 (some ⟨y0, y1, y2, y3, y4, y5, y6, y7, y8, yb⟩) = some ⟨y0, y1, y2, y3, y4, y5, y6, y7, y8, yb⟩ from if_pos q]
    exact if_neg r
  rw [hv]
  clear hv
  obtain ⟨R, hR⟩ : ∃ R, w.heap.size = R := ⟨_, rfl⟩
  obtain ⟨w1, hw1⟩ : ∃ w1, w.alloc (.cells #[.int .i64 0, .int .i64 0, .int .i64 0, .int .i64 0, .int .i64 0, .int .i64 0, .int .i64 0, .int .i64 0, .int .i64 0, .bool false] 25) = w1 := ⟨_, rfl⟩
  have FW := hid (show Fr No w w1 by rw [← hw1]; exact (Fr.refl _ w).alloc _)
  have HQ := hid (show BS w1 R rz by
    rw [← hw1, ← hR]
    exact Blk.new w _ _)
  have HW1 := hid hw1
  have HA := hid ha
  have HBB := hid hb
  have H1 := hid h1
  have H2 := hid h2
  have HRR := hid hR
  clear hw1 ha hb h1 h2
  have p2 : (x0 % 2 == 0) = true := by simpa using p
  obtain ⟨gx1, gx2⟩ := gx
  clear p
  have q2 : (y0 % 2 == 1) = true := by simpa using q
  obtain ⟨gy1, gy2⟩ := gy
  clear q
  have r2 : decide (y0 < x0) = false := by simpa using r
  clear r
  go_enter Tryd.func23, Tryd.ntmps23
  go_upto_region 1 with fail
  rw [show w.alloc (Obj.cells #[Value.int IntKind.i64 0, Value.int IntKind.i64 0, Value.int IntKind.i64 0, Value.int IntKind.i64 0, Value.int IntKind.i64 0, Value.int IntKind.i64 0, Value.int IntKind.i64 0, Value.int IntKind.i64 0, Value.int IntKind.i64 0, Value.bool false] 25) = w1 from HW1.out]
  try rw [hR]
  go_upto_region 2 with (first | (go_at_call 21; refine (rdec_some A1 l1 c1 za _ (H1.out.fr FW.out) HA.out).mono ?_; rintro e' w2 ⟨rfl, f2⟩; replace FW := hid (FW.out.trans f2); replace HQ := hid (BS.fr HQ.out f2 (fun h => h)); clear f2) | (refine st_S rfl (.tmp 6) (.tmp 13) rfl w2.heap.size rfl rfl (by simp [Value.oneCell']) (Blk.new w2 _ _) rfl ?_; intro w3 HD0 f3; have FX : Fr No w2 w3 := ((Fr.refl No w2).alloc _).step f3 (fun i hi e => by omega); replace FW := hid (FW.out.trans FX); replace HQ := hid (BS.fr HQ.out FX (fun h => h)); have HD := hid (show BS w3 w2.heap.size ⟨x0, x1, x2, x3, x4, x5, x6, x7, x8, xb⟩ from HD0); clear f3 FX HD0))
  obtain ⟨D, hD⟩ : ∃ D, w2.heap.size = D := ⟨_, rfl⟩
  rw [hD] at HD ⊢
  clear hD
  have d0 : w3.cell? ⟨D, 0, none⟩ = some (.int .i64 x0) := Blk.cell HD.out 0
  go_upto_region 4 with (first | (go_at_call 21; refine (rdec_some A2 l2 c2 zb _ (H2.out.fr FW.out) HBB.out).mono ?_; rintro e' w4 ⟨rfl, f4⟩; replace FW := hid (FW.out.trans f4); replace HQ := hid (BS.fr HQ.out f4 (fun h => h)); replace HD := hid (BS.fr HD.out f4 (fun h => h)); clear f4 d0) | (refine st_S rfl (.tmp 8) (.tmp 25) rfl w4.heap.size rfl rfl (by simp [Value.oneCell']) (Blk.new w4 _ _) rfl ?_; intro w5 HE0 f5; have FX : Fr No w4 w5 := ((Fr.refl No w4).alloc _).step f5 (fun i hi e => by omega); replace FW := hid (FW.out.trans FX); replace HQ := hid (BS.fr HQ.out FX (fun h => h)); replace HD := hid (BS.fr HD.out FX (fun h => h)); have HE := hid (show BS w5 w4.heap.size ⟨y0, y1, y2, y3, y4, y5, y6, y7, y8, yb⟩ from HE0); clear f5 FX HE0))
  obtain ⟨D2, hD2⟩ : ∃ D2, w4.heap.size = D2 := ⟨_, rfl⟩
  rw [hD2] at HE ⊢
  clear hD2
  have d0 : w5.cell? ⟨D, 0, none⟩ = some (.int .i64 x0) := Blk.cell HD.out 0
  have e0 : w5.cell? ⟨D2, 0, none⟩ = some (.int .i64 y0) := Blk.cell HE.out 0
  go_wp2_with (first | (refine ld_S rfl (.tmp 8) rfl D2 rfl HE.out ?_; dsimp only) | (refine st_S rfl (.tmp 4) (.tmp 50) rfl R rfl rfl (by simp [Value.oneCell']) HQ.out rfl ?_; intro w11 HQ11 f11; have HF11 := hid (FW.out.step f11 (fun i hi e => absurd hi (by have := HRR.out; omega))); clear f11))
  exact bodyPost_ret (v := .tuple #[spv ⟨y0, y1, y2, y3, y4, y5, y6, y7, y8, yb⟩, .bool true]) (resS rfl _ _ R ⟨y0, y1, y2, y3, y4, y5, y6, y7, y8, yb⟩ (.bool true) rfl rfl HQ11) rfl ⟨rfl, HF11.out⟩
set_option maxRecDepth 100000 in
set_option maxHeartbeats 2000000 in
theorem way7 {x0 x1 x2 x3 x4 x5 x6 x7 x8 : Int} {xb : Bool} (A1 : Option Addr) (l1 c1 : Nat) (za : List Int) (A2 : Option Addr) (l2 c2 : Nat) (zb : List Int) (w : World) (h1 : IsB w A1 l1 c1 za) (h2 : IsB w A2 l2 c2 zb) (ha : decR za = some ⟨x0, x1, x2, x3, x4, x5, x6, x7, x8, xb⟩) (gx : 1 ≤ x0 ∧ x0 ≤ 1099511627776) (p : ¬ x0 % 2 = 0) (hb : decR zb = none) :
    Calls Tryd.prog 23 #[.slice A1 l1 c1, .slice A2 l2 c2] w fun E w' => E = .returned (.tuple #[spv (outS (pkR (some ⟨x0, x1, x2, x3, x4, x5, x6, x7, x8, xb⟩) (none))), .bool (pkR (some ⟨x0, x1, x2, x3, x4, x5, x6, x7, x8, xb⟩) (none)).isSome]) ∧ Fr No w w' := by
  have hv : pkR (some ⟨x0, x1, x2, x3, x4, x5, x6, x7, x8, xb⟩) (none) = none := by
    unfold pkR
    rw [show ev 0 (some ⟨x0, x1, x2, x3, x4, x5, x6, x7, x8, xb⟩) = none from if_neg p, show ev 1 none = none from rfl]
    exact rfl
  rw [hv]
  clear hv
  obtain ⟨R, hR⟩ : ∃ R, w.heap.size = R := ⟨_, rfl⟩
  obtain ⟨w1, hw1⟩ : ∃ w1, w.alloc (.cells #[.int .i64 0, .int .i64 0, .int .i64 0, .int .i64 0, .int .i64 0, .int .i64 0, .int .i64 0, .int .i64 0, .int .i64 0, .bool false] 25) = w1 := ⟨_, rfl⟩
  have FW := hid (show Fr No w w1 by rw [← hw1]; exact (Fr.refl _ w).alloc _)
  have HQ := hid (show BS w1 R rz by
    rw [← hw1, ← hR]
    exact Blk.new w _ _)
  have HW1 := hid hw1
  have HA := hid ha
  have HBB := hid hb
  have H1 := hid h1
  have H2 := hid h2
  have HRR := hid hR
  clear hw1 ha hb h1 h2
  have p2 : (x0 % 2 == 0) = false := by simpa using p
  obtain ⟨gx1, gx2⟩ := gx
  clear p
  go_enter Tryd.func23, Tryd.ntmps23
  go_upto_region 1 with fail
  rw [show w.alloc (Obj.cells #[Value.int IntKind.i64 0, Value.int IntKind.i64 0, Value.int IntKind.i64 0, Value.int IntKind.i64 0, Value.int IntKind.i64 0, Value.int IntKind.i64 0, Value.int IntKind.i64 0, Value.int IntKind.i64 0, Value.int IntKind.i64 0, Value.bool false] 25) = w1 from HW1.out]
  try rw [hR]
  go_upto_region 2 with (first | (go_at_call 21; refine (rdec_some A1 l1 c1 za _ (H1.out.fr FW.out) HA.out).mono ?_; rintro e' w2 ⟨rfl, f2⟩; replace FW := hid (FW.out.trans f2); replace HQ := hid (BS.fr HQ.out f2 (fun h => h)); clear f2) | (refine st_S rfl (.tmp 6) (.tmp 13) rfl w2.heap.size rfl rfl (by simp [Value.oneCell']) (Blk.new w2 _ _) rfl ?_; intro w3 HD0 f3; have FX : Fr No w2 w3 := ((Fr.refl No w2).alloc _).step f3 (fun i hi e => by omega); replace FW := hid (FW.out.trans FX); replace HQ := hid (BS.fr HQ.out FX (fun h => h)); have HD := hid (show BS w3 w2.heap.size ⟨x0, x1, x2, x3, x4, x5, x6, x7, x8, xb⟩ from HD0); clear f3 FX HD0))
  obtain ⟨D, hD⟩ : ∃ D, w2.heap.size = D := ⟨_, rfl⟩
  rw [hD] at HD ⊢
  clear hD
  have d0 : w3.cell? ⟨D, 0, none⟩ = some (.int .i64 x0) := Blk.cell HD.out 0
  go_upto_region 4 with (first | (go_at_call 21; refine (rdec_none A2 l2 c2 zb _ (H2.out.fr FW.out) HBB.out).mono ?_; rintro e' w4 ⟨rfl, f4⟩; replace FW := hid (FW.out.trans f4); replace HQ := hid (BS.fr HQ.out f4 (fun h => h)); replace HD := hid (BS.fr HD.out f4 (fun h => h)); clear f4 d0) | (refine st_S rfl (.tmp 8) (.tmp 25) rfl w4.heap.size rfl rfl (by simp [Value.oneCell']) (Blk.new w4 _ _) rfl ?_; intro w5 HE0 f5; have FX : Fr No w4 w5 := ((Fr.refl No w4).alloc _).step f5 (fun i hi e => by omega); replace FW := hid (FW.out.trans FX); replace HQ := hid (BS.fr HQ.out FX (fun h => h)); replace HD := hid (BS.fr HD.out FX (fun h => h)); have HE := hid (show BS w5 w4.heap.size rz from HE0); clear f5 FX HE0))
  obtain ⟨D2, hD2⟩ : ∃ D2, w4.heap.size = D2 := ⟨_, rfl⟩
  rw [hD2] at HE ⊢
  clear hD2
  have d0 : w5.cell? ⟨D, 0, none⟩ = some (.int .i64 x0) := Blk.cell HD.out 0
  have e0 : w5.cell? ⟨D2, 0, none⟩ = some (.int .i64 0) := Blk.cell HE.out 0
  go_wp2_with (refine st_S rfl (.tmp 4) (.tmp 51) rfl R rfl rfl (by simp [Value.oneCell']) HQ.out rfl ?_; intro w11 HQ11 f11; have HF11 := hid (FW.out.step f11 (fun i hi e => absurd hi (by have := HRR.out; omega))); clear f11)
  exact bodyPost_ret (v := .tuple #[spv rz, .bool false]) (resS rfl _ _ R rz (.bool false) rfl rfl HQ11) rfl ⟨rfl, HF11.out⟩
set_option maxRecDepth 100000 in
set_option maxHeartbeats 2000000 in
theorem way8 {x0 x1 x2 x3 x4 x5 x6 x7 x8 : Int} {xb : Bool} {y0 y1 y2 y3 y4 y5 y6 y7 y8 : Int} {yb : Bool} (A1 : Option Addr) (l1 c1 : Nat) (za : List Int) (A2 : Option Addr) (l2 c2 : Nat) (zb : List Int) (w : World) (h1 : IsB w A1 l1 c1 za) (h2 : IsB w A2 l2 c2 zb) (ha : decR za = some ⟨x0, x1, x2, x3, x4, x5, x6, x7, x8, xb⟩) (gx : 1 ≤ x0 ∧ x0 ≤ 1099511627776) (p : ¬ x0 % 2 = 0) (hb : decR zb = some ⟨y0, y1, y2, y3, y4, y5, y6, y7, y8, yb⟩) (gy : 1 ≤ y0 ∧ y0 ≤ 1099511627776) (q : y0 % 2 = 1) :
    Calls Tryd.prog 23 #[.slice A1 l1 c1, .slice A2 l2 c2] w fun E w' => E = .returned (.tuple #[spv (outS (pkR (some ⟨x0, x1, x2, x3, x4, x5, x6, x7, x8, xb⟩) (some ⟨y0, y1, y2, y3, y4, y5, y6, y7, y8, yb⟩))), .bool (pkR (some ⟨x0, x1, x2, x3, x4, x5, x6, x7, x8, xb⟩) (some ⟨y0, y1, y2, y3, y4, y5, y6, y7, y8, yb⟩)).isSome]) ∧ Fr No w w' := by
  have hv : pkR (some ⟨x0, x1, x2, x3, x4, x5, x6, x7, x8, xb⟩) (some ⟨y0, y1, y2, y3, y4, y5, y6, y7, y8, yb⟩) = some ⟨y0, y1, y2, y3, y4, y5, y6, y7, y8, yb⟩ := by
    unfold pkR
    rw [show ev 0 (some ⟨x0, x1, x2, x3, x4, x5, x6, x7, x8, xb⟩) = none from if_neg p, show ev 1 (some ⟨y0, y1, y2, y3, y4, y5, y6, y7, y8, yb⟩) = some ⟨y0, y1, y2, y3, y4, y5, y6, y7, y8, yb⟩ from if_pos q]
    exact rfl
  rw [hv]
  clear hv
  obtain ⟨R, hR⟩ : ∃ R, w.heap.size = R := ⟨_, rfl⟩
  obtain ⟨w1, hw1⟩ : ∃ w1, w.alloc (.cells #[.int .i64 0, .int .i64 0, .int .i64 0, .int .i64 0, .int .i64 0, .int .i64 0, .int .i64 0, .int .i64 0, .int .i64 0, .bool false] 25) = w1 := ⟨_, rfl⟩
  have FW := hid (show Fr No w w1 by rw [← hw1]; exact (Fr.refl _ w).alloc _)
  have HQ := hid (show BS w1 R rz by
    rw [← hw1, ← hR]
    exact Blk.new w _ _)
  have HW1 := hid hw1
  have HA := hid ha
  have HBB := hid hb
  have H1 := hid h1
  have H2 := hid h2
  have HRR := hid hR
  clear hw1 ha hb h1 h2
  have p2 : (x0 % 2 == 0) = false := by simpa using p
  obtain ⟨gx1, gx2⟩ := gx
  clear p
  have q2 : (y0 % 2 == 1) = true := by simpa using q
  obtain ⟨gy1, gy2⟩ := gy
  clear q
  go_enter Tryd.func23, Tryd.ntmps23
  go_upto_region 1 with fail
  rw [show w.alloc (Obj.cells #[Value.int IntKind.i64 0, Value.int IntKind.i64 0, Value.int IntKind.i64 0, Value.int IntKind.i64 0, Value.int IntKind.i64 0, Value.int IntKind.i64 0, Value.int IntKind.i64 0, Value.int IntKind.i64 0, Value.int IntKind.i64 0, Value.bool false] 25) = w1 from HW1.out]
  try rw [hR]
  go_upto_region 2 with (first | (go_at_call 21; refine (rdec_some A1 l1 c1 za _ (H1.out.fr FW.out) HA.out).mono ?_; rintro e' w2 ⟨rfl, f2⟩; replace FW := hid (FW.out.trans f2); replace HQ := hid (BS.fr HQ.out f2 (fun h => h)); clear f2) | (refine st_S rfl (.tmp 6) (.tmp 13) rfl w2.heap.size rfl rfl (by simp [Value.oneCell']) (Blk.new w2 _ _) rfl ?_; intro w3 HD0 f3; have FX : Fr No w2 w3 := ((Fr.refl No w2).alloc _).step f3 (fun i hi e => by omega); replace FW := hid (FW.out.trans FX); replace HQ := hid (BS.fr HQ.out FX (fun h => h)); have HD := hid (show BS w3 w2.heap.size ⟨x0, x1, x2, x3, x4, x5, x6, x7, x8, xb⟩ from HD0); clear f3 FX HD0))
  obtain ⟨D, hD⟩ : ∃ D, w2.heap.size = D := ⟨_, rfl⟩
  rw [hD] at HD ⊢
  clear hD
  have d0 : w3.cell? ⟨D, 0, none⟩ = some (.int .i64 x0) := Blk.cell HD.out 0
  go_upto_region 4 with (first | (go_at_call 21; refine (rdec_some A2 l2 c2 zb _ (H2.out.fr FW.out) HBB.out).mono ?_; rintro e' w4 ⟨rfl, f4⟩; replace FW := hid (FW.out.trans f4); replace HQ := hid (BS.fr HQ.out f4 (fun h => h)); replace HD := hid (BS.fr HD.out f4 (fun h => h)); clear f4 d0) | (refine st_S rfl (.tmp 8) (.tmp 25) rfl w4.heap.size rfl rfl (by simp [Value.oneCell']) (Blk.new w4 _ _) rfl ?_; intro w5 HE0 f5; have FX : Fr No w4 w5 := ((Fr.refl No w4).alloc _).step f5 (fun i hi e => by omega); replace FW := hid (FW.out.trans FX); replace HQ := hid (BS.fr HQ.out FX (fun h => h)); replace HD := hid (BS.fr HD.out FX (fun h => h)); have HE := hid (show BS w5 w4.heap.size ⟨y0, y1, y2, y3, y4, y5, y6, y7, y8, yb⟩ from HE0); clear f5 FX HE0))
  obtain ⟨D2, hD2⟩ : ∃ D2, w4.heap.size = D2 := ⟨_, rfl⟩
  rw [hD2] at HE ⊢
  clear hD2
  have d0 : w5.cell? ⟨D, 0, none⟩ = some (.int .i64 x0) := Blk.cell HD.out 0
  have e0 : w5.cell? ⟨D2, 0, none⟩ = some (.int .i64 y0) := Blk.cell HE.out 0
  go_wp2_with (first | (refine ld_S rfl (.tmp 8) rfl D2 rfl HE.out ?_; dsimp only) | (refine st_S rfl (.tmp 4) (.tmp 50) rfl R rfl rfl (by simp [Value.oneCell']) HQ.out rfl ?_; intro w11 HQ11 f11; have HF11 := hid (FW.out.step f11 (fun i hi e => absurd hi (by have := HRR.out; omega))); clear f11))
  exact bodyPost_ret (v := .tuple #[spv ⟨y0, y1, y2, y3, y4, y5, y6, y7, y8, yb⟩, .bool true]) (resS rfl _ _ R ⟨y0, y1, y2, y3, y4, y5, y6, y7, y8, yb⟩ (.bool true) rfl rfl HQ11) rfl ⟨rfl, HF11.out⟩
set_option maxRecDepth 100000 in
set_option maxHeartbeats 2000000 in
theorem way9 {x0 x1 x2 x3 x4 x5 x6 x7 x8 : Int} {xb : Bool} {y0 y1 y2 y3 y4 y5 y6 y7 y8 : Int} {yb : Bool} (A1 : Option Addr) (l1 c1 : Nat) (za : List Int) (A2 : Option Addr) (l2 c2 : Nat) (zb : List Int) (w : World) (h1 : IsB w A1 l1 c1 za) (h2 : IsB w A2 l2 c2 zb) (ha : decR za = some ⟨x0, x1, x2, x3, x4, x5, x6, x7, x8, xb⟩) (gx : 1 ≤ x0 ∧ x0 ≤ 1099511627776) (p : ¬ x0 % 2 = 0) (hb : decR zb = some ⟨y0, y1, y2, y3, y4, y5, y6, y7, y8, yb⟩) (gy : 1 ≤ y0 ∧ y0 ≤ 1099511627776) (q : ¬ y0 % 2 = 1) :
    Calls Tryd.prog 23 #[.slice A1 l1 c1, .slice A2 l2 c2] w fun E w' => E = .returned (.tuple #[spv (outS (pkR (some ⟨x0, x1, x2, x3, x4, x5, x6, x7, x8, xb⟩) (some ⟨y0, y1, y2, y3, y4, y5, y6, y7, y8, yb⟩))), .bool (pkR (some ⟨x0, x1, x2, x3, x4, x5, x6, x7, x8, xb⟩) (some ⟨y0, y1, y2, y3, y4, y5, y6, y7, y8, yb⟩)).isSome]) ∧ Fr No w w' := by
  have hv : pkR (some ⟨x0, x1, x2, x3, x4, x5, x6, x7, x8, xb⟩) (some ⟨y0, y1, y2, y3, y4, y5, y6, y7, y8, yb⟩) = none := by
    unfold pkR
    rw [show ev 0 (some ⟨x0, x1, x2, x3, x4, x5, x6, x7, x8, xb⟩) = none from if_neg p, show ev 1 (some ⟨y0, y1, y2, y3, y4, y5, y6, y7, y8, yb⟩) = none from if_neg q]
    exact rfl
  rw [hv]
  clear hv
  obtain ⟨R, hR⟩ : ∃ R, w.heap.size = R := ⟨_, rfl⟩
  obtain ⟨w1, hw1⟩ : ∃ w1, w.alloc (.cells #[.int .i64 0, .int .i64 0, .int .i64 0, .int .i64 0, .int .i64 0, .int .i64 0, .int .i64 0, .int .i64 0, .int .i64 0, .bool false] 25) = w1 := ⟨_, rfl⟩
  have FW := hid (show Fr No w w1 by rw [← hw1]; exact (Fr.refl _ w).alloc _)
  have HQ := hid (show BS w1 R rz by
    rw [← hw1, ← hR]
    exact Blk.new w _ _)
  have HW1 := hid hw1
  have HA := hid ha
  have HBB := hid hb
  have H1 := hid h1
  have H2 := hid h2
  have HRR := hid hR
  clear hw1 ha hb h1 h2
  have p2 : (x0 % 2 == 0) = false := by simpa using p
  obtain ⟨gx1, gx2⟩ := gx
  clear p
  have q2 : (y0 % 2 == 1) = false := by simpa using q
  obtain ⟨gy1, gy2⟩ := gy
  clear q
  go_enter Tryd.func23, Tryd.ntmps23
  go_upto_region 1 with fail
  rw [show w.alloc (Obj.cells #[Value.int IntKind.i64 0, Value.int IntKind.i64 0, Value.int IntKind.i64 0, Value.int IntKind.i64 0, Value.int IntKind.i64 0, Value.int IntKind.i64 0, Value.int IntKind.i64 0, Value.int IntKind.i64 0, Value.int IntKind.i64 0, Value.bool false] 25) = w1 from HW1.out]
  try rw [hR]
  go_upto_region 2 with (first | (go_at_call 21; refine (rdec_some A1 l1 c1 za _ (H1.out.fr FW.out) HA.out).mono ?_; rintro e' w2 ⟨rfl, f2⟩; replace FW := hid (FW.out.trans f2); replace HQ := hid (BS.fr HQ.out f2 (fun h => h)); clear f2) | (refine st_S rfl (.tmp 6) (.tmp 13) rfl w2.heap.size rfl rfl (by simp [Value.oneCell']) (Blk.new w2 _ _) rfl ?_; intro w3 HD0 f3; have FX : Fr No w2 w3 := ((Fr.refl No w2).alloc _).step f3 (fun i hi e => by omega); replace FW := hid (FW.out.trans FX); replace HQ := hid (BS.fr HQ.out FX (fun h => h)); have HD := hid (show BS w3 w2.heap.size ⟨x0, x1, x2, x3, x4, x5, x6, x7, x8, xb⟩ from HD0); clear f3 FX HD0))
  obtain ⟨D, hD⟩ : ∃ D, w2.heap.size = D := ⟨_, rfl⟩
  rw [hD] at HD ⊢
  clear hD
  have d0 : w3.cell? ⟨D, 0, none⟩ = some (.int .i64 x0) := Blk.cell HD.out 0
  go_upto_region 4 with (first | (go_at_call 21; refine (rdec_some A2 l2 c2 zb _ (H2.out.fr FW.out) HBB.out).mono ?_; rintro e' w4 ⟨rfl, f4⟩; replace FW := hid (FW.out.trans f4); replace HQ := hid (BS.fr HQ.out f4 (fun h => h)); replace HD := hid (BS.fr HD.out f4 (fun h => h)); clear f4 d0) | (refine st_S rfl (.tmp 8) (.tmp 25) rfl w4.heap.size rfl rfl (by simp [Value.oneCell']) (Blk.new w4 _ _) rfl ?_; intro w5 HE0 f5; have FX : Fr No w4 w5 := ((Fr.refl No w4).alloc _).step f5 (fun i hi e => by omega); replace FW := hid (FW.out.trans FX); replace HQ := hid (BS.fr HQ.out FX (fun h => h)); replace HD := hid (BS.fr HD.out FX (fun h => h)); have HE := hid (show BS w5 w4.heap.size ⟨y0, y1, y2, y3, y4, y5, y6, y7, y8, yb⟩ from HE0); clear f5 FX HE0))
  obtain ⟨D2, hD2⟩ : ∃ D2, w4.heap.size = D2 := ⟨_, rfl⟩
  rw [hD2] at HE ⊢
  clear hD2
  have d0 : w5.cell? ⟨D, 0, none⟩ = some (.int .i64 x0) := Blk.cell HD.out 0
  have e0 : w5.cell? ⟨D2, 0, none⟩ = some (.int .i64 y0) := Blk.cell HE.out 0
  go_wp2_with (refine st_S rfl (.tmp 4) (.tmp 51) rfl R rfl rfl (by simp [Value.oneCell']) HQ.out rfl ?_; intro w11 HQ11 f11; have HF11 := hid (FW.out.step f11 (fun i hi e => absurd hi (by have := HRR.out; omega))); clear f11)
  exact bodyPost_ret (v := .tuple #[spv rz, .bool false]) (resS rfl _ _ R rz (.bool false) rfl rfl HQ11) rfl ⟨rfl, HF11.out⟩
theorem rpick_ok (A1 : Option Addr) (l1 c1 : Nat) (za : List Int) (A2 : Option Addr) (l2 c2 : Nat) (zb : List Int) (w : World) (h1 : IsB w A1 l1 c1 za) (h2 : IsB w A2 l2 c2 zb) :
    Calls Tryd.prog 23 #[.slice A1 l1 c1, .slice A2 l2 c2] w fun E w' => E = .returned (.tuple #[spv (outS (pkP (dec za) (dec zb))), .bool (pkP (dec za) (dec zb)).isSome]) ∧ Fr No w w' := by
  have e1 := dec_decR za h1.2.2.2
  have e2 := dec_decR zb h2.2.2.2
  rw [pkP_pkR (fun x hx => (may_g (dec_may hx)).1) (fun x hx => (may_g (dec_may hx)).1)]
  obtain ⟨a, ha⟩ : ∃ a, decR za = a := ⟨_, rfl⟩
  obtain ⟨b, hb⟩ : ∃ b, decR zb = b := ⟨_, rfl⟩
  rw [e1, e2, ha, hb]
  rcases a with _ | ⟨x0, x1, x2, x3, x4, x5, x6, x7, x8, xb⟩
  · rcases b with _ | ⟨y0, y1, y2, y3, y4, y5, y6, y7, y8, yb⟩
    · exact way0 A1 l1 c1 za A2 l2 c2 zb w h1 h2 ha hb
    · have gy := may_g (dec_may (e2.trans hb))
      by_cases q : y0 % 2 = 1
      · exact way1 A1 l1 c1 za A2 l2 c2 zb w h1 h2 ha hb gy q
      · exact way2 A1 l1 c1 za A2 l2 c2 zb w h1 h2 ha hb gy q
  · have gx := may_g (dec_may (e1.trans ha))
    by_cases p : x0 % 2 = 0
    · rcases b with _ | ⟨y0, y1, y2, y3, y4, y5, y6, y7, y8, yb⟩
      · exact way3 A1 l1 c1 za A2 l2 c2 zb w h1 h2 ha gx p hb
      · have gy := may_g (dec_may (e2.trans hb))
        by_cases q : y0 % 2 = 1
        · by_cases r : y0 < x0
          · exact way5 A1 l1 c1 za A2 l2 c2 zb w h1 h2 ha gx p hb gy q r
          · exact way6 A1 l1 c1 za A2 l2 c2 zb w h1 h2 ha gx p hb gy q r
        · exact way4 A1 l1 c1 za A2 l2 c2 zb w h1 h2 ha gx p hb gy q
    · rcases b with _ | ⟨y0, y1, y2, y3, y4, y5, y6, y7, y8, yb⟩
      · exact way7 A1 l1 c1 za A2 l2 c2 zb w h1 h2 ha gx p hb
      · have gy := may_g (dec_may (e2.trans hb))
        by_cases q : y0 % 2 = 1
        · exact way8 A1 l1 c1 za A2 l2 c2 zb w h1 h2 ha gx p hb gy q
        · exact way9 A1 l1 c1 za A2 l2 c2 zb w h1 h2 ha gx p hb gy q
end Go.Proofs.YthhhmhgmmbfjhaaDoor.SuN
