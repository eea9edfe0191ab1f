/- Contracts: the right one of two sectors, and the next superblock, by the program. Conditions: what comes in reads as bytes; the table of sums is as its text lays it; the geometry's Seq is a whole number of 64 bits. -/
import Derived.Test.YthhhmhgmmbfjhaaDoorSuK
namespace Go.Proofs.YthhhmhgmmbfjhaaDoor.SuL
open Go.RowKit MSep MFrame LeW LeR RdA SuA SuB SuD SuH SuJ SuK CrcA CrcM CrcE

/-- The one that holds, of those that were looked at: one more. -/
def pk1 (j : Int) (r : Sp) : Option Sp → Sp
  | none => r
  | some x => if x.g % 2 = j ∧ r.g < x.g then x else r
def pkP (a b : Option Sp) : Option Sp := let r := pk1 1 (pk1 0 rz a) b; if r.g = 0 then none else some r
theorem dec_may {zs : List Int} {x : Sp} (h : dec zs = some x) : mayP x := by
  unfold dec dP dP1 at h
  split at h
  · split at h
    · split at h
      · rename_i hm
        cases h
        exact hm.2
      · cases h
    · cases h
  · cases h
theorem may_s {g c s n l k t e f : Int} (h : mayS g c s n l k t e f) : -9223372036854775808 ≤ s ∧ s ≤ 9223372036854775807 := by
  have := h.2.2.1.2.1
  omega
theorem may_g {g c s n l k t e f : Int} (h : mayS g c s n l k t e f) : 1 ≤ g ∧ g ≤ 1099511627776 := h.2.1
theorem decode_none (A : Option Addr) (l c : Nat) (zs : List Int) (w : World) (hb : IsB w A l c zs) (hT : TabAt w) (hd : dec zs = none) :
    Calls Tryd.prog 19 #[.slice A l c] w fun E w' => E = .returned (.tuple #[sv 0 0 0 0 0 0 0 0 0 false, .int .i64 80]) ∧ Fr No w w' := by
  refine (decode_ok A l c zs w hb hT).mono ?_
  rintro E w' ⟨h, f⟩
  rw [hd] at h
  exact ⟨h, f⟩
theorem decode_some (A : Option Addr) (l c : Nat) (zs : List Int) (w : World) (hb : IsB w A l c zs) (hT : TabAt w) {g k1 s n l1 k t e f : Int} {b : Bool} (hd : dec zs = some ⟨g, k1, s, n, l1, k, t, e, f, b⟩) :
    Calls Tryd.prog 19 #[.slice A l c] w fun E w' => E = .returned (.tuple #[sv g k1 s n l1 k t e f b, .int .i64 0]) ∧ Fr No w w' := by
  refine (decode_ok A l c zs w hb hT).mono ?_
  rintro E w' ⟨h, f⟩
  rw [hd] at h
  exact ⟨h, f⟩
theorem BS.fr {S : Nat → Prop} {w w' : World} {R : Nat} {r : Sp} (h : BS w R r) (f : Fr S w w') (hn : ¬ S R) : BS w' R r := Blk.fr h f hn
theorem BS.g_ {w : World} {R : Nat} {r : Sp} (h : BS w R r) : w.cell? ⟨R, 0, none⟩ = some (.int .i64 r.g) := Blk.cell h 0
/-- What is held behind j sectors. -/
def rj (a b : Option Sp) : Nat → Sp
  | 0 => rz
  | 1 => pk1 0 rz a
  | _ => pk1 1 (pk1 0 rz a) b
theorem rj_succ (a b : Option Sp) : ∀ j, j < 2 → rj a b (j + 1) = pk1 j (rj a b j) (if j = 0 then a else b)
  | 0, _ => rfl
  | 1, _ => rfl
set_option maxRecDepth 100000 in
set_option maxHeartbeats 4000000 in
theorem pick_ok (A1 : Option Addr) (l1 c1 : Nat) (za : List Int) (A2 : Option Addr) (l2 c2 : Nat) (zb : List Int) (w : World) (h1 : IsB w A1 l1 c1 za) (h2 : IsB w A2 l2 c2 zb) (hT : TabAt w) :
    Calls Tryd.prog 22 #[.slice A1 l1 c1, .slice A2 l2 c2] w fun E w' => E = .returned (.tuple #[spv (outS (pkP (dec za) (dec zb))), .int .i64 (outE (pkP (dec za) (dec zb)))]) ∧ Fr No w w' := by
  obtain ⟨R, hR⟩ : ∃ R, w.heap.size = R := ⟨_, rfl⟩
  obtain ⟨R2, hR2⟩ : ∃ R2, R + 1 = R2 := ⟨_, rfl⟩
  obtain ⟨w1, hw1⟩ : ∃ w1, (w.alloc (.cells #[.int .i64 0, .int .i64 0, .int .i64 0, .int .i64 0, .int .i64 0, .int .i64 0, .int .i64 0, .int .i64 0, .int .i64 0, .bool false] 25)).alloc (.cells #[.int .i64 0, .int .i64 0, .int .i64 0, .int .i64 0, .int .i64 0, .int .i64 0, .int .i64 0, .int .i64 0, .int .i64 0, .bool false] 25) = w1 := ⟨_, rfl⟩
  have FW := hid (show Fr No w w1 by rw [← hw1]; exact ((Fr.refl _ w).alloc _).alloc _)
  have HQ := hid (show BS w1 R rz by
    rw [← hw1, ← hR]
    exact (Blk.new w _ _).alloc _)
  have HB := hid (show BS w1 R2 rz by
    rw [← hw1, ← hR2, ← hR]
    have := Blk.new (w.alloc (.cells #[.int .i64 0, .int .i64 0, .int .i64 0, .int .i64 0, .int .i64 0, .int .i64 0, .int .i64 0, .int .i64 0, .int .i64 0, .bool false] 25)) 25 #[.int .i64 0, .int .i64 0, .int .i64 0, .int .i64 0, .int .i64 0, .int .i64 0, .int .i64 0, .int .i64 0, .int .i64 0, .bool false]
    rwa [World.size_alloc] at this)
  have HW1 := hid hw1
  have HNE := hid (show R < R2 ∧ w.heap.size ≤ R by omega)
  have HT := hid hT
  have H1 := hid h1
  have H2 := hid h2
  obtain ⟨a, ha⟩ : ∃ a, dec za = a := ⟨_, rfl⟩
  obtain ⟨b, hb⟩ : ∃ b, dec zb = b := ⟨_, rfl⟩
  rw [ha, hb]
  have HA := hid ha
  have HBB := hid hb
  clear hT h1 h2 hw1 ha hb
  have i0 : ∀ w, (Instr.index 111 (.agg #[.slice A1 l1 c1, .slice A2 l2 c2]) (.int .i64 (0 : Nat))).run Tryd.prog w = .ok (.slice A1 l1 c1) w := fun _ => by kernel_rfl
  have i1 : ∀ w, (Instr.index 111 (.agg #[.slice A1 l1 c1, .slice A2 l2 c2]) (.int .i64 (1 : Nat))).run Tryd.prog w = .ok (.slice A2 l2 c2) w := fun _ => by kernel_rfl
  dsimp only [Int.cast_ofNat_Int, Int.ofNat_eq_natCast] at i0 i1
  go_enter Tryd.func22, Tryd.ntmps22
  go_upto_region 2 with fail
  rw [show (w.alloc (Obj.cells #[Value.int IntKind.i64 0, Value.int IntKind.i64 0, Value.int IntKind.i64 0, Value.int IntKind.i64 0, Value.int IntKind.i64 0, Value.int IntKind.i64 0, Value.int IntKind.i64 0, Value.int IntKind.i64 0, Value.int IntKind.i64 0, Value.bool false] 25)).alloc (Obj.cells #[Value.int IntKind.i64 0, Value.int IntKind.i64 0, Value.int IntKind.i64 0, Value.int IntKind.i64 0, Value.int IntKind.i64 0, Value.int IntKind.i64 0, Value.int IntKind.i64 0, Value.int IntKind.i64 0, Value.int IntKind.i64 0, Value.bool false] 25) = w1 from HW1.out]
  try rw [hR]
  try rw [hR2]
  clear HW1
  go_wp2
  go_loopw [14] (fun i wr => ∃ j : Nat, j ≤ 2 ∧ i = .int .i64 j ∧ BS wr R2 (rj a b j) ∧ BS wr R rz ∧ Fr No w wr) (fun i _ => 2 - (intOf i).toNat)
  case atStart => exact ⟨0, by omega, rfl, HB.out, HQ.out, FW.out⟩
  case round =>
    clear HB HQ FW
    obtain ⟨j, hj, rfl, hb0, hq0, fw0⟩ := hrel
    have HB := hid hb0
    have HQ := hid hq0
    have FW := hid fw0
    clear hb0 hq0 fw0
    obtain ⟨wo, hwo⟩ : ∃ wo : World, wo = wr := ⟨_, rfl⟩
    subst hwo
    have hjc : j = 0 ∨ j = 1 ∨ j = 2 := by omega
    clear hj
    rcases hjc with rfl | rfl | rfl
    · obtain ⟨r, hr⟩ : ∃ r, rj a b 0 = r := ⟨_, rfl⟩
      have hsu := rj_succ a b 0 (by decide)
      rw [hr] at HB hsu
      have HSU := hid hsu
      clear hr hsu
      have HIb := hid (H1.out.fr FW.out)
      have HTb := hid (HT.out.fr FW.out (fun h => h))
      rcases a with _ | ⟨x0, x1, x2, x3, x4, x5, x6, x7, x8, xb⟩
      · go_wp2_with (first | (go_at_call 19; refine (decode_none A1 l1 c1 za _ HIb.out HTb.out HA.out).mono ?_; rintro e' w2 ⟨rfl, f2⟩; replace FW := hid (FW.out.trans f2); replace HB := hid (HB.out.fr f2 (fun h => h)); replace HQ := hid (HQ.out.fr f2 (fun h => h)); clear f2) | (refine st_S rfl (.tmp 9) (.tmp 21) rfl w2.heap.size rfl rfl (by simp [Value.oneCell']) (Blk.new w2 _ _) rfl ?_; intro w3 HD f3; have FX : Fr No w2 w3 := ((Fr.refl No w2).alloc _).step f3 (fun i hi e => by omega); replace FW := hid (FW.out.trans FX); replace HB := hid (HB.out.fr FX (fun h => h)); replace HQ := hid (HQ.out.fr FX (fun h => h)); clear f3 FX))
        go_roundw
        case rel => exact ⟨1, by decide, by first | rfl | simp, by rw [HSU.out]; exact HB.out, HQ.out, FW.out⟩
        case measure => simp [intOf]
      · have hmy := dec_may HA.out
        have HMY := hid (show mayS x0 x1 x2 x3 x4 x5 x6 x7 x8 from hmy)
        clear hmy
        have HRG := hid (show ∀ v : Sp, r.g = v.g → r.g = v.g from fun _ h => h)
        go_upto_region 6 with (first | (go_at_call 19; refine (decode_some A1 l1 c1 za _ HIb.out HTb.out HA.out).mono ?_; rintro e' w2 ⟨rfl, f2⟩; replace FW := hid (FW.out.trans f2); replace HB := hid (HB.out.fr f2 (fun h => h)); replace HQ := hid (HQ.out.fr f2 (fun h => h)); clear f2) | (refine st_S rfl (.tmp 9) (.tmp 21) rfl w2.heap.size rfl rfl (by simp [Value.oneCell']) (Blk.new w2 _ _) rfl ?_; intro w3 HD f3; have FX : Fr No w2 w3 := ((Fr.refl No w2).alloc _).step f3 (fun i hi e => by omega); replace FW := hid (FW.out.trans FX); replace HB := hid (HB.out.fr FX (fun h => h)); replace HQ := hid (HQ.out.fr FX (fun h => h)); clear f3 FX))
        obtain ⟨D, hD⟩ : ∃ D, w2.heap.size = D := ⟨_, rfl⟩
        rw [hD] at HD ⊢
        have HDX := hid (show BS w3 D ⟨x0, x1, x2, x3, x4, x5, x6, x7, x8, xb⟩ from HD)
        have d0 : w3.cell? ⟨D, 0, none⟩ = some (.int .i64 x0) := Blk.cell HD 0
        have d1 : w3.cell? ⟨D, 1, none⟩ = some (.int .i64 x1) := Blk.cell HD 1
        have d2 : w3.cell? ⟨D, 2, none⟩ = some (.int .i64 x2) := Blk.cell HD 2
        have d3 : w3.cell? ⟨D, 3, none⟩ = some (.int .i64 x3) := Blk.cell HD 3
        have d4 : w3.cell? ⟨D, 4, none⟩ = some (.int .i64 x4) := Blk.cell HD 4
        have d5 : w3.cell? ⟨D, 5, none⟩ = some (.int .i64 x5) := Blk.cell HD 5
        have d6 : w3.cell? ⟨D, 6, none⟩ = some (.int .i64 x6) := Blk.cell HD 6
        have d7 : w3.cell? ⟨D, 7, none⟩ = some (.int .i64 x7) := Blk.cell HD 7
        have d8 : w3.cell? ⟨D, 8, none⟩ = some (.int .i64 x8) := Blk.cell HD 8
        have d9 : w3.cell? ⟨D, 9, none⟩ = some (.bool xb) := Blk.cell HD 9
        clear HD hD HRG
        by_cases hc : x0 % 2 = 0
        · have hcb : (x0 % 2 == 0) = true := by simpa using hc
          by_cases hg : r.g < x0
          · have hgb : decide (r.g < x0) = true := by simpa using hg
            have HRL := hid (show rj (some ⟨x0, x1, x2, x3, x4, x5, x6, x7, x8, xb⟩) b 1 = ⟨x0, x1, x2, x3, x4, x5, x6, x7, x8, xb⟩ by rw [HSU.out]; exact if_pos ⟨hc, hg⟩)
            clear hc HSU
            go_wp2_with (first | (go_at_call 18; go_loud (refine (copy_yes x0 x1 x2 x3 x4 x5 x6 x7 x8 xb _ (may_s HMY.out) HMY.out).mono ?_; rintro e' w4 ⟨rfl, f4⟩; replace FW := hid (FW.out.trans f4); replace HB := hid (HB.out.fr f4 (fun h => h)); replace HQ := hid (HQ.out.fr f4 (fun h => h)); replace HDX := hid (HDX.out.fr f4 (fun h => h)); clear f4 d0 d1 d2 d3 d4 d5 d6 d7 d8 d9; have d0 := BS.g_ HDX.out; have g0 := BS.g_ HB.out; try simp only [] at d0; have d1 : w4.cell? ⟨D, 1, none⟩ = some (.int .i64 x1) := Blk.cell HDX.out 1; have d2 : w4.cell? ⟨D, 2, none⟩ = some (.int .i64 x2) := Blk.cell HDX.out 2; have d3 : w4.cell? ⟨D, 3, none⟩ = some (.int .i64 x3) := Blk.cell HDX.out 3; have d4 : w4.cell? ⟨D, 4, none⟩ = some (.int .i64 x4) := Blk.cell HDX.out 4; have d5 : w4.cell? ⟨D, 5, none⟩ = some (.int .i64 x5) := Blk.cell HDX.out 5; have d6 : w4.cell? ⟨D, 6, none⟩ = some (.int .i64 x6) := Blk.cell HDX.out 6; have d7 : w4.cell? ⟨D, 7, none⟩ = some (.int .i64 x7) := Blk.cell HDX.out 7; have d8 : w4.cell? ⟨D, 8, none⟩ = some (.int .i64 x8) := Blk.cell HDX.out 8; have d9 : w4.cell? ⟨D, 9, none⟩ = some (.bool xb) := Blk.cell HDX.out 9)) | (refine st_S rfl (.tmp 6) (.tmp 38) rfl R2 rfl rfl (by simp [Value.oneCell']) HB.out rfl ?_; intro w5 HB5 f5; replace FW := hid (FW.out.step f5 (fun i hi e => absurd hi (by have := HNE.out; omega))); replace HQ := hid (HQ.out.fr f5 (fun h => by have := HNE.out; omega)); clear f5))
            go_roundw
            case rel => exact ⟨1, by decide, by first | rfl | simp, by rw [HRL.out]; exact HB5, HQ.out, FW.out⟩
            case measure => simp [intOf]
          · have hgb : decide (r.g < x0) = false := by simpa using hg
            have HRL := hid (show rj (some ⟨x0, x1, x2, x3, x4, x5, x6, x7, x8, xb⟩) b 1 = r by rw [HSU.out]; exact if_neg (fun h => hg h.2))
            clear hc HSU
            go_wp2_with (go_at_call 18; go_loud (refine (copy_yes x0 x1 x2 x3 x4 x5 x6 x7 x8 xb _ (may_s HMY.out) HMY.out).mono ?_; rintro e' w4 ⟨rfl, f4⟩; replace FW := hid (FW.out.trans f4); replace HB := hid (HB.out.fr f4 (fun h => h)); replace HQ := hid (HQ.out.fr f4 (fun h => h)); replace HDX := hid (HDX.out.fr f4 (fun h => h)); clear f4 d0 d1 d2 d3 d4 d5 d6 d7 d8 d9; have d0 := BS.g_ HDX.out; have g0 := BS.g_ HB.out; try simp only [] at d0; have d1 : w4.cell? ⟨D, 1, none⟩ = some (.int .i64 x1) := Blk.cell HDX.out 1; have d2 : w4.cell? ⟨D, 2, none⟩ = some (.int .i64 x2) := Blk.cell HDX.out 2; have d3 : w4.cell? ⟨D, 3, none⟩ = some (.int .i64 x3) := Blk.cell HDX.out 3; have d4 : w4.cell? ⟨D, 4, none⟩ = some (.int .i64 x4) := Blk.cell HDX.out 4; have d5 : w4.cell? ⟨D, 5, none⟩ = some (.int .i64 x5) := Blk.cell HDX.out 5; have d6 : w4.cell? ⟨D, 6, none⟩ = some (.int .i64 x6) := Blk.cell HDX.out 6; have d7 : w4.cell? ⟨D, 7, none⟩ = some (.int .i64 x7) := Blk.cell HDX.out 7; have d8 : w4.cell? ⟨D, 8, none⟩ = some (.int .i64 x8) := Blk.cell HDX.out 8; have d9 : w4.cell? ⟨D, 9, none⟩ = some (.bool xb) := Blk.cell HDX.out 9))
            go_roundw
            case rel => exact ⟨1, by decide, by first | rfl | simp, by rw [HRL.out]; exact HB.out, HQ.out, FW.out⟩
            case measure => simp [intOf]
        · have hcb : (x0 % 2 == 0) = false := by simpa using hc
          have HRL := hid (show rj (some ⟨x0, x1, x2, x3, x4, x5, x6, x7, x8, xb⟩) b 1 = r by rw [HSU.out]; exact if_neg (fun h => hc h.1))
          clear hc HSU
          go_wp2_with (go_at_call 18; go_loud (refine (copy_yes x0 x1 x2 x3 x4 x5 x6 x7 x8 xb _ (may_s HMY.out) HMY.out).mono ?_; rintro e' w4 ⟨rfl, f4⟩; replace FW := hid (FW.out.trans f4); replace HB := hid (HB.out.fr f4 (fun h => h)); replace HQ := hid (HQ.out.fr f4 (fun h => h)); replace HDX := hid (HDX.out.fr f4 (fun h => h)); clear f4 d0 d1 d2 d3 d4 d5 d6 d7 d8 d9; have d0 := BS.g_ HDX.out; have g0 := BS.g_ HB.out; try simp only [] at d0; have d1 : w4.cell? ⟨D, 1, none⟩ = some (.int .i64 x1) := Blk.cell HDX.out 1; have d2 : w4.cell? ⟨D, 2, none⟩ = some (.int .i64 x2) := Blk.cell HDX.out 2; have d3 : w4.cell? ⟨D, 3, none⟩ = some (.int .i64 x3) := Blk.cell HDX.out 3; have d4 : w4.cell? ⟨D, 4, none⟩ = some (.int .i64 x4) := Blk.cell HDX.out 4; have d5 : w4.cell? ⟨D, 5, none⟩ = some (.int .i64 x5) := Blk.cell HDX.out 5; have d6 : w4.cell? ⟨D, 6, none⟩ = some (.int .i64 x6) := Blk.cell HDX.out 6; have d7 : w4.cell? ⟨D, 7, none⟩ = some (.int .i64 x7) := Blk.cell HDX.out 7; have d8 : w4.cell? ⟨D, 8, none⟩ = some (.int .i64 x8) := Blk.cell HDX.out 8; have d9 : w4.cell? ⟨D, 9, none⟩ = some (.bool xb) := Blk.cell HDX.out 9))
          go_roundw
          case rel => exact ⟨1, by decide, by first | rfl | simp, by rw [HRL.out]; exact HB.out, HQ.out, FW.out⟩
          case measure => simp [intOf]
    · obtain ⟨r, hr⟩ : ∃ r, rj a b 1 = r := ⟨_, rfl⟩
      have hsu := rj_succ a b 1 (by decide)
      rw [hr] at HB hsu
      have HSU := hid hsu
      clear hr hsu
      have HIb := hid (H2.out.fr FW.out)
      have HTb := hid (HT.out.fr FW.out (fun h => h))
      rcases b with _ | ⟨x0, x1, x2, x3, x4, x5, x6, x7, x8, xb⟩
      · go_wp2_with (first | (go_at_call 19; refine (decode_none A2 l2 c2 zb _ HIb.out HTb.out HBB.out).mono ?_; rintro e' w2 ⟨rfl, f2⟩; replace FW := hid (FW.out.trans f2); replace HB := hid (HB.out.fr f2 (fun h => h)); replace HQ := hid (HQ.out.fr f2 (fun h => h)); clear f2) | (refine st_S rfl (.tmp 9) (.tmp 21) rfl w2.heap.size rfl rfl (by simp [Value.oneCell']) (Blk.new w2 _ _) rfl ?_; intro w3 HD f3; have FX : Fr No w2 w3 := ((Fr.refl No w2).alloc _).step f3 (fun i hi e => by omega); replace FW := hid (FW.out.trans FX); replace HB := hid (HB.out.fr FX (fun h => h)); replace HQ := hid (HQ.out.fr FX (fun h => h)); clear f3 FX))
        go_roundw
        case rel => exact ⟨2, by decide, by first | rfl | simp, by rw [HSU.out]; exact HB.out, HQ.out, FW.out⟩
        case measure => simp [intOf]
      · have hmy := dec_may HBB.out
        have HMY := hid (show mayS x0 x1 x2 x3 x4 x5 x6 x7 x8 from hmy)
        clear hmy
        have HRG := hid (show ∀ v : Sp, r.g = v.g → r.g = v.g from fun _ h => h)
        go_upto_region 6 with (first | (go_at_call 19; refine (decode_some A2 l2 c2 zb _ HIb.out HTb.out HBB.out).mono ?_; rintro e' w2 ⟨rfl, f2⟩; replace FW := hid (FW.out.trans f2); replace HB := hid (HB.out.fr f2 (fun h => h)); replace HQ := hid (HQ.out.fr f2 (fun h => h)); clear f2) | (refine st_S rfl (.tmp 9) (.tmp 21) rfl w2.heap.size rfl rfl (by simp [Value.oneCell']) (Blk.new w2 _ _) rfl ?_; intro w3 HD f3; have FX : Fr No w2 w3 := ((Fr.refl No w2).alloc _).step f3 (fun i hi e => by omega); replace FW := hid (FW.out.trans FX); replace HB := hid (HB.out.fr FX (fun h => h)); replace HQ := hid (HQ.out.fr FX (fun h => h)); clear f3 FX))
        obtain ⟨D, hD⟩ : ∃ D, w2.heap.size = D := ⟨_, rfl⟩
        rw [hD] at HD ⊢
        have HDX := hid (show BS w3 D ⟨x0, x1, x2, x3, x4, x5, x6, x7, x8, xb⟩ from HD)
        have d0 : w3.cell? ⟨D, 0, none⟩ = some (.int .i64 x0) := Blk.cell HD 0
        have d1 : w3.cell? ⟨D, 1, none⟩ = some (.int .i64 x1) := Blk.cell HD 1
        have d2 : w3.cell? ⟨D, 2, none⟩ = some (.int .i64 x2) := Blk.cell HD 2
        have d3 : w3.cell? ⟨D, 3, none⟩ = some (.int .i64 x3) := Blk.cell HD 3
        have d4 : w3.cell? ⟨D, 4, none⟩ = some (.int .i64 x4) := Blk.cell HD 4
        have d5 : w3.cell? ⟨D, 5, none⟩ = some (.int .i64 x5) := Blk.cell HD 5
        have d6 : w3.cell? ⟨D, 6, none⟩ = some (.int .i64 x6) := Blk.cell HD 6
        have d7 : w3.cell? ⟨D, 7, none⟩ = some (.int .i64 x7) := Blk.cell HD 7
        have d8 : w3.cell? ⟨D, 8, none⟩ = some (.int .i64 x8) := Blk.cell HD 8
        have d9 : w3.cell? ⟨D, 9, none⟩ = some (.bool xb) := Blk.cell HD 9
        clear HD hD HRG
        by_cases hc : x0 % 2 = 1
        · have hcb : (x0 % 2 == 1) = true := by simpa using hc
          by_cases hg : r.g < x0
          · have hgb : decide (r.g < x0) = true := by simpa using hg
            have HRL := hid (show rj a (some ⟨x0, x1, x2, x3, x4, x5, x6, x7, x8, xb⟩) 2 = ⟨x0, x1, x2, x3, x4, x5, x6, x7, x8, xb⟩ by rw [HSU.out]; exact if_pos ⟨hc, hg⟩)
            clear hc HSU
            go_wp2_with (first | (go_at_call 18; go_loud (refine (copy_yes x0 x1 x2 x3 x4 x5 x6 x7 x8 xb _ (may_s HMY.out) HMY.out).mono ?_; rintro e' w4 ⟨rfl, f4⟩; replace FW := hid (FW.out.trans f4); replace HB := hid (HB.out.fr f4 (fun h => h)); replace HQ := hid (HQ.out.fr f4 (fun h => h)); replace HDX := hid (HDX.out.fr f4 (fun h => h)); clear f4 d0 d1 d2 d3 d4 d5 d6 d7 d8 d9; have d0 := BS.g_ HDX.out; have g0 := BS.g_ HB.out; try simp only [] at d0; have d1 : w4.cell? ⟨D, 1, none⟩ = some (.int .i64 x1) := Blk.cell HDX.out 1; have d2 : w4.cell? ⟨D, 2, none⟩ = some (.int .i64 x2) := Blk.cell HDX.out 2; have d3 : w4.cell? ⟨D, 3, none⟩ = some (.int .i64 x3) := Blk.cell HDX.out 3; have d4 : w4.cell? ⟨D, 4, none⟩ = some (.int .i64 x4) := Blk.cell HDX.out 4; have d5 : w4.cell? ⟨D, 5, none⟩ = some (.int .i64 x5) := Blk.cell HDX.out 5; have d6 : w4.cell? ⟨D, 6, none⟩ = some (.int .i64 x6) := Blk.cell HDX.out 6; have d7 : w4.cell? ⟨D, 7, none⟩ = some (.int .i64 x7) := Blk.cell HDX.out 7; have d8 : w4.cell? ⟨D, 8, none⟩ = some (.int .i64 x8) := Blk.cell HDX.out 8; have d9 : w4.cell? ⟨D, 9, none⟩ = some (.bool xb) := Blk.cell HDX.out 9)) | (refine st_S rfl (.tmp 6) (.tmp 38) rfl R2 rfl rfl (by simp [Value.oneCell']) HB.out rfl ?_; intro w5 HB5 f5; replace FW := hid (FW.out.step f5 (fun i hi e => absurd hi (by have := HNE.out; omega))); replace HQ := hid (HQ.out.fr f5 (fun h => by have := HNE.out; omega)); clear f5))
            go_roundw
            case rel => exact ⟨2, by decide, by first | rfl | simp, by rw [HRL.out]; exact HB5, HQ.out, FW.out⟩
            case measure => simp [intOf]
          · have hgb : decide (r.g < x0) = false := by simpa using hg
            have HRL := hid (show rj a (some ⟨x0, x1, x2, x3, x4, x5, x6, x7, x8, xb⟩) 2 = r by rw [HSU.out]; exact if_neg (fun h => hg h.2))
            clear hc HSU
            go_wp2_with (go_at_call 18; go_loud (refine (copy_yes x0 x1 x2 x3 x4 x5 x6 x7 x8 xb _ (may_s HMY.out) HMY.out).mono ?_; rintro e' w4 ⟨rfl, f4⟩; replace FW := hid (FW.out.trans f4); replace HB := hid (HB.out.fr f4 (fun h => h)); replace HQ := hid (HQ.out.fr f4 (fun h => h)); replace HDX := hid (HDX.out.fr f4 (fun h => h)); clear f4 d0 d1 d2 d3 d4 d5 d6 d7 d8 d9; have d0 := BS.g_ HDX.out; have g0 := BS.g_ HB.out; try simp only [] at d0; have d1 : w4.cell? ⟨D, 1, none⟩ = some (.int .i64 x1) := Blk.cell HDX.out 1; have d2 : w4.cell? ⟨D, 2, none⟩ = some (.int .i64 x2) := Blk.cell HDX.out 2; have d3 : w4.cell? ⟨D, 3, none⟩ = some (.int .i64 x3) := Blk.cell HDX.out 3; have d4 : w4.cell? ⟨D, 4, none⟩ = some (.int .i64 x4) := Blk.cell HDX.out 4; have d5 : w4.cell? ⟨D, 5, none⟩ = some (.int .i64 x5) := Blk.cell HDX.out 5; have d6 : w4.cell? ⟨D, 6, none⟩ = some (.int .i64 x6) := Blk.cell HDX.out 6; have d7 : w4.cell? ⟨D, 7, none⟩ = some (.int .i64 x7) := Blk.cell HDX.out 7; have d8 : w4.cell? ⟨D, 8, none⟩ = some (.int .i64 x8) := Blk.cell HDX.out 8; have d9 : w4.cell? ⟨D, 9, none⟩ = some (.bool xb) := Blk.cell HDX.out 9))
            go_roundw
            case rel => exact ⟨2, by decide, by first | rfl | simp, by rw [HRL.out]; exact HB.out, HQ.out, FW.out⟩
            case measure => simp [intOf]
        · have hcb : (x0 % 2 == 1) = false := by simpa using hc
          have HRL := hid (show rj a (some ⟨x0, x1, x2, x3, x4, x5, x6, x7, x8, xb⟩) 2 = r by rw [HSU.out]; exact if_neg (fun h => hc h.1))
          clear hc HSU
          go_wp2_with (go_at_call 18; go_loud (refine (copy_yes x0 x1 x2 x3 x4 x5 x6 x7 x8 xb _ (may_s HMY.out) HMY.out).mono ?_; rintro e' w4 ⟨rfl, f4⟩; replace FW := hid (FW.out.trans f4); replace HB := hid (HB.out.fr f4 (fun h => h)); replace HQ := hid (HQ.out.fr f4 (fun h => h)); replace HDX := hid (HDX.out.fr f4 (fun h => h)); clear f4 d0 d1 d2 d3 d4 d5 d6 d7 d8 d9; have d0 := BS.g_ HDX.out; have g0 := BS.g_ HB.out; try simp only [] at d0; have d1 : w4.cell? ⟨D, 1, none⟩ = some (.int .i64 x1) := Blk.cell HDX.out 1; have d2 : w4.cell? ⟨D, 2, none⟩ = some (.int .i64 x2) := Blk.cell HDX.out 2; have d3 : w4.cell? ⟨D, 3, none⟩ = some (.int .i64 x3) := Blk.cell HDX.out 3; have d4 : w4.cell? ⟨D, 4, none⟩ = some (.int .i64 x4) := Blk.cell HDX.out 4; have d5 : w4.cell? ⟨D, 5, none⟩ = some (.int .i64 x5) := Blk.cell HDX.out 5; have d6 : w4.cell? ⟨D, 6, none⟩ = some (.int .i64 x6) := Blk.cell HDX.out 6; have d7 : w4.cell? ⟨D, 7, none⟩ = some (.int .i64 x7) := Blk.cell HDX.out 7; have d8 : w4.cell? ⟨D, 8, none⟩ = some (.int .i64 x8) := Blk.cell HDX.out 8; have d9 : w4.cell? ⟨D, 9, none⟩ = some (.bool xb) := Blk.cell HDX.out 9))
          go_roundw
          case rel => exact ⟨2, by decide, by first | rfl | simp, by rw [HRL.out]; exact HB.out, HQ.out, FW.out⟩
          case measure => simp [intOf]
    · obtain ⟨r, hr⟩ : ∃ r, rj a b 2 = r := ⟨_, rfl⟩
      have hpk : pkP a b = if r.g = 0 then none else some r := by rw [← hr]; rfl
      rw [hr] at HB
      have HPK := hid hpk
      clear hr hpk HA HBB i0 i1
      have g2 := BS.g_ HB.out
      obtain ⟨r0, r1, r2, r3, r4, r5, r6, r7, r8, rb⟩ := r
      simp only [] at g2
      by_cases h0 : r0 = 0
      · subst h0
        go_wp2_with (refine st_S rfl (.tmp 4) (.tmp 43) rfl R rfl rfl (by simp [Value.oneCell']) HQ.out rfl ?_; intro w11 HQ11 f11; have HF11 := hid (FW.out.step f11 (fun i hi e => absurd hi (by have := HNE.out; omega))); clear f11)
        exact bodyPost_ret (v := .tuple #[spv rz, .int .i64 80]) (resS rfl _ _ R rz (.int .i64 80) rfl rfl HQ11) rfl ⟨by rw [show pkP a b = none from by simpa using HPK.out]; rfl, HF11.out⟩
      · have h0b : (r0 == 0) = false := by simpa using h0
        go_wp2_with (first | (refine ld_S rfl (.tmp 6) rfl R2 rfl HB.out ?_; dsimp only) | (refine st_S rfl (.tmp 4) (.tmp 44) rfl R rfl rfl (by simp [Value.oneCell']) HQ.out rfl ?_; intro w11 HQ11 f11; have HF11 := hid (FW.out.step f11 (fun i hi e => absurd hi (by have := HNE.out; omega))); clear f11))
        exact bodyPost_ret (v := .tuple #[spv ⟨r0, r1, r2, r3, r4, r5, r6, r7, r8, rb⟩, .int .i64 0]) (resS rfl _ _ R ⟨r0, r1, r2, r3, r4, r5, r6, r7, r8, rb⟩ (.int .i64 0) rfl rfl HQ11) rfl ⟨by rw [show pkP a b = some _ from HPK.out.trans (if_neg h0)]; rfl, HF11.out⟩

/-- What follows on a superblock. -/
def nxS (r : Sp) (t e f : Int) (b : Bool) : Sp := ⟨wrap64 (r.g + 1), r.c, r.s, r.n, r.l, r.k, t, e, f, b⟩
def nx (r : Sp) (t e f : Int) (b : Bool) : Option Sp := if mayP r ∧ mayP (nxS r t e f b) then some (nxS r t e f b) else none
def outN (o : Option Sp) : Int := if o.isSome then 0 else 1
set_option maxRecDepth 100000 in
set_option maxHeartbeats 4000000 in
theorem next_ok (x0 x1 x2 x3 x4 x5 x6 x7 x8 : Int) (xb : Bool) (t e f : Int) (b : Bool) (w : World) (hs : -9223372036854775808 ≤ x2 ∧ x2 ≤ 9223372036854775807) :
    Calls Tryd.prog 24 #[sv x0 x1 x2 x3 x4 x5 x6 x7 x8 xb, .int .i64 t, .int .i64 e, .int .i64 f, .bool b] w fun E w' => E = .returned (.tuple #[spv (outS (nx ⟨x0, x1, x2, x3, x4, x5, x6, x7, x8, xb⟩ t e f b)), .int .i64 (outN (nx ⟨x0, x1, x2, x3, x4, x5, x6, x7, x8, xb⟩ t e f b))]) ∧ Fr No w w' := by
  obtain ⟨R, hR⟩ : ∃ R, w.heap.size = R := ⟨_, rfl⟩
  have HS := hid hs
  clear hs
  obtain ⟨gn, hgn⟩ : ∃ gn, wrap64 (x0 + 1) = gn := ⟨_, rfl⟩
  have hnx : nx ⟨x0, x1, x2, x3, x4, x5, x6, x7, x8, xb⟩ t e f b = if mayS x0 x1 x2 x3 x4 x5 x6 x7 x8 ∧ mayS gn x1 x2 x3 x4 x5 t e f then some ⟨gn, x1, x2, x3, x4, x5, t, e, f, b⟩ else none := by rw [← hgn]; rfl
  have HNX := hid hnx
  clear hnx
  obtain ⟨w1, hw1⟩ : ∃ w1, ((w.alloc (.cells #[.int .i64 x0, .int .i64 x1, .int .i64 x2, .int .i64 x3, .int .i64 x4, .int .i64 x5, .int .i64 x6, .int .i64 x7, .int .i64 x8, .bool xb] 25)).alloc (.cells #[.int .i64 0, .int .i64 0, .int .i64 0, .int .i64 0, .int .i64 0, .int .i64 0, .int .i64 0, .int .i64 0, .int .i64 0, .bool false] 25)) = w1 := ⟨_, rfl⟩
  have FW := hid (show Fr No w w1 by rw [← hw1]; exact ((Fr.refl _ w).alloc _).alloc _)
  have HB := hid (show BS w1 R ⟨x0, x1, x2, x3, x4, x5, x6, x7, x8, xb⟩ by
    rw [← hw1, ← hR]
    exact (Blk.new w _ _).alloc _)
  have HQ := hid (show BS w1 (R + 1) rz by
    rw [← hw1, ← hR]
    have := Blk.new (w.alloc (.cells #[.int .i64 x0, .int .i64 x1, .int .i64 x2, .int .i64 x3, .int .i64 x4, .int .i64 x5, .int .i64 x6, .int .i64 x7, .int .i64 x8, .bool xb] 25)) 25 #[.int .i64 0, .int .i64 0, .int .i64 0, .int .i64 0, .int .i64 0, .int .i64 0, .int .i64 0, .int .i64 0, .int .i64 0, .bool false]
    rwa [World.size_alloc] at this)
  have HS1 := hid (show w1.heap.size = R + 2 by rw [← hw1]; simp; omega)
  have HW1 := hid hw1
  have q0 : ∀ o, (w1.alloc o).cell? ⟨R, 0, none⟩ = some (.int .i64 x0) := fun o => Blk.cell (Blk.alloc HB.out o) 0
  have q1 : ∀ o, (w1.alloc o).cell? ⟨R, 1, none⟩ = some (.int .i64 x1) := fun o => Blk.cell (Blk.alloc HB.out o) 1
  have q2 : ∀ o, (w1.alloc o).cell? ⟨R, 2, none⟩ = some (.int .i64 x2) := fun o => Blk.cell (Blk.alloc HB.out o) 2
  have q3 : ∀ o, (w1.alloc o).cell? ⟨R, 3, none⟩ = some (.int .i64 x3) := fun o => Blk.cell (Blk.alloc HB.out o) 3
  have q4 : ∀ o, (w1.alloc o).cell? ⟨R, 4, none⟩ = some (.int .i64 x4) := fun o => Blk.cell (Blk.alloc HB.out o) 4
  have q5 : ∀ o, (w1.alloc o).cell? ⟨R, 5, none⟩ = some (.int .i64 x5) := fun o => Blk.cell (Blk.alloc HB.out o) 5
  have q6 : ∀ o, (w1.alloc o).cell? ⟨R, 6, none⟩ = some (.int .i64 x6) := fun o => Blk.cell (Blk.alloc HB.out o) 6
  have q7 : ∀ o, (w1.alloc o).cell? ⟨R, 7, none⟩ = some (.int .i64 x7) := fun o => Blk.cell (Blk.alloc HB.out o) 7
  have q8 : ∀ o, (w1.alloc o).cell? ⟨R, 8, none⟩ = some (.int .i64 x8) := fun o => Blk.cell (Blk.alloc HB.out o) 8
  have q9 : ∀ o, (w1.alloc o).cell? ⟨R, 9, none⟩ = some (.bool xb) := fun o => Blk.cell (Blk.alloc HB.out o) 9
  have HRR := hid hR
  clear hw1
  go_enter Tryd.func24, Tryd.ntmps24
  go_upto_region 1 with fail
  rw [show (w.alloc (Obj.cells #[Value.int IntKind.i64 x0, Value.int IntKind.i64 x1, Value.int IntKind.i64 x2, Value.int IntKind.i64 x3, Value.int IntKind.i64 x4, Value.int IntKind.i64 x5, Value.int IntKind.i64 x6, Value.int IntKind.i64 x7, Value.int IntKind.i64 x8, Value.bool xb] 25)).alloc (Obj.cells #[Value.int IntKind.i64 0, Value.int IntKind.i64 0, Value.int IntKind.i64 0, Value.int IntKind.i64 0, Value.int IntKind.i64 0, Value.int IntKind.i64 0, Value.int IntKind.i64 0, Value.int IntKind.i64 0, Value.int IntKind.i64 0, Value.bool false] 25) = w1 from HW1.out]
  try rw [hR]
  have p0 : w1.cell? ⟨R, 0, none⟩ = some (.int .i64 x0) := Blk.cell HB.out 0
  have p1 : w1.cell? ⟨R, 1, none⟩ = some (.int .i64 x1) := Blk.cell HB.out 1
  have p2 : w1.cell? ⟨R, 2, none⟩ = some (.int .i64 x2) := Blk.cell HB.out 2
  have p3 : w1.cell? ⟨R, 3, none⟩ = some (.int .i64 x3) := Blk.cell HB.out 3
  have p4 : w1.cell? ⟨R, 4, none⟩ = some (.int .i64 x4) := Blk.cell HB.out 4
  have p5 : w1.cell? ⟨R, 5, none⟩ = some (.int .i64 x5) := Blk.cell HB.out 5
  have p6 : w1.cell? ⟨R, 6, none⟩ = some (.int .i64 x6) := Blk.cell HB.out 6
  have p7 : w1.cell? ⟨R, 7, none⟩ = some (.int .i64 x7) := Blk.cell HB.out 7
  have p8 : w1.cell? ⟨R, 8, none⟩ = some (.int .i64 x8) := Blk.cell HB.out 8
  have p9 : w1.cell? ⟨R, 9, none⟩ = some (.bool xb) := Blk.cell HB.out 9
  by_cases hm : mayS x0 x1 x2 x3 x4 x5 x6 x7 x8
  · have HM := hid hm
    by_cases hn : mayS gn x1 x2 x3 x4 x5 t e f
    · have HN := hid hn
      have HV := hid (show nx ⟨x0, x1, x2, x3, x4, x5, x6, x7, x8, xb⟩ t e f b = some ⟨gn, x1, x2, x3, x4, x5, t, e, f, b⟩ by rw [HNX.out, if_pos ⟨hm, hn⟩])
      clear hm hn
      go_upto_region 2 with (refine st_S rfl (.tmp 12) (.tmp 22) rfl w1.heap.size rfl rfl (by simp [Value.oneCell']) (Blk.new w1 _ _) rfl ?_; intro w2 HD0 f2; have FX : Fr No w1 w2 := ((Fr.refl No w1).alloc _).step f2 (fun i hi e => by omega); replace FW := hid (FW.out.trans FX); replace HB := hid (BS.fr HB.out FX (fun h => h)); replace HQ := hid (BS.fr HQ.out FX (fun h => h)); have HD := hid (show BS w2 w1.heap.size ⟨gn, x1, x2, x3, x4, x5, t, e, f, b⟩ from HD0); clear f2 FX HD0 p0 q0 p1 q1 p2 q2 p3 q3 p4 q4 p5 q5 p6 q6 p7 q7 p8 q8 p9 q9; have p0 : w2.cell? ⟨R, 0, none⟩ = some (.int .i64 x0) := Blk.cell HB.out 0; have p1 : w2.cell? ⟨R, 1, none⟩ = some (.int .i64 x1) := Blk.cell HB.out 1; have p2 : w2.cell? ⟨R, 2, none⟩ = some (.int .i64 x2) := Blk.cell HB.out 2; have p3 : w2.cell? ⟨R, 3, none⟩ = some (.int .i64 x3) := Blk.cell HB.out 3; have p4 : w2.cell? ⟨R, 4, none⟩ = some (.int .i64 x4) := Blk.cell HB.out 4; have p5 : w2.cell? ⟨R, 5, none⟩ = some (.int .i64 x5) := Blk.cell HB.out 5; have p6 : w2.cell? ⟨R, 6, none⟩ = some (.int .i64 x6) := Blk.cell HB.out 6; have p7 : w2.cell? ⟨R, 7, none⟩ = some (.int .i64 x7) := Blk.cell HB.out 7; have p8 : w2.cell? ⟨R, 8, none⟩ = some (.int .i64 x8) := Blk.cell HB.out 8; have p9 : w2.cell? ⟨R, 9, none⟩ = some (.bool xb) := Blk.cell HB.out 9)
      obtain ⟨D, hD⟩ : ∃ D, w1.heap.size = D := ⟨_, rfl⟩
      rw [hD] at HD ⊢
      clear hD
      go_wp2_with (first | (go_at_call 16; ((with_reducible refine (mayS_ok x0 x1 x2 x3 x4 x5 x6 x7 x8 xb _ HS.out).mono ?_); rintro e' w3 ⟨rfl, f3⟩; rw [decide_eq_true HM.out]; replace FW := hid (FW.out.trans f3); replace HB := hid (BS.fr HB.out f3 (fun h => h)); replace HQ := hid (BS.fr HQ.out f3 (fun h => h)); replace HD := hid (BS.fr HD.out f3 (fun h => h)); clear f3; have y0 : w3.cell? ⟨D, 0, none⟩ = some (.int .i64 gn) := Blk.cell HD.out 0; have y1 : w3.cell? ⟨D, 1, none⟩ = some (.int .i64 x1) := Blk.cell HD.out 1; have y2 : w3.cell? ⟨D, 2, none⟩ = some (.int .i64 x2) := Blk.cell HD.out 2; have y3 : w3.cell? ⟨D, 3, none⟩ = some (.int .i64 x3) := Blk.cell HD.out 3; have y4 : w3.cell? ⟨D, 4, none⟩ = some (.int .i64 x4) := Blk.cell HD.out 4; have y5 : w3.cell? ⟨D, 5, none⟩ = some (.int .i64 x5) := Blk.cell HD.out 5; have y6 : w3.cell? ⟨D, 6, none⟩ = some (.int .i64 t) := Blk.cell HD.out 6; have y7 : w3.cell? ⟨D, 7, none⟩ = some (.int .i64 e) := Blk.cell HD.out 7; have y8 : w3.cell? ⟨D, 8, none⟩ = some (.int .i64 f) := Blk.cell HD.out 8; have y9 : w3.cell? ⟨D, 9, none⟩ = some (.bool b) := Blk.cell HD.out 9)) | (go_at_call 16; ((with_reducible refine (mayS_ok gn x1 x2 x3 x4 x5 t e f b _ HS.out).mono ?_); rintro e' w4 ⟨rfl, f4⟩; rw [decide_eq_true HN.out]; replace FW := hid (FW.out.trans f4); replace HQ := hid (BS.fr HQ.out f4 (fun h => h)); replace HD := hid (BS.fr HD.out f4 (fun h => h)); clear f4 y0 y1 y2 y3 y4 y5 y6 y7 y8 y9; have z0 : w4.cell? ⟨D, 0, none⟩ = some (.int .i64 gn) := Blk.cell HD.out 0; have z1 : w4.cell? ⟨D, 1, none⟩ = some (.int .i64 x1) := Blk.cell HD.out 1; have z2 : w4.cell? ⟨D, 2, none⟩ = some (.int .i64 x2) := Blk.cell HD.out 2; have z3 : w4.cell? ⟨D, 3, none⟩ = some (.int .i64 x3) := Blk.cell HD.out 3; have z4 : w4.cell? ⟨D, 4, none⟩ = some (.int .i64 x4) := Blk.cell HD.out 4; have z5 : w4.cell? ⟨D, 5, none⟩ = some (.int .i64 x5) := Blk.cell HD.out 5; have z6 : w4.cell? ⟨D, 6, none⟩ = some (.int .i64 t) := Blk.cell HD.out 6; have z7 : w4.cell? ⟨D, 7, none⟩ = some (.int .i64 e) := Blk.cell HD.out 7; have z8 : w4.cell? ⟨D, 8, none⟩ = some (.int .i64 f) := Blk.cell HD.out 8; have z9 : w4.cell? ⟨D, 9, none⟩ = some (.bool b) := Blk.cell HD.out 9)) | (refine st_S rfl (.tmp 10) (.tmp 32) rfl (R + 1) rfl rfl (by simp [Value.oneCell']) HQ.out rfl ?_; intro w11 HQ11 f11; have HF11 := hid (FW.out.step f11 (fun i hi e => absurd hi (by have := HRR.out; omega))); clear f11))
      exact bodyPost_ret (v := .tuple #[spv ⟨gn, x1, x2, x3, x4, x5, t, e, f, b⟩, .int .i64 0]) (resS rfl _ _ (R + 1) ⟨gn, x1, x2, x3, x4, x5, t, e, f, b⟩ (.int .i64 0) rfl rfl HQ11) rfl ⟨by rw [HV.out]; rfl, HF11.out⟩
    · have HN := hid hn
      have HV := hid (show nx ⟨x0, x1, x2, x3, x4, x5, x6, x7, x8, xb⟩ t e f b = none by rw [HNX.out, if_neg (fun h => hn h.2)])
      clear hm hn
      go_upto_region 2 with (refine st_S rfl (.tmp 12) (.tmp 22) rfl w1.heap.size rfl rfl (by simp [Value.oneCell']) (Blk.new w1 _ _) rfl ?_; intro w2 HD0 f2; have FX : Fr No w1 w2 := ((Fr.refl No w1).alloc _).step f2 (fun i hi e => by omega); replace FW := hid (FW.out.trans FX); replace HB := hid (BS.fr HB.out FX (fun h => h)); replace HQ := hid (BS.fr HQ.out FX (fun h => h)); have HD := hid (show BS w2 w1.heap.size ⟨gn, x1, x2, x3, x4, x5, t, e, f, b⟩ from HD0); clear f2 FX HD0 p0 q0 p1 q1 p2 q2 p3 q3 p4 q4 p5 q5 p6 q6 p7 q7 p8 q8 p9 q9; have p0 : w2.cell? ⟨R, 0, none⟩ = some (.int .i64 x0) := Blk.cell HB.out 0; have p1 : w2.cell? ⟨R, 1, none⟩ = some (.int .i64 x1) := Blk.cell HB.out 1; have p2 : w2.cell? ⟨R, 2, none⟩ = some (.int .i64 x2) := Blk.cell HB.out 2; have p3 : w2.cell? ⟨R, 3, none⟩ = some (.int .i64 x3) := Blk.cell HB.out 3; have p4 : w2.cell? ⟨R, 4, none⟩ = some (.int .i64 x4) := Blk.cell HB.out 4; have p5 : w2.cell? ⟨R, 5, none⟩ = some (.int .i64 x5) := Blk.cell HB.out 5; have p6 : w2.cell? ⟨R, 6, none⟩ = some (.int .i64 x6) := Blk.cell HB.out 6; have p7 : w2.cell? ⟨R, 7, none⟩ = some (.int .i64 x7) := Blk.cell HB.out 7; have p8 : w2.cell? ⟨R, 8, none⟩ = some (.int .i64 x8) := Blk.cell HB.out 8; have p9 : w2.cell? ⟨R, 9, none⟩ = some (.bool xb) := Blk.cell HB.out 9)
      obtain ⟨D, hD⟩ : ∃ D, w1.heap.size = D := ⟨_, rfl⟩
      rw [hD] at HD ⊢
      clear hD
      go_wp2_with (first | (go_at_call 16; ((with_reducible refine (mayS_ok x0 x1 x2 x3 x4 x5 x6 x7 x8 xb _ HS.out).mono ?_); rintro e' w3 ⟨rfl, f3⟩; rw [decide_eq_true HM.out]; replace FW := hid (FW.out.trans f3); replace HB := hid (BS.fr HB.out f3 (fun h => h)); replace HQ := hid (BS.fr HQ.out f3 (fun h => h)); replace HD := hid (BS.fr HD.out f3 (fun h => h)); clear f3; have y0 : w3.cell? ⟨D, 0, none⟩ = some (.int .i64 gn) := Blk.cell HD.out 0; have y1 : w3.cell? ⟨D, 1, none⟩ = some (.int .i64 x1) := Blk.cell HD.out 1; have y2 : w3.cell? ⟨D, 2, none⟩ = some (.int .i64 x2) := Blk.cell HD.out 2; have y3 : w3.cell? ⟨D, 3, none⟩ = some (.int .i64 x3) := Blk.cell HD.out 3; have y4 : w3.cell? ⟨D, 4, none⟩ = some (.int .i64 x4) := Blk.cell HD.out 4; have y5 : w3.cell? ⟨D, 5, none⟩ = some (.int .i64 x5) := Blk.cell HD.out 5; have y6 : w3.cell? ⟨D, 6, none⟩ = some (.int .i64 t) := Blk.cell HD.out 6; have y7 : w3.cell? ⟨D, 7, none⟩ = some (.int .i64 e) := Blk.cell HD.out 7; have y8 : w3.cell? ⟨D, 8, none⟩ = some (.int .i64 f) := Blk.cell HD.out 8; have y9 : w3.cell? ⟨D, 9, none⟩ = some (.bool b) := Blk.cell HD.out 9)) | (go_at_call 16; ((with_reducible refine (mayS_ok gn x1 x2 x3 x4 x5 t e f b _ HS.out).mono ?_); rintro e' w4 ⟨rfl, f4⟩; rw [decide_eq_false HN.out]; replace FW := hid (FW.out.trans f4); replace HQ := hid (BS.fr HQ.out f4 (fun h => h)); replace HD := hid (BS.fr HD.out f4 (fun h => h)); clear f4 y0 y1 y2 y3 y4 y5 y6 y7 y8 y9)) | (refine st_S rfl (.tmp 10) (.tmp 31) rfl (R + 1) rfl rfl (by simp [Value.oneCell']) HQ.out rfl ?_; intro w11 HQ11 f11; have HF11 := hid (FW.out.step f11 (fun i hi e => absurd hi (by have := HRR.out; omega))); clear f11))
      exact bodyPost_ret (v := .tuple #[spv rz, .int .i64 1]) (resS rfl _ _ (R + 1) rz (.int .i64 1) rfl rfl HQ11) rfl ⟨by rw [HV.out]; rfl, HF11.out⟩
  · have HM := hid hm
    have HV := hid (show nx ⟨x0, x1, x2, x3, x4, x5, x6, x7, x8, xb⟩ t e f b = none by rw [HNX.out, if_neg (fun h => hm h.1)])
    clear hm
    go_upto_region 2 with (refine st_S rfl (.tmp 12) (.tmp 22) rfl w1.heap.size rfl rfl (by simp [Value.oneCell']) (Blk.new w1 _ _) rfl ?_; intro w2 HD0 f2; have FX : Fr No w1 w2 := ((Fr.refl No w1).alloc _).step f2 (fun i hi e => by omega); replace FW := hid (FW.out.trans FX); replace HB := hid (BS.fr HB.out FX (fun h => h)); replace HQ := hid (BS.fr HQ.out FX (fun h => h)); have HD := hid (show BS w2 w1.heap.size ⟨gn, x1, x2, x3, x4, x5, t, e, f, b⟩ from HD0); clear f2 FX HD0 p0 q0 p1 q1 p2 q2 p3 q3 p4 q4 p5 q5 p6 q6 p7 q7 p8 q8 p9 q9; have p0 : w2.cell? ⟨R, 0, none⟩ = some (.int .i64 x0) := Blk.cell HB.out 0; have p1 : w2.cell? ⟨R, 1, none⟩ = some (.int .i64 x1) := Blk.cell HB.out 1; have p2 : w2.cell? ⟨R, 2, none⟩ = some (.int .i64 x2) := Blk.cell HB.out 2; have p3 : w2.cell? ⟨R, 3, none⟩ = some (.int .i64 x3) := Blk.cell HB.out 3; have p4 : w2.cell? ⟨R, 4, none⟩ = some (.int .i64 x4) := Blk.cell HB.out 4; have p5 : w2.cell? ⟨R, 5, none⟩ = some (.int .i64 x5) := Blk.cell HB.out 5; have p6 : w2.cell? ⟨R, 6, none⟩ = some (.int .i64 x6) := Blk.cell HB.out 6; have p7 : w2.cell? ⟨R, 7, none⟩ = some (.int .i64 x7) := Blk.cell HB.out 7; have p8 : w2.cell? ⟨R, 8, none⟩ = some (.int .i64 x8) := Blk.cell HB.out 8; have p9 : w2.cell? ⟨R, 9, none⟩ = some (.bool xb) := Blk.cell HB.out 9)
    obtain ⟨D, hD⟩ : ∃ D, w1.heap.size = D := ⟨_, rfl⟩
    rw [hD] at HD ⊢
    clear hD
    go_wp2_with (first | (go_at_call 16; ((with_reducible refine (mayS_ok x0 x1 x2 x3 x4 x5 x6 x7 x8 xb _ HS.out).mono ?_); rintro e' w3 ⟨rfl, f3⟩; rw [decide_eq_false HM.out]; replace FW := hid (FW.out.trans f3); replace HB := hid (BS.fr HB.out f3 (fun h => h)); replace HQ := hid (BS.fr HQ.out f3 (fun h => h)); replace HD := hid (BS.fr HD.out f3 (fun h => h)); clear f3)) | (refine st_S rfl (.tmp 10) (.tmp 31) rfl (R + 1) rfl rfl (by simp [Value.oneCell']) HQ.out rfl ?_; intro w11 HQ11 f11; have HF11 := hid (FW.out.step f11 (fun i hi e => absurd hi (by have := HRR.out; omega))); clear f11))
    exact bodyPost_ret (v := .tuple #[spv rz, .int .i64 1]) (resS rfl _ _ (R + 1) rz (.int .i64 1) rfl rfl HQ11) rfl ⟨by rw [HV.out]; rfl, HF11.out⟩
end Go.Proofs.YthhhmhgmmbfjhaaDoor.SuL
