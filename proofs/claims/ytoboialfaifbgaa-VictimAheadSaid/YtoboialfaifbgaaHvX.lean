import Derived.Test.YtoboialfaifbgaaRmA
import Derived.Test.YtoboialfaifbgaaHvV
import Derived.Test.YtoboialfaifbgaaHvW
import Derived.Test.YtoboialfaifbgaaGeRow
/- Contracts: an order of one zone, the bands of one extent, at given numbers. No condition. -/
namespace Go.Proofs.Ytoboialfaifbgaa.ViG
open Go.RowKit MSep MSepC MSpM MGeM GeA GeC GeE PgA PgB PlM PlA VaF VaM VaT VaU ViA ViB ViC

abbrev f0 : Int → Option Value := fun _ => none
theorem few0 : RmA.Few f0 := ⟨[], by simp [maxLen], fun z h => by simp at h⟩
theorem one_key {z : Int} {v : Value} : ∀ y, y ∈ [z] ↔ (RmA.put f0 z v y).isSome = true := fun y => by
  unfold RmA.put
  by_cases h : y = z
  · simp [h]
  · simp [h]
theorem isseq4 (w : World) : Calls Try.prog 73 #[gv0, .int .i64 4] w fun e w' => e = .returned (.bool true) ∧ Fr No w w' := by
  have h := GeD.isseq_ok 2 6 16 3 2 4 w (by omega) (by omega)
  rwa [show decide (sqo ⟨2, 6, 16, 3, 2⟩ 4) = true from decide_eq_true ⟨may0, by decide⟩] at h
theorem band1 (i : Int) (hi : i = 20 ∨ i = 24) (w : World) : Calls Try.prog 74 #[gv0, .int .i64 i] w fun e w' => (∃ z, e = .returned (.tuple #[.int .i64 1, z])) ∧ Fr No w w' := by
  have h := VaO.band_in 2 6 16 3 2 i 15 w r6 may0 (by rcases hi with rfl | rfl <;> decide) rfl
  have e : i / 15 = 1 := by rcases hi with rfl | rfl <;> rfl
  rwa [e] at h
set_option maxRecDepth 100000 in
set_option maxHeartbeats 1000000 in
theorem order1 (O : Nat) (w : World) (hO : Blk w O 3 #[.int .i64 4]) : Calls Try.prog 45 #[gv0, .slice (some ⟨O, 0, none⟩) 1 1] w fun e w' => e = .returned (.int .i64 0) ∧ Fr No w w' := by
  obtain ⟨G, hG⟩ : ∃ G, w.heap.size = G := ⟨_, rfl⟩
  obtain ⟨w1, hw1⟩ : ∃ w1, (w.alloc (bg 2 6 16 3 2)).alloc (.map #[] 0) = w1 := ⟨_, rfl⟩
  have HF := hid (show Fr No w w1 by rw [← hw1]; exact (fr1 _ _).alloc _)
  have P0 := hid (show BG w1 G 2 6 16 3 2 by rw [← hw1, ← hG]; exact (BG.new w 2 6 16 3 2 : Blk _ _ _ _).alloc _)
  have HM := hid (show RmA.RM w1 (G + 1) f0 by
    rw [← hw1, ← hG]
    have := RmA.RM.made (w.alloc (bg 2 6 16 3 2))
    rwa [World.size_alloc] at this)
  have HO := hid (hO.fr HF.out (fun h => h))
  have HW1 := hid hw1
  have HG := hid hG
  have hmk := fun w => run_makeMap (P := Try.prog) 69 w
  clear hO hw1
  go_enter Try.func45, Try.ntmps45
  go_upto_region 3 with fail
  try rw [show (w.alloc (Obj.cells #[.int .i64 2, .int .i64 6, .int .i64 16, .int .i64 3, .int .i64 2] 23)).alloc (.map #[] 0) = w1 from HW1.out]
  try simp only [World.size_alloc]
  try rw [hG]
  clear hG hmk
  go_loopw [11] (fun t wr => ∃ j : Nat, t = .int .i64 j ∧ ((j = 0 ∧ wr = w1) ∨ (j = 1 ∧ RmA.RM wr (G + 1) (RmA.put f0 4 (.int .i64 0)) ∧ Fr No w wr))) (fun t _ => 1 - (Go.RowKit.intOf t).toNat)
  case atStart => exact ⟨0, rfl, .inl ⟨rfl, rfl⟩⟩
  case round =>
    obtain ⟨j, rfl, ⟨rfl, hwr⟩ | ⟨rfl, hM, hf⟩⟩ := hrel
    case inr =>
      have HM2 := hid hM
      clear hM
      go_wp2_with (at_len; refine RmA.wp_len rfl (.tmp 24) 69 3 rfl Try.underlying69 rfl HM2.out ?_; intro N hN; obtain rfl : N = 1 := hN [4] (by simp) one_key; clear hN)
      go_ret
      exact ⟨rfl, hf⟩
    subst hwr
    obtain ⟨p0, p1, p2, p3, p4⟩ := BG.cells P0.out
    have o0 : wr.cell? ⟨O, 0, none⟩ = some (.int .i64 4) := HO.out.cell 0
    go_wp2_with (first | (go_at_call 73; refine (isseq4 _).mono ?_; rintro e w2 ⟨rfl, f⟩; have HM1 := hid (RmA.RM.fr HM.out f (fun h => h)); have HF1 := hid (HF.out.trans f); clear f) | (at_mapUpdate; refine RmA.wp_upd rfl (.tmp 20) (.tmp 21) (.tmp 22) 69 3 rfl Try.underlying69 rfl HM1.out (few0) (4) rfl (by decide) (.int .i64 0) rfl ?_; intro W' hm' hf'; have HM2 := hid hm'; have HF2 := hid hf'; clear hm' hf'))
    go_roundw
    case rel => exact ⟨1, rfl, .inr ⟨rfl, HM2.out, HF1.out.step HF2.out (fun k hk e => by have := HG.out; omega)⟩⟩
    case measure => decide
set_option maxRecDepth 100000 in
set_option maxHeartbeats 1000000 in
theorem extents1 (E : Nat) (w : World) (hE : Blk w E 62 #[.int .i64 20, .int .i64 5, .int .i64 4, .int .i64 0]) : Calls Try.prog 49 #[gv0, .slice (some ⟨E, 0, none⟩) 1 1] w fun e w' => (∃ b, e = .returned (.map (some b))) ∧ Fr No w w' := by
  obtain ⟨G, hG⟩ : ∃ G, w.heap.size = G := ⟨_, rfl⟩
  obtain ⟨w1, hw1⟩ : ∃ w1, (w.alloc (bg 2 6 16 3 2)).alloc (.map #[] 0) = w1 := ⟨_, rfl⟩
  have HF := hid (show Fr No w w1 by rw [← hw1]; exact (fr1 _ _).alloc _)
  have P0 := hid (show BG w1 G 2 6 16 3 2 by rw [← hw1, ← hG]; exact (BG.new w 2 6 16 3 2 : Blk _ _ _ _).alloc _)
  have HM := hid (show RmA.RM w1 (G + 1) f0 by
    rw [← hw1, ← hG]
    have := RmA.RM.made (w.alloc (bg 2 6 16 3 2))
    rwa [World.size_alloc] at this)
  have HE := hid (hE.fr HF.out (fun h => h))
  have HW1 := hid hw1
  have HG := hid hG
  have hmk := fun w => run_makeMap (P := Try.prog) 69 w
  clear hE hw1
  go_enter Try.func49, Try.ntmps49
  go_upto_region 3 with fail
  try rw [show (w.alloc (Obj.cells #[.int .i64 2, .int .i64 6, .int .i64 16, .int .i64 3, .int .i64 2] 23)).alloc (.map #[] 0) = w1 from HW1.out]
  try simp only [World.size_alloc]
  try rw [hG]
  clear hG hmk
  go_loopw [16] (fun t wr => ∃ j : Nat, t = .int .i64 j ∧ ((j = 0 ∧ wr = w1) ∨ (j = 1 ∧ Fr No w wr))) (fun t _ => 1 - (Go.RowKit.intOf t).toNat)
  case atStart => exact ⟨0, rfl, .inl ⟨rfl, rfl⟩⟩
  case round =>
    obtain ⟨j, rfl, ⟨rfl, hwr⟩ | ⟨rfl, hf⟩⟩ := hrel
    case inr =>
      go_wp2
      go_ret
      exact ⟨⟨_, rfl⟩, hf⟩
    subst hwr
    have e4 : ∀ k v, wr.cell? ⟨E, k, none⟩ = some v → wr.cell? ⟨E, k, none⟩ = some v := fun _ _ h => h
    have x0 : wr.cell? ⟨E, 0, none⟩ = some (.int .i64 20) := HE.out.cell 0
    have x1 : wr.cell? ⟨E, 1, none⟩ = some (.int .i64 5) := HE.out.cell 1
    have x2 : wr.cell? ⟨E, 2, none⟩ = some (.int .i64 4) := HE.out.cell 2
    have x3 : wr.cell? ⟨E, 3, none⟩ = some (.int .i64 0) := HE.out.cell 3
    clear e4
    go_upto_region 5 with fail
    obtain ⟨w2, hw2⟩ : ∃ w2, wr.alloc (.cells #[.int .i64 20, .int .i64 5, .int .i64 4, .int .i64 0] 62) = w2 := ⟨_, rfl⟩
    have PX := hid (show Blk w2 wr.heap.size 62 #[.int .i64 20, .int .i64 5, .int .i64 4, .int .i64 0] by rw [← hw2]; exact Blk.new _ _ _)
    have fx : Fr No wr w2 := by rw [← hw2]; exact fr1 _ _
    try rw [show wr.alloc (Obj.cells #[.int .i64 20, .int .i64 5, .int .i64 4, .int .i64 0] 62) = w2 from hw2]
    replace HF := hid (HF.out.trans fx); replace P0 := hid (BG.fr P0.out fx); replace HM := hid (RmA.RM.fr HM.out fx (fun h => h))
    obtain ⟨X, hX⟩ : ∃ X, wr.heap.size = X := ⟨_, rfl⟩
    rw [hX] at PX
    try rw [hX]
    clear hX fx hw2 x0 x1 x2 x3
    obtain ⟨p0, p1, p2, p3, p4⟩ := BG.cells P0.out
    have x0 : w2.cell? ⟨X, 0, none⟩ = some (.int .i64 20) := PX.out.cell 0
    have x1 : w2.cell? ⟨X, 1, none⟩ = some (.int .i64 5) := PX.out.cell 1
    go_upto_region 6 with (go_at_call 74; refine (band1 20 (.inl rfl) _).mono ?_; rintro e wn ⟨⟨z20, rfl⟩, f⟩; replace HF := hid (HF.out.trans f); replace P0 := hid (BG.fr P0.out f); replace HM := hid (RmA.RM.fr HM.out f (fun h => h)); replace PX := hid (PX.out.fr f (fun h => h)); clear f p0 p1 p2 p3 p4 x0 x1; obtain ⟨p0, p1, p2, p3, p4⟩ := BG.cells P0.out; have x0 : wn.cell? ⟨X, 0, none⟩ = some (.int .i64 20) := PX.out.cell 0; have x1 : wn.cell? ⟨X, 1, none⟩ = some (.int .i64 5) := PX.out.cell 1)
    go_upto_region 7 with (go_at_call 74; refine (band1 24 (.inr rfl) _).mono ?_; rintro e wn ⟨⟨z24, rfl⟩, f⟩; replace HF := hid (HF.out.trans f); replace P0 := hid (BG.fr P0.out f); replace HM := hid (RmA.RM.fr HM.out f (fun h => h)); replace PX := hid (PX.out.fr f (fun h => h)); clear f p0 p1 p2 p3 p4 x0 x1; obtain ⟨p0, p1, p2, p3, p4⟩ := BG.cells P0.out; have x0 : wn.cell? ⟨X, 0, none⟩ = some (.int .i64 20) := PX.out.cell 0; have x1 : wn.cell? ⟨X, 1, none⟩ = some (.int .i64 5) := PX.out.cell 1)
    clear p0 p1 p2 p3 p4 x0 x1
    go_upto_region 8 with fail
    obtain ⟨w4, hw4⟩ : ∃ w4, w4 = wn := ⟨_, rfl⟩
    try rw [← hw4] at HF HM
    try rw [← hw4]
    clear hw4
    have HKX := HM.out
    go_loopw [12] (fun t wr => ∃ j : Nat, t = .int .i64 j ∧ ((j = 1 ∧ wr = w4) ∨ (j = 2 ∧ Fr No w wr))) (fun t _ => 2 - (Go.RowKit.intOf t).toNat)
    case atStart => exact ⟨1, rfl, .inl ⟨rfl, rfl⟩⟩
    case round =>
      obtain ⟨j, rfl, ⟨rfl, hwr⟩ | ⟨rfl, hf⟩⟩ := hrel
      case inr =>
        go_wp2
        go_roundw
        case rel => exact ⟨1, rfl, .inr ⟨rfl, hf⟩⟩
        case measure => decide
      have hlk := RmA.RM.look HKX Try.underlying69 (VaD.zeroI _) (z := 1) (by decide)
      rw [← hwr] at hlk
      have HM3 := hid (show RmA.RM wr (G + 1) f0 by rw [hwr]; exact HM.out)
      have HF3 := hid (show Fr No w wr by rw [hwr]; exact HF.out)
      clear hwr HKX
      simp only [Option.getD_none] at hlk
      go_wp2_with ((at_mapUpdate; refine RmA.wp_upd rfl (.tmp 44) (.tmp 45) (.tmp 47) 69 3 rfl Try.underlying69 rfl HM3.out (few0) (1) rfl (by decide) (.int .i64 1) rfl ?_; intro W' hm' hf'; have HM2 := hid hm'; have HF2 := hid hf'; clear hm' hf'))
      go_roundw
      case rel => exact ⟨2, rfl, .inr ⟨rfl, HF3.out.step HF2.out (fun k hk e => by have := HG.out; omega)⟩⟩
      case measure => decide
end Go.Proofs.Ytoboialfaifbgaa.ViG
/- Contract: the crowd of one extent, at given numbers. No condition. -/
namespace Go.Proofs.Ytoboialfaifbgaa.ViH
open Go.RowKit MSep MSepC MSpM MGeM GeA GeC GeE PgA PgB PlM PlA VaE VaF VaG VaH VaM VaT VaU ViA ViB ViC ViG

set_option maxRecDepth 100000 in
theorem ins1 (A : Option Addr) (c : Nat) (fv : Value) (w : World) : Calls Try.prog 96 #[.slice A 1 c, .int .i64 0, .int .i64 1, fv] w fun e w' => e = .returned (.tuple #[]) ∧ Fr No w w' := by
  go_enter Try.func96, Try.ntmps96
  go_wp2
  refine wp_loop_rounds 1 ?_
  rw [rounds_succ]
  go_wp2
  go_end0
  exact ⟨rfl, Fr.refl _ _⟩
set_option maxRecDepth 100000 in
set_option maxHeartbeats 1000000 in
theorem stable1 (A : Option Addr) (c : Nat) (fv : Value) (w : World) : Calls Try.prog 75 #[.slice A 1 c, .int .i64 1, fv] w fun e w' => e = .returned (.tuple #[]) ∧ Fr No w w' := by
  go_enter Try.func75, Try.ntmps75
  go_wp2
  refine wp_loop_rounds 1 ?_
  rw [rounds_succ]
  go_wp2_with (go_at_call 96; refine (ins1 _ _ _ _).mono ?_; rintro e w2 ⟨rfl, f⟩; have HF := hid f; clear f)
  refine wp_loop_rounds 1 ?_
  rw [rounds_succ]
  go_wp2
  go_end0
  exact ⟨rfl, HF.out⟩
set_option maxRecDepth 100000 in
theorem sort1 (A : Option Addr) (c : Nat) (fv : Value) (w : World) : Calls Try.prog 50 #[.slice A 1 c, fv] w fun e w' => e = .returned (.tuple #[]) ∧ Fr No w w' := by
  go_enter Try.func50, Try.ntmps50
  go_wp2_with (go_at_call 75; refine (stable1 _ _ _ _).mono ?_; rintro e w2 ⟨rfl, f⟩; have HF := hid f; clear f)
  go_end0
  exact ⟨rfl, HF.out⟩
def x1 : List Ex := [⟨20, 5, 4, 0⟩]
theorem w1 : ∀ x ∈ x1, exW x := by
  intro x hx
  simp only [x1, List.mem_cons, List.not_mem_nil, or_false] at hx
  subst hx
  unfold exW r64
  dsimp only
  omega
theorem ck1 : ckE g0 x1 = 0 := by unfold ckE; rw [if_pos may0, if_pos (by decide)]
theorem bd1 : bds 15 (-1) x1 3 = [1] := by decide
theorem touch1 (E : Nat) (W : World) (hx : RdX W (some ⟨E, 0, none⟩) 1 x1) : Calls Try.prog 33 #[gv0, .slice (some ⟨E, 0, none⟩) 1 1] W fun e w' => ∃ g o c', e = .returned (.tuple #[.slice (some ⟨g, o, none⟩) 1 c', .int .i64 0]) ∧ w'.cell? ⟨g, o, none⟩ = some (.int .i64 1) ∧ 1 ≤ c' ∧ Fr No W w' := by
  refine (touched_cap 2 6 16 3 2 (some ⟨E, 0, none⟩) 1 1 x1 W r6 (by omega) hx w1 ck1).mono ?_
  rintro e w' ⟨A', c', rfl, hrd, hcp, f⟩
  rw [show bds (16 - 1) (-1) x1 (6 - 2 - 1 : Int).toNat = [1] from bd1] at hrd hcp ⊢
  obtain ⟨g, o, rfl, _, hc⟩ := hrd.at_ (by decide)
  exact ⟨g, o, c', rfl, by simpa using hc 0 1 rfl, hcp, f⟩
set_option maxRecDepth 100000 in
set_option maxHeartbeats 1000000 in
theorem crowd1 (E : Nat) (w : World) (hE : Blk w E 62 #[.int .i64 20, .int .i64 5, .int .i64 4, .int .i64 0]) : Calls Try.prog 24 #[gv0, .slice (some ⟨E, 0, none⟩) 1 1, .int .i64 1] w fun e w' => (∃ g o c, e = .returned (.tuple #[.slice (some ⟨g, o, none⟩) 1 c, .int .i64 0]) ∧ w'.cell? ⟨g, o, none⟩ = some (.int .i64 1)) ∧ Fr No w w' := by
  have HF := hid (fr1 w (bg 2 6 16 3 2))
  have P0 := hid (BG.new w 2 6 16 3 2)
  have HE := hid hE
  have rdx := fun (W : World) (h : Blk W E 62 #[.int .i64 20, .int .i64 5, .int .i64 4, .int .i64 0]) => (show RdX W (some ⟨E, 0, none⟩) 1 x1 from ⟨rfl, rfl, fun _ => ⟨E, 0, rfl, h.lt, fun j u hu => by
    rw [Nat.zero_add, h.cell]
    match j, hu with
    | 0, hu => exact hu
    | 1, hu => exact hu
    | 2, hu => exact hu
    | 3, hu => exact hu
    | j + 4, hu => simp [cs4, x1] at hu⟩⟩)
  have HRD := hid rdx
  clear hE rdx
  go_enter Try.func24, Try.ntmps24
  go_upto_region 4 with (first | ((with_reducible refine ld_geom rfl (.tmp 3) rfl w.heap.size ?_ P0.out ?_); · rfl) | (go_at_call 33; (refine (touch1 E _ (HRD.out _ (HE.out.fr HF.out (fun h => h)))).mono ?_; rintro e w2 ⟨g, o, c, rfl, hc, hcp, f⟩; have h1c : ¬ (c : Int) < 1 := (by omega); clear hcp; replace HF := hid (HF.out.trans f); replace P0 := hid (BG.fr P0.out f); have HC := hid hc; clear f hc)))
  go_upto_region 7 with (first | ((with_reducible refine ld_geom rfl (.tmp 3) rfl w.heap.size ?_ P0.out ?_); · rfl) | (go_at_call 49; refine (extents1 E _ (HE.out.fr HF.out (fun h => h))).mono ?_; rintro e w3 ⟨⟨b, rfl⟩, f⟩; replace HF := hid (HF.out.trans f); replace HC := hid (f.cell_some HC.out (fun h => h)); clear f))
  replace HF := hid (HF.out.alloc (.cells #[.map (some b)] 69))
  replace HC := hid ((fr1 w3 (.cells #[.map (some b)] 69)).cell_some HC.out (fun h => h))
  go_wp2_with (go_at_call 50; refine (sort1 _ _ _ _).mono ?_; rintro e w4 ⟨rfl, f⟩; replace HF := hid (HF.out.trans f); replace HC := hid (f.cell_some HC.out (fun h => h)); clear f)
  go_ret2
  exact ⟨⟨g, o, _, rfl, HC.out⟩, HF.out⟩
end Go.Proofs.Ytoboialfaifbgaa.ViH
/- Contract: the choices of one zone, at given numbers. No condition. -/
namespace Go.Proofs.Ytoboialfaifbgaa.ViI
open Go.RowKit MSep MSepC MSpM MGeM GeA GeC GeE PgA PgB PlM PlA VaE VaF VaG VaH VaM VaT VaU ViA ViB ViC ViG

theorem infoXa : (Try.prog.info? 62).map (fun i => (i.zero, i.size, i.bytes)) = some (some (.agg #[.int .i64 0, .int .i64 0, .int .i64 0, .int .i64 0]), 4, 32) := by kernel_rfl
theorem infoXb : ∃ i z, Try.prog.info? 62 = some i ∧ i.zero = some z ∧ i.size = 4 ∧ i.bytes = 32 ∧ z.cells.size = 4 := by
  have h := infoXa
  cases hi : Try.prog.info? 62 with
  | none => rw [hi] at h; cases h
  | some i =>
    rw [hi] at h
    simp only [Option.map_some, Option.some.injEq, Prod.mk.injEq] at h
    exact ⟨i, _, rfl, h.1, h.2.1, h.2.2, rfl⟩
def x2 : List Ex := [⟨0, 5, 4, 0⟩]
theorem w2_ : ∀ x ∈ x2, exW x := by
  intro x hx
  simp only [x2, List.mem_cons, List.not_mem_nil, or_false] at hx
  subst hx
  unfold exW r64
  dsimp only
  omega
theorem blk_rd {W : World} {E : Nat} (h : Blk W E 62 #[.int .i64 0, .int .i64 5, .int .i64 4, .int .i64 0]) : RdX W (some ⟨E, 0, none⟩) 1 x2 := ⟨rfl, rfl, fun _ => ⟨E, 0, rfl, h.lt, fun j u hu => by
    rw [Nat.zero_add, h.cell]
    match j, hu with
    | 0, hu => exact hu
    | 1, hu => exact hu
    | 2, hu => exact hu
    | 3, hu => exact hu
    | j + 4, hu => simp [cs4, x2] at hu⟩⟩
theorem zeroS (w : World) : (zeroValue 24).run Try.prog w = .ok (.slice none 0 0) w := by kernel_rfl
theorem own_rd {B : Nat} {w : World} {A : Option Addr} {c : Nat} (h : w.ownsRow B 62 4 (.slice A 1 c) 1 (cs4 x2)) : RdX w A 1 x2 := by
  refine ⟨rfl, rfl, fun _ => ?_⟩
  have h' := h
  rcases h.2 with ⟨_, h0⟩ | ⟨g, cap, cur, e, hb, hh, hnc, hr⟩
  · omega
  · injection e with e1 e2 e3
    subst e1
    refine ⟨g, 0, rfl, (Array.getElem?_eq_some_iff.1 hh).1, fun j u hu => ?_⟩
    rw [Nat.zero_add, World.ownsRow.cellAt h' j (by
      have : j < (cs4 x2).length := (List.getElem?_eq_some_iff.1 hu).1
      simpa [cs4, x2] using this)]
    exact hu
theorem rd_map {w w' : World} {A : Option Addr} {b : Nat} {f : Int → Option Value} (h : RdX w A 1 x2) (hm : RmA.RM w b f) (k : Fr (fun q => q = b) w w') : RdX w' A 1 x2 := by
  refine ⟨h.1, h.2.fr k (fun g o hA e => ?_)⟩
  subst e
  obtain ⟨g', o', hA', _, hc⟩ := h.at_ (by decide)
  rw [hA] at hA'
  injection hA' with hA'
  injection hA' with e1 e2
  subst e1
  have h0 := (hc 0 _ rfl).1
  obtain ⟨D, ⟨es, clock, hb, _⟩, _⟩ := hm
  simp [World.cell?, hb] at h0
set_option maxRecDepth 100000 in
set_option maxHeartbeats 2000000 in
theorem byzone1 (E : Nat) (w : World) (hE : Blk w E 62 #[.int .i64 0, .int .i64 5, .int .i64 4, .int .i64 0]) : Calls Try.prog 46 #[.slice (some ⟨E, 0, none⟩) 1 1] w fun e w' => (∃ b f A c, e = .returned (.map (some b)) ∧ RmA.RM w' b f ∧ f 4 = some (.slice A 1 c) ∧ RdX w' A 1 x2) ∧ Fr No w w' := by
  obtain ⟨G, hG⟩ : ∃ G, w.heap.size = G := ⟨_, rfl⟩
  obtain ⟨w1, hw1⟩ : ∃ w1, w.alloc (.map #[] 0) = w1 := ⟨_, rfl⟩
  have HF := hid (show Fr No w w1 by rw [← hw1]; exact fr1 _ _)
  have HM := hid (show RmA.RM w1 G f0 by rw [← hw1, ← hG]; exact RmA.RM.made w)
  have HE := hid (hE.fr HF.out (fun h => h))
  have HW1 := hid hw1
  have HG := hid hG
  have hmk := fun w => run_makeMap (P := Try.prog) 84 w
  clear hE hw1
  go_enter Try.func46, Try.ntmps46
  go_upto_region 3 with fail
  try rw [show w.alloc (.map #[] 0) = w1 from HW1.out]
  try rw [hG]
  clear hG hmk
  go_loopw [9] (fun t wr => ∃ j : Nat, t = .int .i64 j ∧ ((j = 0 ∧ wr = w1) ∨ (j = 1 ∧ (∃ f A c, RmA.RM wr G f ∧ f 4 = some (.slice A 1 c) ∧ RdX wr A 1 x2) ∧ Fr No w wr))) (fun t _ => 1 - (Go.RowKit.intOf t).toNat)
  case atStart => exact ⟨0, rfl, .inl ⟨rfl, rfl⟩⟩
  case round =>
    obtain ⟨j, rfl, ⟨rfl, hwr⟩ | ⟨rfl, hM, hf⟩⟩ := hrel
    case inr =>
      obtain ⟨f, A, c, h1, h2, h3⟩ := hM
      go_wp2
      go_ret
      exact ⟨⟨G, f, A, c, rfl, h1, h2, h3⟩, hf⟩
    subst hwr
    have x0 : wr.cell? ⟨E, 0, none⟩ = some (.int .i64 0) := HE.out.cell 0
    have x1 : wr.cell? ⟨E, 1, none⟩ = some (.int .i64 5) := HE.out.cell 1
    have x2c : wr.cell? ⟨E, 2, none⟩ = some (.int .i64 4) := HE.out.cell 2
    have x3 : wr.cell? ⟨E, 3, none⟩ = some (.int .i64 0) := HE.out.cell 3
    go_upto_region 5 with fail
    obtain ⟨w2, hw2⟩ : ∃ w2, wr.alloc (.cells #[.int .i64 0, .int .i64 5, .int .i64 4, .int .i64 0] 62) = w2 := ⟨_, rfl⟩
    have PX := hid (show Blk w2 wr.heap.size 62 #[.int .i64 0, .int .i64 5, .int .i64 4, .int .i64 0] by rw [← hw2]; exact Blk.new _ _ _)
    have fx : Fr No wr w2 := by rw [← hw2]; exact fr1 _ _
    try rw [show wr.alloc (Obj.cells #[.int .i64 0, .int .i64 5, .int .i64 4, .int .i64 0] 62) = w2 from hw2]
    replace HF := hid (HF.out.trans fx)
    replace HM := hid (RmA.RM.fr HM.out fx (fun h => h))
    obtain ⟨X, hX⟩ : ∃ X, wr.heap.size = X := ⟨_, rfl⟩
    rw [hX] at PX
    try rw [hX]
    clear hX fx hw2 x0 x1 x2c x3
    have x0 : w2.cell? ⟨X, 0, none⟩ = some (.int .i64 0) := PX.out.cell 0
    have x1 : w2.cell? ⟨X, 1, none⟩ = some (.int .i64 5) := PX.out.cell 1
    have x2c : w2.cell? ⟨X, 2, none⟩ = some (.int .i64 4) := PX.out.cell 2
    have x3 : w2.cell? ⟨X, 3, none⟩ = some (.int .i64 0) := PX.out.cell 3
    have hl0 := RmA.RM.look (show RmA.RM w2.drew G f0 from HM.out) Try.underlying84 (zeroS _) (z := 4) (by decide)
    have hl1 := fun o => RmA.RM.look (RmA.RM.fr (S := No) (show RmA.RM w2.drew G f0 from HM.out) (fr1 w2.drew o) (fun h => h)) Try.underlying84 (zeroS _) (z := 4) (by decide)
    have hl2 := fun o => RmA.RM.look (show RmA.RM (w2.alloc o).drew G f0 from (RmA.RM.fr (S := No) HM.out (fr1 w2 o) (fun h => h) : RmA.RM (w2.alloc o) G f0)) Try.underlying84 (zeroS _) (z := 4) (by decide)
    simp only [Option.getD_none] at hl0 hl1 hl2
    have y0 := fun o => (fr1 w2 o).cell_some x0 (fun h => h)
    have y1 := fun o => (fr1 w2 o).cell_some x1 (fun h => h)
    have y2 := fun o => (fr1 w2 o).cell_some x2c (fun h => h)
    have y3 := fun o => (fr1 w2 o).cell_some x3 (fun h => h)
    obtain ⟨i0, z0, hi, hz0, hz1, hz2, hz3⟩ := infoXb
    go_region_law (refine step_appk 4 (by omega) rfl (.tmp 19) (.tmp 21) 24 rfl w2.heap.size 62 i0 z0 32 Try.underlying24 hi hz0 hz1 hz2 hz3 (.slice none 0 0) 0 [] (by simp [Act.eval]) (World.ownsRow_nil _ _ _ _) (some ⟨w2.heap.size, 0, none⟩) 1 1 (cs4 x2) (by simp [Act.eval]) (by exact Rd.lit w2.drew (cs4 x2) 62) cs4_one (by simp [maxLen]) (by omega) (by simp) ?_; intro A1 c1 w3 o1 f1 _; have f13 : Fr No w2 w3 := ((Fr.refl No w2).drew.trans (fr1 _ _)).trans (f1.mono (fun k _ h => by simp [Value.ownBlock] at h)); obtain ⟨w4, hrun, hm4, hf4⟩ := RmA.RM.upd (RmA.RM.fr HM.out f13 (fun h => h)) Try.underlying84 few0 (z := 4) (by decide) (.slice A1 1 c1); have HO := hid o1; have H13 := hid f13; have z2 := f13.cell_some x2c (fun h => h); have HM4 := hid hm4; have HF4 := hid hf4; clear f1 f13 hm4 hf4 o1)
    all_goals
      (try simp only [Exit.inBlock, Exit.then])
      go_wp2
      go_roundw
      case rel => exact ⟨1, rfl, .inr ⟨rfl, ⟨_, A1, c1, HM4.out, by simp [RmA.put], rd_map (own_rd HO.out) (RmA.RM.fr HM.out H13.out (fun h => h)) HF4.out⟩, (HF.out.trans H13.out).step HF4.out (fun k hk e => by have := HG.out; omega)⟩⟩
      case measure => decide
theorem infoCc : (Try.prog.info? 37).map (·.size) = some 4 := by kernel_rfl
theorem st_ch {ops : Array Oper} {rest : List Oper} {o : Oper} {ac : Act} {w : World} {Q : Exit → Act → World → Prop} (hgd : o.guard = none) (p y : Operand) (ho : o.op = .store 37 p y) (g : Nat) (hx : ac.eval p = .pointer (some ⟨g, 0, none⟩)) {x : Ch} (x' : Ch)
    (hy : ac.eval y = chv x') (hg : BC w g x) (h : ∀ W', BC W' g x' → Fr (fun q => q = g) w W' → wpList Try.prog ops Q rest (ac.put o.dst undef) W') : wpList Try.prog ops Q (o :: rest) ac w :=
  wpList_store_row hgd 37 p y ho g _ hx hy 37 _ hg infoCc rfl (by simp [Value.oneCell']) (h _ (Blk.setRow hg _) (Fr.setRow (S := fun q => q = g) (Fr.refl _ _) (fun _ => rfl) _))
theorem ck2 : ckE g0 x2 = 0 := by unfold ckE; rw [if_pos may0, if_pos (by decide)]
theorem cz2 : ckZ g0 x2 4 = 0 := by unfold ckZ; rw [if_pos ck2]; decide
theorem row2 : rowC x2 2 6 6 = [0, 0, 5, 0, 0, 0] := by decide
theorem bd2 : bds 15 4 x2 3 = [0] := by decide
theorem counts1 (E : Nat) (W : World) (hx : RdX W (some ⟨E, 0, none⟩) 1 x2) : Calls Try.prog 30 #[gv0, .slice (some ⟨E, 0, none⟩) 1 1] W fun e w' => ∃ g, e = .returned (.tuple #[.slice (some ⟨g, 0, none⟩) 6 6, .int .i64 0]) ∧ w'.cell? ⟨g, 2, none⟩ = some (.int .i64 5) ∧ Fr No W w' := by
  refine (counts_y 2 6 16 3 2 _ 1 1 x2 W r6 (by omega) hx w2_ ck2).mono ?_
  rintro e w' ⟨g, rfl, ho, f⟩
  rw [show (6 : Int).toNat = 6 from rfl, row2] at ho
  exact ⟨g, rfl, PlH.OutI.get (n := 6) (L := [0, 0, 5, 0, 0, 0]) rfl ho (i := 2) rfl, f⟩
theorem bands1 (A : Option Addr) (c : Nat) (W : World) (hx : RdX W A 1 x2) : Calls Try.prog 32 #[gv0, .slice A 1 c, .int .i64 4] W fun e w' => ∃ A' c', e = .returned (.tuple #[.slice A' 1 c', .int .i64 0]) ∧ Fr No W w' := by
  refine (bands_y 2 6 16 3 2 A 1 c x2 4 W r6 (by omega) hx w2_ (by unfold r64; omega) cz2).mono ?_
  rintro e w' ⟨A', c', rfl, _, f⟩
  exact ⟨A', c', by rw [show bds (16 - 1) 4 x2 (6 - 2 - 1 : Int).toNat = [0] from bd2]; rfl, f⟩
set_option maxRecDepth 100000 in
set_option maxHeartbeats 2000000 in
theorem choices1 (E O : Nat) (w : World) (hE : Blk w E 62 #[.int .i64 0, .int .i64 5, .int .i64 4, .int .i64 0]) (hO : Blk w O 3 #[.int .i64 4]) : Calls Try.prog 21 #[gv0, .slice (some ⟨E, 0, none⟩) 1 1, .slice (some ⟨O, 0, none⟩) 1 1] w fun e w' => (∃ N, e = .returned (.tuple #[.slice (some ⟨N, 0, none⟩) 1 1, .int .i64 0]) ∧ w'.cell? ⟨N, 1, none⟩ = some (.int .i64 5)) ∧ Fr No w w' := by
  have HF := hid (fr1 w (bg 2 6 16 3 2))
  have P0 := hid (BG.new w 2 6 16 3 2)
  have HE := hid (hE.alloc (bg 2 6 16 3 2))
  have HO := hid (hO.alloc (bg 2 6 16 3 2))
  have hmk : ∀ u : World, (Instr.makeSlice 32 (.int .i64 1) (.int .i64 1)).run Try.prog u = .ok (.slice (some ⟨u.heap.size, 0, none⟩) 1 1) (u.alloc (.cells #[.int .i64 0, .int .i64 0, .int .i64 0, .int .i64 0] 37)) := fun u => by kernel_rfl
  clear hE hO
  go_enter Try.func21, Try.ntmps21
  go_upto_region 7 with (first | ((with_reducible refine ld_geom rfl (.tmp 3) rfl w.heap.size ?_ P0.out ?_); · rfl) | (go_at_call 30; refine (counts1 E _ (blk_rd HE.out)).mono ?_; rintro e w2 ⟨g1, rfl, hc, f⟩; replace HF := hid (HF.out.trans f); replace P0 := hid (BG.fr P0.out f); replace HE := hid (HE.out.fr f (fun h => h)); replace HO := hid (HO.out.fr f (fun h => h)); have HC := hid hc; clear f hc) | (go_at_call 45; refine (order1 O _ HO.out).mono ?_; rintro e w3 ⟨rfl, f⟩; replace HF := hid (HF.out.trans f); replace P0 := hid (BG.fr P0.out f); replace HE := hid (HE.out.fr f (fun h => h)); replace HO := hid (HO.out.fr f (fun h => h)); replace HC := hid (f.cell_some HC.out (fun h => h)); clear f))
  go_upto_region 8 with fail
  obtain ⟨w4, hw4⟩ : ∃ w4, w3.alloc (.cells #[.int .i64 0, .int .i64 0, .int .i64 0, .int .i64 0] 37) = w4 := ⟨_, rfl⟩
  have PN := hid (show BC w4 w3.heap.size ⟨0, 0, 0, 0⟩ by rw [← hw4]; exact BC.new w3 ⟨0, 0, 0, 0⟩)
  have f : Fr No w3 w4 := by rw [← hw4]; exact fr1 _ _
  try rw [show w3.alloc (Obj.cells #[.int .i64 0, .int .i64 0, .int .i64 0, .int .i64 0] 37) = w4 from hw4]
  obtain ⟨N, hN⟩ : ∃ N, w3.heap.size = N := ⟨_, rfl⟩
  have HN := hid (show w.heap.size < N by rw [← hN]; exact Blk.lt P0.out)
  rw [hN] at PN
  try rw [hN]
  replace HF := hid (HF.out.trans f); replace P0 := hid (BG.fr P0.out f); replace HE := hid (HE.out.fr f (fun h => h)); replace HO := hid (HO.out.fr f (fun h => h)); replace HC := hid (f.cell_some HC.out (fun h => h))
  clear f hw4 hN hmk
  go_upto_region 10 with (go_at_call 46; refine (byzone1 E _ HE.out).mono ?_; rintro e w6 ⟨⟨b, fm, A, c, rfl, hm, h4, hr⟩, f⟩; replace HF := hid (HF.out.trans f); replace P0 := hid (BG.fr P0.out f); replace HO := hid (HO.out.fr f (fun h => h)); replace HC := hid (f.cell_some HC.out (fun h => h)); replace PN := hid (PN.out.fr f); have HM := hid hm; have H4 := hid h4; have HR := hid hr; clear f hm h4 hr)
  go_loopw [39] (fun t wr => ∃ j : Nat, t = .int .i64 j ∧ ((j = 0 ∧ wr = w6) ∨ (j = 1 ∧ BC wr N ⟨4, 5, 1, 0⟩ ∧ Fr No w wr))) (fun t _ => 1 - (Go.RowKit.intOf t).toNat)
  case atStart => exact ⟨0, rfl, .inl ⟨rfl, rfl⟩⟩
  case round =>
    obtain ⟨j, rfl, ⟨rfl, hwr⟩ | ⟨rfl, hM, hf⟩⟩ := hrel
    case inr =>
      go_wp2
      go_ret2
      exact ⟨⟨N, rfl, (BC.cells hM).2.1⟩, hf⟩
    subst hwr
    have o0 : wr.cell? ⟨O, 0, none⟩ = some (.int .i64 4) := HO.out.cell 0
    have hlk := RmA.RM.look HM.out Try.underlying84 (zeroS _) (z := 4) (by decide)
    rw [H4.out] at hlk
    simp only [Option.getD_some] at hlk
    obtain ⟨p0, p1, p2, p3, p4⟩ := BG.cells P0.out
    go_upto_region 13 with (go_at_call 32; refine (bands1 A c _ HR.out).mono ?_; rintro e w7 ⟨A', c', rfl, f⟩; replace HF := hid (HF.out.trans f); replace P0 := hid (BG.fr P0.out f); have hc2 := f.cell_some HC.out (fun h => h); replace PN := hid (PN.out.fr f); clear f)
    clear p0 p1 p2 p3 p4 o0 hlk
    obtain ⟨p0, p1, p2, p3, p4⟩ := BG.cells P0.out
    go_wp2_with ((with_reducible refine st_ch rfl (.tmp 70) (.tmp 69) rfl N ?_ (x := ⟨0, 0, 0, 0⟩) ⟨4, 5, 1, 0⟩ ?_ PN.out ?_); (· rfl); (· rfl); intro W' hb hf; have HB := hid hb; have HF3 := hid hf; clear hb hf)
    go_roundw
    case rel => exact ⟨1, rfl, .inr ⟨rfl, HB.out, HF.out.step HF3.out (fun k hk e => by have := HN.out; omega)⟩⟩
    case measure => decide
end Go.Proofs.Ytoboialfaifbgaa.ViI
/- Contract: what must come of every program (choices of zones). No condition. -/
namespace Go.Proofs.Ytoboialfaifbgaa.ViJ
open Go.RowKit MSep MSepC MSpM MGeM GeA GeC GeE PgA PgB VaU ViA ViB ViC ViF

theorem ah2 (W : World) : Calls Try.prog 20 #[.int .i64 2, .agg #[.int .i64 3, .int .i64 1, .int .i64 0, .int .i64 1], .agg #[.int .i64 2, .int .i64 5, .int .i64 0, .int .i64 0]] W fun e w' => e = .returned (.tuple #[.bool true, .int .i64 0]) ∧ Fr No W w' := by
  have h := ahead2 ⟨3, 1, 0, 1⟩ ⟨2, 5, 0, 0⟩ W
  rwa [show ahd 2 ⟨3, 1, 0, 1⟩ ⟨2, 5, 0, 0⟩ = true by decide] at h
theorem st9 (W : World) : Calls Try.prog 26 #[gv0, .int .i64 1, .int .i64 4] W fun e w' => e = .returned (.int .i64 9) ∧ Fr No W w' := by
  have h := steps_ok 2 6 16 3 2 1 4 W r6
  rwa [show stp ⟨2, 6, 16, 3, 2⟩ 1 4 = 9 by unfold stp; rw [if_pos ⟨may0, by decide, by decide, by decide⟩]; decide] at h
theorem bd50 (W : World) : Calls Try.prog 27 #[gv0, .int .i64 4] W fun e w' => e = .returned (.int .i64 50) ∧ Fr No W w' := by
  have h := bound_ok 2 6 16 3 2 4 W r6
  rwa [show bnd ⟨2, 6, 16, 3, 2⟩ 4 = 50 by unfold bnd stp; rw [if_pos ⟨may0, by decide⟩, if_pos ⟨may0, by decide, by decide, by decide⟩]; decide] at h
theorem b2_rd {W : World} {L : Nat} (h : B2 W L) : RdX W (some ⟨L, 0, none⟩) 2 (ViE.L2.map ViE.ex) := ⟨rfl, rfl, fun _ => ⟨L, 0, rfl, Blk.lt h, fun j u hu => by
    rw [Nat.zero_add, Blk.cell h]
    match j, hu with
    | 0, hu => exact hu
    | 1, hu => exact hu
    | 2, hu => exact hu
    | 3, hu => exact hu
    | 4, hu => exact hu
    | 5, hu => exact hu
    | 6, hu => exact hu
    | 7, hu => exact hu
    | j + 8, hu => simp [cs4, ViE.L2, ViE.ex] at hu⟩⟩
set_option maxRecDepth 100000 in
set_option maxHeartbeats 4000000 in
theorem lives_ok (w : World) : Calls Try.prog 14 #[] w fun e w' => e = .returned (.bool true) ∧ Fr No w w' := by
  go_enter Try.func14, Try.ntmps14
  go_upto_region 3 with fail
  obtain ⟨G, hG⟩ : ∃ G, w.heap.size = G := ⟨_, rfl⟩
  obtain ⟨w1, hw1⟩ : ∃ w1, (w.alloc (bg 2 6 16 3 2)).alloc (.cells #[.int .i64 2, .int .i64 5, .int .i64 0, .int .i64 0, .int .i64 3, .int .i64 1, .int .i64 0, .int .i64 1] 37) = w1 := ⟨_, rfl⟩
  have HF := hid (show Fr No w w1 by rw [← hw1]; exact (fr1 _ _).alloc _)
  have P0 := hid (show BG w1 G 2 6 16 3 2 by rw [← hw1, ← hG]; exact (BG.new w 2 6 16 3 2 : Blk _ _ _ _).alloc _)
  obtain ⟨L, hL⟩ : ∃ L, G + 1 = L := ⟨_, rfl⟩
  have HL := hid (show B2 w1 L by
    rw [← hw1, ← hL, ← hG]
    have := Blk.new (w.alloc (bg 2 6 16 3 2)) 37 #[.int .i64 2, .int .i64 5, .int .i64 0, .int .i64 0, .int .i64 3, .int .i64 1, .int .i64 0, .int .i64 1]
    rwa [World.size_alloc] at this)
  try rw [show (w.alloc (Obj.cells #[.int .i64 2, .int .i64 6, .int .i64 16, .int .i64 3, .int .i64 2] 23)).alloc (Obj.cells #[.int .i64 2, .int .i64 5, .int .i64 0, .int .i64 0, .int .i64 3, .int .i64 1, .int .i64 0, .int .i64 1] 37) = w1 from hw1]
  try simp only [World.size_alloc]
  try rw [hG]
  try rw [hL]
  clear hw1 hG hL
  go_upto_region 4 with ((go_at_call 16; refine (pick1 L _ HL.out).mono ?_; rintro e wn ⟨rfl, f⟩; replace HF := hid (HF.out.trans f); replace P0 := hid (BG.fr P0.out f); replace HL := hid (show B2 _ L from Blk.fr HL.out f (fun h => h)); (try replace HA3 := hid (HA3.out.fr f)); (try replace HA5 := hid (HA5.out.fr f)); (try replace HN := hid (f.cell_some HN.out (fun h => h))); (try replace HN2 := hid (f.cell_some HN2.out (fun h => h))); (try replace HQ := hid (f.cell_some HQ.out (fun h => h))); clear f))
  obtain ⟨wx, hwx⟩ : ∃ wx, wn.alloc (och ⟨2, 5, 0, 0⟩) = wx := ⟨_, rfl⟩
  have HA3 := hid (show BC wx wn.heap.size ⟨2, 5, 0, 0⟩ by rw [← hwx]; exact BC.new _ _)
  obtain ⟨HA3a, hHA3⟩ : ∃ HA3a, wn.heap.size = HA3a := ⟨_, rfl⟩
  rw [hHA3] at HA3
  have f : Fr No wn wx := by rw [← hwx]; exact fr1 _ _
  try rw [show wn.alloc (Obj.cells #[.int .i64 2, .int .i64 5, .int .i64 0, .int .i64 0] 37) = wx from hwx]
  try rw [hHA3]
  replace HF := hid (HF.out.trans f); replace P0 := hid (BG.fr P0.out f); replace HL := hid (show B2 _ L from Blk.fr HL.out f (fun h => h)); (try replace HA5 := hid (HA5.out.fr f)); (try replace HN := hid (f.cell_some HN.out (fun h => h))); (try replace HN2 := hid (f.cell_some HN2.out (fun h => h))); (try replace HQ := hid (f.cell_some HQ.out (fun h => h)))
  clear f hwx hHA3
  obtain ⟨wn, hwn⟩ : ∃ wy, wx = wy := ⟨_, rfl⟩
  subst hwn
  go_upto_region 5 with ((go_at_call 16; refine (pick2 L _ HL.out).mono ?_; rintro e wn ⟨rfl, f⟩; replace HF := hid (HF.out.trans f); replace P0 := hid (BG.fr P0.out f); replace HL := hid (show B2 _ L from Blk.fr HL.out f (fun h => h)); (try replace HA3 := hid (HA3.out.fr f)); (try replace HA5 := hid (HA5.out.fr f)); (try replace HN := hid (f.cell_some HN.out (fun h => h))); (try replace HN2 := hid (f.cell_some HN2.out (fun h => h))); (try replace HQ := hid (f.cell_some HQ.out (fun h => h))); clear f))
  obtain ⟨wx, hwx⟩ : ∃ wx, wn.alloc (och ⟨3, 1, 0, 1⟩) = wx := ⟨_, rfl⟩
  have HA5 := hid (show BC wx wn.heap.size ⟨3, 1, 0, 1⟩ by rw [← hwx]; exact BC.new _ _)
  obtain ⟨HA5a, hHA5⟩ : ∃ HA5a, wn.heap.size = HA5a := ⟨_, rfl⟩
  rw [hHA5] at HA5
  have f : Fr No wn wx := by rw [← hwx]; exact fr1 _ _
  try rw [show wn.alloc (Obj.cells #[.int .i64 3, .int .i64 1, .int .i64 0, .int .i64 1] 37) = wx from hwx]
  try rw [hHA5]
  replace HF := hid (HF.out.trans f); replace P0 := hid (BG.fr P0.out f); replace HL := hid (show B2 _ L from Blk.fr HL.out f (fun h => h)); (try replace HA3 := hid (HA3.out.fr f)); (try replace HN := hid (f.cell_some HN.out (fun h => h))); (try replace HN2 := hid (f.cell_some HN2.out (fun h => h))); (try replace HQ := hid (f.cell_some HQ.out (fun h => h)))
  clear f hwx hHA5
  obtain ⟨wn, hwn⟩ : ∃ wy, wx = wy := ⟨_, rfl⟩
  subst hwn
  go_upto_region 6 with ((go_at_call 16; refine (pick3 L _).mono ?_; rintro e wn ⟨rfl, f⟩; replace HF := hid (HF.out.trans f); replace P0 := hid (BG.fr P0.out f); replace HL := hid (show B2 _ L from Blk.fr HL.out f (fun h => h)); (try replace HA3 := hid (HA3.out.fr f)); (try replace HA5 := hid (HA5.out.fr f)); (try replace HN := hid (f.cell_some HN.out (fun h => h))); (try replace HN2 := hid (f.cell_some HN2.out (fun h => h))); (try replace HQ := hid (f.cell_some HQ.out (fun h => h))); clear f))
  obtain ⟨wx, hwx⟩ : ∃ wx, wn.alloc (och ⟨0, 0, 0, 0⟩) = wx := ⟨_, rfl⟩
  have f : Fr No wn wx := by rw [← hwx]; exact fr1 _ _
  try rw [show wn.alloc (Obj.cells #[.int .i64 0, .int .i64 0, .int .i64 0, .int .i64 0] 37) = wx from hwx]
  replace HF := hid (HF.out.trans f); replace P0 := hid (BG.fr P0.out f); replace HL := hid (show B2 _ L from Blk.fr HL.out f (fun h => h)); (try replace HA3 := hid (HA3.out.fr f)); (try replace HA5 := hid (HA5.out.fr f)); (try replace HN := hid (f.cell_some HN.out (fun h => h))); (try replace HN2 := hid (f.cell_some HN2.out (fun h => h))); (try replace HQ := hid (f.cell_some HQ.out (fun h => h)))
  clear f hwx
  obtain ⟨wn, hwn⟩ : ∃ wy, wx = wy := ⟨_, rfl⟩
  subst hwn
  go_upto_region 7 with ((go_at_call 15; refine (ViE.order2 L _ (b2_rd HL.out)).mono ?_; rintro e wn ⟨⟨N, cN, rfl, hn⟩, f⟩; replace HF := hid (HF.out.trans f); replace P0 := hid (BG.fr P0.out f); replace HL := hid (show B2 _ L from Blk.fr HL.out f (fun h => h)); (try replace HA3 := hid (HA3.out.fr f)); (try replace HA5 := hid (HA5.out.fr f)); (try replace HN := hid (f.cell_some HN.out (fun h => h))); (try replace HN2 := hid (f.cell_some HN2.out (fun h => h))); (try replace HQ := hid (f.cell_some HQ.out (fun h => h))); have HN := hid hn; clear hn; clear f))
  go_upto_region 8 with (first | ((with_reducible refine ld_geom rfl (.tmp 1) rfl G ?_ P0.out ?_); · rfl) | (go_at_call 21; have f := ((fr1 wn (.cells #[.int .i64 0, .int .i64 5, .int .i64 4, .int .i64 0] 62)).alloc (.cells #[.int .i64 4] 3)); have hE := Blk.alloc (Blk.new wn 62 #[.int .i64 0, .int .i64 5, .int .i64 4, .int .i64 0]) (.cells #[.int .i64 4] 3); have hO := Blk.new (wn.alloc (.cells #[.int .i64 0, .int .i64 5, .int .i64 4, .int .i64 0] 62)) 3 #[.int .i64 4]; rw [World.size_alloc] at hO; replace HF := hid (HF.out.trans f); replace P0 := hid (BG.fr P0.out f); replace HL := hid (show B2 _ L from Blk.fr HL.out f (fun h => h)); (try replace HA3 := hid (HA3.out.fr f)); (try replace HA5 := hid (HA5.out.fr f)); (try replace HN := hid (f.cell_some HN.out (fun h => h))); (try replace HN2 := hid (f.cell_some HN2.out (fun h => h))); (try replace HQ := hid (f.cell_some HQ.out (fun h => h))); clear f; refine (ViI.choices1 _ _ _ hE hO).mono ?_; clear hE hO; rintro e wn ⟨⟨N2, rfl, hn2⟩, f⟩; replace HF := hid (HF.out.trans f); replace P0 := hid (BG.fr P0.out f); replace HL := hid (show B2 _ L from Blk.fr HL.out f (fun h => h)); (try replace HA3 := hid (HA3.out.fr f)); (try replace HA5 := hid (HA5.out.fr f)); (try replace HN := hid (f.cell_some HN.out (fun h => h))); (try replace HN2 := hid (f.cell_some HN2.out (fun h => h))); (try replace HQ := hid (f.cell_some HQ.out (fun h => h))); have HN2 := hid hn2; clear f hn2))
  go_upto_region 9 with (first | ((with_reducible refine ld_geom rfl (.tmp 1) rfl G ?_ P0.out ?_); · rfl) | (go_at_call 24; have f := fr1 wn (.cells #[.int .i64 20, .int .i64 5, .int .i64 4, .int .i64 0] 62); have hE := Blk.new wn 62 #[.int .i64 20, .int .i64 5, .int .i64 4, .int .i64 0]; replace HF := hid (HF.out.trans f); replace P0 := hid (BG.fr P0.out f); replace HL := hid (show B2 _ L from Blk.fr HL.out f (fun h => h)); (try replace HA3 := hid (HA3.out.fr f)); (try replace HA5 := hid (HA5.out.fr f)); (try replace HN := hid (f.cell_some HN.out (fun h => h))); (try replace HN2 := hid (f.cell_some HN2.out (fun h => h))); (try replace HQ := hid (f.cell_some HQ.out (fun h => h))); clear f; refine (ViH.crowd1 _ _ hE).mono ?_; clear hE; rintro e wn ⟨⟨gq, oq, cq, rfl, hq⟩, f⟩; replace HF := hid (HF.out.trans f); replace P0 := hid (BG.fr P0.out f); replace HL := hid (show B2 _ L from Blk.fr HL.out f (fun h => h)); (try replace HA3 := hid (HA3.out.fr f)); (try replace HA5 := hid (HA5.out.fr f)); (try replace HN := hid (f.cell_some HN.out (fun h => h))); (try replace HN2 := hid (f.cell_some HN2.out (fun h => h))); (try replace HQ := hid (f.cell_some HQ.out (fun h => h))); have HQ := hid hq; clear f hq))
  obtain ⟨l0, l1, l2, l3, l4, l5, l6, l7⟩ := B2.cells HL.out
  have FW := hid (Fr.refl No wn)
  have FW := kd FW
  refine wp_region_noPanic ?_
  refine wp_region_held_drew (S := (fun W' => W'.cell? ⟨L, 0, none⟩ = some (.int .i64 2) ∧ W'.cell? ⟨L, 1, none⟩ = some (.int .i64 5) ∧ W'.cell? ⟨L, 2, none⟩ = some (.int .i64 0) ∧ W'.cell? ⟨L, 3, none⟩ = some (.int .i64 0) ∧ W'.cell? ⟨L, 4, none⟩ = some (.int .i64 3) ∧ W'.cell? ⟨L, 5, none⟩ = some (.int .i64 1) ∧ W'.cell? ⟨L, 6, none⟩ = some (.int .i64 0) ∧ W'.cell? ⟨L, 7, none⟩ = some (.int .i64 1) ∧ Hid (Fr No wn W'))) (by kernel_rfl) ?_ (fun hHeld => ?_)
  · (try dsimp only); (first | (go_split_ands; exact ⟨kc f (by assumption), kc f (by assumption), kc f (by assumption), kc f (by assumption), kc f (by assumption), kc f (by assumption), kc f (by assumption), kc f (by assumption), by assumption⟩) | (go_split_ands; exact ⟨(by assumption), (by assumption), (by assumption), (by assumption), (by assumption), (by assumption), (by assumption), (by assumption), by assumption⟩) | (go_split_ands; exact ⟨kc (fr1 _ _) (by assumption), kc (fr1 _ _) (by assumption), kc (fr1 _ _) (by assumption), kc (fr1 _ _) (by assumption), kc (fr1 _ _) (by assumption), kc (fr1 _ _) (by assumption), kc (fr1 _ _) (by assumption), kc (fr1 _ _) (by assumption), kfa (by assumption)⟩) | (go_split_ands; exact ⟨kc (fr1d _ _) (by assumption), kc (fr1d _ _) (by assumption), kc (fr1d _ _) (by assumption), kc (fr1d _ _) (by assumption), kc (fr1d _ _) (by assumption), kc (fr1d _ _) (by assumption), kc (fr1d _ _) (by assumption), kc (fr1d _ _) (by assumption), kfae (by assumption)⟩))
  refine wpAnyH_take (i := 0) (v := ?v1) rfl (by kernel_rfl) (by kernel_rfl) (by kernel_rfl) (fun _ _ _ h => h) (Or.inl ⟨by kernel_rfl, ?y1⟩) (by assumption) ?_
  case y1 => (intro w hSw; (try dsimp only at hSw); go_simp; all_goals with_reducible rfl)
  try simp only [Act.put, List.getElem_toArray, List.getElem_cons_zero, List.setIfInBounds_toArray, List.set_cons_zero, List.set_cons_succ]
  refine wpAnyH_take (i := 1) (v := ?v2) rfl (by kernel_rfl) (by kernel_rfl) (by kernel_rfl) (fun _ _ _ h => h) (Or.inl ⟨by kernel_rfl, ?y2⟩) (by assumption) ?_
  case y2 => (intro w hSw; (try dsimp only at hSw); go_simp; all_goals with_reducible rfl)
  try simp only [Act.put, List.getElem_toArray, List.getElem_cons_succ, List.getElem_cons_zero, List.setIfInBounds_toArray, List.set_cons_zero, List.set_cons_succ]
  refine wpAnyH_take (i := 2) (v := ?v3) rfl (by kernel_rfl) (by kernel_rfl) (by kernel_rfl) (fun _ _ _ h => h) (Or.inl ⟨by kernel_rfl, ?y3⟩) (by assumption) ?_
  case y3 => (intro w hSw; (try dsimp only at hSw); go_simp; all_goals with_reducible rfl)
  try simp only [Act.put, List.getElem_toArray, List.getElem_cons_succ, List.getElem_cons_zero, List.setIfInBounds_toArray, List.set_cons_zero, List.set_cons_succ]
  refine wpAnyH_take (i := 3) (v := ?v4) rfl (by kernel_rfl) (by kernel_rfl) (by kernel_rfl) (fun _ _ _ h => h) (Or.inl ⟨by kernel_rfl, ?y4⟩) (by assumption) ?_
  case y4 => (intro w hSw; (try dsimp only at hSw); go_simp; all_goals with_reducible rfl)
  try simp only [Act.put, List.getElem_toArray, List.getElem_cons_succ, List.getElem_cons_zero, List.setIfInBounds_toArray, List.set_cons_zero, List.set_cons_succ]
  refine wpAnyH_take (i := 4) (v := ?v5) rfl (by kernel_rfl) (by kernel_rfl) (by kernel_rfl) (fun _ _ _ h => h) (Or.inl ⟨by kernel_rfl, ?y5⟩) (by assumption) ?_
  case y5 => (intro w hSw; (try dsimp only at hSw); go_simp; all_goals with_reducible rfl)
  try simp only [Act.put, List.getElem_toArray, List.getElem_cons_succ, List.getElem_cons_zero, List.setIfInBounds_toArray, List.set_cons_zero, List.set_cons_succ]
  refine wpAnyH_take (i := 5) (v := ?v6) rfl (by kernel_rfl) (by kernel_rfl) (by kernel_rfl) (fun _ _ _ h => h) (Or.inl ⟨by kernel_rfl, ?y6⟩) (by assumption) ?_
  case y6 => (intro w hSw; (try dsimp only at hSw); go_simp; all_goals with_reducible rfl)
  try simp only [Act.put, List.getElem_toArray, List.getElem_cons_succ, List.getElem_cons_zero, List.setIfInBounds_toArray, List.set_cons_zero, List.set_cons_succ]
  refine wpAnyH_ready (rs := [6]) (by kernel_rfl) (by simp) (AllReadyH.cons rfl (fun K hK => ?_) AllReadyH.nil)
  go_simp
  go_at_call 20
  refine (ah2 _).mono ?_
  rintro e W1 ⟨rfl, f⟩
  have FW := kf f hHeld.2.2.2.2.2.2.2.2
  dsimp only
  refine hK.out _ _ ?_ (fun hHeld => ?_)
  · (try dsimp only); (first | (go_split_ands; exact ⟨kc f (by assumption), kc f (by assumption), kc f (by assumption), kc f (by assumption), kc f (by assumption), kc f (by assumption), kc f (by assumption), kc f (by assumption), by assumption⟩) | (go_split_ands; exact ⟨(by assumption), (by assumption), (by assumption), (by assumption), (by assumption), (by assumption), (by assumption), (by assumption), by assumption⟩) | (go_split_ands; exact ⟨kc (fr1 _ _) (by assumption), kc (fr1 _ _) (by assumption), kc (fr1 _ _) (by assumption), kc (fr1 _ _) (by assumption), kc (fr1 _ _) (by assumption), kc (fr1 _ _) (by assumption), kc (fr1 _ _) (by assumption), kc (fr1 _ _) (by assumption), kfa (by assumption)⟩) | (go_split_ands; exact ⟨kc (fr1d _ _) (by assumption), kc (fr1d _ _) (by assumption), kc (fr1d _ _) (by assumption), kc (fr1d _ _) (by assumption), kc (fr1d _ _) (by assumption), kc (fr1d _ _) (by assumption), kc (fr1d _ _) (by assumption), kc (fr1d _ _) (by assumption), kfae (by assumption)⟩))
  clear hK K
  try simp only [Act.put, List.getElem_toArray, List.getElem_cons_succ, List.getElem_cons_zero, List.setIfInBounds_toArray, List.set_cons_zero, List.set_cons_succ]
  refine wpAnyH_take (i := 7) (v := ?v7) rfl (by kernel_rfl) (by kernel_rfl) (by kernel_rfl) (fun _ _ _ h => h) (Or.inl ⟨by kernel_rfl, ?y7⟩) (by assumption) ?_
  case y7 => (intro w hSw; (try dsimp only at hSw); go_simp; all_goals with_reducible rfl)
  try simp only [Act.put, List.getElem_toArray, List.getElem_cons_succ, List.getElem_cons_zero, List.setIfInBounds_toArray, List.set_cons_zero, List.set_cons_succ]
  refine wpAnyH_take (i := 8) (v := ?v8) rfl (by kernel_rfl) (by kernel_rfl) (by kernel_rfl) (fun _ _ _ h => h) (Or.inl ⟨by kernel_rfl, ?y8⟩) (by assumption) ?_
  case y8 => (intro w hSw; (try dsimp only at hSw); go_simp; all_goals with_reducible rfl)
  try simp only [Act.put, List.getElem_toArray, List.getElem_cons_succ, List.getElem_cons_zero, List.setIfInBounds_toArray, List.set_cons_zero, List.set_cons_succ]
  refine wpAnyH_take (i := 9) (v := ?v9) rfl (by kernel_rfl) (by kernel_rfl) (by kernel_rfl) (fun _ _ _ h => h) (Or.inl ⟨by kernel_rfl, ?y9⟩) (by assumption) ?_
  case y9 => (intro w hSw; (try dsimp only at hSw); go_simp; all_goals with_reducible rfl)
  try simp only [Act.put, List.getElem_toArray, List.getElem_cons_succ, List.getElem_cons_zero, List.setIfInBounds_toArray, List.set_cons_zero, List.set_cons_succ]
  refine wpAnyH_take (i := 10) (v := ?v10) rfl (by kernel_rfl) (by kernel_rfl) (by kernel_rfl) (fun _ _ _ h => h) (Or.inl ⟨by kernel_rfl, ?y10⟩) (by assumption) ?_
  case y10 => (intro w hSw; (try dsimp only at hSw); go_simp; all_goals with_reducible rfl)
  try simp only [Act.put, List.getElem_toArray, List.getElem_cons_succ, List.getElem_cons_zero, List.setIfInBounds_toArray, List.set_cons_zero, List.set_cons_succ]
  refine wpAnyH_take (i := 11) (v := ?v11) rfl (by kernel_rfl) (by kernel_rfl) (by kernel_rfl) (fun _ _ _ h => h) (Or.inl ⟨by kernel_rfl, ?y11⟩) (by assumption) ?_
  case y11 => (intro w hSw; (try dsimp only at hSw); go_simp; all_goals with_reducible rfl)
  try simp only [Act.put, List.getElem_toArray, List.getElem_cons_succ, List.getElem_cons_zero, List.setIfInBounds_toArray, List.set_cons_zero, List.set_cons_succ]
  refine wpAnyH_done (by kernel_rfl) ?_ _
  refine NoPanic.normal ?_
  have f := hHeld.2.2.2.2.2.2.2.2.out
  clear hHeld FW
  obtain ⟨wn, hwn⟩ : ∃ wy, W1 = wy := ⟨_, rfl⟩
  subst hwn
  replace HF := hid (HF.out.trans f); replace P0 := hid (BG.fr P0.out f); replace HL := hid (show B2 _ L from Blk.fr HL.out f (fun h => h)); (try replace HA3 := hid (HA3.out.fr f)); (try replace HA5 := hid (HA5.out.fr f)); (try replace HN := hid (f.cell_some HN.out (fun h => h))); (try replace HN2 := hid (f.cell_some HN2.out (fun h => h))); (try replace HQ := hid (f.cell_some HQ.out (fun h => h)))
  clear f
  clear l0 l1 l2 l3 l4 l5 l6 l7
  go_upto_region 10 with fail
  obtain ⟨p0, p1, p2, p3, p4⟩ := BG.cells P0.out
  have a0 := (BC.cells HA3.out).1
  have b0 := (BC.cells HA5.out).1
  have n0 := HN.out
  have m0 := HN2.out
  have q0 := HQ.out
  dsimp only at a0 b0
  go_wp2_with (first | (go_at_call 26; refine (st9 _).mono ?_; rintro e wn ⟨rfl, f⟩; replace HF := hid (HF.out.trans f); replace P0 := hid (BG.fr P0.out f); replace HL := hid (show B2 _ L from Blk.fr HL.out f (fun h => h)); (try replace HA3 := hid (HA3.out.fr f)); (try replace HA5 := hid (HA5.out.fr f)); (try replace HN := hid (f.cell_some HN.out (fun h => h))); (try replace HN2 := hid (f.cell_some HN2.out (fun h => h))); (try replace HQ := hid (f.cell_some HQ.out (fun h => h))); clear f p0 p1 p2 p3 p4 a0 b0 n0 m0 q0; obtain ⟨p0, p1, p2, p3, p4⟩ := BG.cells P0.out) | (go_at_call 27; refine (bd50 _).mono ?_; rintro e wn ⟨rfl, f⟩; replace HF := hid (HF.out.trans f); clear f))
  go_ret
  exact ⟨rfl, HF.out⟩
end Go.Proofs.Ytoboialfaifbgaa.ViJ
/- What the rows over choices take: a choice that came in; and the rows' walks over plain numbers. -/
namespace Go.Proofs.Ytoboialfaifbgaa.ViRow
open Go.Joins Go.ChangeShapes Go.WideShapes Go.RowKit Go.Deep MFrame MSep SpA ViA ViB GeA
set_option maxRecDepth 100000 in
theorem choice_open {H : Type} {enc : TypeId × Value → H} {w : World} {base b0 : Nat} {r : Reach} {spare : Nat → Bool} {held : Bool} {v : Value} {d : DataW H} {p : List MemPlace}
    (hv : Value.okWide Try.prog w r b0 37 v) (h : DataW.Trod enc Try.prog w base spare held 37 v d p) : ∃ z l b a : Int, v = .agg #[.int .i64 z, .int .i64 l, .int .i64 b, .int .i64 a] := by
  obtain ⟨v0, v1, v2, v3, y0, y1, y2, y3, n, rfl, _, _, h0, h1, h2, h3⟩ := open_agg4 Try.underlying37 (by kernel_rfl) (by kernel_rfl) hv h
  obtain ⟨a0, e0, _, _⟩ := DataW.trod_int Try.underlying3 h0
  obtain ⟨a1, e1, _, _⟩ := DataW.trod_int Try.underlying3 h1
  obtain ⟨a2, e2, _, _⟩ := DataW.trod_int Try.underlying3 h2
  obtain ⟨a3, e3, _, _⟩ := DataW.trod_int Try.underlying3 h3
  simp at e0 e1 e2 e3
  subst e0 e1 e2 e3
  exact ⟨a0, a1, a2, a3, rfl⟩
theorem ahead_r (p z0 l0 b0 g0 z1 l1 b1 g1 z2 l2 b2 g2 : Int) (w : World) (_ : -9223372036854775808 ≤ p ∧ p ≤ 9223372036854775807) : Calls Try.prog 5 #[.int .i64 p, .agg #[.int .i64 z0, .int .i64 l0, .int .i64 b0, .int .i64 g0], .agg #[.int .i64 z1, .int .i64 l1, .int .i64 b1, .int .i64 g1], .agg #[.int .i64 z2, .int .i64 l2, .int .i64 b2, .int .i64 g2]] w fun e w' => e = .returned (.bool true) ∧ Fr No w w' :=
  ViD.ahead_w p ⟨z0, l0, b0, g0⟩ ⟨z1, l1, b1, g1⟩ ⟨z2, l2, b2, g2⟩ w ViJ.lives_ok
theorem steps_r (gc gs gn gl gk b ch : Int) (w : World) (hs : -9223372036854775808 ≤ gs ∧ gs ≤ 9223372036854775807) (_ : -9223372036854775808 ≤ b ∧ b ≤ 9223372036854775807) (_ : -9223372036854775808 ≤ ch ∧ ch ≤ 9223372036854775807) : Calls Try.prog 8 #[.agg #[.int .i64 gc, .int .i64 gs, .int .i64 gn, .int .i64 gl, .int .i64 gk], .int .i64 b, .int .i64 ch] w fun e w' => e = .returned (.bool true) ∧ Fr No w w' :=
  ViD.steps_w gc gs gn gl gk b ch w hs ViJ.lives_ok
end Go.Proofs.Ytoboialfaifbgaa.ViRow
