/- Contract: what any bytes are as a superblock, by the program. Conditions: they read as bytes; the table of sums is as its text lays it. -/
import Derived.Test.YthhhmhgmmbfjhaaDoorSuJ
import Derived.Handy
import Derived.Deep.DeepCutAuto
namespace Go.Proofs.YthhhmhgmmbfjhaaDoor.SuK
open Go.RowKit MSep MFrame LeW LeR RdA SuA SuB SuD SuF SuI SuJ CrcA CrcM CrcE

theorem infoS : (Tryd.prog.info? 25).map (·.size) = some 10 := by kernel_rfl
/-- A superblock is stored whole. -/
theorem st_S {ops : Array Oper} {rest : List Oper} {o : Oper} {ac : Act} {w : World} {Q : Exit → Act → World → Prop} (hgd : o.guard = none) (p y : Operand) (ho : o.op = .store 25 p y) (g : Nat) (hx : ac.eval p = .pointer (some ⟨g, 0, none⟩)) {a0 a1 a2 a3 a4 a5 a6 a7 a8 a9 : Value}
    (hy : ac.eval y = .agg #[a0, a1, a2, a3, a4, a5, a6, a7, a8, a9]) (h1 : (#[a0, a1, a2, a3, a4, a5, a6, a7, a8, a9] : Array Value).all (·.oneCell') = true) {cs : Array Value} (hg : Blk w g 25 cs) (hsz : cs.size = 10)
    (h : ∀ W', Blk W' g 25 #[a0, a1, a2, a3, a4, a5, a6, a7, a8, a9] → Fr (fun q => q = g) w W' → wpList Tryd.prog ops Q rest (ac.put o.dst undef) W') : wpList Tryd.prog ops Q (o :: rest) ac w :=
  wpList_store_row hgd 25 p y ho g _ hx hy 25 _ hg infoS (hsz.trans rfl) h1 (h _ (Blk.setRow hg _) (Fr.setRow (S := fun q => q = g) (Fr.refl _ _) (fun _ => rfl) _))
/-- A superblock is loaded whole. -/
theorem ld_S {ops : Array Oper} {rest : List Oper} {o : Oper} {ac : Act} {w : World} {Q : Exit → Act → World → Prop} (hgd : o.guard = none) (x : Operand) (ho : o.op = .load 25 x) (g : Nat) (hx : ac.eval x = .pointer (some ⟨g, 0, none⟩)) {r : Sp} (hg : Blk w g 25 #[.int .i64 r.g, .int .i64 r.c, .int .i64 r.s, .int .i64 r.n, .int .i64 r.l, .int .i64 r.k, .int .i64 r.t, .int .i64 r.e, .int .i64 r.f, .bool r.b])
    (h : wpList Tryd.prog ops Q rest (ac.put o.dst (spv r)) w) : wpList Tryd.prog ops Q (o :: rest) ac w :=
  wpList_load_row hgd 25 x ho g hx 25 _ (0, 0) _ hg Tryd.underlying25 rfl infoS h
def BS (w : World) (R : Nat) (r : Sp) : Prop := Blk w R 25 #[.int .i64 r.g, .int .i64 r.c, .int .i64 r.s, .int .i64 r.n, .int .i64 r.l, .int .i64 r.k, .int .i64 r.t, .int .i64 r.e, .int .i64 r.f, .bool r.b]
theorem resS {fn : Func} {p q : Tmp} (h : fn.results = #[.cell p 25, .tmp q]) (tmps : Array Value) (w : World) (g : Nat) (r : Sp) (y : Value) (hp : tmps.getD p undef = .pointer (some ⟨g, 0, none⟩)) (hq : tmps.getD q undef = y) (hg : BS w g r) :
    (results fn tmps).run Tryd.prog w = .ok (.tuple #[spv r, y]) w := by
  have hp' : tmps[p]?.getD undef = .pointer (some ⟨g, 0, none⟩) := by simpa using hp
  have hq' : tmps[q]?.getD undef = y := by simpa using hq
  have hl := run_loadVar_row (P := Tryd.prog) w g 25 25 _ (0, 0) _ hg Tryd.underlying25 rfl (by kernel_rfl)
  simp [results, h, hp', hq', asAddr, hl]
def outS (o : Option Sp) : Sp := o.getD rz
def outE (o : Option Sp) : Int := if o.isSome then 0 else 80
set_option maxRecDepth 100000 in
set_option maxHeartbeats 4000000 in
theorem decode_ok (A : Option Addr) (l c : Nat) (zs : List Int) (w : World) (hb : IsB w A l c zs) (hT : TabAt w) :
    Calls Tryd.prog 19 #[.slice A l c] w fun E w' => E = .returned (.tuple #[spv (outS (dec zs)), .int .i64 (outE (dec zs))]) ∧ Fr No w w' := by
  have hlen : zs.length = l := by simpa using hb.1.1
  obtain ⟨R, hR⟩ : ∃ R, w.heap.size = R := ⟨_, rfl⟩
  obtain ⟨w1, hw1⟩ : ∃ w1, w.alloc (.cells #[.int .i64 0, .int .i64 0, .int .i64 0, .int .i64 0, .int .i64 0, .int .i64 0, .int .i64 0, .int .i64 0, .int .i64 0, .bool false] 25) = w1 := ⟨_, rfl⟩
  have FW := hid (show Fr No w w1 by rw [← hw1]; exact (Fr.refl _ w).alloc _)
  have HQ : Blk w1 R 25 #[.int .i64 0, .int .i64 0, .int .i64 0, .int .i64 0, .int .i64 0, .int .i64 0, .int .i64 0, .int .i64 0, .int .i64 0, .bool false] := by
    rw [← hw1, ← hR]
    exact Blk.new w _ _
  have HS1 := hid (show w1.heap.size = R + 1 by rw [← hw1]; simp; omega)
  have HW1 := hid hw1
  have HI := hid (hb.fr FW.out)
  have HT1 := hid (hT.fr FW.out (fun h => h))
  have HLEN := hid hlen
  clear hb hT hw1 hlen
  obtain ⟨V, hV⟩ : ∃ V, dec zs = V := ⟨_, rfl⟩
  rw [hV]
  by_cases hs : secOk zs = true
  · have HC : Hid ((l == 128 && ld zs 4 == onN 0 (zs.drop 4)) = true) := hid (by rw [← HLEN.out]; exact hs)
    have hl : l = 128 := by have := HC.out; simp only [Bool.and_eq_true, beq_iff_eq] at this; exact this.1
    subst hl
    have HVD := hid (show dP (zs.drop 4) = V by rw [← hV, dec, if_pos hs])
    clear hV hs
    obtain ⟨ga, oa, rfl, hga, _⟩ := HI.out.1.2 (by omega)
    have hc4 : ¬ c = 4 := by have := HI.out.2.1; omega
    have HR4 : Hid (Rd w1 (some ⟨ga, oa + 4, none⟩) 124 ((zs.drop 4).map (Value.int .u8))) := hid (by
      have := HI.out.1.cut (k := 4) (c := c) (by omega) HI.out.2.1
      unfold cutA at this
      rw [if_neg hc4] at this
      simpa [add_off, List.map_drop] using this)
    have HU8 := hid (show ∀ x ∈ zs.drop 4, 0 ≤ x ∧ x ≤ 255 from fun x hx => HI.out.2.2.2 x (List.mem_of_mem_drop hx))
    have HCC := hid HI.out.2
    have HD4 := hid (show (zs.drop 4).length = 124 by rw [List.length_drop, HLEN.out])
    obtain ⟨X, hX⟩ : ∃ X, zs.drop 4 = X := ⟨_, rfl⟩
    rw [hX] at HR4 HU8 HVD HD4
    clear hX hga
    have hc4l : (4 : Int) ≤ (128 : Nat) := by decide
    go_enter Tryd.func19, Tryd.ntmps19
    go_upto_region 1 with fail
    rw [show w.alloc (Obj.cells #[Value.int IntKind.i64 0, Value.int IntKind.i64 0, Value.int IntKind.i64 0, Value.int IntKind.i64 0, Value.int IntKind.i64 0, Value.int IntKind.i64 0, Value.int IntKind.i64 0, Value.int IntKind.i64 0, Value.int IntKind.i64 0, Value.bool false] 25) = w1 from HW1.out]
    try rw [hR]
    go_upto_region 4 with (first | (go_at_call 54; refine (check_any _ _ _ zs _ HI.out HT1.out).mono ?_; rintro e' w2 ⟨rfl, rfl⟩; rw [HC.out]) | (go_at_call 55; refine (take_rd (some ⟨ga, oa + 4, none⟩) 124 (c - 4) X w1 HR4.out HU8.out (by decide)).mono ?_; rintro e' w3 ⟨g, rfl, HS, f3⟩; rw [HS1.out] at HS; replace FW := hid (FW.out.trans f3); replace HQ := Blk.fr HQ f3 (fun h => h); replace HT1 := hid (HT1.out.fr f3 (fun h => h)); have HG := hid (HS.own); have HLT := hid (HS.lt); clear f3))
    obtain ⟨M, hM⟩ : ∃ M, w3.heap.size = M := ⟨_, rfl⟩
    rw [hM] at HS HG HLT
    obtain ⟨w4, hw4⟩ : ∃ w4, w3.alloc (.cells #[.pointer (some ⟨g, 0, none⟩)] 94) = w4 := ⟨_, rfl⟩
    have HM := hid (show Blk w4 M 94 #[.pointer (some ⟨g, 0, none⟩)] by rw [← hw4, ← hM]; exact Blk.new w3 _ _)
    have hs4 := hid (show w4.heap.size = M + 1 by rw [← hw4]; simp; omega)
    have m0 : w4.cell? ⟨M, 0, none⟩ = some (.pointer (some ⟨g, 0, none⟩)) := Blk.cell HM.out 0
    replace HS := HS.fr (show Fr No w3 w4 by rw [← hw4]; exact (Fr.refl _ _).alloc _) (fun _ _ h => h)
    replace FW := hid (show Fr No w w4 by rw [← hw4]; exact FW.out.alloc _)
    replace HQ := show Blk w4 R 25 #[.int .i64 0, .int .i64 0, .int .i64 0, .int .i64 0, .int .i64 0, .int .i64 0, .int .i64 0, .int .i64 0, .int .i64 0, .bool false] by rw [← hw4]; exact HQ.alloc _
    replace HT1 := hid (show TabAt w4 by rw [← hw4]; exact HT1.out.fr (S := No) ((Fr.refl _ _).alloc _) (fun h => h))
    try rw [hM]
    rw [show w3.alloc (Obj.cells #[Value.pointer (some ⟨g, 0, none⟩)] 94) = w4 from hw4]
    clear hw4 hM
    have hmk := mark_eq (ys := X.take 8) (fun x hx => HU8.out x (List.mem_of_mem_take hx))
    by_cases hm : X.take 8 = mk8
    · rw [decide_eq_true hm] at hmk
      have HVM := hid (show dP1 (some (X.drop 8)) = V by rw [← HVD.out, dP, if_pos hm])
      clear HVD hm
      go_upto_region 7 with (go_at_call 56; refine (bytes_rd g 8 (R + 1) _ X _ (by have := HD4.out; omega) (by have := Blk.lt HQ; omega) HS).mono ?_; rintro e' w5 ⟨A5, c5, rfl, hr5, HS, f5⟩; have hcv := run_str (P := Tryd.prog) w5 26 9 5 Tryd.underlying26 Tryd.underlying5 Tryd.underlying9 A5 8 c5 (X.take 8) (by simpa [List.map_take] using hr5); replace FW := hid (FW.out.step f5 (fun i hi h => by have := HG.out.1; omega)); replace HQ := Blk.fr HQ f5 (fun h => by have := HG.out.1; omega); replace HM := hid (Blk.fr HM.out f5 (fun h => by have := HLT.out; omega)); replace HT1 := hid (HT1.out.fr f5 (fun h => by have := HG.out.1; omega)); have hsz5 := hid f5.size; clear f5 hr5 m0)
      obtain ⟨G, hG⟩ : ∃ G, w5.heap.size = G := ⟨_, rfl⟩
      obtain ⟨w6, hw6⟩ : ∃ w6, w5.alloc (.cells #[.int .i64 0, .int .i64 0, .int .i64 0, .int .i64 0, .int .i64 0, .int .i64 0, .int .i64 0, .int .i64 0, .int .i64 0, .bool false, .int .i64 0, .int .i64 0] 98) = w6 := ⟨_, rfl⟩
      obtain ⟨st, hst⟩ : ∃ st, some (X.drop 8) = st := ⟨_, rfl⟩
      rw [hst] at HS HVM
      clear hst
      have HGM := hid (show M < G by have := hsz5.out; have := hs4.out; omega)
      have HBD := hid (show BD w6 G st 0 by rw [← hw6, ← hG]; exact Blk.new w5 _ _)
      replace HM := hid (show Blk w6 M 94 #[.pointer (some ⟨g, 0, none⟩)] by rw [← hw6]; exact Blk.alloc HM.out _)
      replace HS := HS.fr (show Fr No w5 w6 by rw [← hw6]; exact (Fr.refl _ _).alloc _) (fun _ _ h => h)
      replace FW := hid (show Fr No w w6 by rw [← hw6]; exact FW.out.alloc _)
      replace HQ := show Blk w6 R 25 #[.int .i64 0, .int .i64 0, .int .i64 0, .int .i64 0, .int .i64 0, .int .i64 0, .int .i64 0, .int .i64 0, .int .i64 0, .bool false] by rw [← hw6]; exact HQ.alloc _
      replace HT1 := hid (show TabAt w6 by rw [← hw6]; exact HT1.out.fr (S := No) ((Fr.refl _ _).alloc _) (fun h => h))
      rw [show w5.alloc (Obj.cells #[Value.int IntKind.i64 0, Value.int IntKind.i64 0, Value.int IntKind.i64 0, Value.int IntKind.i64 0, Value.int IntKind.i64 0, Value.int IntKind.i64 0, Value.int IntKind.i64 0, Value.int IntKind.i64 0, Value.int IntKind.i64 0, Value.bool false, Value.int IntKind.i64 0, Value.int IntKind.i64 0] 98) = w6 from hw6]
      try rw [hG]
      have HUG := hid (show ¬ (R + 1 ≤ G ∧ G < M) by have := HGM.out; omega)
      clear hw6 hG
      have HQ0 := hid HQ
      clear HQ
      have HW6 := hid (show ∀ w', Fr (fun k => k = g ∨ k = G) w6 w' → Fr No w w' from fun w' f => FW.out.step f (fun i hi h => by have := HG.out; have := HGM.out; omega))
      have HN6 := hid (show ∀ w', Fr (fun k => k = g ∨ k = G) w6 w' → Blk w' R 25 #[.int .i64 0, .int .i64 0, .int .i64 0, .int .i64 0, .int .i64 0, .int .i64 0, .int .i64 0, .int .i64 0, .int .i64 0, .bool false] from fun w' f => Blk.fr HQ0.out f (fun h => by have := HG.out; have := HGM.out; omega))
      go_upto_region 8 with (go_at_call 46; go_loud (refine (each_ok 57 G (.pointer (some ⟨M, 0, none⟩)) (InvD w6 M G g (R + 1) (fun k => R + 1 ≤ k ∧ k < M) st) (dec_does w6 M G g (R + 1) (fun k => R + 1 ≤ k ∧ k < M) st HUG.out ⟨by have := HG.out; omega, by have := HGM.out; omega⟩) _ ⟨HBD.out, HM.out, HS, Fr.refl _ _⟩).mono ?_; rintro e' w7 ⟨rfl, ⟨hbd, hm7, hr7, f7⟩⟩; have HQ7 := hid (HN6.out _ f7); have HR7 := hid hr7; have HF7 := hid (HW6.out _ f7); have HBD7 := hid hbd; have m0 := Blk.cell hm7 0; have HM7 := hid hm7; clear hr7 f7 hbd hm7 HBD HM HS FW HQ0 HT1 HW6 HN6))
      obtain ⟨v0, e0⟩ : ∃ v, dvl st 0 = v := ⟨_, rfl⟩
      obtain ⟨v1, e1⟩ : ∃ v, dvl st 1 = v := ⟨_, rfl⟩
      obtain ⟨v2, e2⟩ : ∃ v, dvl st 2 = v := ⟨_, rfl⟩
      obtain ⟨v3, e3⟩ : ∃ v, dvl st 3 = v := ⟨_, rfl⟩
      obtain ⟨v4, e4⟩ : ∃ v, dvl st 4 = v := ⟨_, rfl⟩
      obtain ⟨v5, e5⟩ : ∃ v, dvl st 5 = v := ⟨_, rfl⟩
      obtain ⟨v6, e6⟩ : ∃ v, dvl st 6 = v := ⟨_, rfl⟩
      obtain ⟨v7, e7⟩ : ∃ v, dvl st 7 = v := ⟨_, rfl⟩
      obtain ⟨v8, e8⟩ : ∃ v, dvl st 8 = v := ⟨_, rfl⟩
      obtain ⟨v9, e9⟩ : ∃ v, dvl st 9 = v := ⟨_, rfl⟩
      obtain ⟨v10, e10⟩ : ∃ v, dvl st 10 = v := ⟨_, rfl⟩
      have HB7 := hid (show Blk w7 G 98 #[.int .i64 v1, .int .i64 v2, .int .i64 v3, .int .i64 v4, .int .i64 v5, .int .i64 v6, .int .i64 v7, .int .i64 v8, .int .i64 v9, .bool false, .int .i64 v0, .int .i64 v10] by
        have h := HBD7.out
        unfold BD at h
        rw [dc_all st 1 (by decide), dc_all st 2 (by decide), dc_all st 3 (by decide), dc_all st 4 (by decide), dc_all st 5 (by decide), dc_all st 6 (by decide), dc_all st 7 (by decide), dc_all st 8 (by decide), dc_all st 9 (by decide), dc_all st 0 (by decide), dc_all st 10 (by decide), e1, e2, e3, e4, e5, e6, e7, e8, e9, e0, e10] at h
        exact h)
      have hv3 := dvl3 st
      rw [e3] at hv3
      have hsp : spO st = ⟨v1, v2, v3, v4, v5, v6, v7, v8, v9, decide (v10 = 1)⟩ := by unfold spO; rw [e1, e2, e3, e4, e5, e6, e7, e8, e9, e10]
      clear HBD7 e0 e1 e2 e3 e4 e5 e6 e7 e8 e9 e10
      have HDN := hid (show dst st 11 = dst st 11 from rfl)
      obtain ⟨s9, hs9⟩ : ∃ s, dst st 11 = s := ⟨_, rfl⟩
      have HV11 := hid (show (if dn s9 = 0 ∧ mayP ⟨v1, v2, v3, v4, v5, v6, v7, v8, v9, decide (v10 = 1)⟩ then some (⟨v1, v2, v3, v4, v5, v6, v7, v8, v9, decide (v10 = 1)⟩ : Sp) else none) = V by rw [← HVM.out, dP1, hs9, hsp])
      replace HR7 := hid (show RdO w7 (R + 1) (fun k => R + 1 ≤ k ∧ k < M) g s9 by rw [← hs9]; exact HR7.out)
      clear HVM HDN hs9 hsp
      obtain ⟨x, hx⟩ : ∃ x, decide (v10 = 1) = x := ⟨_, rfl⟩
      rw [hx] at HV11
      have hx2 : (v10 == 1) = x := by rw [← hx]; rfl
      clear hx
      have c11 : w7.cell? ⟨G, 11, none⟩ = some (.int .i64 v10) := HB7.out.cell 11
      have c9 : w7.cell? ⟨G, 9, none⟩ = some (.bool false) := HB7.out.cell 9
      have z9 : w7.frozen? ⟨G, 9, none⟩ = false := HB7.out.frozen 9
      go_upto_region 9 with fail
      have HB8 : Blk (w7.setCell ⟨G, 9, none⟩ (.bool x)) G 98 #[.int .i64 v1, .int .i64 v2, .int .i64 v3, .int .i64 v4, .int .i64 v5, .int .i64 v6, .int .i64 v7, .int .i64 v8, .int .i64 v9, .bool x, .int .i64 v0, .int .i64 v10] := Blk.set_ HB7.out 9 (.bool x)
      have HR8 := hid (RdO.fr HR7.out (Fr.set1 w7 G 9 (.bool x)) (fun k hk e => by have := HGM.out; omega))
      have HF8 := hid (HF7.out.setCell (p := ⟨G, 9, none⟩) (fun h => absurd h (by have := HGM.out; have := HG.out; simp only []; omega)) (.bool x))
      have HQ8 := hid (Blk.far HQ7.out (p := ⟨G, 9, none⟩) (fun h => by have := HGM.out; have := HG.out; simp only [] at h; omega) (.bool x))
      have HM8 := hid (Blk.far HM7.out (p := ⟨G, 9, none⟩) (fun h => by have := HGM.out; simp only [] at h; omega) (.bool x))
      clear HB7 HR7 HF7 HQ7 HM7 c11 c9 z9 m0 hx2
      generalize World.setCell w7 ⟨G, 9, none⟩ (.bool x) = w8 at HB8 HR8 HF8 HQ8 HM8 ⊢
      have m0 := Blk.cell HM8.out 0
      try simp only [List.getElem?_toArray, List.getElem?_cons_zero] at m0
      obtain ⟨d9, hd9⟩ : ∃ d, dn s9 = d := ⟨_, rfl⟩
      rw [hd9] at HV11
      have HD9 := hid hd9
      clear hd9
      have y0 : w8.cell? ⟨G, 0, none⟩ = some (.int .i64 v1) := HB8.cell 0
      have y1 : w8.cell? ⟨G, 1, none⟩ = some (.int .i64 v2) := HB8.cell 1
      have y2 : w8.cell? ⟨G, 2, none⟩ = some (.int .i64 v3) := HB8.cell 2
      have y3 : w8.cell? ⟨G, 3, none⟩ = some (.int .i64 v4) := HB8.cell 3
      have y4 : w8.cell? ⟨G, 4, none⟩ = some (.int .i64 v5) := HB8.cell 4
      have y5 : w8.cell? ⟨G, 5, none⟩ = some (.int .i64 v6) := HB8.cell 5
      have y6 : w8.cell? ⟨G, 6, none⟩ = some (.int .i64 v7) := HB8.cell 6
      have y7 : w8.cell? ⟨G, 7, none⟩ = some (.int .i64 v8) := HB8.cell 7
      have y8 : w8.cell? ⟨G, 8, none⟩ = some (.int .i64 v9) := HB8.cell 8
      have y9 : w8.cell? ⟨G, 9, none⟩ = some (.bool x) := HB8.cell 9
      have HB := hid HB8
      have HS3 := hid hv3
      clear HB8 hv3
      by_cases h0 : d9 = 0
      · subst h0
        by_cases hmy : mayS v1 v2 v3 v4 v5 v6 v7 v8 v9
        · obtain rfl : V = some ⟨v1, v2, v3, v4, v5, v6, v7, v8, v9, x⟩ := by rw [← HV11.out, if_pos ⟨rfl, hmy⟩]
          have HMY := hid hmy
          clear HV11 hmy
          go_wp2_with (first | (go_at_call 59; refine (done_rd g (R + 1) _ s9 _ HR8.out).mono ?_; rintro e' w9 ⟨rfl, rfl⟩; rw [HD9.out]) | (go_at_call 16; go_loud (refine (mayS_ok v1 v2 v3 v4 v5 v6 v7 v8 v9 x _ HS3.out).mono ?_; rintro e' w10 ⟨rfl, f10⟩; rw [decide_eq_true HMY.out]; have HF10 := hid (HF8.out.trans f10); replace HQ8 := hid (Blk.fr HQ8.out f10 (fun h => h)); replace HB := hid (Blk.fr HB.out f10 (fun h => h)); clear f10 y0 y1 y2 y3 y4 y5 y6 y7 y8 y9; have y0 : w10.cell? ⟨G, 0, none⟩ = some (.int .i64 v1) := HB.out.cell 0; have y1 : w10.cell? ⟨G, 1, none⟩ = some (.int .i64 v2) := HB.out.cell 1; have y2 : w10.cell? ⟨G, 2, none⟩ = some (.int .i64 v3) := HB.out.cell 2; have y3 : w10.cell? ⟨G, 3, none⟩ = some (.int .i64 v4) := HB.out.cell 3; have y4 : w10.cell? ⟨G, 4, none⟩ = some (.int .i64 v5) := HB.out.cell 4; have y5 : w10.cell? ⟨G, 5, none⟩ = some (.int .i64 v6) := HB.out.cell 5; have y6 : w10.cell? ⟨G, 6, none⟩ = some (.int .i64 v7) := HB.out.cell 6; have y7 : w10.cell? ⟨G, 7, none⟩ = some (.int .i64 v8) := HB.out.cell 7; have y8 : w10.cell? ⟨G, 8, none⟩ = some (.int .i64 v9) := HB.out.cell 8; have y9 : w10.cell? ⟨G, 9, none⟩ = some (.bool x) := HB.out.cell 9)) | (refine st_S rfl (.tmp 2) (.tmp 36) rfl R rfl rfl (by simp [Value.oneCell']) HQ8.out rfl ?_; intro w11 HQ11 f11; have HF11 := hid (HF10.out.step f11 (fun i hi e => absurd hi (by omega))); clear f11))
          exact bodyPost_ret (v := .tuple #[spv ⟨v1, v2, v3, v4, v5, v6, v7, v8, v9, x⟩, .int .i64 0]) (resS rfl _ _ R ⟨v1, v2, v3, v4, v5, v6, v7, v8, v9, x⟩ (.int .i64 0) rfl rfl HQ11) rfl ⟨rfl, HF11.out⟩
        · obtain rfl : V = none := by rw [← HV11.out, if_neg (fun h => hmy h.2)]
          have HMY := hid hmy
          clear HV11 hmy
          go_wp2_with (first | (go_at_call 59; refine (done_rd g (R + 1) _ s9 _ HR8.out).mono ?_; rintro e' w9 ⟨rfl, rfl⟩; rw [HD9.out]) | (go_at_call 16; go_loud (refine (mayS_ok v1 v2 v3 v4 v5 v6 v7 v8 v9 x _ HS3.out).mono ?_; rintro e' w10 ⟨rfl, f10⟩; rw [decide_eq_false HMY.out]; have HF10 := hid (HF8.out.trans f10); replace HQ8 := hid (Blk.fr HQ8.out f10 (fun h => h)); clear f10)) | (refine st_S rfl (.tmp 2) (.tmp 34) rfl R rfl rfl (by simp [Value.oneCell']) HQ8.out rfl ?_; intro w11 HQ11 f11; have HF11 := hid (HF10.out.step f11 (fun i hi e => absurd hi (by omega))); clear f11))
          exact bodyPost_ret (v := .tuple #[spv rz, .int .i64 80]) (resS rfl _ _ R rz (.int .i64 80) rfl rfl HQ11) rfl ⟨rfl, HF11.out⟩
      · obtain rfl : V = none := by rw [← HV11.out, if_neg (fun h => h0 h.1)]
        have h0b : (d9 == 0) = false := by simpa using h0
        clear HV11
        go_wp2_with (first | (go_at_call 59; refine (done_rd g (R + 1) _ s9 _ HR8.out).mono ?_; rintro e' w9 ⟨rfl, rfl⟩; rw [HD9.out]) | (refine st_S rfl (.tmp 2) (.tmp 34) rfl R rfl rfl (by simp [Value.oneCell']) HQ8.out rfl ?_; intro w11 HQ11 f11; have HF11 := hid (HF8.out.step f11 (fun i hi e => absurd hi (by omega))); clear f11))
        exact bodyPost_ret (v := .tuple #[spv rz, .int .i64 80]) (resS rfl _ _ R rz (.int .i64 80) rfl rfl HQ11) rfl ⟨rfl, HF11.out⟩
    · rw [decide_eq_false hm] at hmk
      obtain rfl : V = none := by rw [← HVD.out, dP, if_neg hm]
      clear hm HVD
      go_wp2_with (first | (go_at_call 56; refine (bytes_rd g 8 (R + 1) _ X _ (by have := HD4.out; omega) (by have := Blk.lt HQ; omega) HS).mono ?_; rintro e' w5 ⟨A5, c5, rfl, hr5, HS, f5⟩; have hcv := run_str (P := Tryd.prog) w5 26 9 5 Tryd.underlying26 Tryd.underlying5 Tryd.underlying9 A5 8 c5 (X.take 8) (by simpa [List.map_take] using hr5); replace FW := hid (FW.out.step f5 (fun i hi h => by have := HG.out.1; omega)); replace HQ := Blk.fr HQ f5 (fun h => by have := HG.out.1; omega); clear f5 hr5 m0) | (refine st_S rfl (.tmp 2) (.tmp 17) rfl R rfl rfl (by simp [Value.oneCell']) HQ rfl ?_; intro w11 HQ11 f11; have HF11 := hid (FW.out.step f11 (fun i hi e => absurd hi (by omega))); clear f11))
      exact bodyPost_ret (v := .tuple #[spv rz, .int .i64 80]) (resS rfl _ _ R rz (.int .i64 80) rfl rfl HQ11) rfl ⟨rfl, HF11.out⟩
  · obtain rfl : V = none := by rw [← hV, dec, if_neg hs]
    have HC : Hid ((l == 128 && ld zs 4 == onN 0 (zs.drop 4)) = false) := hid (by rw [← HLEN.out]; simpa [secOk] using hs)
    clear hV hs
    go_enter Tryd.func19, Tryd.ntmps19
    go_upto_region 1 with fail
    rw [show w.alloc (Obj.cells #[Value.int IntKind.i64 0, Value.int IntKind.i64 0, Value.int IntKind.i64 0, Value.int IntKind.i64 0, Value.int IntKind.i64 0, Value.int IntKind.i64 0, Value.int IntKind.i64 0, Value.int IntKind.i64 0, Value.int IntKind.i64 0, Value.bool false] 25) = w1 from HW1.out]
    try rw [hR]
    go_wp2_with (first | (go_at_call 54; refine (check_any _ _ _ zs _ HI.out HT1.out).mono ?_; rintro e' w2 ⟨rfl, rfl⟩; rw [HC.out]) | (refine st_S rfl (.tmp 2) (.tmp 9) rfl R rfl rfl (by simp [Value.oneCell']) HQ rfl ?_; intro w11 HQ11 f11; have HF11 := hid (FW.out.step f11 (fun i hi e => absurd hi (by omega))); clear f11))
    exact bodyPost_ret (v := .tuple #[spv rz, .int .i64 80]) (resS rfl _ _ R rz (.int .i64 80) rfl rfl HQ11) rfl ⟨rfl, HF11.out⟩
end Go.Proofs.YthhhmhgmmbfjhaaDoor.SuK
