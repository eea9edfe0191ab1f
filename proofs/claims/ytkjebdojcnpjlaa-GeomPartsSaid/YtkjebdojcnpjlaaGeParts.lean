/- The law of the parts of a geometry, walked: superblocks, slots and the ring have nothing in common, and are all conventional sectors. Condition: all numbers are 64 bits. -/
import Derived.Test.YtkjebdojcnpjlaaGeL
import Derived.Test.YtkjebdojcnpjlaaSqS
import Derived.Deep.DeepCutAuto
namespace Go.Proofs.Ytkjebdojcnpjlaa.GeParts
open Go.RowKit MSep MSepC MGeM GeA GeB GeC GeD GeE GeEk GeF MGeG SqU GeH GeL

theorem st_span_step {ops : Array Oper} {o : Oper} {ac : Act} {w : World} {K : Act → World → Prop} {Q : Exit → Act → World → Prop} {E : Prop} (hgd : o.guard = none) (x y : Operand) (ho : o.op = .store 31 x y) (g : Nat) (hx : ac.eval x = .pointer (some ⟨g, 0, none⟩)) {a n a' n' : Int}
    (hy : ac.eval y = .agg #[.int .i64 a', .int .i64 n']) (hg : BS w g a n) (h : ∀ W', BS W' g a' n' → Fr (fun q => q = g) w W' → K (ac.put o.dst undef) W') :
    if Region.wanted o (yielded ops ac.tmps) = true then Oper.wp Try.prog o ac w K Q else E :=
  step_wanted hgd (wp_store_row 31 x y ho g _ hx hy 31 _ hg infoS rfl (by simp [Value.oneCell']) (h _ (Blk.setRow hg _) (Fr.setRow (S := fun q => q = g) (Fr.refl _ _) (fun _ => rfl) _)))
theorem kcs {b c : World} {p : Addr} {v : Value} {g : Nat} (k : Fr (fun q => q = g) b c) (hn : p.block ≠ g) (h : b.cell? p = some v) : c.cell? p = some v := k.cell_some h hn
theorem fr1d (w : World) (A : Obj) : Fr No w (w.alloc A).drew := (fr1 w A).drew
theorem kfae {a b : World} {o : Obj} (h : Hid (Fr No a b.drew)) : Hid (Fr No a (b.alloc o).drew) := hid (h.out.alloc o)
/-- The superblocks, both slots and the ring are all conventional sectors. -/
theorem parts_all {a q C : Int} (ha : 3 ≤ a) (hq : 8 ≤ q) (hC : C ≤ 16384) (h : q = C - (2 + 2 * a)) : MSpM.rset [(0, 2), (2 + 0 * a, a), (2 + 1 * a, a), (2 + 2 * a, q)] = [(0, C)] := by
  have hm : ∀ s ∈ [((0 : Int), (2 : Int)), (2 + 0 * a, a), (2 + 1 * a, a), (2 + 2 * a, q)], MSpM.may s := by
    intro s hs
    simp only [List.mem_cons, List.not_mem_nil, or_false] at hs
    unfold MSpM.may
    rcases hs with rfl | rfl | rfl | rfl <;> (dsimp only; omega)
  obtain ⟨h1, h2, _⟩ := MSpM.rset_ok hm
  refine MSpM.ext _ _ h1 ⟨List.pairwise_singleton _ _, ?_⟩ (fun x => ?_)
  · intro s hs
    simp only [List.mem_singleton] at hs
    subst hs
    unfold MSpM.may
    dsimp only
    omega
  · rw [h2]
    simp only [MSpM.in_cons, MSpM.in_nil, or_false]
    omega
theorem lit4 (w : World) (a b c d e f g h : Int) (G : Nat) (hG : G = w.heap.size) : RdS (w.alloc (.cells #[.int .i64 a, .int .i64 b, .int .i64 c, .int .i64 d, .int .i64 e, .int .i64 f, .int .i64 g, .int .i64 h] 31)) (some ⟨G, 0, none⟩) 4 [(a, b), (c, d), (e, f), (g, h)] := by
  subst hG
  exact ⟨rfl, Rd.lit w [.int .i64 a, .int .i64 b, .int .i64 c, .int .i64 d, .int .i64 e, .int .i64 f, .int .i64 g, .int .i64 h] 31⟩

set_option maxRecDepth 100000 in
set_option maxHeartbeats 20000000 in
theorem law_ok (c s n l k : Int) (w : World) (hs : -9223372036854775808 ≤ s ∧ s ≤ 9223372036854775807) : Calls Try.prog 3 #[.agg #[.int .i64 c, .int .i64 s, .int .i64 n, .int .i64 l, .int .i64 k]] w fun e w' => e = .returned (.bool true) ∧ Fr No w w' := by
  have HL := hid (fun W => rlayout_ok c s n l k W hs)
  have HV := hid lives_ok
  have HF := hid (fr1 w (bg c s n l k))
  have P0 := hid (BG.new w c s n l k)
  by_cases hm : mayG ⟨c, s, n, l, k⟩
  · have hg := good hm.1
    have hq8 := hm.2.1
    rw [show rlo ⟨c, s, n, l, k⟩ = (lay ⟨c, s, n, l, k⟩, true) by unfold rlo; rw [if_pos hm]] at HL
    have HA := hid (fun W => slot_ok c s n l k 0 W hs (by decide))
    have HB := hid (fun W => slot_ok c s n l k 1 W hs (by decide))
    rw [show slo ⟨c, s, n, l, k⟩ 0 = (2 + 0 * (lay ⟨c, s, n, l, k⟩).a, (lay ⟨c, s, n, l, k⟩).a) by unfold slo; rw [if_pos ⟨hm, by decide, by decide⟩]] at HA
    rw [show slo ⟨c, s, n, l, k⟩ 1 = (2 + 1 * (lay ⟨c, s, n, l, k⟩).a, (lay ⟨c, s, n, l, k⟩).a) by unfold slo; rw [if_pos ⟨hm, by decide, by decide⟩]] at HB
    have HR0 := hid (fun W => ring_ok c s n l k 0 W hs (by decide))
    rw [show rio ⟨c, s, n, l, k⟩ 0 = (lay ⟨c, s, n, l, k⟩).r by unfold rio; rw [if_pos ⟨hm, by decide⟩]; simp] at HR0
    have HR1 := hid (fun W => ring_ok c s n l k ((lay ⟨c, s, n, l, k⟩).q - 1) W hs (by have := hg.q0; have := hg.r0; have := hg.a0; have := hg.C1; omega))
    rw [show rio ⟨c, s, n, l, k⟩ ((lay ⟨c, s, n, l, k⟩).q - 1) = (lay ⟨c, s, n, l, k⟩).r + ((lay ⟨c, s, n, l, k⟩).q - 1) by unfold rio; rw [if_pos ⟨hm, by omega⟩, Int.emod_eq_of_lt (by omega) (by omega)]] at HR1
    have HR2 := hid (fun W => ring_ok c s n l k (lay ⟨c, s, n, l, k⟩).q W hs (by have := hg.q0; have := hg.r0; have := hg.a0; have := hg.C1; omega))
    rw [show rio ⟨c, s, n, l, k⟩ (lay ⟨c, s, n, l, k⟩).q = (lay ⟨c, s, n, l, k⟩).r by unfold rio; rw [if_pos ⟨hm, by omega⟩, Int.emod_self]; simp] at HR2
    obtain ⟨y, hy⟩ : ∃ y, lay ⟨c, s, n, l, k⟩ = y := ⟨_, rfl⟩
    rw [hy] at HL HA HB HR0 HR1 HR2 hg hq8
    obtain ⟨a, r, q, b, d, t, x, u⟩ := y
    obtain ⟨hC, C0, C1, a0, a1, a2, a3, r0, q0, b0, b1, b2, d0, d1, d2, t0, t1, t2, x0, x1, u0, u1, u2, u3⟩ := hg
    dsimp only at HL HA HB HR0 HR1 HR2 hq8 C0 C1 a0 a1 a2 a3 r0 q0
    obtain ⟨C, hC'⟩ : ∃ C, c * n = C := ⟨_, rfl⟩
    have hCC : wrap64 (c * n) = C := by rw [hC']; exact w64 _ (by rw [hC'] at C0 C1; omega)
    rw [hC'] at C0 C1 a2 a3 q0
    have HST := hid (parts_all (C := C) a0 hq8 C1 (by omega))
    rw [← r0] at HST
    have s1 : (a + a + q + 2 == C) = true := by simp; omega
    have s1' : a + a + q + 2 = C := by omega
    have s2 : (r + (q - 1) == C - 1) = true := by simp; omega
    have s2' : r + (q - 1) = C - 1 := by omega
    have s3 : wrap64 (C - 1) = C - 1 := w64 _ (by omega)
    have v0 : IntKind.i64.wrap (c * n) = C := by rw [hC', IntKind.wrap_i64]; omega
    have v1 : IntKind.i64.wrap (C - 1) = C - 1 := by rw [IntKind.wrap_i64]; omega
    have v2 : IntKind.i64.wrap (q - 1) = q - 1 := by rw [IntKind.wrap_i64]; omega
    have v3 : IntKind.i64.wrap (a + a) = a + a := by rw [IntKind.wrap_i64]; omega
    have v4 : IntKind.i64.wrap (a + a + q) = a + a + q := by rw [IntKind.wrap_i64]; omega
    have v5 : IntKind.i64.wrap C = C := by rw [IntKind.wrap_i64]; omega
    have s4 : wrap64 (q - 1) = q - 1 := w64 _ (by omega)
    have s5 : wrap64 (a + a) = a + a := w64 _ (by omega)
    have s6 : wrap64 (a + a + q) = a + a + q := w64 _ (by omega)
    have s7 : wrap64 (a + a + q + 2) = C := by rw [s1']; exact w64 _ (by omega)
    obtain ⟨Z0, hZ0⟩ : ∃ Z, 2 + 0 * a = Z := ⟨_, rfl⟩
    obtain ⟨Z1, hZ1⟩ : ∃ Z, 2 + 1 * a = Z := ⟨_, rfl⟩
    rw [hZ0] at HA HST
    rw [hZ1] at HB HST
    have HZM := hid (show ∀ v ∈ [((0 : Int), (2 : Int)), (Z0, a), (Z1, a), (r, q)], MSpM.may v by intro v hv; simp only [List.mem_cons, List.not_mem_nil, or_false] at hv; unfold MSpM.may; rcases hv with rfl | rfl | rfl | rfl <;> (dsimp only; omega))
    clear hC hC' C0 C1 a0 a1 a2 a3 r0 q0 b0 b1 b2 d0 d1 d2 t0 t1 t2 x0 x1 u0 u1 u2 u3 hy hm hq8 hZ0 hZ1
    go_enter Try.func3, Try.ntmps3
    go_wp2_with ((with_reducible refine ld_geom rfl (.tmp 1) rfl w.heap.size ?_ P0.out ?_); · rfl)
    refine (HL.out _).mono ?_
    rintro e w1 ⟨rfl, f1⟩
    have S1 : w.heap.size + 1 ≤ w1.heap.size := by have := f1.size; simp at this; omega
    have FW := hid ((HF.out.trans f1).alloc (by_ a r q b d t x u))
    have P0 := hid (show BG (w1.alloc (by_ a r q b d t x u)) w.heap.size c s n l k from (P0.out.fr f1 : Blk _ _ _ _).alloc _)
    have P2 := hid (BL.new w1 a r q b d t x u)
    clear f1 HL HF
    go_upto_region 4 with fail
    obtain ⟨wa, hwa⟩ : ∃ wa, w1.alloc (by_ a r q b d t x u) = wa := ⟨_, rfl⟩
    have S2 : w1.heap.size < wa.heap.size := by rw [← hwa]; simp
    rw [hwa] at FW P0 P2
    rw [hwa]
    clear hwa
    go_cut [5, 6] (fun x5 x6 wx => ∃ m5 m6 : Nat, x5 = .pointer (some ⟨m5, 0, none⟩) ∧ x6 = .pointer (some ⟨m6, 0, none⟩) ∧ BS wx m5 Z0 a ∧ BS wx m6 Z1 a ∧ BG wx w.heap.size c s n l k ∧ BL wx w1.heap.size a r q b d t x u ∧ Fr No w wx)
    case first =>
      clear HR0 HR1 HR2 HST HZM HV s1 s1' s2 s2' s3 s4 s5 s6 s7 v0 v1 v2 v3 v4 v5 hCC
      obtain ⟨c0, c1, c2, c3, c4⟩ := P0.out.cells
      have P0 := hid (show BG wa.drew _ _ _ _ _ _ from P0.out)
      have P2 := hid (show BL wa.drew _ _ _ _ _ _ _ _ _ from P2.out)
      have FW := kd FW
      refine wp_region_noPanic ?_
      refine wp_region_held_drew (S := (fun W' => W'.cell? ⟨w.heap.size, 0, none⟩ = some (.int .i64 c) ∧ W'.cell? ⟨w.heap.size, 1, none⟩ = some (.int .i64 s) ∧ W'.cell? ⟨w.heap.size, 2, none⟩ = some (.int .i64 n) ∧ W'.cell? ⟨w.heap.size, 3, none⟩ = some (.int .i64 l) ∧ W'.cell? ⟨w.heap.size, 4, none⟩ = some (.int .i64 k) ∧ Hid (Fr No w W'))) (by kernel_rfl) ?_ (fun hHeld => ?_)
      · (try dsimp only); (first | (go_split_ands; exact ⟨kc f (by assumption), kc f (by assumption), kc f (by assumption), kc f (by assumption), kc f (by assumption), by assumption⟩) | (go_split_ands; exact ⟨(by assumption), (by assumption), (by assumption), (by assumption), (by assumption), by assumption⟩) | (go_split_ands; exact ⟨kc (fr1 _ _) (by assumption), kc (fr1 _ _) (by assumption), kc (fr1 _ _) (by assumption), kc (fr1 _ _) (by assumption), kc (fr1 _ _) (by assumption), kfa (by assumption)⟩) | (go_split_ands; exact ⟨kc (fr1d _ _) (by assumption), kc (fr1d _ _) (by assumption), kc (fr1d _ _) (by assumption), kc (fr1d _ _) (by assumption), kc (fr1d _ _) (by assumption), kfae (by assumption)⟩) | (exact ⟨kcs hf2 (by simp only []; omega) hHeld.1, kcs hf2 (by simp only []; omega) hHeld.2.1, kcs hf2 (by simp only []; omega) hHeld.2.2.1, kcs hf2 (by simp only []; omega) hHeld.2.2.2.1, kcs hf2 (by simp only []; omega) hHeld.2.2.2.2.1, kfg (by omega) hHeld.2.2.2.2.2 hf2⟩))
      refine wpAnyH_take (i := 0) (v := ?v1) rfl (by kernel_rfl) (by kernel_rfl) (by kernel_rfl) (fun _ _ _ h => h) (Or.inl ⟨by kernel_rfl, ?y1⟩) (by assumption) ?_
      case y1 => (intro w hSw; (try dsimp only at hSw); go_simp; all_goals with_reducible rfl)
      try simp only [Act.put, List.getElem_toArray, List.getElem_cons_zero, List.setIfInBounds_toArray, List.set_cons_zero, List.set_cons_succ]
      refine wpAnyH_take (i := 2) (v := ?v2) rfl (by kernel_rfl) (by kernel_rfl) (by kernel_rfl) (fun _ _ _ h => h) (Or.inl ⟨by kernel_rfl, ?y2⟩) (by assumption) ?_
      case y2 => (intro w hSw; (try dsimp only at hSw); go_simp; all_goals with_reducible rfl)
      try simp only [Act.put, List.getElem_toArray, List.getElem_cons_succ, List.getElem_cons_zero, List.setIfInBounds_toArray, List.set_cons_zero, List.set_cons_succ]
      refine wpAnyH_ready (rs := [1, 4, 5]) (by kernel_rfl) (by simp) (AllReadyH.cons rfl (fun K hK => ?_) (AllReadyH.cons rfl (fun K hK => ?_) (AllReadyH.cons rfl (fun K hK => ?_) AllReadyH.nil)))
      · go_simp
        go_at_call 7
        refine (HA.out _).mono ?_
        rintro e W1 ⟨rfl, f⟩
        have FW := kf f hHeld.2.2.2.2.2
        have P0 := hid (P0.out.fr f)
        have P2 := hid (P2.out.fr f)
        (try have M5 := hid (BS.fr M5.out f))
        (try have M6 := hid (BS.fr M6.out f))
        have SZ := f.size
        (try simp at SZ)
        dsimp only
        refine hK.out _ _ ?_ (fun hHeld => ?_)
        · (try dsimp only); (first | (go_split_ands; exact ⟨kc f (by assumption), kc f (by assumption), kc f (by assumption), kc f (by assumption), kc f (by assumption), by assumption⟩) | (go_split_ands; exact ⟨(by assumption), (by assumption), (by assumption), (by assumption), (by assumption), by assumption⟩) | (go_split_ands; exact ⟨kc (fr1 _ _) (by assumption), kc (fr1 _ _) (by assumption), kc (fr1 _ _) (by assumption), kc (fr1 _ _) (by assumption), kc (fr1 _ _) (by assumption), kfa (by assumption)⟩) | (go_split_ands; exact ⟨kc (fr1d _ _) (by assumption), kc (fr1d _ _) (by assumption), kc (fr1d _ _) (by assumption), kc (fr1d _ _) (by assumption), kc (fr1d _ _) (by assumption), kfae (by assumption)⟩) | (exact ⟨kcs hf2 (by simp only []; omega) hHeld.1, kcs hf2 (by simp only []; omega) hHeld.2.1, kcs hf2 (by simp only []; omega) hHeld.2.2.1, kcs hf2 (by simp only []; omega) hHeld.2.2.2.1, kcs hf2 (by simp only []; omega) hHeld.2.2.2.2.1, kfg (by omega) hHeld.2.2.2.2.2 hf2⟩))
        clear hK K
        try simp only [Act.put, List.getElem_toArray, List.getElem_cons_succ, List.getElem_cons_zero, List.setIfInBounds_toArray, List.set_cons_zero, List.set_cons_succ]
        refine wpAnyH_ready (rs := [3, 4, 5]) (by kernel_rfl) (by simp) (AllReadyH.cons rfl (fun K hK => ?_) (AllReadyH.cons rfl (fun K hK => ?_) (AllReadyH.cons rfl (fun K hK => ?_) AllReadyH.nil)))
        · go_simp
          go_at_call 7
          refine (HB.out _).mono ?_
          rintro e W1 ⟨rfl, f⟩
          have FW := kf f hHeld.2.2.2.2.2
          have P0 := hid (P0.out.fr f)
          have P2 := hid (P2.out.fr f)
          (try have M5 := hid (BS.fr M5.out f))
          (try have M6 := hid (BS.fr M6.out f))
          have SZ := f.size
          (try simp at SZ)
          dsimp only
          refine hK.out _ _ ?_ (fun hHeld => ?_)
          · (try dsimp only); (first | (go_split_ands; exact ⟨kc f (by assumption), kc f (by assumption), kc f (by assumption), kc f (by assumption), kc f (by assumption), by assumption⟩) | (go_split_ands; exact ⟨(by assumption), (by assumption), (by assumption), (by assumption), (by assumption), by assumption⟩) | (go_split_ands; exact ⟨kc (fr1 _ _) (by assumption), kc (fr1 _ _) (by assumption), kc (fr1 _ _) (by assumption), kc (fr1 _ _) (by assumption), kc (fr1 _ _) (by assumption), kfa (by assumption)⟩) | (go_split_ands; exact ⟨kc (fr1d _ _) (by assumption), kc (fr1d _ _) (by assumption), kc (fr1d _ _) (by assumption), kc (fr1d _ _) (by assumption), kc (fr1d _ _) (by assumption), kfae (by assumption)⟩) | (exact ⟨kcs hf2 (by simp only []; omega) hHeld.1, kcs hf2 (by simp only []; omega) hHeld.2.1, kcs hf2 (by simp only []; omega) hHeld.2.2.1, kcs hf2 (by simp only []; omega) hHeld.2.2.2.1, kcs hf2 (by simp only []; omega) hHeld.2.2.2.2.1, kfg (by omega) hHeld.2.2.2.2.2 hf2⟩))
          clear hK K
          try simp only [Act.put, List.getElem_toArray, List.getElem_cons_succ, List.getElem_cons_zero, List.setIfInBounds_toArray, List.set_cons_zero, List.set_cons_succ]
          refine wpAnyH_ready (rs := [4, 5]) (by kernel_rfl) (by simp) (AllReadyH.cons rfl (fun K hK => ?_) (AllReadyH.cons rfl (fun K hK => ?_) AllReadyH.nil))
          · go_simp
            refine hK.out _ _ ?_ (fun hHeld => ?_)
            · (try dsimp only); (first | (go_split_ands; exact ⟨kc f (by assumption), kc f (by assumption), kc f (by assumption), kc f (by assumption), kc f (by assumption), by assumption⟩) | (go_split_ands; exact ⟨(by assumption), (by assumption), (by assumption), (by assumption), (by assumption), by assumption⟩) | (go_split_ands; exact ⟨kc (fr1 _ _) (by assumption), kc (fr1 _ _) (by assumption), kc (fr1 _ _) (by assumption), kc (fr1 _ _) (by assumption), kc (fr1 _ _) (by assumption), kfa (by assumption)⟩) | (go_split_ands; exact ⟨kc (fr1d _ _) (by assumption), kc (fr1d _ _) (by assumption), kc (fr1d _ _) (by assumption), kc (fr1d _ _) (by assumption), kc (fr1d _ _) (by assumption), kfae (by assumption)⟩) | (exact ⟨kcs hf2 (by simp only []; omega) hHeld.1, kcs hf2 (by simp only []; omega) hHeld.2.1, kcs hf2 (by simp only []; omega) hHeld.2.2.1, kcs hf2 (by simp only []; omega) hHeld.2.2.2.1, kcs hf2 (by simp only []; omega) hHeld.2.2.2.2.1, kfg (by omega) hHeld.2.2.2.2.2 hf2⟩))
            clear hK K
            try simp only [Act.put, List.getElem_toArray, List.getElem_cons_succ, List.getElem_cons_zero, List.setIfInBounds_toArray, List.set_cons_zero, List.set_cons_succ]
            have P0 := hid (show BG (W1.alloc (bs_ 0 0)) w.heap.size c s n l k from Blk.alloc P0.out (bs_ 0 0)); have P2 := hid (show BL (W1.alloc (bs_ 0 0)) w1.heap.size a r q b d t x u from Blk.alloc P2.out (bs_ 0 0)); have M5 := hid (show BS (W1.alloc (bs_ 0 0)) (W1.heap.size) 0 0 from by have := BS.new (W1) 0 0; simpa using this); have FW := hHeld.2.2.2.2.2
            refine wpAnyH_ready (rs := [5]) (by kernel_rfl) (by simp) (AllReadyH.cons rfl (fun K hK => ?_) AllReadyH.nil)
            go_simp
            refine hK.out _ _ ?_ (fun hHeld => ?_)
            · (try dsimp only); (first | (go_split_ands; exact ⟨kc f (by assumption), kc f (by assumption), kc f (by assumption), kc f (by assumption), kc f (by assumption), by assumption⟩) | (go_split_ands; exact ⟨(by assumption), (by assumption), (by assumption), (by assumption), (by assumption), by assumption⟩) | (go_split_ands; exact ⟨kc (fr1 _ _) (by assumption), kc (fr1 _ _) (by assumption), kc (fr1 _ _) (by assumption), kc (fr1 _ _) (by assumption), kc (fr1 _ _) (by assumption), kfa (by assumption)⟩) | (go_split_ands; exact ⟨kc (fr1d _ _) (by assumption), kc (fr1d _ _) (by assumption), kc (fr1d _ _) (by assumption), kc (fr1d _ _) (by assumption), kc (fr1d _ _) (by assumption), kfae (by assumption)⟩) | (exact ⟨kcs hf2 (by simp only []; omega) hHeld.1, kcs hf2 (by simp only []; omega) hHeld.2.1, kcs hf2 (by simp only []; omega) hHeld.2.2.1, kcs hf2 (by simp only []; omega) hHeld.2.2.2.1, kcs hf2 (by simp only []; omega) hHeld.2.2.2.2.1, kfg (by omega) hHeld.2.2.2.2.2 hf2⟩))
            clear hK K
            try simp only [Act.put, List.getElem_toArray, List.getElem_cons_succ, List.getElem_cons_zero, List.setIfInBounds_toArray, List.set_cons_zero, List.set_cons_succ]
            have P0 := hid (show BG ((W1.alloc (bs_ 0 0)).alloc (bs_ 0 0)) w.heap.size c s n l k from Blk.alloc P0.out (bs_ 0 0)); have P2 := hid (show BL ((W1.alloc (bs_ 0 0)).alloc (bs_ 0 0)) w1.heap.size a r q b d t x u from Blk.alloc P2.out (bs_ 0 0)); have LT := Blk.lt M5.out; have M5 := hid (show BS ((W1.alloc (bs_ 0 0)).alloc (bs_ 0 0)) _ 0 0 from Blk.alloc M5.out (bs_ 0 0)); have M6 := hid (show BS ((W1.alloc (bs_ 0 0)).alloc (bs_ 0 0)) (W1.heap.size + 1) 0 0 from by have := BS.new ((W1.alloc (bs_ 0 0))) 0 0; simpa using this); have FW := hHeld.2.2.2.2.2
            refine wpAnyH_ready (rs := [6]) (by kernel_rfl) (by simp) (AllReadyH.cons rfl (fun K hK => ?_) AllReadyH.nil)
            refine st_span_step rfl (.tmp 5) (.tmp 23) rfl _ rfl (a' := Z0) (n' := a) rfl M5.out ?_
            intro W2 hb2 hf2
            refine hK.out _ _ ?_ (fun hHeld => ?_)
            · (try dsimp only); (first | (go_split_ands; exact ⟨kc f (by assumption), kc f (by assumption), kc f (by assumption), kc f (by assumption), kc f (by assumption), by assumption⟩) | (go_split_ands; exact ⟨(by assumption), (by assumption), (by assumption), (by assumption), (by assumption), by assumption⟩) | (go_split_ands; exact ⟨kc (fr1 _ _) (by assumption), kc (fr1 _ _) (by assumption), kc (fr1 _ _) (by assumption), kc (fr1 _ _) (by assumption), kc (fr1 _ _) (by assumption), kfa (by assumption)⟩) | (go_split_ands; exact ⟨kc (fr1d _ _) (by assumption), kc (fr1d _ _) (by assumption), kc (fr1d _ _) (by assumption), kc (fr1d _ _) (by assumption), kc (fr1d _ _) (by assumption), kfae (by assumption)⟩) | (exact ⟨kcs hf2 (by simp only []; omega) hHeld.1, kcs hf2 (by simp only []; omega) hHeld.2.1, kcs hf2 (by simp only []; omega) hHeld.2.2.1, kcs hf2 (by simp only []; omega) hHeld.2.2.2.1, kcs hf2 (by simp only []; omega) hHeld.2.2.2.2.1, kfg (by omega) hHeld.2.2.2.2.2 hf2⟩))
            clear hK K
            try simp only [Act.put, List.getElem_toArray, List.getElem_cons_succ, List.getElem_cons_zero]
            have P0 := hid (show BG W2 _ _ _ _ _ _ from far_fr P0.out hf2 (by omega)); have P2 := hid (show BL W2 _ _ _ _ _ _ _ _ _ from far_fr P2.out hf2 (by omega)); have M6 := hid (show BS W2 _ _ _ from far_fr M6.out hf2 (by omega)); have M5 := hid hb2; have FW := hHeld.2.2.2.2.2; clear hb2 hf2
            refine wpAnyH_ready (rs := [7]) (by kernel_rfl) (by simp) (AllReadyH.cons rfl (fun K hK => ?_) AllReadyH.nil)
            refine st_span_step rfl (.tmp 6) (.tmp 25) rfl _ rfl (a' := Z1) (n' := a) rfl M6.out ?_
            intro W2 hb2 hf2
            refine hK.out _ _ ?_ (fun hHeld => ?_)
            · (try dsimp only); (first | (go_split_ands; exact ⟨kc f (by assumption), kc f (by assumption), kc f (by assumption), kc f (by assumption), kc f (by assumption), by assumption⟩) | (go_split_ands; exact ⟨(by assumption), (by assumption), (by assumption), (by assumption), (by assumption), by assumption⟩) | (go_split_ands; exact ⟨kc (fr1 _ _) (by assumption), kc (fr1 _ _) (by assumption), kc (fr1 _ _) (by assumption), kc (fr1 _ _) (by assumption), kc (fr1 _ _) (by assumption), kfa (by assumption)⟩) | (go_split_ands; exact ⟨kc (fr1d _ _) (by assumption), kc (fr1d _ _) (by assumption), kc (fr1d _ _) (by assumption), kc (fr1d _ _) (by assumption), kc (fr1d _ _) (by assumption), kfae (by assumption)⟩) | (exact ⟨kcs hf2 (by simp only []; omega) hHeld.1, kcs hf2 (by simp only []; omega) hHeld.2.1, kcs hf2 (by simp only []; omega) hHeld.2.2.1, kcs hf2 (by simp only []; omega) hHeld.2.2.2.1, kcs hf2 (by simp only []; omega) hHeld.2.2.2.2.1, kfg (by omega) hHeld.2.2.2.2.2 hf2⟩))
            clear hK K
            try simp only [Act.put, List.getElem_toArray, List.getElem_cons_succ, List.getElem_cons_zero]
            have P0 := hid (show BG W2 _ _ _ _ _ _ from far_fr P0.out hf2 (by omega)); have P2 := hid (show BL W2 _ _ _ _ _ _ _ _ _ from far_fr P2.out hf2 (by omega)); have M5 := hid (show BS W2 _ _ _ from far_fr M5.out hf2 (by omega)); have M6 := hid hb2; have FW := hHeld.2.2.2.2.2; clear hb2 hf2
            refine wpAnyH_done (by kernel_rfl) ?_ _
            refine NoPanic.normal ?_
            go_wp2_with fail
            go_meet
            case rel => exact ⟨_, _, rfl, rfl, M5.out, M6.out, P0.out, P2.out, FW.out⟩
          · go_simp
            refine hK.out _ _ ?_ (fun hHeld => ?_)
            · (try dsimp only); (first | (go_split_ands; exact ⟨kc f (by assumption), kc f (by assumption), kc f (by assumption), kc f (by assumption), kc f (by assumption), by assumption⟩) | (go_split_ands; exact ⟨(by assumption), (by assumption), (by assumption), (by assumption), (by assumption), by assumption⟩) | (go_split_ands; exact ⟨kc (fr1 _ _) (by assumption), kc (fr1 _ _) (by assumption), kc (fr1 _ _) (by assumption), kc (fr1 _ _) (by assumption), kc (fr1 _ _) (by assumption), kfa (by assumption)⟩) | (go_split_ands; exact ⟨kc (fr1d _ _) (by assumption), kc (fr1d _ _) (by assumption), kc (fr1d _ _) (by assumption), kc (fr1d _ _) (by assumption), kc (fr1d _ _) (by assumption), kfae (by assumption)⟩) | (exact ⟨kcs hf2 (by simp only []; omega) hHeld.1, kcs hf2 (by simp only []; omega) hHeld.2.1, kcs hf2 (by simp only []; omega) hHeld.2.2.1, kcs hf2 (by simp only []; omega) hHeld.2.2.2.1, kcs hf2 (by simp only []; omega) hHeld.2.2.2.2.1, kfg (by omega) hHeld.2.2.2.2.2 hf2⟩))
            clear hK K
            try simp only [Act.put, List.getElem_toArray, List.getElem_cons_succ, List.getElem_cons_zero, List.setIfInBounds_toArray, List.set_cons_zero, List.set_cons_succ]
            have P0 := hid (show BG (W1.alloc (bs_ 0 0)) w.heap.size c s n l k from Blk.alloc P0.out (bs_ 0 0)); have P2 := hid (show BL (W1.alloc (bs_ 0 0)) w1.heap.size a r q b d t x u from Blk.alloc P2.out (bs_ 0 0)); have M6 := hid (show BS (W1.alloc (bs_ 0 0)) (W1.heap.size) 0 0 from by have := BS.new (W1) 0 0; simpa using this); have FW := hHeld.2.2.2.2.2
            refine wpAnyH_ready (rs := [4]) (by kernel_rfl) (by simp) (AllReadyH.cons rfl (fun K hK => ?_) AllReadyH.nil)
            go_simp
            refine hK.out _ _ ?_ (fun hHeld => ?_)
            · (try dsimp only); (first | (go_split_ands; exact ⟨kc f (by assumption), kc f (by assumption), kc f (by assumption), kc f (by assumption), kc f (by assumption), by assumption⟩) | (go_split_ands; exact ⟨(by assumption), (by assumption), (by assumption), (by assumption), (by assumption), by assumption⟩) | (go_split_ands; exact ⟨kc (fr1 _ _) (by assumption), kc (fr1 _ _) (by assumption), kc (fr1 _ _) (by assumption), kc (fr1 _ _) (by assumption), kc (fr1 _ _) (by assumption), kfa (by assumption)⟩) | (go_split_ands; exact ⟨kc (fr1d _ _) (by assumption), kc (fr1d _ _) (by assumption), kc (fr1d _ _) (by assumption), kc (fr1d _ _) (by assumption), kc (fr1d _ _) (by assumption), kfae (by assumption)⟩) | (exact ⟨kcs hf2 (by simp only []; omega) hHeld.1, kcs hf2 (by simp only []; omega) hHeld.2.1, kcs hf2 (by simp only []; omega) hHeld.2.2.1, kcs hf2 (by simp only []; omega) hHeld.2.2.2.1, kcs hf2 (by simp only []; omega) hHeld.2.2.2.2.1, kfg (by omega) hHeld.2.2.2.2.2 hf2⟩))
            clear hK K
            try simp only [Act.put, List.getElem_toArray, List.getElem_cons_succ, List.getElem_cons_zero, List.setIfInBounds_toArray, List.set_cons_zero, List.set_cons_succ]
            have P0 := hid (show BG ((W1.alloc (bs_ 0 0)).alloc (bs_ 0 0)) w.heap.size c s n l k from Blk.alloc P0.out (bs_ 0 0)); have P2 := hid (show BL ((W1.alloc (bs_ 0 0)).alloc (bs_ 0 0)) w1.heap.size a r q b d t x u from Blk.alloc P2.out (bs_ 0 0)); have LT := Blk.lt M6.out; have M6 := hid (show BS ((W1.alloc (bs_ 0 0)).alloc (bs_ 0 0)) _ 0 0 from Blk.alloc M6.out (bs_ 0 0)); have M5 := hid (show BS ((W1.alloc (bs_ 0 0)).alloc (bs_ 0 0)) (W1.heap.size + 1) 0 0 from by have := BS.new ((W1.alloc (bs_ 0 0))) 0 0; simpa using this); have FW := hHeld.2.2.2.2.2
            refine wpAnyH_ready (rs := [6]) (by kernel_rfl) (by simp) (AllReadyH.cons rfl (fun K hK => ?_) AllReadyH.nil)
            refine st_span_step rfl (.tmp 5) (.tmp 23) rfl _ rfl (a' := Z0) (n' := a) rfl M5.out ?_
            intro W2 hb2 hf2
            refine hK.out _ _ ?_ (fun hHeld => ?_)
            · (try dsimp only); (first | (go_split_ands; exact ⟨kc f (by assumption), kc f (by assumption), kc f (by assumption), kc f (by assumption), kc f (by assumption), by assumption⟩) | (go_split_ands; exact ⟨(by assumption), (by assumption), (by assumption), (by assumption), (by assumption), by assumption⟩) | (go_split_ands; exact ⟨kc (fr1 _ _) (by assumption), kc (fr1 _ _) (by assumption), kc (fr1 _ _) (by assumption), kc (fr1 _ _) (by assumption), kc (fr1 _ _) (by assumption), kfa (by assumption)⟩) | (go_split_ands; exact ⟨kc (fr1d _ _) (by assumption), kc (fr1d _ _) (by assumption), kc (fr1d _ _) (by assumption), kc (fr1d _ _) (by assumption), kc (fr1d _ _) (by assumption), kfae (by assumption)⟩) | (exact ⟨kcs hf2 (by simp only []; omega) hHeld.1, kcs hf2 (by simp only []; omega) hHeld.2.1, kcs hf2 (by simp only []; omega) hHeld.2.2.1, kcs hf2 (by simp only []; omega) hHeld.2.2.2.1, kcs hf2 (by simp only []; omega) hHeld.2.2.2.2.1, kfg (by omega) hHeld.2.2.2.2.2 hf2⟩))
            clear hK K
            try simp only [Act.put, List.getElem_toArray, List.getElem_cons_succ, List.getElem_cons_zero]
            have P0 := hid (show BG W2 _ _ _ _ _ _ from far_fr P0.out hf2 (by omega)); have P2 := hid (show BL W2 _ _ _ _ _ _ _ _ _ from far_fr P2.out hf2 (by omega)); have M6 := hid (show BS W2 _ _ _ from far_fr M6.out hf2 (by omega)); have M5 := hid hb2; have FW := hHeld.2.2.2.2.2; clear hb2 hf2
            refine wpAnyH_ready (rs := [7]) (by kernel_rfl) (by simp) (AllReadyH.cons rfl (fun K hK => ?_) AllReadyH.nil)
            refine st_span_step rfl (.tmp 6) (.tmp 25) rfl _ rfl (a' := Z1) (n' := a) rfl M6.out ?_
            intro W2 hb2 hf2
            refine hK.out _ _ ?_ (fun hHeld => ?_)
            · (try dsimp only); (first | (go_split_ands; exact ⟨kc f (by assumption), kc f (by assumption), kc f (by assumption), kc f (by assumption), kc f (by assumption), by assumption⟩) | (go_split_ands; exact ⟨(by assumption), (by assumption), (by assumption), (by assumption), (by assumption), by assumption⟩) | (go_split_ands; exact ⟨kc (fr1 _ _) (by assumption), kc (fr1 _ _) (by assumption), kc (fr1 _ _) (by assumption), kc (fr1 _ _) (by assumption), kc (fr1 _ _) (by assumption), kfa (by assumption)⟩) | (go_split_ands; exact ⟨kc (fr1d _ _) (by assumption), kc (fr1d _ _) (by assumption), kc (fr1d _ _) (by assumption), kc (fr1d _ _) (by assumption), kc (fr1d _ _) (by assumption), kfae (by assumption)⟩) | (exact ⟨kcs hf2 (by simp only []; omega) hHeld.1, kcs hf2 (by simp only []; omega) hHeld.2.1, kcs hf2 (by simp only []; omega) hHeld.2.2.1, kcs hf2 (by simp only []; omega) hHeld.2.2.2.1, kcs hf2 (by simp only []; omega) hHeld.2.2.2.2.1, kfg (by omega) hHeld.2.2.2.2.2 hf2⟩))
            clear hK K
            try simp only [Act.put, List.getElem_toArray, List.getElem_cons_succ, List.getElem_cons_zero]
            have P0 := hid (show BG W2 _ _ _ _ _ _ from far_fr P0.out hf2 (by omega)); have P2 := hid (show BL W2 _ _ _ _ _ _ _ _ _ from far_fr P2.out hf2 (by omega)); have M5 := hid (show BS W2 _ _ _ from far_fr M5.out hf2 (by omega)); have M6 := hid hb2; have FW := hHeld.2.2.2.2.2; clear hb2 hf2
            refine wpAnyH_done (by kernel_rfl) ?_ _
            refine NoPanic.normal ?_
            go_wp2_with fail
            go_meet
            case rel => exact ⟨_, _, rfl, rfl, M5.out, M6.out, P0.out, P2.out, FW.out⟩
        · go_simp
          refine hK.out _ _ ?_ (fun hHeld => ?_)
          · (try dsimp only); (first | (go_split_ands; exact ⟨kc f (by assumption), kc f (by assumption), kc f (by assumption), kc f (by assumption), kc f (by assumption), by assumption⟩) | (go_split_ands; exact ⟨(by assumption), (by assumption), (by assumption), (by assumption), (by assumption), by assumption⟩) | (go_split_ands; exact ⟨kc (fr1 _ _) (by assumption), kc (fr1 _ _) (by assumption), kc (fr1 _ _) (by assumption), kc (fr1 _ _) (by assumption), kc (fr1 _ _) (by assumption), kfa (by assumption)⟩) | (go_split_ands; exact ⟨kc (fr1d _ _) (by assumption), kc (fr1d _ _) (by assumption), kc (fr1d _ _) (by assumption), kc (fr1d _ _) (by assumption), kc (fr1d _ _) (by assumption), kfae (by assumption)⟩) | (exact ⟨kcs hf2 (by simp only []; omega) hHeld.1, kcs hf2 (by simp only []; omega) hHeld.2.1, kcs hf2 (by simp only []; omega) hHeld.2.2.1, kcs hf2 (by simp only []; omega) hHeld.2.2.2.1, kcs hf2 (by simp only []; omega) hHeld.2.2.2.2.1, kfg (by omega) hHeld.2.2.2.2.2 hf2⟩))
          clear hK K
          try simp only [Act.put, List.getElem_toArray, List.getElem_cons_succ, List.getElem_cons_zero, List.setIfInBounds_toArray, List.set_cons_zero, List.set_cons_succ]
          have P0 := hid (show BG (W1.alloc (bs_ 0 0)) w.heap.size c s n l k from Blk.alloc P0.out (bs_ 0 0)); have P2 := hid (show BL (W1.alloc (bs_ 0 0)) w1.heap.size a r q b d t x u from Blk.alloc P2.out (bs_ 0 0)); have M5 := hid (show BS (W1.alloc (bs_ 0 0)) (W1.heap.size) 0 0 from by have := BS.new (W1) 0 0; simpa using this); have FW := hHeld.2.2.2.2.2
          refine wpAnyH_ready (rs := [3, 5]) (by kernel_rfl) (by simp) (AllReadyH.cons rfl (fun K hK => ?_) (AllReadyH.cons rfl (fun K hK => ?_) AllReadyH.nil))
          · go_simp
            go_at_call 7
            refine (HB.out _).mono ?_
            rintro e W1 ⟨rfl, f⟩
            have FW := kf f hHeld.2.2.2.2.2
            have P0 := hid (P0.out.fr f)
            have P2 := hid (P2.out.fr f)
            (try have M5 := hid (BS.fr M5.out f))
            (try have M6 := hid (BS.fr M6.out f))
            have SZ := f.size
            (try simp at SZ)
            dsimp only
            refine hK.out _ _ ?_ (fun hHeld => ?_)
            · (try dsimp only); (first | (go_split_ands; exact ⟨kc f (by assumption), kc f (by assumption), kc f (by assumption), kc f (by assumption), kc f (by assumption), by assumption⟩) | (go_split_ands; exact ⟨(by assumption), (by assumption), (by assumption), (by assumption), (by assumption), by assumption⟩) | (go_split_ands; exact ⟨kc (fr1 _ _) (by assumption), kc (fr1 _ _) (by assumption), kc (fr1 _ _) (by assumption), kc (fr1 _ _) (by assumption), kc (fr1 _ _) (by assumption), kfa (by assumption)⟩) | (go_split_ands; exact ⟨kc (fr1d _ _) (by assumption), kc (fr1d _ _) (by assumption), kc (fr1d _ _) (by assumption), kc (fr1d _ _) (by assumption), kc (fr1d _ _) (by assumption), kfae (by assumption)⟩) | (exact ⟨kcs hf2 (by simp only []; omega) hHeld.1, kcs hf2 (by simp only []; omega) hHeld.2.1, kcs hf2 (by simp only []; omega) hHeld.2.2.1, kcs hf2 (by simp only []; omega) hHeld.2.2.2.1, kcs hf2 (by simp only []; omega) hHeld.2.2.2.2.1, kfg (by omega) hHeld.2.2.2.2.2 hf2⟩))
            clear hK K
            try simp only [Act.put, List.getElem_toArray, List.getElem_cons_succ, List.getElem_cons_zero, List.setIfInBounds_toArray, List.set_cons_zero, List.set_cons_succ]
            refine wpAnyH_ready (rs := [5]) (by kernel_rfl) (by simp) (AllReadyH.cons rfl (fun K hK => ?_) AllReadyH.nil)
            go_simp
            refine hK.out _ _ ?_ (fun hHeld => ?_)
            · (try dsimp only); (first | (go_split_ands; exact ⟨kc f (by assumption), kc f (by assumption), kc f (by assumption), kc f (by assumption), kc f (by assumption), by assumption⟩) | (go_split_ands; exact ⟨(by assumption), (by assumption), (by assumption), (by assumption), (by assumption), by assumption⟩) | (go_split_ands; exact ⟨kc (fr1 _ _) (by assumption), kc (fr1 _ _) (by assumption), kc (fr1 _ _) (by assumption), kc (fr1 _ _) (by assumption), kc (fr1 _ _) (by assumption), kfa (by assumption)⟩) | (go_split_ands; exact ⟨kc (fr1d _ _) (by assumption), kc (fr1d _ _) (by assumption), kc (fr1d _ _) (by assumption), kc (fr1d _ _) (by assumption), kc (fr1d _ _) (by assumption), kfae (by assumption)⟩) | (exact ⟨kcs hf2 (by simp only []; omega) hHeld.1, kcs hf2 (by simp only []; omega) hHeld.2.1, kcs hf2 (by simp only []; omega) hHeld.2.2.1, kcs hf2 (by simp only []; omega) hHeld.2.2.2.1, kcs hf2 (by simp only []; omega) hHeld.2.2.2.2.1, kfg (by omega) hHeld.2.2.2.2.2 hf2⟩))
            clear hK K
            try simp only [Act.put, List.getElem_toArray, List.getElem_cons_succ, List.getElem_cons_zero, List.setIfInBounds_toArray, List.set_cons_zero, List.set_cons_succ]
            have P0 := hid (show BG (W1.alloc (bs_ 0 0)) w.heap.size c s n l k from Blk.alloc P0.out (bs_ 0 0)); have P2 := hid (show BL (W1.alloc (bs_ 0 0)) w1.heap.size a r q b d t x u from Blk.alloc P2.out (bs_ 0 0)); have LT := Blk.lt M5.out; have M5 := hid (show BS (W1.alloc (bs_ 0 0)) _ 0 0 from Blk.alloc M5.out (bs_ 0 0)); have M6 := hid (show BS (W1.alloc (bs_ 0 0)) (W1.heap.size) 0 0 from by have := BS.new (W1) 0 0; simpa using this); have FW := hHeld.2.2.2.2.2
            refine wpAnyH_ready (rs := [6]) (by kernel_rfl) (by simp) (AllReadyH.cons rfl (fun K hK => ?_) AllReadyH.nil)
            refine st_span_step rfl (.tmp 5) (.tmp 23) rfl _ rfl (a' := Z0) (n' := a) rfl M5.out ?_
            intro W2 hb2 hf2
            refine hK.out _ _ ?_ (fun hHeld => ?_)
            · (try dsimp only); (first | (go_split_ands; exact ⟨kc f (by assumption), kc f (by assumption), kc f (by assumption), kc f (by assumption), kc f (by assumption), by assumption⟩) | (go_split_ands; exact ⟨(by assumption), (by assumption), (by assumption), (by assumption), (by assumption), by assumption⟩) | (go_split_ands; exact ⟨kc (fr1 _ _) (by assumption), kc (fr1 _ _) (by assumption), kc (fr1 _ _) (by assumption), kc (fr1 _ _) (by assumption), kc (fr1 _ _) (by assumption), kfa (by assumption)⟩) | (go_split_ands; exact ⟨kc (fr1d _ _) (by assumption), kc (fr1d _ _) (by assumption), kc (fr1d _ _) (by assumption), kc (fr1d _ _) (by assumption), kc (fr1d _ _) (by assumption), kfae (by assumption)⟩) | (exact ⟨kcs hf2 (by simp only []; omega) hHeld.1, kcs hf2 (by simp only []; omega) hHeld.2.1, kcs hf2 (by simp only []; omega) hHeld.2.2.1, kcs hf2 (by simp only []; omega) hHeld.2.2.2.1, kcs hf2 (by simp only []; omega) hHeld.2.2.2.2.1, kfg (by omega) hHeld.2.2.2.2.2 hf2⟩))
            clear hK K
            try simp only [Act.put, List.getElem_toArray, List.getElem_cons_succ, List.getElem_cons_zero]
            have P0 := hid (show BG W2 _ _ _ _ _ _ from far_fr P0.out hf2 (by omega)); have P2 := hid (show BL W2 _ _ _ _ _ _ _ _ _ from far_fr P2.out hf2 (by omega)); have M6 := hid (show BS W2 _ _ _ from far_fr M6.out hf2 (by omega)); have M5 := hid hb2; have FW := hHeld.2.2.2.2.2; clear hb2 hf2
            refine wpAnyH_ready (rs := [7]) (by kernel_rfl) (by simp) (AllReadyH.cons rfl (fun K hK => ?_) AllReadyH.nil)
            refine st_span_step rfl (.tmp 6) (.tmp 25) rfl _ rfl (a' := Z1) (n' := a) rfl M6.out ?_
            intro W2 hb2 hf2
            refine hK.out _ _ ?_ (fun hHeld => ?_)
            · (try dsimp only); (first | (go_split_ands; exact ⟨kc f (by assumption), kc f (by assumption), kc f (by assumption), kc f (by assumption), kc f (by assumption), by assumption⟩) | (go_split_ands; exact ⟨(by assumption), (by assumption), (by assumption), (by assumption), (by assumption), by assumption⟩) | (go_split_ands; exact ⟨kc (fr1 _ _) (by assumption), kc (fr1 _ _) (by assumption), kc (fr1 _ _) (by assumption), kc (fr1 _ _) (by assumption), kc (fr1 _ _) (by assumption), kfa (by assumption)⟩) | (go_split_ands; exact ⟨kc (fr1d _ _) (by assumption), kc (fr1d _ _) (by assumption), kc (fr1d _ _) (by assumption), kc (fr1d _ _) (by assumption), kc (fr1d _ _) (by assumption), kfae (by assumption)⟩) | (exact ⟨kcs hf2 (by simp only []; omega) hHeld.1, kcs hf2 (by simp only []; omega) hHeld.2.1, kcs hf2 (by simp only []; omega) hHeld.2.2.1, kcs hf2 (by simp only []; omega) hHeld.2.2.2.1, kcs hf2 (by simp only []; omega) hHeld.2.2.2.2.1, kfg (by omega) hHeld.2.2.2.2.2 hf2⟩))
            clear hK K
            try simp only [Act.put, List.getElem_toArray, List.getElem_cons_succ, List.getElem_cons_zero]
            have P0 := hid (show BG W2 _ _ _ _ _ _ from far_fr P0.out hf2 (by omega)); have P2 := hid (show BL W2 _ _ _ _ _ _ _ _ _ from far_fr P2.out hf2 (by omega)); have M5 := hid (show BS W2 _ _ _ from far_fr M5.out hf2 (by omega)); have M6 := hid hb2; have FW := hHeld.2.2.2.2.2; clear hb2 hf2
            refine wpAnyH_done (by kernel_rfl) ?_ _
            refine NoPanic.normal ?_
            go_wp2_with fail
            go_meet
            case rel => exact ⟨_, _, rfl, rfl, M5.out, M6.out, P0.out, P2.out, FW.out⟩
          · go_simp
            refine hK.out _ _ ?_ (fun hHeld => ?_)
            · (try dsimp only); (first | (go_split_ands; exact ⟨kc f (by assumption), kc f (by assumption), kc f (by assumption), kc f (by assumption), kc f (by assumption), by assumption⟩) | (go_split_ands; exact ⟨(by assumption), (by assumption), (by assumption), (by assumption), (by assumption), by assumption⟩) | (go_split_ands; exact ⟨kc (fr1 _ _) (by assumption), kc (fr1 _ _) (by assumption), kc (fr1 _ _) (by assumption), kc (fr1 _ _) (by assumption), kc (fr1 _ _) (by assumption), kfa (by assumption)⟩) | (go_split_ands; exact ⟨kc (fr1d _ _) (by assumption), kc (fr1d _ _) (by assumption), kc (fr1d _ _) (by assumption), kc (fr1d _ _) (by assumption), kc (fr1d _ _) (by assumption), kfae (by assumption)⟩) | (exact ⟨kcs hf2 (by simp only []; omega) hHeld.1, kcs hf2 (by simp only []; omega) hHeld.2.1, kcs hf2 (by simp only []; omega) hHeld.2.2.1, kcs hf2 (by simp only []; omega) hHeld.2.2.2.1, kcs hf2 (by simp only []; omega) hHeld.2.2.2.2.1, kfg (by omega) hHeld.2.2.2.2.2 hf2⟩))
            clear hK K
            try simp only [Act.put, List.getElem_toArray, List.getElem_cons_succ, List.getElem_cons_zero, List.setIfInBounds_toArray, List.set_cons_zero, List.set_cons_succ]
            have P0 := hid (show BG ((W1.alloc (bs_ 0 0)).alloc (bs_ 0 0)) w.heap.size c s n l k from Blk.alloc P0.out (bs_ 0 0)); have P2 := hid (show BL ((W1.alloc (bs_ 0 0)).alloc (bs_ 0 0)) w1.heap.size a r q b d t x u from Blk.alloc P2.out (bs_ 0 0)); have LT := Blk.lt M5.out; have M5 := hid (show BS ((W1.alloc (bs_ 0 0)).alloc (bs_ 0 0)) _ 0 0 from Blk.alloc M5.out (bs_ 0 0)); have M6 := hid (show BS ((W1.alloc (bs_ 0 0)).alloc (bs_ 0 0)) (W1.heap.size + 1) 0 0 from by have := BS.new ((W1.alloc (bs_ 0 0))) 0 0; simpa using this); have FW := hHeld.2.2.2.2.2
            refine wpAnyH_ready (rs := [3]) (by kernel_rfl) (by simp) (AllReadyH.cons rfl (fun K hK => ?_) AllReadyH.nil)
            go_simp
            go_at_call 7
            refine (HB.out _).mono ?_
            rintro e W1 ⟨rfl, f⟩
            have FW := kf f hHeld.2.2.2.2.2
            have P0 := hid (P0.out.fr f)
            have P2 := hid (P2.out.fr f)
            (try have M5 := hid (BS.fr M5.out f))
            (try have M6 := hid (BS.fr M6.out f))
            have SZ := f.size
            (try simp at SZ)
            dsimp only
            refine hK.out _ _ ?_ (fun hHeld => ?_)
            · (try dsimp only); (first | (go_split_ands; exact ⟨kc f (by assumption), kc f (by assumption), kc f (by assumption), kc f (by assumption), kc f (by assumption), by assumption⟩) | (go_split_ands; exact ⟨(by assumption), (by assumption), (by assumption), (by assumption), (by assumption), by assumption⟩) | (go_split_ands; exact ⟨kc (fr1 _ _) (by assumption), kc (fr1 _ _) (by assumption), kc (fr1 _ _) (by assumption), kc (fr1 _ _) (by assumption), kc (fr1 _ _) (by assumption), kfa (by assumption)⟩) | (go_split_ands; exact ⟨kc (fr1d _ _) (by assumption), kc (fr1d _ _) (by assumption), kc (fr1d _ _) (by assumption), kc (fr1d _ _) (by assumption), kc (fr1d _ _) (by assumption), kfae (by assumption)⟩) | (exact ⟨kcs hf2 (by simp only []; omega) hHeld.1, kcs hf2 (by simp only []; omega) hHeld.2.1, kcs hf2 (by simp only []; omega) hHeld.2.2.1, kcs hf2 (by simp only []; omega) hHeld.2.2.2.1, kcs hf2 (by simp only []; omega) hHeld.2.2.2.2.1, kfg (by omega) hHeld.2.2.2.2.2 hf2⟩))
            clear hK K
            try simp only [Act.put, List.getElem_toArray, List.getElem_cons_succ, List.getElem_cons_zero, List.setIfInBounds_toArray, List.set_cons_zero, List.set_cons_succ]
            refine wpAnyH_ready (rs := [6]) (by kernel_rfl) (by simp) (AllReadyH.cons rfl (fun K hK => ?_) AllReadyH.nil)
            refine st_span_step rfl (.tmp 5) (.tmp 23) rfl _ rfl (a' := Z0) (n' := a) rfl M5.out ?_
            intro W2 hb2 hf2
            refine hK.out _ _ ?_ (fun hHeld => ?_)
            · (try dsimp only); (first | (go_split_ands; exact ⟨kc f (by assumption), kc f (by assumption), kc f (by assumption), kc f (by assumption), kc f (by assumption), by assumption⟩) | (go_split_ands; exact ⟨(by assumption), (by assumption), (by assumption), (by assumption), (by assumption), by assumption⟩) | (go_split_ands; exact ⟨kc (fr1 _ _) (by assumption), kc (fr1 _ _) (by assumption), kc (fr1 _ _) (by assumption), kc (fr1 _ _) (by assumption), kc (fr1 _ _) (by assumption), kfa (by assumption)⟩) | (go_split_ands; exact ⟨kc (fr1d _ _) (by assumption), kc (fr1d _ _) (by assumption), kc (fr1d _ _) (by assumption), kc (fr1d _ _) (by assumption), kc (fr1d _ _) (by assumption), kfae (by assumption)⟩) | (exact ⟨kcs hf2 (by simp only []; omega) hHeld.1, kcs hf2 (by simp only []; omega) hHeld.2.1, kcs hf2 (by simp only []; omega) hHeld.2.2.1, kcs hf2 (by simp only []; omega) hHeld.2.2.2.1, kcs hf2 (by simp only []; omega) hHeld.2.2.2.2.1, kfg (by omega) hHeld.2.2.2.2.2 hf2⟩))
            clear hK K
            try simp only [Act.put, List.getElem_toArray, List.getElem_cons_succ, List.getElem_cons_zero]
            have P0 := hid (show BG W2 _ _ _ _ _ _ from far_fr P0.out hf2 (by omega)); have P2 := hid (show BL W2 _ _ _ _ _ _ _ _ _ from far_fr P2.out hf2 (by omega)); have M6 := hid (show BS W2 _ _ _ from far_fr M6.out hf2 (by omega)); have M5 := hid hb2; have FW := hHeld.2.2.2.2.2; clear hb2 hf2
            refine wpAnyH_ready (rs := [7]) (by kernel_rfl) (by simp) (AllReadyH.cons rfl (fun K hK => ?_) AllReadyH.nil)
            refine st_span_step rfl (.tmp 6) (.tmp 25) rfl _ rfl (a' := Z1) (n' := a) rfl M6.out ?_
            intro W2 hb2 hf2
            refine hK.out _ _ ?_ (fun hHeld => ?_)
            · (try dsimp only); (first | (go_split_ands; exact ⟨kc f (by assumption), kc f (by assumption), kc f (by assumption), kc f (by assumption), kc f (by assumption), by assumption⟩) | (go_split_ands; exact ⟨(by assumption), (by assumption), (by assumption), (by assumption), (by assumption), by assumption⟩) | (go_split_ands; exact ⟨kc (fr1 _ _) (by assumption), kc (fr1 _ _) (by assumption), kc (fr1 _ _) (by assumption), kc (fr1 _ _) (by assumption), kc (fr1 _ _) (by assumption), kfa (by assumption)⟩) | (go_split_ands; exact ⟨kc (fr1d _ _) (by assumption), kc (fr1d _ _) (by assumption), kc (fr1d _ _) (by assumption), kc (fr1d _ _) (by assumption), kc (fr1d _ _) (by assumption), kfae (by assumption)⟩) | (exact ⟨kcs hf2 (by simp only []; omega) hHeld.1, kcs hf2 (by simp only []; omega) hHeld.2.1, kcs hf2 (by simp only []; omega) hHeld.2.2.1, kcs hf2 (by simp only []; omega) hHeld.2.2.2.1, kcs hf2 (by simp only []; omega) hHeld.2.2.2.2.1, kfg (by omega) hHeld.2.2.2.2.2 hf2⟩))
            clear hK K
            try simp only [Act.put, List.getElem_toArray, List.getElem_cons_succ, List.getElem_cons_zero]
            have P0 := hid (show BG W2 _ _ _ _ _ _ from far_fr P0.out hf2 (by omega)); have P2 := hid (show BL W2 _ _ _ _ _ _ _ _ _ from far_fr P2.out hf2 (by omega)); have M5 := hid (show BS W2 _ _ _ from far_fr M5.out hf2 (by omega)); have M6 := hid hb2; have FW := hHeld.2.2.2.2.2; clear hb2 hf2
            refine wpAnyH_done (by kernel_rfl) ?_ _
            refine NoPanic.normal ?_
            go_wp2_with fail
            go_meet
            case rel => exact ⟨_, _, rfl, rfl, M5.out, M6.out, P0.out, P2.out, FW.out⟩
        · go_simp
          refine hK.out _ _ ?_ (fun hHeld => ?_)
          · (try dsimp only); (first | (go_split_ands; exact ⟨kc f (by assumption), kc f (by assumption), kc f (by assumption), kc f (by assumption), kc f (by assumption), by assumption⟩) | (go_split_ands; exact ⟨(by assumption), (by assumption), (by assumption), (by assumption), (by assumption), by assumption⟩) | (go_split_ands; exact ⟨kc (fr1 _ _) (by assumption), kc (fr1 _ _) (by assumption), kc (fr1 _ _) (by assumption), kc (fr1 _ _) (by assumption), kc (fr1 _ _) (by assumption), kfa (by assumption)⟩) | (go_split_ands; exact ⟨kc (fr1d _ _) (by assumption), kc (fr1d _ _) (by assumption), kc (fr1d _ _) (by assumption), kc (fr1d _ _) (by assumption), kc (fr1d _ _) (by assumption), kfae (by assumption)⟩) | (exact ⟨kcs hf2 (by simp only []; omega) hHeld.1, kcs hf2 (by simp only []; omega) hHeld.2.1, kcs hf2 (by simp only []; omega) hHeld.2.2.1, kcs hf2 (by simp only []; omega) hHeld.2.2.2.1, kcs hf2 (by simp only []; omega) hHeld.2.2.2.2.1, kfg (by omega) hHeld.2.2.2.2.2 hf2⟩))
          clear hK K
          try simp only [Act.put, List.getElem_toArray, List.getElem_cons_succ, List.getElem_cons_zero, List.setIfInBounds_toArray, List.set_cons_zero, List.set_cons_succ]
          have P0 := hid (show BG (W1.alloc (bs_ 0 0)) w.heap.size c s n l k from Blk.alloc P0.out (bs_ 0 0)); have P2 := hid (show BL (W1.alloc (bs_ 0 0)) w1.heap.size a r q b d t x u from Blk.alloc P2.out (bs_ 0 0)); have M6 := hid (show BS (W1.alloc (bs_ 0 0)) (W1.heap.size) 0 0 from by have := BS.new (W1) 0 0; simpa using this); have FW := hHeld.2.2.2.2.2
          refine wpAnyH_ready (rs := [3, 4]) (by kernel_rfl) (by simp) (AllReadyH.cons rfl (fun K hK => ?_) (AllReadyH.cons rfl (fun K hK => ?_) AllReadyH.nil))
          · go_simp
            go_at_call 7
            refine (HB.out _).mono ?_
            rintro e W1 ⟨rfl, f⟩
            have FW := kf f hHeld.2.2.2.2.2
            have P0 := hid (P0.out.fr f)
            have P2 := hid (P2.out.fr f)
            (try have M5 := hid (BS.fr M5.out f))
            (try have M6 := hid (BS.fr M6.out f))
            have SZ := f.size
            (try simp at SZ)
            dsimp only
            refine hK.out _ _ ?_ (fun hHeld => ?_)
            · (try dsimp only); (first | (go_split_ands; exact ⟨kc f (by assumption), kc f (by assumption), kc f (by assumption), kc f (by assumption), kc f (by assumption), by assumption⟩) | (go_split_ands; exact ⟨(by assumption), (by assumption), (by assumption), (by assumption), (by assumption), by assumption⟩) | (go_split_ands; exact ⟨kc (fr1 _ _) (by assumption), kc (fr1 _ _) (by assumption), kc (fr1 _ _) (by assumption), kc (fr1 _ _) (by assumption), kc (fr1 _ _) (by assumption), kfa (by assumption)⟩) | (go_split_ands; exact ⟨kc (fr1d _ _) (by assumption), kc (fr1d _ _) (by assumption), kc (fr1d _ _) (by assumption), kc (fr1d _ _) (by assumption), kc (fr1d _ _) (by assumption), kfae (by assumption)⟩) | (exact ⟨kcs hf2 (by simp only []; omega) hHeld.1, kcs hf2 (by simp only []; omega) hHeld.2.1, kcs hf2 (by simp only []; omega) hHeld.2.2.1, kcs hf2 (by simp only []; omega) hHeld.2.2.2.1, kcs hf2 (by simp only []; omega) hHeld.2.2.2.2.1, kfg (by omega) hHeld.2.2.2.2.2 hf2⟩))
            clear hK K
            try simp only [Act.put, List.getElem_toArray, List.getElem_cons_succ, List.getElem_cons_zero, List.setIfInBounds_toArray, List.set_cons_zero, List.set_cons_succ]
            refine wpAnyH_ready (rs := [4]) (by kernel_rfl) (by simp) (AllReadyH.cons rfl (fun K hK => ?_) AllReadyH.nil)
            go_simp
            refine hK.out _ _ ?_ (fun hHeld => ?_)
            · (try dsimp only); (first | (go_split_ands; exact ⟨kc f (by assumption), kc f (by assumption), kc f (by assumption), kc f (by assumption), kc f (by assumption), by assumption⟩) | (go_split_ands; exact ⟨(by assumption), (by assumption), (by assumption), (by assumption), (by assumption), by assumption⟩) | (go_split_ands; exact ⟨kc (fr1 _ _) (by assumption), kc (fr1 _ _) (by assumption), kc (fr1 _ _) (by assumption), kc (fr1 _ _) (by assumption), kc (fr1 _ _) (by assumption), kfa (by assumption)⟩) | (go_split_ands; exact ⟨kc (fr1d _ _) (by assumption), kc (fr1d _ _) (by assumption), kc (fr1d _ _) (by assumption), kc (fr1d _ _) (by assumption), kc (fr1d _ _) (by assumption), kfae (by assumption)⟩) | (exact ⟨kcs hf2 (by simp only []; omega) hHeld.1, kcs hf2 (by simp only []; omega) hHeld.2.1, kcs hf2 (by simp only []; omega) hHeld.2.2.1, kcs hf2 (by simp only []; omega) hHeld.2.2.2.1, kcs hf2 (by simp only []; omega) hHeld.2.2.2.2.1, kfg (by omega) hHeld.2.2.2.2.2 hf2⟩))
            clear hK K
            try simp only [Act.put, List.getElem_toArray, List.getElem_cons_succ, List.getElem_cons_zero, List.setIfInBounds_toArray, List.set_cons_zero, List.set_cons_succ]
            have P0 := hid (show BG (W1.alloc (bs_ 0 0)) w.heap.size c s n l k from Blk.alloc P0.out (bs_ 0 0)); have P2 := hid (show BL (W1.alloc (bs_ 0 0)) w1.heap.size a r q b d t x u from Blk.alloc P2.out (bs_ 0 0)); have LT := Blk.lt M6.out; have M6 := hid (show BS (W1.alloc (bs_ 0 0)) _ 0 0 from Blk.alloc M6.out (bs_ 0 0)); have M5 := hid (show BS (W1.alloc (bs_ 0 0)) (W1.heap.size) 0 0 from by have := BS.new (W1) 0 0; simpa using this); have FW := hHeld.2.2.2.2.2
            refine wpAnyH_ready (rs := [6]) (by kernel_rfl) (by simp) (AllReadyH.cons rfl (fun K hK => ?_) AllReadyH.nil)
            refine st_span_step rfl (.tmp 5) (.tmp 23) rfl _ rfl (a' := Z0) (n' := a) rfl M5.out ?_
            intro W2 hb2 hf2
            refine hK.out _ _ ?_ (fun hHeld => ?_)
            · (try dsimp only); (first | (go_split_ands; exact ⟨kc f (by assumption), kc f (by assumption), kc f (by assumption), kc f (by assumption), kc f (by assumption), by assumption⟩) | (go_split_ands; exact ⟨(by assumption), (by assumption), (by assumption), (by assumption), (by assumption), by assumption⟩) | (go_split_ands; exact ⟨kc (fr1 _ _) (by assumption), kc (fr1 _ _) (by assumption), kc (fr1 _ _) (by assumption), kc (fr1 _ _) (by assumption), kc (fr1 _ _) (by assumption), kfa (by assumption)⟩) | (go_split_ands; exact ⟨kc (fr1d _ _) (by assumption), kc (fr1d _ _) (by assumption), kc (fr1d _ _) (by assumption), kc (fr1d _ _) (by assumption), kc (fr1d _ _) (by assumption), kfae (by assumption)⟩) | (exact ⟨kcs hf2 (by simp only []; omega) hHeld.1, kcs hf2 (by simp only []; omega) hHeld.2.1, kcs hf2 (by simp only []; omega) hHeld.2.2.1, kcs hf2 (by simp only []; omega) hHeld.2.2.2.1, kcs hf2 (by simp only []; omega) hHeld.2.2.2.2.1, kfg (by omega) hHeld.2.2.2.2.2 hf2⟩))
            clear hK K
            try simp only [Act.put, List.getElem_toArray, List.getElem_cons_succ, List.getElem_cons_zero]
            have P0 := hid (show BG W2 _ _ _ _ _ _ from far_fr P0.out hf2 (by omega)); have P2 := hid (show BL W2 _ _ _ _ _ _ _ _ _ from far_fr P2.out hf2 (by omega)); have M6 := hid (show BS W2 _ _ _ from far_fr M6.out hf2 (by omega)); have M5 := hid hb2; have FW := hHeld.2.2.2.2.2; clear hb2 hf2
            refine wpAnyH_ready (rs := [7]) (by kernel_rfl) (by simp) (AllReadyH.cons rfl (fun K hK => ?_) AllReadyH.nil)
            refine st_span_step rfl (.tmp 6) (.tmp 25) rfl _ rfl (a' := Z1) (n' := a) rfl M6.out ?_
            intro W2 hb2 hf2
            refine hK.out _ _ ?_ (fun hHeld => ?_)
            · (try dsimp only); (first | (go_split_ands; exact ⟨kc f (by assumption), kc f (by assumption), kc f (by assumption), kc f (by assumption), kc f (by assumption), by assumption⟩) | (go_split_ands; exact ⟨(by assumption), (by assumption), (by assumption), (by assumption), (by assumption), by assumption⟩) | (go_split_ands; exact ⟨kc (fr1 _ _) (by assumption), kc (fr1 _ _) (by assumption), kc (fr1 _ _) (by assumption), kc (fr1 _ _) (by assumption), kc (fr1 _ _) (by assumption), kfa (by assumption)⟩) | (go_split_ands; exact ⟨kc (fr1d _ _) (by assumption), kc (fr1d _ _) (by assumption), kc (fr1d _ _) (by assumption), kc (fr1d _ _) (by assumption), kc (fr1d _ _) (by assumption), kfae (by assumption)⟩) | (exact ⟨kcs hf2 (by simp only []; omega) hHeld.1, kcs hf2 (by simp only []; omega) hHeld.2.1, kcs hf2 (by simp only []; omega) hHeld.2.2.1, kcs hf2 (by simp only []; omega) hHeld.2.2.2.1, kcs hf2 (by simp only []; omega) hHeld.2.2.2.2.1, kfg (by omega) hHeld.2.2.2.2.2 hf2⟩))
            clear hK K
            try simp only [Act.put, List.getElem_toArray, List.getElem_cons_succ, List.getElem_cons_zero]
            have P0 := hid (show BG W2 _ _ _ _ _ _ from far_fr P0.out hf2 (by omega)); have P2 := hid (show BL W2 _ _ _ _ _ _ _ _ _ from far_fr P2.out hf2 (by omega)); have M5 := hid (show BS W2 _ _ _ from far_fr M5.out hf2 (by omega)); have M6 := hid hb2; have FW := hHeld.2.2.2.2.2; clear hb2 hf2
            refine wpAnyH_done (by kernel_rfl) ?_ _
            refine NoPanic.normal ?_
            go_wp2_with fail
            go_meet
            case rel => exact ⟨_, _, rfl, rfl, M5.out, M6.out, P0.out, P2.out, FW.out⟩
          · go_simp
            refine hK.out _ _ ?_ (fun hHeld => ?_)
            · (try dsimp only); (first | (go_split_ands; exact ⟨kc f (by assumption), kc f (by assumption), kc f (by assumption), kc f (by assumption), kc f (by assumption), by assumption⟩) | (go_split_ands; exact ⟨(by assumption), (by assumption), (by assumption), (by assumption), (by assumption), by assumption⟩) | (go_split_ands; exact ⟨kc (fr1 _ _) (by assumption), kc (fr1 _ _) (by assumption), kc (fr1 _ _) (by assumption), kc (fr1 _ _) (by assumption), kc (fr1 _ _) (by assumption), kfa (by assumption)⟩) | (go_split_ands; exact ⟨kc (fr1d _ _) (by assumption), kc (fr1d _ _) (by assumption), kc (fr1d _ _) (by assumption), kc (fr1d _ _) (by assumption), kc (fr1d _ _) (by assumption), kfae (by assumption)⟩) | (exact ⟨kcs hf2 (by simp only []; omega) hHeld.1, kcs hf2 (by simp only []; omega) hHeld.2.1, kcs hf2 (by simp only []; omega) hHeld.2.2.1, kcs hf2 (by simp only []; omega) hHeld.2.2.2.1, kcs hf2 (by simp only []; omega) hHeld.2.2.2.2.1, kfg (by omega) hHeld.2.2.2.2.2 hf2⟩))
            clear hK K
            try simp only [Act.put, List.getElem_toArray, List.getElem_cons_succ, List.getElem_cons_zero, List.setIfInBounds_toArray, List.set_cons_zero, List.set_cons_succ]
            have P0 := hid (show BG ((W1.alloc (bs_ 0 0)).alloc (bs_ 0 0)) w.heap.size c s n l k from Blk.alloc P0.out (bs_ 0 0)); have P2 := hid (show BL ((W1.alloc (bs_ 0 0)).alloc (bs_ 0 0)) w1.heap.size a r q b d t x u from Blk.alloc P2.out (bs_ 0 0)); have LT := Blk.lt M6.out; have M6 := hid (show BS ((W1.alloc (bs_ 0 0)).alloc (bs_ 0 0)) _ 0 0 from Blk.alloc M6.out (bs_ 0 0)); have M5 := hid (show BS ((W1.alloc (bs_ 0 0)).alloc (bs_ 0 0)) (W1.heap.size + 1) 0 0 from by have := BS.new ((W1.alloc (bs_ 0 0))) 0 0; simpa using this); have FW := hHeld.2.2.2.2.2
            refine wpAnyH_ready (rs := [3]) (by kernel_rfl) (by simp) (AllReadyH.cons rfl (fun K hK => ?_) AllReadyH.nil)
            go_simp
            go_at_call 7
            refine (HB.out _).mono ?_
            rintro e W1 ⟨rfl, f⟩
            have FW := kf f hHeld.2.2.2.2.2
            have P0 := hid (P0.out.fr f)
            have P2 := hid (P2.out.fr f)
            (try have M5 := hid (BS.fr M5.out f))
            (try have M6 := hid (BS.fr M6.out f))
            have SZ := f.size
            (try simp at SZ)
            dsimp only
            refine hK.out _ _ ?_ (fun hHeld => ?_)
            · (try dsimp only); (first | (go_split_ands; exact ⟨kc f (by assumption), kc f (by assumption), kc f (by assumption), kc f (by assumption), kc f (by assumption), by assumption⟩) | (go_split_ands; exact ⟨(by assumption), (by assumption), (by assumption), (by assumption), (by assumption), by assumption⟩) | (go_split_ands; exact ⟨kc (fr1 _ _) (by assumption), kc (fr1 _ _) (by assumption), kc (fr1 _ _) (by assumption), kc (fr1 _ _) (by assumption), kc (fr1 _ _) (by assumption), kfa (by assumption)⟩) | (go_split_ands; exact ⟨kc (fr1d _ _) (by assumption), kc (fr1d _ _) (by assumption), kc (fr1d _ _) (by assumption), kc (fr1d _ _) (by assumption), kc (fr1d _ _) (by assumption), kfae (by assumption)⟩) | (exact ⟨kcs hf2 (by simp only []; omega) hHeld.1, kcs hf2 (by simp only []; omega) hHeld.2.1, kcs hf2 (by simp only []; omega) hHeld.2.2.1, kcs hf2 (by simp only []; omega) hHeld.2.2.2.1, kcs hf2 (by simp only []; omega) hHeld.2.2.2.2.1, kfg (by omega) hHeld.2.2.2.2.2 hf2⟩))
            clear hK K
            try simp only [Act.put, List.getElem_toArray, List.getElem_cons_succ, List.getElem_cons_zero, List.setIfInBounds_toArray, List.set_cons_zero, List.set_cons_succ]
            refine wpAnyH_ready (rs := [6]) (by kernel_rfl) (by simp) (AllReadyH.cons rfl (fun K hK => ?_) AllReadyH.nil)
            refine st_span_step rfl (.tmp 5) (.tmp 23) rfl _ rfl (a' := Z0) (n' := a) rfl M5.out ?_
            intro W2 hb2 hf2
            refine hK.out _ _ ?_ (fun hHeld => ?_)
            · (try dsimp only); (first | (go_split_ands; exact ⟨kc f (by assumption), kc f (by assumption), kc f (by assumption), kc f (by assumption), kc f (by assumption), by assumption⟩) | (go_split_ands; exact ⟨(by assumption), (by assumption), (by assumption), (by assumption), (by assumption), by assumption⟩) | (go_split_ands; exact ⟨kc (fr1 _ _) (by assumption), kc (fr1 _ _) (by assumption), kc (fr1 _ _) (by assumption), kc (fr1 _ _) (by assumption), kc (fr1 _ _) (by assumption), kfa (by assumption)⟩) | (go_split_ands; exact ⟨kc (fr1d _ _) (by assumption), kc (fr1d _ _) (by assumption), kc (fr1d _ _) (by assumption), kc (fr1d _ _) (by assumption), kc (fr1d _ _) (by assumption), kfae (by assumption)⟩) | (exact ⟨kcs hf2 (by simp only []; omega) hHeld.1, kcs hf2 (by simp only []; omega) hHeld.2.1, kcs hf2 (by simp only []; omega) hHeld.2.2.1, kcs hf2 (by simp only []; omega) hHeld.2.2.2.1, kcs hf2 (by simp only []; omega) hHeld.2.2.2.2.1, kfg (by omega) hHeld.2.2.2.2.2 hf2⟩))
            clear hK K
            try simp only [Act.put, List.getElem_toArray, List.getElem_cons_succ, List.getElem_cons_zero]
            have P0 := hid (show BG W2 _ _ _ _ _ _ from far_fr P0.out hf2 (by omega)); have P2 := hid (show BL W2 _ _ _ _ _ _ _ _ _ from far_fr P2.out hf2 (by omega)); have M6 := hid (show BS W2 _ _ _ from far_fr M6.out hf2 (by omega)); have M5 := hid hb2; have FW := hHeld.2.2.2.2.2; clear hb2 hf2
            refine wpAnyH_ready (rs := [7]) (by kernel_rfl) (by simp) (AllReadyH.cons rfl (fun K hK => ?_) AllReadyH.nil)
            refine st_span_step rfl (.tmp 6) (.tmp 25) rfl _ rfl (a' := Z1) (n' := a) rfl M6.out ?_
            intro W2 hb2 hf2
            refine hK.out _ _ ?_ (fun hHeld => ?_)
            · (try dsimp only); (first | (go_split_ands; exact ⟨kc f (by assumption), kc f (by assumption), kc f (by assumption), kc f (by assumption), kc f (by assumption), by assumption⟩) | (go_split_ands; exact ⟨(by assumption), (by assumption), (by assumption), (by assumption), (by assumption), by assumption⟩) | (go_split_ands; exact ⟨kc (fr1 _ _) (by assumption), kc (fr1 _ _) (by assumption), kc (fr1 _ _) (by assumption), kc (fr1 _ _) (by assumption), kc (fr1 _ _) (by assumption), kfa (by assumption)⟩) | (go_split_ands; exact ⟨kc (fr1d _ _) (by assumption), kc (fr1d _ _) (by assumption), kc (fr1d _ _) (by assumption), kc (fr1d _ _) (by assumption), kc (fr1d _ _) (by assumption), kfae (by assumption)⟩) | (exact ⟨kcs hf2 (by simp only []; omega) hHeld.1, kcs hf2 (by simp only []; omega) hHeld.2.1, kcs hf2 (by simp only []; omega) hHeld.2.2.1, kcs hf2 (by simp only []; omega) hHeld.2.2.2.1, kcs hf2 (by simp only []; omega) hHeld.2.2.2.2.1, kfg (by omega) hHeld.2.2.2.2.2 hf2⟩))
            clear hK K
            try simp only [Act.put, List.getElem_toArray, List.getElem_cons_succ, List.getElem_cons_zero]
            have P0 := hid (show BG W2 _ _ _ _ _ _ from far_fr P0.out hf2 (by omega)); have P2 := hid (show BL W2 _ _ _ _ _ _ _ _ _ from far_fr P2.out hf2 (by omega)); have M5 := hid (show BS W2 _ _ _ from far_fr M5.out hf2 (by omega)); have M6 := hid hb2; have FW := hHeld.2.2.2.2.2; clear hb2 hf2
            refine wpAnyH_done (by kernel_rfl) ?_ _
            refine NoPanic.normal ?_
            go_wp2_with fail
            go_meet
            case rel => exact ⟨_, _, rfl, rfl, M5.out, M6.out, P0.out, P2.out, FW.out⟩
      · go_simp
        refine hK.out _ _ ?_ (fun hHeld => ?_)
        · (try dsimp only); (first | (go_split_ands; exact ⟨kc f (by assumption), kc f (by assumption), kc f (by assumption), kc f (by assumption), kc f (by assumption), by assumption⟩) | (go_split_ands; exact ⟨(by assumption), (by assumption), (by assumption), (by assumption), (by assumption), by assumption⟩) | (go_split_ands; exact ⟨kc (fr1 _ _) (by assumption), kc (fr1 _ _) (by assumption), kc (fr1 _ _) (by assumption), kc (fr1 _ _) (by assumption), kc (fr1 _ _) (by assumption), kfa (by assumption)⟩) | (go_split_ands; exact ⟨kc (fr1d _ _) (by assumption), kc (fr1d _ _) (by assumption), kc (fr1d _ _) (by assumption), kc (fr1d _ _) (by assumption), kc (fr1d _ _) (by assumption), kfae (by assumption)⟩) | (exact ⟨kcs hf2 (by simp only []; omega) hHeld.1, kcs hf2 (by simp only []; omega) hHeld.2.1, kcs hf2 (by simp only []; omega) hHeld.2.2.1, kcs hf2 (by simp only []; omega) hHeld.2.2.2.1, kcs hf2 (by simp only []; omega) hHeld.2.2.2.2.1, kfg (by omega) hHeld.2.2.2.2.2 hf2⟩))
        clear hK K
        try simp only [Act.put, List.getElem_toArray, List.getElem_cons_succ, List.getElem_cons_zero, List.setIfInBounds_toArray, List.set_cons_zero, List.set_cons_succ]
        have P0 := hid (show BG (wa.alloc (bs_ 0 0)).drew w.heap.size c s n l k from Blk.alloc P0.out (bs_ 0 0)); have P2 := hid (show BL (wa.alloc (bs_ 0 0)).drew w1.heap.size a r q b d t x u from Blk.alloc P2.out (bs_ 0 0)); have h9 : BS (wa.alloc (bs_ 0 0)) (wa.heap.size) 0 0 := (by have := BS.new wa 0 0; simpa using this); have M5 := hid (show BS (wa.alloc (bs_ 0 0)).drew (wa.heap.size) 0 0 from Blk.drew h9); clear h9; have FW := hHeld.2.2.2.2.2
        refine wpAnyH_ready (rs := [1, 5]) (by kernel_rfl) (by simp) (AllReadyH.cons rfl (fun K hK => ?_) (AllReadyH.cons rfl (fun K hK => ?_) AllReadyH.nil))
        · go_simp
          go_at_call 7
          refine (HA.out _).mono ?_
          rintro e W1 ⟨rfl, f⟩
          have FW := kf f hHeld.2.2.2.2.2
          have P0 := hid (P0.out.fr f)
          have P2 := hid (P2.out.fr f)
          (try have M5 := hid (BS.fr M5.out f))
          (try have M6 := hid (BS.fr M6.out f))
          have SZ := f.size
          (try simp at SZ)
          dsimp only
          refine hK.out _ _ ?_ (fun hHeld => ?_)
          · (try dsimp only); (first | (go_split_ands; exact ⟨kc f (by assumption), kc f (by assumption), kc f (by assumption), kc f (by assumption), kc f (by assumption), by assumption⟩) | (go_split_ands; exact ⟨(by assumption), (by assumption), (by assumption), (by assumption), (by assumption), by assumption⟩) | (go_split_ands; exact ⟨kc (fr1 _ _) (by assumption), kc (fr1 _ _) (by assumption), kc (fr1 _ _) (by assumption), kc (fr1 _ _) (by assumption), kc (fr1 _ _) (by assumption), kfa (by assumption)⟩) | (go_split_ands; exact ⟨kc (fr1d _ _) (by assumption), kc (fr1d _ _) (by assumption), kc (fr1d _ _) (by assumption), kc (fr1d _ _) (by assumption), kc (fr1d _ _) (by assumption), kfae (by assumption)⟩) | (exact ⟨kcs hf2 (by simp only []; omega) hHeld.1, kcs hf2 (by simp only []; omega) hHeld.2.1, kcs hf2 (by simp only []; omega) hHeld.2.2.1, kcs hf2 (by simp only []; omega) hHeld.2.2.2.1, kcs hf2 (by simp only []; omega) hHeld.2.2.2.2.1, kfg (by omega) hHeld.2.2.2.2.2 hf2⟩))
          clear hK K
          try simp only [Act.put, List.getElem_toArray, List.getElem_cons_succ, List.getElem_cons_zero, List.setIfInBounds_toArray, List.set_cons_zero, List.set_cons_succ]
          refine wpAnyH_ready (rs := [3, 5]) (by kernel_rfl) (by simp) (AllReadyH.cons rfl (fun K hK => ?_) (AllReadyH.cons rfl (fun K hK => ?_) AllReadyH.nil))
          · go_simp
            go_at_call 7
            refine (HB.out _).mono ?_
            rintro e W1 ⟨rfl, f⟩
            have FW := kf f hHeld.2.2.2.2.2
            have P0 := hid (P0.out.fr f)
            have P2 := hid (P2.out.fr f)
            (try have M5 := hid (BS.fr M5.out f))
            (try have M6 := hid (BS.fr M6.out f))
            have SZ := f.size
            (try simp at SZ)
            dsimp only
            refine hK.out _ _ ?_ (fun hHeld => ?_)
            · (try dsimp only); (first | (go_split_ands; exact ⟨kc f (by assumption), kc f (by assumption), kc f (by assumption), kc f (by assumption), kc f (by assumption), by assumption⟩) | (go_split_ands; exact ⟨(by assumption), (by assumption), (by assumption), (by assumption), (by assumption), by assumption⟩) | (go_split_ands; exact ⟨kc (fr1 _ _) (by assumption), kc (fr1 _ _) (by assumption), kc (fr1 _ _) (by assumption), kc (fr1 _ _) (by assumption), kc (fr1 _ _) (by assumption), kfa (by assumption)⟩) | (go_split_ands; exact ⟨kc (fr1d _ _) (by assumption), kc (fr1d _ _) (by assumption), kc (fr1d _ _) (by assumption), kc (fr1d _ _) (by assumption), kc (fr1d _ _) (by assumption), kfae (by assumption)⟩) | (exact ⟨kcs hf2 (by simp only []; omega) hHeld.1, kcs hf2 (by simp only []; omega) hHeld.2.1, kcs hf2 (by simp only []; omega) hHeld.2.2.1, kcs hf2 (by simp only []; omega) hHeld.2.2.2.1, kcs hf2 (by simp only []; omega) hHeld.2.2.2.2.1, kfg (by omega) hHeld.2.2.2.2.2 hf2⟩))
            clear hK K
            try simp only [Act.put, List.getElem_toArray, List.getElem_cons_succ, List.getElem_cons_zero, List.setIfInBounds_toArray, List.set_cons_zero, List.set_cons_succ]
            refine wpAnyH_ready (rs := [5]) (by kernel_rfl) (by simp) (AllReadyH.cons rfl (fun K hK => ?_) AllReadyH.nil)
            go_simp
            refine hK.out _ _ ?_ (fun hHeld => ?_)
            · (try dsimp only); (first | (go_split_ands; exact ⟨kc f (by assumption), kc f (by assumption), kc f (by assumption), kc f (by assumption), kc f (by assumption), by assumption⟩) | (go_split_ands; exact ⟨(by assumption), (by assumption), (by assumption), (by assumption), (by assumption), by assumption⟩) | (go_split_ands; exact ⟨kc (fr1 _ _) (by assumption), kc (fr1 _ _) (by assumption), kc (fr1 _ _) (by assumption), kc (fr1 _ _) (by assumption), kc (fr1 _ _) (by assumption), kfa (by assumption)⟩) | (go_split_ands; exact ⟨kc (fr1d _ _) (by assumption), kc (fr1d _ _) (by assumption), kc (fr1d _ _) (by assumption), kc (fr1d _ _) (by assumption), kc (fr1d _ _) (by assumption), kfae (by assumption)⟩) | (exact ⟨kcs hf2 (by simp only []; omega) hHeld.1, kcs hf2 (by simp only []; omega) hHeld.2.1, kcs hf2 (by simp only []; omega) hHeld.2.2.1, kcs hf2 (by simp only []; omega) hHeld.2.2.2.1, kcs hf2 (by simp only []; omega) hHeld.2.2.2.2.1, kfg (by omega) hHeld.2.2.2.2.2 hf2⟩))
            clear hK K
            try simp only [Act.put, List.getElem_toArray, List.getElem_cons_succ, List.getElem_cons_zero, List.setIfInBounds_toArray, List.set_cons_zero, List.set_cons_succ]
            have P0 := hid (show BG (W1.alloc (bs_ 0 0)) w.heap.size c s n l k from Blk.alloc P0.out (bs_ 0 0)); have P2 := hid (show BL (W1.alloc (bs_ 0 0)) w1.heap.size a r q b d t x u from Blk.alloc P2.out (bs_ 0 0)); have LT := Blk.lt M5.out; have M5 := hid (show BS (W1.alloc (bs_ 0 0)) _ 0 0 from Blk.alloc M5.out (bs_ 0 0)); have M6 := hid (show BS (W1.alloc (bs_ 0 0)) (W1.heap.size) 0 0 from by have := BS.new (W1) 0 0; simpa using this); have FW := hHeld.2.2.2.2.2
            refine wpAnyH_ready (rs := [6]) (by kernel_rfl) (by simp) (AllReadyH.cons rfl (fun K hK => ?_) AllReadyH.nil)
            refine st_span_step rfl (.tmp 5) (.tmp 23) rfl _ rfl (a' := Z0) (n' := a) rfl M5.out ?_
            intro W2 hb2 hf2
            refine hK.out _ _ ?_ (fun hHeld => ?_)
            · (try dsimp only); (first | (go_split_ands; exact ⟨kc f (by assumption), kc f (by assumption), kc f (by assumption), kc f (by assumption), kc f (by assumption), by assumption⟩) | (go_split_ands; exact ⟨(by assumption), (by assumption), (by assumption), (by assumption), (by assumption), by assumption⟩) | (go_split_ands; exact ⟨kc (fr1 _ _) (by assumption), kc (fr1 _ _) (by assumption), kc (fr1 _ _) (by assumption), kc (fr1 _ _) (by assumption), kc (fr1 _ _) (by assumption), kfa (by assumption)⟩) | (go_split_ands; exact ⟨kc (fr1d _ _) (by assumption), kc (fr1d _ _) (by assumption), kc (fr1d _ _) (by assumption), kc (fr1d _ _) (by assumption), kc (fr1d _ _) (by assumption), kfae (by assumption)⟩) | (exact ⟨kcs hf2 (by simp only []; omega) hHeld.1, kcs hf2 (by simp only []; omega) hHeld.2.1, kcs hf2 (by simp only []; omega) hHeld.2.2.1, kcs hf2 (by simp only []; omega) hHeld.2.2.2.1, kcs hf2 (by simp only []; omega) hHeld.2.2.2.2.1, kfg (by omega) hHeld.2.2.2.2.2 hf2⟩))
            clear hK K
            try simp only [Act.put, List.getElem_toArray, List.getElem_cons_succ, List.getElem_cons_zero]
            have P0 := hid (show BG W2 _ _ _ _ _ _ from far_fr P0.out hf2 (by omega)); have P2 := hid (show BL W2 _ _ _ _ _ _ _ _ _ from far_fr P2.out hf2 (by omega)); have M6 := hid (show BS W2 _ _ _ from far_fr M6.out hf2 (by omega)); have M5 := hid hb2; have FW := hHeld.2.2.2.2.2; clear hb2 hf2
            refine wpAnyH_ready (rs := [7]) (by kernel_rfl) (by simp) (AllReadyH.cons rfl (fun K hK => ?_) AllReadyH.nil)
            refine st_span_step rfl (.tmp 6) (.tmp 25) rfl _ rfl (a' := Z1) (n' := a) rfl M6.out ?_
            intro W2 hb2 hf2
            refine hK.out _ _ ?_ (fun hHeld => ?_)
            · (try dsimp only); (first | (go_split_ands; exact ⟨kc f (by assumption), kc f (by assumption), kc f (by assumption), kc f (by assumption), kc f (by assumption), by assumption⟩) | (go_split_ands; exact ⟨(by assumption), (by assumption), (by assumption), (by assumption), (by assumption), by assumption⟩) | (go_split_ands; exact ⟨kc (fr1 _ _) (by assumption), kc (fr1 _ _) (by assumption), kc (fr1 _ _) (by assumption), kc (fr1 _ _) (by assumption), kc (fr1 _ _) (by assumption), kfa (by assumption)⟩) | (go_split_ands; exact ⟨kc (fr1d _ _) (by assumption), kc (fr1d _ _) (by assumption), kc (fr1d _ _) (by assumption), kc (fr1d _ _) (by assumption), kc (fr1d _ _) (by assumption), kfae (by assumption)⟩) | (exact ⟨kcs hf2 (by simp only []; omega) hHeld.1, kcs hf2 (by simp only []; omega) hHeld.2.1, kcs hf2 (by simp only []; omega) hHeld.2.2.1, kcs hf2 (by simp only []; omega) hHeld.2.2.2.1, kcs hf2 (by simp only []; omega) hHeld.2.2.2.2.1, kfg (by omega) hHeld.2.2.2.2.2 hf2⟩))
            clear hK K
            try simp only [Act.put, List.getElem_toArray, List.getElem_cons_succ, List.getElem_cons_zero]
            have P0 := hid (show BG W2 _ _ _ _ _ _ from far_fr P0.out hf2 (by omega)); have P2 := hid (show BL W2 _ _ _ _ _ _ _ _ _ from far_fr P2.out hf2 (by omega)); have M5 := hid (show BS W2 _ _ _ from far_fr M5.out hf2 (by omega)); have M6 := hid hb2; have FW := hHeld.2.2.2.2.2; clear hb2 hf2
            refine wpAnyH_done (by kernel_rfl) ?_ _
            refine NoPanic.normal ?_
            go_wp2_with fail
            go_meet
            case rel => exact ⟨_, _, rfl, rfl, M5.out, M6.out, P0.out, P2.out, FW.out⟩
          · go_simp
            refine hK.out _ _ ?_ (fun hHeld => ?_)
            · (try dsimp only); (first | (go_split_ands; exact ⟨kc f (by assumption), kc f (by assumption), kc f (by assumption), kc f (by assumption), kc f (by assumption), by assumption⟩) | (go_split_ands; exact ⟨(by assumption), (by assumption), (by assumption), (by assumption), (by assumption), by assumption⟩) | (go_split_ands; exact ⟨kc (fr1 _ _) (by assumption), kc (fr1 _ _) (by assumption), kc (fr1 _ _) (by assumption), kc (fr1 _ _) (by assumption), kc (fr1 _ _) (by assumption), kfa (by assumption)⟩) | (go_split_ands; exact ⟨kc (fr1d _ _) (by assumption), kc (fr1d _ _) (by assumption), kc (fr1d _ _) (by assumption), kc (fr1d _ _) (by assumption), kc (fr1d _ _) (by assumption), kfae (by assumption)⟩) | (exact ⟨kcs hf2 (by simp only []; omega) hHeld.1, kcs hf2 (by simp only []; omega) hHeld.2.1, kcs hf2 (by simp only []; omega) hHeld.2.2.1, kcs hf2 (by simp only []; omega) hHeld.2.2.2.1, kcs hf2 (by simp only []; omega) hHeld.2.2.2.2.1, kfg (by omega) hHeld.2.2.2.2.2 hf2⟩))
            clear hK K
            try simp only [Act.put, List.getElem_toArray, List.getElem_cons_succ, List.getElem_cons_zero, List.setIfInBounds_toArray, List.set_cons_zero, List.set_cons_succ]
            have P0 := hid (show BG (W1.alloc (bs_ 0 0)) w.heap.size c s n l k from Blk.alloc P0.out (bs_ 0 0)); have P2 := hid (show BL (W1.alloc (bs_ 0 0)) w1.heap.size a r q b d t x u from Blk.alloc P2.out (bs_ 0 0)); have LT := Blk.lt M5.out; have M5 := hid (show BS (W1.alloc (bs_ 0 0)) _ 0 0 from Blk.alloc M5.out (bs_ 0 0)); have M6 := hid (show BS (W1.alloc (bs_ 0 0)) (W1.heap.size) 0 0 from by have := BS.new (W1) 0 0; simpa using this); have FW := hHeld.2.2.2.2.2
            refine wpAnyH_ready (rs := [3]) (by kernel_rfl) (by simp) (AllReadyH.cons rfl (fun K hK => ?_) AllReadyH.nil)
            go_simp
            go_at_call 7
            refine (HB.out _).mono ?_
            rintro e W1 ⟨rfl, f⟩
            have FW := kf f hHeld.2.2.2.2.2
            have P0 := hid (P0.out.fr f)
            have P2 := hid (P2.out.fr f)
            (try have M5 := hid (BS.fr M5.out f))
            (try have M6 := hid (BS.fr M6.out f))
            have SZ := f.size
            (try simp at SZ)
            dsimp only
            refine hK.out _ _ ?_ (fun hHeld => ?_)
            · (try dsimp only); (first | (go_split_ands; exact ⟨kc f (by assumption), kc f (by assumption), kc f (by assumption), kc f (by assumption), kc f (by assumption), by assumption⟩) | (go_split_ands; exact ⟨(by assumption), (by assumption), (by assumption), (by assumption), (by assumption), by assumption⟩) | (go_split_ands; exact ⟨kc (fr1 _ _) (by assumption), kc (fr1 _ _) (by assumption), kc (fr1 _ _) (by assumption), kc (fr1 _ _) (by assumption), kc (fr1 _ _) (by assumption), kfa (by assumption)⟩) | (go_split_ands; exact ⟨kc (fr1d _ _) (by assumption), kc (fr1d _ _) (by assumption), kc (fr1d _ _) (by assumption), kc (fr1d _ _) (by assumption), kc (fr1d _ _) (by assumption), kfae (by assumption)⟩) | (exact ⟨kcs hf2 (by simp only []; omega) hHeld.1, kcs hf2 (by simp only []; omega) hHeld.2.1, kcs hf2 (by simp only []; omega) hHeld.2.2.1, kcs hf2 (by simp only []; omega) hHeld.2.2.2.1, kcs hf2 (by simp only []; omega) hHeld.2.2.2.2.1, kfg (by omega) hHeld.2.2.2.2.2 hf2⟩))
            clear hK K
            try simp only [Act.put, List.getElem_toArray, List.getElem_cons_succ, List.getElem_cons_zero, List.setIfInBounds_toArray, List.set_cons_zero, List.set_cons_succ]
            refine wpAnyH_ready (rs := [6]) (by kernel_rfl) (by simp) (AllReadyH.cons rfl (fun K hK => ?_) AllReadyH.nil)
            refine st_span_step rfl (.tmp 5) (.tmp 23) rfl _ rfl (a' := Z0) (n' := a) rfl M5.out ?_
            intro W2 hb2 hf2
            refine hK.out _ _ ?_ (fun hHeld => ?_)
            · (try dsimp only); (first | (go_split_ands; exact ⟨kc f (by assumption), kc f (by assumption), kc f (by assumption), kc f (by assumption), kc f (by assumption), by assumption⟩) | (go_split_ands; exact ⟨(by assumption), (by assumption), (by assumption), (by assumption), (by assumption), by assumption⟩) | (go_split_ands; exact ⟨kc (fr1 _ _) (by assumption), kc (fr1 _ _) (by assumption), kc (fr1 _ _) (by assumption), kc (fr1 _ _) (by assumption), kc (fr1 _ _) (by assumption), kfa (by assumption)⟩) | (go_split_ands; exact ⟨kc (fr1d _ _) (by assumption), kc (fr1d _ _) (by assumption), kc (fr1d _ _) (by assumption), kc (fr1d _ _) (by assumption), kc (fr1d _ _) (by assumption), kfae (by assumption)⟩) | (exact ⟨kcs hf2 (by simp only []; omega) hHeld.1, kcs hf2 (by simp only []; omega) hHeld.2.1, kcs hf2 (by simp only []; omega) hHeld.2.2.1, kcs hf2 (by simp only []; omega) hHeld.2.2.2.1, kcs hf2 (by simp only []; omega) hHeld.2.2.2.2.1, kfg (by omega) hHeld.2.2.2.2.2 hf2⟩))
            clear hK K
            try simp only [Act.put, List.getElem_toArray, List.getElem_cons_succ, List.getElem_cons_zero]
            have P0 := hid (show BG W2 _ _ _ _ _ _ from far_fr P0.out hf2 (by omega)); have P2 := hid (show BL W2 _ _ _ _ _ _ _ _ _ from far_fr P2.out hf2 (by omega)); have M6 := hid (show BS W2 _ _ _ from far_fr M6.out hf2 (by omega)); have M5 := hid hb2; have FW := hHeld.2.2.2.2.2; clear hb2 hf2
            refine wpAnyH_ready (rs := [7]) (by kernel_rfl) (by simp) (AllReadyH.cons rfl (fun K hK => ?_) AllReadyH.nil)
            refine st_span_step rfl (.tmp 6) (.tmp 25) rfl _ rfl (a' := Z1) (n' := a) rfl M6.out ?_
            intro W2 hb2 hf2
            refine hK.out _ _ ?_ (fun hHeld => ?_)
            · (try dsimp only); (first | (go_split_ands; exact ⟨kc f (by assumption), kc f (by assumption), kc f (by assumption), kc f (by assumption), kc f (by assumption), by assumption⟩) | (go_split_ands; exact ⟨(by assumption), (by assumption), (by assumption), (by assumption), (by assumption), by assumption⟩) | (go_split_ands; exact ⟨kc (fr1 _ _) (by assumption), kc (fr1 _ _) (by assumption), kc (fr1 _ _) (by assumption), kc (fr1 _ _) (by assumption), kc (fr1 _ _) (by assumption), kfa (by assumption)⟩) | (go_split_ands; exact ⟨kc (fr1d _ _) (by assumption), kc (fr1d _ _) (by assumption), kc (fr1d _ _) (by assumption), kc (fr1d _ _) (by assumption), kc (fr1d _ _) (by assumption), kfae (by assumption)⟩) | (exact ⟨kcs hf2 (by simp only []; omega) hHeld.1, kcs hf2 (by simp only []; omega) hHeld.2.1, kcs hf2 (by simp only []; omega) hHeld.2.2.1, kcs hf2 (by simp only []; omega) hHeld.2.2.2.1, kcs hf2 (by simp only []; omega) hHeld.2.2.2.2.1, kfg (by omega) hHeld.2.2.2.2.2 hf2⟩))
            clear hK K
            try simp only [Act.put, List.getElem_toArray, List.getElem_cons_succ, List.getElem_cons_zero]
            have P0 := hid (show BG W2 _ _ _ _ _ _ from far_fr P0.out hf2 (by omega)); have P2 := hid (show BL W2 _ _ _ _ _ _ _ _ _ from far_fr P2.out hf2 (by omega)); have M5 := hid (show BS W2 _ _ _ from far_fr M5.out hf2 (by omega)); have M6 := hid hb2; have FW := hHeld.2.2.2.2.2; clear hb2 hf2
            refine wpAnyH_done (by kernel_rfl) ?_ _
            refine NoPanic.normal ?_
            go_wp2_with fail
            go_meet
            case rel => exact ⟨_, _, rfl, rfl, M5.out, M6.out, P0.out, P2.out, FW.out⟩
        · go_simp
          refine hK.out _ _ ?_ (fun hHeld => ?_)
          · (try dsimp only); (first | (go_split_ands; exact ⟨kc f (by assumption), kc f (by assumption), kc f (by assumption), kc f (by assumption), kc f (by assumption), by assumption⟩) | (go_split_ands; exact ⟨(by assumption), (by assumption), (by assumption), (by assumption), (by assumption), by assumption⟩) | (go_split_ands; exact ⟨kc (fr1 _ _) (by assumption), kc (fr1 _ _) (by assumption), kc (fr1 _ _) (by assumption), kc (fr1 _ _) (by assumption), kc (fr1 _ _) (by assumption), kfa (by assumption)⟩) | (go_split_ands; exact ⟨kc (fr1d _ _) (by assumption), kc (fr1d _ _) (by assumption), kc (fr1d _ _) (by assumption), kc (fr1d _ _) (by assumption), kc (fr1d _ _) (by assumption), kfae (by assumption)⟩) | (exact ⟨kcs hf2 (by simp only []; omega) hHeld.1, kcs hf2 (by simp only []; omega) hHeld.2.1, kcs hf2 (by simp only []; omega) hHeld.2.2.1, kcs hf2 (by simp only []; omega) hHeld.2.2.2.1, kcs hf2 (by simp only []; omega) hHeld.2.2.2.2.1, kfg (by omega) hHeld.2.2.2.2.2 hf2⟩))
          clear hK K
          try simp only [Act.put, List.getElem_toArray, List.getElem_cons_succ, List.getElem_cons_zero, List.setIfInBounds_toArray, List.set_cons_zero, List.set_cons_succ]
          have P0 := hid (show BG ((wa.alloc (bs_ 0 0)).alloc (bs_ 0 0)).drew w.heap.size c s n l k from Blk.alloc P0.out (bs_ 0 0)); have P2 := hid (show BL ((wa.alloc (bs_ 0 0)).alloc (bs_ 0 0)).drew w1.heap.size a r q b d t x u from Blk.alloc P2.out (bs_ 0 0)); have LT := Blk.lt M5.out; have M5 := hid (show BS ((wa.alloc (bs_ 0 0)).alloc (bs_ 0 0)).drew _ 0 0 from Blk.alloc M5.out (bs_ 0 0)); have h9 : BS ((wa.alloc (bs_ 0 0)).alloc (bs_ 0 0)) (wa.heap.size + 1) 0 0 := (by have := BS.new (wa.alloc (bs_ 0 0)) 0 0; simpa using this); have M6 := hid (show BS ((wa.alloc (bs_ 0 0)).alloc (bs_ 0 0)).drew (wa.heap.size + 1) 0 0 from Blk.drew h9); clear h9; have FW := hHeld.2.2.2.2.2
          refine wpAnyH_ready (rs := [1]) (by kernel_rfl) (by simp) (AllReadyH.cons rfl (fun K hK => ?_) AllReadyH.nil)
          go_simp
          go_at_call 7
          refine (HA.out _).mono ?_
          rintro e W1 ⟨rfl, f⟩
          have FW := kf f hHeld.2.2.2.2.2
          have P0 := hid (P0.out.fr f)
          have P2 := hid (P2.out.fr f)
          (try have M5 := hid (BS.fr M5.out f))
          (try have M6 := hid (BS.fr M6.out f))
          have SZ := f.size
          (try simp at SZ)
          dsimp only
          refine hK.out _ _ ?_ (fun hHeld => ?_)
          · (try dsimp only); (first | (go_split_ands; exact ⟨kc f (by assumption), kc f (by assumption), kc f (by assumption), kc f (by assumption), kc f (by assumption), by assumption⟩) | (go_split_ands; exact ⟨(by assumption), (by assumption), (by assumption), (by assumption), (by assumption), by assumption⟩) | (go_split_ands; exact ⟨kc (fr1 _ _) (by assumption), kc (fr1 _ _) (by assumption), kc (fr1 _ _) (by assumption), kc (fr1 _ _) (by assumption), kc (fr1 _ _) (by assumption), kfa (by assumption)⟩) | (go_split_ands; exact ⟨kc (fr1d _ _) (by assumption), kc (fr1d _ _) (by assumption), kc (fr1d _ _) (by assumption), kc (fr1d _ _) (by assumption), kc (fr1d _ _) (by assumption), kfae (by assumption)⟩) | (exact ⟨kcs hf2 (by simp only []; omega) hHeld.1, kcs hf2 (by simp only []; omega) hHeld.2.1, kcs hf2 (by simp only []; omega) hHeld.2.2.1, kcs hf2 (by simp only []; omega) hHeld.2.2.2.1, kcs hf2 (by simp only []; omega) hHeld.2.2.2.2.1, kfg (by omega) hHeld.2.2.2.2.2 hf2⟩))
          clear hK K
          try simp only [Act.put, List.getElem_toArray, List.getElem_cons_succ, List.getElem_cons_zero, List.setIfInBounds_toArray, List.set_cons_zero, List.set_cons_succ]
          refine wpAnyH_ready (rs := [3]) (by kernel_rfl) (by simp) (AllReadyH.cons rfl (fun K hK => ?_) AllReadyH.nil)
          go_simp
          go_at_call 7
          refine (HB.out _).mono ?_
          rintro e W1 ⟨rfl, f⟩
          have FW := kf f hHeld.2.2.2.2.2
          have P0 := hid (P0.out.fr f)
          have P2 := hid (P2.out.fr f)
          (try have M5 := hid (BS.fr M5.out f))
          (try have M6 := hid (BS.fr M6.out f))
          have SZ := f.size
          (try simp at SZ)
          dsimp only
          refine hK.out _ _ ?_ (fun hHeld => ?_)
          · (try dsimp only); (first | (go_split_ands; exact ⟨kc f (by assumption), kc f (by assumption), kc f (by assumption), kc f (by assumption), kc f (by assumption), by assumption⟩) | (go_split_ands; exact ⟨(by assumption), (by assumption), (by assumption), (by assumption), (by assumption), by assumption⟩) | (go_split_ands; exact ⟨kc (fr1 _ _) (by assumption), kc (fr1 _ _) (by assumption), kc (fr1 _ _) (by assumption), kc (fr1 _ _) (by assumption), kc (fr1 _ _) (by assumption), kfa (by assumption)⟩) | (go_split_ands; exact ⟨kc (fr1d _ _) (by assumption), kc (fr1d _ _) (by assumption), kc (fr1d _ _) (by assumption), kc (fr1d _ _) (by assumption), kc (fr1d _ _) (by assumption), kfae (by assumption)⟩) | (exact ⟨kcs hf2 (by simp only []; omega) hHeld.1, kcs hf2 (by simp only []; omega) hHeld.2.1, kcs hf2 (by simp only []; omega) hHeld.2.2.1, kcs hf2 (by simp only []; omega) hHeld.2.2.2.1, kcs hf2 (by simp only []; omega) hHeld.2.2.2.2.1, kfg (by omega) hHeld.2.2.2.2.2 hf2⟩))
          clear hK K
          try simp only [Act.put, List.getElem_toArray, List.getElem_cons_succ, List.getElem_cons_zero, List.setIfInBounds_toArray, List.set_cons_zero, List.set_cons_succ]
          refine wpAnyH_ready (rs := [6]) (by kernel_rfl) (by simp) (AllReadyH.cons rfl (fun K hK => ?_) AllReadyH.nil)
          refine st_span_step rfl (.tmp 5) (.tmp 23) rfl _ rfl (a' := Z0) (n' := a) rfl M5.out ?_
          intro W2 hb2 hf2
          refine hK.out _ _ ?_ (fun hHeld => ?_)
          · (try dsimp only); (first | (go_split_ands; exact ⟨kc f (by assumption), kc f (by assumption), kc f (by assumption), kc f (by assumption), kc f (by assumption), by assumption⟩) | (go_split_ands; exact ⟨(by assumption), (by assumption), (by assumption), (by assumption), (by assumption), by assumption⟩) | (go_split_ands; exact ⟨kc (fr1 _ _) (by assumption), kc (fr1 _ _) (by assumption), kc (fr1 _ _) (by assumption), kc (fr1 _ _) (by assumption), kc (fr1 _ _) (by assumption), kfa (by assumption)⟩) | (go_split_ands; exact ⟨kc (fr1d _ _) (by assumption), kc (fr1d _ _) (by assumption), kc (fr1d _ _) (by assumption), kc (fr1d _ _) (by assumption), kc (fr1d _ _) (by assumption), kfae (by assumption)⟩) | (exact ⟨kcs hf2 (by simp only []; omega) hHeld.1, kcs hf2 (by simp only []; omega) hHeld.2.1, kcs hf2 (by simp only []; omega) hHeld.2.2.1, kcs hf2 (by simp only []; omega) hHeld.2.2.2.1, kcs hf2 (by simp only []; omega) hHeld.2.2.2.2.1, kfg (by omega) hHeld.2.2.2.2.2 hf2⟩))
          clear hK K
          try simp only [Act.put, List.getElem_toArray, List.getElem_cons_succ, List.getElem_cons_zero]
          have P0 := hid (show BG W2 _ _ _ _ _ _ from far_fr P0.out hf2 (by omega)); have P2 := hid (show BL W2 _ _ _ _ _ _ _ _ _ from far_fr P2.out hf2 (by omega)); have M6 := hid (show BS W2 _ _ _ from far_fr M6.out hf2 (by omega)); have M5 := hid hb2; have FW := hHeld.2.2.2.2.2; clear hb2 hf2
          refine wpAnyH_ready (rs := [7]) (by kernel_rfl) (by simp) (AllReadyH.cons rfl (fun K hK => ?_) AllReadyH.nil)
          refine st_span_step rfl (.tmp 6) (.tmp 25) rfl _ rfl (a' := Z1) (n' := a) rfl M6.out ?_
          intro W2 hb2 hf2
          refine hK.out _ _ ?_ (fun hHeld => ?_)
          · (try dsimp only); (first | (go_split_ands; exact ⟨kc f (by assumption), kc f (by assumption), kc f (by assumption), kc f (by assumption), kc f (by assumption), by assumption⟩) | (go_split_ands; exact ⟨(by assumption), (by assumption), (by assumption), (by assumption), (by assumption), by assumption⟩) | (go_split_ands; exact ⟨kc (fr1 _ _) (by assumption), kc (fr1 _ _) (by assumption), kc (fr1 _ _) (by assumption), kc (fr1 _ _) (by assumption), kc (fr1 _ _) (by assumption), kfa (by assumption)⟩) | (go_split_ands; exact ⟨kc (fr1d _ _) (by assumption), kc (fr1d _ _) (by assumption), kc (fr1d _ _) (by assumption), kc (fr1d _ _) (by assumption), kc (fr1d _ _) (by assumption), kfae (by assumption)⟩) | (exact ⟨kcs hf2 (by simp only []; omega) hHeld.1, kcs hf2 (by simp only []; omega) hHeld.2.1, kcs hf2 (by simp only []; omega) hHeld.2.2.1, kcs hf2 (by simp only []; omega) hHeld.2.2.2.1, kcs hf2 (by simp only []; omega) hHeld.2.2.2.2.1, kfg (by omega) hHeld.2.2.2.2.2 hf2⟩))
          clear hK K
          try simp only [Act.put, List.getElem_toArray, List.getElem_cons_succ, List.getElem_cons_zero]
          have P0 := hid (show BG W2 _ _ _ _ _ _ from far_fr P0.out hf2 (by omega)); have P2 := hid (show BL W2 _ _ _ _ _ _ _ _ _ from far_fr P2.out hf2 (by omega)); have M5 := hid (show BS W2 _ _ _ from far_fr M5.out hf2 (by omega)); have M6 := hid hb2; have FW := hHeld.2.2.2.2.2; clear hb2 hf2
          refine wpAnyH_done (by kernel_rfl) ?_ _
          refine NoPanic.normal ?_
          go_wp2_with fail
          go_meet
          case rel => exact ⟨_, _, rfl, rfl, M5.out, M6.out, P0.out, P2.out, FW.out⟩
      · go_simp
        refine hK.out _ _ ?_ (fun hHeld => ?_)
        · (try dsimp only); (first | (go_split_ands; exact ⟨kc f (by assumption), kc f (by assumption), kc f (by assumption), kc f (by assumption), kc f (by assumption), by assumption⟩) | (go_split_ands; exact ⟨(by assumption), (by assumption), (by assumption), (by assumption), (by assumption), by assumption⟩) | (go_split_ands; exact ⟨kc (fr1 _ _) (by assumption), kc (fr1 _ _) (by assumption), kc (fr1 _ _) (by assumption), kc (fr1 _ _) (by assumption), kc (fr1 _ _) (by assumption), kfa (by assumption)⟩) | (go_split_ands; exact ⟨kc (fr1d _ _) (by assumption), kc (fr1d _ _) (by assumption), kc (fr1d _ _) (by assumption), kc (fr1d _ _) (by assumption), kc (fr1d _ _) (by assumption), kfae (by assumption)⟩) | (exact ⟨kcs hf2 (by simp only []; omega) hHeld.1, kcs hf2 (by simp only []; omega) hHeld.2.1, kcs hf2 (by simp only []; omega) hHeld.2.2.1, kcs hf2 (by simp only []; omega) hHeld.2.2.2.1, kcs hf2 (by simp only []; omega) hHeld.2.2.2.2.1, kfg (by omega) hHeld.2.2.2.2.2 hf2⟩))
        clear hK K
        try simp only [Act.put, List.getElem_toArray, List.getElem_cons_succ, List.getElem_cons_zero, List.setIfInBounds_toArray, List.set_cons_zero, List.set_cons_succ]
        have P0 := hid (show BG (wa.alloc (bs_ 0 0)).drew w.heap.size c s n l k from Blk.alloc P0.out (bs_ 0 0)); have P2 := hid (show BL (wa.alloc (bs_ 0 0)).drew w1.heap.size a r q b d t x u from Blk.alloc P2.out (bs_ 0 0)); have h9 : BS (wa.alloc (bs_ 0 0)) (wa.heap.size) 0 0 := (by have := BS.new wa 0 0; simpa using this); have M6 := hid (show BS (wa.alloc (bs_ 0 0)).drew (wa.heap.size) 0 0 from Blk.drew h9); clear h9; have FW := hHeld.2.2.2.2.2
        refine wpAnyH_ready (rs := [1, 4]) (by kernel_rfl) (by simp) (AllReadyH.cons rfl (fun K hK => ?_) (AllReadyH.cons rfl (fun K hK => ?_) AllReadyH.nil))
        · go_simp
          go_at_call 7
          refine (HA.out _).mono ?_
          rintro e W1 ⟨rfl, f⟩
          have FW := kf f hHeld.2.2.2.2.2
          have P0 := hid (P0.out.fr f)
          have P2 := hid (P2.out.fr f)
          (try have M5 := hid (BS.fr M5.out f))
          (try have M6 := hid (BS.fr M6.out f))
          have SZ := f.size
          (try simp at SZ)
          dsimp only
          refine hK.out _ _ ?_ (fun hHeld => ?_)
          · (try dsimp only); (first | (go_split_ands; exact ⟨kc f (by assumption), kc f (by assumption), kc f (by assumption), kc f (by assumption), kc f (by assumption), by assumption⟩) | (go_split_ands; exact ⟨(by assumption), (by assumption), (by assumption), (by assumption), (by assumption), by assumption⟩) | (go_split_ands; exact ⟨kc (fr1 _ _) (by assumption), kc (fr1 _ _) (by assumption), kc (fr1 _ _) (by assumption), kc (fr1 _ _) (by assumption), kc (fr1 _ _) (by assumption), kfa (by assumption)⟩) | (go_split_ands; exact ⟨kc (fr1d _ _) (by assumption), kc (fr1d _ _) (by assumption), kc (fr1d _ _) (by assumption), kc (fr1d _ _) (by assumption), kc (fr1d _ _) (by assumption), kfae (by assumption)⟩) | (exact ⟨kcs hf2 (by simp only []; omega) hHeld.1, kcs hf2 (by simp only []; omega) hHeld.2.1, kcs hf2 (by simp only []; omega) hHeld.2.2.1, kcs hf2 (by simp only []; omega) hHeld.2.2.2.1, kcs hf2 (by simp only []; omega) hHeld.2.2.2.2.1, kfg (by omega) hHeld.2.2.2.2.2 hf2⟩))
          clear hK K
          try simp only [Act.put, List.getElem_toArray, List.getElem_cons_succ, List.getElem_cons_zero, List.setIfInBounds_toArray, List.set_cons_zero, List.set_cons_succ]
          refine wpAnyH_ready (rs := [3, 4]) (by kernel_rfl) (by simp) (AllReadyH.cons rfl (fun K hK => ?_) (AllReadyH.cons rfl (fun K hK => ?_) AllReadyH.nil))
          · go_simp
            go_at_call 7
            refine (HB.out _).mono ?_
            rintro e W1 ⟨rfl, f⟩
            have FW := kf f hHeld.2.2.2.2.2
            have P0 := hid (P0.out.fr f)
            have P2 := hid (P2.out.fr f)
            (try have M5 := hid (BS.fr M5.out f))
            (try have M6 := hid (BS.fr M6.out f))
            have SZ := f.size
            (try simp at SZ)
            dsimp only
            refine hK.out _ _ ?_ (fun hHeld => ?_)
            · (try dsimp only); (first | (go_split_ands; exact ⟨kc f (by assumption), kc f (by assumption), kc f (by assumption), kc f (by assumption), kc f (by assumption), by assumption⟩) | (go_split_ands; exact ⟨(by assumption), (by assumption), (by assumption), (by assumption), (by assumption), by assumption⟩) | (go_split_ands; exact ⟨kc (fr1 _ _) (by assumption), kc (fr1 _ _) (by assumption), kc (fr1 _ _) (by assumption), kc (fr1 _ _) (by assumption), kc (fr1 _ _) (by assumption), kfa (by assumption)⟩) | (go_split_ands; exact ⟨kc (fr1d _ _) (by assumption), kc (fr1d _ _) (by assumption), kc (fr1d _ _) (by assumption), kc (fr1d _ _) (by assumption), kc (fr1d _ _) (by assumption), kfae (by assumption)⟩) | (exact ⟨kcs hf2 (by simp only []; omega) hHeld.1, kcs hf2 (by simp only []; omega) hHeld.2.1, kcs hf2 (by simp only []; omega) hHeld.2.2.1, kcs hf2 (by simp only []; omega) hHeld.2.2.2.1, kcs hf2 (by simp only []; omega) hHeld.2.2.2.2.1, kfg (by omega) hHeld.2.2.2.2.2 hf2⟩))
            clear hK K
            try simp only [Act.put, List.getElem_toArray, List.getElem_cons_succ, List.getElem_cons_zero, List.setIfInBounds_toArray, List.set_cons_zero, List.set_cons_succ]
            refine wpAnyH_ready (rs := [4]) (by kernel_rfl) (by simp) (AllReadyH.cons rfl (fun K hK => ?_) AllReadyH.nil)
            go_simp
            refine hK.out _ _ ?_ (fun hHeld => ?_)
            · (try dsimp only); (first | (go_split_ands; exact ⟨kc f (by assumption), kc f (by assumption), kc f (by assumption), kc f (by assumption), kc f (by assumption), by assumption⟩) | (go_split_ands; exact ⟨(by assumption), (by assumption), (by assumption), (by assumption), (by assumption), by assumption⟩) | (go_split_ands; exact ⟨kc (fr1 _ _) (by assumption), kc (fr1 _ _) (by assumption), kc (fr1 _ _) (by assumption), kc (fr1 _ _) (by assumption), kc (fr1 _ _) (by assumption), kfa (by assumption)⟩) | (go_split_ands; exact ⟨kc (fr1d _ _) (by assumption), kc (fr1d _ _) (by assumption), kc (fr1d _ _) (by assumption), kc (fr1d _ _) (by assumption), kc (fr1d _ _) (by assumption), kfae (by assumption)⟩) | (exact ⟨kcs hf2 (by simp only []; omega) hHeld.1, kcs hf2 (by simp only []; omega) hHeld.2.1, kcs hf2 (by simp only []; omega) hHeld.2.2.1, kcs hf2 (by simp only []; omega) hHeld.2.2.2.1, kcs hf2 (by simp only []; omega) hHeld.2.2.2.2.1, kfg (by omega) hHeld.2.2.2.2.2 hf2⟩))
            clear hK K
            try simp only [Act.put, List.getElem_toArray, List.getElem_cons_succ, List.getElem_cons_zero, List.setIfInBounds_toArray, List.set_cons_zero, List.set_cons_succ]
            have P0 := hid (show BG (W1.alloc (bs_ 0 0)) w.heap.size c s n l k from Blk.alloc P0.out (bs_ 0 0)); have P2 := hid (show BL (W1.alloc (bs_ 0 0)) w1.heap.size a r q b d t x u from Blk.alloc P2.out (bs_ 0 0)); have LT := Blk.lt M6.out; have M6 := hid (show BS (W1.alloc (bs_ 0 0)) _ 0 0 from Blk.alloc M6.out (bs_ 0 0)); have M5 := hid (show BS (W1.alloc (bs_ 0 0)) (W1.heap.size) 0 0 from by have := BS.new (W1) 0 0; simpa using this); have FW := hHeld.2.2.2.2.2
            refine wpAnyH_ready (rs := [6]) (by kernel_rfl) (by simp) (AllReadyH.cons rfl (fun K hK => ?_) AllReadyH.nil)
            refine st_span_step rfl (.tmp 5) (.tmp 23) rfl _ rfl (a' := Z0) (n' := a) rfl M5.out ?_
            intro W2 hb2 hf2
            refine hK.out _ _ ?_ (fun hHeld => ?_)
            · (try dsimp only); (first | (go_split_ands; exact ⟨kc f (by assumption), kc f (by assumption), kc f (by assumption), kc f (by assumption), kc f (by assumption), by assumption⟩) | (go_split_ands; exact ⟨(by assumption), (by assumption), (by assumption), (by assumption), (by assumption), by assumption⟩) | (go_split_ands; exact ⟨kc (fr1 _ _) (by assumption), kc (fr1 _ _) (by assumption), kc (fr1 _ _) (by assumption), kc (fr1 _ _) (by assumption), kc (fr1 _ _) (by assumption), kfa (by assumption)⟩) | (go_split_ands; exact ⟨kc (fr1d _ _) (by assumption), kc (fr1d _ _) (by assumption), kc (fr1d _ _) (by assumption), kc (fr1d _ _) (by assumption), kc (fr1d _ _) (by assumption), kfae (by assumption)⟩) | (exact ⟨kcs hf2 (by simp only []; omega) hHeld.1, kcs hf2 (by simp only []; omega) hHeld.2.1, kcs hf2 (by simp only []; omega) hHeld.2.2.1, kcs hf2 (by simp only []; omega) hHeld.2.2.2.1, kcs hf2 (by simp only []; omega) hHeld.2.2.2.2.1, kfg (by omega) hHeld.2.2.2.2.2 hf2⟩))
            clear hK K
            try simp only [Act.put, List.getElem_toArray, List.getElem_cons_succ, List.getElem_cons_zero]
            have P0 := hid (show BG W2 _ _ _ _ _ _ from far_fr P0.out hf2 (by omega)); have P2 := hid (show BL W2 _ _ _ _ _ _ _ _ _ from far_fr P2.out hf2 (by omega)); have M6 := hid (show BS W2 _ _ _ from far_fr M6.out hf2 (by omega)); have M5 := hid hb2; have FW := hHeld.2.2.2.2.2; clear hb2 hf2
            refine wpAnyH_ready (rs := [7]) (by kernel_rfl) (by simp) (AllReadyH.cons rfl (fun K hK => ?_) AllReadyH.nil)
            refine st_span_step rfl (.tmp 6) (.tmp 25) rfl _ rfl (a' := Z1) (n' := a) rfl M6.out ?_
            intro W2 hb2 hf2
            refine hK.out _ _ ?_ (fun hHeld => ?_)
            · (try dsimp only); (first | (go_split_ands; exact ⟨kc f (by assumption), kc f (by assumption), kc f (by assumption), kc f (by assumption), kc f (by assumption), by assumption⟩) | (go_split_ands; exact ⟨(by assumption), (by assumption), (by assumption), (by assumption), (by assumption), by assumption⟩) | (go_split_ands; exact ⟨kc (fr1 _ _) (by assumption), kc (fr1 _ _) (by assumption), kc (fr1 _ _) (by assumption), kc (fr1 _ _) (by assumption), kc (fr1 _ _) (by assumption), kfa (by assumption)⟩) | (go_split_ands; exact ⟨kc (fr1d _ _) (by assumption), kc (fr1d _ _) (by assumption), kc (fr1d _ _) (by assumption), kc (fr1d _ _) (by assumption), kc (fr1d _ _) (by assumption), kfae (by assumption)⟩) | (exact ⟨kcs hf2 (by simp only []; omega) hHeld.1, kcs hf2 (by simp only []; omega) hHeld.2.1, kcs hf2 (by simp only []; omega) hHeld.2.2.1, kcs hf2 (by simp only []; omega) hHeld.2.2.2.1, kcs hf2 (by simp only []; omega) hHeld.2.2.2.2.1, kfg (by omega) hHeld.2.2.2.2.2 hf2⟩))
            clear hK K
            try simp only [Act.put, List.getElem_toArray, List.getElem_cons_succ, List.getElem_cons_zero]
            have P0 := hid (show BG W2 _ _ _ _ _ _ from far_fr P0.out hf2 (by omega)); have P2 := hid (show BL W2 _ _ _ _ _ _ _ _ _ from far_fr P2.out hf2 (by omega)); have M5 := hid (show BS W2 _ _ _ from far_fr M5.out hf2 (by omega)); have M6 := hid hb2; have FW := hHeld.2.2.2.2.2; clear hb2 hf2
            refine wpAnyH_done (by kernel_rfl) ?_ _
            refine NoPanic.normal ?_
            go_wp2_with fail
            go_meet
            case rel => exact ⟨_, _, rfl, rfl, M5.out, M6.out, P0.out, P2.out, FW.out⟩
          · go_simp
            refine hK.out _ _ ?_ (fun hHeld => ?_)
            · (try dsimp only); (first | (go_split_ands; exact ⟨kc f (by assumption), kc f (by assumption), kc f (by assumption), kc f (by assumption), kc f (by assumption), by assumption⟩) | (go_split_ands; exact ⟨(by assumption), (by assumption), (by assumption), (by assumption), (by assumption), by assumption⟩) | (go_split_ands; exact ⟨kc (fr1 _ _) (by assumption), kc (fr1 _ _) (by assumption), kc (fr1 _ _) (by assumption), kc (fr1 _ _) (by assumption), kc (fr1 _ _) (by assumption), kfa (by assumption)⟩) | (go_split_ands; exact ⟨kc (fr1d _ _) (by assumption), kc (fr1d _ _) (by assumption), kc (fr1d _ _) (by assumption), kc (fr1d _ _) (by assumption), kc (fr1d _ _) (by assumption), kfae (by assumption)⟩) | (exact ⟨kcs hf2 (by simp only []; omega) hHeld.1, kcs hf2 (by simp only []; omega) hHeld.2.1, kcs hf2 (by simp only []; omega) hHeld.2.2.1, kcs hf2 (by simp only []; omega) hHeld.2.2.2.1, kcs hf2 (by simp only []; omega) hHeld.2.2.2.2.1, kfg (by omega) hHeld.2.2.2.2.2 hf2⟩))
            clear hK K
            try simp only [Act.put, List.getElem_toArray, List.getElem_cons_succ, List.getElem_cons_zero, List.setIfInBounds_toArray, List.set_cons_zero, List.set_cons_succ]
            have P0 := hid (show BG (W1.alloc (bs_ 0 0)) w.heap.size c s n l k from Blk.alloc P0.out (bs_ 0 0)); have P2 := hid (show BL (W1.alloc (bs_ 0 0)) w1.heap.size a r q b d t x u from Blk.alloc P2.out (bs_ 0 0)); have LT := Blk.lt M6.out; have M6 := hid (show BS (W1.alloc (bs_ 0 0)) _ 0 0 from Blk.alloc M6.out (bs_ 0 0)); have M5 := hid (show BS (W1.alloc (bs_ 0 0)) (W1.heap.size) 0 0 from by have := BS.new (W1) 0 0; simpa using this); have FW := hHeld.2.2.2.2.2
            refine wpAnyH_ready (rs := [3]) (by kernel_rfl) (by simp) (AllReadyH.cons rfl (fun K hK => ?_) AllReadyH.nil)
            go_simp
            go_at_call 7
            refine (HB.out _).mono ?_
            rintro e W1 ⟨rfl, f⟩
            have FW := kf f hHeld.2.2.2.2.2
            have P0 := hid (P0.out.fr f)
            have P2 := hid (P2.out.fr f)
            (try have M5 := hid (BS.fr M5.out f))
            (try have M6 := hid (BS.fr M6.out f))
            have SZ := f.size
            (try simp at SZ)
            dsimp only
            refine hK.out _ _ ?_ (fun hHeld => ?_)
            · (try dsimp only); (first | (go_split_ands; exact ⟨kc f (by assumption), kc f (by assumption), kc f (by assumption), kc f (by assumption), kc f (by assumption), by assumption⟩) | (go_split_ands; exact ⟨(by assumption), (by assumption), (by assumption), (by assumption), (by assumption), by assumption⟩) | (go_split_ands; exact ⟨kc (fr1 _ _) (by assumption), kc (fr1 _ _) (by assumption), kc (fr1 _ _) (by assumption), kc (fr1 _ _) (by assumption), kc (fr1 _ _) (by assumption), kfa (by assumption)⟩) | (go_split_ands; exact ⟨kc (fr1d _ _) (by assumption), kc (fr1d _ _) (by assumption), kc (fr1d _ _) (by assumption), kc (fr1d _ _) (by assumption), kc (fr1d _ _) (by assumption), kfae (by assumption)⟩) | (exact ⟨kcs hf2 (by simp only []; omega) hHeld.1, kcs hf2 (by simp only []; omega) hHeld.2.1, kcs hf2 (by simp only []; omega) hHeld.2.2.1, kcs hf2 (by simp only []; omega) hHeld.2.2.2.1, kcs hf2 (by simp only []; omega) hHeld.2.2.2.2.1, kfg (by omega) hHeld.2.2.2.2.2 hf2⟩))
            clear hK K
            try simp only [Act.put, List.getElem_toArray, List.getElem_cons_succ, List.getElem_cons_zero, List.setIfInBounds_toArray, List.set_cons_zero, List.set_cons_succ]
            refine wpAnyH_ready (rs := [6]) (by kernel_rfl) (by simp) (AllReadyH.cons rfl (fun K hK => ?_) AllReadyH.nil)
            refine st_span_step rfl (.tmp 5) (.tmp 23) rfl _ rfl (a' := Z0) (n' := a) rfl M5.out ?_
            intro W2 hb2 hf2
            refine hK.out _ _ ?_ (fun hHeld => ?_)
            · (try dsimp only); (first | (go_split_ands; exact ⟨kc f (by assumption), kc f (by assumption), kc f (by assumption), kc f (by assumption), kc f (by assumption), by assumption⟩) | (go_split_ands; exact ⟨(by assumption), (by assumption), (by assumption), (by assumption), (by assumption), by assumption⟩) | (go_split_ands; exact ⟨kc (fr1 _ _) (by assumption), kc (fr1 _ _) (by assumption), kc (fr1 _ _) (by assumption), kc (fr1 _ _) (by assumption), kc (fr1 _ _) (by assumption), kfa (by assumption)⟩) | (go_split_ands; exact ⟨kc (fr1d _ _) (by assumption), kc (fr1d _ _) (by assumption), kc (fr1d _ _) (by assumption), kc (fr1d _ _) (by assumption), kc (fr1d _ _) (by assumption), kfae (by assumption)⟩) | (exact ⟨kcs hf2 (by simp only []; omega) hHeld.1, kcs hf2 (by simp only []; omega) hHeld.2.1, kcs hf2 (by simp only []; omega) hHeld.2.2.1, kcs hf2 (by simp only []; omega) hHeld.2.2.2.1, kcs hf2 (by simp only []; omega) hHeld.2.2.2.2.1, kfg (by omega) hHeld.2.2.2.2.2 hf2⟩))
            clear hK K
            try simp only [Act.put, List.getElem_toArray, List.getElem_cons_succ, List.getElem_cons_zero]
            have P0 := hid (show BG W2 _ _ _ _ _ _ from far_fr P0.out hf2 (by omega)); have P2 := hid (show BL W2 _ _ _ _ _ _ _ _ _ from far_fr P2.out hf2 (by omega)); have M6 := hid (show BS W2 _ _ _ from far_fr M6.out hf2 (by omega)); have M5 := hid hb2; have FW := hHeld.2.2.2.2.2; clear hb2 hf2
            refine wpAnyH_ready (rs := [7]) (by kernel_rfl) (by simp) (AllReadyH.cons rfl (fun K hK => ?_) AllReadyH.nil)
            refine st_span_step rfl (.tmp 6) (.tmp 25) rfl _ rfl (a' := Z1) (n' := a) rfl M6.out ?_
            intro W2 hb2 hf2
            refine hK.out _ _ ?_ (fun hHeld => ?_)
            · (try dsimp only); (first | (go_split_ands; exact ⟨kc f (by assumption), kc f (by assumption), kc f (by assumption), kc f (by assumption), kc f (by assumption), by assumption⟩) | (go_split_ands; exact ⟨(by assumption), (by assumption), (by assumption), (by assumption), (by assumption), by assumption⟩) | (go_split_ands; exact ⟨kc (fr1 _ _) (by assumption), kc (fr1 _ _) (by assumption), kc (fr1 _ _) (by assumption), kc (fr1 _ _) (by assumption), kc (fr1 _ _) (by assumption), kfa (by assumption)⟩) | (go_split_ands; exact ⟨kc (fr1d _ _) (by assumption), kc (fr1d _ _) (by assumption), kc (fr1d _ _) (by assumption), kc (fr1d _ _) (by assumption), kc (fr1d _ _) (by assumption), kfae (by assumption)⟩) | (exact ⟨kcs hf2 (by simp only []; omega) hHeld.1, kcs hf2 (by simp only []; omega) hHeld.2.1, kcs hf2 (by simp only []; omega) hHeld.2.2.1, kcs hf2 (by simp only []; omega) hHeld.2.2.2.1, kcs hf2 (by simp only []; omega) hHeld.2.2.2.2.1, kfg (by omega) hHeld.2.2.2.2.2 hf2⟩))
            clear hK K
            try simp only [Act.put, List.getElem_toArray, List.getElem_cons_succ, List.getElem_cons_zero]
            have P0 := hid (show BG W2 _ _ _ _ _ _ from far_fr P0.out hf2 (by omega)); have P2 := hid (show BL W2 _ _ _ _ _ _ _ _ _ from far_fr P2.out hf2 (by omega)); have M5 := hid (show BS W2 _ _ _ from far_fr M5.out hf2 (by omega)); have M6 := hid hb2; have FW := hHeld.2.2.2.2.2; clear hb2 hf2
            refine wpAnyH_done (by kernel_rfl) ?_ _
            refine NoPanic.normal ?_
            go_wp2_with fail
            go_meet
            case rel => exact ⟨_, _, rfl, rfl, M5.out, M6.out, P0.out, P2.out, FW.out⟩
        · go_simp
          refine hK.out _ _ ?_ (fun hHeld => ?_)
          · (try dsimp only); (first | (go_split_ands; exact ⟨kc f (by assumption), kc f (by assumption), kc f (by assumption), kc f (by assumption), kc f (by assumption), by assumption⟩) | (go_split_ands; exact ⟨(by assumption), (by assumption), (by assumption), (by assumption), (by assumption), by assumption⟩) | (go_split_ands; exact ⟨kc (fr1 _ _) (by assumption), kc (fr1 _ _) (by assumption), kc (fr1 _ _) (by assumption), kc (fr1 _ _) (by assumption), kc (fr1 _ _) (by assumption), kfa (by assumption)⟩) | (go_split_ands; exact ⟨kc (fr1d _ _) (by assumption), kc (fr1d _ _) (by assumption), kc (fr1d _ _) (by assumption), kc (fr1d _ _) (by assumption), kc (fr1d _ _) (by assumption), kfae (by assumption)⟩) | (exact ⟨kcs hf2 (by simp only []; omega) hHeld.1, kcs hf2 (by simp only []; omega) hHeld.2.1, kcs hf2 (by simp only []; omega) hHeld.2.2.1, kcs hf2 (by simp only []; omega) hHeld.2.2.2.1, kcs hf2 (by simp only []; omega) hHeld.2.2.2.2.1, kfg (by omega) hHeld.2.2.2.2.2 hf2⟩))
          clear hK K
          try simp only [Act.put, List.getElem_toArray, List.getElem_cons_succ, List.getElem_cons_zero, List.setIfInBounds_toArray, List.set_cons_zero, List.set_cons_succ]
          have P0 := hid (show BG ((wa.alloc (bs_ 0 0)).alloc (bs_ 0 0)).drew w.heap.size c s n l k from Blk.alloc P0.out (bs_ 0 0)); have P2 := hid (show BL ((wa.alloc (bs_ 0 0)).alloc (bs_ 0 0)).drew w1.heap.size a r q b d t x u from Blk.alloc P2.out (bs_ 0 0)); have LT := Blk.lt M6.out; have M6 := hid (show BS ((wa.alloc (bs_ 0 0)).alloc (bs_ 0 0)).drew _ 0 0 from Blk.alloc M6.out (bs_ 0 0)); have h9 : BS ((wa.alloc (bs_ 0 0)).alloc (bs_ 0 0)) (wa.heap.size + 1) 0 0 := (by have := BS.new (wa.alloc (bs_ 0 0)) 0 0; simpa using this); have M5 := hid (show BS ((wa.alloc (bs_ 0 0)).alloc (bs_ 0 0)).drew (wa.heap.size + 1) 0 0 from Blk.drew h9); clear h9; have FW := hHeld.2.2.2.2.2
          refine wpAnyH_ready (rs := [1]) (by kernel_rfl) (by simp) (AllReadyH.cons rfl (fun K hK => ?_) AllReadyH.nil)
          go_simp
          go_at_call 7
          refine (HA.out _).mono ?_
          rintro e W1 ⟨rfl, f⟩
          have FW := kf f hHeld.2.2.2.2.2
          have P0 := hid (P0.out.fr f)
          have P2 := hid (P2.out.fr f)
          (try have M5 := hid (BS.fr M5.out f))
          (try have M6 := hid (BS.fr M6.out f))
          have SZ := f.size
          (try simp at SZ)
          dsimp only
          refine hK.out _ _ ?_ (fun hHeld => ?_)
          · (try dsimp only); (first | (go_split_ands; exact ⟨kc f (by assumption), kc f (by assumption), kc f (by assumption), kc f (by assumption), kc f (by assumption), by assumption⟩) | (go_split_ands; exact ⟨(by assumption), (by assumption), (by assumption), (by assumption), (by assumption), by assumption⟩) | (go_split_ands; exact ⟨kc (fr1 _ _) (by assumption), kc (fr1 _ _) (by assumption), kc (fr1 _ _) (by assumption), kc (fr1 _ _) (by assumption), kc (fr1 _ _) (by assumption), kfa (by assumption)⟩) | (go_split_ands; exact ⟨kc (fr1d _ _) (by assumption), kc (fr1d _ _) (by assumption), kc (fr1d _ _) (by assumption), kc (fr1d _ _) (by assumption), kc (fr1d _ _) (by assumption), kfae (by assumption)⟩) | (exact ⟨kcs hf2 (by simp only []; omega) hHeld.1, kcs hf2 (by simp only []; omega) hHeld.2.1, kcs hf2 (by simp only []; omega) hHeld.2.2.1, kcs hf2 (by simp only []; omega) hHeld.2.2.2.1, kcs hf2 (by simp only []; omega) hHeld.2.2.2.2.1, kfg (by omega) hHeld.2.2.2.2.2 hf2⟩))
          clear hK K
          try simp only [Act.put, List.getElem_toArray, List.getElem_cons_succ, List.getElem_cons_zero, List.setIfInBounds_toArray, List.set_cons_zero, List.set_cons_succ]
          refine wpAnyH_ready (rs := [3]) (by kernel_rfl) (by simp) (AllReadyH.cons rfl (fun K hK => ?_) AllReadyH.nil)
          go_simp
          go_at_call 7
          refine (HB.out _).mono ?_
          rintro e W1 ⟨rfl, f⟩
          have FW := kf f hHeld.2.2.2.2.2
          have P0 := hid (P0.out.fr f)
          have P2 := hid (P2.out.fr f)
          (try have M5 := hid (BS.fr M5.out f))
          (try have M6 := hid (BS.fr M6.out f))
          have SZ := f.size
          (try simp at SZ)
          dsimp only
          refine hK.out _ _ ?_ (fun hHeld => ?_)
          · (try dsimp only); (first | (go_split_ands; exact ⟨kc f (by assumption), kc f (by assumption), kc f (by assumption), kc f (by assumption), kc f (by assumption), by assumption⟩) | (go_split_ands; exact ⟨(by assumption), (by assumption), (by assumption), (by assumption), (by assumption), by assumption⟩) | (go_split_ands; exact ⟨kc (fr1 _ _) (by assumption), kc (fr1 _ _) (by assumption), kc (fr1 _ _) (by assumption), kc (fr1 _ _) (by assumption), kc (fr1 _ _) (by assumption), kfa (by assumption)⟩) | (go_split_ands; exact ⟨kc (fr1d _ _) (by assumption), kc (fr1d _ _) (by assumption), kc (fr1d _ _) (by assumption), kc (fr1d _ _) (by assumption), kc (fr1d _ _) (by assumption), kfae (by assumption)⟩) | (exact ⟨kcs hf2 (by simp only []; omega) hHeld.1, kcs hf2 (by simp only []; omega) hHeld.2.1, kcs hf2 (by simp only []; omega) hHeld.2.2.1, kcs hf2 (by simp only []; omega) hHeld.2.2.2.1, kcs hf2 (by simp only []; omega) hHeld.2.2.2.2.1, kfg (by omega) hHeld.2.2.2.2.2 hf2⟩))
          clear hK K
          try simp only [Act.put, List.getElem_toArray, List.getElem_cons_succ, List.getElem_cons_zero, List.setIfInBounds_toArray, List.set_cons_zero, List.set_cons_succ]
          refine wpAnyH_ready (rs := [6]) (by kernel_rfl) (by simp) (AllReadyH.cons rfl (fun K hK => ?_) AllReadyH.nil)
          refine st_span_step rfl (.tmp 5) (.tmp 23) rfl _ rfl (a' := Z0) (n' := a) rfl M5.out ?_
          intro W2 hb2 hf2
          refine hK.out _ _ ?_ (fun hHeld => ?_)
          · (try dsimp only); (first | (go_split_ands; exact ⟨kc f (by assumption), kc f (by assumption), kc f (by assumption), kc f (by assumption), kc f (by assumption), by assumption⟩) | (go_split_ands; exact ⟨(by assumption), (by assumption), (by assumption), (by assumption), (by assumption), by assumption⟩) | (go_split_ands; exact ⟨kc (fr1 _ _) (by assumption), kc (fr1 _ _) (by assumption), kc (fr1 _ _) (by assumption), kc (fr1 _ _) (by assumption), kc (fr1 _ _) (by assumption), kfa (by assumption)⟩) | (go_split_ands; exact ⟨kc (fr1d _ _) (by assumption), kc (fr1d _ _) (by assumption), kc (fr1d _ _) (by assumption), kc (fr1d _ _) (by assumption), kc (fr1d _ _) (by assumption), kfae (by assumption)⟩) | (exact ⟨kcs hf2 (by simp only []; omega) hHeld.1, kcs hf2 (by simp only []; omega) hHeld.2.1, kcs hf2 (by simp only []; omega) hHeld.2.2.1, kcs hf2 (by simp only []; omega) hHeld.2.2.2.1, kcs hf2 (by simp only []; omega) hHeld.2.2.2.2.1, kfg (by omega) hHeld.2.2.2.2.2 hf2⟩))
          clear hK K
          try simp only [Act.put, List.getElem_toArray, List.getElem_cons_succ, List.getElem_cons_zero]
          have P0 := hid (show BG W2 _ _ _ _ _ _ from far_fr P0.out hf2 (by omega)); have P2 := hid (show BL W2 _ _ _ _ _ _ _ _ _ from far_fr P2.out hf2 (by omega)); have M6 := hid (show BS W2 _ _ _ from far_fr M6.out hf2 (by omega)); have M5 := hid hb2; have FW := hHeld.2.2.2.2.2; clear hb2 hf2
          refine wpAnyH_ready (rs := [7]) (by kernel_rfl) (by simp) (AllReadyH.cons rfl (fun K hK => ?_) AllReadyH.nil)
          refine st_span_step rfl (.tmp 6) (.tmp 25) rfl _ rfl (a' := Z1) (n' := a) rfl M6.out ?_
          intro W2 hb2 hf2
          refine hK.out _ _ ?_ (fun hHeld => ?_)
          · (try dsimp only); (first | (go_split_ands; exact ⟨kc f (by assumption), kc f (by assumption), kc f (by assumption), kc f (by assumption), kc f (by assumption), by assumption⟩) | (go_split_ands; exact ⟨(by assumption), (by assumption), (by assumption), (by assumption), (by assumption), by assumption⟩) | (go_split_ands; exact ⟨kc (fr1 _ _) (by assumption), kc (fr1 _ _) (by assumption), kc (fr1 _ _) (by assumption), kc (fr1 _ _) (by assumption), kc (fr1 _ _) (by assumption), kfa (by assumption)⟩) | (go_split_ands; exact ⟨kc (fr1d _ _) (by assumption), kc (fr1d _ _) (by assumption), kc (fr1d _ _) (by assumption), kc (fr1d _ _) (by assumption), kc (fr1d _ _) (by assumption), kfae (by assumption)⟩) | (exact ⟨kcs hf2 (by simp only []; omega) hHeld.1, kcs hf2 (by simp only []; omega) hHeld.2.1, kcs hf2 (by simp only []; omega) hHeld.2.2.1, kcs hf2 (by simp only []; omega) hHeld.2.2.2.1, kcs hf2 (by simp only []; omega) hHeld.2.2.2.2.1, kfg (by omega) hHeld.2.2.2.2.2 hf2⟩))
          clear hK K
          try simp only [Act.put, List.getElem_toArray, List.getElem_cons_succ, List.getElem_cons_zero]
          have P0 := hid (show BG W2 _ _ _ _ _ _ from far_fr P0.out hf2 (by omega)); have P2 := hid (show BL W2 _ _ _ _ _ _ _ _ _ from far_fr P2.out hf2 (by omega)); have M5 := hid (show BS W2 _ _ _ from far_fr M5.out hf2 (by omega)); have M6 := hid hb2; have FW := hHeld.2.2.2.2.2; clear hb2 hf2
          refine wpAnyH_done (by kernel_rfl) ?_ _
          refine NoPanic.normal ?_
          go_wp2_with fail
          go_meet
          case rel => exact ⟨_, _, rfl, rfl, M5.out, M6.out, P0.out, P2.out, FW.out⟩
    case rest =>
      obtain ⟨m5, m6, rfl, rfl, hb5, hb6, hg0, hl2, hf⟩ := hcut
      have FW := hid hf
      have P0 := hid hg0
      have P2 := hid hl2
      have M5 := hid hb5
      have M6 := hid hb6
      clear hf hg0 hl2 hb5 hb6
      obtain ⟨c0, c1, c2, c3, c4⟩ := P0.out.cells
      obtain ⟨e0, e1, e2, e3, e4, e5, e6, e7⟩ := P2.out.cells
      obtain ⟨g0, g1⟩ := M5.out.cells
      obtain ⟨h0, h1⟩ := M6.out.cells
      have qm50 := fun o => kc (fr1 wc o) g0
      have qm51 := fun o => kc (fr1 wc o) g1
      have qm60 := fun o => kc (fr1 wc o) h0
      have qm61 := fun o => kc (fr1 wc o) h1
      clear HA HB
      go_wp2_with fail
      refine (SqS.rSet_ok _ 4 4 [(0, 2), (Z0, a), (Z1, a), (r, q)] _ (by omega) (lit4 _ _ _ _ _ _ _ _ _ _ (by simp)) HZM.out).mono ?_
      rintro e w5 ⟨A5, k5, c5, rfl, r5, f5⟩
      rw [HST.out] at r5
      obtain rfl : k5 = 1 := by have := r5.1; simpa using this.symm
      have SC := Blk.lt P0.out
      have FW := hid (((FW.out.alloc (bs_ r q)).alloc (.cells #[.int .i64 0, .int .i64 2, .int .i64 Z0, .int .i64 a, .int .i64 Z1, .int .i64 a, .int .i64 r, .int .i64 q] 31)).trans f5)
      have P0 := hid (show BG w5 _ _ _ _ _ _ from Blk.fr ((Blk.alloc P0.out (bs_ r q)).alloc (.cells #[.int .i64 0, .int .i64 2, .int .i64 Z0, .int .i64 a, .int .i64 Z1, .int .i64 a, .int .i64 r, .int .i64 q] 31)) f5 (fun h => h))
      have P2 := hid (show BL w5 _ _ _ _ _ _ _ _ _ from Blk.fr ((Blk.alloc P2.out (bs_ r q)).alloc (.cells #[.int .i64 0, .int .i64 2, .int .i64 Z0, .int .i64 a, .int .i64 Z1, .int .i64 a, .int .i64 r, .int .i64 q] 31)) f5 (fun h => h))
      have M5 := hid (show BS w5 _ _ _ from Blk.fr ((Blk.alloc M5.out (bs_ r q)).alloc (.cells #[.int .i64 0, .int .i64 2, .int .i64 Z0, .int .i64 a, .int .i64 Z1, .int .i64 a, .int .i64 r, .int .i64 q] 31)) f5 (fun h => h))
      have M6 := hid (show BS w5 _ _ _ from Blk.fr ((Blk.alloc M6.out (bs_ r q)).alloc (.cells #[.int .i64 0, .int .i64 2, .int .i64 Z0, .int .i64 a, .int .i64 Z1, .int .i64 a, .int .i64 r, .int .i64 q] 31)) f5 (fun h => h))
      have P7 := hid (show BS w5 wc.heap.size r q from Blk.fr ((BS.new wc r q : Blk _ _ _ _).alloc (.cells #[.int .i64 0, .int .i64 2, .int .i64 Z0, .int .i64 a, .int .i64 Z1, .int .i64 a, .int .i64 r, .int .i64 q] 31)) f5 (fun h => h))
      have R5 := hid r5
      clear f5 r5 c0 c1 c2 c3 c4 e0 e1 e2 e3 e4 e5 e6 e7 g0 g1 h0 h1 qm50 qm51 qm60 qm61 SC
      go_wp2_with fail
      obtain ⟨gx, ox, rfl, _, hcx⟩ := R5.out.at_ (by omega)
      obtain ⟨x50, x51⟩ := hcx 0 _ rfl
      simp only [Nat.zero_mul, Nat.add_zero] at x50 x51
      clear hcx
      obtain ⟨c0, c1, c2, c3, c4⟩ := P0.out.cells
      obtain ⟨e0, e1, e2, e3, e4, e5, e6, e7⟩ := P2.out.cells
      obtain ⟨g0, g1⟩ := M5.out.cells
      obtain ⟨h0, h1⟩ := M6.out.cells
      obtain ⟨j0, j1⟩ := P7.out.cells
      have FW := kd FW
      refine wp_region_noPanic ?_
      refine wp_region_held_drew (S := (fun W' => W'.cell? ⟨w.heap.size, 0, none⟩ = some (.int .i64 c) ∧ W'.cell? ⟨w.heap.size, 1, none⟩ = some (.int .i64 s) ∧ W'.cell? ⟨w.heap.size, 2, none⟩ = some (.int .i64 n) ∧ W'.cell? ⟨w.heap.size, 3, none⟩ = some (.int .i64 l) ∧ W'.cell? ⟨w.heap.size, 4, none⟩ = some (.int .i64 k) ∧ W'.cell? ⟨w1.heap.size, 1, none⟩ = some (.int .i64 r) ∧ W'.cell? ⟨w1.heap.size, 2, none⟩ = some (.int .i64 q) ∧ W'.cell? ⟨m5, 1, none⟩ = some (.int .i64 a) ∧ W'.cell? ⟨m6, 1, none⟩ = some (.int .i64 a) ∧ W'.cell? ⟨wc.heap.size, 1, none⟩ = some (.int .i64 q) ∧ W'.cell? ⟨gx, ox, none⟩ = some (.int .i64 0) ∧ W'.cell? ⟨gx, ox + 1, none⟩ = some (.int .i64 C) ∧ Hid (Fr No w W'))) (by kernel_rfl) ?_ (fun hHeld => ?_)
      · (try dsimp only); (first | (go_split_ands; exact ⟨kc f (by assumption), kc f (by assumption), kc f (by assumption), kc f (by assumption), kc f (by assumption), kc f (by assumption), kc f (by assumption), kc f (by assumption), kc f (by assumption), kc f (by assumption), kc f (by assumption), kc f (by assumption), by assumption⟩) | (go_split_ands; exact ⟨(by assumption), (by assumption), (by assumption), (by assumption), (by assumption), (by assumption), (by assumption), (by assumption), (by assumption), (by assumption), (by assumption), (by assumption), by assumption⟩) | (go_split_ands; exact ⟨kc (fr1 _ _) (by assumption), kc (fr1 _ _) (by assumption), kc (fr1 _ _) (by assumption), kc (fr1 _ _) (by assumption), kc (fr1 _ _) (by assumption), kc (fr1 _ _) (by assumption), kc (fr1 _ _) (by assumption), kc (fr1 _ _) (by assumption), kc (fr1 _ _) (by assumption), kc (fr1 _ _) (by assumption), kc (fr1 _ _) (by assumption), kc (fr1 _ _) (by assumption), kfa (by assumption)⟩))
      refine wpAnyH_ready (rs := [0]) (by kernel_rfl) (by simp) (AllReadyH.cons rfl (fun K hK => ?_) AllReadyH.nil)
      go_simp
      go_at_call 5
      refine (HV.out _).mono ?_
      rintro e W1 ⟨rfl, f⟩
      have FW := kf f hHeld.2.2.2.2.2.2.2.2.2.2.2.2
      dsimp only
      refine hK.out _ _ ?_ (fun hHeld => ?_)
      · (try dsimp only); (first | (go_split_ands; exact ⟨kc f (by assumption), kc f (by assumption), kc f (by assumption), kc f (by assumption), kc f (by assumption), kc f (by assumption), kc f (by assumption), kc f (by assumption), kc f (by assumption), kc f (by assumption), kc f (by assumption), kc f (by assumption), by assumption⟩) | (go_split_ands; exact ⟨(by assumption), (by assumption), (by assumption), (by assumption), (by assumption), (by assumption), (by assumption), (by assumption), (by assumption), (by assumption), (by assumption), (by assumption), by assumption⟩) | (go_split_ands; exact ⟨kc (fr1 _ _) (by assumption), kc (fr1 _ _) (by assumption), kc (fr1 _ _) (by assumption), kc (fr1 _ _) (by assumption), kc (fr1 _ _) (by assumption), kc (fr1 _ _) (by assumption), kc (fr1 _ _) (by assumption), kc (fr1 _ _) (by assumption), kc (fr1 _ _) (by assumption), kc (fr1 _ _) (by assumption), kc (fr1 _ _) (by assumption), kc (fr1 _ _) (by assumption), kfa (by assumption)⟩))
      clear hK K
      try simp (maxSteps := 4000000) only [Act.put, List.getElem_toArray, List.getElem_cons_succ, List.getElem_cons_zero, List.setIfInBounds_toArray, List.set_cons_zero, List.set_cons_succ]
      refine wpAnyH_take (i := 1) (v := (.bool true)) rfl (by kernel_rfl) (by kernel_rfl) (by kernel_rfl) (fun _ _ _ h => h) (Or.inl ⟨by kernel_rfl, fun w hSw => by first | (go_simp; done) | (go_simp; with_reducible rfl) | (go_simp; omega)⟩) (by assumption) ?_
      try simp (maxSteps := 4000000) only [Act.put, List.getElem_toArray, List.setIfInBounds_toArray]
      refine wpAnyH_take (i := 2) (v := ?v3) rfl (by kernel_rfl) (by kernel_rfl) (by kernel_rfl) (fun _ _ _ h => h) (Or.inl ⟨by kernel_rfl, ?y3⟩) (by assumption) ?_
      case y3 => (intro w hSw; (try dsimp only at hSw); go_simp; all_goals with_reducible rfl)
      try simp (maxSteps := 4000000) only [Act.put, List.getElem_toArray]
      refine wpAnyH_take (i := 3) (v := ?v4) rfl (by kernel_rfl) (by kernel_rfl) (by kernel_rfl) (fun _ _ _ h => h) (Or.inl ⟨by kernel_rfl, ?y4⟩) (by assumption) ?_
      case y4 => (intro w hSw; (try dsimp only at hSw); go_simp; all_goals with_reducible rfl)
      try simp (maxSteps := 4000000) only [Act.put, List.getElem_toArray]
      refine wpAnyH_take (i := 4) (v := (.bool true)) rfl (by kernel_rfl) (by kernel_rfl) (by kernel_rfl) (fun _ _ _ h => h) (Or.inl ⟨by kernel_rfl, fun w hSw => by first | (go_simp; done) | (go_simp; with_reducible rfl) | (go_simp; omega)⟩) (by assumption) ?_
      try simp (maxSteps := 4000000) only [Act.put, List.getElem_toArray]
      refine wpAnyH_take (i := 5) (v := (.bool true)) rfl (by kernel_rfl) (by kernel_rfl) (by kernel_rfl) (fun _ _ _ h => h) (Or.inl ⟨by kernel_rfl, fun w hSw => by first | (go_simp; done) | (go_simp; with_reducible rfl) | (go_simp; omega)⟩) (by assumption) ?_
      try simp (maxSteps := 4000000) only [Act.put, List.getElem_toArray]
      refine wpAnyH_take (i := 6) (v := (.bool true)) rfl (by kernel_rfl) (by kernel_rfl) (by kernel_rfl) (fun _ _ _ h => h) (Or.inl ⟨by kernel_rfl, fun w hSw => by first | (go_simp; done) | (go_simp; with_reducible rfl) | (go_simp; omega)⟩) (by assumption) ?_
      try simp (maxSteps := 4000000) only [Act.put, List.getElem_toArray]
      refine wpAnyH_take (i := 7) (v := ?v5) rfl (by kernel_rfl) (by kernel_rfl) (by kernel_rfl) (fun _ _ _ h => h) (Or.inl ⟨by kernel_rfl, ?y5⟩) (by assumption) ?_
      case y5 => (intro w hSw; (try dsimp only at hSw); go_simp; all_goals with_reducible rfl)
      try simp (maxSteps := 4000000) only [Act.put, List.getElem_toArray]
      refine wpAnyH_take (i := 8) (v := ?v6) rfl (by kernel_rfl) (by kernel_rfl) (by kernel_rfl) (fun _ _ _ h => h) (Or.inl ⟨by kernel_rfl, ?y6⟩) (by assumption) ?_
      case y6 => (intro w hSw; (try dsimp only at hSw); go_simp; all_goals with_reducible rfl)
      try simp (maxSteps := 4000000) only [Act.put, List.getElem_toArray]
      refine wpAnyH_take (i := 9) (v := ?v7) rfl (by kernel_rfl) (by kernel_rfl) (by kernel_rfl) (fun _ _ _ h => h) (Or.inl ⟨by kernel_rfl, ?y7⟩) (by assumption) ?_
      case y7 => (intro w hSw; (try dsimp only at hSw); go_simp; all_goals with_reducible rfl)
      try simp (maxSteps := 4000000) only [Act.put, List.getElem_toArray]
      refine wpAnyH_take (i := 10) (v := ?v8) rfl (by kernel_rfl) (by kernel_rfl) (by kernel_rfl) (fun _ _ _ h => h) (Or.inl ⟨by kernel_rfl, ?y8⟩) (by assumption) ?_
      case y8 => (intro w hSw; (try dsimp only at hSw); go_simp; all_goals with_reducible rfl)
      try simp (maxSteps := 4000000) only [Act.put, List.getElem_toArray]
      refine wpAnyH_take (i := 11) (v := ?v9) rfl (by kernel_rfl) (by kernel_rfl) (by kernel_rfl) (fun _ _ _ h => h) (Or.inl ⟨by kernel_rfl, ?y9⟩) (by assumption) ?_
      case y9 => (intro w hSw; (try dsimp only at hSw); go_simp; all_goals with_reducible rfl)
      try simp (maxSteps := 4000000) only [Act.put, List.getElem_toArray]
      refine wpAnyH_take (i := 12) (v := ?v10) rfl (by kernel_rfl) (by kernel_rfl) (by kernel_rfl) (fun _ _ _ h => h) (Or.inl ⟨by kernel_rfl, ?y10⟩) (by assumption) ?_
      case y10 => (intro w hSw; (try dsimp only at hSw); go_simp; all_goals with_reducible rfl)
      try simp (maxSteps := 4000000) only [Act.put, List.getElem_toArray]
      refine wpAnyH_take (i := 13) (v := ?v11) rfl (by kernel_rfl) (by kernel_rfl) (by kernel_rfl) (fun _ _ _ h => h) (Or.inl ⟨by kernel_rfl, ?y11⟩) (by assumption) ?_
      case y11 => (intro w hSw; (try dsimp only at hSw); go_simp; all_goals with_reducible rfl)
      try simp (maxSteps := 4000000) only [Act.put, List.getElem_toArray]
      refine wpAnyH_take (i := 14) (v := (.int .i64 C)) rfl (by kernel_rfl) (by kernel_rfl) (by kernel_rfl) (fun _ _ _ h => h) (Or.inl ⟨by kernel_rfl, fun w hSw => by first | (go_simp; done) | (go_simp; with_reducible rfl) | (go_simp; omega)⟩) (by assumption) ?_
      try simp (maxSteps := 4000000) only [Act.put, List.getElem_toArray]
      refine wpAnyH_take (i := 15) (v := ?v12) rfl (by kernel_rfl) (by kernel_rfl) (by kernel_rfl) (fun _ _ _ h => h) (Or.inl ⟨by kernel_rfl, ?y12⟩) (by assumption) ?_
      case y12 => (intro w hSw; (try dsimp only at hSw); go_simp; all_goals with_reducible rfl)
      try simp (maxSteps := 4000000) only [Act.put, List.getElem_toArray]
      refine wpAnyH_take (i := 16) (v := (.bool true)) rfl (by kernel_rfl) (by kernel_rfl) (by kernel_rfl) (fun _ _ _ h => h) (Or.inl ⟨by kernel_rfl, fun w hSw => by first | (go_simp; done) | (go_simp; with_reducible rfl) | (go_simp; omega)⟩) (by assumption) ?_
      try simp (maxSteps := 4000000) only [Act.put, List.getElem_toArray]
      refine wpAnyH_take (i := 17) (v := (.bool true)) rfl (by kernel_rfl) (by kernel_rfl) (by kernel_rfl) (fun _ _ _ h => h) (Or.inl ⟨by kernel_rfl, fun w hSw => by first | (go_simp; done) | (go_simp; with_reducible rfl) | (go_simp; omega)⟩) (by assumption) ?_
      try simp (maxSteps := 4000000) only [Act.put, List.getElem_toArray]
      refine wpAnyH_take (i := 18) (v := (.bool true)) rfl (by kernel_rfl) (by kernel_rfl) (by kernel_rfl) (fun _ _ _ h => h) (Or.inl ⟨by kernel_rfl, fun w hSw => by first | (go_simp; done) | (go_simp; with_reducible rfl) | (go_simp; omega)⟩) (by assumption) ?_
      try simp (maxSteps := 4000000) only [Act.put, List.getElem_toArray]
      refine wpAnyH_take (i := 19) (v := ?v13) rfl (by kernel_rfl) (by kernel_rfl) (by kernel_rfl) (fun _ _ _ h => h) (Or.inl ⟨by kernel_rfl, ?y13⟩) (by assumption) ?_
      case y13 => (intro w hSw; (try dsimp only at hSw); go_simp; all_goals with_reducible rfl)
      try simp (maxSteps := 4000000) only [Act.put, List.getElem_toArray]
      refine wpAnyH_take (i := 20) (v := ?v14) rfl (by kernel_rfl) (by kernel_rfl) (by kernel_rfl) (fun _ _ _ h => h) (Or.inl ⟨by kernel_rfl, ?y14⟩) (by assumption) ?_
      case y14 => (intro w hSw; (try dsimp only at hSw); go_simp; all_goals with_reducible rfl)
      try simp (maxSteps := 4000000) only [Act.put, List.getElem_toArray]
      refine wpAnyH_take (i := 21) (v := ?v15) rfl (by kernel_rfl) (by kernel_rfl) (by kernel_rfl) (fun _ _ _ h => h) (Or.inl ⟨by kernel_rfl, ?y15⟩) (by assumption) ?_
      case y15 => (intro w hSw; (try dsimp only at hSw); go_simp; all_goals with_reducible rfl)
      try simp (maxSteps := 4000000) only [Act.put, List.getElem_toArray]
      refine wpAnyH_take (i := 22) (v := ?v16) rfl (by kernel_rfl) (by kernel_rfl) (by kernel_rfl) (fun _ _ _ h => h) (Or.inl ⟨by kernel_rfl, ?y16⟩) (by assumption) ?_
      case y16 => (intro w hSw; (try dsimp only at hSw); go_simp; all_goals with_reducible rfl)
      try simp (maxSteps := 4000000) only [Act.put, List.getElem_toArray]
      refine wpAnyH_take (i := 23) (v := ?v17) rfl (by kernel_rfl) (by kernel_rfl) (by kernel_rfl) (fun _ _ _ h => h) (Or.inl ⟨by kernel_rfl, ?y17⟩) (by assumption) ?_
      case y17 => (intro w hSw; (try dsimp only at hSw); go_simp; all_goals with_reducible rfl)
      try simp (maxSteps := 4000000) only [Act.put, List.getElem_toArray]
      refine wpAnyH_take (i := 24) (v := ?v18) rfl (by kernel_rfl) (by kernel_rfl) (by kernel_rfl) (fun _ _ _ h => h) (Or.inl ⟨by kernel_rfl, ?y18⟩) (by assumption) ?_
      case y18 => (intro w hSw; (try dsimp only at hSw); go_simp; all_goals with_reducible rfl)
      try simp (maxSteps := 4000000) only [Act.put, List.getElem_toArray]
      refine wpAnyH_take (i := 25) (v := ?v19) rfl (by kernel_rfl) (by kernel_rfl) (by kernel_rfl) (fun _ _ _ h => h) (Or.inl ⟨by kernel_rfl, ?y19⟩) (by assumption) ?_
      case y19 => (intro w hSw; (try dsimp only at hSw); go_simp; all_goals with_reducible rfl)
      try simp (maxSteps := 4000000) only [Act.put, List.getElem_toArray]
      refine wpAnyH_take (i := 26) (v := ?v20) rfl (by kernel_rfl) (by kernel_rfl) (by kernel_rfl) (fun _ _ _ h => h) (Or.inl ⟨by kernel_rfl, ?y20⟩) (by assumption) ?_
      case y20 => (intro w hSw; (try dsimp only at hSw); go_simp; all_goals with_reducible rfl)
      try simp (maxSteps := 4000000) only [Act.put, List.getElem_toArray]
      refine wpAnyH_take (i := 27) (v := (.int .i64 C)) rfl (by kernel_rfl) (by kernel_rfl) (by kernel_rfl) (fun _ _ _ h => h) (Or.inl ⟨by kernel_rfl, fun w hSw => by first | (go_simp; done) | (go_simp; with_reducible rfl) | (go_simp; omega)⟩) (by assumption) ?_
      try simp (maxSteps := 4000000) only [Act.put, List.getElem_toArray]
      refine wpAnyH_take (i := 28) (v := ?v21) rfl (by kernel_rfl) (by kernel_rfl) (by kernel_rfl) (fun _ _ _ h => h) (Or.inl ⟨by kernel_rfl, ?y21⟩) (by assumption) ?_
      case y21 => (intro w hSw; (try dsimp only at hSw); go_simp; all_goals with_reducible rfl)
      try simp (maxSteps := 4000000) only [Act.put, List.getElem_toArray]
      refine wpAnyH_take (i := 29) (v := ?v22) rfl (by kernel_rfl) (by kernel_rfl) (by kernel_rfl) (fun _ _ _ h => h) (Or.inl ⟨by kernel_rfl, ?y22⟩) (by assumption) ?_
      case y22 => (intro w hSw; (try dsimp only at hSw); go_simp; all_goals with_reducible rfl)
      try simp (maxSteps := 4000000) only [Act.put, List.getElem_toArray]
      refine wpAnyH_take (i := 30) (v := ?v23) rfl (by kernel_rfl) (by kernel_rfl) (by kernel_rfl) (fun _ _ _ h => h) (Or.inl ⟨by kernel_rfl, ?y23⟩) (by assumption) ?_
      case y23 => (intro w hSw; (try dsimp only at hSw); go_simp; all_goals with_reducible rfl)
      try simp (maxSteps := 4000000) only [Act.put, List.getElem_toArray]
      refine wpAnyH_take (i := 31) (v := ?v24) rfl (by kernel_rfl) (by kernel_rfl) (by kernel_rfl) (fun _ _ _ h => h) (Or.inl ⟨by kernel_rfl, ?y24⟩) (by assumption) ?_
      case y24 => (intro w hSw; (try dsimp only at hSw); go_simp; all_goals with_reducible rfl)
      try simp (maxSteps := 4000000) only [Act.put, List.getElem_toArray]
      refine wpAnyH_take (i := 32) (v := (.int .i64 C)) rfl (by kernel_rfl) (by kernel_rfl) (by kernel_rfl) (fun _ _ _ h => h) (Or.inl ⟨by kernel_rfl, fun w hSw => by first | (go_simp; done) | (go_simp; with_reducible rfl) | (go_simp; omega)⟩) (by assumption) ?_
      try simp (maxSteps := 4000000) only [Act.put, List.getElem_toArray]
      refine wpAnyH_take (i := 33) (v := (.bool true)) rfl (by kernel_rfl) (by kernel_rfl) (by kernel_rfl) (fun _ _ _ h => h) (Or.inl ⟨by kernel_rfl, fun w hSw => by first | (go_simp; done) | (go_simp; with_reducible rfl) | (go_simp; omega)⟩) (by assumption) ?_
      try simp (maxSteps := 4000000) only [Act.put, List.getElem_toArray]
      refine wpAnyH_take (i := 34) (v := (.bool true)) rfl (by kernel_rfl) (by kernel_rfl) (by kernel_rfl) (fun _ _ _ h => h) (Or.inl ⟨by kernel_rfl, fun w hSw => by first | (go_simp; done) | (go_simp; with_reducible rfl) | (go_simp; omega)⟩) (by assumption) ?_
      try simp (maxSteps := 4000000) only [Act.put, List.getElem_toArray]
      refine wpAnyH_take (i := 35) (v := (.bool true)) rfl (by kernel_rfl) (by kernel_rfl) (by kernel_rfl) (fun _ _ _ h => h) (Or.inl ⟨by kernel_rfl, fun w hSw => by first | (go_simp; done) | (go_simp; with_reducible rfl) | (go_simp; omega)⟩) (by assumption) ?_
      try simp (maxSteps := 4000000) only [Act.put, List.getElem_toArray]
      refine wpAnyH_take (i := 36) (v := ?v25) rfl (by kernel_rfl) (by kernel_rfl) (by kernel_rfl) (fun _ _ _ h => h) (Or.inl ⟨by kernel_rfl, ?y25⟩) (by assumption) ?_
      case y25 => (intro w hSw; (try dsimp only at hSw); go_simp; all_goals with_reducible rfl)
      try simp (maxSteps := 4000000) only [Act.put, List.getElem_toArray]
      refine wpAnyH_take (i := 38) (v := ?v26) rfl (by kernel_rfl) (by kernel_rfl) (by kernel_rfl) (fun _ _ _ h => h) (Or.inl ⟨by kernel_rfl, ?y26⟩) (by assumption) ?_
      case y26 => (intro w hSw; (try dsimp only at hSw); go_simp; all_goals with_reducible rfl)
      try simp (maxSteps := 4000000) only [Act.put, List.getElem_toArray]
      refine wpAnyH_take (i := 39) (v := ?v27) rfl (by kernel_rfl) (by kernel_rfl) (by kernel_rfl) (fun _ _ _ h => h) (Or.inl ⟨by kernel_rfl, ?y27⟩) (by assumption) ?_
      case y27 => (intro w hSw; (try dsimp only at hSw); go_simp; all_goals with_reducible rfl)
      try simp (maxSteps := 4000000) only [Act.put, List.getElem_toArray]
      refine wpAnyH_ready (rs := [37]) (by kernel_rfl) (by simp) (AllReadyH.cons rfl (fun K hK => ?_) AllReadyH.nil)
      go_simp
      go_at_call 9
      refine (HR0.out _).mono ?_
      rintro e W1 ⟨rfl, f⟩
      have FW := kf f hHeld.2.2.2.2.2.2.2.2.2.2.2.2
      dsimp only
      refine hK.out _ _ ?_ (fun hHeld => ?_)
      · (try dsimp only); (first | (go_split_ands; exact ⟨kc f (by assumption), kc f (by assumption), kc f (by assumption), kc f (by assumption), kc f (by assumption), kc f (by assumption), kc f (by assumption), kc f (by assumption), kc f (by assumption), kc f (by assumption), kc f (by assumption), kc f (by assumption), by assumption⟩) | (go_split_ands; exact ⟨(by assumption), (by assumption), (by assumption), (by assumption), (by assumption), (by assumption), (by assumption), (by assumption), (by assumption), (by assumption), (by assumption), (by assumption), by assumption⟩) | (go_split_ands; exact ⟨kc (fr1 _ _) (by assumption), kc (fr1 _ _) (by assumption), kc (fr1 _ _) (by assumption), kc (fr1 _ _) (by assumption), kc (fr1 _ _) (by assumption), kc (fr1 _ _) (by assumption), kc (fr1 _ _) (by assumption), kc (fr1 _ _) (by assumption), kc (fr1 _ _) (by assumption), kc (fr1 _ _) (by assumption), kc (fr1 _ _) (by assumption), kc (fr1 _ _) (by assumption), kfa (by assumption)⟩))
      clear hK K
      try simp (maxSteps := 4000000) only [Act.put, List.getElem_toArray, List.getElem_cons_succ, List.getElem_cons_zero, List.setIfInBounds_toArray, List.set_cons_zero, List.set_cons_succ]
      refine wpAnyH_take (i := 40) (v := (.bool true)) rfl (by kernel_rfl) (by kernel_rfl) (by kernel_rfl) (fun _ _ _ h => h) (Or.inl ⟨by kernel_rfl, fun w hSw => by first | (go_simp; done) | (go_simp; with_reducible rfl) | (go_simp; omega)⟩) (by assumption) ?_
      try simp (maxSteps := 4000000) only [Act.put, List.getElem_toArray, List.setIfInBounds_toArray]
      refine wpAnyH_take (i := 41) (v := (.bool true)) rfl (by kernel_rfl) (by kernel_rfl) (by kernel_rfl) (fun _ _ _ h => h) (Or.inl ⟨by kernel_rfl, fun w hSw => by first | (go_simp; done) | (go_simp; with_reducible rfl) | (go_simp; omega)⟩) (by assumption) ?_
      try simp (maxSteps := 4000000) only [Act.put, List.getElem_toArray]
      refine wpAnyH_take (i := 42) (v := (.bool true)) rfl (by kernel_rfl) (by kernel_rfl) (by kernel_rfl) (fun _ _ _ h => h) (Or.inl ⟨by kernel_rfl, fun w hSw => by first | (go_simp; done) | (go_simp; with_reducible rfl) | (go_simp; omega)⟩) (by assumption) ?_
      try simp (maxSteps := 4000000) only [Act.put, List.getElem_toArray]
      refine wpAnyH_take (i := 43) (v := ?v28) rfl (by kernel_rfl) (by kernel_rfl) (by kernel_rfl) (fun _ _ _ h => h) (Or.inl ⟨by kernel_rfl, ?y28⟩) (by assumption) ?_
      case y28 => (intro w hSw; (try dsimp only at hSw); go_simp; all_goals with_reducible rfl)
      try simp (maxSteps := 4000000) only [Act.put, List.getElem_toArray]
      refine wpAnyH_take (i := 44) (v := ?v29) rfl (by kernel_rfl) (by kernel_rfl) (by kernel_rfl) (fun _ _ _ h => h) (Or.inl ⟨by kernel_rfl, ?y29⟩) (by assumption) ?_
      case y29 => (intro w hSw; (try dsimp only at hSw); go_simp; all_goals with_reducible rfl)
      try simp (maxSteps := 4000000) only [Act.put, List.getElem_toArray]
      refine wpAnyH_take (i := 45) (v := ?v30) rfl (by kernel_rfl) (by kernel_rfl) (by kernel_rfl) (fun _ _ _ h => h) (Or.inl ⟨by kernel_rfl, ?y30⟩) (by assumption) ?_
      case y30 => (intro w hSw; (try dsimp only at hSw); go_simp; all_goals with_reducible rfl)
      try simp (maxSteps := 4000000) only [Act.put, List.getElem_toArray]
      refine wpAnyH_take (i := 46) (v := (.int .i64 (q - 1))) rfl (by kernel_rfl) (by kernel_rfl) (by kernel_rfl) (fun _ _ _ h => h) (Or.inl ⟨by kernel_rfl, fun w hSw => by first | (go_simp; done) | (go_simp; with_reducible rfl) | (go_simp; omega)⟩) (by assumption) ?_
      try simp (maxSteps := 4000000) only [Act.put, List.getElem_toArray]
      refine wpAnyH_take (i := 48) (v := ?v31) rfl (by kernel_rfl) (by kernel_rfl) (by kernel_rfl) (fun _ _ _ h => h) (Or.inl ⟨by kernel_rfl, ?y31⟩) (by assumption) ?_
      case y31 => (intro w hSw; (try dsimp only at hSw); go_simp; all_goals with_reducible rfl)
      try simp (maxSteps := 4000000) only [Act.put, List.getElem_toArray]
      refine wpAnyH_take (i := 49) (v := ?v32) rfl (by kernel_rfl) (by kernel_rfl) (by kernel_rfl) (fun _ _ _ h => h) (Or.inl ⟨by kernel_rfl, ?y32⟩) (by assumption) ?_
      case y32 => (intro w hSw; (try dsimp only at hSw); go_simp; all_goals with_reducible rfl)
      try simp (maxSteps := 4000000) only [Act.put, List.getElem_toArray]
      refine wpAnyH_take (i := 50) (v := ?v33) rfl (by kernel_rfl) (by kernel_rfl) (by kernel_rfl) (fun _ _ _ h => h) (Or.inl ⟨by kernel_rfl, ?y33⟩) (by assumption) ?_
      case y33 => (intro w hSw; (try dsimp only at hSw); go_simp; all_goals with_reducible rfl)
      try simp (maxSteps := 4000000) only [Act.put, List.getElem_toArray]
      refine wpAnyH_take (i := 51) (v := ?v34) rfl (by kernel_rfl) (by kernel_rfl) (by kernel_rfl) (fun _ _ _ h => h) (Or.inl ⟨by kernel_rfl, ?y34⟩) (by assumption) ?_
      case y34 => (intro w hSw; (try dsimp only at hSw); go_simp; all_goals with_reducible rfl)
      try simp (maxSteps := 4000000) only [Act.put, List.getElem_toArray]
      refine wpAnyH_take (i := 52) (v := (.int .i64 C)) rfl (by kernel_rfl) (by kernel_rfl) (by kernel_rfl) (fun _ _ _ h => h) (Or.inl ⟨by kernel_rfl, fun w hSw => by first | (go_simp; done) | (go_simp; with_reducible rfl) | (go_simp; omega)⟩) (by assumption) ?_
      try simp (maxSteps := 4000000) only [Act.put, List.getElem_toArray]
      refine wpAnyH_take (i := 53) (v := (.int .i64 (C - 1))) rfl (by kernel_rfl) (by kernel_rfl) (by kernel_rfl) (fun _ _ _ h => h) (Or.inl ⟨by kernel_rfl, fun w hSw => by first | (go_simp; done) | (go_simp; with_reducible rfl) | (go_simp; omega)⟩) (by assumption) ?_
      try simp (maxSteps := 4000000) only [Act.put, List.getElem_toArray]
      refine wpAnyH_ready (rs := [47]) (by kernel_rfl) (by simp) (AllReadyH.cons rfl (fun K hK => ?_) AllReadyH.nil)
      go_simp
      go_at_call 9
      refine (HR1.out _).mono ?_
      rintro e W1 ⟨rfl, f⟩
      have FW := kf f hHeld.2.2.2.2.2.2.2.2.2.2.2.2
      dsimp only
      refine hK.out _ _ ?_ (fun hHeld => ?_)
      · (try dsimp only); (first | (go_split_ands; exact ⟨kc f (by assumption), kc f (by assumption), kc f (by assumption), kc f (by assumption), kc f (by assumption), kc f (by assumption), kc f (by assumption), kc f (by assumption), kc f (by assumption), kc f (by assumption), kc f (by assumption), kc f (by assumption), by assumption⟩) | (go_split_ands; exact ⟨(by assumption), (by assumption), (by assumption), (by assumption), (by assumption), (by assumption), (by assumption), (by assumption), (by assumption), (by assumption), (by assumption), (by assumption), by assumption⟩) | (go_split_ands; exact ⟨kc (fr1 _ _) (by assumption), kc (fr1 _ _) (by assumption), kc (fr1 _ _) (by assumption), kc (fr1 _ _) (by assumption), kc (fr1 _ _) (by assumption), kc (fr1 _ _) (by assumption), kc (fr1 _ _) (by assumption), kc (fr1 _ _) (by assumption), kc (fr1 _ _) (by assumption), kc (fr1 _ _) (by assumption), kc (fr1 _ _) (by assumption), kc (fr1 _ _) (by assumption), kfa (by assumption)⟩))
      clear hK K
      try simp (maxSteps := 4000000) only [Act.put, List.getElem_toArray, List.getElem_cons_succ, List.getElem_cons_zero, List.setIfInBounds_toArray, List.set_cons_zero, List.set_cons_succ]
      refine wpAnyH_take (i := 54) (v := (.bool true)) rfl (by kernel_rfl) (by kernel_rfl) (by kernel_rfl) (fun _ _ _ h => h) (Or.inl ⟨by kernel_rfl, fun w hSw => by first | (go_simp; done) | (go_simp; with_reducible rfl) | (go_simp; omega)⟩) (by assumption) ?_
      try simp (maxSteps := 4000000) only [Act.put, List.getElem_toArray, List.setIfInBounds_toArray]
      refine wpAnyH_take (i := 55) (v := (.bool true)) rfl (by kernel_rfl) (by kernel_rfl) (by kernel_rfl) (fun _ _ _ h => h) (Or.inl ⟨by kernel_rfl, fun w hSw => by first | (go_simp; done) | (go_simp; with_reducible rfl) | (go_simp; omega)⟩) (by assumption) ?_
      try simp (maxSteps := 4000000) only [Act.put, List.getElem_toArray]
      refine wpAnyH_take (i := 56) (oi := ⟨some 93, _, _, _, _, _⟩) (v := (.bool true)) rfl (by kernel_rfl) (by kernel_rfl) (by kernel_rfl) (fun _ _ _ h => h) (Or.inl ⟨by kernel_rfl, fun w hSw => by first | (go_simp; done) | (go_simp; with_reducible rfl) | (go_simp; omega)⟩) (by assumption) ?_
      try simp (maxSteps := 4000000) only [Act.put]
      refine wpAnyH_take (i := 57) (oi := ⟨some 94, _, _, _, _, _⟩) (v := ?v35) rfl (by kernel_rfl) (by kernel_rfl) (by kernel_rfl) (fun _ _ _ h => h) (Or.inl ⟨by kernel_rfl, ?y35⟩) (by assumption) ?_
      case y35 => (intro w hSw; (try dsimp only at hSw); go_simp; all_goals with_reducible rfl)
      try simp (maxSteps := 4000000) only [Act.put]
      refine wpAnyH_take (i := 58) (oi := ⟨some 95, _, _, _, _, _⟩) (v := ?v36) rfl (by kernel_rfl) (by kernel_rfl) (by kernel_rfl) (fun _ _ _ h => h) (Or.inl ⟨by kernel_rfl, ?y36⟩) (by assumption) ?_
      case y36 => (intro w hSw; (try dsimp only at hSw); go_simp; all_goals with_reducible rfl)
      try simp (maxSteps := 4000000) only [Act.put]
      refine wpAnyH_take (i := 59) (oi := ⟨some 96, _, _, _, _, _⟩) (v := ?v37) rfl (by kernel_rfl) (by kernel_rfl) (by kernel_rfl) (fun _ _ _ h => h) (Or.inl ⟨by kernel_rfl, ?y37⟩) (by assumption) ?_
      case y37 => (intro w hSw; (try dsimp only at hSw); go_simp; all_goals with_reducible rfl)
      try simp (maxSteps := 4000000) only [Act.put]
      refine wpAnyH_take (i := 61) (oi := ⟨some 98, _, _, _, _, _⟩) (v := ?v38) rfl (by kernel_rfl) (by kernel_rfl) (by kernel_rfl) (fun _ _ _ h => h) (Or.inl ⟨by kernel_rfl, ?y38⟩) (by assumption) ?_
      case y38 => (intro w hSw; (try dsimp only at hSw); go_simp; all_goals with_reducible rfl)
      try simp (maxSteps := 4000000) only [Act.put]
      refine wpAnyH_take (i := 62) (oi := ⟨some 99, _, _, _, _, _⟩) (v := ?v39) rfl (by kernel_rfl) (by kernel_rfl) (by kernel_rfl) (fun _ _ _ h => h) (Or.inl ⟨by kernel_rfl, ?y39⟩) (by assumption) ?_
      case y39 => (intro w hSw; (try dsimp only at hSw); go_simp; all_goals with_reducible rfl)
      try simp (maxSteps := 4000000) only [Act.put]
      refine wpAnyH_ready (rs := [60]) (by kernel_rfl) (by simp) (AllReadyH.cons rfl (fun K hK => ?_) AllReadyH.nil)
      go_simp
      go_at_call 9
      refine (HR2.out _).mono ?_
      rintro e W1 ⟨rfl, f⟩
      have FW := kf f hHeld.2.2.2.2.2.2.2.2.2.2.2.2
      dsimp only
      refine hK.out _ _ ?_ (fun hHeld => ?_)
      · (try dsimp only); (first | (go_split_ands; exact ⟨kc f (by assumption), kc f (by assumption), kc f (by assumption), kc f (by assumption), kc f (by assumption), kc f (by assumption), kc f (by assumption), kc f (by assumption), kc f (by assumption), kc f (by assumption), kc f (by assumption), kc f (by assumption), by assumption⟩) | (go_split_ands; exact ⟨(by assumption), (by assumption), (by assumption), (by assumption), (by assumption), (by assumption), (by assumption), (by assumption), (by assumption), (by assumption), (by assumption), (by assumption), by assumption⟩) | (go_split_ands; exact ⟨kc (fr1 _ _) (by assumption), kc (fr1 _ _) (by assumption), kc (fr1 _ _) (by assumption), kc (fr1 _ _) (by assumption), kc (fr1 _ _) (by assumption), kc (fr1 _ _) (by assumption), kc (fr1 _ _) (by assumption), kc (fr1 _ _) (by assumption), kc (fr1 _ _) (by assumption), kc (fr1 _ _) (by assumption), kc (fr1 _ _) (by assumption), kc (fr1 _ _) (by assumption), kfa (by assumption)⟩))
      clear hK K
      try simp (maxSteps := 4000000) only [Act.put, List.getElem_toArray, List.getElem_cons_succ, List.getElem_cons_zero, List.setIfInBounds_toArray, List.set_cons_zero, List.set_cons_succ]
      refine wpAnyH_take (i := 63) (oi := ⟨some 100, _, _, _, _, _⟩) (v := (.bool true)) rfl (by kernel_rfl) (by kernel_rfl) (by kernel_rfl) (fun _ _ _ h => h) (Or.inl ⟨by kernel_rfl, fun w hSw => by first | (go_simp; done) | (go_simp; with_reducible rfl) | (go_simp; omega)⟩) (by assumption) ?_
      try simp (maxSteps := 4000000) only [Act.put, List.setIfInBounds_toArray, List.set_cons_zero, List.set_cons_succ]
      refine wpAnyH_take (i := 64) (oi := ⟨some 101, _, _, _, _, _⟩) (v := (.bool true)) rfl (by kernel_rfl) (by kernel_rfl) (by kernel_rfl) (fun _ _ _ h => h) (Or.inl ⟨by kernel_rfl, fun w hSw => by first | (go_simp; done) | (go_simp; with_reducible rfl) | (go_simp; omega)⟩) (by assumption) ?_
      try simp (maxSteps := 4000000) only [Act.put, List.setIfInBounds_toArray, List.set_cons_zero, List.set_cons_succ]
      refine wpAnyH_take (i := 65) (oi := ⟨some 2, _, _, _, _, _⟩) (v := (.bool true)) rfl (by kernel_rfl) (by kernel_rfl) (by kernel_rfl) (fun _ _ _ h => h) (Or.inl ⟨by kernel_rfl, fun w hSw => by first | (go_simp; done) | (go_simp; with_reducible rfl) | (go_simp; omega)⟩) (by assumption) ?_
      try simp (maxSteps := 4000000) only [Act.put, List.setIfInBounds_toArray, List.set_cons_zero, List.set_cons_succ]
      refine wpAnyH_done (by kernel_rfl) ?_ _
      refine NoPanic.normal ?_
      go_wp2
      go_ret
      exact ⟨rfl, FW.out⟩
  · rw [show rlo ⟨c, s, n, l, k⟩ = (z8, false) by unfold rlo; rw [if_neg hm]] at HL
    have HM := hid (fun W => may_ok c s n l k W hs)
    rw [decide_eq_false hm] at HM
    unfold z8 at HL
    dsimp only at HL
    clear hm
    go_enter Try.func3, Try.ntmps3
    go_wp2_with ((with_reducible refine ld_geom rfl (.tmp 1) rfl w.heap.size ?_ P0.out ?_); · rfl)
    refine (HL.out _).mono ?_
    rintro e w1 ⟨rfl, f1⟩
    have HF := hid ((HF.out.trans f1).alloc (by_ 0 0 0 0 0 0 0 0))
    have P0 := hid (show BG (w1.alloc (by_ 0 0 0 0 0 0 0 0)) w.heap.size c s n l k from (P0.out.fr f1 : Blk _ _ _ _).alloc _)
    clear f1 HL
    go_wp2_with fail
    refine (HV.out _).mono ?_
    rintro e w2 ⟨rfl, f2⟩
    have HF := kf f2 HF
    obtain ⟨c0, c1, c2, c3, c4⟩ := (P0.out.fr f2).cells
    clear f2 HV P0
    go_wp2_with fail
    refine (HM.out _).mono ?_
    rintro e w3 ⟨rfl, f3⟩
    have HF := kf f3 HF
    clear f3
    go_wp2
    go_ret
    exact ⟨rfl, HF.out⟩
end Go.Proofs.Ytkjebdojcnpjlaa.GeParts
