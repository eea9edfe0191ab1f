/- Contracts of package crc's rows of steps. No conditions but the bounds that are named. -/
import Derived.Test.YtlcafkjnikiomaaDoorCrcA
import Derived.Test.YtlcafkjnikiomaaDoorSepB
namespace Go.Proofs.YtlcafkjnikiomaaDoor.CrcB
open Go.RowKit MSep MFrame CrcM CrcA

/-- The rows of 'so many steps', as an array's cells. -/
def MA (k : Nat) : Array Value := ((mat k).map fun (x : Nat) => Value.int .u32 x).toArray
theorem MA_size (k : Nat) : (MA k).size = 32 := by simp [MA, mat]
theorem MA_get (k i : Nat) (hi : i < 32) : (MA k)[i]? = some (.int .u32 (it k (2 ^ i) : Nat)) := by
  simp [MA, List.getElem?_map, mat_get k i hi]
theorem MA_one (k : Nat) : (MA k).all (·.oneCell') = true := by
  simp [MA, Value.oneCell']

theorem and1 {a : Nat} {x : Int} (ha : a < 4294967296) (h : (a : Int) = x) : bits BinOp.and IntKind.u32 x 1 = ((a % 2 : Nat) : Int) := by
  have := u32_and_nat a 1 ha (by omega)
  rw [Nat.and_one_is_mod] at this
  rw [← h]
  exact this

theorem of_any (k r : Nat) (w : World) (hr : r < 4294967296) : Calls Tryd.prog 27 #[.agg (MA k), .int .u32 r] w fun e w' => e = .returned (.int .u32 (it k r : Nat)) ∧ Fr No w w' := by
  have hcell : ∀ i, i < 32 → (w.alloc (.cells (MA k) 46)).cell? ⟨w.heap.size, i, none⟩ = some (.int .u32 (it k (2 ^ i) : Nat)) := fun i hi => by
    rw [(Blk.new w _ _).cell i, MA_get k i hi]
  have HC := hid hcell
  have hsz := MA_size k
  obtain ⟨M, hM⟩ : ∃ M, MA k = M := ⟨_, rfl⟩
  rw [hM] at HC hsz
  rw [hM]
  clear hM hcell
  have HS := hid hsz
  clear hsz
  go_enter Tryd.func27, Tryd.ntmps27
  go_wp2
  obtain ⟨w1, hw1⟩ : ∃ w1, w.alloc (.cells M 46) = w1 := ⟨_, rfl⟩
  have hf : Fr No w w1 := by rw [← hw1]; exact (Fr.refl _ _).alloc _
  rw [hw1] at HC ⊢
  obtain ⟨g, hg⟩ : ∃ g, w.heap.size = g := ⟨_, rfl⟩
  rw [hg] at HC ⊢
  have HF := hid hf
  have HR := hid hr
  clear hw1 hg hf
  go_loop [5, 7] (fun s i => ∃ m : Nat, m ≤ 32 ∧ i = .int .i64 m ∧ s = .int .u32 (it k (r % 2 ^ m) : Nat)) (fun _ i => 32 - (intOf i).toNat)
  case atStart => exact ⟨0, by omega, rfl, by rw [Nat.pow_zero, Nat.mod_one, it_zero]; rfl⟩
  case round =>
    obtain ⟨m, hm, rfl, rfl⟩ := hrel
    by_cases hlt : m < 32
    · have hc := HC.out m hlt
      have hst := low_step r m
      have hp : r % 2 ^ m < 4294967296 := Nat.lt_of_le_of_lt (Nat.mod_le _ _) hr
      have hp2 : 2 ^ m < 4294967296 := Nat.pow_lt_pow_right (a := 2) (n := 32) (m := m) (by omega) hlt
      have hx := x2 (it_lt k hp) (it_lt k hp2)
      rw [← it_xor] at hx
      have hm3 : (m : Int) < 32 := by omega
      have hand : bits BinOp.and IntKind.u32 ((r : Int) / 2 ^ m) 1 = ((r / 2 ^ m % 2 : Nat) : Int) := and1 (Nat.lt_of_le_of_lt (Nat.div_le_self _ _) hr) (by push_cast; rfl)
      by_cases hb : r / 2 ^ m % 2 = 1
      · rw [if_pos hb] at hst
        rw [hb] at hand
        have hq : (bits BinOp.and IntKind.u32 ((r : Int) / 2 ^ m) 1 == 1) = true := by rw [hand]; rfl
        have HST := hid hst
        have hmm : m + 1 ≤ 32 := hlt
        clear hst hlt hm hp hp2 hr hb hand
        go_wp2
        go_roundw
        case rel => exact ⟨m + 1, hmm, by go_num, by rw [HST.out]⟩
        case measure => simp [intOf]; omega
      · rw [if_neg hb] at hst
        have hq : (bits BinOp.and IntKind.u32 ((r : Int) / 2 ^ m) 1 == 1) = false := by rw [hand, beq_eq_false_iff_ne]; omega
        have HST := hid hst
        have hmm : m + 1 ≤ 32 := hlt
        clear hst hlt hm hp hp2 hr hb hand hx
        go_wp2
        go_roundw
        case rel => exact ⟨m + 1, hmm, by go_num, by rw [HST.out]⟩
        case measure => simp [intOf]; omega
    · obtain rfl : m = 32 := by omega
      have hge : ¬ ((32 : Nat) : Int) < 32 := by omega
      rw [Nat.mod_eq_of_lt (show r < 2 ^ 32 from hr)]
      clear hlt hm
      go_wp2
      go_ret
      exact ⟨rfl, HF.out⟩
/-- Behind n rounds of 'twice'. -/
def TwI (k : Nat) (w : World) (g0 g1 g2 : Nat) (i : Value) (wr : World) : Prop := ∃ (n : Nat) (cs : Array Value), n ≤ 32 ∧ i = .int .i64 n ∧ Blk wr g0 46 (MA k) ∧ (∃ z, Blk wr g1 46 z ∧ z.size = 32) ∧ Blk wr g2 46 cs ∧ cs.size = 32 ∧ (∀ j, j < n → cs[j]? = some (.int .u32 (it (2 * k) (2 ^ j) : Nat))) ∧ Fr No w wr

theorem it_lt2 (k : Nat) {i : Nat} (hi : i < 32) : it k (2 ^ i) < 4294967296 := it_lt k (Nat.pow_lt_pow_right (a := 2) (n := 32) (m := i) (by omega) hi)
theorem info_matrix (cs : Array Value) (h : cs.size = 32) : (Tryd.prog.info? 46).map (·.size) = some cs.size := by rw [h]; kernel_rfl

theorem twI_start (k : Nat) (w : World) (z1 z2 : Array Value) (h1 : z1.size = 32) (h2 : z2.size = 32) :
    TwI k w w.heap.size (w.heap.size + 1) (w.heap.size + 1 + 1) (.int .i64 0) (((w.alloc (.cells (MA k) 46)).alloc (.cells z1 46)).alloc (.cells z2 46)) := by
  have e1 := (Blk.new (w.alloc (.cells (MA k) 46)) 46 z1).alloc (.cells z2 46)
  have e2 := Blk.new ((w.alloc (.cells (MA k) 46)).alloc (.cells z1 46)) 46 z2
  rw [World.size_alloc] at e1
  rw [World.size_alloc, World.size_alloc] at e2
  exact ⟨0, z2, by omega, rfl, ((Blk.new w _ _).alloc _).alloc _, ⟨z1, e1, h1⟩, e2, h2, fun j hj => by omega, (((Fr.refl _ _).alloc _).alloc _).alloc _⟩

theorem twI_step (k : Nat) (w : World) (g0 g1 g2 n : Nat) (M z cs : Array Value) (w5 : World) (hn : n + 1 ≤ 32) (hM : MA k = M) (b0 : Blk w5 g0 46 M) (b1 : Blk w5 g1 46 z) (hz : z.size = 32) (b2 : Blk w5 g2 46 cs) (hcs : cs.size = 32)
    (hfill : ∀ j, j < n → cs[j]? = some (.int .u32 (it (2 * k) (2 ^ j) : Nat))) (hf : Fr No w w5) (n1 : g2 ≠ g0) (n2 : g2 ≠ g1) (ns : w.heap.size ≤ g1 ∧ w.heap.size ≤ g2) :
    TwI k w g0 g1 g2 (.int .i64 ((n : Int) + 1)) (w5.setCell ⟨g2, n, none⟩ (.int .u32 (it (2 * k) (2 ^ n) : Nat))) := by
  refine ⟨n + 1, _, hn, by go_num, hM ▸ b0.far (p := ⟨g2, n, none⟩) n1.symm _, ⟨z, b1.far (p := ⟨g2, n, none⟩) n2.symm _, hz⟩, b2.set_ n _, by simp [hcs], fun j hj => ?_, hf.setCell (p := ⟨g2, n, none⟩) (fun h => absurd h (by have := ns.2; simp; omega)) _⟩
  rcases Nat.lt_or_ge j n with h | h
  · rw [Array.getElem?_setIfInBounds_ne (by omega)]
    exact hfill j h
  · obtain rfl : j = n := by omega
    rw [Array.getElem?_setIfInBounds_self_of_lt (by omega)]

theorem MA_eq (k : Nat) (cs : Array Value) (hs : cs.size = 32) (h : ∀ j, j < 32 → cs[j]? = some (.int .u32 (it k (2 ^ j) : Nat))) : cs = MA k := by
  apply Array.ext_getElem?
  intro j
  rcases Nat.lt_or_ge j 32 with hj | hj
  · rw [h j hj, MA_get k j hj]
  · rw [Array.getElem?_eq_none (by omega), Array.getElem?_eq_none (by rw [MA_size]; omega)]

theorem twice_any (k : Nat) (w : World) : Calls Tryd.prog 26 #[.agg (MA k)] w fun e w' => e = .returned (.agg (MA (2 * k))) ∧ Fr No w w' := by
  have hsz := MA_size k
  obtain ⟨M, hM⟩ : ∃ M, MA k = M := ⟨_, rfl⟩
  rw [hM] at hsz
  rw [hM]
  have HS := hid hsz
  have HM := hid hM
  clear hsz hM
  go_enter Tryd.func26, Tryd.ntmps26
  go_wp2
  have HOF := hid (fun (r : Nat) (w : World) (hr : r < 4294967296) => of_any k r w hr)
  rw [HM.out] at HOF
  go_loopw [5] (fun i wr => TwI k w w.heap.size (w.heap.size + 1) (w.heap.size + 1 + 1) i wr) (fun i _ => 32 - (intOf i).toNat)
  case atStart =>
    rw [← HM.out]
    exact twI_start k w _ _ rfl rfl
  case round =>
    obtain ⟨n, cs, hn, rfl, b0, ⟨z, b1, hz⟩, b2, hcs, hfill, hf⟩ := hrel
    rw [HM.out] at b0
    obtain ⟨g0, hg0⟩ : ∃ g, w.heap.size = g := ⟨_, rfl⟩
    obtain ⟨g1, hg1⟩ : ∃ g, w.heap.size + 1 = g := ⟨_, rfl⟩
    obtain ⟨g2, hg2⟩ : ∃ g, w.heap.size + 1 + 1 = g := ⟨_, rfl⟩
    have N1 := hid (show g2 ≠ g0 by omega)
    have N2 := hid (show g2 ≠ g1 by omega)
    have NS := hid (show w.heap.size ≤ g1 ∧ w.heap.size ≤ g2 by omega)
    rw [hg2] at b2
    rw [hg1] at b1
    rw [hg0] at b0
    rw [hg2, hg1, hg0]
    have B0 := hid b0.drew
    have B1 := hid b1.drew
    have B2 := hid b2.drew
    have F0 := hid hf.drew
    have HFI := hid hfill
    have HCS := hid hcs
    have HZ := hid hz
    have HI := hid (info_matrix M HS.out)
    by_cases hlt : n < 32
    · have hc := b0.cell n
      rw [← HM.out, MA_get k n hlt] at hc
      have hn3 : (n : Int) < 32 := by omega
      have HOF2 := hid (HOF.out (it k (2 ^ n)) wr.drew (it_lt2 k hlt))
      rw [← it_add, show k + k = 2 * k by omega] at HOF2
      obtain ⟨vv, hvv⟩ : ∃ v, cs[n]? = some v := ⟨_, Array.getElem?_eq_getElem (by omega)⟩
      have HV := hid hvv
      have HLT := hid hlt
      have hlt2 : n + 1 ≤ 32 := hlt
      clear b0 b1 b2 hf hfill hcs hz hg0 hg1 hg2 hn hlt hvv
      go_wp2
      refine wp_region_any (by kernel_rfl) ?_
      change wpAny _ _ _ _ _ _ _ (World.drew _)
      refine wpAny_take (i := 0) (v := .int .i64 n) rfl (by kernel_rfl) (by kernel_rfl) (by kernel_rfl) (fun _ _ _ h => h) (Or.inl ⟨by kernel_rfl, fun w => (by first | (go_simp; done) | (go_simp; with_reducible rfl))⟩) ?_
      try simp only [Act.put, List.getElem_toArray, List.getElem_cons_zero, List.setIfInBounds_toArray, List.set_cons_zero, List.set_cons_succ]
      refine wpAny_take (i := 2) (v := .int .i64 n) rfl (by kernel_rfl) (by kernel_rfl) (by kernel_rfl) (fun _ _ _ h => h) (Or.inl ⟨by kernel_rfl, fun w => (by first | (go_simp; done) | (go_simp; with_reducible rfl))⟩) ?_
      try simp only [Act.put, List.getElem_toArray, List.getElem_cons_succ, List.getElem_cons_zero, List.setIfInBounds_toArray, List.set_cons_zero, List.set_cons_succ]
      refine wpAny_take (i := 3) (v := .pointer (some ⟨g0, n, none⟩)) rfl (by kernel_rfl) (by kernel_rfl) (by kernel_rfl) (fun _ _ _ h => h) (Or.inl ⟨by kernel_rfl, fun w => (by first | (go_simp; done) | (go_simp; with_reducible rfl))⟩) ?_
      try simp only [Act.put, List.getElem_toArray, List.getElem_cons_succ, List.getElem_cons_zero, List.setIfInBounds_toArray, List.set_cons_zero, List.set_cons_succ]
      refine wpAny_ready (rs := [1, 4]) (by kernel_rfl) (by simp) (AllReady.cons rfl (fun K hK => ?_) (AllReady.cons rfl (fun K hK => ?_) AllReady.nil))
      · refine step_load_row rfl 46 _ rfl _ rfl 46 M _ B0.out Tryd.underlying46 rfl HI.out (hK _ _ ?_)
        clear hK K
        (try (refine hK _ _ ?_; clear hK K))
        try simp only [Act.put, List.getElem_toArray, List.getElem_cons_succ, List.getElem_cons_zero, List.setIfInBounds_toArray, List.set_cons_zero, List.set_cons_succ]
        refine wpAny_ready (rs := [4]) (by kernel_rfl) (by simp) (AllReady.cons rfl (fun K hK => ?_) AllReady.nil)
        go_simp
        (try (refine hK _ _ ?_; clear hK K))
        try simp only [Act.put, List.getElem_toArray, List.getElem_cons_succ, List.getElem_cons_zero, List.setIfInBounds_toArray, List.set_cons_zero, List.set_cons_succ]
        refine wpAny_ready (rs := [5]) (by kernel_rfl) (by simp) (AllReady.cons rfl (fun K hK => ?_) AllReady.nil)
        go_simp
        go_at_call 27
        refine HOF2.out.mono ?_
        rintro e w5 ⟨rfl, F5⟩
        have B05 := hid (B0.out.fr F5 (fun h => h))
        have B15 := hid (B1.out.fr F5 (fun h => h))
        have B25 := B2.out.fr F5 (fun h => h)
        have fz := B25.frozen n
        have cz := (B25.cell n).trans HV.out
        have F05 := hid (F0.out.trans F5)
        have hb5 := hid B25
        clear B25 F5
        go_wp2_with fail
        (try (refine hK _ _ ?_; clear hK K))
        try simp only [Act.put, List.getElem_toArray, List.getElem_cons_succ, List.getElem_cons_zero, List.setIfInBounds_toArray, List.set_cons_zero, List.set_cons_succ]
        refine wpAny_take (i := 6) (v := .pointer (some ⟨g2, n, none⟩)) rfl (by kernel_rfl) (by kernel_rfl) (by kernel_rfl) (fun _ _ _ h => h) (Or.inl ⟨by kernel_rfl, fun w => (by first | (go_simp; done) | (go_simp; with_reducible rfl))⟩) ?_
        try simp only [Act.put, List.getElem_toArray, List.getElem_cons_succ, List.getElem_cons_zero, List.setIfInBounds_toArray, List.set_cons_zero, List.set_cons_succ]
        refine wpAny_ready (rs := [7]) (by kernel_rfl) (by simp) (AllReady.cons rfl (fun K hK => ?_) AllReady.nil)
        go_simp
        (try (refine hK _ _ ?_; clear hK K))
        try simp only [Act.put, List.getElem_toArray, List.getElem_cons_succ, List.getElem_cons_zero, List.setIfInBounds_toArray, List.set_cons_zero, List.set_cons_succ]
        refine wpAny_done (by kernel_rfl) ?_ _
        go_wp2
        go_roundw
        case rel => exact twI_step k w _ _ _ n M z cs w5 hlt2 HM.out B05.out B15.out HZ.out hb5.out HCS.out HFI.out F05.out N1.out N2.out NS.out
        case measure => simp [intOf]; omega
      · go_simp
        (try (refine hK _ _ ?_; clear hK K))
        try simp only [Act.put, List.getElem_toArray, List.getElem_cons_succ, List.getElem_cons_zero, List.setIfInBounds_toArray, List.set_cons_zero, List.set_cons_succ]
        refine wpAny_ready (rs := [1]) (by kernel_rfl) (by simp) (AllReady.cons rfl (fun K hK => ?_) AllReady.nil)
        refine step_load_row rfl 46 _ rfl _ rfl 46 M _ B0.out Tryd.underlying46 rfl HI.out (hK _ _ ?_)
        clear hK K
        (try (refine hK _ _ ?_; clear hK K))
        try simp only [Act.put, List.getElem_toArray, List.getElem_cons_succ, List.getElem_cons_zero, List.setIfInBounds_toArray, List.set_cons_zero, List.set_cons_succ]
        refine wpAny_ready (rs := [5]) (by kernel_rfl) (by simp) (AllReady.cons rfl (fun K hK => ?_) AllReady.nil)
        go_simp
        go_at_call 27
        refine HOF2.out.mono ?_
        rintro e w5 ⟨rfl, F5⟩
        have B05 := hid (B0.out.fr F5 (fun h => h))
        have B15 := hid (B1.out.fr F5 (fun h => h))
        have B25 := B2.out.fr F5 (fun h => h)
        have fz := B25.frozen n
        have cz := (B25.cell n).trans HV.out
        have F05 := hid (F0.out.trans F5)
        have hb5 := hid B25
        clear B25 F5
        go_wp2_with fail
        (try (refine hK _ _ ?_; clear hK K))
        try simp only [Act.put, List.getElem_toArray, List.getElem_cons_succ, List.getElem_cons_zero, List.setIfInBounds_toArray, List.set_cons_zero, List.set_cons_succ]
        refine wpAny_take (i := 6) (v := .pointer (some ⟨g2, n, none⟩)) rfl (by kernel_rfl) (by kernel_rfl) (by kernel_rfl) (fun _ _ _ h => h) (Or.inl ⟨by kernel_rfl, fun w => (by first | (go_simp; done) | (go_simp; with_reducible rfl))⟩) ?_
        try simp only [Act.put, List.getElem_toArray, List.getElem_cons_succ, List.getElem_cons_zero, List.setIfInBounds_toArray, List.set_cons_zero, List.set_cons_succ]
        refine wpAny_ready (rs := [7]) (by kernel_rfl) (by simp) (AllReady.cons rfl (fun K hK => ?_) AllReady.nil)
        go_simp
        (try (refine hK _ _ ?_; clear hK K))
        try simp only [Act.put, List.getElem_toArray, List.getElem_cons_succ, List.getElem_cons_zero, List.setIfInBounds_toArray, List.set_cons_zero, List.set_cons_succ]
        refine wpAny_done (by kernel_rfl) ?_ _
        go_wp2
        go_roundw
        case rel => exact twI_step k w _ _ _ n M z cs w5 hlt2 HM.out B05.out B15.out HZ.out hb5.out HCS.out HFI.out F05.out N1.out N2.out NS.out
        case measure => simp [intOf]; omega
    · obtain rfl : n = 32 := by omega
      have hge : ¬ ((32 : Nat) : Int) < 32 := by omega
      have C1 := hid b1
      have C2 := hid b2
      have CF := hid hf
      have HI2 := hid (info_matrix cs hcs)
      have HO := hid (show z.size = cs.size by omega)
      have hcc := MA_eq (2 * k) cs hcs hfill
      have HC := hid hcc
      have H1 := hid (show cs.all (·.oneCell') = true by rw [hcc]; exact MA_one _)
      clear b0 b1 b2 hf hfill hcs hz hg0 hg1 hg2 hn hlt hcc
      go_wp2_with (first | (refine wpList_load_row rfl 46 (.tmp 3) rfl g2 rfl 46 cs (0, 0) _ C2.out Tryd.underlying46 rfl HI2.out ?_) | (refine wpList_store_row rfl 46 (.tmp 2) (.tmp 16) rfl g1 cs rfl rfl 46 z C1.out HI2.out HO.out H1.out ?_))
      have C12 := C1.out.setRow cs


      refine bodyPost_ret (v := .agg (MA (2 * k))) ?_ rfl ?_
      · rw [← HC.out]
        exact results_cell_row rfl _ _ g1 46 cs (0, 0) _ rfl C12 Tryd.underlying46 rfl HI2.out
      · exact ⟨rfl, CF.out.setRow (fun h => absurd h (by have := NS.out; omega)) _⟩
end Go.Proofs.YtlcafkjnikiomaaDoor.CrcB
