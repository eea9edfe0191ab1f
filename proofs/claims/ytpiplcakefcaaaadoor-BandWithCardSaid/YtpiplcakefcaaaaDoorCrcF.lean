/- The plain sealed sector's contracts, and what must come of every program. Condition: what is handed in reads as bytes; the table is as its text lays it. -/
import Derived.Test.YtpiplcakefcaaaaDoorCrcE
import Derived.Lib.Bytes
namespace Go.Proofs.YtpiplcakefcaaaaDoor.CrcF
open Go.RowKit MSep MFrame CrcM CrcA CrcB CrcC CrcD CrcE

theorem lo4 (S : Nat) (_h : S < 4294967296) : lo S 4 = [(S : Int) % 256, (S : Int) / 256 % 256, (S : Int) / 65536 % 256, (S : Int) / 16777216 % 256] := by
  have e : lo S 4 = [((S / 1 % 256 : Nat) : Int), ((S / 256 % 256 : Nat) : Int), ((S / 65536 % 256 : Nat) : Int), ((S / 16777216 % 256 : Nat) : Int)] := rfl
  rw [e]
  simp

set_option maxRecDepth 100000 in
theorem refSeal_ok (A : Option Addr) (l c : Nat) (zs : List Int) (w : World) (hl : l ≤ 124) (hb : Rd w A l (cells zs)) (hz : ∀ x ∈ zs, 0 ≤ x ∧ x ≤ 255) :
    Calls Tryd.prog 64 #[.slice A l c] w fun e w' => ∃ A' c', e = .returned (.slice A' 128 c') ∧ w'.ownsRow w.heap.size 5 1 (.slice A' 128 c') 128 (cells (seal_ zs)) ∧ Fr No w w' := by
  obtain ⟨i0, hi, hz0, hz1, hz2⟩ := info_parts u8_info
  have hlen : zs.length = l := by simpa [cells] using hb.1
  have HB := hid hb
  have HZ := hid hz
  have HLEN := hid hlen
  have hown0 : (w.alloc (.cells #[] 5)).ownsRow w.heap.size 5 1 (.slice (some ⟨w.heap.size, 0, none⟩) 0 0) 0 [] := World.ownsRow_lit w #[] 0 (Nat.le_refl _) (by simp [maxLen]) rfl
  have HO := hid hown0
  have HA := hid (hb.fr (S := No) ((Fr.refl _ w).alloc (.cells #[] 5)) (fun _ _ _ h => h))
  clear hb hz hlen hown0
  go_enter Tryd.func64, Tryd.ntmps64
  go_wp2_with (first | (at_builtin; refine wpList_app rfl (.tmp 5) (.tmp 6) 27 rfl w.heap.size 5 i0 (.int .u8 0) 1 Tryd.underlying27 hi hz0 hz1 hz2 rfl _ 0 [] rfl HO.out A l c (cells zs) rfl HA.out one_u8s (by simp only [maxLen]; omega) (by omega) (by simp) ?_))
  intro A1 c1 w1 own1 f1 s1
  have hf1 : Fr No w w1 := ((Fr.refl No w).alloc (.cells #[] 5)).step f1 (fun i hi h => by simp [Value.ownBlock] at h; omega)
  have O1 := hid own1
  have F1 := hid hf1
  have S1 := hid s1
  have hsub : (124 : Int) - l = (124 - l : Nat) := by omega
  have HSUB := hid hsub
  clear own1 f1 s1 hf1 hsub
  go_wp2_with (at_builtin; go_loud (refine wpList_appz rfl (.tmp 7) (.tmp 10) 27 3 rfl w.heap.size 5 i0 (.int .u8 0) 1 .i64 .i64 Tryd.underlying27 Tryd.underlying3 hi hz0 hz1 hz2 rfl rfl _ l _ rfl O1.out (124 - l) _ rfl HSUB.out (by simp only [maxLen]; omega) (by omega) F1.out.size ?_))
  intro A2 c2 w2 own2 f2 s2
  have hf2 : Fr No w w2 := F1.out.step f2 (fun i hi h => absurd hi (by rcases S1.out i h with h | h; (simp [Value.ownBlock] at h; omega); omega))
  have hs2 : ∀ k, (Value.slice A2 124 c2).ownBlock = some k → w.heap.size ≤ k := fun k hk => by
    rcases s2 k hk with h | h
    · rcases S1.out k h with h | h
      · simp [Value.ownBlock] at h; omega
      · omega
    · exact Nat.le_trans F1.out.size h
  rw [show cells zs ++ List.replicate (124 - l) (Value.int .u8 0) = cells (rest zs) by rw [rest, HLEN.out, cells, cells, List.map_append, List.map_replicate]] at own2
  have O2 := hid own2
  have F2 := hid hf2
  have S2 := hid hs2
  have HS := hid (refSum_any A2 124 c2 (rest zs) w2 (Rd.own own2) (rest_u8 HZ.out) (by simp [maxLen]))
  clear own2 f2 s2 hf2 hs2 F1 O1 S1
  go_wp2_with fail
  refine HS.out.mono ?_
  rintro e w' ⟨rfl, rfl⟩
  obtain ⟨S, hS⟩ : ∃ S, onN 0 (rest zs) = S := ⟨_, rfl⟩
  have hS2 : S < 4294967296 := by rw [← hS]; exact nt_lt _
  rw [hS]
  have HSS := hid hS
  have hF4 := F2.out.alloc (.cells #[.int .u8 ((S : Int) % 256), .int .u8 ((S : Int) / 256 % 256), .int .u8 ((S : Int) / 65536 % 256), .int .u8 ((S : Int) / 16777216 % 256)] 5)
  have O3 := hid (World.ownsRow_lit (base := w.heap.size) (e := 5) (size := 1) w2 #[.int .u8 ((S : Int) % 256), .int .u8 ((S : Int) / 256 % 256), .int .u8 ((S : Int) / 65536 % 256), .int .u8 ((S : Int) / 16777216 % 256)] 4 F2.out.size (by simp [maxLen]) rfl)
  have A3 := hid ((Rd.own O2.out).fr (S := No) ((Fr.refl _ w2).alloc (.cells #[.int .u8 ((S : Int) % 256), .int .u8 ((S : Int) / 256 % 256), .int .u8 ((S : Int) / 65536 % 256), .int .u8 ((S : Int) / 16777216 % 256)] 5)) (fun _ _ _ h => h))
  have H4 := hid hF4
  have H5 := hid hS2
  clear hS hF4 hS2 O2 S2
  go_wp2_with (at_builtin; go_loud (refine wpList_app rfl (.tmp 25) (.tmp 26) 27 rfl w.heap.size 5 i0 (.int .u8 0) 1 Tryd.underlying27 hi hz0 hz1 hz2 rfl _ 4 _ rfl O3.out A2 124 c2 (cells (rest zs)) rfl A3.out one_u8s (by simp only [maxLen]; omega) (by omega) H4.out.size ?_))
  intro A5 c5 w5 own5 f5 s5
  have hf5 : Fr No w w5 := H4.out.step f5 (fun i hi h => absurd hi (by have := F2.out.size; simp [Value.ownBlock] at h; omega))
  have e5 : cells (seal_ zs) = [.int .u8 ((S : Int) % 256), .int .u8 ((S : Int) / 256 % 256), .int .u8 ((S : Int) / 65536 % 256), .int .u8 ((S : Int) / 16777216 % 256)] ++ cells (rest zs) := by
    rw [seal_, HSS.out, cells, List.map_append, lo4 S H5.out]
    rfl
  have O5 := hid own5
  have H6 := hid hf5
  have E5 := hid e5
  clear own5 f5 s5 hf5 e5
  go_wp2
  go_ret
  exact ⟨A5, c5, rfl, by rw [E5.out]; exact O5.out, H6.out⟩
/-- Bytes as a string: the same string only of the same bytes. -/
theorem str_inj {xs ys : List Int} (hx : ∀ x ∈ xs, 0 ≤ x ∧ x ≤ 255) (hy : ∀ x ∈ ys, 0 ≤ x ∧ x ≤ 255) (h1 : (xs.map fun n => UInt8.ofNat n.toNat) = ys.map fun n => UInt8.ofNat n.toNat) : xs = ys := by
  induction xs generalizing ys with
  | nil =>
    cases ys with
    | nil => rfl
    | cons y ys => simp at h1
  | cons x xs ih =>
    cases ys with
    | nil => simp at h1
    | cons y ys =>
      simp only [List.map_cons, List.cons.injEq] at h1
      have a := hx x (by simp)
      have b := hy y (by simp)
      have e := congrArg UInt8.toNat h1.1
      simp at e
      rw [ih (fun z hz => hx z (by simp [hz])) (fun z hz => hy z (by simp [hz])) h1.2]
      congr 1
      omega
theorem str_list (xs : List Int) : (strOfNums xs).toList = xs.map fun n => UInt8.ofNat n.toNat := by
  rw [Lib.strOfNums_toList]
  rfl
theorem str_beq {xs ys : List Int} (hx : ∀ x ∈ xs, 0 ≤ x ∧ x ≤ 255) (hy : ∀ x ∈ ys, 0 ≤ x ∧ x ≤ 255) : ((strOfNums xs).toList == (strOfNums ys).toList) = (xs == ys) := by
  rw [str_list, str_list, Bool.eq_iff_iff, beq_iff_eq, beq_iff_eq]
  exact ⟨str_inj hx hy, fun h => by rw [h]⟩
theorem chk_eq (zs : List Int) (hl : zs.length = 128) (hz : ∀ x ∈ zs, 0 ≤ x ∧ x ≤ 255) : (seal_ (zs.drop 4) == zs) = (ld zs 4 == onN 0 (zs.drop 4)) := by
  match zs, hl with
  | a :: b :: c :: d :: r, hl =>
    have hr : r.length = 124 := by simpa using hl
    have ha := hz a (by simp)
    have hb := hz b (by simp)
    have hc := hz c (by simp)
    have hd := hz d (by simp)
    have e1 : rest r = r := by rw [rest, hr]; simp
    have e2 : (a :: b :: c :: d :: r).drop 4 = r := rfl
    have hS : onN 0 r < 4294967296 := nt_lt _
    rw [e2, seal_, e1]
    obtain ⟨S, hS2⟩ : ∃ S, onN 0 r = S := ⟨_, rfl⟩
    rw [hS2] at hS ⊢
    have e3 : ld (a :: b :: c :: d :: r) 4 = a.toNat + 256 * b.toNat + 65536 * c.toNat + 16777216 * d.toNat := by
      simp [ld]
    rw [lo4 S hS, e3, Bool.eq_iff_iff, beq_iff_eq, beq_iff_eq]
    simp only [List.cons_append, List.nil_append, List.cons.injEq, and_true]
    omega

set_option maxRecDepth 100000 in
theorem refCheck_any (A : Option Addr) (l c : Nat) (zs : List Int) (w : World) (hb : IsB w A l c zs) :
    Calls Tryd.prog 68 #[.slice A l c] w fun e w' => e = .returned (.bool (l == 128 && ld zs 4 == onN 0 (zs.drop 4))) ∧ Fr No w w' := by
  have hlen : zs.length = l := by simpa using hb.1.1
  have hl2 := hb.2.1
  have hc2 := hb.2.2.1
  unfold maxLen at hc2
  by_cases h : l = 128
  · subst h
    have hx : ((128 : Nat) == 128 && ld zs 4 == onN 0 (zs.drop 4)) = ((strOfNums (seal_ (zs.drop 4))).toList == (strOfNums zs).toList) := by
      rw [show (128 == 128) = true from rfl, Bool.true_and, str_beq (seal_u8 (fun x hx => hb.2.2.2 x (List.mem_of_mem_drop hx))) hb.2.2.2, chk_eq zs hlen hb.2.2.2]
    have HX := hid hx
    obtain ⟨d, o, rfl, hd, hc⟩ := hb.1.2 (by omega)
    have hR : Rd (w.drewN 1) (some ⟨d, o + 4, none⟩) 124 (cells (zs.drop 4)) := by
      have := hb.1.cut (k := 4) (by omega) hl2
      rw [cutA, if_neg (by omega), Option.map_some, add_off, ← List.map_drop] at this
      exact this.drewN 1
    have HS := hid (refSeal_ok _ 124 (c - 4) (zs.drop 4) _ (Nat.le_refl _) hR (fun x hx => hb.2.2.2 x (List.mem_of_mem_drop hx)))
    have hc4 : ¬ c = 4 := by omega
    have s0 := run_str (P := Tryd.prog) w.drew 27 9 5 Tryd.underlying27 Tryd.underlying5 Tryd.underlying9 _ _ c _ (hb.1.drewN 1)
    have HB := hid hb
    obtain ⟨T1, hT1⟩ : ∃ T, strOfNums zs = T := ⟨_, rfl⟩
    obtain ⟨T2, hT2⟩ : ∃ T, strOfNums (seal_ (zs.drop 4)) = T := ⟨_, rfl⟩
    rw [hT1] at HX s0
    rw [hT2] at HX
    rw [HX.out]
    have HT1 := hid hT1
    have HT2 := hid hT2
    clear hb hx hc hR hlen hT1 hT2
    go_enter Tryd.func68, Tryd.ntmps68
    go_wp2_with fail
    refine wp_region_any (by kernel_rfl) ?_
    change wpAny _ _ _ _ _ _ _ (World.drew _)
    refine wpAny_take (i := 0) (v := (.slice (some ⟨d, o, none⟩) 128 c)) rfl (by kernel_rfl) (by kernel_rfl) (by kernel_rfl) (fun _ _ _ h => h) (Or.inl ⟨by kernel_rfl, fun w => (by first | (go_simp; done) | (go_simp; with_reducible rfl))⟩) ?_
    try simp only [Act.put, List.getElem_toArray, List.getElem_cons_zero, List.setIfInBounds_toArray, List.set_cons_zero, List.set_cons_succ]
    refine wpAny_take (i := 1) (v := .int .i64 128) rfl (by kernel_rfl) (by kernel_rfl) (by kernel_rfl) (fun _ _ _ h => h) (Or.inl ⟨by kernel_rfl, fun w => (by first | (go_simp; done) | (go_simp; with_reducible rfl))⟩) ?_
    try simp only [Act.put, List.getElem_toArray, List.getElem_cons_succ, List.getElem_cons_zero, List.setIfInBounds_toArray, List.set_cons_zero, List.set_cons_succ]
    refine wpAny_take (i := 2) (v := .bool true) rfl (by kernel_rfl) (by kernel_rfl) (by kernel_rfl) (fun _ _ _ h => h) (Or.inl ⟨by kernel_rfl, fun w => (by first | (go_simp; done) | (go_simp; with_reducible rfl))⟩) ?_
    try simp only [Act.put, List.getElem_toArray, List.getElem_cons_succ, List.getElem_cons_zero, List.setIfInBounds_toArray, List.set_cons_zero, List.set_cons_succ]
    refine wpAny_take (i := 3) (v := .bool true) rfl (by kernel_rfl) (by kernel_rfl) (by kernel_rfl) (fun _ _ _ h => h) (Or.inl ⟨by kernel_rfl, fun w => (by first | (go_simp; done) | (go_simp; with_reducible rfl))⟩) ?_
    try simp only [Act.put, List.getElem_toArray, List.getElem_cons_succ, List.getElem_cons_zero, List.setIfInBounds_toArray, List.set_cons_zero, List.set_cons_succ]
    refine wpAny_take (i := 4) (v := (.slice (some ⟨d, o, none⟩) 128 c)) rfl (by kernel_rfl) (by kernel_rfl) (by kernel_rfl) (fun _ _ _ h => h) (Or.inl ⟨by kernel_rfl, fun w => (by first | (go_simp; done) | (go_simp; with_reducible rfl))⟩) ?_
    try simp only [Act.put, List.getElem_toArray, List.getElem_cons_succ, List.getElem_cons_zero, List.setIfInBounds_toArray, List.set_cons_zero, List.set_cons_succ]
    refine wpAny_take (i := 8) (v := (.slice (some ⟨d, o, none⟩) 128 c)) rfl (by kernel_rfl) (by kernel_rfl) (by kernel_rfl) (fun _ _ _ h => h) (Or.inl ⟨by kernel_rfl, fun w => (by first | (go_simp; done) | (go_simp; with_reducible rfl))⟩) ?_
    try simp only [Act.put, List.getElem_toArray, List.getElem_cons_succ, List.getElem_cons_zero, List.setIfInBounds_toArray, List.set_cons_zero, List.set_cons_succ]
    refine wpAny_take (i := 5) (v := (.slice (some ⟨d, o + 4, none⟩) 124 (c - 4))) rfl (by kernel_rfl) (by kernel_rfl) (by kernel_rfl) (fun _ _ _ h => h) (Or.inl ⟨by kernel_rfl, fun w => (by first | (go_simp; done) | (go_simp; with_reducible rfl))⟩) ?_
    try simp only [Act.put, List.getElem_toArray, List.getElem_cons_succ, List.getElem_cons_zero, List.setIfInBounds_toArray, List.set_cons_zero, List.set_cons_succ]
    refine wpAny_ready (rs := [6, 9]) (by kernel_rfl) (by simp) (AllReady.cons rfl (fun K hK => ?_) (AllReady.cons rfl (fun K hK => ?_) AllReady.nil))
    · go_simp
      go_at_call 64
      refine HS.out.mono ?_
      rintro e w5 ⟨A5, c5, rfl, own5, F5⟩
      have s1 := run_str (P := Tryd.prog) w5 27 9 5 Tryd.underlying27 Tryd.underlying5 Tryd.underlying9 _ _ c5 _ (Rd.own own5)
      have s2 := run_str (P := Tryd.prog) w5 27 9 5 Tryd.underlying27 Tryd.underlying5 Tryd.underlying9 _ _ c _ ((HB.out.1.drewN 1).fr F5 (fun _ _ _ h => h))
      rw [HT1.out] at s2
      rw [HT2.out] at s1
      have HF5 := hid F5
      clear own5 F5
      go_wp2_with fail
      (try (refine hK _ _ ?_; clear hK K))
      try simp only [Act.put, List.getElem_toArray, List.getElem_cons_succ, List.getElem_cons_zero, List.setIfInBounds_toArray, List.set_cons_zero, List.set_cons_succ]
      refine wpAny_ready (rs := [7, 9]) (by kernel_rfl) (by simp) (AllReady.cons rfl (fun K hK => ?_) (AllReady.cons rfl (fun K hK => ?_) AllReady.nil))
      · go_simp
        (try (refine hK _ _ ?_; clear hK K))
        try simp only [Act.put, List.getElem_toArray, List.getElem_cons_succ, List.getElem_cons_zero, List.setIfInBounds_toArray, List.set_cons_zero, List.set_cons_succ]
        refine wpAny_ready (rs := [9]) (by kernel_rfl) (by simp) (AllReady.cons rfl (fun K hK => ?_) AllReady.nil)
        go_simp
        (try (refine hK _ _ ?_; clear hK K))
        try simp only [Act.put, List.getElem_toArray, List.getElem_cons_succ, List.getElem_cons_zero, List.setIfInBounds_toArray, List.set_cons_zero, List.set_cons_succ]
        refine wpAny_ready (rs := [10]) (by kernel_rfl) (by simp) (AllReady.cons rfl (fun K hK => ?_) AllReady.nil)
        go_simp
        (try (refine hK _ _ ?_; clear hK K))
        try simp only [Act.put, List.getElem_toArray, List.getElem_cons_succ, List.getElem_cons_zero, List.setIfInBounds_toArray, List.set_cons_zero, List.set_cons_succ]
        refine wpAny_ready (rs := [11]) (by kernel_rfl) (by simp) (AllReady.cons rfl (fun K hK => ?_) AllReady.nil)
        go_simp
        (try (refine hK _ _ ?_; clear hK K))
        try simp only [Act.put, List.getElem_toArray, List.getElem_cons_succ, List.getElem_cons_zero, List.setIfInBounds_toArray, List.set_cons_zero, List.set_cons_succ]
        refine wpAny_ready (rs := [12]) (by kernel_rfl) (by simp) (AllReady.cons rfl (fun K hK => ?_) AllReady.nil)
        go_simp
        (try (refine hK _ _ ?_; clear hK K))
        try simp only [Act.put, List.getElem_toArray, List.getElem_cons_succ, List.getElem_cons_zero, List.setIfInBounds_toArray, List.set_cons_zero, List.set_cons_succ]
        refine wpAny_done (by kernel_rfl) ?_ _
        go_wp2
        go_ret
        exact ⟨rfl, ((Fr.refl No w).drewN 1).trans HF5.out⟩
      · go_simp
        (try (refine hK _ _ ?_; clear hK K))
        try simp only [Act.put, List.getElem_toArray, List.getElem_cons_succ, List.getElem_cons_zero, List.setIfInBounds_toArray, List.set_cons_zero, List.set_cons_succ]
        refine wpAny_ready (rs := [7]) (by kernel_rfl) (by simp) (AllReady.cons rfl (fun K hK => ?_) AllReady.nil)
        go_simp
        (try (refine hK _ _ ?_; clear hK K))
        try simp only [Act.put, List.getElem_toArray, List.getElem_cons_succ, List.getElem_cons_zero, List.setIfInBounds_toArray, List.set_cons_zero, List.set_cons_succ]
        refine wpAny_ready (rs := [10]) (by kernel_rfl) (by simp) (AllReady.cons rfl (fun K hK => ?_) AllReady.nil)
        go_simp
        (try (refine hK _ _ ?_; clear hK K))
        try simp only [Act.put, List.getElem_toArray, List.getElem_cons_succ, List.getElem_cons_zero, List.setIfInBounds_toArray, List.set_cons_zero, List.set_cons_succ]
        refine wpAny_ready (rs := [11]) (by kernel_rfl) (by simp) (AllReady.cons rfl (fun K hK => ?_) AllReady.nil)
        go_simp
        (try (refine hK _ _ ?_; clear hK K))
        try simp only [Act.put, List.getElem_toArray, List.getElem_cons_succ, List.getElem_cons_zero, List.setIfInBounds_toArray, List.set_cons_zero, List.set_cons_succ]
        refine wpAny_ready (rs := [12]) (by kernel_rfl) (by simp) (AllReady.cons rfl (fun K hK => ?_) AllReady.nil)
        go_simp
        (try (refine hK _ _ ?_; clear hK K))
        try simp only [Act.put, List.getElem_toArray, List.getElem_cons_succ, List.getElem_cons_zero, List.setIfInBounds_toArray, List.set_cons_zero, List.set_cons_succ]
        refine wpAny_done (by kernel_rfl) ?_ _
        go_wp2
        go_ret
        exact ⟨rfl, ((Fr.refl No w).drewN 1).trans HF5.out⟩
    · go_simp
      (try (refine hK _ _ ?_; clear hK K))
      try simp only [Act.put, List.getElem_toArray, List.getElem_cons_succ, List.getElem_cons_zero, List.setIfInBounds_toArray, List.set_cons_zero, List.set_cons_succ]
      refine wpAny_ready (rs := [6]) (by kernel_rfl) (by simp) (AllReady.cons rfl (fun K hK => ?_) AllReady.nil)
      go_simp
      go_at_call 64
      refine HS.out.mono ?_
      rintro e w5 ⟨A5, c5, rfl, own5, F5⟩
      have s1 := run_str (P := Tryd.prog) w5 27 9 5 Tryd.underlying27 Tryd.underlying5 Tryd.underlying9 _ _ c5 _ (Rd.own own5)
      have s2 := run_str (P := Tryd.prog) w5 27 9 5 Tryd.underlying27 Tryd.underlying5 Tryd.underlying9 _ _ c _ ((HB.out.1.drewN 1).fr F5 (fun _ _ _ h => h))
      rw [HT1.out] at s2
      rw [HT2.out] at s1
      have HF5 := hid F5
      clear own5 F5
      go_wp2_with fail
      (try (refine hK _ _ ?_; clear hK K))
      try simp only [Act.put, List.getElem_toArray, List.getElem_cons_succ, List.getElem_cons_zero, List.setIfInBounds_toArray, List.set_cons_zero, List.set_cons_succ]
      refine wpAny_ready (rs := [7]) (by kernel_rfl) (by simp) (AllReady.cons rfl (fun K hK => ?_) AllReady.nil)
      go_simp
      (try (refine hK _ _ ?_; clear hK K))
      try simp only [Act.put, List.getElem_toArray, List.getElem_cons_succ, List.getElem_cons_zero, List.setIfInBounds_toArray, List.set_cons_zero, List.set_cons_succ]
      refine wpAny_ready (rs := [10]) (by kernel_rfl) (by simp) (AllReady.cons rfl (fun K hK => ?_) AllReady.nil)
      go_simp
      (try (refine hK _ _ ?_; clear hK K))
      try simp only [Act.put, List.getElem_toArray, List.getElem_cons_succ, List.getElem_cons_zero, List.setIfInBounds_toArray, List.set_cons_zero, List.set_cons_succ]
      refine wpAny_ready (rs := [11]) (by kernel_rfl) (by simp) (AllReady.cons rfl (fun K hK => ?_) AllReady.nil)
      go_simp
      (try (refine hK _ _ ?_; clear hK K))
      try simp only [Act.put, List.getElem_toArray, List.getElem_cons_succ, List.getElem_cons_zero, List.setIfInBounds_toArray, List.set_cons_zero, List.set_cons_succ]
      refine wpAny_ready (rs := [12]) (by kernel_rfl) (by simp) (AllReady.cons rfl (fun K hK => ?_) AllReady.nil)
      go_simp
      (try (refine hK _ _ ?_; clear hK K))
      try simp only [Act.put, List.getElem_toArray, List.getElem_cons_succ, List.getElem_cons_zero, List.setIfInBounds_toArray, List.set_cons_zero, List.set_cons_succ]
      refine wpAny_done (by kernel_rfl) ?_ _
      go_wp2
      go_ret
      exact ⟨rfl, ((Fr.refl No w).drewN 1).trans HF5.out⟩
  · have he : ((l : Int) == 128) = false := by rw [beq_eq_false_iff_ne]; omega
    have hx : (l == 128 && ld zs 4 == onN 0 (zs.drop 4)) = false := by rw [show (l == 128) = false by simpa using h, Bool.false_and]
    rw [hx]
    clear hx hb hlen h
    go_enter Tryd.func68, Tryd.ntmps68
    go_wp2_with fail
    go_quiet (fail)
    go_wp2
    go_ret
    exact ⟨rfl, Fr.drewN (Fr.refl No w) _⟩
end Go.Proofs.YtpiplcakefcaaaaDoor.CrcF
