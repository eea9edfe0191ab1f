/- The walks of CrcJoins and CrcParts. Conditions: the table is as its text lays it; what came in holds at most 2^20 values. -/
import Derived.Test.YtlcafkjnikiomaaDoorCrcG
namespace Go.Proofs.YtlcafkjnikiomaaDoor.CrcP
open Go.RowKit MSep MFrame CrcM CrcA CrcB CrcC CrcD CrcE CrcF CrcG

theorem join_at (xs ys : List Int) (l : Nat) (hl : ys.length = l) (h63 : l ≤ maxLen) (hx : ∀ x ∈ xs, 0 ≤ x ∧ x ≤ 255) (hy : ∀ x ∈ ys, 0 ≤ x ∧ x ≤ 255) (w : World) :
    Calls Tryd.prog 19 #[.int .u32 (onN 0 xs : Nat), .int .u32 (onN 0 ys : Nat), .int .i64 l] w fun e w' => e = .returned (.int .u32 (onN 0 (xs ++ ys) : Nat)) ∧ Fr No w w' := by
  have h := join_any (onN 0 xs) (onN 0 ys) l w (nt_lt _) (nt_lt _) (by omega)
  rw [Int.toNat_natCast, ← hl, ← join_eq 0 xs ys hx hy] at h
  rw [← hl]
  exact h

set_option maxHeartbeats 1000000 in
theorem joins_walk (A : Option Addr) (l c : Nat) (xs : List Int) (A2 : Option Addr) (l2 c2 : Nat) (ys : List Int) (w : World) (hb : IsB w A l c xs) (hb2 : IsB w A2 l2 c2 ys) (hs : l + l2 ≤ 1048576) (hT : TabAt w) : Calls Tryd.prog 6 #[.slice A l c, .slice A2 l2 c2] w fun e w' => e = .returned (.bool true) ∧ Fr No w w' := by
  obtain ⟨i0, hi, hz0, hz1, hz2⟩ := info_parts u8_info
  have hl1 : xs.length = l := by simpa using hb.1.1
  have hl2 : ys.length = l2 := by simpa using hb2.1.1
  have hown0 : (w.alloc (.cells #[] 5)).ownsRow w.heap.size 5 1 (.slice (some ⟨w.heap.size, 0, none⟩) 0 0) 0 [] := World.ownsRow_lit w #[] 0 (Nat.le_refl _) (by simp [maxLen]) rfl
  have HO := hid hown0
  have HA := hid (fun (w1 : World) (f : Fr No w w1) => hb.1.fr f (fun _ _ _ h => h))
  have HA2 := hid (fun (w1 : World) (f : Fr No w w1) => hb2.1.fr f (fun _ _ _ h => h))
  have HF0 := hid ((Fr.refl No w).alloc (.cells #[] 5))
  have HR1 := hid (HA.out _ HF0.out)
  have HT := hid (fun (w1 : World) (f : Fr No w w1) => hT.fr f (fun h => h))
  have HU := hid hb.2.2.2
  have HU2 := hid hb2.2.2.2
  have HJ := hid (join_at xs ys l2 hl2 (by simp only [maxLen]; omega) hb.2.2.2 hb2.2.2.2)
  have HOA := hid (onN_append 0 xs ys hb.2.2.2)
  clear hb hb2 hT hown0 hl1 hl2
  go_enter Tryd.func6, Tryd.ntmps6
  go_wp2_with (at_builtin; refine wpList_app rfl (.tmp 6) (.tmp 7) 23 rfl w.heap.size 5 i0 (.int .u8 0) 1 Tryd.underlying23 hi hz0 hz1 hz2 rfl _ 0 [] rfl HO.out A l c (cells xs) rfl HR1.out one_u8s (by simp only [maxLen]; omega) (by omega) (by simp) ?_)
  intro A3 c3 w3 own3 f3 s3
  have hf3 : Fr No w w3 := HF0.out.step f3 (fun i hi h => by simp [Value.ownBlock] at h; omega)
  have S3 : Hid (∀ k, (Value.slice A3 l c3).ownBlock = some k → w.heap.size ≤ k) := fun k hk => by
    rcases s3 k hk with h | h
    · simp [Value.ownBlock] at h; omega
    · omega
  have O3 := hid own3
  have HF3 := hid hf3
  have HR3 := hid (HA2.out w3 hf3)
  clear own3 f3 s3 hf3
  go_wp2_with (at_builtin; refine wpList_app rfl (.tmp 8) (.tmp 9) 23 rfl w.heap.size 5 i0 (.int .u8 0) 1 Tryd.underlying23 hi hz0 hz1 hz2 rfl _ l _ rfl O3.out A2 l2 c2 (cells ys) rfl HR3.out one_u8s (by simp only [maxLen]; omega) (by omega) HF3.out.size ?_)
  intro A4 c4 w4 own4 f4 _
  have HF4 := hid (HF3.out.step f4 (fun i hi h => absurd hi (by have := S3.out i h; omega)))
  have hr4 := Rd.own own4
  rw [cells, cells, ← List.map_append] at hr4
  have HR4 := hid hr4
  clear own4 f4 hr4
  have HUA := hid (show ∀ x ∈ xs ++ ys, 0 ≤ x ∧ x ≤ 255 from fun x hx => (List.mem_append.1 hx).elim (HU.out x) (HU2.out x))
  go_wp2_with fail
  refine (lives_any w4 (HT.out w4 HF4.out)).mono ?_
  rintro e w5 ⟨rfl, F5⟩
  have HF5 := hid (HF4.out.trans F5)
  have HR5 := hid (HR4.out.fr F5 (fun _ _ _ h => h))
  clear F5
  go_wp2_with fail
  refine (sum_any A l c xs w5 (HA.out w5 HF5.out) HU.out (by simp only [maxLen]; omega) (HT.out w5 HF5.out)).mono ?_
  rintro e w' ⟨rfl, rfl⟩
  go_wp2_with fail
  refine (sum_any A2 l2 c2 ys w5 (HA2.out w5 HF5.out) HU2.out (by simp only [maxLen]; omega) (HT.out w5 HF5.out)).mono ?_
  rintro e w' ⟨rfl, rfl⟩
  obtain ⟨S, hS⟩ : ∃ S, onN 0 xs = S := ⟨_, rfl⟩
  obtain ⟨T, hTT⟩ : ∃ T, onN 0 ys = T := ⟨_, rfl⟩
  obtain ⟨U, hUU⟩ : ∃ U, onN 0 (xs ++ ys) = U := ⟨_, rfl⟩
  rw [hS, hTT, hUU] at HJ
  rw [hS, hUU] at HOA
  rw [hS, hTT]
  have E1 := hid hS
  have E2 := hid hTT
  have E3 := hid hUU
  clear hS hTT hUU
  go_wp2_with fail
  refine (HJ.out w5).mono ?_
  rintro e w6 ⟨rfl, F6⟩
  have HF6 := hid (HF5.out.trans F6)
  have HR6 := hid (HR5.out.fr F6 (fun _ _ _ h => h))
  clear F6
  go_wp2_with fail
  refine (refSum_any A4 (l + l2) c4 (xs ++ ys) w6 HR6.out HUA.out (by simp only [maxLen]; omega)).mono ?_
  rintro e w' ⟨rfl, rfl⟩
  rw [E3.out]
  go_wp2_with fail
  refine (sum_any A l c xs w6 (HA.out w6 HF6.out) HU.out (by simp only [maxLen]; omega) (HT.out w6 HF6.out)).mono ?_
  rintro e w' ⟨rfl, rfl⟩
  go_wp2_with fail
  refine (on_any (onN 0 xs) A2 l2 c2 ys w6 (nt_lt _) (HA2.out w6 HF6.out) HU2.out (by simp only [maxLen]; omega) (HT.out w6 HF6.out)).mono ?_
  rintro e w' ⟨rfl, rfl⟩
  rw [E1.out, ← HOA.out]
  go_wp2_with fail
  refine (refSum_any A4 (l + l2) c4 (xs ++ ys) w6 HR6.out HUA.out (by simp only [maxLen]; omega)).mono ?_
  rintro e w' ⟨rfl, rfl⟩
  rw [E3.out]
  go_wp2
  go_ret
  exact ⟨rfl, HF6.out⟩

/-- One of the slices that came in. -/
structure RowV where
  A : Option Addr
  l : Nat
  c : Nat
  zs : List Int

/-- The slice at A of l slices of bytes reads as rows. -/
def RowsAt (w : World) (A : Option Addr) (l : Nat) (rows : List RowV) : Prop :=
  rows.length = l ∧ ∀ k r, rows[k]? = some r → ∃ d o, A = some ⟨d, o, none⟩ ∧ w.cell? ⟨d, o + k, none⟩ = some (.slice r.A r.l r.c) ∧ IsB w r.A r.l r.c r.zs

/-- All bytes of the first k. -/
def flat (rows : List RowV) (k : Nat) : List Int := (rows.take k).flatMap (·.zs)
theorem flat_succ (rows : List RowV) (k : Nat) (r : RowV) (h : rows[k]? = some r) : flat rows (k + 1) = flat rows k ++ r.zs := by
  obtain ⟨hk, hr⟩ := List.getElem?_eq_some_iff.1 h
  rw [flat, flat, List.take_succ_eq_append_getElem hk, List.flatMap_append, hr]
  simp
theorem flat_le (rows : List RowV) (k : Nat) : (flat rows k).length ≤ (rows.flatMap (·.zs)).length := by
  have : rows.flatMap (·.zs) = flat rows k ++ (rows.drop k).flatMap (·.zs) := by rw [flat, ← List.flatMap_append, List.take_append_drop]
  rw [this, List.length_append]
  omega

/-- Behind k rounds of CrcParts' loop. -/
def PI (w : World) (rows : List RowV) (l : Nat) (s v i : Value) (wr : World) : Prop := ∃ (k n : Nat) (A : Option Addr) (c : Nat) (all : List Int), k ≤ l ∧ k ≤ 50 ∧ i = .int .i64 k ∧ all = flat rows k ∧ all.length = n ∧ s = .int .u32 (onN 0 all : Nat) ∧ v = .slice A n c ∧
  wr.ownsRow w.heap.size 5 1 (.slice A n c) n (cells all) ∧ (∀ q, (Value.slice A n c).ownBlock = some q → w.heap.size ≤ q) ∧ (∀ x ∈ all, 0 ≤ x ∧ x ≤ 255) ∧ Fr No w wr

theorem pi_step (w : World) (rows : List RowV) (l k n : Nat) (A : Option Addr) (c : Nat) (all : List Int) (r : RowV) (hr : rows[k]? = some r) (hrl : r.zs.length = r.l) (hz : ∀ x ∈ r.zs, 0 ≤ x ∧ x ≤ 255) (hk : k + 1 ≤ l) (hk2 : k + 1 ≤ 50) (ha : all = flat rows k) (hn : all.length = n)
    (hs : ∀ q, (Value.slice A n c).ownBlock = some q → w.heap.size ≤ q) (hu : ∀ x ∈ all, 0 ≤ x ∧ x ≤ 255) (w5 w6 : World) (A6 : Option Addr) (c6 : Nat) (f5 : Fr No w w5)
    (own6 : w6.ownsRow w.heap.size 5 1 (.slice A6 (n + r.l) c6) (n + r.l) (cells all ++ cells r.zs)) (f6 : Fr (fun q => (Value.slice A n c).ownBlock = some q) w5 w6) (s6 : ∀ q, (Value.slice A6 (n + r.l) c6).ownBlock = some q → (Value.slice A n c).ownBlock = some q ∨ w5.heap.size ≤ q) :
    PI w rows l (.int .u32 (onN 0 (all ++ r.zs) : Nat)) (.slice A6 (n + r.l) c6) (.int .i64 ((k : Int) + 1)) w6 := by
  refine ⟨k + 1, n + r.l, A6, c6, all ++ r.zs, hk, hk2, by go_num, by rw [flat_succ rows k r hr, ha], by rw [List.length_append, hn, hrl], rfl, rfl, ?_, fun q hq => ?_, fun x hx => (List.mem_append.1 hx).elim (hu x) (hz x), f5.step f6 (fun i hi h => absurd hi (by have := hs i h; omega))⟩
  · rw [cells, cells, ← List.map_append] at own6
    exact own6
  · rcases s6 q hq with h | h
    · exact hs q h
    · exact Nat.le_trans f5.size h

set_option maxHeartbeats 2000000 in
theorem parts_walk (A : Option Addr) (l c : Nat) (rows : List RowV) (w : World) (hr : RowsAt w A l rows) (hs : (rows.flatMap (·.zs)).length ≤ 1048576) (hT : TabAt w) : Calls Tryd.prog 7 #[.slice A l c] w fun e w' => e = .returned (.bool true) ∧ Fr No w w' := by
  obtain ⟨i0, hi, hz0, hz1, hz2⟩ := info_parts u8_info
  have HRA := hid hr
  have HT := hid (fun (w1 : World) (f : Fr No w w1) => hT.fr f (fun h => h))
  have HSM := hid (fun k => Nat.le_trans (flat_le rows k) hs)
  clear hr hT hs
  go_enter Tryd.func7, Tryd.ntmps7
  go_wp2
  go_loopw [3, 4, 5] (fun s v i wr => PI w rows l s v i wr) (fun _ _ i _ => l - (intOf i).toNat)
  case atStart => exact ⟨0, 0, none, 0, [], by omega, by omega, rfl, rfl, rfl, rfl, rfl, World.ownsRow_nil _ _ _ _, (fun q hq => by simp [Value.ownBlock] at hq), (fun x hx => by cases hx), Fr.refl _ _⟩
  case round =>
    obtain ⟨k, n, A0, c0, all, hk, hk50, rfl, hall, hn, rfl, rfl, hown, hsb, hu, hf⟩ := hrel
    by_cases hgo : k < l ∧ k < 50
    · obtain ⟨hkl, hk5⟩ := hgo
      obtain ⟨r, hrk⟩ : ∃ r, rows[k]? = some r := ⟨_, List.getElem?_eq_getElem (by rw [HRA.out.1]; exact hkl)⟩
      obtain ⟨d, o, rfl, hcell, hB⟩ := HRA.out.2 k r hrk
      have hnl : n + r.l ≤ 1048576 := by
        have h1 := HSM.out (k + 1)
        have h2 : r.zs.length = r.l := by simpa using hB.1.1
        rw [flat_succ rows k r hrk, ← hall, List.length_append, hn, h2] at h1
        exact h1
      have hrl : r.zs.length = r.l := by simpa using hB.1.1
      have HST := hid (pi_step w rows l k n A0 c0 all r hrk hrl hB.2.2.2 hkl hk5 hall hn hsb hu)
      have cw := (hf.cell (p := ⟨d, o + k, none⟩) (World.block_lt_of_cell? w _ hcell) (fun h => h)).trans hcell
      have HRC := hid (fun (w5 : World) (f : Fr No w w5) => (f.cell (p := ⟨d, o + k, none⟩) (World.block_lt_of_cell? w _ hcell) (fun h => h)).trans hcell)
      have HRB := hid (fun (w5 : World) (f : Fr No w w5) => hB.1.fr f (fun _ _ _ h => h))
      have HS := hid (sum_any r.A r.l r.c r.zs (wr.drewN 1) (hB.1.fr (hf.drewN 1) (fun _ _ _ h => h)) hB.2.2.2 (Nat.le_trans hB.2.1 hB.2.2.1) (HT.out _ (hf.drewN 1)))
      have HJ := hid (join_at all r.zs r.l hrl (Nat.le_trans hB.2.1 hB.2.2.1) hu hB.2.2.2)
      have HF := hid (hf.drewN 1)
      have HO := hid (own_drewN hown 1)
      obtain ⟨rA, rl, rc, rz⟩ := r
      simp only at hnl HST cw HRC HRB HS HJ
      obtain ⟨S, hS⟩ : ∃ S, onN 0 all = S := ⟨_, rfl⟩
      obtain ⟨T, hTT⟩ : ∃ T, onN 0 rz = T := ⟨_, rfl⟩
      obtain ⟨U, hUU⟩ : ∃ U, onN 0 (all ++ rz) = U := ⟨_, rfl⟩
      rw [hS, hTT, hUU] at HJ
      rw [hTT] at HS
      rw [hUU] at HST
      rw [hS]
      have k1 : (k : Int) < l := by omega
      have k2 : (k : Int) < 50 := by omega
      clear hS hTT hUU hcell hB hrl hrk hown hsb hu hf hall hn hk hk50 hkl hk5
      go_wp2_with fail
      refine wp_region_any (by kernel_rfl) ?_
      change wpAny _ _ _ _ _ _ _ (World.drew _)
      refine wpAny_take (i := 0) (v := .int .u32 S) rfl (by kernel_rfl) (by kernel_rfl) (by kernel_rfl) (fun _ _ _ h => h) (Or.inl ⟨by kernel_rfl, fun w => (by first | (go_simp; done) | (go_simp; with_reducible rfl))⟩) ?_
      try simp only [Act.put, List.getElem_toArray, List.getElem_cons_zero, List.setIfInBounds_toArray, List.set_cons_zero, List.set_cons_succ]
      refine wpAny_take (i := 1) (v := (.slice (some ⟨d, o, none⟩) l c)) rfl (by kernel_rfl) (by kernel_rfl) (by kernel_rfl) (fun _ _ _ h => h) (Or.inl ⟨by kernel_rfl, fun w => (by first | (go_simp; done) | (go_simp; with_reducible rfl))⟩) ?_
      try simp only [Act.put, List.getElem_toArray, List.getElem_cons_succ, List.getElem_cons_zero, List.setIfInBounds_toArray, List.set_cons_zero, List.set_cons_succ]
      refine wpAny_take (i := 2) (v := .int .i64 k) rfl (by kernel_rfl) (by kernel_rfl) (by kernel_rfl) (fun _ _ _ h => h) (Or.inl ⟨by kernel_rfl, fun w => (by first | (go_simp; done) | (go_simp; with_reducible rfl))⟩) ?_
      try simp only [Act.put, List.getElem_toArray, List.getElem_cons_succ, List.getElem_cons_zero, List.setIfInBounds_toArray, List.set_cons_zero, List.set_cons_succ]
      refine wpAny_take (i := 3) (v := .pointer (some ⟨d, o + k, none⟩)) rfl (by kernel_rfl) (by kernel_rfl) (by kernel_rfl) (fun _ _ _ h => h) (Or.inl ⟨by kernel_rfl, fun w => (by first | (go_simp; done) | (go_simp; with_reducible rfl))⟩) ?_
      try simp only [Act.put, List.getElem_toArray, List.getElem_cons_succ, List.getElem_cons_zero, List.setIfInBounds_toArray, List.set_cons_zero, List.set_cons_succ]
      refine wpAny_take (i := 6) (v := (.slice (some ⟨d, o, none⟩) l c)) rfl (by kernel_rfl) (by kernel_rfl) (by kernel_rfl) (fun _ _ _ h => h) (Or.inl ⟨by kernel_rfl, fun w => (by first | (go_simp; done) | (go_simp; with_reducible rfl))⟩) ?_
      try simp only [Act.put, List.getElem_toArray, List.getElem_cons_succ, List.getElem_cons_zero, List.setIfInBounds_toArray, List.set_cons_zero, List.set_cons_succ]
      refine wpAny_take (i := 7) (v := .int .i64 k) rfl (by kernel_rfl) (by kernel_rfl) (by kernel_rfl) (fun _ _ _ h => h) (Or.inl ⟨by kernel_rfl, fun w => (by first | (go_simp; done) | (go_simp; with_reducible rfl))⟩) ?_
      try simp only [Act.put, List.getElem_toArray, List.getElem_cons_succ, List.getElem_cons_zero, List.setIfInBounds_toArray, List.set_cons_zero, List.set_cons_succ]
      refine wpAny_take (i := 8) (v := .pointer (some ⟨d, o + k, none⟩)) rfl (by kernel_rfl) (by kernel_rfl) (by kernel_rfl) (fun _ _ _ h => h) (Or.inl ⟨by kernel_rfl, fun w => (by first | (go_simp; done) | (go_simp; with_reducible rfl))⟩) ?_
      try simp only [Act.put, List.getElem_toArray, List.getElem_cons_succ, List.getElem_cons_zero, List.setIfInBounds_toArray, List.set_cons_zero, List.set_cons_succ]
      refine wpAny_ready (rs := [4, 9]) (by kernel_rfl) (by simp) (AllReady.cons rfl (fun K hK => ?_) (AllReady.cons rfl (fun K hK => ?_) AllReady.nil))
      · go_simp
        (try (refine hK _ _ ?_; clear hK K))
        try simp only [Act.put, List.getElem_toArray, List.getElem_cons_succ, List.getElem_cons_zero, List.setIfInBounds_toArray, List.set_cons_zero, List.set_cons_succ]
        refine wpAny_ready (rs := [5, 9]) (by kernel_rfl) (by simp) (AllReady.cons rfl (fun K hK => ?_) (AllReady.cons rfl (fun K hK => ?_) AllReady.nil))
        · go_simp
          go_at_call 12
          refine HS.out.mono ?_
          rintro e w' ⟨rfl, rfl⟩
          go_wp2_with fail
          (try (refine hK _ _ ?_; clear hK K))
          try simp only [Act.put, List.getElem_toArray, List.getElem_cons_succ, List.getElem_cons_zero, List.setIfInBounds_toArray, List.set_cons_zero, List.set_cons_succ]
          refine wpAny_ready (rs := [9]) (by kernel_rfl) (by simp) (AllReady.cons rfl (fun K hK => ?_) AllReady.nil)
          go_simp
          (try (refine hK _ _ ?_; clear hK K))
          try simp only [Act.put, List.getElem_toArray, List.getElem_cons_succ, List.getElem_cons_zero, List.setIfInBounds_toArray, List.set_cons_zero, List.set_cons_succ]
          refine wpAny_ready (rs := [10]) (by kernel_rfl) (by simp) (AllReady.cons rfl (fun K hK => ?_) AllReady.nil)
          go_simp
          (try (refine hK _ _ ?_; clear hK K))
          try simp only [Act.put, List.getElem_toArray, List.getElem_cons_succ, List.getElem_cons_zero, List.setIfInBounds_toArray, List.set_cons_zero, List.set_cons_succ]
          refine wpAny_ready (rs := [11]) (by kernel_rfl) (by simp) (AllReady.cons rfl (fun K hK => ?_) AllReady.nil)
          go_simp
          go_at_call 19
          refine (HJ.out _).mono ?_
          rintro e w5 ⟨rfl, F5⟩
          have HF5 := hid (HF.out.trans F5)
          have c5 := HRC.out w5 HF5.out
          have HO5 := hid (own_fr HO.out F5 (fun _ _ h => h))
          have HR5 := hid (HRB.out w5 HF5.out)
          clear F5
          go_wp2_with fail
          (try (refine hK _ _ ?_; clear hK K))
          try simp only [Act.put, List.getElem_toArray, List.getElem_cons_succ, List.getElem_cons_zero, List.setIfInBounds_toArray, List.set_cons_zero, List.set_cons_succ]
          refine wpAny_ready (rs := [12]) (by kernel_rfl) (by simp) (AllReady.cons rfl (fun K hK => ?_) AllReady.nil)
          go_simp
          (try (refine hK _ _ ?_; clear hK K))
          try simp only [Act.put, List.getElem_toArray, List.getElem_cons_succ, List.getElem_cons_zero, List.setIfInBounds_toArray, List.set_cons_zero, List.set_cons_succ]
          refine wpAny_done (by kernel_rfl) ?_ _
          go_wp2_with (at_builtin; refine wpList_app rfl (.tmp 28) (.tmp 32) 23 rfl w.heap.size 5 i0 (.int .u8 0) 1 Tryd.underlying23 hi hz0 hz1 hz2 rfl _ n (cells all) rfl HO5.out rA rl rc (cells rz) rfl HR5.out one_u8s (by simp only [maxLen]; omega) (by omega) HF5.out.size ?_)
          intro A6 c6 w6 own6 f6 s6
          have HN := hid (HST.out w5 w6 A6 c6 HF5.out own6 f6 s6)
          clear own6 f6 s6 c5
          go_wp2
          go_roundw
          case rel => exact HN.out
          case measure => simp [intOf]; omega
        · go_simp
          (try (refine hK _ _ ?_; clear hK K))
          try simp only [Act.put, List.getElem_toArray, List.getElem_cons_succ, List.getElem_cons_zero, List.setIfInBounds_toArray, List.set_cons_zero, List.set_cons_succ]
          refine wpAny_ready (rs := [5, 10]) (by kernel_rfl) (by simp) (AllReady.cons rfl (fun K hK => ?_) (AllReady.cons rfl (fun K hK => ?_) AllReady.nil))
          · go_simp
            go_at_call 12
            refine HS.out.mono ?_
            rintro e w' ⟨rfl, rfl⟩
            go_wp2_with fail
            (try (refine hK _ _ ?_; clear hK K))
            try simp only [Act.put, List.getElem_toArray, List.getElem_cons_succ, List.getElem_cons_zero, List.setIfInBounds_toArray, List.set_cons_zero, List.set_cons_succ]
            refine wpAny_ready (rs := [10]) (by kernel_rfl) (by simp) (AllReady.cons rfl (fun K hK => ?_) AllReady.nil)
            go_simp
            (try (refine hK _ _ ?_; clear hK K))
            try simp only [Act.put, List.getElem_toArray, List.getElem_cons_succ, List.getElem_cons_zero, List.setIfInBounds_toArray, List.set_cons_zero, List.set_cons_succ]
            refine wpAny_ready (rs := [11]) (by kernel_rfl) (by simp) (AllReady.cons rfl (fun K hK => ?_) AllReady.nil)
            go_simp
            go_at_call 19
            refine (HJ.out _).mono ?_
            rintro e w5 ⟨rfl, F5⟩
            have HF5 := hid (HF.out.trans F5)
            have c5 := HRC.out w5 HF5.out
            have HO5 := hid (own_fr HO.out F5 (fun _ _ h => h))
            have HR5 := hid (HRB.out w5 HF5.out)
            clear F5
            go_wp2_with fail
            (try (refine hK _ _ ?_; clear hK K))
            try simp only [Act.put, List.getElem_toArray, List.getElem_cons_succ, List.getElem_cons_zero, List.setIfInBounds_toArray, List.set_cons_zero, List.set_cons_succ]
            refine wpAny_ready (rs := [12]) (by kernel_rfl) (by simp) (AllReady.cons rfl (fun K hK => ?_) AllReady.nil)
            go_simp
            (try (refine hK _ _ ?_; clear hK K))
            try simp only [Act.put, List.getElem_toArray, List.getElem_cons_succ, List.getElem_cons_zero, List.setIfInBounds_toArray, List.set_cons_zero, List.set_cons_succ]
            refine wpAny_done (by kernel_rfl) ?_ _
            go_wp2_with (at_builtin; refine wpList_app rfl (.tmp 28) (.tmp 32) 23 rfl w.heap.size 5 i0 (.int .u8 0) 1 Tryd.underlying23 hi hz0 hz1 hz2 rfl _ n (cells all) rfl HO5.out rA rl rc (cells rz) rfl HR5.out one_u8s (by simp only [maxLen]; omega) (by omega) HF5.out.size ?_)
            intro A6 c6 w6 own6 f6 s6
            have HN := hid (HST.out w5 w6 A6 c6 HF5.out own6 f6 s6)
            clear own6 f6 s6 c5
            go_wp2
            go_roundw
            case rel => exact HN.out
            case measure => simp [intOf]; omega
          · go_simp
            (try (refine hK _ _ ?_; clear hK K))
            try simp only [Act.put, List.getElem_toArray, List.getElem_cons_succ, List.getElem_cons_zero, List.setIfInBounds_toArray, List.set_cons_zero, List.set_cons_succ]
            refine wpAny_ready (rs := [5]) (by kernel_rfl) (by simp) (AllReady.cons rfl (fun K hK => ?_) AllReady.nil)
            go_simp
            go_at_call 12
            refine HS.out.mono ?_
            rintro e w' ⟨rfl, rfl⟩
            go_wp2_with fail
            (try (refine hK _ _ ?_; clear hK K))
            try simp only [Act.put, List.getElem_toArray, List.getElem_cons_succ, List.getElem_cons_zero, List.setIfInBounds_toArray, List.set_cons_zero, List.set_cons_succ]
            refine wpAny_ready (rs := [11]) (by kernel_rfl) (by simp) (AllReady.cons rfl (fun K hK => ?_) AllReady.nil)
            go_simp
            go_at_call 19
            refine (HJ.out _).mono ?_
            rintro e w5 ⟨rfl, F5⟩
            have HF5 := hid (HF.out.trans F5)
            have c5 := HRC.out w5 HF5.out
            have HO5 := hid (own_fr HO.out F5 (fun _ _ h => h))
            have HR5 := hid (HRB.out w5 HF5.out)
            clear F5
            go_wp2_with fail
            (try (refine hK _ _ ?_; clear hK K))
            try simp only [Act.put, List.getElem_toArray, List.getElem_cons_succ, List.getElem_cons_zero, List.setIfInBounds_toArray, List.set_cons_zero, List.set_cons_succ]
            refine wpAny_ready (rs := [12]) (by kernel_rfl) (by simp) (AllReady.cons rfl (fun K hK => ?_) AllReady.nil)
            go_simp
            (try (refine hK _ _ ?_; clear hK K))
            try simp only [Act.put, List.getElem_toArray, List.getElem_cons_succ, List.getElem_cons_zero, List.setIfInBounds_toArray, List.set_cons_zero, List.set_cons_succ]
            refine wpAny_done (by kernel_rfl) ?_ _
            go_wp2_with (at_builtin; refine wpList_app rfl (.tmp 28) (.tmp 32) 23 rfl w.heap.size 5 i0 (.int .u8 0) 1 Tryd.underlying23 hi hz0 hz1 hz2 rfl _ n (cells all) rfl HO5.out rA rl rc (cells rz) rfl HR5.out one_u8s (by simp only [maxLen]; omega) (by omega) HF5.out.size ?_)
            intro A6 c6 w6 own6 f6 s6
            have HN := hid (HST.out w5 w6 A6 c6 HF5.out own6 f6 s6)
            clear own6 f6 s6 c5
            go_wp2
            go_roundw
            case rel => exact HN.out
            case measure => simp [intOf]; omega
      · go_simp
        (try (refine hK _ _ ?_; clear hK K))
        try simp only [Act.put, List.getElem_toArray, List.getElem_cons_succ, List.getElem_cons_zero, List.setIfInBounds_toArray, List.set_cons_zero, List.set_cons_succ]
        refine wpAny_ready (rs := [4, 10]) (by kernel_rfl) (by simp) (AllReady.cons rfl (fun K hK => ?_) (AllReady.cons rfl (fun K hK => ?_) AllReady.nil))
        · go_simp
          (try (refine hK _ _ ?_; clear hK K))
          try simp only [Act.put, List.getElem_toArray, List.getElem_cons_succ, List.getElem_cons_zero, List.setIfInBounds_toArray, List.set_cons_zero, List.set_cons_succ]
          refine wpAny_ready (rs := [5, 10]) (by kernel_rfl) (by simp) (AllReady.cons rfl (fun K hK => ?_) (AllReady.cons rfl (fun K hK => ?_) AllReady.nil))
          · go_simp
            go_at_call 12
            refine HS.out.mono ?_
            rintro e w' ⟨rfl, rfl⟩
            go_wp2_with fail
            (try (refine hK _ _ ?_; clear hK K))
            try simp only [Act.put, List.getElem_toArray, List.getElem_cons_succ, List.getElem_cons_zero, List.setIfInBounds_toArray, List.set_cons_zero, List.set_cons_succ]
            refine wpAny_ready (rs := [10]) (by kernel_rfl) (by simp) (AllReady.cons rfl (fun K hK => ?_) AllReady.nil)
            go_simp
            (try (refine hK _ _ ?_; clear hK K))
            try simp only [Act.put, List.getElem_toArray, List.getElem_cons_succ, List.getElem_cons_zero, List.setIfInBounds_toArray, List.set_cons_zero, List.set_cons_succ]
            refine wpAny_ready (rs := [11]) (by kernel_rfl) (by simp) (AllReady.cons rfl (fun K hK => ?_) AllReady.nil)
            go_simp
            go_at_call 19
            refine (HJ.out _).mono ?_
            rintro e w5 ⟨rfl, F5⟩
            have HF5 := hid (HF.out.trans F5)
            have c5 := HRC.out w5 HF5.out
            have HO5 := hid (own_fr HO.out F5 (fun _ _ h => h))
            have HR5 := hid (HRB.out w5 HF5.out)
            clear F5
            go_wp2_with fail
            (try (refine hK _ _ ?_; clear hK K))
            try simp only [Act.put, List.getElem_toArray, List.getElem_cons_succ, List.getElem_cons_zero, List.setIfInBounds_toArray, List.set_cons_zero, List.set_cons_succ]
            refine wpAny_ready (rs := [12]) (by kernel_rfl) (by simp) (AllReady.cons rfl (fun K hK => ?_) AllReady.nil)
            go_simp
            (try (refine hK _ _ ?_; clear hK K))
            try simp only [Act.put, List.getElem_toArray, List.getElem_cons_succ, List.getElem_cons_zero, List.setIfInBounds_toArray, List.set_cons_zero, List.set_cons_succ]
            refine wpAny_done (by kernel_rfl) ?_ _
            go_wp2_with (at_builtin; refine wpList_app rfl (.tmp 28) (.tmp 32) 23 rfl w.heap.size 5 i0 (.int .u8 0) 1 Tryd.underlying23 hi hz0 hz1 hz2 rfl _ n (cells all) rfl HO5.out rA rl rc (cells rz) rfl HR5.out one_u8s (by simp only [maxLen]; omega) (by omega) HF5.out.size ?_)
            intro A6 c6 w6 own6 f6 s6
            have HN := hid (HST.out w5 w6 A6 c6 HF5.out own6 f6 s6)
            clear own6 f6 s6 c5
            go_wp2
            go_roundw
            case rel => exact HN.out
            case measure => simp [intOf]; omega
          · go_simp
            (try (refine hK _ _ ?_; clear hK K))
            try simp only [Act.put, List.getElem_toArray, List.getElem_cons_succ, List.getElem_cons_zero, List.setIfInBounds_toArray, List.set_cons_zero, List.set_cons_succ]
            refine wpAny_ready (rs := [5]) (by kernel_rfl) (by simp) (AllReady.cons rfl (fun K hK => ?_) AllReady.nil)
            go_simp
            go_at_call 12
            refine HS.out.mono ?_
            rintro e w' ⟨rfl, rfl⟩
            go_wp2_with fail
            (try (refine hK _ _ ?_; clear hK K))
            try simp only [Act.put, List.getElem_toArray, List.getElem_cons_succ, List.getElem_cons_zero, List.setIfInBounds_toArray, List.set_cons_zero, List.set_cons_succ]
            refine wpAny_ready (rs := [11]) (by kernel_rfl) (by simp) (AllReady.cons rfl (fun K hK => ?_) AllReady.nil)
            go_simp
            go_at_call 19
            refine (HJ.out _).mono ?_
            rintro e w5 ⟨rfl, F5⟩
            have HF5 := hid (HF.out.trans F5)
            have c5 := HRC.out w5 HF5.out
            have HO5 := hid (own_fr HO.out F5 (fun _ _ h => h))
            have HR5 := hid (HRB.out w5 HF5.out)
            clear F5
            go_wp2_with fail
            (try (refine hK _ _ ?_; clear hK K))
            try simp only [Act.put, List.getElem_toArray, List.getElem_cons_succ, List.getElem_cons_zero, List.setIfInBounds_toArray, List.set_cons_zero, List.set_cons_succ]
            refine wpAny_ready (rs := [12]) (by kernel_rfl) (by simp) (AllReady.cons rfl (fun K hK => ?_) AllReady.nil)
            go_simp
            (try (refine hK _ _ ?_; clear hK K))
            try simp only [Act.put, List.getElem_toArray, List.getElem_cons_succ, List.getElem_cons_zero, List.setIfInBounds_toArray, List.set_cons_zero, List.set_cons_succ]
            refine wpAny_done (by kernel_rfl) ?_ _
            go_wp2_with (at_builtin; refine wpList_app rfl (.tmp 28) (.tmp 32) 23 rfl w.heap.size 5 i0 (.int .u8 0) 1 Tryd.underlying23 hi hz0 hz1 hz2 rfl _ n (cells all) rfl HO5.out rA rl rc (cells rz) rfl HR5.out one_u8s (by simp only [maxLen]; omega) (by omega) HF5.out.size ?_)
            intro A6 c6 w6 own6 f6 s6
            have HN := hid (HST.out w5 w6 A6 c6 HF5.out own6 f6 s6)
            clear own6 f6 s6 c5
            go_wp2
            go_roundw
            case rel => exact HN.out
            case measure => simp [intOf]; omega
        · go_simp
          (try (refine hK _ _ ?_; clear hK K))
          try simp only [Act.put, List.getElem_toArray, List.getElem_cons_succ, List.getElem_cons_zero, List.setIfInBounds_toArray, List.set_cons_zero, List.set_cons_succ]
          refine wpAny_ready (rs := [4]) (by kernel_rfl) (by simp) (AllReady.cons rfl (fun K hK => ?_) AllReady.nil)
          go_simp
          (try (refine hK _ _ ?_; clear hK K))
          try simp only [Act.put, List.getElem_toArray, List.getElem_cons_succ, List.getElem_cons_zero, List.setIfInBounds_toArray, List.set_cons_zero, List.set_cons_succ]
          refine wpAny_ready (rs := [5]) (by kernel_rfl) (by simp) (AllReady.cons rfl (fun K hK => ?_) AllReady.nil)
          go_simp
          go_at_call 12
          refine HS.out.mono ?_
          rintro e w' ⟨rfl, rfl⟩
          go_wp2_with fail
          (try (refine hK _ _ ?_; clear hK K))
          try simp only [Act.put, List.getElem_toArray, List.getElem_cons_succ, List.getElem_cons_zero, List.setIfInBounds_toArray, List.set_cons_zero, List.set_cons_succ]
          refine wpAny_ready (rs := [11]) (by kernel_rfl) (by simp) (AllReady.cons rfl (fun K hK => ?_) AllReady.nil)
          go_simp
          go_at_call 19
          refine (HJ.out _).mono ?_
          rintro e w5 ⟨rfl, F5⟩
          have HF5 := hid (HF.out.trans F5)
          have c5 := HRC.out w5 HF5.out
          have HO5 := hid (own_fr HO.out F5 (fun _ _ h => h))
          have HR5 := hid (HRB.out w5 HF5.out)
          clear F5
          go_wp2_with fail
          (try (refine hK _ _ ?_; clear hK K))
          try simp only [Act.put, List.getElem_toArray, List.getElem_cons_succ, List.getElem_cons_zero, List.setIfInBounds_toArray, List.set_cons_zero, List.set_cons_succ]
          refine wpAny_ready (rs := [12]) (by kernel_rfl) (by simp) (AllReady.cons rfl (fun K hK => ?_) AllReady.nil)
          go_simp
          (try (refine hK _ _ ?_; clear hK K))
          try simp only [Act.put, List.getElem_toArray, List.getElem_cons_succ, List.getElem_cons_zero, List.setIfInBounds_toArray, List.set_cons_zero, List.set_cons_succ]
          refine wpAny_done (by kernel_rfl) ?_ _
          go_wp2_with (at_builtin; refine wpList_app rfl (.tmp 28) (.tmp 32) 23 rfl w.heap.size 5 i0 (.int .u8 0) 1 Tryd.underlying23 hi hz0 hz1 hz2 rfl _ n (cells all) rfl HO5.out rA rl rc (cells rz) rfl HR5.out one_u8s (by simp only [maxLen]; omega) (by omega) HF5.out.size ?_)
          intro A6 c6 w6 own6 f6 s6
          have HN := hid (HST.out w5 w6 A6 c6 HF5.out own6 f6 s6)
          clear own6 f6 s6 c5
          go_wp2
          go_roundw
          case rel => exact HN.out
          case measure => simp [intOf]; omega
    · have HO := hid hown
      have HF := hid hf
      have HU := hid hu
      have HN := hid hn
      have hnl : n ≤ 1048576 := by
        have h1 := HSM.out k
        rw [← hall, hn] at h1
        exact h1
      obtain ⟨S, hS⟩ : ∃ S, onN 0 all = S := ⟨_, rfl⟩
      have HSS := hid hS
      rw [hS]
      have hcase : l ≤ k ∨ 50 ≤ k ∧ k < l := by omega
      clear hS hown hsb hu hf hall hn hgo
      rcases hcase with h1 | ⟨h1, h1b⟩
      all_goals
        have h2 : (l : Int) ≤ k ∨ 50 ≤ (k : Int) := by omega
        try have h3 : (k : Int) < l := by omega
        try have h4 : (50 : Int) ≤ k := by omega
        try have h5 : (l : Int) ≤ k := by omega
        clear h2 hk50
        go_wp2_with fail
        refine (lives_any wr (HT.out wr HF.out)).mono ?_
        rintro e w5 ⟨rfl, F5⟩
        have HF5 := hid (HF.out.trans F5)
        have HR5 := hid ((Rd.own HO.out).fr F5 (fun _ _ _ h => h))
        clear F5
        go_wp2_with fail
        refine (sum_any A0 n c0 all w5 HR5.out HU.out (by simp only [maxLen]; omega) (HT.out w5 HF5.out)).mono ?_
        rintro e w' ⟨rfl, rfl⟩
        rw [HSS.out]
        go_wp2
        go_ret
        exact ⟨rfl, HF5.out⟩
end Go.Proofs.YtlcafkjnikiomaaDoor.CrcP
