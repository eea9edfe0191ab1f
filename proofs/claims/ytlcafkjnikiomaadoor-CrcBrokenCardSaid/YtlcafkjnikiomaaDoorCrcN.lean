/- The walk of CrcBroken. Condition: the table is as its text lays it. -/
import Derived.Test.YtlcafkjnikiomaaDoorCrcL
import Derived.RegionTactic
import Derived.IntWalk
namespace Go.Proofs.YtlcafkjnikiomaaDoor.CrcN
open Go.RowKit MSep MFrame CrcM CrcA CrcB CrcC CrcD CrcE CrcF CrcG CrcL

/-- Behind i rounds of CrcBroken's loop. -/
def BrI (w : World) (g q v : Nat) (xs : List Int) (i : Value) (wr : World) : Prop := ∃ k : Nat, k ≤ 4 ∧ i = .int .i64 k ∧ Blk wr g 5 (cells (brk q k v xs)).toArray ∧ Fr No w wr

theorem u8x {a b : Nat} (ha : a < 256) (hb : b < 256) : bits BinOp.xor IntKind.u8 (a : Int) (b : Int) = ((a ^^^ b : Nat) : Int) := u8_xor_nat a b ha hb

theorem check_broken (w : World) (g q v : Nat) (zs : List Int) (hz : ∀ x ∈ zs, 0 ≤ x ∧ x ≤ 255) (hl : zs.length ≤ 124) (hb : Blk w g 5 (cells (brk q 4 v (seal_ zs))).toArray) (hT : TabAt w) (h4 : 4 ≤ q) (h124 : q ≤ 124) (hv : v < 4294967296) (h0 : v ≠ 0) :
    Calls Tryd.prog 22 #[.slice (some ⟨g, 0, none⟩) 128 128] w fun e w' => e = .returned (.bool false) ∧ w = w' := by
  have hr := Rd.blk (off := 0) (n := 128) hb (by simp [cells, brk_len, seal_len hl])
  rw [List.drop_zero, List.take_of_length_le (by simp [cells, brk_len, seal_len hl])] at hr
  have h := check_any (some ⟨g, 0, none⟩) 128 128 (brk q 4 v (seal_ zs)) w ⟨hr, Nat.le_refl _, by simp [maxLen], brk_u8 _ _ _ _ (seal_u8 hz)⟩ hT
  rw [brk_none zs hl hz q v h4 h124 hv h0] at h
  exact h

theorem br_step (w : World) (g q k v : Nat) (xs : List Int) (wr : World) (x : Nat) (hk : k < 4) (hq : q + k < xs.length) (b : Blk wr g 5 (cells (brk q k v xs)).toArray) (f : Fr No w wr) (hg : w.heap.size ≤ g) (hx : xs[q + k] = (x : Int)) :
    BrI w g q v xs (.int .i64 ((k : Int) + 1)) (wr.setCell ⟨g, q + k, none⟩ (.int .u8 (x ^^^ (v / 2 ^ (8 * k) % 256) : Nat))) := by
  refine ⟨k + 1, by omega, by go_num, ?_, f.setCell (p := ⟨g, q + k, none⟩) (fun h => absurd h (by simp; omega)) _⟩
  have := b.set_ (q + k) (.int .u8 (x ^^^ (v / 2 ^ (8 * k) % 256) : Nat))
  have hs := brk_set q k v xs hq
  rw [hx, Int.toNat_natCast] at hs
  rw [List.setIfInBounds_toArray, cells, ← List.map_set, hs] at this
  exact this

set_option maxHeartbeats 1000000 in
theorem broken_loop (A : Option Addr) (l c : Nat) (zs : List Int) (w : World) (q v : Nat) (hb : IsB w A l c zs) (hT : TabAt w) (hl : l ≤ 124) (h4 : 4 ≤ q) (h124 : q ≤ 124) (hv : v < 4294967296) (h0 : v ≠ 0) : Calls Tryd.prog 10 #[.slice A l c, .int .i64 q, .int .u32 v] w fun e w' => e = .returned (.bool true) ∧ Fr No w w' := by
  have hlen : zs.length = l := by simpa using hb.1.1
  have HS := hid (seal_ok A l c zs w hl hb.1 hb.2.2.2 hT)
  have HZ := hid hb.2.2.2
  have HLEN := hid (show zs.length ≤ 124 by omega)
  have HT := hid hT
  have t1 : ((v : Int) == 0) = false := by rw [beq_eq_false_iff_ne]; omega
  have t2 : (4 : Int) ≤ q := by omega
  have t3 : (q : Int) ≤ 124 := by omega
  have HV := hid hv
  have H0 := hid h0
  clear hb hT hlen h0 hv
  go_enter Tryd.func10, Tryd.ntmps10
  go_wp2_with fail
  refine HS.out.mono ?_
  rintro e w1 ⟨rfl, B1, F1⟩
  obtain ⟨g, hg⟩ : ∃ g, w.heap.size = g := ⟨_, rfl⟩
  have NG := hid (show w.heap.size ≤ g by omega)
  rw [hg] at B1 ⊢
  have HF1 := hid F1
  have HB1 := hid B1
  clear F1 B1 hg
  go_wp2_with fail
  refine (lives_any w1 (HT.out.fr HF1.out (fun h => h))).mono ?_
  rintro e w2 ⟨rfl, F2⟩
  have HF2 := hid (HF1.out.trans F2)
  have HB2 := hid (HB1.out.fr F2 (fun h => h))
  clear F2
  go_wp2
  go_loopw [9] (fun i wr => BrI w g q v (seal_ zs) i wr) (fun i _ => 4 - (intOf i).toNat)
  case atStart => exact ⟨0, by omega, rfl, by rw [brk_zero q v _ (seal_u8 HZ.out)]; exact HB2.out, HF2.out⟩
  case round =>
    obtain ⟨k, hk, rfl, b, f⟩ := hrel
    have hsl := seal_len HLEN.out
    by_cases hlt : k < 4
    · have hk3 : (k : Int) < 4 := by omega
      have hfr := b.frozen (q + k)
      have hc := b.cell (q + k)
      have hx := seal_u8 HZ.out ((seal_ zs)[q + k]'(by omega)) (List.getElem_mem _)
      obtain ⟨x, hx2⟩ := Int.eq_ofNat_of_zero_le hx.1
      rw [List.getElem?_toArray, cells, List.getElem?_map, brk_get q k v _ (seal_u8 HZ.out) (by omega), Option.map_some, hx2] at hc
      have hxx := u8x (a := x) (b := v / 2 ^ (8 * k) % 256) (by omega) (by omega)
      rw [byte_cast] at hxx
      have hqk : (q : Int) + k < 128 := by omega
      have hset := br_step w g q k v (seal_ zs) wr x hlt (by omega) b f NG.out hx2
      have HST := hid hset
      have e1 : IntKind.i64.wrap ((q : Int) + k) = (q : Int) + k := IntWalk.i64_in _ (by omega)
      have e2 : IntKind.i64.wrap (8 * (k : Int)) = 8 * (k : Int) := IntWalk.i64_in _ (by omega)
      have e3 : 0 ≤ (q : Int) + k := by omega
      have e4 : ((q : Int) + k).toNat = q + k := by omega
      have e5 : (8 * (k : Int)).toNat = 8 * k := by omega
      have e6 : 0 ≤ 8 * (k : Int) := by omega
      have e7 : IntKind.u8.wrap ((v : Int) / 2 ^ (8 * k)) = (v : Int) / 2 ^ (8 * k) % 256 := by first | exact IntKind.wrap_u8 _ | (simp [IntKind.wrap]; done) | rfl
      clear b f hx hx2 hset hk hsl
      go_wp2_with fail
      refine wp_region_any (by kernel_rfl) ?_
      change wpAny _ _ _ _ _ _ _ (World.drew _)
      refine wpAny_take (i := 0) (v := (.slice (some ⟨g, 0, none⟩) 128 128)) rfl (by kernel_rfl) (by kernel_rfl) (by kernel_rfl) (fun _ _ _ h => h) (Or.inl ⟨by kernel_rfl, fun w => (by first | (go_simp; done) | (go_simp; with_reducible rfl))⟩) ?_
      try simp only [Act.put, List.getElem_toArray, List.getElem_cons_zero, List.setIfInBounds_toArray, List.set_cons_zero, List.set_cons_succ]
      refine wpAny_take (i := 1) (v := .int .i64 q) rfl (by kernel_rfl) (by kernel_rfl) (by kernel_rfl) (fun _ _ _ h => h) (Or.inl ⟨by kernel_rfl, fun w => (by first | (go_simp; done) | (go_simp; with_reducible rfl))⟩) ?_
      try simp only [Act.put, List.getElem_toArray, List.getElem_cons_succ, List.getElem_cons_zero, List.setIfInBounds_toArray, List.set_cons_zero, List.set_cons_succ]
      refine wpAny_take (i := 2) (v := .int .i64 k) rfl (by kernel_rfl) (by kernel_rfl) (by kernel_rfl) (fun _ _ _ h => h) (Or.inl ⟨by kernel_rfl, fun w => (by first | (go_simp; done) | (go_simp; with_reducible rfl))⟩) ?_
      try simp only [Act.put, List.getElem_toArray, List.getElem_cons_succ, List.getElem_cons_zero, List.setIfInBounds_toArray, List.set_cons_zero, List.set_cons_succ]
      refine wpAny_take (i := 3) (v := .int .i64 ((q : Int) + k)) rfl (by kernel_rfl) (by kernel_rfl) (by kernel_rfl) (fun _ _ _ h => h) (Or.inl ⟨by kernel_rfl, fun w => (by first | (go_simp; done) | (go_simp; with_reducible rfl))⟩) ?_
      try simp only [Act.put, List.getElem_toArray, List.getElem_cons_succ, List.getElem_cons_zero, List.setIfInBounds_toArray, List.set_cons_zero, List.set_cons_succ]
      refine wpAny_take (i := 4) (v := (.slice (some ⟨g, 0, none⟩) 128 128)) rfl (by kernel_rfl) (by kernel_rfl) (by kernel_rfl) (fun _ _ _ h => h) (Or.inl ⟨by kernel_rfl, fun w => (by first | (go_simp; done) | (go_simp; with_reducible rfl))⟩) ?_
      try simp only [Act.put, List.getElem_toArray, List.getElem_cons_succ, List.getElem_cons_zero, List.setIfInBounds_toArray, List.set_cons_zero, List.set_cons_succ]
      refine wpAny_take (i := 5) (v := .int .i64 q) rfl (by kernel_rfl) (by kernel_rfl) (by kernel_rfl) (fun _ _ _ h => h) (Or.inl ⟨by kernel_rfl, fun w => (by first | (go_simp; done) | (go_simp; with_reducible rfl))⟩) ?_
      try simp only [Act.put, List.getElem_toArray, List.getElem_cons_succ, List.getElem_cons_zero, List.setIfInBounds_toArray, List.set_cons_zero, List.set_cons_succ]
      refine wpAny_take (i := 6) (v := .int .i64 k) rfl (by kernel_rfl) (by kernel_rfl) (by kernel_rfl) (fun _ _ _ h => h) (Or.inl ⟨by kernel_rfl, fun w => (by first | (go_simp; done) | (go_simp; with_reducible rfl))⟩) ?_
      try simp only [Act.put, List.getElem_toArray, List.getElem_cons_succ, List.getElem_cons_zero, List.setIfInBounds_toArray, List.set_cons_zero, List.set_cons_succ]
      refine wpAny_take (i := 7) (v := .int .i64 ((q : Int) + k)) rfl (by kernel_rfl) (by kernel_rfl) (by kernel_rfl) (fun _ _ _ h => h) (Or.inl ⟨by kernel_rfl, fun w => (by first | (go_simp; done) | (go_simp; with_reducible rfl))⟩) ?_
      try simp only [Act.put, List.getElem_toArray, List.getElem_cons_succ, List.getElem_cons_zero, List.setIfInBounds_toArray, List.set_cons_zero, List.set_cons_succ]
      refine wpAny_take (i := 8) (v := .pointer (some ⟨g, q + k, none⟩)) rfl (by kernel_rfl) (by kernel_rfl) (by kernel_rfl) (fun _ _ _ h => h) (Or.inl ⟨by kernel_rfl, fun w => (by first | (go_simp; done) | (go_simp; with_reducible rfl))⟩) ?_
      try simp only [Act.put, List.getElem_toArray, List.getElem_cons_succ, List.getElem_cons_zero, List.setIfInBounds_toArray, List.set_cons_zero, List.set_cons_succ]
      refine wpAny_take (i := 10) (v := .int .u32 v) rfl (by kernel_rfl) (by kernel_rfl) (by kernel_rfl) (fun _ _ _ h => h) (Or.inl ⟨by kernel_rfl, fun w => (by first | (go_simp; done) | (go_simp; with_reducible rfl))⟩) ?_
      try simp only [Act.put, List.getElem_toArray, List.getElem_cons_succ, List.getElem_cons_zero, List.setIfInBounds_toArray, List.set_cons_zero, List.set_cons_succ]
      refine wpAny_take (i := 11) (v := .int .i64 k) rfl (by kernel_rfl) (by kernel_rfl) (by kernel_rfl) (fun _ _ _ h => h) (Or.inl ⟨by kernel_rfl, fun w => (by first | (go_simp; done) | (go_simp; with_reducible rfl))⟩) ?_
      try simp only [Act.put, List.getElem_toArray, List.getElem_cons_succ, List.getElem_cons_zero, List.setIfInBounds_toArray, List.set_cons_zero, List.set_cons_succ]
      refine wpAny_take (i := 12) (v := .int .i64 (8 * (k : Int))) rfl (by kernel_rfl) (by kernel_rfl) (by kernel_rfl) (fun _ _ _ h => h) (Or.inl ⟨by kernel_rfl, fun w => (by first | (go_simp; done) | (go_simp; with_reducible rfl))⟩) ?_
      try simp only [Act.put, List.getElem_toArray, List.getElem_cons_succ, List.getElem_cons_zero, List.setIfInBounds_toArray, List.set_cons_zero, List.set_cons_succ]
      refine wpAny_take (i := 13) (v := .int .u32 ((v : Int) / 2 ^ (8 * k))) rfl (by kernel_rfl) (by kernel_rfl) (by kernel_rfl) (fun _ _ _ h => h) (Or.inl ⟨by kernel_rfl, fun w => (by first | (go_simp; done) | (go_simp; with_reducible rfl))⟩) ?_
      try simp only [Act.put, List.getElem_toArray, List.getElem_cons_succ, List.getElem_cons_zero, List.setIfInBounds_toArray, List.set_cons_zero, List.set_cons_succ]
      refine wpAny_take (i := 14) (v := .int .u8 ((v : Int) / 2 ^ (8 * k) % 256)) rfl (by kernel_rfl) (by kernel_rfl) (by kernel_rfl) (fun _ _ _ h => h) (Or.inl ⟨by kernel_rfl, fun w => (by first | (go_simp; done) | (go_simp; with_reducible rfl))⟩) ?_
      try simp only [Act.put, List.getElem_toArray, List.getElem_cons_succ, List.getElem_cons_zero, List.setIfInBounds_toArray, List.set_cons_zero, List.set_cons_succ]
      refine wpAny_ready (rs := [9]) (by kernel_rfl) (by simp) (AllReady.cons rfl (fun K hK => ?_) AllReady.nil)
      go_simp
      (try (refine hK _ _ ?_; clear hK K))
      try simp only [Act.put, List.getElem_toArray, List.getElem_cons_succ, List.getElem_cons_zero, List.setIfInBounds_toArray, List.set_cons_zero, List.set_cons_succ]
      refine wpAny_ready (rs := [15]) (by kernel_rfl) (by simp) (AllReady.cons rfl (fun K hK => ?_) AllReady.nil)
      go_simp
      (try (refine hK _ _ ?_; clear hK K))
      try simp only [Act.put, List.getElem_toArray, List.getElem_cons_succ, List.getElem_cons_zero, List.setIfInBounds_toArray, List.set_cons_zero, List.set_cons_succ]
      refine wpAny_take (i := 16) (v := .pointer (some ⟨g, q + k, none⟩)) rfl (by kernel_rfl) (by kernel_rfl) (by kernel_rfl) (fun _ _ _ h => h) (Or.inl ⟨by kernel_rfl, fun w => (by first | (go_simp; done) | (go_simp; with_reducible rfl))⟩) ?_
      try simp only [Act.put, List.getElem_toArray, List.getElem_cons_succ, List.getElem_cons_zero, List.setIfInBounds_toArray, List.set_cons_zero, List.set_cons_succ]
      refine wpAny_ready (rs := [17]) (by kernel_rfl) (by simp) (AllReady.cons rfl (fun K hK => ?_) AllReady.nil)
      go_simp
      (try (refine hK _ _ ?_; clear hK K))
      try simp only [Act.put, List.getElem_toArray, List.getElem_cons_succ, List.getElem_cons_zero, List.setIfInBounds_toArray, List.set_cons_zero, List.set_cons_succ]
      refine wpAny_done (by kernel_rfl) ?_ _
      clear e1 e2 e3 e4 e5 e6 e7
      go_wp2
      go_roundw
      case rel =>
        obtain ⟨k', a1, a2, a3, a4⟩ := HST.out
        exact ⟨k', a1, a2, a3.drew, a4.drew⟩
      case measure => simp [intOf]; omega
    · obtain rfl : k = 4 := by omega
      have hge : ¬ ((4 : Nat) : Int) < 4 := by omega
      have HC := hid (check_broken wr g q v zs HZ.out HLEN.out b (HT.out.fr f (fun h => h)) h4 h124 HV.out H0.out)
      have HFF := hid f
      clear b f hlt hk hsl
      go_wp2_with fail
      refine HC.out.mono ?_
      rintro e w' ⟨rfl, rfl⟩
      go_wp2
      go_ret
      exact ⟨rfl, HFF.out⟩

theorem broken_long (A : Option Addr) (l c : Nat) (w : World) (at_ : Int) (v : Nat) (hl : 124 < l) (hm : l ≤ maxLen) (hT : TabAt w) : Calls Tryd.prog 10 #[.slice A l c, .int .i64 at_, .int .u32 v] w fun e w' => e = .returned (.bool true) ∧ Fr No w w' := by
  have HS := hid (seal_long A l c w hl hm)
  have HT := hid hT
  clear hT hl hm
  go_enter Tryd.func10, Tryd.ntmps10
  go_wp2_with fail
  refine HS.out.mono ?_
  rintro e w' ⟨rfl, rfl⟩
  go_wp2_with fail
  refine (lives_any w HT.out).mono ?_
  rintro e w1 ⟨rfl, F1⟩
  have HF1 := hid F1
  clear F1
  go_wp2_with fail
  refine (lives_any w1 (HT.out.fr HF1.out (fun h => h))).mono ?_
  rintro e w2 ⟨rfl, F2⟩
  have HF2 := hid (HF1.out.trans F2)
  clear F2
  go_wp2
  go_ret
  exact ⟨rfl, HF2.out⟩

theorem broken_none (A : Option Addr) (l c : Nat) (zs : List Int) (w : World) (at_ : Int) (v : Nat) (hb : IsB w A l c zs) (hT : TabAt w) (hl : l ≤ 124) (h : at_ < 4 ∨ 124 < at_ ∨ (4 ≤ at_ ∧ at_ ≤ 124 ∧ v = 0)) : Calls Tryd.prog 10 #[.slice A l c, .int .i64 at_, .int .u32 v] w fun e w' => e = .returned (.bool true) ∧ Fr No w w' := by
  have HS := hid (seal_ok A l c zs w hl hb.1 hb.2.2.2 hT)
  have HT := hid hT
  have HV := hid h
  rcases h with h | h | ⟨ha, hb2, rfl⟩
  · clear hb hT hl
    go_enter Tryd.func10, Tryd.ntmps10
    go_wp2_with fail
    refine HS.out.mono ?_
    rintro e w1 ⟨rfl, _, F1⟩
    have HF1 := hid F1
    clear F1
    go_wp2_with fail
    refine (lives_any w1 (HT.out.fr HF1.out (fun h => h))).mono ?_
    rintro e w2 ⟨rfl, F2⟩
    have HF2 := hid (HF1.out.trans F2)
    clear F2
    go_wp2_with fail
    refine (lives_any w2 (HT.out.fr HF2.out (fun h => h))).mono ?_
    rintro e w3 ⟨rfl, F3⟩
    have HF3 := hid (HF2.out.trans F3)
    clear F3
    go_wp2
    go_ret
    exact ⟨rfl, HF3.out⟩
  · have h' : ¬ at_ < 4 := by omega
    clear hb hT hl
    go_enter Tryd.func10, Tryd.ntmps10
    go_wp2_with fail
    refine HS.out.mono ?_
    rintro e w1 ⟨rfl, _, F1⟩
    have HF1 := hid F1
    clear F1
    go_wp2_with fail
    refine (lives_any w1 (HT.out.fr HF1.out (fun h => h))).mono ?_
    rintro e w2 ⟨rfl, F2⟩
    have HF2 := hid (HF1.out.trans F2)
    clear F2
    go_wp2_with fail
    refine (lives_any w2 (HT.out.fr HF2.out (fun h => h))).mono ?_
    rintro e w3 ⟨rfl, F3⟩
    have HF3 := hid (HF2.out.trans F3)
    clear F3
    go_wp2
    go_ret
    exact ⟨rfl, HF3.out⟩
  · clear hb hT hl
    go_enter Tryd.func10, Tryd.ntmps10
    go_wp2_with fail
    refine HS.out.mono ?_
    rintro e w1 ⟨rfl, _, F1⟩
    have HF1 := hid F1
    clear F1
    go_wp2_with fail
    refine (lives_any w1 (HT.out.fr HF1.out (fun h => h))).mono ?_
    rintro e w2 ⟨rfl, F2⟩
    have HF2 := hid (HF1.out.trans F2)
    clear F2
    go_wp2_with fail
    refine (lives_any w2 (HT.out.fr HF2.out (fun h => h))).mono ?_
    rintro e w3 ⟨rfl, F3⟩
    have HF3 := hid (HF2.out.trans F3)
    clear F3
    go_wp2
    go_ret
    exact ⟨rfl, HF3.out⟩

theorem broken_walk (A : Option Addr) (l c : Nat) (zs : List Int) (at_ : Int) (v : Nat) (w : World) (hb : IsB w A l c zs) (hv : v < 4294967296) (hT : TabAt w) : Calls Tryd.prog 10 #[.slice A l c, .int .i64 at_, .int .u32 v] w fun e w' => e = .returned (.bool true) ∧ Fr No w w' := by
  by_cases hl : 124 < l
  · exact broken_long A l c w at_ v hl (Nat.le_trans hb.2.1 hb.2.2.1) hT
  · by_cases h : at_ < 4 ∨ 124 < at_ ∨ (4 ≤ at_ ∧ at_ ≤ 124 ∧ v = 0)
    · exact broken_none A l c zs w at_ v hb hT (by omega) h
    · obtain ⟨q, rfl⟩ := Int.eq_ofNat_of_zero_le (show 0 ≤ at_ by omega)
      exact broken_loop A l c zs w q v hb hT (by omega) (by omega) (by omega) hv (by omega)
end Go.Proofs.YtlcafkjnikiomaaDoor.CrcN
