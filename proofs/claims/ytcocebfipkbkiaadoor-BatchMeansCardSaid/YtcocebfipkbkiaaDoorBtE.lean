/- Contract: the head of a batch, by the program. Conditions: its numbers are within their bounds; its spans read as a list; the table of sums is as its text lays it. -/
import Derived.Test.YtcocebfipkbkiaaDoorBtA
import Derived.Test.YtcocebfipkbkiaaDoorWrB
import Derived.Test.YtcocebfipkbkiaaDoorCrcG
import Derived.Test.YtcocebfipkbkiaaDoorRcM
import Derived.Lib.SlBytesConst
namespace Go.Proofs.YtcocebfipkbkiaaDoor.BtE
open Go.RowKit MSep MSepC MFrame LeA LeW LeR LeX WrB CrcA CrcM CrcE CrcG MSpM BtM BtA Kit

/-- The bytes of a head, ahead of its spans; of one span; of all. -/
def eS (s : Sp) : List Int := low 4 s.1 ++ (low 2 s.2 ++ low 2 0)
def eH (q k sum : Int) (n : Nat) : List Int := [66, 84] ++ (low 1 k ++ (low 1 (n : Int) ++ (low 8 q ++ low 4 sum)))
def eB (q k sum : Int) (l : List Sp) : List Int := eH q k sum l.length ++ l.flatMap eS
theorem eS_len (s : Sp) : (eS s).length = 8 := by simp [eS, low_len]
theorem eH_len (q k sum : Int) (n : Nat) : (eH q k sum n).length = 16 := by simp [eH, low_len]
theorem fl_len (l : List Sp) : (l.flatMap eS).length = 8 * l.length := by
  induction l with
  | nil => rfl
  | cons d l ih => rw [List.flatMap_cons, List.length_append, eS_len, ih, List.length_cons]; omega
theorem eB_len (q k sum : Int) (l : List Sp) : (eB q k sum l).length = 16 + 8 * l.length := by rw [eB, List.length_append, eH_len, fl_len]
theorem eS_u8 (s : Sp) : ∀ x ∈ eS s, 0 ≤ x ∧ x ≤ 255 := by
  intro x hx
  unfold eS at hx
  simp only [List.mem_append] at hx
  rcases hx with hx | hx | hx <;> exact RcM.low_u8 _ _ x hx
theorem eB_u8 (q k sum : Int) (l : List Sp) : ∀ x ∈ eB q k sum l, 0 ≤ x ∧ x ≤ 255 := by
  intro x hx
  unfold eB eH at hx
  simp only [List.mem_append, List.mem_flatMap] at hx
  rcases hx with (hx | hx | hx | hx | hx) | ⟨s, _, hx⟩
  · simp at hx; omega
  · exact RcM.low_u8 _ _ x hx
  · exact RcM.low_u8 _ _ x hx
  · exact RcM.low_u8 _ _ x hx
  · exact RcM.low_u8 _ _ x hx
  · exact eS_u8 s x hx
theorem fl_snoc {xs : List Sp} {k : Nat} {d : Sp} (h : xs[k]? = some d) : (xs.take (k + 1)).flatMap eS = (xs.take k).flatMap eS ++ eS d := by
  rw [BtA.take_snoc h]; simp
theorem u64w (n : Int) (h : 0 ≤ n ∧ n < 18446744073709551616) : IntKind.u64.wrap n = n := by rw [IntKind.wrap_u64]; omega
theorem pad_rest (zs : List Int) (h : zs.length ≤ 124) : seal_ (padded 124 zs) = seal_ zs := by
  have : rest (padded 124 zs) = rest zs := by
    unfold rest padded
    rw [List.length_append, List.length_replicate]
    rw [show 124 - (zs.length + (124 - zs.length)) = 0 by omega]
    simp
  unfold seal_
  rw [this]
theorem pad_u8 (zs : List Int) (h : ∀ x ∈ zs, 0 ≤ x ∧ x ≤ 255) : ∀ x ∈ padded 124 zs, 0 ≤ x ∧ x ≤ 255 := by
  intro x hx
  unfold padded at hx
  rcases List.mem_append.1 hx with hx | hx
  · exact h x hx
  · rw [List.eq_of_mem_replicate hx]; decide
theorem TabAt.pos {w : World} (h : TabAt w) : 0 < w.heap.size := World.block_lt_of_cell? w _ (h 0 _ (by rfl))
theorem rdS_lo {S : Nat → Prop} {w w' : World} {A : Option Addr} {n : Nat} {l : List Sp} (h : RdS w A n l) (hf : Fr S w w') (hS : ∀ k, k < w.heap.size → ¬ S k) : RdS w' A n l := by
  refine ⟨h.1, h.2.1, fun hn => ?_⟩
  obtain ⟨g, o, rfl, hg, hc⟩ := h.2.2 hn
  exact ⟨g, o, rfl, Nat.lt_of_lt_of_le hg hf.size, fun j u hu => hf.cell_some (hc j u hu) (hS g hg)⟩
theorem len6 {a b : List Int} {n m : Nat} (hb : b.length = 8 * n) (hn : n ≤ m) (ha : a.length = 16) : (a ++ b).length ≤ 16 + 8 * m := by
  rw [List.length_append, ha, hb]; omega
/-- What numbers a head has room for. -/
structure Hok (q k sum : Int) (l : List Sp) : Prop where
  q : 0 ≤ q ∧ q < 9223372036854775808
  k : 0 ≤ k ∧ k ≤ 255
  s : 0 ≤ sum ∧ sum < 4294967296
  n : l.length ≤ 8
  l : ∀ s ∈ l, (0 ≤ s.1 ∧ s.1 ≤ 4294967295) ∧ 0 ≤ s.2 ∧ s.2 ≤ 65535
set_option maxRecDepth 100000 in
set_option maxHeartbeats 4000000 in
theorem seal_ok (q k sum : Int) (A : Option Addr) (c : Nat) (xs : List Sp) (w : World) (hx : RdS w A xs.length xs) (hh : Hok q k sum xs) (hT : TabAt w) :
    Calls Tryd.prog 33 #[bv q k A xs.length c, .int .u32 sum] w fun E w' => ∃ g, E = .returned (.tuple #[.slice (some ⟨g, 0, none⟩) 128 128, .int .i64 0]) ∧ Blk w' g 5 (CrcE.cells (seal_ (eB q k sum xs))).toArray ∧ Fr No w w' := by
  have h6 : xs.length ≤ 8 := hh.n
  have HAll := hid hh.l
  obtain ⟨q0, q1⟩ := hh.q
  obtain ⟨k0, k1⟩ := hh.k
  obtain ⟨s0, s1⟩ := hh.s
  have hpos := TabAt.pos hT
  have HF0 := hid ((Fr.refl No w).alloc (.cells (bcs q k A xs.length c) 26))
  have HR0 := hid (BB.new w q k A xs.length c)
  have HT := hid hT
  have HX := hid hx
  clear hT hx hh
  have u1 : IntKind.u64.wrap q = q := u64w q (by omega)
  have u2 : IntKind.u64.wrap k = k := u64w k (by omega)
  have u3 : IntKind.u64.wrap sum = sum := u64w sum (by omega)
  have u4 : IntKind.u64.wrap (xs.length : Int) = (xs.length : Int) := u64w _ (by omega)
  have kcv := fun w C n c => Lib.run_convert_bytes_const (P := Tryd.prog) w 27 5 C n c Tryd.underlying27 Tryd.underlying5
  obtain ⟨w1, hw1⟩ : ∃ w1, w.alloc (.cells (bcs q k A xs.length c) 26) = w1 := ⟨_, rfl⟩
  have HF1 := hid (show Fr No w w1 by rw [← hw1]; exact HF0.out)
  have HR1 := hid (show BB w1 w.heap.size q k A xs.length c by rw [← hw1]; exact HR0.out)
  have HW1 := hid hw1
  clear hw1 HF0 HR0
  go_enter Tryd.func33, Tryd.ntmps33
  go_upto_region 1 with fail
  try rw [HW1.out]
  clear HW1
  go_upto_region 2 with (first | (go_at_call 62; refine (new_wp w.heap.size _ (Blk.lt HR1.out)).mono ?_; rintro e' w2 ⟨rfl, HW, f2⟩; obtain ⟨B, hB⟩ : ∃ B, w1.heap.size = B := ⟨_, rfl⟩; have hGB : w.heap.size < B := (by rw [← hB]; exact Blk.lt HR1.out); rw [hB] at HW ⊢; have HF2 := hid (HF1.out.trans f2); have HR2 := hid (BB.fr HR1.out f2); clear f2 hB) | (go_at_call 63; go_loud (refine (bytes_wp B _ 2 2 [66, 84] B w.heap.size [] _ (by decide) (CrcG.lit_rd w2 [66, 84] (2, 3)) (HW.fr ((Fr.refl No _).alloc _))).mono ?_; rintro e' w3 ⟨rfl, HW, f3⟩; have FW : Hid (Fr (NP B w.heap.size) w w3) := hid (((HF2.out.alloc _).mono fun _ _ h => h.elim).trans f3); have HR3 := hid (Blk.fr (HR2.out.alloc (.cells #[.int .u8 66, .int .u8 84] 5 (2, 3))) f3 (by unfold NP; omega)); clear f3)))
  obtain ⟨r0, r1, r2⟩ := BB.cells HR3.out
  have HW := HW.drew
  have FW := kdN FW
  refine wp_region_noPanic ?_
  refine wp_region_held_drew (S := (fun W' => W'.cell? ⟨w.heap.size, 0, none⟩ = some (.int .i64 q) ∧ W'.cell? ⟨w.heap.size, 1, none⟩ = some (.int .i64 k) ∧ W'.cell? ⟨w.heap.size, 2, none⟩ = some (.slice A xs.length c) ∧ Hid (Fr (NP B w.heap.size) w W'))) (by kernel_rfl) ?_ (fun hHeld => ?_)
  · (try dsimp only); (first | (go_split_ands; exact ⟨kcN f (by assumption), kcN f (by assumption), kcN f (by assumption), by assumption⟩) | (go_split_ands; exact ⟨(by assumption), (by assumption), (by assumption), by assumption⟩) | (go_split_ands; exact ⟨kcN (fr1 _ _) (by assumption), kcN (fr1 _ _) (by assumption), kcN (fr1 _ _) (by assumption), kfaN (by assumption)⟩))
  refine wpAnyH_take (i := 0) (v := ?v1) rfl (by kernel_rfl) (by kernel_rfl) (by kernel_rfl) (fun _ _ _ h => h) (Or.inl ⟨by kernel_rfl, ?y1⟩) (by assumption) ?_
  case y1 => (intro w hSw; (try dsimp only at hSw); go_simp; all_goals with_reducible rfl)
  try simp only [Act.put, List.getElem_toArray, List.getElem_cons_zero, List.setIfInBounds_toArray, List.set_cons_zero, List.set_cons_succ]
  refine wpAnyH_take (i := 1) (v := ?v2) rfl (by kernel_rfl) (by kernel_rfl) (by kernel_rfl) (fun _ _ _ h => h) (Or.inl ⟨by kernel_rfl, ?y2⟩) (by assumption) ?_
  case y2 => (intro w hSw; (try dsimp only at hSw); go_simp; all_goals with_reducible rfl)
  try simp only [Act.put, List.getElem_toArray, List.getElem_cons_succ, List.getElem_cons_zero, List.setIfInBounds_toArray, List.set_cons_zero, List.set_cons_succ]
  refine wpAnyH_take (i := 2) (v := ?v3) rfl (by kernel_rfl) (by kernel_rfl) (by kernel_rfl) (fun _ _ _ h => h) (Or.inl ⟨by kernel_rfl, ?y3⟩) (by assumption) ?_
  case y3 => (intro w hSw; (try dsimp only at hSw); go_simp; all_goals with_reducible rfl)
  try simp only [Act.put, List.getElem_toArray, List.getElem_cons_succ, List.getElem_cons_zero, List.setIfInBounds_toArray, List.set_cons_zero, List.set_cons_succ]
  refine wpAnyH_take (i := 3) (v := ?v4) rfl (by kernel_rfl) (by kernel_rfl) (by kernel_rfl) (fun _ _ _ h => h) (Or.inl ⟨by kernel_rfl, ?y4⟩) (by assumption) ?_
  case y4 => (intro w hSw; (try dsimp only at hSw); go_simp; all_goals with_reducible rfl)
  try simp only [Act.put, List.getElem_toArray, List.getElem_cons_succ, List.getElem_cons_zero, List.setIfInBounds_toArray, List.set_cons_zero, List.set_cons_succ]
  refine wpAnyH_take (i := 5) (v := ?v5) rfl (by kernel_rfl) (by kernel_rfl) (by kernel_rfl) (fun _ _ _ h => h) (Or.inl ⟨by kernel_rfl, ?y5⟩) (by assumption) ?_
  case y5 => (intro w hSw; (try dsimp only at hSw); go_simp; all_goals with_reducible rfl)
  try simp only [Act.put, List.getElem_toArray, List.getElem_cons_succ, List.getElem_cons_zero, List.setIfInBounds_toArray, List.set_cons_zero, List.set_cons_succ]
  refine wpAnyH_take (i := 6) (v := ?v6) rfl (by kernel_rfl) (by kernel_rfl) (by kernel_rfl) (fun _ _ _ h => h) (Or.inl ⟨by kernel_rfl, ?y6⟩) (by assumption) ?_
  case y6 => (intro w hSw; (try dsimp only at hSw); go_simp; all_goals with_reducible rfl)
  try simp only [Act.put, List.getElem_toArray, List.getElem_cons_succ, List.getElem_cons_zero, List.setIfInBounds_toArray, List.set_cons_zero, List.set_cons_succ]
  refine wpAnyH_take (i := 7) (v := ?v7) rfl (by kernel_rfl) (by kernel_rfl) (by kernel_rfl) (fun _ _ _ h => h) (Or.inl ⟨by kernel_rfl, ?y7⟩) (by assumption) ?_
  case y7 => (intro w hSw; (try dsimp only at hSw); go_simp; all_goals with_reducible rfl)
  try simp only [Act.put, List.getElem_toArray, List.getElem_cons_succ, List.getElem_cons_zero, List.setIfInBounds_toArray, List.set_cons_zero, List.set_cons_succ]
  refine wpAnyH_take (i := 8) (v := ?v8) rfl (by kernel_rfl) (by kernel_rfl) (by kernel_rfl) (fun _ _ _ h => h) (Or.inl ⟨by kernel_rfl, ?y8⟩) (by assumption) ?_
  case y8 => (intro w hSw; (try dsimp only at hSw); go_simp; all_goals with_reducible rfl)
  try simp only [Act.put, List.getElem_toArray, List.getElem_cons_succ, List.getElem_cons_zero, List.setIfInBounds_toArray, List.set_cons_zero, List.set_cons_succ]
  refine wpAnyH_take (i := 10) (v := ?v9) rfl (by kernel_rfl) (by kernel_rfl) (by kernel_rfl) (fun _ _ _ h => h) (Or.inl ⟨by kernel_rfl, ?y9⟩) (by assumption) ?_
  case y9 => (intro w hSw; (try dsimp only at hSw); go_simp; all_goals with_reducible rfl)
  try simp only [Act.put, List.getElem_toArray, List.getElem_cons_succ, List.getElem_cons_zero, List.setIfInBounds_toArray, List.set_cons_zero, List.set_cons_succ]
  refine wpAnyH_take (i := 11) (v := ?v10) rfl (by kernel_rfl) (by kernel_rfl) (by kernel_rfl) (fun _ _ _ h => h) (Or.inl ⟨by kernel_rfl, ?y10⟩) (by assumption) ?_
  case y10 => (intro w hSw; (try dsimp only at hSw); go_simp; all_goals with_reducible rfl)
  try simp only [Act.put, List.getElem_toArray, List.getElem_cons_succ, List.getElem_cons_zero, List.setIfInBounds_toArray, List.set_cons_zero, List.set_cons_succ]
  refine wpAnyH_take (i := 12) (v := ?v11) rfl (by kernel_rfl) (by kernel_rfl) (by kernel_rfl) (fun _ _ _ h => h) (Or.inl ⟨by kernel_rfl, ?y11⟩) (by assumption) ?_
  case y11 => (intro w hSw; (try dsimp only at hSw); go_simp; all_goals with_reducible rfl)
  try simp only [Act.put, List.getElem_toArray, List.getElem_cons_succ, List.getElem_cons_zero, List.setIfInBounds_toArray, List.set_cons_zero, List.set_cons_succ]
  refine wpAnyH_take (i := 14) (v := ?v12) rfl (by kernel_rfl) (by kernel_rfl) (by kernel_rfl) (fun _ _ _ h => h) (Or.inl ⟨by kernel_rfl, ?y12⟩) (by assumption) ?_
  case y12 => (intro w hSw; (try dsimp only at hSw); go_simp; all_goals with_reducible rfl)
  try simp only [Act.put, List.getElem_toArray, List.getElem_cons_succ, List.getElem_cons_zero, List.setIfInBounds_toArray, List.set_cons_zero, List.set_cons_succ]
  refine wpAnyH_take (i := 15) (v := ?v13) rfl (by kernel_rfl) (by kernel_rfl) (by kernel_rfl) (fun _ _ _ h => h) (Or.inl ⟨by kernel_rfl, ?y13⟩) (by assumption) ?_
  case y13 => (intro w hSw; (try dsimp only at hSw); go_simp; all_goals with_reducible rfl)
  try simp only [Act.put, List.getElem_toArray, List.getElem_cons_succ, List.getElem_cons_zero, List.setIfInBounds_toArray, List.set_cons_zero, List.set_cons_succ]
  refine wpAnyH_ready (rs := [4]) (by kernel_rfl) (by simp) (AllReadyH.cons rfl (fun K hK => ?_) AllReadyH.nil)
  go_simp
  go_at_call 64
  refine (put_wp B _ _ B w.heap.size _ _ (by decide) (by first | (simp []; done) | (simp [low_len]; omega) | omega) (by first | decide | omega) HW).mono ?_
  rintro e W1 ⟨rfl, HW, f⟩
  have FW := kfN f hHeld.2.2.2
  dsimp only
  refine hK.out _ _ ?_ (fun hHeld => ?_)
  · (try dsimp only); (first | (go_split_ands; exact ⟨kcN f (by assumption), kcN f (by assumption), kcN f (by assumption), by assumption⟩) | (go_split_ands; exact ⟨(by assumption), (by assumption), (by assumption), by assumption⟩) | (go_split_ands; exact ⟨kcN (fr1 _ _) (by assumption), kcN (fr1 _ _) (by assumption), kcN (fr1 _ _) (by assumption), kfaN (by assumption)⟩))
  clear hK K
  try simp only [Act.put, List.getElem_toArray, List.getElem_cons_succ, List.getElem_cons_zero, List.setIfInBounds_toArray, List.set_cons_zero, List.set_cons_succ]
  refine wpAnyH_ready (rs := [9]) (by kernel_rfl) (by simp) (AllReadyH.cons rfl (fun K hK => ?_) AllReadyH.nil)
  go_simp
  go_at_call 64
  refine (put_wp B _ _ B w.heap.size _ _ (by decide) (by first | (simp [low_len]; done) | (simp [low_len]; omega) | omega) (by first | decide | omega) HW).mono ?_
  rintro e W1 ⟨rfl, HW, f⟩
  have FW := kfN f hHeld.2.2.2
  dsimp only
  refine hK.out _ _ ?_ (fun hHeld => ?_)
  · (try dsimp only); (first | (go_split_ands; exact ⟨kcN f (by assumption), kcN f (by assumption), kcN f (by assumption), by assumption⟩) | (go_split_ands; exact ⟨(by assumption), (by assumption), (by assumption), by assumption⟩) | (go_split_ands; exact ⟨kcN (fr1 _ _) (by assumption), kcN (fr1 _ _) (by assumption), kcN (fr1 _ _) (by assumption), kfaN (by assumption)⟩))
  clear hK K
  try simp only [Act.put, List.getElem_toArray, List.getElem_cons_succ, List.getElem_cons_zero, List.setIfInBounds_toArray, List.set_cons_zero, List.set_cons_succ]
  refine wpAnyH_ready (rs := [13]) (by kernel_rfl) (by simp) (AllReadyH.cons rfl (fun K hK => ?_) AllReadyH.nil)
  go_simp
  go_at_call 64
  refine (put_wp B _ _ B w.heap.size _ _ (by decide) (by first | (simp [low_len]; done) | (simp [low_len]; omega) | omega) (by first | decide | omega) HW).mono ?_
  rintro e W1 ⟨rfl, HW, f⟩
  have FW := kfN f hHeld.2.2.2
  dsimp only
  refine hK.out _ _ ?_ (fun hHeld => ?_)
  · (try dsimp only); (first | (go_split_ands; exact ⟨kcN f (by assumption), kcN f (by assumption), kcN f (by assumption), by assumption⟩) | (go_split_ands; exact ⟨(by assumption), (by assumption), (by assumption), by assumption⟩) | (go_split_ands; exact ⟨kcN (fr1 _ _) (by assumption), kcN (fr1 _ _) (by assumption), kcN (fr1 _ _) (by assumption), kfaN (by assumption)⟩))
  clear hK K
  try simp only [Act.put, List.getElem_toArray, List.getElem_cons_succ, List.getElem_cons_zero, List.setIfInBounds_toArray, List.set_cons_zero, List.set_cons_succ]
  refine wpAnyH_ready (rs := [16]) (by kernel_rfl) (by simp) (AllReadyH.cons rfl (fun K hK => ?_) AllReadyH.nil)
  go_simp
  go_at_call 64
  refine (put_wp B _ _ B w.heap.size _ _ (by decide) (by first | (simp [low_len]; done) | (simp [low_len]; omega) | omega) (by first | decide | omega) HW).mono ?_
  rintro e W1 ⟨rfl, HW, f⟩
  have FW := kfN f hHeld.2.2.2
  dsimp only
  refine hK.out _ _ ?_ (fun hHeld => ?_)
  · (try dsimp only); (first | (go_split_ands; exact ⟨kcN f (by assumption), kcN f (by assumption), kcN f (by assumption), by assumption⟩) | (go_split_ands; exact ⟨(by assumption), (by assumption), (by assumption), by assumption⟩) | (go_split_ands; exact ⟨kcN (fr1 _ _) (by assumption), kcN (fr1 _ _) (by assumption), kcN (fr1 _ _) (by assumption), kfaN (by assumption)⟩))
  clear hK K
  try simp only [Act.put, List.getElem_toArray, List.getElem_cons_succ, List.getElem_cons_zero, List.setIfInBounds_toArray, List.set_cons_zero, List.set_cons_succ]
  refine wpAnyH_done (by kernel_rfl) ?_ _
  refine NoPanic.normal ?_
  have FW := hHeld.2.2.2
  obtain ⟨r0, r1, r2, _⟩ := hHeld
  go_wp2_with fail
  go_loopw [35] (fun i wr => ∃ j : Nat, j ≤ xs.length ∧ i = .int .i64 j ∧ WrP wr B w.heap.size B (eH q k sum xs.length ++ (xs.take j).flatMap eS) ∧ Fr (NP B w.heap.size) w wr) (fun i _ => xs.length - (intOf i).toNat)
  case atStart => exact ⟨0, by omega, rfl, by simpa [eH, List.append_assoc] using HW, FW.out⟩
  case round =>
    clear FW HW
    obtain ⟨j, hj, rfl, HW, hf⟩ := hrel
    have HXk := rdS_lo HX.out hf (fun k hk h => by unfold NP at h; omega)
    by_cases hlt : j < xs.length
    · obtain ⟨d, hd⟩ : ∃ d, xs[j]? = some d := ⟨_, List.getElem?_eq_getElem hlt⟩
      obtain ⟨g, o, rfl, hg, hc⟩ := HXk.at_ (by omega)
      obtain ⟨c0, c1⟩ := hc j d hd
      have hmd := HAll.out d (List.mem_of_getElem? hd)
      have hlt3 : (j : Int) < xs.length := by omega
      have h0 : (0 : Int) ≤ j := by omega
      have HD := hid hd
      have HFk := hid hf
      have hle := len6 (fl_len (xs.take j)) (show (xs.take j).length ≤ 7 by rw [List.length_take]; omega) (eH_len q k sum xs.length)
      obtain ⟨X, hX⟩ : ∃ X, eH q k sum xs.length ++ (xs.take j).flatMap eS = X := ⟨_, rfl⟩
      rw [hX] at HW hle
      have HX2 := hid hX
      obtain ⟨da, dn⟩ := d
      simp only [] at c0 c1 hmd
      obtain ⟨m1, m2⟩ := hmd
      have v1 := u64w da (by omega)
      have v2 := u64w dn (by omega)
      clear hX hd hf hc HXk r0 r1 r2 u1 u2 u3 u4
      have HW := HW.box (.cells #[.int .i64 da, .int .i64 dn] 53)
      obtain ⟨T, hT⟩ : ∃ T, wr.heap.size = T := ⟨_, rfl⟩
      have HBk := hid (show Blk (wr.alloc (.cells #[.int .i64 da, .int .i64 dn] 53)) T 53 #[.int .i64 da, .int .i64 dn] by rw [← hT]; exact Blk.new wr _ _)
      have FW : Hid (Fr (NP B w.heap.size) w (wr.alloc (.cells #[.int .i64 da, .int .i64 dn] 53))) := hid (HFk.out.alloc _)
      obtain ⟨W2, hW2⟩ : ∃ W2, wr.alloc (.cells #[.int .i64 da, .int .i64 dn] 53) = W2 := ⟨_, rfl⟩
      rw [hT, hW2] at HW
      rw [hW2] at HBk FW
      have HT2 := hid hT
      have HW2 := hid hW2
      clear hW2 hT
      go_upto_region 6 with fail
      try rw [HW2.out]
      try rw [HT2.out]
      clear HW2 HT2
      obtain ⟨d0, d1⟩ : W2.cell? ⟨T, 0, none⟩ = some (.int .i64 da) ∧ W2.cell? ⟨T, 1, none⟩ = some (.int .i64 dn) := ⟨HBk.out.cell 0, HBk.out.cell 1⟩
      have FK := FW
      have FW : Hid (Fr (NP B T) W2 W2) := hid (Fr.refl _ _)
      clear c0 c1
      have HW := HW.drew
      have FW := kdN FW
      refine wp_region_noPanic ?_
      refine wp_region_held_drew (S := (fun W' => W'.cell? ⟨T, 0, none⟩ = some (.int .i64 da) ∧ W'.cell? ⟨T, 1, none⟩ = some (.int .i64 dn) ∧ Hid (Fr (NP B T) W2 W'))) (by kernel_rfl) ?_ (fun hHeld => ?_)
      · (try dsimp only); (first | (go_split_ands; exact ⟨kcN f (by assumption), kcN f (by assumption), by assumption⟩) | (go_split_ands; exact ⟨(by assumption), (by assumption), by assumption⟩) | (go_split_ands; exact ⟨kcN (fr1 _ _) (by assumption), kcN (fr1 _ _) (by assumption), kfaN (by assumption)⟩))
      refine wpAnyH_take (i := 0) (v := ?v14) rfl (by kernel_rfl) (by kernel_rfl) (by kernel_rfl) (fun _ _ _ h => h) (Or.inl ⟨by kernel_rfl, ?y14⟩) (by assumption) ?_
      case y14 => (intro w hSw; (try dsimp only at hSw); go_simp; all_goals with_reducible rfl)
      try simp only [Act.put, List.getElem_toArray, List.getElem_cons_zero, List.setIfInBounds_toArray, List.set_cons_zero, List.set_cons_succ]
      refine wpAnyH_take (i := 1) (v := ?v15) rfl (by kernel_rfl) (by kernel_rfl) (by kernel_rfl) (fun _ _ _ h => h) (Or.inl ⟨by kernel_rfl, ?y15⟩) (by assumption) ?_
      case y15 => (intro w hSw; (try dsimp only at hSw); go_simp; all_goals with_reducible rfl)
      try simp only [Act.put, List.getElem_toArray, List.getElem_cons_succ, List.getElem_cons_zero, List.setIfInBounds_toArray, List.set_cons_zero, List.set_cons_succ]
      refine wpAnyH_take (i := 2) (v := ?v16) rfl (by kernel_rfl) (by kernel_rfl) (by kernel_rfl) (fun _ _ _ h => h) (Or.inl ⟨by kernel_rfl, ?y16⟩) (by assumption) ?_
      case y16 => (intro w hSw; (try dsimp only at hSw); go_simp; all_goals with_reducible rfl)
      try simp only [Act.put, List.getElem_toArray, List.getElem_cons_succ, List.getElem_cons_zero, List.setIfInBounds_toArray, List.set_cons_zero, List.set_cons_succ]
      refine wpAnyH_take (i := 3) (v := ?v17) rfl (by kernel_rfl) (by kernel_rfl) (by kernel_rfl) (fun _ _ _ h => h) (Or.inl ⟨by kernel_rfl, ?y17⟩) (by assumption) ?_
      case y17 => (intro w hSw; (try dsimp only at hSw); go_simp; all_goals with_reducible rfl)
      try simp only [Act.put, List.getElem_toArray, List.getElem_cons_succ, List.getElem_cons_zero, List.setIfInBounds_toArray, List.set_cons_zero, List.set_cons_succ]
      refine wpAnyH_take (i := 5) (v := ?v18) rfl (by kernel_rfl) (by kernel_rfl) (by kernel_rfl) (fun _ _ _ h => h) (Or.inl ⟨by kernel_rfl, ?y18⟩) (by assumption) ?_
      case y18 => (intro w hSw; (try dsimp only at hSw); go_simp; all_goals with_reducible rfl)
      try simp only [Act.put, List.getElem_toArray, List.getElem_cons_succ, List.getElem_cons_zero, List.setIfInBounds_toArray, List.set_cons_zero, List.set_cons_succ]
      refine wpAnyH_take (i := 6) (v := ?v19) rfl (by kernel_rfl) (by kernel_rfl) (by kernel_rfl) (fun _ _ _ h => h) (Or.inl ⟨by kernel_rfl, ?y19⟩) (by assumption) ?_
      case y19 => (intro w hSw; (try dsimp only at hSw); go_simp; all_goals with_reducible rfl)
      try simp only [Act.put, List.getElem_toArray, List.getElem_cons_succ, List.getElem_cons_zero, List.setIfInBounds_toArray, List.set_cons_zero, List.set_cons_succ]
      refine wpAnyH_take (i := 7) (v := ?v20) rfl (by kernel_rfl) (by kernel_rfl) (by kernel_rfl) (fun _ _ _ h => h) (Or.inl ⟨by kernel_rfl, ?y20⟩) (by assumption) ?_
      case y20 => (intro w hSw; (try dsimp only at hSw); go_simp; all_goals with_reducible rfl)
      try simp only [Act.put, List.getElem_toArray, List.getElem_cons_succ, List.getElem_cons_zero, List.setIfInBounds_toArray, List.set_cons_zero, List.set_cons_succ]
      refine wpAnyH_ready (rs := [4]) (by kernel_rfl) (by simp) (AllReadyH.cons rfl (fun K hK => ?_) AllReadyH.nil)
      go_simp
      go_at_call 64
      refine (put_wp B _ _ B T _ _ (by decide) (by first | (simp [low_len]; done) | (simp [low_len]; omega) | omega) (by first | decide | omega) HW).mono ?_
      rintro e W1 ⟨rfl, HW, f⟩
      have FW := kfN f hHeld.2.2
      dsimp only
      refine hK.out _ _ ?_ (fun hHeld => ?_)
      · (try dsimp only); (first | (go_split_ands; exact ⟨kcN f (by assumption), kcN f (by assumption), by assumption⟩) | (go_split_ands; exact ⟨(by assumption), (by assumption), by assumption⟩) | (go_split_ands; exact ⟨kcN (fr1 _ _) (by assumption), kcN (fr1 _ _) (by assumption), kfaN (by assumption)⟩))
      clear hK K
      try simp only [Act.put, List.getElem_toArray, List.getElem_cons_succ, List.getElem_cons_zero, List.setIfInBounds_toArray, List.set_cons_zero, List.set_cons_succ]
      refine wpAnyH_ready (rs := [8]) (by kernel_rfl) (by simp) (AllReadyH.cons rfl (fun K hK => ?_) AllReadyH.nil)
      go_simp
      go_at_call 64
      refine (put_wp B _ _ B T _ _ (by decide) (by first | (simp [low_len]; done) | (simp [low_len]; omega) | omega) (by first | decide | omega) HW).mono ?_
      rintro e W1 ⟨rfl, HW, f⟩
      have FW := kfN f hHeld.2.2
      dsimp only
      refine hK.out _ _ ?_ (fun hHeld => ?_)
      · (try dsimp only); (first | (go_split_ands; exact ⟨kcN f (by assumption), kcN f (by assumption), by assumption⟩) | (go_split_ands; exact ⟨(by assumption), (by assumption), by assumption⟩) | (go_split_ands; exact ⟨kcN (fr1 _ _) (by assumption), kcN (fr1 _ _) (by assumption), kfaN (by assumption)⟩))
      clear hK K
      try simp only [Act.put, List.getElem_toArray, List.getElem_cons_succ, List.getElem_cons_zero, List.setIfInBounds_toArray, List.set_cons_zero, List.set_cons_succ]
      refine wpAnyH_ready (rs := [9]) (by kernel_rfl) (by simp) (AllReadyH.cons rfl (fun K hK => ?_) AllReadyH.nil)
      go_simp
      go_at_call 64
      refine (put_wp B _ _ B T _ _ (by decide) (by first | (simp [low_len]; done) | (simp [low_len]; omega) | omega) (by first | decide | omega) HW).mono ?_
      rintro e W1 ⟨rfl, HW, f⟩
      have FW := kfN f hHeld.2.2
      dsimp only
      refine hK.out _ _ ?_ (fun hHeld => ?_)
      · (try dsimp only); (first | (go_split_ands; exact ⟨kcN f (by assumption), kcN f (by assumption), by assumption⟩) | (go_split_ands; exact ⟨(by assumption), (by assumption), by assumption⟩) | (go_split_ands; exact ⟨kcN (fr1 _ _) (by assumption), kcN (fr1 _ _) (by assumption), kfaN (by assumption)⟩))
      clear hK K
      try simp only [Act.put, List.getElem_toArray, List.getElem_cons_succ, List.getElem_cons_zero, List.setIfInBounds_toArray, List.set_cons_zero, List.set_cons_succ]
      refine wpAnyH_done (by kernel_rfl) ?_ _
      refine NoPanic.normal ?_
      have FR := hHeld.2.2
      clear hHeld
      go_wp2
      go_roundw
      case rel =>
        refine ⟨j + 1, by omega, by go_num, ?_, FK.out.trans (np_mono hGB FR.out)⟩
        rw [fl_snoc HD.out, ← List.append_assoc, HX2.out]
        have := HW.un hGB
        simpa [eS, List.append_assoc] using this
      case measure => simp [intOf]; omega
    · obtain rfl : j = xs.length := by omega
      rw [List.take_length] at HW
      have HFk := hid hf
      have hlenR := HW.len
      have HTk := hid (HT.out.fr hf (by unfold NP; omega))
      clear hf HXk r0 r1 r2 u1 u2 u3 u4
      go_wp2_with (first | (go_at_call 65; refine (done_wp _ _ _ _ _ HW).mono ?_; rintro e' w4 ⟨A4, rfl, HD4, f4⟩; have HF4 := hid (HFk.out.trans (f4.mono fun _ _ h => h.elim)); have HT4 := hid (HTk.out.fr f4 (fun h => h)); clear f4) | (go_at_call 66; refine (CrcE.seal_ok _ _ _ _ _ (by decide) HD4 (pad_u8 _ (eB_u8 q k sum xs)) HT4.out).mono ?_; rintro e' w5 ⟨rfl, hb5, f5⟩; rw [pad_rest _ hlenR] at hb5; have HB5 := hid hb5; have HF5 := hid (HF4.out.trans (f5.mono fun _ _ h => h.elim)); clear f5 hb5))
      go_ret2
      exact ⟨_, rfl, HB5.out, HF5.out.mono fun k hk h => by unfold NP at h; omega⟩
end Go.Proofs.YtcocebfipkbkiaaDoor.BtE
