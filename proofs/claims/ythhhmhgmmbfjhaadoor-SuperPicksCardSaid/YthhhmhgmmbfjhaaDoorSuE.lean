/- Contracts: a writer of 124 bytes beside any blocks that are none of its own; what Encode does with one number. Conditions: all that is put has room; numbers are not below 0. -/
import Derived.Test.YthhhmhgmmbfjhaaDoorSuD
import Derived.Test.YthhhmhgmmbfjhaaDoorWrB
namespace Go.Proofs.YthhhmhgmmbfjhaaDoor.SuE
open Go.RowKit MSep LeA LeW LeR LeX WrB SuA SuB

/-- Blocks from B on that are none of U. -/
def NU (B : Nat) (U : Nat → Prop) : Nat → Prop := fun k => B ≤ k ∧ ¬ U k
def WrU (w : World) (B : Nat) (U : Nat → Prop) (g : Nat) (xs : List Int) : Prop := (∃ sv, WOk w B g 124 false sv xs ∧ ∀ k, WF g sv k → ¬ U k) ∧ ∀ k, U k → k < w.heap.size
theorem WrP.toU {w w2 : World} {B T g : Nat} {xs : List Int} (h : WrP w B T g xs) (f : Fr No w w2) (U : Nat → Prop) (hU : ∀ k, U k → w.heap.size ≤ k ∧ k < w2.heap.size) : WrU w2 B U g xs := by
  obtain ⟨⟨sv, h, _⟩, _⟩ := h
  exact ⟨⟨sv, h.fr f (fun _ _ h => h), fun k hk hu => by have := (wf_lt h k hk).2; have := (hU k hu).1; omega⟩, fun k hu => (hU k hu).2⟩
theorem WrU.more {w : World} {B g : Nat} {U : Nat → Prop} {xs : List Int} (h : WrU w B U g xs) (o : Obj) : WrU (w.alloc o) B (fun k => U k ∨ k = w.heap.size) g xs := by
  obtain ⟨⟨sv, h, ha⟩, hu⟩ := h
  refine ⟨⟨sv, h.fr ((Fr.refl No w).alloc o) (fun _ _ h => h), fun k hk hq => ?_⟩, fun k hq => ?_⟩
  · rcases hq with hq | hq
    · exact ha k hk hq
    · have := (wf_lt h k hk).2
      omega
  · rcases hq with hq | hq
    · have := hu k hq
      simp
      omega
    · simp
      omega
theorem WrU.less {w : World} {B g : Nat} {U V : Nat → Prop} {xs : List Int} (h : WrU w B U g xs) (hv : ∀ k, V k → U k) : WrU w B V g xs := by
  obtain ⟨⟨sv, h, ha⟩, hu⟩ := h
  exact ⟨⟨sv, h, fun k hk hq => ha k hk (hv k hq)⟩, fun k hq => hu k (hv k hq)⟩
theorem WrU.fr {w w' : World} {B g : Nat} {U : Nat → Prop} {xs : List Int} (h : WrU w B U g xs) (hf : Fr No w w') : WrU w' B U g xs := by
  obtain ⟨⟨sv, h, ha⟩, ht⟩ := h
  exact ⟨⟨sv, h.fr hf (fun _ _ h => h), ha⟩, fun k hk => Nat.lt_of_lt_of_le (ht k hk) hf.size⟩
theorem WrU.le {w : World} {B g : Nat} {U : Nat → Prop} {xs : List Int} (h : WrU w B U g xs) : B ≤ w.heap.size := by
  obtain ⟨⟨sv, h, ha⟩, ht⟩ := h
  exact Nat.le_trans h.hB (Nat.le_of_lt h.blk.lt)
theorem put_wu (g : Nat) (size n : Int) (B : Nat) (U : Nat → Prop) (xs : List Int) (w : World) (hs : size = 1 ∨ size = 2 ∨ size = 4 ∨ size = 8) (hf : xs.length + size ≤ 124) (hn : 0 ≤ n ∧ n < 18446744073709551616) (h : WrU w B U g xs) :
    Calls Tryd.prog 48 #[.pointer (some ⟨g, 0, none⟩), .int .i64 size, .int .u64 n] w fun e w' => e = .returned (.pointer (some ⟨g, 0, none⟩)) ∧ WrU w' B U g (xs ++ low size.toNat n) ∧ Fr (NU B U) w w' := by
  have hl := h.le
  obtain ⟨⟨sv, h, ha⟩, ht⟩ := h
  refine (put_ok g size n B 124 sv xs w hs hf hn.1 hn.2 hl h).mono ?_
  rintro e w' ⟨rfl, sv', h1, h2, h3⟩
  refine ⟨rfl, ⟨⟨sv', h1, ?_⟩, fun k hk => Nat.lt_of_lt_of_le (ht k hk) h2.size⟩, h2.mono (fun k _ hk => ⟨(wf_lt h k hk).1, ha k hk⟩)⟩
  rintro k (rfl | hk)
  · exact ha k (.inl rfl)
  · rcases h3 k hk with h4 | h4
    · exact ha k (.inr h4)
    · intro hu
      have := ht k hu
      omega
theorem kdU {S : Nat → Prop} {a b : World} (h : Hid (Fr S a b)) : Hid (Fr S a b.drew) := hid h.out.drew
theorem kfU {S : Nat → Prop} {a b c : World} (k : Fr S b c) (h : Hid (Fr S a b)) : Hid (Fr S a c) := hid (h.out.trans k)
theorem kcU {B : Nat} {U : Nat → Prop} {b c : World} {p : Addr} {v : Value} (k : Fr (NU B U) b c) (h : b.cell? p = some v) (hu : U p.block) : c.cell? p = some v := k.cell_some h (fun e => e.2 hu)
theorem u64w (n : Int) (h : 0 ≤ n ∧ n < 18446744073709551616) : IntKind.u64.wrap n = n := by rw [IntKind.wrap_u64]; omega
set_option maxRecDepth 100000 in
set_option maxHeartbeats 2000000 in
theorem enc1_ok (sz lo hi v : Int) (fn : Value) (G o M g B : Nat) (U : Nat → Prop) (xs : List Int) (w : World) (hc : w.cell? ⟨G, o, none⟩ = some (.int .i64 v)) (hm : w.cell? ⟨M, 0, none⟩ = some (.pointer (some ⟨g, 0, none⟩))) (uG : U G) (uM : U M) (hW : WrU w B U g xs)
    (hs : sz = 1 ∨ sz = 2 ∨ sz = 4 ∨ sz = 8) (hf : xs.length + sz ≤ 124) (hn : 0 ≤ v ∧ v < 9223372036854775808) :
    Calls Tryd.prog 47 #[.agg #[.int .i64 sz, .int .i64 lo, .int .i64 hi, fn], .pointer (some ⟨G, o, none⟩), .pointer (some ⟨M, 0, none⟩)] w fun e w' => e = .returned (.tuple #[]) ∧ WrU w' B U g (xs ++ low sz.toNat v) ∧ Fr (NU B U) w w' := by
  obtain ⟨X, hX⟩ : ∃ X, w.heap.size = X := ⟨_, rfl⟩
  obtain ⟨W, hWW⟩ : ∃ W, w.alloc (.cells #[.int .i64 sz, .int .i64 lo, .int .i64 hi, fn] 86) = W := ⟨_, rfl⟩
  have HFW := hid (show Fr No w W by rw [← hWW]; exact (Fr.refl No w).alloc _)
  have b0 : W.cell? ⟨X, 0, none⟩ = some (.int .i64 sz) := by
    rw [← hWW, ← hX]
    exact (Blk.new w 86 #[.int .i64 sz, .int .i64 lo, .int .i64 hi, fn]).cell 0
  have HW := hid (show WrU W B (fun k => U k ∨ k = X) g xs by rw [← hWW, ← hX]; exact hW.more _)
  have c0 : W.cell? ⟨G, o, none⟩ = some (.int .i64 v) := HFW.out.cell_some hc (fun h => h)
  have m0 : W.cell? ⟨M, 0, none⟩ = some (.pointer (some ⟨g, 0, none⟩)) := HFW.out.cell_some hm (fun h => h)
  have FW : Hid (Fr (NU B (fun k => U k ∨ k = X)) W W) := hid (Fr.refl _ W)
  have UG := hid (show (fun k => U k ∨ k = X) G from Or.inl uG)
  have UM := hid (show (fun k => U k ∨ k = X) M from Or.inl uM)
  have UX := hid (show (fun k => U k ∨ k = X) X from Or.inr rfl)
  have HS := hid hs
  have HF := hid hf
  have hv : IntKind.u64.wrap v = v := u64w v (by omega)
  clear hc hm hW hs hf uG uM
  go_enter Tryd.func47, Tryd.ntmps47
  go_wp2_with fail
  try rw [hWW]
  try rw [hX]
  have FW := kdU FW
  refine wp_region_noPanic ?_
  refine wp_region_held_drew (S := (fun W' => W'.cell? ⟨G, o, none⟩ = some (.int .i64 v) ∧ W'.cell? ⟨X, 0, none⟩ = some (.int .i64 sz) ∧ W'.cell? ⟨M, 0, none⟩ = some (.pointer (some ⟨g, 0, none⟩)) ∧ Hid (Fr (NU B (fun k => U k ∨ k = X)) W W'))) (by kernel_rfl) ?_ (fun hHeld => ?_)
  · (try dsimp only); (first | (go_split_ands; exact ⟨kcU f (by assumption) UG.out, kc f (by assumption), kc f (by assumption), by assumption⟩) | (go_split_ands; exact ⟨(by assumption), (by assumption), (by assumption), by assumption⟩) | (go_split_ands; exact ⟨kc (fr1 _ _) (by assumption), kc (fr1 _ _) (by assumption), kc (fr1 _ _) (by assumption), kfa (by assumption)⟩) | (go_split_ands; exact ⟨kcU f (by assumption) UG.out, kcU f (by assumption) (Or.inr rfl), kcU f (by assumption) UM.out, by assumption⟩))
  refine wpAnyH_take (i := 0) (v := ?v1) rfl (by kernel_rfl) (by kernel_rfl) (by kernel_rfl) (fun _ _ _ h => h) (Or.inl ⟨by kernel_rfl, ?y1⟩) (by assumption) ?_
  case y1 => (intro w hSw; (try dsimp only at hSw); go_simp; all_goals with_reducible rfl)
  try simp only [Act.put, List.getElem_toArray, List.getElem_cons_zero, List.setIfInBounds_toArray, List.set_cons_zero, List.set_cons_succ]
  refine wpAnyH_take (i := 1) (v := ?v2) rfl (by kernel_rfl) (by kernel_rfl) (by kernel_rfl) (fun _ _ _ h => h) (Or.inl ⟨by kernel_rfl, ?y2⟩) (by assumption) ?_
  case y2 => (intro w hSw; (try dsimp only at hSw); go_simp; all_goals with_reducible rfl)
  try simp only [Act.put, List.getElem_toArray, List.getElem_cons_succ, List.getElem_cons_zero, List.setIfInBounds_toArray, List.set_cons_zero, List.set_cons_succ]
  refine wpAnyH_take (i := 2) (v := ?v3) rfl (by kernel_rfl) (by kernel_rfl) (by kernel_rfl) (fun _ _ _ h => h) (Or.inl ⟨by kernel_rfl, ?y3⟩) (by assumption) ?_
  case y3 => (intro w hSw; (try dsimp only at hSw); go_simp; all_goals with_reducible rfl)
  try simp only [Act.put, List.getElem_toArray, List.getElem_cons_succ, List.getElem_cons_zero, List.setIfInBounds_toArray, List.set_cons_zero, List.set_cons_succ]
  refine wpAnyH_take (i := 3) (v := ?v4) rfl (by kernel_rfl) (by kernel_rfl) (by kernel_rfl) (fun _ _ _ h => h) (Or.inl ⟨by kernel_rfl, ?y4⟩) (by assumption) ?_
  case y4 => (intro w hSw; (try dsimp only at hSw); go_simp; all_goals with_reducible rfl)
  try simp only [Act.put, List.getElem_toArray, List.getElem_cons_succ, List.getElem_cons_zero, List.setIfInBounds_toArray, List.set_cons_zero, List.set_cons_succ]
  refine wpAnyH_take (i := 4) (v := ?v5) rfl (by kernel_rfl) (by kernel_rfl) (by kernel_rfl) (fun _ _ _ h => h) (Or.inl ⟨by kernel_rfl, ?y5⟩) (by assumption) ?_
  case y5 => (intro w hSw; (try dsimp only at hSw); go_simp; all_goals with_reducible rfl)
  try simp only [Act.put, List.getElem_toArray, List.getElem_cons_succ, List.getElem_cons_zero, List.setIfInBounds_toArray, List.set_cons_zero, List.set_cons_succ]
  refine wpAnyH_take (i := 5) (v := ?v6) rfl (by kernel_rfl) (by kernel_rfl) (by kernel_rfl) (fun _ _ _ h => h) (Or.inl ⟨by kernel_rfl, ?y6⟩) (by assumption) ?_
  case y6 => (intro w hSw; (try dsimp only at hSw); go_simp; all_goals with_reducible rfl)
  try simp only [Act.put, List.getElem_toArray, List.getElem_cons_succ, List.getElem_cons_zero, List.setIfInBounds_toArray, List.set_cons_zero, List.set_cons_succ]
  refine wpAnyH_take (i := 6) (v := ?v7) rfl (by kernel_rfl) (by kernel_rfl) (by kernel_rfl) (fun _ _ _ h => h) (Or.inl ⟨by kernel_rfl, ?y7⟩) (by assumption) ?_
  case y7 => (intro w hSw; (try dsimp only at hSw); go_simp; all_goals with_reducible rfl)
  try simp only [Act.put, List.getElem_toArray, List.getElem_cons_succ, List.getElem_cons_zero, List.setIfInBounds_toArray, List.set_cons_zero, List.set_cons_succ]
  refine wpAnyH_ready (rs := [7]) (by kernel_rfl) (by simp) (AllReadyH.cons rfl (fun K hK => ?_) AllReadyH.nil)
  go_simp
  go_at_call 48
  refine (put_wu g sz _ B (fun k => U k ∨ k = X) xs _ HS.out HF.out (by omega) (HW.out.fr (Fr.refl No W).drew)).mono ?_
  rintro e W1 ⟨rfl, hp, f⟩
  have FW := kfU f hHeld.2.2.2
  dsimp only
  refine hK.out _ _ ?_ (fun hHeld => ?_)
  · (try dsimp only); (first | (go_split_ands; exact ⟨kcU f (by assumption) UG.out, kc f (by assumption), kc f (by assumption), by assumption⟩) | (go_split_ands; exact ⟨(by assumption), (by assumption), (by assumption), by assumption⟩) | (go_split_ands; exact ⟨kc (fr1 _ _) (by assumption), kc (fr1 _ _) (by assumption), kc (fr1 _ _) (by assumption), kfa (by assumption)⟩) | (go_split_ands; exact ⟨kcU f (by assumption) UG.out, kcU f (by assumption) (Or.inr rfl), kcU f (by assumption) UM.out, by assumption⟩))
  clear hK K
  try simp only [Act.put, List.getElem_toArray, List.getElem_cons_succ, List.getElem_cons_zero, List.setIfInBounds_toArray, List.set_cons_zero, List.set_cons_succ]
  refine wpAnyH_done (by kernel_rfl) ?_ _
  refine NoPanic.normal ?_
  go_wp2
  go_returns
  exact ⟨rfl, hp.less (fun k h => Or.inl h), (HFW.out.mono fun _ _ h => h.elim).trans (hHeld.2.2.2.out.mono fun _ _ h => ⟨h.1, fun hu => h.2 (Or.inl hu)⟩)⟩
end Go.Proofs.YthhhmhgmmbfjhaaDoor.SuE
