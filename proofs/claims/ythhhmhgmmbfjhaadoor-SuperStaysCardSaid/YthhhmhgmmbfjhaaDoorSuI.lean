/- Contracts: what is got of a superblock's numbers one behind the other, by the program. Condition: the reader's own blocks are known, and none of them is the superblock's. -/
import Derived.Test.YthhhmhgmmbfjhaaDoorSuH
import Derived.Test.YthhhmhgmmbfjhaaDoorRdA
namespace Go.Proofs.YthhhmhgmmbfjhaaDoor.SuI
open Go.RowKit MSep LeW LeR RdA SuA SuB SuD SuF

set_option maxRecDepth 100000 in
set_option maxHeartbeats 2000000 in
theorem dec1_ok (sz : Nat) (lo hi : Int) (v0 fn : Value) (G o M g B : Nat) (U : Nat → Prop) (st : Option (List Int)) {t : TypeId} {cs : Array Value} (w : World) (hs : sz = 1 ∨ sz = 2 ∨ sz = 4 ∨ sz = 8) (hG : Blk w G t cs) (ho : cs[o]? = some v0) (hm : w.cell? ⟨M, 0, none⟩ = some (.pointer (some ⟨g, 0, none⟩))) (h : RdO w B U g st) (hU : ¬ U G) :
    Calls Tryd.prog 57 #[.agg #[.int .i64 sz, .int .i64 lo, .int .i64 hi, fn], .pointer (some ⟨G, o, none⟩), .pointer (some ⟨M, 0, none⟩)] w fun e w' => e = .returned (.tuple #[]) ∧ Blk w' G t (cs.setIfInBounds o (.int .i64 (gi sz lo hi st).1)) ∧ RdO w' B U g (gi sz lo hi st).2 ∧ Fr (fun k => k = g ∨ k = G) w w' := by
  obtain ⟨X, hX⟩ : ∃ X, w.heap.size = X := ⟨_, rfl⟩
  obtain ⟨W, hW⟩ : ∃ W, w.alloc (.cells #[.int .i64 sz, .int .i64 lo, .int .i64 hi, fn] 86) = W := ⟨_, rfl⟩
  have HFW := hid (show Fr No w W by rw [← hW]; exact (Fr.refl No w).alloc _)
  have hB : Blk W X 86 #[.int .i64 sz, .int .i64 lo, .int .i64 hi, fn] := by
    rw [← hW, ← hX]
    exact Blk.new w _ _
  have hgG : G ≠ g := fun e => hU (e ▸ h.own)
  have HG := hid (Blk.fr hG HFW.out (fun h => h))
  have b0 : W.cell? ⟨X, 0, none⟩ = some (.int .i64 sz) := hB.cell 0
  have b1 : W.cell? ⟨X, 1, none⟩ = some (.int .i64 lo) := hB.cell 1
  have b2 : W.cell? ⟨X, 2, none⟩ = some (.int .i64 hi) := hB.cell 2
  have m0 : W.cell? ⟨M, 0, none⟩ = some (.pointer (some ⟨g, 0, none⟩)) := HFW.out.cell_some hm (fun h => h)
  have HR := hid (h.fr HFW.out (fun _ _ h => h))
  have HN := hid hgG
  have HU := hid hU
  have HO := hid ho
  have HS := hid hs
  clear hG hm h hU hgG hB ho hs
  obtain ⟨⟨v, s'⟩, hv⟩ : ∃ v, gi sz lo hi st = v := ⟨_, rfl⟩
  rw [hv]
  have HV := hid hv
  clear hv
  go_enter Tryd.func57, Tryd.ntmps57
  go_wp2_with (go_at_call 58; go_loud (refine (int_rd g sz lo hi B U st _ HS.out HR.out).mono ?_; rintro e' w2 ⟨rfl, hr2, f2⟩; rw [HV.out] at hr2 ⊢; dsimp only at hr2 ⊢; have HG2 := hid (Blk.fr HG.out f2 (fun h => HN.out h)); have HR2 := hid hr2; have HF2 := hid ((HFW.out.mono (T := fun k => k = g ∨ k = G) fun _ _ h => h.elim).trans (f2.mono fun _ _ h => Or.inl h)); have c0 : w2.cell? ⟨G, o, none⟩ = some v0 := (Blk.cell HG2.out o).trans HO.out; have z0 : w2.frozen? ⟨G, o, none⟩ = false := Blk.frozen HG2.out o; clear hr2 f2))
  go_returns
  exact ⟨rfl, Blk.set_ HG2.out o _, RdO.fr HR2.out (Fr.set1 w2 G o _) (fun k hk e => HU.out (e ▸ hk)), HF2.out.trans ((Fr.set1 w2 G o _).mono fun _ _ h => Or.inr h)⟩

/-- What is left behind i numbers; number i; number j as far as i were got. -/
def dst (st : Option (List Int)) : Nat → Option (List Int)
  | 0 => st
  | i + 1 => (gi (sz i) (lo i) (hi i) (dst st i)).2
def dvl (st : Option (List Int)) (i : Nat) : Int := (gi (sz i) (lo i) (hi i) (dst st i)).1
def dc (st : Option (List Int)) (i j : Nat) : Int := if j < i then dvl st j else 0
theorem dc_all (st : Option (List Int)) (j : Nat) (h : j < 11) : dc st 11 j = dvl st j := if_pos h
def BD (w : World) (G : Nat) (st : Option (List Int)) (i : Nat) : Prop := Blk w G 98 #[.int .i64 (dc st i 1), .int .i64 (dc st i 2), .int .i64 (dc st i 3), .int .i64 (dc st i 4), .int .i64 (dc st i 5), .int .i64 (dc st i 6), .int .i64 (dc st i 7), .int .i64 (dc st i 8), .int .i64 (dc st i 9), .bool false, .int .i64 (dc st i 0), .int .i64 (dc st i 10)]
theorem BD.step {w : World} {G : Nat} {st : Option (List Int)} : ∀ i, i < 11 → Blk w G 98 ((#[.int .i64 (dc st i 1), .int .i64 (dc st i 2), .int .i64 (dc st i 3), .int .i64 (dc st i 4), .int .i64 (dc st i 5), .int .i64 (dc st i 6), .int .i64 (dc st i 7), .int .i64 (dc st i 8), .int .i64 (dc st i 9), .bool false, .int .i64 (dc st i 0), .int .i64 (dc st i 10)] : Array Value).setIfInBounds (off i) (.int .i64 (dvl st i))) → BD w G st (i + 1)
  | 0, _ => fun h => by simpa [BD, dc, off] using h
  | 1, _ => fun h => by simpa [BD, dc, off] using h
  | 2, _ => fun h => by simpa [BD, dc, off] using h
  | 3, _ => fun h => by simpa [BD, dc, off] using h
  | 4, _ => fun h => by simpa [BD, dc, off] using h
  | 5, _ => fun h => by simpa [BD, dc, off] using h
  | 6, _ => fun h => by simpa [BD, dc, off] using h
  | 7, _ => fun h => by simpa [BD, dc, off] using h
  | 8, _ => fun h => by simpa [BD, dc, off] using h
  | 9, _ => fun h => by simpa [BD, dc, off] using h
  | 10, _ => fun h => by simpa [BD, dc, off] using h
theorem BD.at_ (st : Option (List Int)) (i0 : Nat) : ∀ i, i < 11 → ∃ v, (#[.int .i64 (dc st i0 1), .int .i64 (dc st i0 2), .int .i64 (dc st i0 3), .int .i64 (dc st i0 4), .int .i64 (dc st i0 5), .int .i64 (dc st i0 6), .int .i64 (dc st i0 7), .int .i64 (dc st i0 8), .int .i64 (dc st i0 9), .bool false, .int .i64 (dc st i0 0), .int .i64 (dc st i0 10)] : Array Value)[off i]? = some v
  | 0, _ => ⟨_, rfl⟩
  | 1, _ => ⟨_, rfl⟩
  | 2, _ => ⟨_, rfl⟩
  | 3, _ => ⟨_, rfl⟩
  | 4, _ => ⟨_, rfl⟩
  | 5, _ => ⟨_, rfl⟩
  | 6, _ => ⟨_, rfl⟩
  | 7, _ => ⟨_, rfl⟩
  | 8, _ => ⟨_, rfl⟩
  | 9, _ => ⟨_, rfl⟩
  | 10, _ => ⟨_, rfl⟩
def InvD (w : World) (M G g B : Nat) (U : Nat → Prop) (st : Option (List Int)) (i : Nat) (w' : World) : Prop := BD w' G st i ∧ Blk w' M 94 #[.pointer (some ⟨g, 0, none⟩)] ∧ RdO w' B U g (dst st i) ∧ Fr (fun k => k = g ∨ k = G) w w'
set_option maxRecDepth 100000 in
theorem dec_does (w : World) (M G g B : Nat) (U : Nat → Prop) (st : Option (List Int)) (hU : ¬ U G) (hM : M ≠ g ∧ M ≠ G) : Does 57 #[.pointer (some ⟨M, 0, none⟩)] G (InvD w M G g B U st) where
  go := by
    rintro i hi w' ⟨h1, h2, h3, h4⟩
    obtain ⟨fn, hq⟩ := nv_sz i hi
    rw [hq]
    obtain ⟨v0, h0⟩ := BD.at_ st i i hi
    refine (dec1_ok (sz i) (lo i) (SuD.hi i) v0 fn G (off i) M g B U (dst st i) w' (by have := sz_in i hi; omega) h1 h0 (Blk.cell h2 0) h3 hU).mono ?_
    rintro E w'' ⟨rfl, k1, k2, k3⟩
    refine ⟨rfl, BD.step i hi k1, Blk.fr h2 k3 (fun h => by rcases h with h | h; exact hM.1 h; exact hM.2 h), k2, h4.trans k3⟩
  new := by
    rintro i w' w'' hf ⟨h1, h2, h3, h4⟩
    exact ⟨Blk.fr h1 hf (fun h => h), Blk.fr h2 hf (fun h => h), h3.fr hf (fun _ _ h => h), h4.trans (hf.mono fun _ _ h => h.elim)⟩
  enter := by
    intro args w'
    kernel_rfl
end Go.Proofs.YthhhmhgmmbfjhaaDoor.SuI
