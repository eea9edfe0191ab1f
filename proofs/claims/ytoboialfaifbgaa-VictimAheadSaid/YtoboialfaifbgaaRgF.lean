/- A law of 'for x := range f', of whatever program: a round may be told of the memory that it is handed. Conditions: what the loop keeps to speaks of blocks that the loop's own two blocks are none of. -/
import Derived.Test.YtoboialfaifbgaaSep
import Derived.RangeFuncNested
import Derived.RangeFuncLeaves
import Derived.Shelf.Abstract
import Derived.Shelf.RegionOpen
namespace Go.Proofs.Ytoboialfaifbgaa.RgF
open Go.RowKit MSep

theorem Fr.putObj {S : Nat → Prop} {a w : World} (h : Fr S a w) {l : Nat} (hl : l < a.heap.size → S l) (o : Obj) : Fr S a (w.putObj l o) :=
  ⟨h.os, h.tape, h.output, by rw [World.putObj_size]; exact h.size, fun k hk hn => (World.putObj_heap_other (fun e => hn (by subst e; exact hl hk))).trans (h.block k hk hn)⟩

/-- What a round ends in: it goes on, and the next one is due; or it has returned. -/
def rPost (T : Nat → Prop) (I : World → Prop) (Ix : World → Prop) (W : World) : Exit → Act → World → Prop
  | .normal, _, W' => Fr T W W' ∧ I W'
  | .ret, _, W' => Fr T W W' ∧ Ix W'
  | _, _, _ => False

/-- What a function that is ranged over has to keep to: it calls yield with what X says, i = 0, 1, .. in order, up to N, and ends. Between two rounds it may lay new blocks. -/
def Iter (P : Program) (gf : Nat) (lb : Array Value) (N : Nat) (X : Nat → Array Value → World → Prop) (T : Nat → Prop) (w : World) : Prop :=
  ∀ (l : Nat) (J : Nat → World → Prop) (Jx : World → Prop) (W : World), Fr No w W → w.heap.size + 2 ≤ W.heap.size → (∀ i W W', J i W → Fr No W W' → J i W') →
    (∀ i xs W1, i < N → J i W1 → X i xs W1 → YieldAt Fence.wide 1 P l xs W1 fun e W' =>
      (e = .returned (.bool true) ∧ J (i + 1) W' ∧ Fr T W1 W') ∨ (e = .returned (.bool false) ∧ Jx W')) →
    J 0 W → CallsIn Fence.wide 2 P gf (#[.func (.yield l) #[] #[]] ++ lb) W fun e W' => (∃ v, e = .returned v) ∧ (J N W' ∨ Jx W')

theorem range_fn {P : Program} {g : Operand} {ps : Array Tmp} {assign body : Code} {Q : Exit → Act → World → Prop} {a : Act} {w : World}
    {gf : Nat} {lb : Array Value} (hg : a.eval g = .func (.func gf) #[] lb) (eg : ∀ args w, (callFunc gf args).run P w = .ok (.enter gf args) w)
    {N : Nat} {X : Nat → Array Value → World → Prop} {T T' : Nat → Prop} (hT : ∀ k, T k → T' k) (hT' : T' (w.heap.size + 1)) (hit : Iter P gf lb N X T' w)
    (hTl : ∀ k, T k → k ≠ w.heap.size ∧ k ≠ w.heap.size + 1)
    (I : Nat → World → Prop) (Ix : World → Prop) (hI : ∀ i W W', I i W → Fr (fun k => k = w.heap.size + 1) W W' → I i W') (hIx : ∀ W W', Ix W → Fr (fun k => k = w.heap.size + 1) W W' → Ix W')
    (hXs : ∀ i xs W, X i xs W → xs.size = ps.size)
    (h0 : I 0 w)
    (hround : ∀ l i xs W, i < N → w.heap.size + 2 ≤ W.heap.size → I i W → X i xs W → assign.wpIn (Fence.wide.inRound l) 1 P
      (Exit.then (fun a1 W1 => Fr T W W1 ∧ ∀ W2, Fr (fun k => k = w.heap.size + 1) W1 W2 → body.wpIn (Fence.wide.inRound l) 1 P (rPost T (I (i + 1)) Ix W2) a1 W2) (fun _ _ _ => False))
      { tmps := (ps.zip xs).foldl (fun t (p, v) => t.setIfInBounds p v) a.tmps, defers := [] } W)
    (hdone : ∀ W, I N W → W.heap[w.heap.size]? = some (.deferred (some [])) → Q .normal { a with defers := { target := .collected w.heap.size, args := #[] } :: a.defers } W)
    (hstop : ∀ W, Ix W → W.heap[w.heap.size]? = some (.deferred (some [])) → Code.ret.wpIn Fence.wide 3 P Q { a with defers := { target := .collected w.heap.size, args := #[] } :: a.defers } W) :
    (Code.rangeFunc g ps assign body).wpIn Fence.wide 3 P Q a w := by
  refine wpIn_rangeFunc ?_
  intro fn hfn
  rw [Fence.wide_round]
  obtain ⟨rec, hrec⟩ : ∃ rec : LoopState → Option Code → Loop, rec = fun st pe => { state := st, pending := pe, fn, tmps := a.tmps, params := ps, assign, body, defers := w.heap.size } := ⟨_, rfl⟩
  obtain ⟨W1, hW1⟩ : ∃ W1, (w.alloc (.deferred (some []))).alloc (.loop (rec .ready none)) = W1 := ⟨_, rfl⟩
  have hL1 : W1.heap[w.heap.size + 1]? = some (.loop (rec .ready none)) := by
    rw [← hW1]; have := World.alloc_heap_new (w.alloc (.deferred (some []))) (.loop (rec .ready none)); rwa [World.size_alloc] at this
  have hK1 : W1.heap[w.heap.size]? = some (.deferred (some [])) := by
    rw [← hW1]; exact (Below.heap_alloc _ _ _ (by simp)).trans (World.alloc_heap_new w _)
  have hF1 : Fr No w W1 := by rw [← hW1]; exact ((Fr.refl No w).alloc _).alloc _
  have hI1 : I 0 W1 := hI _ _ _ h0 (hF1.mono fun _ _ h => h.elim)
  refine ⟨w.heap.size + 1, [{ target := .collected w.heap.size, args := #[] }], W1, { target := .fn (.func gf) lb, args := #[.func (.yield (w.heap.size + 1)) #[] #[]] }, W1, gf,
    #[.func (.yield (w.heap.size + 1)) #[] #[]] ++ lb, W1, ?_, ?_, ?_, ?_, fun _ => by decide, ?_⟩
  · rw [← hW1, hrec]; exact run_enterLoop_outer _ _ _ _ _
  · simp only [resolve, hg]
    simp [go_sem]
  · intro f' _; exact trivial
  · simp [invoke, go_sem, eg]
  · have far : ∀ {S : Nat → Prop} {A B : World} {st : LoopState} {pe : Option Code}, (A.heap[w.heap.size + 1]? = some (.loop (rec st pe)) ∧ A.heap[w.heap.size]? = some (.deferred (some []))) → Fr S A B → ¬ S w.heap.size → ¬ S (w.heap.size + 1) →
        B.heap[w.heap.size + 1]? = some (.loop (rec st pe)) ∧ B.heap[w.heap.size]? = some (.deferred (some [])) := fun h f n0 n1 =>
      ⟨(f.block _ (Array.getElem?_eq_some_iff.1 h.1).1 n1).trans h.1, (f.block _ (Array.getElem?_eq_some_iff.1 h.2).1 n0).trans h.2⟩
    have put : ∀ {A : World} {st st' : LoopState} {pe pe' : Option Code}, (A.heap[w.heap.size + 1]? = some (.loop (rec st pe)) ∧ A.heap[w.heap.size]? = some (.deferred (some []))) →
        ((A.putObj (w.heap.size + 1) (.loop (rec st' pe'))).heap[w.heap.size + 1]? = some (.loop (rec st' pe')) ∧ (A.putObj (w.heap.size + 1) (.loop (rec st' pe'))).heap[w.heap.size]? = some (.deferred (some []))) ∧ Fr (fun k => k = w.heap.size + 1) A (A.putObj (w.heap.size + 1) (.loop (rec st' pe'))) := fun h =>
      ⟨⟨World.putObj_heap_same (Array.getElem?_eq_some_iff.1 h.1).1, (World.putObj_heap_other (by omega)).trans h.2⟩, Fr.putObj (S := fun k => k = w.heap.size + 1) (Fr.refl _ _) (fun _ => rfl) _⟩
    refine (hit (w.heap.size + 1) (fun i W => I i W ∧ W.heap[w.heap.size + 1]? = some (.loop (rec .ready none)) ∧ W.heap[w.heap.size]? = some (.deferred (some [])))
      (fun W => Ix W ∧ W.heap[w.heap.size + 1]? = some (.loop (rec .done (some .ret))) ∧ W.heap[w.heap.size]? = some (.deferred (some [])))
      W1 hF1 (by rw [← hW1]; simp) (fun i W W' h f => ⟨hI _ _ _ h.1 (f.mono fun _ _ h => h.elim), far h.2 f (fun h => h) (fun h => h)⟩) ?_ ⟨hI1, hL1, hK1⟩).mono ?_
    · rintro i xs W hiN ⟨hi, hb⟩ hx
      have hlt : w.heap.size + 1 < W.heap.size := (Array.getElem?_eq_some_iff.1 hb.1).1
      have hy := run_yield (P := P) (args := xs) hb.1 (by rw [hrec]; exact hXs _ _ _ hx)
      rw [hrec] at hy
      refine ⟨fn, _, assign, body, hy, roundIn_of_wpIn hfn (wpIn_mono (hround _ i xs W hiN (by omega) hi hx) ?_)⟩
      intro e a1 W2 hp
      cases e with
      | normal =>
        obtain ⟨f1, hbody⟩ := hp
        have hb2 := far hb f1 (fun h => (hTl _ h).1 rfl) (fun h => (hTl _ h).2 rfl)
        obtain ⟨hb3, f2⟩ := put (st' := .busy) (pe' := none) hb2
        refine ⟨_, by have := run_beginRound (P := P) hb2.1 (by rw [hrec]); rw [hrec] at this ⊢; exact this, wpIn_mono (hbody _ f2) ?_⟩
        rintro e a3 W3 hp
        cases e with
        | normal =>
          obtain ⟨f3, hi3⟩ := hp
          have hb4 := far hb3 f3 (fun h => (hTl _ h).1 rfl) (fun h => (hTl _ h).2 rfl)
          obtain ⟨hb5, f4⟩ := put (st' := .ready) (pe' := none) hb4
          refine ⟨_, _, run_endRound none hb4.1, .inl ⟨rfl, ?_⟩⟩
          have he : (rec .ready none : Loop) = { rec .busy none with state := if (none : Option Code).isNone then .ready else .done, pending := none } := by rw [hrec]; rfl
          rw [← he]
          refine ⟨⟨hI _ _ _ hi3 f4, hb5⟩, ?_⟩
          have g1 : Fr T' W W2 := f1.mono fun _ _ h => hT _ h
          have g2 : Fr T' W2 _ := f2.mono fun _ _ h => by cases h; exact hT'
          have g3 : Fr T' _ W3 := f3.mono fun _ _ h => hT _ h
          have g4 : Fr T' W3 _ := f4.mono fun _ _ h => by cases h; exact hT'
          exact ((g1.trans g2).trans g3).trans g4
        | ret =>
          obtain ⟨f3, hi3⟩ := hp
          have hb4 := far hb3 f3 (fun h => (hTl _ h).1 rfl) (fun h => (hTl _ h).2 rfl)
          obtain ⟨hb5, f4⟩ := put (st' := .done) (pe' := some .ret) hb4
          refine ⟨_, _, run_endRound (some .ret) hb4.1, .inr ⟨rfl, ?_⟩⟩
          have he : (rec .done (some .ret) : Loop) = { rec .busy none with state := if (some Code.ret : Option Code).isNone then .ready else .done, pending := some .ret } := by rw [hrec]; rfl
          rw [← he]
          exact ⟨hIx _ _ hi3 f4, hb5⟩
        | exit id => exact hp.elim
        | goto t => exact hp.elim
        | panic ch => exact hp.elim
        | outgrown => exact hp.elim
      | ret => exact hp.elim
      | exit id => exact hp.elim
      | goto t => exact hp.elim
      | panic ch => exact hp.elim
      | outgrown => exact hp.elim
    · rintro e W2 ⟨⟨v, rfl⟩, (⟨hi, hb⟩ | ⟨hi, hb⟩)⟩
      · obtain ⟨hb5, f4⟩ := put (st' := .exhausted) (pe' := none) hb
        exact ⟨none, _, by have := run_endLoop (P := P) hb.1 (by rw [hrec]; simp); rw [hrec] at this ⊢; exact this, hdone _ (hI _ _ _ hi f4) hb5.2⟩
      · obtain ⟨hb5, f4⟩ := put (st' := .exhausted) (pe' := some .ret) hb
        exact ⟨some .ret, _, by have := run_endLoop (P := P) hb.1 (by rw [hrec]; simp); rw [hrec] at this ⊢; exact this, hstop _ (hIx _ _ hi f4) hb5.2⟩
end Go.Proofs.Ytoboialfaifbgaa.RgF
