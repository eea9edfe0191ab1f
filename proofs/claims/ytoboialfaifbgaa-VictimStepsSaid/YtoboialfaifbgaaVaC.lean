/- Contracts: those of the extents that are so (in one zone; in any zone), gone over one by one. Conditions: the extents read as a list of structs of whole numbers. -/
import Derived.Test.YtoboialfaifbgaaVaB
import Derived.Test.YtoboialfaifbgaaRgF
import Derived.OwnWalkIn
import Derived.TacticsInMore
import Derived.LoopNIn
import Derived.LoopIn
namespace Go.Proofs.Ytoboialfaifbgaa.VaC
open Go.RowKit MSep MGeM GeA PgA PgB RgF

attribute [local go_sem] Oper.semAt_some

theorem RdX.frT {T : Nat → Prop} {w w' : World} {A : Option Addr} {n : Nat} {l : List Ex} (h : RdX w A n l) (f : Fr T w w') (hT : ∀ g o, A = some ⟨g, o, none⟩ → ¬ T g) : RdX w' A n l := ⟨h.1, h.2.fr f hT⟩
abbrev xw (x : Ex) : Value := .agg #[.int .i64 x.a, .int .i64 x.m, .int .i64 x.z, .int .i64 x.o]
/-- What the i-th round is told: the i-th extent. -/
def XE (L : List Ex) (i : Nat) (ys : Array Value) (_ : World) : Prop := ∃ x, L[i]? = some x ∧ ys = #[xw x]
theorem next_m (n N : Nat) (h : n < N) (hw : wrap64 ((n : Int) + 1) = (n : Int) + 1) : N - (intOf (Value.int .i64 (wrap64 ((n : Int) + 1)))).toNat < N - (intOf (Value.int .i64 (n : Int))).toNat := by
  rw [hw]; show N - ((n : Int) + 1).toNat < N - (n : Int).toNat; omega
theorem RdX.low {w : World} {A : Option Addr} {n : Nat} {l : List Ex} (h : RdX w A n l) : 0 < n → ∀ g o, A = some ⟨g, o, none⟩ → g < w.heap.size := by
  intro h0 g o hA
  obtain ⟨g', o', h', hg', _⟩ := PgB.RdX.at_ h h0
  rw [hA] at h'
  cases h'
  exact hg'
/-- How many of the first i are so. -/
def hits (pr : Ex → Bool) (xs : List Ex) (i : Nat) : Nat := ((xs.take i).filter pr).length
theorem hits_yes {pr : Ex → Bool} {xs : List Ex} {i : Nat} {x : Ex} (h : xs[i]? = some x) (hp : pr x = true) : hits pr xs (i + 1) = hits pr xs i + 1 ∧ (xs.filter pr)[hits pr xs i]? = some x := by
  unfold hits
  constructor
  · rw [take_snoc h, List.filter_append]
    simp [hp]
  · have hi := (List.getElem?_eq_some_iff.1 h).1
    have e : xs = xs.take i ++ (x :: xs.drop (i + 1)) := by
      have h2 : xs[i] = x := (List.getElem?_eq_some_iff.1 h).2
      rw [← h2, ← List.drop_eq_getElem_cons hi, List.take_append_drop]
    conv => lhs; arg 1; rw [e, List.filter_append]
    rw [List.getElem?_append_right (Nat.le_refl _), Nat.sub_self]
    simp [hp]
theorem hits_no {pr : Ex → Bool} {xs : List Ex} {i : Nat} {x : Ex} (h : xs[i]? = some x) (hp : pr x = false) : hits pr xs (i + 1) = hits pr xs i := by
  unfold hits
  rw [take_snoc h, List.filter_append]
  simp [hp]
theorem hits_all (pr : Ex → Bool) (xs : List Ex) {n : Nat} (h : xs.length = n) : hits pr xs n = (xs.filter pr).length := by
  unfold hits
  rw [List.take_of_length_le (by omega)]
def inZ (z : Int) (x : Ex) : Bool := x.z == z
def put (x : Ex) : Bool := x.z != 255
set_option maxRecDepth 100000 in
theorem in1_ok (x : Ex) (z : Int) (B : Nat) (w : World) (hB : w.cell? ⟨B, 0, none⟩ = some (.int .i64 z)) : Calls Try.prog 81 #[xw x, .pointer (some ⟨B, 0, none⟩)] w fun e w' => e = .returned (.bool (inZ z x)) ∧ Fr No w w' := by
  unfold inZ
  have q := fun o => (fr1 w o).cell_some hB (fun h => h)
  go_enter Try.func81, Try.ntmps81
  go_wp2
  go_ret
  exact ⟨rfl, fr1 _ _⟩
set_option maxRecDepth 100000 in
theorem placed1_ok (x : Ex) (w : World) : Calls Try.prog 86 #[xw x] w fun e w' => e = .returned (.bool (put x)) ∧ Fr No w w' := by
  unfold put
  go_enter Try.func86, Try.ntmps86
  go_wp2
  go_ret
  exact ⟨rfl, fr1 _ _⟩

set_option maxRecDepth 100000 in
set_option maxHeartbeats 2000000 in
theorem in_iter (A : Option Addr) (l cp : Nat) (xs : List Ex) (z : Int) (B3 : Nat) (w : World) (B1 B2 n0 n1 : Nat) (T : Nat → Prop) (hx : RdX w A l xs) (hA : 0 < l → ∀ g o, A = some ⟨g, o, none⟩ → g < n0) (hl : l ≤ maxLen)
    (b0 : w.cell? ⟨B1, 0, none⟩ = some (.slice A l cp)) (b1 : w.cell? ⟨B2, 0, none⟩ = some (.func (.func 81) #[] #[.pointer (some ⟨B3, 0, none⟩)])) (b2 : w.cell? ⟨B3, 0, none⟩ = some (.int .i64 z))
    (hT : ∀ k, k < w.heap.size → (k < n0 ∨ n1 ≤ k) → ¬ T k) (hB : (n1 ≤ B1 ∧ B1 < w.heap.size) ∧ (n1 ≤ B2 ∧ B2 < w.heap.size) ∧ (n1 ≤ B3 ∧ B3 < w.heap.size)) :
    Iter Try.prog 105 #[.pointer (some ⟨B1, 0, none⟩), .pointer (some ⟨B2, 0, none⟩)] (xs.filter (inZ z)).length (XE (xs.filter (inZ z))) T w := by
  unfold maxLen at hl
  intro L J Jx W hW hsz hJ hY h0
  have HW0 := hid hW
  have HX := hid hx
  have HTT := hid hT
  have HAA := hid (fun (h0 : 0 < l) g o (h : A = some ⟨g, o, none⟩) (hg : g < w.heap.size) => hT g hg (.inl (hA h0 g o h)))
  have HBB := hid hB
  have HLX := hid hx.1
  have a0 := hW.cell_some b0 (fun h => h)
  clear hx hT hB hW hsz hA
  refine callsIn_of_wp Try.func105 rfl trivial ?_ rfl
  simp only [Try.ntmps105, List.size_toArray, List.length_cons, List.length_nil, Nat.reduceAdd, Nat.reduceSub, Array.replicate_succ, Array.replicate_zero, List.push_toArray, List.append_toArray, List.nil_append, List.cons_append]
  gi_wp2
  gi_loopw [8] (fun y wr => ∃ i : Nat, y = .int .i64 i ∧ i ≤ l ∧ J (hits (inZ z) xs i) wr ∧ Fr T W wr) (fun y _ => l - (intOf y).toNat)
  case atStart => exact ⟨0, rfl, by omega, h0, Fr.refl _ _⟩
  case round =>
    obtain ⟨i, rfl, hi, hJi, hf⟩ := hrel
    by_cases hlt : i < l
    case neg =>
      obtain rfl : i = l := by omega
      gi_wp2
      go_end0
      rw [hits_all _ _ HLX.out] at hJi
      exact ⟨⟨_, rfl⟩, .inl hJi⟩
    obtain ⟨x, hget⟩ : ∃ x, xs[i]? = some x := ⟨_, List.getElem?_eq_getElem (by have := HLX.out; omega)⟩
    have hwf : Fr T w wr := (HW0.out.mono fun _ _ h => h.elim).trans hf
    obtain ⟨g, oo, rfl, _, hc⟩ := PgB.RdX.at_ (RdX.frT HX.out hwf (fun g o h => by
      obtain ⟨g', o', h', hg', _⟩ := PgB.RdX.at_ HX.out (by omega)
      have := HAA.out (by omega) g o h (by rw [h] at h'; cases h'; exact hg')
      exact this)) (by omega)
    obtain ⟨c0, c1, c2, c3⟩ := hc i x hget
    have b1w := hwf.cell_some b1 (HTT.out B2 (by have := HBB.out; omega) (by have := HBB.out; omega))
    have b2w := hwf.cell_some b2 (HTT.out B3 (by have := HBB.out; omega) (by have := HBB.out; omega))
    have HB2 := hid b2w
    have hlt2 : (i : Int) < (l : Int) := by omega
    have hw1 : wrap64 ((i : Int) + 1) = (i : Int) + 1 := w64 _ (by omega)
    have q2 := fun o => (fr1 wr o).cell_some b1w (fun h => h)
    have HF := hid hf
    have HJ := hid hJi
    have HGET := hid hget
    clear hf hJi hc hwf b1w
    cases hp : (inZ z) x with
    | true =>
      obtain ⟨h1, h2⟩ := hits_yes hget hp
      have hlt' : hits (inZ z) xs i < (xs.filter (inZ z)).length := (List.getElem?_eq_some_iff.1 h2).1
      have HCT := hid h1
      have HH := hid h2
      have HP := hid hp
      clear hget h1 h2 hp
      gi_wp2_with (refine ⟨trivial, ?_⟩; gi_at_call 81; refine (callsIn_wide.2 (in1_ok x z B3 _ ((fr1 wr _).cell_some HB2.out (fun h => h)))).mono ?_; rintro e' W3 ⟨rfl, f3⟩; rw [HP.out]; have d0 : W3.cell? ⟨wr.heap.size, 0, none⟩ = some (.int .i64 x.a) := f3.cell_some (Blk.cell (Blk.new wr 62 #[.int .i64 x.a, .int .i64 x.m, .int .i64 x.z, .int .i64 x.o]) 0) (fun h => h); have d1 : W3.cell? ⟨wr.heap.size, 1, none⟩ = some (.int .i64 x.m) := f3.cell_some (Blk.cell (Blk.new wr 62 #[.int .i64 x.a, .int .i64 x.m, .int .i64 x.z, .int .i64 x.o]) 1) (fun h => h); have d2 : W3.cell? ⟨wr.heap.size, 2, none⟩ = some (.int .i64 x.z) := f3.cell_some (Blk.cell (Blk.new wr 62 #[.int .i64 x.a, .int .i64 x.m, .int .i64 x.z, .int .i64 x.o]) 2) (fun h => h); have d3 : W3.cell? ⟨wr.heap.size, 3, none⟩ = some (.int .i64 x.o) := f3.cell_some (Blk.cell (Blk.new wr 62 #[.int .i64 x.a, .int .i64 x.m, .int .i64 x.z, .int .i64 x.o]) 3) (fun h => h); have hF3 := (HF.out.alloc (.cells #[.int .i64 x.a, .int .i64 x.m, .int .i64 x.z, .int .i64 x.o] 62)).trans (f3.mono fun _ _ h => h.elim); obtain ⟨fn, tmps, assign, body, hy, hR⟩ := hY (hits (inZ z) xs i) _ W3 hlt' (hJ _ _ _ HJ.out (((Fr.refl No wr).alloc _).trans f3)) ⟨_, HH.out, rfl⟩; have HF3 := hid hF3; clear hF3)
      gi_wp2
      refine hR.mono ?_
      rintro e' W5 (⟨rfl, hJ5, hk5⟩ | ⟨rfl, hJx⟩)
      · gi_wp2
        go_roundw
        case rel => exact ⟨i + 1, by go_num, by omega, by rw [HCT.out]; exact hJ5, HF3.out.trans hk5⟩
        case measure => first | exact next_m _ _ hlt hw1 | (simp only [intOf]; omega)
      · gi_wp2
        refine bodyPost_ret (results_none rfl _ _ _) rfl ?_
        exact ⟨⟨_, rfl⟩, .inr hJx⟩
    | false =>
      have HCT := hid (hits_no hget hp)
      have HP := hid hp
      clear hget hp
      gi_wp2_with (refine ⟨trivial, ?_⟩; gi_at_call 81; refine (callsIn_wide.2 (in1_ok x z B3 _ ((fr1 wr _).cell_some HB2.out (fun h => h)))).mono ?_; rintro e' W3 ⟨rfl, f3⟩; rw [HP.out]; have hF3 := (HF.out.alloc (.cells #[.int .i64 x.a, .int .i64 x.m, .int .i64 x.z, .int .i64 x.o] 62)).trans (f3.mono fun _ _ h => h.elim); have HJ3 := hid (hJ _ _ _ HJ.out (((Fr.refl No wr).alloc _).trans f3)); have HF3 := hid hF3; clear hF3)
      refine ⟨fun f h => (by cases h), ?_⟩
      gi_wp2
      go_roundw
      case rel => exact ⟨i + 1, by go_num, by omega, by rw [HCT.out]; exact HJ3.out, HF3.out⟩
      case measure => first | exact next_m _ _ hlt hw1 | (simp only [intOf]; omega)

set_option maxRecDepth 100000 in
set_option maxHeartbeats 2000000 in
theorem placed_iter (A : Option Addr) (l cp : Nat) (xs : List Ex) (w : World) (B1 B2 n0 n1 : Nat) (T : Nat → Prop) (hx : RdX w A l xs) (hA : 0 < l → ∀ g o, A = some ⟨g, o, none⟩ → g < n0) (hl : l ≤ maxLen)
    (b0 : w.cell? ⟨B1, 0, none⟩ = some (.slice A l cp)) (b1 : w.cell? ⟨B2, 0, none⟩ = some (.func (.func 86) #[] #[])) 
    (hT : ∀ k, k < w.heap.size → (k < n0 ∨ n1 ≤ k) → ¬ T k) (hB : (n1 ≤ B1 ∧ B1 < w.heap.size) ∧ (n1 ≤ B2 ∧ B2 < w.heap.size) ) :
    Iter Try.prog 105 #[.pointer (some ⟨B1, 0, none⟩), .pointer (some ⟨B2, 0, none⟩)] (xs.filter put).length (XE (xs.filter put)) T w := by
  unfold maxLen at hl
  intro L J Jx W hW hsz hJ hY h0
  have HW0 := hid hW
  have HX := hid hx
  have HTT := hid hT
  have HAA := hid (fun (h0 : 0 < l) g o (h : A = some ⟨g, o, none⟩) (hg : g < w.heap.size) => hT g hg (.inl (hA h0 g o h)))
  have HBB := hid hB
  have HLX := hid hx.1
  have a0 := hW.cell_some b0 (fun h => h)
  clear hx hT hB hW hsz hA
  refine callsIn_of_wp Try.func105 rfl trivial ?_ rfl
  simp only [Try.ntmps105, List.size_toArray, List.length_cons, List.length_nil, Nat.reduceAdd, Nat.reduceSub, Array.replicate_succ, Array.replicate_zero, List.push_toArray, List.append_toArray, List.nil_append, List.cons_append]
  gi_wp2
  gi_loopw [8] (fun y wr => ∃ i : Nat, y = .int .i64 i ∧ i ≤ l ∧ J (hits put xs i) wr ∧ Fr T W wr) (fun y _ => l - (intOf y).toNat)
  case atStart => exact ⟨0, rfl, by omega, h0, Fr.refl _ _⟩
  case round =>
    obtain ⟨i, rfl, hi, hJi, hf⟩ := hrel
    by_cases hlt : i < l
    case neg =>
      obtain rfl : i = l := by omega
      gi_wp2
      go_end0
      rw [hits_all _ _ HLX.out] at hJi
      exact ⟨⟨_, rfl⟩, .inl hJi⟩
    obtain ⟨x, hget⟩ : ∃ x, xs[i]? = some x := ⟨_, List.getElem?_eq_getElem (by have := HLX.out; omega)⟩
    have hwf : Fr T w wr := (HW0.out.mono fun _ _ h => h.elim).trans hf
    obtain ⟨g, oo, rfl, _, hc⟩ := PgB.RdX.at_ (RdX.frT HX.out hwf (fun g o h => by
      obtain ⟨g', o', h', hg', _⟩ := PgB.RdX.at_ HX.out (by omega)
      have := HAA.out (by omega) g o h (by rw [h] at h'; cases h'; exact hg')
      exact this)) (by omega)
    obtain ⟨c0, c1, c2, c3⟩ := hc i x hget
    have b1w := hwf.cell_some b1 (HTT.out B2 (by have := HBB.out; omega) (by have := HBB.out; omega))
    skip
    have hlt2 : (i : Int) < (l : Int) := by omega
    have hw1 : wrap64 ((i : Int) + 1) = (i : Int) + 1 := w64 _ (by omega)
    have q2 := fun o => (fr1 wr o).cell_some b1w (fun h => h)
    have HF := hid hf
    have HJ := hid hJi
    have HGET := hid hget
    clear hf hJi hc hwf b1w
    cases hp : put x with
    | true =>
      obtain ⟨h1, h2⟩ := hits_yes hget hp
      have hlt' : hits put xs i < (xs.filter put).length := (List.getElem?_eq_some_iff.1 h2).1
      have HCT := hid h1
      have HH := hid h2
      have HP := hid hp
      clear hget h1 h2 hp
      gi_wp2_with (refine ⟨trivial, ?_⟩; gi_at_call 86; refine (callsIn_wide.2 (placed1_ok x _)).mono ?_; rintro e' W3 ⟨rfl, f3⟩; rw [HP.out]; have d0 : W3.cell? ⟨wr.heap.size, 0, none⟩ = some (.int .i64 x.a) := f3.cell_some (Blk.cell (Blk.new wr 62 #[.int .i64 x.a, .int .i64 x.m, .int .i64 x.z, .int .i64 x.o]) 0) (fun h => h); have d1 : W3.cell? ⟨wr.heap.size, 1, none⟩ = some (.int .i64 x.m) := f3.cell_some (Blk.cell (Blk.new wr 62 #[.int .i64 x.a, .int .i64 x.m, .int .i64 x.z, .int .i64 x.o]) 1) (fun h => h); have d2 : W3.cell? ⟨wr.heap.size, 2, none⟩ = some (.int .i64 x.z) := f3.cell_some (Blk.cell (Blk.new wr 62 #[.int .i64 x.a, .int .i64 x.m, .int .i64 x.z, .int .i64 x.o]) 2) (fun h => h); have d3 : W3.cell? ⟨wr.heap.size, 3, none⟩ = some (.int .i64 x.o) := f3.cell_some (Blk.cell (Blk.new wr 62 #[.int .i64 x.a, .int .i64 x.m, .int .i64 x.z, .int .i64 x.o]) 3) (fun h => h); have hF3 := (HF.out.alloc (.cells #[.int .i64 x.a, .int .i64 x.m, .int .i64 x.z, .int .i64 x.o] 62)).trans (f3.mono fun _ _ h => h.elim); obtain ⟨fn, tmps, assign, body, hy, hR⟩ := hY (hits put xs i) _ W3 hlt' (hJ _ _ _ HJ.out (((Fr.refl No wr).alloc _).trans f3)) ⟨_, HH.out, rfl⟩; have HF3 := hid hF3; clear hF3)
      gi_wp2
      refine hR.mono ?_
      rintro e' W5 (⟨rfl, hJ5, hk5⟩ | ⟨rfl, hJx⟩)
      · gi_wp2
        go_roundw
        case rel => exact ⟨i + 1, by go_num, by omega, by rw [HCT.out]; exact hJ5, HF3.out.trans hk5⟩
        case measure => first | exact next_m _ _ hlt hw1 | (simp only [intOf]; omega)
      · gi_wp2
        refine bodyPost_ret (results_none rfl _ _ _) rfl ?_
        exact ⟨⟨_, rfl⟩, .inr hJx⟩
    | false =>
      have HCT := hid (hits_no hget hp)
      have HP := hid hp
      clear hget hp
      gi_wp2_with (refine ⟨trivial, ?_⟩; gi_at_call 86; refine (callsIn_wide.2 (placed1_ok x _)).mono ?_; rintro e' W3 ⟨rfl, f3⟩; rw [HP.out]; have hF3 := (HF.out.alloc (.cells #[.int .i64 x.a, .int .i64 x.m, .int .i64 x.z, .int .i64 x.o] 62)).trans (f3.mono fun _ _ h => h.elim); have HJ3 := hid (hJ _ _ _ HJ.out (((Fr.refl No wr).alloc _).trans f3)); have HF3 := hid hF3; clear hF3)
      refine ⟨fun f h => (by cases h), ?_⟩
      gi_wp2
      go_roundw
      case rel => exact ⟨i + 1, by go_num, by omega, by rw [HCT.out]; exact HJ3.out, HF3.out⟩
      case measure => first | exact next_m _ _ hlt hw1 | (simp only [intOf]; omega)

set_option maxRecDepth 100000 in
theorem such_ok (A : Option Addr) (l cp : Nat) (gi : Nat) (lb : Array Value) (w : World) : Calls Try.prog 80 #[.slice A l cp, .func (.func gi) #[] lb] w fun e w' =>
      e = .returned (.func (.func 105) #[] #[.pointer (some ⟨w.heap.size, 0, none⟩), .pointer (some ⟨w.heap.size + 1, 0, none⟩)]) ∧ w' = (w.alloc (.cells #[.slice A l cp] 24)).alloc (.cells #[.func (.func gi) #[] lb] 121) := by
  go_enter Try.func80, Try.ntmps80
  go_wp2
  go_ret
  exact ⟨rfl, rfl⟩
theorem such_cells (A : Option Addr) (l cp : Nat) (gi : Nat) (lb : Array Value) (w : World) : ∀ W, W = (w.alloc (.cells #[.slice A l cp] 24)).alloc (.cells #[.func (.func gi) #[] lb] 121) →
    W.cell? ⟨w.heap.size, 0, none⟩ = some (.slice A l cp) ∧ W.cell? ⟨w.heap.size + 1, 0, none⟩ = some (.func (.func gi) #[] lb) ∧ W.heap.size = w.heap.size + 2 ∧ Fr No w W := by
  rintro _ rfl
  refine ⟨(Blk.alloc (Blk.new w _ _) _).cell 0, ?_, by simp, (fr1 _ _).trans (fr1 _ _)⟩
  have := Blk.new (w.alloc (.cells #[.slice A l cp] 24)) 121 #[.func (.func gi) #[] lb]
  rw [World.size_alloc] at this
  exact this.cell 0
/-- What an iterator over extents has to keep to, whatever blocks a loop over it may change that are neither its own nor the list's: those from n0 up to n1, and those that were not there yet. -/
def ItX (gf : Nat) (lb : Array Value) (L : List Ex) (n0 n1 : Nat) (w : World) : Prop := ∀ T : Nat → Prop, (∀ k, k < w.heap.size → (k < n0 ∨ n1 ≤ k) → ¬ T k) → Iter Try.prog gf lb L.length (XE L) T w
set_option maxRecDepth 100000 in
theorem in_ok (A : Option Addr) (l cp : Nat) (xs : List Ex) (z : Int) (n0 : Nat) (w : World) (hx : RdX w A l xs) (hA : 0 < l → ∀ g o, A = some ⟨g, o, none⟩ → g < n0) (hl : l ≤ maxLen) : Calls Try.prog 59 #[.slice A l cp, .int .i64 z] w fun e w' =>
      ∃ lb, e = .returned (.func (.func 105) #[] lb) ∧ ItX 105 lb (xs.filter (inZ z)) n0 w.heap.size w' ∧ Fr No w w' := by
  have HX := hid hx
  have HL := hid hl
  have HA := hid hA
  clear hx hl hA
  go_enter Try.func59, Try.ntmps59
  go_wp2_with (go_at_call 80; refine (such_ok _ _ _ _ _ _).mono ?_; rintro e w2 ⟨rfl, hw2⟩; have HW := hid hw2; clear hw2)
  go_ret
  obtain ⟨h1, h2, h3, h4⟩ := such_cells A l cp _ _ _ _ HW.out
  have h5 := (fr1 w (.cells #[.int .i64 z] 3)).trans h4
  have h6 := h4.cell_some (Blk.cell (Blk.new w 3 #[.int .i64 z]) 0) (fun h => h)
  refine ⟨_, rfl, fun T hT => ?_, h5⟩
  rw [World.size_alloc] at h1 h2 h3
  exact in_iter A l cp xs z w.heap.size w2 _ _ n0 w.heap.size T (PgB.RdX.fr HX.out h5) HA.out HL.out h1 h2 h6 hT (by omega)
set_option maxRecDepth 100000 in
theorem placed_ok (A : Option Addr) (l cp : Nat) (xs : List Ex) (n0 : Nat) (w : World) (hx : RdX w A l xs) (hA : 0 < l → ∀ g o, A = some ⟨g, o, none⟩ → g < n0) (hl : l ≤ maxLen) : Calls Try.prog 64 #[.slice A l cp] w fun e w' =>
      ∃ lb, e = .returned (.func (.func 105) #[] lb) ∧ ItX 105 lb (xs.filter put) n0 w.heap.size w' ∧ Fr No w w' := by
  have HX := hid hx
  have HL := hid hl
  have HA := hid hA
  clear hx hl hA
  go_enter Try.func64, Try.ntmps64
  go_wp2_with (go_at_call 80; refine (such_ok _ _ _ _ _ _).mono ?_; rintro e w2 ⟨rfl, hw2⟩; have HW := hid hw2; clear hw2)
  go_ret
  obtain ⟨h1, h2, h3, h4⟩ := such_cells A l cp _ _ _ _ HW.out
  refine ⟨_, rfl, fun T hT => ?_, h4⟩
  exact placed_iter A l cp xs w2 _ _ n0 w.heap.size T (PgB.RdX.fr HX.out h4) HA.out HL.out h1 h2 hT (by omega)

end Go.Proofs.Ytoboialfaifbgaa.VaC
