/- Contracts: a copy of a row of whole numbers; Sweep; what must come of every program of layer 4. -/
import Derived.Test.YthldppgbopiaiaaPoB
import Derived.Test.YthldppgbopiaiaaPoC
namespace Go.Proofs.Ythldppgbopiaiaa.PoD
open Go.RowKit MSep MSepC MSpM SpA SpO PoA PoB PoC

theorem info3a : (Try.prog.info? 3).map (fun i => (i.zero, i.size, i.bytes)) = some (some (.int .i64 0), 1, 8) := by kernel_rfl
theorem info3 : ∃ i z, Try.prog.info? 3 = some i ∧ i.zero = some z ∧ i.size = 1 ∧ i.bytes = 8 ∧ z.cells.size = 1 := by
  have h := info3a
  cases hi : Try.prog.info? 3 with
  | none => rw [hi] at h; cases h
  | some i =>
    rw [hi] at h
    simp only [Option.map_some, Option.some.injEq, Prod.mk.injEq] at h
    exact ⟨i, _, rfl, h.1, h.2.1, h.2.2, rfl⟩
theorem en_one {l : List Int} : ∀ u ∈ l.map en, u.oneCell' = true := by
  intro u hu
  obtain ⟨x, _, rfl⟩ := List.mem_map.1 hu
  rfl
/-- The slice at A of l numbers reads as xs. -/
def RdI (w : World) (A : Option Addr) (l : Nat) (xs : List Int) : Prop := xs.length = l ∧ Rd w A l (xs.map en)
theorem RdI.fr {w w' : World} {A : Option Addr} {l : Nat} {xs : List Int} (h : RdI w A l xs) (f : Fr No w w') : RdI w' A l xs := ⟨h.1, h.2.fr f (fun _ _ _ h => h)⟩
/-- 'v = append(v, x...)', v an empty row of the call's own. -/
theorem app_i {w : World} {ops : Array Oper} {rest : List Oper} {o : Oper} {a : Act} {Q : Exit → Act → World → Prop} (hgd : o.guard = none) (s x : Operand)
    (ho : o.op = .call { callee := .builtin .append, args := #[s, x], argTypes := #[48, 48] })
    (B : Nat) (v : Value) (hs : a.eval s = v) (hown : OutI B w v [])
    (A : Option Addr) (m c : Nat) (xs : List Int) (hx : a.eval x = .slice A m c) (hr : RdI w A m xs)
    (hlim : m * 8 ≤ 140737488355328) (hbase : B ≤ w.heap.size)
    (h : ∀ A' c' w', OutI B w' (.slice A' m c') xs → Fr (fun q => v.ownBlock = some q) w w' → wpList Try.prog ops Q rest (a.put o.dst (.slice A' m c')) w') :
    wpList Try.prog ops Q (o :: rest) a w := by
  obtain ⟨i0, z0, hi, hz0, hz1, hz2, hz3⟩ := info3
  refine wpList_app hgd s x 48 ho B 3 i0 z0 8 Try.underlying48 hi hz0 hz1 hz2 hz3 v 0 [] hs hown A m c (xs.map en) hx hr.2 en_one (by simp only [maxLen]; omega) (by omega) hbase ?_
  intro A' c' w' o1 f1 _
  rw [Nat.zero_add] at o1 ⊢
  refine h A' c' w' ?_ f1
  unfold OutI
  rw [hr.1]
  simpa using o1
theorem eqnil1 (a : Option Addr) (l c : Nat) (w : World) : (binOp .eql 48 (.slice a l c) (.slice none 0 0)).run Try.prog w = .ok (.bool a.isNone) w := by
  have h := run_equal_slice_nil (P := Try.prog) w 48 _ a l c Try.underlying48
  simp [binOp, h]
theorem RdI.none {w : World} {l : Nat} {xs : List Int} (h : RdI w none l xs) : l = 0 ∧ xs = [] := by
  have h0 : l = 0 := by
    rcases Nat.eq_zero_or_pos l with h0 | h0
    · exact h0
    · obtain ⟨g, o, e, _⟩ := h.2.2 h0
      cases e
  exact ⟨h0, List.eq_nil_of_length_eq_zero (h.1.trans h0)⟩
theorem own_none (B : Nat) (w : World) : OutI B w (.slice none 0 0) [] := World.ownsRow_nil w B 3 1
theorem own_lit (w : World) : OutI w.heap.size (w.alloc (.cells #[] 3)) (.slice (some ⟨w.heap.size, 0, none⟩) 0 0) [] := World.ownsRow_lit (base := w.heap.size) (e := 3) (size := 1) w #[] 0 (Nat.le_refl _) (by simp [maxLen]) rfl
theorem fr_ownI {B : Nat} {w0 w w' : World} {v : Value} (h : Fr No w0 w) (hge : ∀ q, v.ownBlock = some q → B ≤ q) (hB : w0.heap.size ≤ B) (f : Fr (fun q => v.ownBlock = some q) w w') : Fr No w0 w' :=
  h.step f (fun i hi he => absurd hi (by have := hge i he; omega))
theorem lit_ge (w : World) : ∀ q, (Value.slice (some ⟨w.heap.size, 0, none⟩) 0 0).ownBlock = some q → w.heap.size ≤ q := by
  intro q hq
  have : w.heap.size = q := by simpa [Value.ownBlock] using hq
  omega
set_option maxRecDepth 100000 in
theorem clone1_ok (A : Option Addr) (l c : Nat) (xs : List Int) (w : World) (hl : l * 8 ≤ 140737488355328) (hx : RdI w A l xs) : Calls Try.prog 51 #[.slice A l c] w fun e w' => ∃ A' c', e = .returned (.slice A' l c') ∧ OutI w.heap.size w' (.slice A' l c') xs ∧ Fr No w w' := by
  cases hA : A with
  | none =>
    subst hA
    obtain ⟨rfl, rfl⟩ := hx.none
    have hnil := fun w => eqnil1 none 0 c w
    clear hx
    go_enter Try.func51, Try.ntmps51
    go_wp2
    go_ret
    exact ⟨none, 0, rfl, own_none _ _, Fr.refl _ _⟩
  | some a =>
    subst hA
    have HX := hid (hx.fr ((Fr.refl No w).alloc (.cells #[] 3)))
    have O0 := hid (own_lit w)
    have hnil := fun w => eqnil1 (some a) l c w
    clear hx
    go_enter Try.func51, Try.ntmps51
    go_wp2_with (at_builtin; refine app_i rfl (.tmp 5) (.tmp 6) rfl w.heap.size _ rfl O0.out _ l _ xs rfl HX.out hl (by simp) ?_)
    intro A1 c1 w1 o1 f1
    have F1 := hid (fr_ownI ((Fr.refl No w).alloc (.cells #[] 3)) (lit_ge w) (Nat.le_refl _) f1)
    have O1 := hid o1
    clear o1 f1
    go_wp2
    go_ret
    exact ⟨A1, c1, rfl, O1.out, F1.out⟩
/-- The call has returned the numbers in the head's order. -/
def RetW (h : Int) (xs : List Int) (w w' : World) (e : Ending) : Prop := ∃ A c ys, e = .returned (.slice A xs.length c) ∧ RdI w' A xs.length ys ∧ ys.Perm xs ∧ ys.Pairwise (fun a b => ¬ bef h b a) ∧ Fr No w w'
theorem outI_at {B : Nat} {w : World} {A : Option Addr} {k c : Nat} {L : List Int} (h : OutI B w (.slice A k c) L) (hk : 0 < L.length) : ∃ g, A = some ⟨g, 0, none⟩ ∧ B ≤ g ∧ g < w.heap.size := by
  obtain ⟨_, ⟨_, h2⟩ | ⟨g, cap, cur, hv, hb, hh, _⟩⟩ := h
  · omega
  · injection hv with e1 e2 e3
    exact ⟨g, e1, hb, (Array.getElem?_eq_some_iff.1 hh).1⟩
set_option maxRecDepth 100000 in
set_option maxHeartbeats 2000000 in
theorem sweep_ok (h : Int) (A : Option Addr) (l c : Nat) (xs : List Int) (w : World) (hl : l * 8 ≤ 140737488355328) (hx : RdI w A l xs) : Calls Try.prog 37 #[.int .i64 h, .slice A l c] w fun e w' => RetW h xs w w' e := by
  obtain rfl := hx.1
  have HX := hid (hx.fr ((Fr.refl No w).alloc (.cells #[.int .i64 h] 3)))
  have FW := hid ((Fr.refl No w).alloc (.cells #[.int .i64 h] 3))
  have PB := hid (Blk.new w 3 #[.int .i64 h])
  have HSZ := hid (show (w.alloc (.cells #[.int .i64 h] 3)).heap.size = w.heap.size + 1 by simp)
  clear hx
  have HC := hid (clone1_ok A xs.length c xs _ hl HX.out)
  go_enter Try.func37, Try.ntmps37
  go_wp2_with fail
  refine HC.out.mono ?_
  rintro e w1 ⟨A1, c1, rfl, o1, f1⟩
  have FW := kf f1 FW
  have PB := hid (PB.out.fr f1 (fun h => h))
  have O1 := hid o1
  clear o1 f1
  rcases Nat.eq_zero_or_pos xs.length with h0 | h0
  · obtain rfl : xs = [] := List.eq_nil_of_length_eq_zero h0
    clear h0
    simp only [List.length_nil] at *
    go_wp2_with fail
    refine (sort1_none _ _ _ _).mono ?_
    rintro e w2 ⟨rfl, rfl⟩
    go_wp2
    go_ret
    exact ⟨A1, c1, [], rfl, ⟨rfl, Rd.nil _ _⟩, .nil, .nil, FW.out⟩
  · obtain ⟨g, rfl, hg1, hg2⟩ := outI_at O1.out h0
    have HG1 := hid hg1
    have HG2 := hid hg2
    clear h0 hg1 hg2
    go_wp2_with fail
    refine (sort1_ok h w.heap.size _ g c1 xs _ O1.out HG2.out (by omega) (PB.out.cell 0) (by have h1 := HG1.out; have h2 := HSZ.out; omega)).mono ?_
    rintro e w2 ⟨rfl, ys, hp, hs, hr, f2⟩
    have FW := hid (FW.out.step f2 (fun i hi e => absurd hi (by have h1 := HG1.out; have h2 := HSZ.out; omega)))
    have HR := hid (show RdI w2 (some ⟨g, 0, none⟩) xs.length ys from ⟨hp.length_eq, hr⟩)
    have HP := hid hp
    have HS := hid hs
    clear hr hp hs f2
    go_wp2
    go_ret
    exact ⟨_, c1, ys, rfl, HR.out, HP.out, HS.out, FW.out⟩
end Go.Proofs.Ythldppgbopiaiaa.PoD
