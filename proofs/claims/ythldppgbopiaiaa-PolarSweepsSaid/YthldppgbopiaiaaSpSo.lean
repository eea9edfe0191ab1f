/- Contracts: the library's sort of a row of spans, by their places; a copy that is the call's own. Condition: at most some thousand spans. -/
import Derived.Test.YthldppgbopiaiaaSpSh
import Derived.Test.YthldppgbopiaiaaSpX
import Derived.Test.YthldppgbopiaiaaSpRow
namespace Go.Proofs.Ythldppgbopiaiaa.SpSo
open Go.RowKit MSep MSepC MSpM SpA SpB SpO SpH SpX SpSh

def cf (a b : Sp) : Int := if a.1 < b.1 then -1 else if b.1 < a.1 then 1 else 0
theorem lt_cf (a b : Sp) : ltOf cf a b = decide (a.1 < b.1) := by
  unfold ltOf cf
  refine decide_eq_decide.2 ?_
  split
  · simp [*]
  · split <;> simp [*]
theorem swo : Sort.SWO (ltOf cf) where
  irrefl x := by rw [lt_cf]; simp
  trans x y z h1 h2 := by rw [lt_cf] at *; simp at *; omega
  ntrans x y z h1 h2 := by rw [lt_cf] at *; simp at *; omega

theorem isNaN_ok (x : Int) (w : World) : Calls Try.prog 63 #[.int .i64 x] w fun e w' => e = .returned (.bool false) ∧ w = w' := by
  go_enter Try.func63, Try.ntmps63
  go_wp2
  go_ret
  exact ⟨by simp, rfl⟩
theorem compare_ok (x y : Int) (w : World) : Calls Try.prog 43 #[.int .i64 x, .int .i64 y] w fun e w' => e = .returned (.int .i64 (if x < y then -1 else if y < x then 1 else 0)) ∧ w = w' := by
  rcases Int.lt_trichotomy x y with h | h | h
  · rw [if_pos h]
    go_enter Try.func43, Try.ntmps43
    go_wp2_with fail
    refine (isNaN_ok _ _).mono ?_
    rintro e w1 ⟨rfl, rfl⟩
    go_wp2_with fail
    refine (isNaN_ok _ _).mono ?_
    rintro e w1 ⟨rfl, rfl⟩
    go_wp2
    go_ret
    exact ⟨rfl, rfl⟩
  · subst h
    rw [if_neg (by omega), if_neg (by omega)]
    go_enter Try.func43, Try.ntmps43
    go_wp2_with fail
    refine (isNaN_ok _ _).mono ?_
    rintro e w1 ⟨rfl, rfl⟩
    go_wp2_with fail
    refine (isNaN_ok _ _).mono ?_
    rintro e w1 ⟨rfl, rfl⟩
    go_wp2
    all_goals (go_ret; exact ⟨by first | rfl | (simp_all; done), rfl⟩)
  · have h' : ¬ x < y := by omega
    rw [if_neg h', if_pos h]
    go_enter Try.func43, Try.ntmps43
    go_wp2_with fail
    refine (isNaN_ok _ _).mono ?_
    rintro e w1 ⟨rfl, rfl⟩
    go_wp2_with fail
    refine (isNaN_ok _ _).mono ?_
    rintro e w1 ⟨rfl, rfl⟩
    go_wp2
    go_ret
    exact ⟨rfl, rfl⟩
abbrev sb (a n : Int) : Obj := .cells #[.int .i64 a, .int .i64 n] 23
theorem cmp_ok (a n b m : Int) (w : World) : Calls Try.prog 42 #[.agg #[.int .i64 a, .int .i64 n], .agg #[.int .i64 b, .int .i64 m]] w fun e w' => e = .returned (.int .i64 (cf (a, n) (b, m))) ∧ w' = (w.alloc (sb a n)).alloc (sb b m) := by
  have HC := hid (compare_ok a b ((w.alloc (sb a n)).alloc (sb b m)))
  obtain ⟨r, hr⟩ : ∃ r, cf (a, n) (b, m) = r := ⟨_, rfl⟩
  have hr' : (if a < b then (-1 : Int) else if b < a then 1 else 0) = r := hr
  rw [hr'] at HC
  rw [hr]
  clear hr hr'
  go_enter Try.func42, Try.ntmps42
  go_wp2_with fail
  refine HC.out.mono ?_
  rintro e w1 ⟨rfl, rfl⟩
  go_wp2
  go_ret
  exact ⟨rfl, rfl⟩

/-- A span's two cells. -/
def enc (s : Sp) : List Value := [.int .i64 s.1, .int .i64 s.2]
theorem cmp_lays (g l : Nat) (w : World) : CmpLays Try.prog 42 #[] enc 2 cf g 0 l w := by
  intro m os dk _ x y
  refine (cmp_ok x.1 x.2 y.1 y.2 _).mono ?_
  rintro e w' ⟨he, hw⟩
  refine ⟨he, 0, #[sb x.1 x.2, sb y.1 y.2], ?_⟩
  rw [hw, Sort.alloc_eq_grow, Sort.alloc_eq_grow, Sort.grow_grow]
  rfl
theorem get_arr {α : Type} [Inhabited α] (l : List α) (i : Nat) (s : α) (h : l[i]? = some s) : l.toArray[i]! = s := by
  simp [h]
theorem holds_of {B : Nat} {w : World} {g c : Nat} {xs : List Sp} (h : Out B w (.slice (some ⟨g, 0, none⟩) xs.length c) xs) : Sort.HoldsK enc 2 w g 0 xs.toArray := by
  unfold Out at h
  intro j hj
  rw [Sort.size_flatK] at hj
  have hj' : j < xs.length * 2 := by simpa using hj
  have hi : j / 2 < xs.length := by omega
  have hx : xs[j / 2]? = some xs[j / 2] := List.getElem?_eq_getElem hi
  obtain ⟨c0, c1⟩ := cs2_get0 hx
  rw [Nat.zero_add, Sort.get_flatK _ _ _ _ hj, get_arr _ _ _ hx]
  refine ⟨?_, World.ownsRow.frozenAt h j⟩
  rw [World.ownsRow.cellAt h j (by omega)]
  rcases Nat.mod_two_eq_zero_or_one j with e | e
  · have ej : j = j / 2 * 2 := by omega
    rw [e, show (cs2 xs)[j]? = (cs2 xs)[j / 2 * 2]? by rw [← ej], c0]
    rfl
  · have ej : j = j / 2 * 2 + 1 := by omega
    rw [e, show (cs2 xs)[j]? = (cs2 xs)[j / 2 * 2 + 1]? by rw [← ej], c1]
    rfl
theorem fr_sort (w : World) (g n : Nat) (d : Array Sp) (os : Array Obj) : Fr (fun q => q = g) w (sortWorldK enc 2 w g 0 n d os) := by
  refine ⟨rfl, rfl, rfl, size_sortWorldK_c enc 2 w g 0 n d os, fun k hk hn => ?_⟩
  unfold sortWorldK Sort.putRowK Sort.putRow Sort.mapBlock Sort.ahead Sort.grow
  have hk' : k < (w.heap.modify g (Sort.onCells (Sort.putCells id 0 (Sort.flatK enc 2 d)))).size := by simpa using hk
  simp only [Array.getElem?_append, hk', if_true, Array.getElem?_modify]
  rw [if_neg (fun e => hn e.symm)]
/-- The sort puts the row in order of the spans' places; of what was there nothing else turns. -/
theorem sort_ok (B : Nat) (g c : Nat) (xs : List Sp) (w : World) (h : Out B w (.slice (some ⟨g, 0, none⟩) xs.length c) xs) (hg : g < w.heap.size) (hl : xs.length ≤ 1000000) :
    Calls Try.prog 41 #[.slice (some ⟨g, 0, none⟩) xs.length c, .func (.func 42) #[] #[]] w fun e w' =>
      e = .returned (.tuple #[]) ∧ ∃ ys : List Sp, ys.Perm xs ∧ ys.Pairwise (fun a b => a.1 ≤ b.1) ∧ RdS w' (some ⟨g, 0, none⟩) xs.length ys ∧ Fr (fun q => q = g) w w' := by
  have hH := holds_of h
  have e : xs.toArray.size = xs.length := by simp
  have eg : ∀ args w, (callFunc 42 args).run Try.prog w = .ok (.enter 42 args) w := enters_of Try.func42 (by kernel_rfl) rfl
  have hs := AnyQ.slices_SortFunc laysS 2 Try.isAgg23 Try.sizeOf23 enc (fun _ => rfl) (fun x v hv => by
    simp only [enc, List.mem_cons, List.not_mem_nil, or_false] at hv
    rcases hv with rfl | rfl <;> rfl) cf swo 42 #[] g 0 c xs.toArray w eg (cmp_lays g _ w) hH hg (by rw [e]; omega)
  rw [e] at hs
  refine hs.mono ?_
  rintro e w' ⟨he, d', n, os, hp, ho, rfl⟩
  obtain ⟨hp1, _, hp3⟩ := hp
  have hd : d'.size = xs.length := by rw [hp1]; simp
  have hK := holdsK_sortWorldK_c enc 2 w g 0 xs.toArray d' n os hH hg hp1
  refine ⟨he, d'.toList, ?_, ?_, MSpRow.rds_of (by simpa using hd) (fun _ => Nat.lt_of_lt_of_le hg (size_sortWorldK_c enc 2 w g 0 n d' os)) (fun i s hi => ?_), fr_sort w g n d' os⟩
  · have e1 : d'.extract 0 xs.length = d' := by rw [← hd]; simp
    have e2 : xs.toArray.extract 0 xs.length = xs.toArray := by simp
    rw [e1, e2] at hp3
    simpa using hp3
  · rw [List.pairwise_iff_getElem]
    intro i j hi hj hij
    have hi' : i < d'.size := by simpa using hi
    have hj' : j < d'.size := by simpa using hj
    have := ho i j (Nat.zero_le _) hij (by omega)
    rw [lt_cf] at this
    simp only [decide_eq_false_iff_not] at this
    rw [getElem!_pos d' i hi', getElem!_pos d' j hj'] at this
    simp only [Array.getElem_toList]
    omega
  · have hi' : i < d'.size := by
      have := (List.getElem?_eq_some_iff.1 hi).1
      simpa using this
    have hx : d'[i]! = s := by
      rw [getElem!_pos d' i hi']
      have := (List.getElem?_eq_some_iff.1 hi).2
      simpa using this
    have k0 := (Sort.HoldsK.cell hK hi' (c := 0) (by omega)).1
    have k1 := (Sort.HoldsK.cell hK hi' (c := 1) (by omega)).1
    rw [hx] at k0 k1
    exact ⟨k0, by rw [← Nat.add_assoc]; exact k1⟩
theorem sort_none (A : Option Addr) (c : Nat) (f : Value) (w : World) : Calls Try.prog 41 #[.slice A 0 c, f] w fun e w' => e = .returned (.tuple #[]) ∧ w' = w :=
  AnyF.slices_SortFunc_none laysS A c f w

set_option maxRecDepth 100000 in
theorem clone_own (A : Option Addr) (l c : Nat) (xs : List Sp) (w : World) (hl : l ≤ 1000000) (hx : RdS w A l xs) : Calls Try.prog 40 #[.slice A l c] w fun e w' => ∃ A' c', e = .returned (.slice A' xs.length c') ∧ Out w.heap.size w' (.slice A' xs.length c') xs ∧ Fr No w w' := by
  have hxl := hx.1
  subst hxl
  cases hA : A with
  | none =>
    subst hA
    have hl0 : xs.length = 0 := by
      rcases Nat.eq_zero_or_pos xs.length with h | h
      · exact h
      · obtain ⟨g, o, h, _⟩ := hx.at_ h
        cases h
    have hx0 : xs = [] := List.eq_nil_of_length_eq_zero hl0
    subst hx0
    have hnil := fun w => eqnil none 0 c w
    clear hx
    go_enter Try.func40, Try.ntmps40
    go_wp2
    go_ret
    exact ⟨none, 0, rfl, Out.nil _ _, Fr.refl _ _⟩
  | some a =>
    subst hA
    have HX := hid (hx.fr (fr1 w (.cells #[] 23)))
    have O0 := hid (World.ownsRow_lit (base := w.heap.size) (e := 23) (size := 2) w #[] 0 (Nat.le_refl _) (by simp [maxLen]) rfl)
    have hnil := fun w => eqnil (some a) xs.length c w
    obtain ⟨l, hxl⟩ : ∃ l, xs.length = l := ⟨_, rfl⟩
    have HLL := hid hxl
    rw [hxl] at hl hnil HX ⊢
    clear hx hxl
    go_enter Try.func40, Try.ntmps40
    go_wp2_with (at_builtin; refine app_sp rfl (.tmp 5) (.tmp 6) rfl w.heap.size _ [] rfl O0.out _ l _ xs rfl HX.out (by simp; omega) (by simp) ?_)
    intro A1 c1 w1 o1 f1
    have F1 := hid (fr_own (fr1 w (.cells #[] 23)) (show Out w.heap.size _ _ [] from O0.out) (Nat.le_refl _) f1)
    have O1 := hid o1
    clear o1 f1
    go_wp2
    go_ret
    exact ⟨A1, c1, by simp, by simpa using O1.out, F1.out⟩
end Go.Proofs.Ythldppgbopiaiaa.SpSo
