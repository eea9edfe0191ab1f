/- Contracts: the library's sort of whole numbers by the head's way; Sweep. Condition: at most some millions of numbers. -/
import Derived.Test.YthldppgbopiaiaaPoSh
import Derived.Test.YthldppgbopiaiaaSpSo
namespace Go.Proofs.Ythldppgbopiaiaa.PoC
open Go.RowKit MSep SpA SpO SpSo PoSh

/-- How two numbers are compared, the head being at h. -/
def ch (h x y : Int) : Int := if x < h ∧ h ≤ y then 1 else if h ≤ x ∧ y < h then -1 else if x < y then -1 else if y < x then 1 else 0
def bef (h x y : Int) : Prop := (h ≤ x ∧ y < h) ∨ ((x < h ↔ y < h) ∧ x < y)
theorem lt_ch (h x y : Int) : ltOf (ch h) x y = true ↔ bef h x y := by
  unfold ltOf ch bef
  rw [decide_eq_true_iff]
  split
  · omega
  · split
    · omega
    · split
      · omega
      · split <;> omega
theorem swo_ch (h : Int) : Sort.SWO (ltOf (ch h)) where
  irrefl x := by rw [Bool.eq_false_iff, Ne, lt_ch]; unfold bef; omega
  trans x y z h1 h2 := by rw [lt_ch] at *; unfold bef at *; omega
  ntrans x y z h1 h2 := by rw [Bool.eq_false_iff, Ne, lt_ch] at *; unfold bef at *; omega

theorem cmp_ok (h x y : Int) (B : Nat) (w : World) (hc : w.cell? ⟨B, 0, none⟩ = some (.int .i64 h)) : Calls Try.prog 53 #[.int .i64 x, .int .i64 y, .pointer (some ⟨B, 0, none⟩)] w fun e w' => e = .returned (.int .i64 (ch h x y)) ∧ w = w' := by
  by_cases h1 : x < h
  · by_cases h2 : h ≤ y
    · rw [show ch h x y = 1 by unfold ch; rw [if_pos ⟨h1, h2⟩]]
      go_enter Try.func53, Try.ntmps53
      go_wp2_with fail
      go_ret
      exact ⟨rfl, rfl⟩
    · have h2' : y < h := by omega
      have h3 : ¬ h ≤ x := by omega
      rw [show ch h x y = if x < y then -1 else if y < x then 1 else 0 by unfold ch; rw [if_neg (fun k => h2 k.2), if_neg (fun k => h3 k.1)]]
      have HC := hid (compare_ok x y)
      obtain ⟨r, hr⟩ : ∃ r, (if x < y then (-1 : Int) else if y < x then 1 else 0) = r := ⟨_, rfl⟩
      have HC := hid (fun w => compare_ok x y w)
      rw [hr] at HC ⊢
      clear hr
      go_enter Try.func53, Try.ntmps53
      go_wp2_with fail
      refine (HC.out _).mono ?_
      rintro e w1 ⟨rfl, rfl⟩
      go_wp2_with fail
      go_ret
      exact ⟨rfl, rfl⟩
  · have h1' : h ≤ x := by omega
    by_cases h2 : y < h
    · rw [show ch h x y = -1 by unfold ch; rw [if_neg (fun k => h1 k.1), if_pos ⟨h1', h2⟩]]
      go_enter Try.func53, Try.ntmps53
      go_wp2_with fail
      go_ret
      exact ⟨rfl, rfl⟩
    · rw [show ch h x y = if x < y then -1 else if y < x then 1 else 0 by unfold ch; rw [if_neg (fun k => h1 k.1), if_neg (fun k => h2 k.2)]]
      obtain ⟨r, hr⟩ : ∃ r, (if x < y then (-1 : Int) else if y < x then 1 else 0) = r := ⟨_, rfl⟩
      have HC := hid (fun w => compare_ok x y w)
      rw [hr] at HC ⊢
      clear hr
      go_enter Try.func53, Try.ntmps53
      go_wp2_with fail
      refine (HC.out _).mono ?_
      rintro e w1 ⟨rfl, rfl⟩
      go_wp2_with fail
      go_ret
      exact ⟨rfl, rfl⟩

def en (x : Int) : Value := .int .i64 x
theorem fr_sort1 (w : World) (g n : Nat) (d : Array Int) (os : Array Obj) : Fr (fun q => q = g) w (sortWorld en w g 0 n d os) := by
  refine ⟨rfl, rfl, rfl, ?_, fun k hk hn => ?_⟩
  · unfold sortWorld Sort.grow Sort.putRow Sort.mapBlock Sort.ahead
    simp
  · unfold sortWorld Sort.putRow Sort.mapBlock Sort.ahead Sort.grow
    have hk' : k < (w.heap.modify g (Sort.onCells (Sort.putCells en 0 d))).size := by simpa using hk
    simp only [Array.getElem?_append, hk', if_true, Array.getElem?_modify]
    rw [if_neg (fun e => hn e.symm)]
theorem cmp_lays1 (h : Int) (B g l : Nat) (w : World) (hc : w.cell? ⟨B, 0, none⟩ = some (.int .i64 h)) (hne : B ≠ g) : CmpLays1 Try.prog 53 #[.pointer (some ⟨B, 0, none⟩)] en (ch h) g 0 l w := by
  intro m os dk _ x y
  have hc' := (fr_sort1 w g m dk os).cell_some hc hne
  refine (cmp_ok h x y B _ hc').mono ?_
  rintro e w' ⟨he, hw⟩
  exact ⟨he, 0, #[], by rw [← hw, Sort.grow_empty]; rfl⟩
/-- v is a row of whole numbers of the call's own. -/
def OutI (B : Nat) (w : World) (v : Value) (l : List Int) : Prop := w.ownsRow B 3 1 v l.length (l.map en)
theorem holds_of1 {B : Nat} {w : World} {g c : Nat} {xs : List Int} (h : OutI B w (.slice (some ⟨g, 0, none⟩) xs.length c) xs) : Sort.Holds en w g 0 xs.toArray := by
  unfold OutI at h
  intro j hj
  have hj' : j < xs.length := by simpa using hj
  have hx : xs[j]? = some xs[j] := List.getElem?_eq_getElem hj'
  rw [Nat.zero_add, get_arr _ _ _ hx]
  refine ⟨?_, World.ownsRow.frozenAt h j⟩
  rw [World.ownsRow.cellAt h j (by omega), List.getElem?_map, hx]
  rfl
theorem sort1_ok (h : Int) (Bx B : Nat) (g c : Nat) (xs : List Int) (w : World) (ho : OutI B w (.slice (some ⟨g, 0, none⟩) xs.length c) xs) (hg : g < w.heap.size) (hl : xs.length ≤ 140737488355327) (hc : w.cell? ⟨Bx, 0, none⟩ = some (.int .i64 h)) (hne : Bx ≠ g) :
    Calls Try.prog 52 #[.slice (some ⟨g, 0, none⟩) xs.length c, .func (.func 53) #[] #[.pointer (some ⟨Bx, 0, none⟩)]] w fun e w' =>
      e = .returned (.tuple #[]) ∧ ∃ ys : List Int, ys.Perm xs ∧ ys.Pairwise (fun a b => ¬ bef h b a) ∧ Rd w' (some ⟨g, 0, none⟩) xs.length (ys.map en) ∧ Fr (fun q => q = g) w w' := by
  have hH := holds_of1 ho
  have e : xs.toArray.size = xs.length := by simp
  have eg : ∀ args w, (callFunc 53 args).run Try.prog w = .ok (.enter 53 args) w := enters_of Try.func53 (by kernel_rfl) rfl
  have hs := Any.slices_SortFunc laysI en (fun _ => rfl) (ch h) (swo_ch h) 53 #[.pointer (some ⟨Bx, 0, none⟩)] g 0 c xs.toArray w eg (cmp_lays1 h Bx g _ w hc hne) hH hg (by rw [e]; omega)
  rw [e] at hs
  refine hs.mono ?_
  rintro e w' ⟨he, d', n, os, hp, hso, rfl⟩
  obtain ⟨hp1, _, hp3⟩ := hp
  have hd : d'.size = xs.length := by rw [hp1]; simp
  have hK := holds_sortWorld en w g 0 n xs.toArray d' os hg hH hp1
  refine ⟨he, d'.toList, ?_, ?_, ⟨by simpa using hd, fun _ => ⟨g, 0, rfl, Nat.lt_of_lt_of_le hg (fr_sort1 w g n d' os).size, fun j u hu => ?_⟩⟩, fr_sort1 w g n d' os⟩
  · have e1 : d'.extract 0 xs.length = d' := by rw [← hd]; simp
    have e2 : xs.toArray.extract 0 xs.length = xs.toArray := by simp
    rw [e1, e2] at hp3
    simpa using hp3
  · rw [List.pairwise_iff_getElem]
    intro i j hi hj hij
    have hi' : i < d'.size := by simpa using hi
    have hj' : j < d'.size := by simpa using hj
    have := hso i j (Nat.zero_le _) hij (by omega)
    rw [Bool.eq_false_iff, Ne, lt_ch, getElem!_pos d' i hi', getElem!_pos d' j hj'] at this
    simpa using this
  · rw [List.getElem?_map] at hu
    cases hx : d'.toList[j]? with
    | none => rw [hx] at hu; cases hu
    | some s =>
      rw [hx] at hu
      have hj' : j < d'.size := by
        have := (List.getElem?_eq_some_iff.1 hx).1
        simpa using this
      have hs : d'[j]! = s := by
        rw [getElem!_pos d' j hj']
        have := (List.getElem?_eq_some_iff.1 hx).2
        simpa using this
      have k0 := (hK j hj').1
      rw [hs] at k0
      rw [k0]
      exact hu
theorem sort1_none (A : Option Addr) (c : Nat) (f : Value) (w : World) : Calls Try.prog 52 #[.slice A 0 c, f] w fun e w' => e = .returned (.tuple #[]) ∧ w' = w :=
  AnyF.slices_SortFunc_none laysI0 A c f w
end Go.Proofs.Ythldppgbopiaiaa.PoC
