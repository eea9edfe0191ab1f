import Derived.Test.YtkkbgbpmpcoffaaDoorSpO
import Derived.Test.YtkkbgbpmpcoffaaDoorBtA
import Derived.Test.YtkkbgbpmpcoffaaDoorBtD
/- Contracts: what is left of a span without another one, as the document's answer and as the program reckon it. Condition: both may be (the program's: 64 bits). -/
namespace Go.Proofs.YtkkbgbpmpcoffaaDoor.SpE
open Go.RowKit MSep MSepC MSpM SpA SpB SpO

theorem lit_rd2 (W : World) (x y : Int) (g : Nat) (hg : g = W.heap.size) : RdS (W.alloc (.cells #[.int .i64 x, .int .i64 y] 51)) (some ⟨g, 0, none⟩) 1 [(x, y)] := by
  subst hg
  exact lit_rd W x y
theorem Out.nilb {B : Nat} {w : World} : Out B w (.slice none 0 0) [] := Out.nil B w

end Go.Proofs.YtkkbgbpmpcoffaaDoor.SpE
/- Contract: what is left of a span without another one, as the program reckons it. Condition: all numbers are 64 bits. -/
namespace Go.Proofs.YtkkbgbpmpcoffaaDoor.SpF
open Go.RowKit MSep MSepC MSpM SpA SpB SpO SpE

theorem ko {b c : World} {B : Nat} {v : Value} {l : List Sp} (k : Fr No b c) (h : Hid (Out B b v l)) : Hid (Out B c v l) := hid (h.out.fr k)
theorem meet0_may2 {a b : Sp} {X : Sp} (ha : may a) (hb : may b) (h : Hid (meet0 a b = X)) : may X := by
  have := meet0_may ha hb
  rw [h.out] at this
  exact this
theorem cut_no {a b : Sp} (h : ¬ (may a ∧ may b)) : cut a b = [] := by unfold cut; rw [if_neg h]
theorem cut_none {a b : Sp} (h : a.2 = 0) : cut a b = [] := by
  unfold cut
  split
  · unfold cut0
    have e : (meet0 a b).2 = 0 := by
      unfold meet0
      split
      · rfl
      · simp only []
        omega
    rw [if_pos e, if_pos h]
  · rfl
theorem cut_go {a b : Sp} (ha : may a) (hb : may b) : cut a b = cut0 a b := by unfold cut; rw [if_pos ⟨ha, hb⟩]

end Go.Proofs.YtkkbgbpmpcoffaaDoor.SpF
/- Contracts: whether a list of spans is a set, as the program and as the document's answer tell it. Condition: all numbers are 64 bits. -/
namespace Go.Proofs.YtkkbgbpmpcoffaaDoor.SpG
open Go.RowKit MSep MSepC MSpM SpA SpB SpO SpE

theorem ris_sub {p q : List Sp} (h : Ris (p ++ q)) : Ris p := (ris_append.1 h).1
theorem ris_first {xs : List Sp} {k : Nat} (h : Ris xs) : Ris (xs.take k) := ris_sub (q := xs.drop k) (by rw [List.take_append_drop]; exact h)
theorem take_snoc {xs : List Sp} {k : Nat} {s : Sp} (h : xs[k]? = some s) : xs.take (k + 1) = xs.take k ++ [s] := by
  rw [List.take_add_one, h]
  rfl
theorem ris_no1 {xs : List Sp} {k : Nat} {s : Sp} (h : xs[k]? = some s) (hn : ¬ (may s ∧ 0 < s.2)) : ¬ Ris xs := fun hr => hn (hr.2 s (List.mem_of_getElem? h))
theorem ris_no2 {xs : List Sp} {k : Nat} {s t : Sp} (h : xs[k + 1]? = some s) (h' : xs[k]? = some t) (hn : ¬ t.1 + t.2 < s.1) : ¬ Ris xs := fun hr => by
  have := ris_first (k := k + 1 + 1) hr
  rw [take_snoc h, take_snoc h'] at this
  exact hn ((ris_append.1 this).2.2 t (by simp) s (by simp))
theorem ris_go1 {xs : List Sp} {s : Sp} (h : xs[0]? = some s) (hm : may s) (h0 : 0 < s.2) : Ris (xs.take 1) := by
  rw [take_snoc h]
  exact ris_one hm h0
theorem ris_go2 {xs : List Sp} {k : Nat} {s t : Sp} (hr : Ris (xs.take (k + 1))) (h : xs[k + 1]? = some s) (h' : xs[k]? = some t) (hm : may s) (h0 : 0 < s.2) (hlt : t.1 + t.2 < s.1) : Ris (xs.take (k + 1 + 1)) := by
  rw [take_snoc h]
  refine ris_append.2 ⟨hr, ris_one hm h0, ?_⟩
  intro u hu v hv
  simp only [List.mem_singleton] at hv
  subst hv
  rw [take_snoc h'] at hr hu
  obtain ⟨_, ht, hut⟩ := ris_append.1 hr
  have ht0 := (ht.2 t (by simp)).2
  rcases List.mem_append.1 hu with k | k
  · have := hut u k t (by simp)
    omega
  · simp only [List.mem_singleton] at k
    subst k
    exact hlt
theorem ris_at {xs : List Sp} {k j : Nat} {t : Sp} (hr : Ris (xs.take k)) (hj : j < k) (h : xs[j]? = some t) : may t ∧ 0 < t.2 := by
  refine hr.2 t (List.mem_of_getElem? (i := j) ?_)
  rw [List.getElem?_take, if_pos hj]
  exact h
theorem wf_at {xs : List Sp} {k : Nat} {s : Sp} (hw : ∀ s ∈ xs, wf s) (h : xs[k]? = some s) : wf s := hw s (List.mem_of_getElem? h)

end Go.Proofs.YtkkbgbpmpcoffaaDoor.SpG
/- Contracts: a list that is limited; a copy of a list; a set without a span. Condition: the slices read as lists, all numbers are 64 bits. -/
namespace Go.Proofs.YtkkbgbpmpcoffaaDoor.SpH
open Go.RowKit MSep MSepC MSpM SpA SpB SpO SpE SpF SpG

/-- The call has returned a slice that reads as L, and an error's number. -/
def RetP (w w' : World) (e : Ending) (L : List Sp) (n : Int) : Prop := ∃ A k c, e = .returned (.tuple #[.slice A k c, .int .i64 n]) ∧ RdS w' A k L ∧ Fr No w w'
theorem RetP.mk {w w' : World} {L : List Sp} {A : Option Addr} {k c : Nat} {n : Int} (h : RdS w' A k L) (f : Fr No w w') : RetP w w' (.returned (.tuple #[.slice A k c, .int .i64 n])) L n := ⟨A, k, c, rfl, h, f⟩
theorem kco {B : Nat} {W w' : World} {v : Value} {l : List Sp} {p : Addr} {u : Value} (f : Fr (fun q => v.ownBlock = some q) W w') (o : Out B W v l) (hb : p.block < B) (h : W.cell? p = some u) : w'.cell? p = some u :=
  Fr.cell_some f h (fun he => by have := (o.ge _ he).1; omega)

theorem eqnil (a : Option Addr) (l c : Nat) (w : World) : (binOp .eql 24 (.slice a l c) (.slice none 0 0)).run Tryd.prog w = .ok (.bool a.isNone) w := by
  have h := run_equal_slice_nil (P := Tryd.prog) w 24 _ a l c Tryd.underlying24
  simp [binOp, h]
/-- Behind k rounds of Drop. -/
def DrI (w : World) (xs : List Sp) (s : Sp) (l : Nat) (v i : Value) (wr : World) : Prop := ∃ (k : Nat) (A : Option Addr) (c : Nat), k ≤ l ∧ i = .int .i64 k ∧ v = .slice A (drop (xs.take k) s).length c ∧ Out (w.heap.size + 1) wr v (drop (xs.take k) s) ∧ Fr No w wr ∧ Blk wr w.heap.size 51 #[.int .i64 s.1, .int .i64 s.2]
theorem drI_start {w w1 : World} {xs : List Sp} {s : Sp} {l : Nat} (f : Hid (Fr No w w1)) (b : Hid (Blk w1 w.heap.size 51 #[.int .i64 s.1, .int .i64 s.2])) : DrI w xs s l (.slice none 0 0) (.int .i64 0) w1 :=
  ⟨0, none, 0, by omega, rfl, rfl, Out.nil _ _, f.out, b.out⟩
theorem drop_snoc {xs : List Sp} {k : Nat} {t s : Sp} (h : xs[k]? = some t) : drop (xs.take (k + 1)) s = drop (xs.take k) s ++ cut0 t s := by
  rw [take_snoc h, drop, List.flatMap_append]
  simp [drop]
theorem drop_len2 {xs : List Sp} {k l : Nat} (s : Sp) (h : xs.length = l) : (drop (xs.take k) s).length ≤ 2 * l := by
  have := drop_len (xs.take k) s
  have : (xs.take k).length ≤ xs.length := by simp; omega
  omega

end Go.Proofs.YtkkbgbpmpcoffaaDoor.SpH
/- A span cut at multiples of a unit: plain numbers, and the program's contracts. Condition: all numbers are 64 bits. -/
namespace Go.Proofs.YtkkbgbpmpcoffaaDoor.SpU
open Go.RowKit MSep MSepC MSpM SpA SpB SpO SpE SpF SpG SpH

/-- Where piece i begins; piece i; the first k pieces. -/
def frm (a u F : Int) (i : Nat) : Int := if i = 0 then a else (F + i) * u
def too (a n u F : Int) (K i : Nat) : Int := if i = K then a + n else (F + i + 1) * u
def pc (a n u F : Int) (K i : Nat) : Sp := (frm a u F i, too a n u F K i - frm a u F i)
def spl (a n u F : Int) (K k : Nat) : List Sp := (List.range k).map (pc a n u F K)
theorem spl_len (a n u F : Int) (K k : Nat) : (spl a n u F K k).length = k := by simp [spl]
theorem spl_succ (a n u F : Int) (K k : Nat) : spl a n u F K (k + 1) = spl a n u F K k ++ [pc a n u F K k] := by simp [spl, List.range_succ]
theorem spl_at (a n u F : Int) {K k i : Nat} (h : i < k) : (spl a n u F K k)[i]? = some (pc a n u F K i) := by simp [spl, h]

/-- A span that may be, with sectors; a unit; its first and last multiple. -/
structure Gd (a n u F : Int) (K : Nat) : Prop where
  m : may (a, n)
  n0 : 0 < n
  u1 : 1 ≤ u
  hF : a / u = F
  hG : (a + n - 1) / u = F + K
theorem div_of {x u q : Int} (hu : 0 < u) (h1 : q * u ≤ x) (h2 : x < (q + 1) * u) : x / u = q := by
  have a1 : q ≤ x / u := (Int.le_ediv_iff_mul_le hu).2 h1
  have a2 : x / u < q + 1 := (Int.ediv_lt_iff_lt_mul hu).2 h2
  omega
theorem div_in (x : Int) {u : Int} (hu : 0 < u) : (x / u) * u ≤ x ∧ x < (x / u + 1) * u := ⟨Int.ediv_mul_le x (by omega), Int.lt_ediv_add_one_mul_self x hu⟩
theorem Gd.base {a n u F : Int} {K : Nat} (h : Gd a n u F K) : 0 ≤ a ∧ a + n ≤ 1099511627776 ∧ 0 ≤ F ∧ F * u ≤ a ∧ a < (F + 1) * u ∧ (F + K) * u ≤ a + n - 1 ∧ a + n - 1 < (F + K + 1) * u ∧ F + K ≤ a + n - 1 := by
  obtain ⟨m, n0, u1, hF, hG⟩ := h
  unfold may at m
  simp only [] at m
  have h1 := div_in a (show 0 < u by omega)
  have h2 := div_in (a + n - 1) (show 0 < u by omega)
  rw [hF] at h1
  rw [hG] at h2
  have h3 : 0 ≤ F := by rw [← hF]; exact Int.ediv_nonneg (by omega) (by omega)
  have h4 : F + K ≤ a + n - 1 := by rw [← hG]; exact Int.ediv_le_self _ (by omega)
  exact ⟨m.1, m.2.2, h3, h1.1, h1.2, h2.1, h2.2, h4⟩
theorem step_u (F u : Int) (i : Nat) : (F + i + 1) * u = (F + i) * u + u := by rw [Int.add_mul, Int.one_mul]
theorem Gd.mid {a n u F : Int} {K i : Nat} (h : Gd a n u F K) (hi : i < K) : (F + i) * u + u ≤ a + n - 1 := by
  have b := h.base
  have u1 := h.u1
  have := Int.mul_le_mul_of_nonneg_right (show F + i + 1 ≤ F + K by omega) (show 0 ≤ u by omega)
  rw [step_u] at this
  omega
theorem Gd.low {a n u F : Int} {K i : Nat} (h : Gd a n u F K) (hi : 0 < i) : a < (F + i) * u := by
  have b := h.base
  have u1 := h.u1
  have := Int.mul_le_mul_of_nonneg_right (show F + 1 ≤ F + i by omega) (show 0 ≤ u by omega)
  omega
theorem Gd.frm_in {a n u F : Int} {K i : Nat} (h : Gd a n u F K) (hi : i ≤ K) : a ≤ frm a u F i ∧ frm a u F i ≤ a + n - 1 ∧ (F + i) * u ≤ frm a u F i ∧ frm a u F i < (F + i) * u + u := by
  have b := h.base
  have n0 := h.n0
  have u1 := h.u1
  unfold frm
  split
  · rename_i h0
    subst h0
    have e : (F + 1) * u = F * u + u := by rw [Int.add_mul, Int.one_mul]
    simp only [Int.cast_ofNat_Int, Int.add_zero] at *
    omega
  · have l := h.low (i := i) (by omega)
    have := Int.mul_le_mul_of_nonneg_right (show F + i ≤ F + K by omega) (show 0 ≤ u by omega)
    omega
theorem Gd.too_in {a n u F : Int} {K i : Nat} (h : Gd a n u F K) (hi : i ≤ K) : frm a u F i < too a n u F K i ∧ too a n u F K i ≤ a + n ∧ too a n u F K i - 1 < (F + i) * u + u := by
  have b := h.base
  have f := h.frm_in hi
  have u1 := h.u1
  unfold too
  split
  · rename_i h0
    subst h0
    rw [step_u] at b
    omega
  · have := h.mid (i := i) (by omega)
    rw [step_u]
    omega
theorem Gd.pc_ok {a n u F : Int} {K i : Nat} (h : Gd a n u F K) (hi : i ≤ K) : (pc a n u F K i).1 = frm a u F i ∧ 1 ≤ (pc a n u F K i).2 ∧ (pc a n u F K i).2 ≤ a + n - frm a u F i ∧ (pc a n u F K i).1 / u = F + i ∧ ((pc a n u F K i).1 + (pc a n u F K i).2 - 1) / u = F + i ∧ frm a u F i + (pc a n u F K i).2 = too a n u F K i := by
  have f := h.frm_in hi
  have t := h.too_in hi
  have u1 := h.u1
  have e := step_u F u i
  unfold pc
  simp only []
  exact ⟨trivial, by omega, by omega, div_of (by omega) (by omega) (by omega), div_of (by omega) (by omega) (by omega), by omega⟩
theorem too_frm (a n u F : Int) {K i : Nat} (hi : i < K) : too a n u F K i = frm a u F (i + 1) := by
  unfold too frm
  rw [if_neg (by omega), if_neg (by omega)]
  congr 1
  omega

set_option maxRecDepth 100000 in
set_option maxHeartbeats 4000000 in
theorem split_bad (a n u : Int) (w : World) (ha : wf (a, n)) (hu : -9223372036854775808 ≤ u ∧ u ≤ 9223372036854775807) (hn : ¬ (may (a, n) ∧ n ≠ 0 ∧ 1 ≤ u)) : Calls Tryd.prog 71 #[.agg #[.int .i64 a, .int .i64 n], .int .i64 u] w fun e w' => RetS w w' e [] := by
  have _hu := hu
  have HA := hid ha
  have FW := hid (fr1 w (.cells #[.int .i64 a, .int .i64 n] 51))
  have BX := hid (Blk.new w 51 #[.int .i64 a, .int .i64 n])
  have c0 := BX.out.cell 0
  have c1 := BX.out.cell 1
  simp only [List.getElem?_toArray, List.getElem?_cons_zero, List.getElem?_cons_succ] at c0 c1
  clear ha
  have hcase : Hid (¬ may (a, n)) ∨ Hid (may (a, n)) ∧ (n == 0) = true ∨ Hid (may (a, n)) ∧ (n == 0) = false ∧ ¬ 1 ≤ u := by
    by_cases h1 : may (a, n)
    · by_cases h2 : n = 0
      · exact .inr (.inl ⟨h1, by simp [h2]⟩)
      · exact .inr (.inr ⟨h1, by simp [h2], fun h => hn ⟨h1, h2, h⟩⟩)
    · exact .inl h1
  clear hn
  rcases hcase with HM | ⟨HM, hnb⟩ | ⟨HM, hnb, hu1⟩
  · go_enter Tryd.func71, Tryd.ntmps71
    go_wp2_with fail
    refine (may_ok a n _ HA.out).mono ?_
    rintro e w1 ⟨rfl, f1⟩
    rw [decide_eq_false HM.out]
    have FW := kf f1 FW
    have BX := kb f1 BX
    clear f1 c0 c1
    go_wp2
    go_ret
    exact .mk (RdS.nil _ _) FW.out
  · go_enter Tryd.func71, Tryd.ntmps71
    go_wp2_with fail
    refine (may_ok a n _ HA.out).mono ?_
    rintro e w1 ⟨rfl, f1⟩
    rw [decide_eq_true HM.out]
    have FW := kf f1 FW
    have BX := kb f1 BX
    clear f1 c0 c1
    have c0 := BX.out.cell 0
    have c1 := BX.out.cell 1
    simp only [List.getElem?_toArray, List.getElem?_cons_zero, List.getElem?_cons_succ] at c0 c1
    go_wp2
    go_ret
    exact .mk (RdS.nil _ _) FW.out
  · go_enter Tryd.func71, Tryd.ntmps71
    go_wp2_with fail
    refine (may_ok a n _ HA.out).mono ?_
    rintro e w1 ⟨rfl, f1⟩
    rw [decide_eq_true HM.out]
    have FW := kf f1 FW
    have BX := kb f1 BX
    clear f1 c0 c1
    have c0 := BX.out.cell 0
    have c1 := BX.out.cell 1
    simp only [List.getElem?_toArray, List.getElem?_cons_zero, List.getElem?_cons_succ] at c0 c1
    have hu2 : u < 1 := by omega
    go_wp2
    go_ret
    exact .mk (RdS.nil _ _) FW.out

set_option maxRecDepth 100000 in
set_option maxHeartbeats 4000000 in
theorem split_far (a n u F : Int) (K : Nat) (w : World) (hg : Gd a n u F K) (hu : u ≤ 9223372036854775807) (hK : 4096 ≤ K) : Calls Tryd.prog 71 #[.agg #[.int .i64 a, .int .i64 n], .int .i64 u] w fun e w' => RetS w w' e [] := by
  have HG := hid hg
  have FW := hid (fr1 w (.cells #[.int .i64 a, .int .i64 n] 51))
  have BX := hid (Blk.new w 51 #[.int .i64 a, .int .i64 n])
  have c0 := BX.out.cell 0
  have c1 := BX.out.cell 1
  simp only [List.getElem?_toArray, List.getElem?_cons_zero, List.getElem?_cons_succ] at c0 c1
  clear hg
  have hu0 := HG.out.u1
  have hF := HG.out.hF
  have hGG := HG.out.hG
  have hb := HG.out.base
  have n0 := HG.out.n0
  obtain ⟨hb1, hb2, hb3, _, _, _, _, hb8⟩ := hb
  have hnb : (n == 0) = false := by simp; omega
  have hun : ¬ u < 1 := by omega
  have hq1 : IntKind.i64.wrap (a.tdiv u) = F := (Go.IntWalk.i64_quo a u ⟨by omega, by omega, by omega⟩).trans hF
  have hq2 : IntKind.i64.wrap ((a + n - 1).tdiv u) = F + K := (Go.IntWalk.i64_quo (a + n - 1) u ⟨by omega, by omega, by omega⟩).trans hGG
  have hw1 : IntKind.i64.wrap (a + n - 1) = a + n - 1 := by rw [IntKind.wrap_i64]; omega
  have hw2 : wrap64 (a + n - 1) = a + n - 1 := w64 _ (by omega)
  go_enter Tryd.func71, Tryd.ntmps71
  go_wp2_with fail
  refine (may_ok a n _ (wf_may HG.out.m)).mono ?_
  rintro e w1 ⟨rfl, f1⟩
  rw [decide_eq_true HG.out.m]
  have FW := kf f1 FW
  have BX := kb f1 BX
  clear f1 c0 c1
  have c0 := BX.out.cell 0
  have c1 := BX.out.cell 1
  simp only [List.getElem?_toArray, List.getElem?_cons_zero, List.getElem?_cons_succ] at c0 c1
  go_wp2_with fail
  have FW := kd FW
  refine wp_region_noPanic ?_
  refine wp_region_held_drew (S := (fun W' => W'.cell? ⟨w.heap.size, 0, none⟩ = some (.int .i64 a) ∧ W'.cell? ⟨w.heap.size, 1, none⟩ = some (.int .i64 n) ∧ Hid (Fr No w W'))) (by kernel_rfl) ?_ (fun hHeld => ?_)
  · (try dsimp only); (first | (go_split_ands; exact ⟨kc f (by assumption), kc f (by assumption), by assumption⟩) | (go_split_ands; exact ⟨(by assumption), (by assumption), by assumption⟩) | (go_split_ands; exact ⟨kc (fr1 _ _) (by assumption), kc (fr1 _ _) (by assumption), kfa (by assumption)⟩))
  refine wpAnyH_take (i := 0) (v := ?v1) rfl (by kernel_rfl) (by kernel_rfl) (by kernel_rfl) (fun _ _ _ h => h) (Or.inl ⟨by kernel_rfl, ?y1⟩) (by assumption) ?_
  case y1 => (intro w hSw; (try dsimp only at hSw); go_simp; all_goals with_reducible rfl)
  try simp only [Act.put, List.getElem_toArray, List.getElem_cons_zero, List.setIfInBounds_toArray, List.set_cons_zero, List.set_cons_succ]
  refine wpAnyH_take (i := 1) (v := ?v2) rfl (by kernel_rfl) (by kernel_rfl) (by kernel_rfl) (fun _ _ _ h => h) (Or.inl ⟨by kernel_rfl, ?y2⟩) (by assumption) ?_
  case y2 => (intro w hSw; (try dsimp only at hSw); go_simp; all_goals with_reducible rfl)
  try simp only [Act.put, List.getElem_toArray, List.getElem_cons_succ, List.getElem_cons_zero, List.setIfInBounds_toArray, List.set_cons_zero, List.set_cons_succ]
  refine wpAnyH_take (i := 2) (v := ?v3) rfl (by kernel_rfl) (by kernel_rfl) (by kernel_rfl) (fun _ _ _ h => h) (Or.inl ⟨by kernel_rfl, ?y3⟩) (by assumption) ?_
  case y3 => (intro w hSw; (try dsimp only at hSw); go_simp; all_goals with_reducible rfl)
  try simp only [Act.put, List.getElem_toArray, List.getElem_cons_succ, List.getElem_cons_zero, List.setIfInBounds_toArray, List.set_cons_zero, List.set_cons_succ]
  refine wpAnyH_take (i := 3) (v := (.int .i64 F)) rfl (by kernel_rfl) (by kernel_rfl) (by kernel_rfl) (fun _ _ _ h => h) (Or.inl ⟨by kernel_rfl, fun w hSw => by first | (go_simp; done) | (go_simp; with_reducible rfl) | (go_simp; omega)⟩) (by assumption) ?_
  try simp only [Act.put, List.getElem_toArray, List.getElem_cons_succ, List.getElem_cons_zero, List.setIfInBounds_toArray, List.set_cons_zero, List.set_cons_succ]
  refine wpAnyH_take (i := 4) (v := ?v4) rfl (by kernel_rfl) (by kernel_rfl) (by kernel_rfl) (fun _ _ _ h => h) (Or.inl ⟨by kernel_rfl, ?y4⟩) (by assumption) ?_
  case y4 => (intro w hSw; (try dsimp only at hSw); go_simp; all_goals with_reducible rfl)
  try simp only [Act.put, List.getElem_toArray, List.getElem_cons_succ, List.getElem_cons_zero, List.setIfInBounds_toArray, List.set_cons_zero, List.set_cons_succ]
  refine wpAnyH_take (i := 7) (v := ?v5) rfl (by kernel_rfl) (by kernel_rfl) (by kernel_rfl) (fun _ _ _ h => h) (Or.inl ⟨by kernel_rfl, ?y5⟩) (by assumption) ?_
  case y5 => (intro w hSw; (try dsimp only at hSw); go_simp; all_goals with_reducible rfl)
  try simp only [Act.put, List.getElem_toArray, List.getElem_cons_succ, List.getElem_cons_zero, List.setIfInBounds_toArray, List.set_cons_zero, List.set_cons_succ]
  refine wpAnyH_ready (rs := [5]) (by kernel_rfl) (by simp) (AllReadyH.cons rfl (fun K hK => ?_) AllReadyH.nil)
  go_simp
  go_at_call 70
  refine (end_may a n _ HG.out.m).mono ?_
  rintro e W1 ⟨rfl, f⟩
  have FW := kf f hHeld.2.2
  have BX := kb f BX
  dsimp only
  refine hK.out _ _ ?_ (fun hHeld => ?_)
  · (try dsimp only); (first | (go_split_ands; exact ⟨kc f (by assumption), kc f (by assumption), by assumption⟩) | (go_split_ands; exact ⟨(by assumption), (by assumption), by assumption⟩) | (go_split_ands; exact ⟨kc (fr1 _ _) (by assumption), kc (fr1 _ _) (by assumption), kfa (by assumption)⟩))
  clear hK K
  try simp only [Act.put, List.getElem_toArray, List.getElem_cons_succ, List.getElem_cons_zero, List.setIfInBounds_toArray, List.set_cons_zero, List.set_cons_succ]
  refine wpAnyH_take (i := 6) (v := (.int .i64 (a + n - 1))) rfl (by kernel_rfl) (by kernel_rfl) (by kernel_rfl) (fun _ _ _ h => h) (Or.inl ⟨by kernel_rfl, fun w hSw => by first | (go_simp; done) | (go_simp; with_reducible rfl) | (go_simp; omega)⟩) (by assumption) ?_
  try simp only [Act.put, List.getElem_toArray, List.getElem_cons_succ, List.getElem_cons_zero, List.setIfInBounds_toArray, List.set_cons_zero, List.set_cons_succ]
  refine wpAnyH_take (i := 8) (v := (.int .i64 (F + K))) rfl (by kernel_rfl) (by kernel_rfl) (by kernel_rfl) (fun _ _ _ h => h) (Or.inl ⟨by kernel_rfl, fun w hSw => by first | (go_simp; done) | (go_simp; with_reducible rfl) | (go_simp; omega)⟩) (by assumption) ?_
  try simp only [Act.put, List.getElem_toArray, List.getElem_cons_succ, List.getElem_cons_zero, List.setIfInBounds_toArray, List.set_cons_zero, List.set_cons_succ]
  refine wpAnyH_take (i := 9) (v := ?v6) rfl (by kernel_rfl) (by kernel_rfl) (by kernel_rfl) (fun _ _ _ h => h) (Or.inl ⟨by kernel_rfl, ?y6⟩) (by assumption) ?_
  case y6 => (intro w hSw; (try dsimp only at hSw); go_simp; all_goals with_reducible rfl)
  try simp only [Act.put, List.getElem_toArray, List.getElem_cons_succ, List.getElem_cons_zero, List.setIfInBounds_toArray, List.set_cons_zero, List.set_cons_succ]
  refine wpAnyH_take (i := 10) (v := ?v7) rfl (by kernel_rfl) (by kernel_rfl) (by kernel_rfl) (fun _ _ _ h => h) (Or.inl ⟨by kernel_rfl, ?y7⟩) (by assumption) ?_
  case y7 => (intro w hSw; (try dsimp only at hSw); go_simp; all_goals with_reducible rfl)
  try simp only [Act.put, List.getElem_toArray, List.getElem_cons_succ, List.getElem_cons_zero, List.setIfInBounds_toArray, List.set_cons_zero, List.set_cons_succ]
  refine wpAnyH_done (by kernel_rfl) ?_ _
  refine NoPanic.normal ?_
  go_wp2
  go_ret
  exact .mk (RdS.nil _ _) FW.out

set_option maxRecDepth 100000 in
set_option maxHeartbeats 4000000 in
theorem split_own (a n u F : Int) (K : Nat) (w : World) (hg : Gd a n u F K) (hu : u ≤ 9223372036854775807) (hK : K < 4096) : Calls Tryd.prog 71 #[.agg #[.int .i64 a, .int .i64 n], .int .i64 u] w fun e w' => ∃ A c, e = .returned (.slice A (K + 1) c) ∧ Out (w.heap.size + 1) w' (.slice A (K + 1) c) (spl a n u F K (K + 1)) ∧ Fr No w w' := by
  obtain ⟨i0, z0, hi, hz0, hz1, hz2, hz3⟩ := info23
  have HG := hid hg
  have FW := hid (fr1 w (.cells #[.int .i64 a, .int .i64 n] 51))
  have BX := hid (Blk.new w 51 #[.int .i64 a, .int .i64 n])
  have c0 := BX.out.cell 0
  have c1 := BX.out.cell 1
  simp only [List.getElem?_toArray, List.getElem?_cons_zero, List.getElem?_cons_succ] at c0 c1
  clear hg
  have hu0 := HG.out.u1
  have hF := HG.out.hF
  have hGG := HG.out.hG
  have hb := HG.out.base
  have n0 := HG.out.n0
  obtain ⟨hb1, hb2, hb3, _, _, _, _, hb8⟩ := hb
  have hnb : (n == 0) = false := by simp; omega
  have hun : ¬ u < 1 := by omega
  have hq1 : IntKind.i64.wrap (a.tdiv u) = F := (Go.IntWalk.i64_quo a u ⟨by omega, by omega, by omega⟩).trans hF
  have hq2 : IntKind.i64.wrap ((a + n - 1).tdiv u) = F + K := (Go.IntWalk.i64_quo (a + n - 1) u ⟨by omega, by omega, by omega⟩).trans hGG
  have hw1 : IntKind.i64.wrap (a + n - 1) = a + n - 1 := by rw [IntKind.wrap_i64]; omega
  have hw2 : wrap64 (a + n - 1) = a + n - 1 := w64 _ (by omega)
  go_enter Tryd.func71, Tryd.ntmps71
  go_wp2_with fail
  refine (may_ok a n _ (wf_may HG.out.m)).mono ?_
  rintro e w1 ⟨rfl, f1⟩
  rw [decide_eq_true HG.out.m]
  have FW := kf f1 FW
  have BX := kb f1 BX
  clear f1 c0 c1
  have c0 := BX.out.cell 0
  have c1 := BX.out.cell 1
  simp only [List.getElem?_toArray, List.getElem?_cons_zero, List.getElem?_cons_succ] at c0 c1
  go_wp2_with fail
  have FW := kd FW
  refine wp_region_noPanic ?_
  refine wp_region_held_drew (S := (fun W' => W'.cell? ⟨w.heap.size, 0, none⟩ = some (.int .i64 a) ∧ W'.cell? ⟨w.heap.size, 1, none⟩ = some (.int .i64 n) ∧ Hid (Fr No w W'))) (by kernel_rfl) ?_ (fun hHeld => ?_)
  · (try dsimp only); (first | (go_split_ands; exact ⟨kc f (by assumption), kc f (by assumption), by assumption⟩) | (go_split_ands; exact ⟨(by assumption), (by assumption), by assumption⟩) | (go_split_ands; exact ⟨kc (fr1 _ _) (by assumption), kc (fr1 _ _) (by assumption), kfa (by assumption)⟩))
  refine wpAnyH_take (i := 0) (v := ?v8) rfl (by kernel_rfl) (by kernel_rfl) (by kernel_rfl) (fun _ _ _ h => h) (Or.inl ⟨by kernel_rfl, ?y8⟩) (by assumption) ?_
  case y8 => (intro w hSw; (try dsimp only at hSw); go_simp; all_goals with_reducible rfl)
  try simp only [Act.put, List.getElem_toArray, List.getElem_cons_zero, List.setIfInBounds_toArray, List.set_cons_zero, List.set_cons_succ]
  refine wpAnyH_take (i := 1) (v := ?v9) rfl (by kernel_rfl) (by kernel_rfl) (by kernel_rfl) (fun _ _ _ h => h) (Or.inl ⟨by kernel_rfl, ?y9⟩) (by assumption) ?_
  case y9 => (intro w hSw; (try dsimp only at hSw); go_simp; all_goals with_reducible rfl)
  try simp only [Act.put, List.getElem_toArray, List.getElem_cons_succ, List.getElem_cons_zero, List.setIfInBounds_toArray, List.set_cons_zero, List.set_cons_succ]
  refine wpAnyH_take (i := 2) (v := ?v10) rfl (by kernel_rfl) (by kernel_rfl) (by kernel_rfl) (fun _ _ _ h => h) (Or.inl ⟨by kernel_rfl, ?y10⟩) (by assumption) ?_
  case y10 => (intro w hSw; (try dsimp only at hSw); go_simp; all_goals with_reducible rfl)
  try simp only [Act.put, List.getElem_toArray, List.getElem_cons_succ, List.getElem_cons_zero, List.setIfInBounds_toArray, List.set_cons_zero, List.set_cons_succ]
  refine wpAnyH_take (i := 3) (v := (.int .i64 F)) rfl (by kernel_rfl) (by kernel_rfl) (by kernel_rfl) (fun _ _ _ h => h) (Or.inl ⟨by kernel_rfl, fun w hSw => by first | (go_simp; done) | (go_simp; with_reducible rfl) | (go_simp; omega)⟩) (by assumption) ?_
  try simp only [Act.put, List.getElem_toArray, List.getElem_cons_succ, List.getElem_cons_zero, List.setIfInBounds_toArray, List.set_cons_zero, List.set_cons_succ]
  refine wpAnyH_take (i := 4) (v := ?v11) rfl (by kernel_rfl) (by kernel_rfl) (by kernel_rfl) (fun _ _ _ h => h) (Or.inl ⟨by kernel_rfl, ?y11⟩) (by assumption) ?_
  case y11 => (intro w hSw; (try dsimp only at hSw); go_simp; all_goals with_reducible rfl)
  try simp only [Act.put, List.getElem_toArray, List.getElem_cons_succ, List.getElem_cons_zero, List.setIfInBounds_toArray, List.set_cons_zero, List.set_cons_succ]
  refine wpAnyH_take (i := 7) (v := ?v12) rfl (by kernel_rfl) (by kernel_rfl) (by kernel_rfl) (fun _ _ _ h => h) (Or.inl ⟨by kernel_rfl, ?y12⟩) (by assumption) ?_
  case y12 => (intro w hSw; (try dsimp only at hSw); go_simp; all_goals with_reducible rfl)
  try simp only [Act.put, List.getElem_toArray, List.getElem_cons_succ, List.getElem_cons_zero, List.setIfInBounds_toArray, List.set_cons_zero, List.set_cons_succ]
  refine wpAnyH_ready (rs := [5]) (by kernel_rfl) (by simp) (AllReadyH.cons rfl (fun K hK => ?_) AllReadyH.nil)
  go_simp
  go_at_call 70
  refine (end_may a n _ HG.out.m).mono ?_
  rintro e W1 ⟨rfl, f⟩
  have FW := kf f hHeld.2.2
  have BX := kb f BX
  dsimp only
  refine hK.out _ _ ?_ (fun hHeld => ?_)
  · (try dsimp only); (first | (go_split_ands; exact ⟨kc f (by assumption), kc f (by assumption), by assumption⟩) | (go_split_ands; exact ⟨(by assumption), (by assumption), by assumption⟩) | (go_split_ands; exact ⟨kc (fr1 _ _) (by assumption), kc (fr1 _ _) (by assumption), kfa (by assumption)⟩))
  clear hK K
  try simp only [Act.put, List.getElem_toArray, List.getElem_cons_succ, List.getElem_cons_zero, List.setIfInBounds_toArray, List.set_cons_zero, List.set_cons_succ]
  refine wpAnyH_take (i := 6) (v := (.int .i64 (a + n - 1))) rfl (by kernel_rfl) (by kernel_rfl) (by kernel_rfl) (fun _ _ _ h => h) (Or.inl ⟨by kernel_rfl, fun w hSw => by first | (go_simp; done) | (go_simp; with_reducible rfl) | (go_simp; omega)⟩) (by assumption) ?_
  try simp only [Act.put, List.getElem_toArray, List.getElem_cons_succ, List.getElem_cons_zero, List.setIfInBounds_toArray, List.set_cons_zero, List.set_cons_succ]
  refine wpAnyH_take (i := 8) (v := (.int .i64 (F + K))) rfl (by kernel_rfl) (by kernel_rfl) (by kernel_rfl) (fun _ _ _ h => h) (Or.inl ⟨by kernel_rfl, fun w hSw => by first | (go_simp; done) | (go_simp; with_reducible rfl) | (go_simp; omega)⟩) (by assumption) ?_
  try simp only [Act.put, List.getElem_toArray, List.getElem_cons_succ, List.getElem_cons_zero, List.setIfInBounds_toArray, List.set_cons_zero, List.set_cons_succ]
  refine wpAnyH_take (i := 9) (v := ?v13) rfl (by kernel_rfl) (by kernel_rfl) (by kernel_rfl) (fun _ _ _ h => h) (Or.inl ⟨by kernel_rfl, ?y13⟩) (by assumption) ?_
  case y13 => (intro w hSw; (try dsimp only at hSw); go_simp; all_goals with_reducible rfl)
  try simp only [Act.put, List.getElem_toArray, List.getElem_cons_succ, List.getElem_cons_zero, List.setIfInBounds_toArray, List.set_cons_zero, List.set_cons_succ]
  refine wpAnyH_take (i := 10) (v := ?v14) rfl (by kernel_rfl) (by kernel_rfl) (by kernel_rfl) (fun _ _ _ h => h) (Or.inl ⟨by kernel_rfl, ?y14⟩) (by assumption) ?_
  case y14 => (intro w hSw; (try dsimp only at hSw); go_simp; all_goals with_reducible rfl)
  try simp only [Act.put, List.getElem_toArray, List.getElem_cons_succ, List.getElem_cons_zero, List.setIfInBounds_toArray, List.set_cons_zero, List.set_cons_succ]
  refine wpAnyH_done (by kernel_rfl) ?_ _
  refine NoPanic.normal ?_
  clear hF hGG hq1 hq2
  have HH := hid (show w.heap.size + 1 ≤ _ from BX.out.lt)
  go_wp2_with (at_make; refine wpList_make_own _ rfl _ _ 24 rfl (w.heap.size + 1) 51 i0 z0 2 Tryd.underlying24 hi hz0 hz1 .i64 .i64 _ (K + 1) rfl rfl (by first | rfl | (push_cast; omega) | omega) (by rw [hz2]; omega) (by unfold maxLen; omega) HH.out ?_)
  intro w4 o4 gr4
  have f4 := (Fr.refl (fun q => (Value.slice none 0 0).ownBlock = some q) _).grown gr4 (fun _ hq _ => hq)
  have FW := hid (fr_own FW.out (Out.nil (w.heap.size + 1) _) (by omega) f4)
  have BX := hid (kbo BX.out (Out.nil (w.heap.size + 1) _) (by omega) f4)
  have O4 := hid (show Out (w.heap.size + 1) w4 _ [] from o4)
  clear o4 gr4 f4 HH c0 c1
  have c0 := BX.out.cell 0
  have c1 := BX.out.cell 1
  simp only [List.getElem?_toArray, List.getElem?_cons_zero, List.getElem?_cons_succ] at c0 c1
  go_wp2
  clear c0 c1
  go_loopw [7, 8, 9] (fun v fr i wr => ∃ (k : Nat) (A : Option Addr) (c : Nat), k ≤ K ∧ i = .int .i64 (F + k) ∧ fr = .int .i64 (frm a u F k) ∧ v = .slice A k c ∧ Out (w.heap.size + 1) wr v (spl a n u F K k) ∧ Fr No w wr ∧ Blk wr w.heap.size 51 #[.int .i64 a, .int .i64 n]) (fun _ _ i _ => K - (intOf i - F).toNat)
  case atStart => exact ⟨0, _, _, by omega, by simp, rfl, rfl, O4.out, FW.out, BX.out⟩
  case round =>
    obtain ⟨k, Av, cv, hk, rfl, rfl, rfl, ho, hf, hb⟩ := hrel
    have hfr := HG.out.frm_in hk
    have HK := hid hk
    have HL := hid (spl_len a n u F K k)
    by_cases hlt : k < K
    · have hmid := HG.out.mid hlt
      have hstep := step_u F u k
      have hf0 := hfr.1
      have hf1 := hfr.2.1
      have hF0 : 0 ≤ F * u := Int.mul_nonneg hb3 (by omega)
      have HLT := hid hlt
      obtain ⟨p, hp⟩ : ∃ p, frm a u F k = p := ⟨_, rfl⟩
      obtain ⟨q, hq⟩ : ∃ q, (F + k) * u + u = q := ⟨_, rfl⟩
      have hq0 : 0 ≤ q := by rw [← hq, ← hstep]; exact Int.mul_nonneg (by omega) (by omega)
      have HT := hid (show too a n u F K k = q by unfold too; rw [if_neg (by omega), hstep, hq])
      have HPC := hid (show pc a n u F K k = (p, q - p) by unfold pc; rw [HT.out, hp])
      have HNX := hid (show frm a u F (k + 1) = q by rw [← too_frm a n u F hlt, HT.out])
      rw [hp] at hf0 hf1 ⊢
      rw [hq] at hstep hmid
      have hlt3 : F + (k : Int) < F + (K : Int) := by omega
      have hm1 : IntKind.i64.wrap ((F + k + 1) * u) = q := by rw [hstep, IntKind.wrap_i64]; omega
      have hm2 : wrap64 ((F + k + 1) * u) = q := by rw [hstep]; exact w64 _ (by omega)
      have FW := hid hf
      have BX := hid hb
      have OX := hid ho
      clear hf hb ho hfr hk hlt hp
      go_wp2_with fail
      try rw [hq]
      refine (between_ok p q _ (by omega)).mono ?_
      rintro e w5 ⟨rfl, f5⟩
      have FW := kf f5 FW
      have BX := kb f5 BX
      have OX := ko f5 OX
      clear f5
      go_wp2_with (at_builtin; refine app_sp rfl (.tmp 53) (.tmp 57) rfl (w.heap.size + 1) (.slice Av k cv) (spl a n u F K k) rfl (ko (fr1 _ _) OX).out _ 1 _ [(p, q - p)] rfl (lit_rd2 _ _ _ _ (by simp)) (by rw [HL.out]; omega) (by have := BX.out.lt; simp; omega) ?_)
      intro A6 c6 w6 o6 f6
      have FW := hid (fr_own (FW.out.alloc _) (ko (fr1 _ _) OX).out (by omega) f6)
      have BX := hid (kbo (BX.out.alloc _) (ko (fr1 _ _) OX).out (by omega) f6)
      have O6 := hid (show Out (w.heap.size + 1) w6 (.slice A6 (k + 1) c6) (spl a n u F K (k + 1)) by rw [spl_succ, HPC.out]; rw [HL.out] at o6; exact o6)
      clear o6 f6
      go_wp2
      go_roundw
      case rel => exact ⟨k + 1, A6, c6, HLT.out, by first | (push_cast; rw [Int.add_assoc]) | go_num, by rw [HNX.out], by rw [HL.out], by rw [HL.out]; exact O6.out, FW.out, BX.out⟩
      case measure => have := HLT.out; simp [intOf]; omega
    · obtain rfl : k = K := by omega
      have HT := hid (show too a n u F k k = a + n by unfold too; rw [if_pos rfl])
      have hf0 := hfr.1
      have hf1 := hfr.2.1
      obtain ⟨p, hp⟩ : ∃ p, frm a u F k = p := ⟨_, rfl⟩
      have HPC := hid (show pc a n u F k k = (p, a + n - p) by unfold pc; rw [HT.out, hp])
      rw [hp] at hf0 hf1 ⊢
      have FW := hid hf
      have BX := hid hb
      have OX := hid ho
      have c0 := BX.out.cell 0
      have c1 := BX.out.cell 1
      simp only [List.getElem?_toArray, List.getElem?_cons_zero, List.getElem?_cons_succ] at c0 c1
      clear hf hb ho hfr hk hlt hp
      go_wp2_with fail
      refine (end_may a n _ HG.out.m).mono ?_
      rintro e w5 ⟨rfl, f5⟩
      have FW := kf f5 FW
      have BX := kb f5 BX
      have OX := ko f5 OX
      clear f5 c0 c1
      go_wp2_with fail
      refine (between_ok p (a + n) _ (by omega)).mono ?_
      rintro e w6 ⟨rfl, f6⟩
      have FW := kf f6 FW
      have BX := kb f6 BX
      have OX := ko f6 OX
      clear f6
      go_wp2_with (at_builtin; refine app_sp rfl (.tmp 60) (.tmp 65) rfl (w.heap.size + 1) (.slice Av k cv) (spl a n u F k k) rfl (ko (fr1 _ _) OX).out _ 1 _ [(p, a + n - p)] rfl (lit_rd2 _ _ _ _ (by simp)) (by rw [HL.out]; omega) (by have := BX.out.lt; simp; omega) ?_)
      intro A6 c6 w7 o6 f6
      have FW := hid (fr_own (FW.out.alloc _) (ko (fr1 _ _) OX).out (by omega) f6)
      have O6 := hid (show Out (w.heap.size + 1) w7 (.slice A6 (k + 1) c6) (spl a n u F k (k + 1)) by rw [spl_succ, HPC.out]; rw [HL.out] at o6; exact o6)
      clear o6 f6
      go_wp2
      go_ret
      rw [HL.out]
      exact ⟨_, _, rfl, O6.out, FW.out⟩
theorem split_ok (a n u F : Int) (K : Nat) (w : World) (hg : Gd a n u F K) (hu : u ≤ 9223372036854775807) (hK : K < 4096) : Calls Tryd.prog 71 #[.agg #[.int .i64 a, .int .i64 n], .int .i64 u] w fun e w' => RetS w w' e (spl a n u F K (K + 1)) := by
  refine (split_own a n u F K w hg hu hK).mono ?_
  rintro e w' ⟨A, c, rfl, ho, hf⟩
  exact .mk ho.rd hf
end Go.Proofs.YtkkbgbpmpcoffaaDoor.SpU
/- Contract: pieces of spans as groups, by the program: none has a sector in common with another of its own group. Conditions: the slice reads as spans that may be, of no more than some thousands of sectors each. -/
namespace Go.Proofs.YtkkbgbpmpcoffaaDoor.BtQ
open Go.RowKit MSep MSepC MSpM Kit BtA SpO
open SpA (wf w64 wf_may)
open SpU (spl Gd split_own spl_len)

def hitB (s : Sp) (l : List Sp) : Bool := l.any fun t => decide (0 < (meet s t).2)
theorem hitB_iff (s : Sp) (l : List Sp) : hitB s l = true ↔ hit s l := by
  unfold hitB hit
  simp
abbrev GS := List (List Sp) × List Sp
def gstep (st : GS) (p : Sp) : GS := if st.2.length = 8 ∨ hitB p st.2 = true then (st.1 ++ [st.2], [p]) else (st.1, st.2 ++ [p])
def gfold (st : GS) (ps : List Sp) : GS := ps.foldl gstep st
/-- How many pieces a span has, less one; the pieces; those of all spans. -/
def kk (s : Sp) : Nat := ((s.1 + s.2 - 1) / 4096 - s.1 / 4096).toNat
def cutp (s : Sp) : List Sp := spl s.1 s.2 4096 (s.1 / 4096) (kk s) (kk s + 1)
def pcs (l : List Sp) : List Sp := l.flatMap cutp
def gclose (st : GS) : List (List Sp) := if st.2 = [] then st.1 else st.1 ++ [st.2]
def gps (l : List Sp) : List (List Sp) := gclose (gfold ([], []) (pcs l))
theorem gfold_snoc (st : GS) (ps : List Sp) (p : Sp) : gfold st (ps ++ [p]) = gstep (gfold st ps) p := by
  unfold gfold
  rw [List.foldl_append]
  rfl
theorem gfold_app (st : GS) (ps qs : List Sp) : gfold st (ps ++ qs) = gfold (gfold st ps) qs := by
  unfold gfold
  rw [List.foldl_append]
theorem pcs_snoc {l : List Sp} {k : Nat} {s : Sp} (h : l[k]? = some s) : pcs (l.take (k + 1)) = pcs (l.take k) ++ cutp s := by
  unfold pcs
  rw [BtA.take_snoc h, List.flatMap_append]
  simp
/-- What a span is that is cut here. -/
def Okp (s : Sp) : Prop := may s ∧ 1 ≤ s.2 ∧ s.1 + s.2 ≤ 200000
theorem okp_gd {s : Sp} (h : Okp s) : Gd s.1 s.2 4096 (s.1 / 4096) (kk s) ∧ kk s ≤ 50 := by
  obtain ⟨h1, h2, h3⟩ := h
  have h0 : 0 ≤ s.1 := h1.1
  have hk : (kk s : Int) = (s.1 + s.2 - 1) / 4096 - s.1 / 4096 := by
    unfold kk
    omega
  refine ⟨⟨h1, by omega, by decide, rfl, by omega⟩, by omega⟩
theorem cutp_in {s : Sp} (h : Okp s) : (cutp s).length = kk s + 1 ∧ ∀ p ∈ cutp s, s.1 ≤ p.1 ∧ 1 ≤ p.2 ∧ p.1 + p.2 ≤ s.1 + s.2 ∧ p.1 / 4096 = (p.1 + p.2 - 1) / 4096 := by
  obtain ⟨hg, _⟩ := okp_gd h
  refine ⟨spl_len _ _ _ _ _ _, fun p hp => ?_⟩
  unfold cutp spl at hp
  obtain ⟨i, hi, rfl⟩ := List.mem_map.1 hp
  have hi : i ≤ kk s := by have := List.mem_range.1 hi; omega
  obtain ⟨e1, e2, e3, e4, e5, e6⟩ := hg.pc_ok hi
  have hf := hg.frm_in hi
  have ht := hg.too_in hi
  rw [e4, e5]
  refine ⟨by rw [e1]; exact hf.1, e2, by rw [e1, e6]; exact ht.2.1, rfl⟩
theorem pcs_wf {l : List Sp} (h : ∀ s ∈ l, Okp s) : ∀ p ∈ pcs l, 0 ≤ p.1 ∧ 1 ≤ p.2 ∧ p.1 + p.2 ≤ 200000 ∧ p.1 / 4096 = (p.1 + p.2 - 1) / 4096 := by
  intro p hp
  unfold pcs at hp
  obtain ⟨s, hs, hp⟩ := List.mem_flatMap.1 hp
  have h1 := h s hs
  obtain ⟨_, h2⟩ := cutp_in h1
  have h3 := h2 p hp
  have := h1.1.1
  have := h1.2.2
  omega
theorem wf_of {p : Sp} (h : 0 ≤ p.1 ∧ 1 ≤ p.2 ∧ p.1 + p.2 ≤ 200000 ∧ p.1 / 4096 = (p.1 + p.2 - 1) / 4096) : wf p := by unfold SpA.wf; omega
theorem gfold_in {P : Sp → Prop} : ∀ (ps : List Sp) (st : GS), (∀ p ∈ ps, P p) → (∀ g ∈ st.1, ∀ p ∈ g, P p) → (∀ p ∈ st.2, P p) → st.2.length ≤ 8 → (∀ g ∈ (gfold st ps).1, ∀ p ∈ g, P p) ∧ (∀ p ∈ (gfold st ps).2, P p) ∧ (gfold st ps).2.length ≤ 8
  | [], st, _, h2, h3, h4 => ⟨h2, h3, h4⟩
  | p :: ps, st, h1, h2, h3, h4 => by
    refine gfold_in ps (gstep st p) (fun q hq => h1 q (by simp [hq])) ?_ ?_ ?_
    · unfold gstep
      split
      · intro g hg q hq
        rcases List.mem_append.1 hg with hg | hg
        · exact h2 g hg q hq
        · simp only [List.mem_singleton] at hg
          subst hg
          exact h3 q hq
      · exact h2
    · unfold gstep
      split
      · intro q hq
        simp only [List.mem_singleton] at hq
        subst hq
        exact h1 q (by simp)
      · intro q hq
        rcases List.mem_append.1 hq with hq | hq
        · exact h3 q hq
        · simp only [List.mem_singleton] at hq
          subst hq
          exact h1 q (by simp)
    · unfold gstep
      split
      · simp
      · rename_i hn
        rw [List.length_append]
        have : ¬ st.2.length = 8 := fun e => hn (Or.inl e)
        simp
        omega
theorem gfold_len : ∀ (ps : List Sp) (st : GS), (gfold st ps).1.length ≤ st.1.length + ps.length
  | [], st => Nat.le_refl _
  | p :: ps, st => by
    have h1 := gfold_len ps (gstep st p)
    have h2 : (gstep st p).1.length ≤ st.1.length + 1 := by
      unfold gstep
      split <;> simp
    show (gfold (gstep st p) ps).1.length ≤ _
    rw [List.length_cons]
    omega
theorem pcs_len {l : List Sp} (h : ∀ s ∈ l, Okp s) : (pcs l).length ≤ 51 * l.length := by
  induction l with
  | nil => simp [pcs]
  | cons s l ih =>
    have h1 := ih (fun t ht => h t (by simp [ht]))
    have h2 := (cutp_in (h s (by simp))).1
    have h3 := (okp_gd (h s (by simp))).2
    have e : pcs (s :: l) = cutp s ++ pcs l := by simp [pcs]
    rw [e, List.length_append, List.length_cons]
    omega

/-- A slice; rows of slices. -/
structure SV where
  A : Option Addr
  n : Nat
  c : Nat
def SV.v (u : SV) : Value := .slice u.A u.n u.c
def Row (B : Nat) (w : World) (va : Value) (vs : List SV) : Prop := w.ownsRow B 24 1 va vs.length (vs.map SV.v)
theorem infoSSa : (Tryd.prog.info? 24).map (fun i => (i.zero, i.size, i.bytes)) = some (some (.slice none 0 0), 1, 24) := by kernel_rfl
theorem infoSS : ∃ i z, Tryd.prog.info? 24 = some i ∧ i.zero = some z ∧ i.size = 1 ∧ i.bytes = 24 ∧ z.cells.size = 1 := by
  have h := infoSSa
  cases hi : Tryd.prog.info? 24 with
  | none => rw [hi] at h; cases h
  | some i =>
    rw [hi] at h
    simp only [Option.map_some, Option.some.injEq, Prod.mk.injEq] at h
    exact ⟨i, _, rfl, h.1, h.2.1, h.2.2, rfl⟩
theorem own_at {B : Nat} {w : World} {e : TypeId} {n m : Nat} {v : Value} {xs : List Value} (h : w.ownsRow B e n v m xs) (k : Nat) (hk : v.ownBlock = some k) : (B ≤ k ∧ k < w.heap.size) ∧ ∃ cs, Blk w k e cs := by
  rcases h.2 with ⟨rfl, _⟩ | ⟨g, cap, cur, rfl, hb, hh, _⟩
  · simp [Value.ownBlock] at hk
  · simp [Value.ownBlock] at hk
    subst hk
    exact ⟨⟨hb, (Array.getElem?_eq_some_iff.1 hh).1⟩, cur, hh⟩
theorem own_apart {B B' : Nat} {w : World} {e e' : TypeId} {n n' m m' : Nat} {v v' : Value} {xs xs' : List Value} (h : w.ownsRow B e n v m xs) (h' : w.ownsRow B' e' n' v' m' xs') (hne : e ≠ e') (k : Nat) (hk : v.ownBlock = some k) : v'.ownBlock ≠ some k := by
  intro hk'
  obtain ⟨_, cs, b1⟩ := own_at h k hk
  obtain ⟨_, cs', b2⟩ := own_at h' k hk'
  exact Blk.ne_ b1 b2 hne rfl
theorem ne_t : (24 : TypeId) ≠ 51 := by decide
/-- The closed groups, and the open one. -/
structure GI (B : Nat) (w : World) (st : GS) (va vg : Value) (vs : List SV) (u : SV) : Prop where
  eg : vg = u.v
  row : Row B w va vs
  len : vs.length = st.1.length
  cl : ∀ (i : Nat) v g, vs[i]? = some v → st.1[i]? = some g → Out B w v.v g ∧ v.n = g.length
  op : Out B w vg st.2
  ln : u.n = st.2.length
  ap : ∀ v ∈ vs, ∀ q, v.v.ownBlock = some q → vg.ownBlock ≠ some q
theorem GI.mem {B : Nat} {w : World} {st : GS} {va vg : Value} {vs : List SV} {u : SV} (h : GI B w st va vg vs u) {i : Nat} {v : SV} (hv : vs[i]? = some v) : ∃ g, st.1[i]? = some g := by
  have hi := (List.getElem?_eq_some_iff.1 hv).1
  exact ⟨_, List.getElem?_eq_getElem (by rw [← h.len]; exact hi)⟩
theorem GI.fr {B : Nat} {w w' : World} {st : GS} {va vg : Value} {vs : List SV} {u : SV} (h : GI B w st va vg vs u) (f : Fr No w w') : GI B w' st va vg vs u :=
  ⟨h.eg, own_fr h.row f (fun _ _ h => h), h.len, fun i v g h1 h2 => ⟨(h.cl i v g h1 h2).1.fr f, (h.cl i v g h1 h2).2⟩, h.op.fr f, h.ln, h.ap⟩
theorem GI.app {B : Nat} {w w' : World} {st : GS} {va vg : Value} {vs : List SV} {u : SV} (h : GI B w st va vg vs u) (f : Fr (fun q => vg.ownBlock = some q) w w') (p : Sp) (u' : SV) (hn : u'.n = st.2.length + 1) (ho : Out B w' u'.v (st.2 ++ [p]))
    (hf : ∀ q, u'.v.ownBlock = some q → vg.ownBlock = some q ∨ w.heap.size ≤ q) : GI B w' (st.1, st.2 ++ [p]) va u'.v vs u' := by
  refine ⟨rfl, own_fr h.row f (fun k hk => own_apart h.row h.op ne_t k hk), h.len, fun i v g h1 h2 => ?_, ho, by rw [hn]; simp, fun v hv q hq => ?_⟩
  · obtain ⟨a, b⟩ := h.cl i v g h1 h2
    exact ⟨own_fr a f (fun k hk => h.ap v (List.mem_of_getElem? h1) k hk), b⟩
  · intro hq'
    rcases hf q hq' with h1 | h1
    · exact h.ap v hv q hq h1
    · obtain ⟨i, hi⟩ := List.mem_iff_getElem?.1 hv
      obtain ⟨g, hg⟩ := h.mem hi
      have := (own_at (h.cl i v g hi hg).1 q hq).1.2
      omega
theorem GI.close {B : Nat} {w w' : World} {st : GS} {va vg va' : Value} {vs : List SV} {u : SV} (h : GI B w st va vg vs u) (f : Fr (fun q => va.ownBlock = some q) w w') (hr : Row B w' va' (vs ++ [u])) : GI B w' (st.1 ++ [st.2], []) va' (.slice none 0 0) (vs ++ [u]) ⟨none, 0, 0⟩ := by
  refine ⟨rfl, hr, by simp [h.len], fun i v g h1 h2 => ?_, Out.nil _ _, rfl, fun v _ q _ hq => by simp [Value.ownBlock] at hq⟩
  by_cases hi : i < vs.length
  · rw [List.getElem?_append_left hi] at h1
    rw [List.getElem?_append_left (by rw [← h.len]; exact hi)] at h2
    obtain ⟨a, b⟩ := h.cl i v g h1 h2
    exact ⟨own_fr a f (fun k hk hk' => own_apart h.row a ne_t k hk' hk), b⟩
  · rw [List.getElem?_append_right (by omega)] at h1
    rw [List.getElem?_append_right (by rw [← h.len]; omega)] at h2
    have hi0 : i - vs.length = 0 := by
      have := (List.getElem?_eq_some_iff.1 h1).1
      simp at this
      omega
    rw [hi0] at h1
    rw [← h.len, hi0] at h2
    simp at h1 h2
    subst h1 h2
    refine ⟨?_, h.ln⟩
    have := h.op
    rw [h.eg] at this
    exact own_fr this f (fun k hk hk' => own_apart h.row this ne_t k hk' hk)
/-- 'all = append(all, group)'. -/
theorem app_row {w : World} {ops : Array Oper} {rest : List Oper} {o : Oper} {a : Act} {Q : Exit → Act → World → Prop} (hgd : o.guard = none) (s x : Operand)
    (ho : o.op = .call { callee := .builtin .append, args := #[s, x], argTypes := #[93, 93] })
    (B : Nat) (v : Value) (vs : List SV) (hs : a.eval s = v) (hown : Row B w v vs)
    (A : Option Addr) (c : Nat) (u : SV) (hx : a.eval x = .slice A 1 c) (hr : Rd w A 1 [u.v])
    (hlim : vs.length + 1 ≤ 1000000) (hbase : B ≤ w.heap.size)
    (h : ∀ A' c' w', Row B w' (.slice A' (vs.length + 1) c') (vs ++ [u]) → Fr (fun q => v.ownBlock = some q) w w' → wpList Tryd.prog ops Q rest (a.put o.dst (.slice A' (vs.length + 1) c')) w') :
    wpList Tryd.prog ops Q (o :: rest) a w := by
  obtain ⟨i0, z0, hi, hz0, hz1, hz2, hz3⟩ := infoSS
  refine wpList_appk 1 (by omega) hgd s x 93 ho B 24 i0 z0 24 Tryd.underlying93 hi hz0 hz1 hz2 hz3 v vs.length (vs.map SV.v) hs hown A 1 c [u.v] hx hr (by intro u hu; simp at hu; subst hu; rfl) (by simp only [maxLen]; omega) (by omega) hbase ?_
  intro A' c' w' o1 f1 _
  refine h A' c' w' ?_ f1
  unfold Row
  rw [List.length_append, List.map_append]
  exact o1
/-- 'group = append(group, piece)', and what becomes of its memory. -/
theorem app_grp {w : World} {ops : Array Oper} {rest : List Oper} {o : Oper} {a : Act} {Q : Exit → Act → World → Prop} (hgd : o.guard = none) (s x : Operand)
    (ho : o.op = .call { callee := .builtin .append, args := #[s, x], argTypes := #[24, 24] })
    (B : Nat) (v : Value) (l : List Sp) (hs : a.eval s = v) (hown : Out B w v l)
    (A : Option Addr) (c : Nat) (p : Sp) (hx : a.eval x = .slice A 1 c) (hr : RdS w A 1 [p])
    (hlim : l.length + 1 ≤ 1000000) (hbase : B ≤ w.heap.size)
    (h : ∀ A' c' w', Out B w' (.slice A' (l.length + 1) c') (l ++ [p]) → Fr (fun q => v.ownBlock = some q) w w' → (∀ q, (Value.slice A' (l.length + 1) c').ownBlock = some q → v.ownBlock = some q ∨ w.heap.size ≤ q) → wpList Tryd.prog ops Q rest (a.put o.dst (.slice A' (l.length + 1) c')) w') :
    wpList Tryd.prog ops Q (o :: rest) a w := by
  obtain ⟨i0, z0, hi, hz0, hz1, hz2, hz3⟩ := info23
  refine wpList_appk 2 (by omega) hgd s x 24 ho B 51 i0 z0 16 Tryd.underlying24 hi hz0 hz1 hz2 hz3 v l.length (cs2 l) hs hown A 1 c (cs2 [p]) hx hr.2 cs2_one (by simp only [maxLen]; omega) (by omega) hbase ?_
  intro A' c' w' o1 f1 n1
  refine h A' c' w' ?_ f1 n1
  unfold Out
  rw [List.length_append, cs2_append]
  exact o1
def RetGG (w w' : World) (e : Ending) (gs : List (List Sp)) : Prop := ∃ (A : Option Addr) (c : Nat) (vs : List SV), e = .returned (.slice A gs.length c) ∧ Rd w' A gs.length (vs.map SV.v) ∧ vs.length = gs.length ∧ (∀ (i : Nat) v g, vs[i]? = some v → gs[i]? = some g → Out w.heap.size w' v.v g ∧ v.n = g.length) ∧ Fr No w w'
/-- The outer loop; the inner one. -/
def LO (w : World) (xs : List Sp) (l : Nat) (va vg i : Value) (wr : World) : Prop := ∃ (k : Nat) (vs : List SV) (u : SV) (Aa : Option Addr) (ca : Nat), k ≤ l ∧ i = .int .i64 k ∧ va = .slice Aa vs.length ca ∧ GI w.heap.size wr (gfold ([], []) (pcs (xs.take k))) va vg vs u ∧ Fr No w wr
def LN (w : World) (st : GS) (ps : List Sp) (As : Option Addr) (cs : Nat) (va vg i : Value) (wr : World) : Prop := ∃ (j : Nat) (vs : List SV) (u : SV) (Aa : Option Addr) (ca : Nat), j ≤ ps.length ∧ i = .int .i64 j ∧ va = .slice Aa vs.length ca ∧ GI w.heap.size wr (gfold st (ps.take j)) va vg vs u ∧ Out w.heap.size wr (.slice As ps.length cs) ps ∧ (∀ q, (Value.slice As ps.length cs).ownBlock = some q → vg.ownBlock ≠ some q) ∧ Fr No w wr
end Go.Proofs.YtkkbgbpmpcoffaaDoor.BtQ
/- Contract: pieces of spans as groups, by the program. Conditions: the slice reads as spans that may be, of no more than some thousands of sectors each. -/
namespace Go.Proofs.YtkkbgbpmpcoffaaDoor.BtR
open Go.RowKit MSep MSepC MSpM Kit BtA SpO BtQ
open SpA (wf w64 wf_may)
open SpU (split_own)

theorem Out.le {B B' : Nat} {w : World} {v : Value} {l : List Sp} (h : Out B' w v l) (hb : B ≤ B') : Out B w v l := by
  refine ⟨h.1, ?_⟩
  rcases h.2 with h | ⟨g, cap, cur, h1, h2, h3⟩
  · exact Or.inl h
  · exact Or.inr ⟨g, cap, cur, h1, Nat.le_trans hb h2, h3⟩
theorem next_p (n N : Nat) (h : n < N) : N - (intOf (Value.int .i64 ((n : Int) + 1))).toNat < N - (intOf (Value.int .i64 (n : Int))).toNat := by
  show N - ((n : Int) + 1).toNat < N - (n : Int).toNat; omega
set_option maxRecDepth 100000 in
set_option maxHeartbeats 8000000 in
theorem groups_ok (A : Option Addr) (l c : Nat) (xs : List Sp) (w : World) (hl : l ≤ 100) (hx : RdS w A l xs) (hok : ∀ s ∈ xs, Okp s) :
    Calls Tryd.prog 47 #[.slice A l c] w fun e w' => RetGG w w' e (gps xs) := by
  have HX := hid hx
  have HL := hid hl
  have HK := hid hok
  have HXL := hid hx.1
  have HPW := hid (pcs_wf hok)
  have HPL := hid (pcs_len hok)
  have HTK := hid (show ∀ k, (∀ p ∈ pcs (xs.take k), 0 ≤ p.1 ∧ 1 ≤ p.2 ∧ p.1 + p.2 ≤ 200000 ∧ p.1 / 4096 = (p.1 + p.2 - 1) / 4096) ∧ (pcs (xs.take k)).length ≤ 51 * k from fun k => by
    have h : ∀ s ∈ xs.take k, Okp s := fun s hs => hok s (List.mem_of_mem_take hs)
    refine ⟨pcs_wf h, ?_⟩
    have := pcs_len h
    rw [List.length_take] at this
    omega)
  clear hx hl hok
  go_enter Tryd.func47, Tryd.ntmps47
  go_wp2
  go_loopw [3, 4, 11] (fun va vg i wr => LO w xs l va vg i wr) (fun _ _ i _ => l - (intOf i).toNat)
  case atStart => exact ⟨0, [], ⟨none, 0, 0⟩, none, 0, by omega, rfl, rfl, ⟨rfl, World.ownsRow_nil w _ _ 1, rfl, (fun i v g h => by simp at h), Out.nil _ _, rfl, (fun v h => by cases h)⟩, Fr.refl _ _⟩
  case round =>
    obtain ⟨wx, hwx⟩ : ∃ wx : World, wx = wr := ⟨_, rfl⟩
    subst hwx
    obtain ⟨k, vs, u, Aa, ca, hk, rfl, rfl, hg, hf⟩ := hrel
    obtain ⟨uA, un, uc⟩ := u
    have hge := hg.eg
    obtain ⟨rfl⟩ : u4 = .slice uA un uc := hge
    have HG := hid hg
    have HF := hid hf
    have HVW := hid (show vs.length ≤ 6000 from by
      have h1 := gfold_len (pcs (xs.take k)) ([], [])
      have h2 := (HTK.out k).2
      have h3 := hg.len
      have h4 := HL.out
      simp only [List.length_nil, Nat.zero_add] at h1
      omega)
    by_cases hlt : k < l
    · obtain ⟨⟨a, n⟩, hxk⟩ : ∃ x, xs[k]? = some x := ⟨_, List.getElem?_eq_getElem (by rw [HXL.out]; exact hlt)⟩
      have hko := HK.out _ (List.mem_of_getElem? hxk)
      obtain ⟨hgd, hk50⟩ := okp_gd hko
      obtain ⟨hcl, hci⟩ := cutp_in hko
      obtain ⟨g, o, rfl, hgg, hc⟩ := (HX.out.fr hf).at_ (by omega)
      obtain ⟨e0, e1⟩ := hc k _ hxk
      simp only [] at e0 e1
      have hlt3 : (k : Int) < l := by omega
      have h0k : (0 : Int) ≤ k := by omega
      have hw1 : wrap64 ((k : Int) + 1) = (k : Int) + 1 := by have := HL.out; exact w64 _ (by omega)
      have HPS := hid (pcs_snoc hxk)
      obtain ⟨D, hD⟩ : ∃ D, wx.heap.size = D := ⟨_, rfl⟩
      obtain ⟨w3, hw3⟩ : ∃ w3, wx.alloc (.cells #[.int .i64 a, .int .i64 n] 51) = w3 := ⟨_, rfl⟩
      have HB3 : Blk w3 D 51 #[.int .i64 a, .int .i64 n] := by rw [← hw3, ← hD]; exact Blk.new _ _ _
      have d0 : w3.cell? ⟨D, 0, none⟩ = some (.int .i64 a) := HB3.cell 0
      have d1 : w3.cell? ⟨D, 1, none⟩ = some (.int .i64 n) := HB3.cell 1
      replace HG := hid (show GI w.heap.size w3 _ _ _ _ _ by rw [← hw3]; exact hg.fr (fr1 _ _))
      replace HF := hid (show Fr No w w3 by rw [← hw3]; exact hf.alloc _)
      have HSP := hid (fun W => split_own a n 4096 (a / 4096) (kk (a, n)) W hgd (by decide) (by omega))
      have HCL := hid hcl
      have HCI := hid (show ∀ p ∈ cutp (a, n), wf p from fun p hp => by
        have h1 := hci p hp
        have h2 := hko.1.1
        have h3 := hko.2.2
        dsimp only at h1 h2 h3
        unfold SpA.wf
        omega)
      have HKK := hid hk50
      have HW3 := hid hw3
      clear hc hgg hxk hw3 hg hf hko hgd hcl hci hk50 HB3
      go_upto_region 6 with fail
      try rw [HW3.out]
      try rw [hD]
      clear e0 e1
      go_upto_region 7 with (go_at_call 71; go_loud (refine (HSP.out _).mono ?_; rintro e w4 ⟨As, cs, rfl, hos, f4⟩))
      obtain ⟨ps, hps⟩ : ∃ ps, cutp (a, n) = ps := ⟨_, rfl⟩
      have hos : Out (w3.heap.size + 1) w4 (.slice As (kk (a, n) + 1) cs) ps := by rw [← hps]; exact hos
      rw [hps] at HCL HCI HPS
      have HCL' := HCL.out
      rw [← HCL'] at hos ⊢
      rw [show ((kk (a, n) : Nat) : Int) + 1 = (ps.length : Int) by rw [HCL.out]; rfl]
      have HPN := hid (show ps.length ≤ 51 by rw [HCL.out]; have := HKK.out; omega)
      have HSZ3 := hid HF.out.size
      have HS4 := hid (Out.le hos (show w.heap.size ≤ w3.heap.size + 1 by have := HSZ3.out; omega))
      have HN4 := hid (show ∀ q, (Value.slice As ps.length cs).ownBlock = some q → (Value.slice uA un uc).ownBlock ≠ some q from fun q h h' => by
        have h1 := (own_at hos q h).1.1
        have h2 := (own_at HG.out.op q h').1.2
        omega)
      replace HG := hid (HG.out.fr f4)
      replace HF := hid (HF.out.trans f4)
      obtain ⟨st, hst⟩ : ∃ st, gfold ([], []) (pcs (xs.take k)) = st := ⟨_, rfl⟩
      rw [hst] at HG
      have HST := hid hst
      have HSI := hid (show (∀ g ∈ st.1, ∀ p ∈ g, wf p) ∧ (∀ p ∈ st.2, wf p) ∧ st.2.length ≤ 8 from by
        rw [← hst]
        exact gfold_in (P := wf) _ _ (fun p hp => wf_of ((HTK.out k).1 p hp)) (by simp) (by simp) (by simp))
      have HSL0 := hid (show st.1.length ≤ 5100 from by
        rw [← hst]
        have h1 := gfold_len (pcs (xs.take k)) ([], [])
        have h2 := (HTK.out k).2
        have h3 := HL.out
        simp only [List.length_nil, Nat.zero_add] at h1
        omega)
      clear hos f4 hps hst HSP d0 d1 HCL'
      go_wp2
      go_loopw [3, 4, 18] (fun va vg i wr => LN w st ps As cs va vg i wr) (fun _ _ i _ => ps.length - (intOf i).toNat)
      case atStart => exact ⟨0, vs, ⟨uA, un, uc⟩, Aa, ca, by omega, rfl, rfl, by simpa [gfold] using HG.out, HS4.out, HN4.out, HF.out⟩
      case round =>
        clear HG HF HS4 HN4 HVW
        obtain ⟨j, vs, u, Aa, ca, hj, rfl, rfl, hg, hos, hsn, hf⟩ := hrel
        obtain ⟨uA, un, uc⟩ := u
        obtain ⟨rfl⟩ : u4 = .slice uA un uc := hg.eg
        have hln : un = (gfold st (ps.take j)).2.length := hg.ln
        have hgi := gfold_in (P := wf) (ps.take j) st (fun p hp => HCI.out p (List.mem_of_mem_take hp)) HSI.out.1 HSI.out.2.1 HSI.out.2.2
        have hgl := gfold_len (ps.take j) st
        rw [List.length_take] at hgl
        have hvl := hg.len
        by_cases hjt : j < ps.length
        · obtain ⟨⟨p0, p1⟩, hpj⟩ : ∃ x, ps[j]? = some x := ⟨_, List.getElem?_eq_getElem hjt⟩
          have HWP := hid (HCI.out _ (List.mem_of_getElem? hpj))
          have HNX := hid (show gfold st (ps.take (j + 1)) = gstep (gfold st (ps.take j)) (p0, p1) by rw [BtA.take_snoc hpj, gfold_snoc])
          obtain ⟨g', o', rfl, hgs, hc⟩ := (Out.rd hos).at_ (by omega)
          obtain ⟨e0, e1⟩ := hc j _ hpj
          simp only [] at e0 e1
          obtain ⟨⟨all, grp⟩, hst2⟩ : ∃ st2, gfold st (ps.take j) = st2 := ⟨_, rfl⟩
          rw [hst2] at hg hln hgi hgl hvl HNX
          dsimp only at hln hgi hgl hvl
          have hjt3 : (j : Int) < ps.length := by omega
          have h0j : (0 : Int) ≤ j := by omega
          have hw2 : wrap64 ((j : Int) + 1) = (j : Int) + 1 := by have := HPN.out; exact w64 _ (by omega)
          obtain ⟨E, hE⟩ : ∃ E, wr.heap.size = E := ⟨_, rfl⟩
          obtain ⟨w5, hw5⟩ : ∃ w5, wr.alloc (Obj.cells #[.int .i64 p0, .int .i64 p1] 51) = w5 := ⟨_, rfl⟩
          have f5 : Fr No wr w5 := by rw [← hw5]; exact fr1 _ _
          have HE5 := hid (show Blk w5 E 51 #[.int .i64 p0, .int .i64 p1] by rw [← hw5, ← hE]; exact Blk.new _ _ _)
          have HGE := hid (show (∀ q, (Value.slice Aa vs.length ca).ownBlock = some q → q < E) ∧ ∀ q, (Value.slice uA un uc).ownBlock = some q → q < E by
            rw [← hE]
            exact ⟨fun q h => (own_at hg.row q h).1.2, fun q h => (own_at hg.op q h).1.2⟩)
          have HG5 := hid (hg.fr f5)
          have HS5 := hid (show Out w.heap.size w5 (.slice (some ⟨g', o', none⟩) ps.length cs) ps from own_fr hos f5 (fun _ _ h => h))
          have HSN := hid hsn
          have HF5 := hid (hf.trans f5)
          have d0 : w5.cell? ⟨E, 0, none⟩ = some (.int .i64 p0) := HE5.out.cell 0
          have d1 : w5.cell? ⟨E, 1, none⟩ = some (.int .i64 p1) := HE5.out.cell 1
          have HLN := hid hln
          have HGI := hid hgi
          have HJT := hid hjt
          have HVL := hid (show vs.length ≤ 6000 from by rw [hvl]; exact Nat.le_trans hgl (Nat.le_trans (Nat.add_le_add HSL0.out (Nat.le_trans (Nat.min_le_right _ _) HPN.out)) (by decide)))
          have HW5 := hid hw5
          have hun8 : un ≤ 8 := by rw [hln]; exact hgi.2.2
          clear hc hgs hpj hw5 hg hos hsn hf f5 hst2 hgi hgl hvl hln
          go_upto_region 9 with fail
          try rw [HW5.out]
          try rw [hE]
          clear e0 e1 HW5
          by_cases h8 : un = 8
          · have h8b : ((un : Int) == 8) = true := by rw [h8]; rfl
            have HST2 := hid (show gstep (all, grp) (p0, p1) = (all ++ [grp], [(p0, p1)]) by unfold gstep; rw [if_pos (Or.inl (by dsimp only; rw [← HLN.out]; exact h8))])
            clear h8
            go_upto_region 10 with fail
            have HR1 := hid (Rd.one w5 (SV.v ⟨uA, un, uc⟩) 24)
            have HGR := hid (HG5.out.fr (fr1 w5 (.cells #[SV.v ⟨uA, un, uc⟩] 24)))
            have HRL := hid HGR.out.row
            have HSR := hid (show Out w.heap.size (w5.alloc (.cells #[SV.v ⟨uA, un, uc⟩] 24)) (.slice (some ⟨g', o', none⟩) ps.length cs) ps from own_fr HS5.out (fr1 w5 _) (fun _ _ h => h))
            have HFR := hid (HF5.out.alloc (.cells #[SV.v ⟨uA, un, uc⟩] 24))
            have HER := hid (Blk.alloc HE5.out (.cells #[SV.v ⟨uA, un, uc⟩] 24))
            go_upto_region 11 with (at_builtin; go_loud (refine app_row rfl (.tmp 30) (.tmp 32) rfl w.heap.size (.slice Aa vs.length ca) vs rfl HRL.out (some ⟨w5.heap.size, 0, none⟩) 1 ⟨uA, un, uc⟩ rfl HR1.out (by have := HVL.out; omega) HFR.out.size ?_; intro A8 c8 w8 hr8 f8; have HG8 := hid (GI.close HGR.out f8 hr8); have HS8 := hid (show Out w.heap.size w8 (.slice (some ⟨g', o', none⟩) ps.length cs) ps from own_fr HSR.out f8 (fun q h h' => own_apart HRL.out HSR.out ne_t q h' h)); have HF8 := hid (HFR.out.step f8 (fun i hi h => by have := (own_at HRL.out i h).1.1; omega)); have HE8 := hid (Blk.fr HER.out f8 (fun h => absurd (HGE.out.1 E h) (Nat.lt_irrefl _))); clear hr8 f8))
            have HN8 := hid (show ∀ q, (Value.slice (some ⟨g', o', none⟩) ps.length cs).ownBlock = some q → (Value.slice none 0 0).ownBlock ≠ some q from fun q _ h => by simp [Value.ownBlock] at h)
            have d0 : w8.cell? ⟨E, 0, none⟩ = some (.int .i64 p0) := HE8.out.cell 0
            have d1 : w8.cell? ⟨E, 1, none⟩ = some (.int .i64 p1) := HE8.out.cell 1
            have HLP := hid (lit_rd w8 p0 p1)
            have HGL := hid (HG8.out.fr (fr1 w8 (.cells #[.int .i64 p0, .int .i64 p1] 51)))
            have HSL := hid (show Out w.heap.size (w8.alloc (.cells #[.int .i64 p0, .int .i64 p1] 51)) (.slice (some ⟨g', o', none⟩) ps.length cs) ps from own_fr HS8.out (fr1 w8 (.cells #[.int .i64 p0, .int .i64 p1] 51)) (fun _ _ h => h))
            have HFL := hid (HF8.out.alloc (.cells #[.int .i64 p0, .int .i64 p1] 51))
            have HLM := hid (show ([] : List Sp).length + 1 ≤ 1000000 by simp)
            go_wp2_with (at_builtin; go_loud (refine app_grp rfl (.tmp 34) (.tmp 36) rfl w.heap.size (.slice none 0 0) ([] : List Sp) rfl HGL.out.op (some ⟨w8.heap.size, 0, none⟩) 1 (p0, p1) rfl HLP.out HLM.out HFL.out.size ?_; intro A7 c7 w7 ho7 f7 n7; have HG7 := hid (GI.app HGL.out f7 (p0, p1) ⟨A7, ([] : List Sp).length + 1, c7⟩ rfl ho7 n7); have HS7 := hid (show Out w.heap.size w7 (.slice (some ⟨g', o', none⟩) ps.length cs) ps from own_fr HSL.out f7 (fun q h => HN8.out q h)); have HN7 := hid (show ∀ q, (Value.slice (some ⟨g', o', none⟩) ps.length cs).ownBlock = some q → (Value.slice A7 (([] : List Sp).length + 1) c7).ownBlock ≠ some q from fun q h h' => by rcases n7 q h' with h1 | h1; exact HN8.out q h h1; (have := (own_at HSL.out q h).1.2; omega)); have HF7 := hid (HFL.out.step f7 (fun i hi h => by have := (own_at HGL.out.op i h).1.1; omega)); clear ho7 f7 n7 d0 d1))
            go_roundw
            case rel => (try refine ⟨_, _, _, ?_, rfl, rfl, rfl⟩); exact ⟨j + 1, (vs ++ [⟨uA, un, uc⟩]), ⟨A7, ([] : List Sp).length + 1, c7⟩, A8, c8, Nat.succ_le_of_lt HJT.out, by go_num, by simp, by rw [HNX.out, HST2.out]; exact HG7.out, HS7.out, HN7.out, HF7.out⟩
            case measure => first | exact next_m _ _ HJT.out hw2 | exact next_p _ _ HJT.out
          · have h8b : ((un : Int) == 8) = false := by simp; omega
            by_cases hh : hit (p0, p1) grp
            · have HST2 := hid (show gstep (all, grp) (p0, p1) = (all ++ [grp], [(p0, p1)]) by unfold gstep; rw [if_pos (Or.inr ((hitB_iff _ _).2 hh))])
              have HHH := hid hh
              clear hh
              go_upto_region 10 with (go_at_call 59; go_loud (refine (meets_ok uA un uc grp p0 p1 true _ (by omega) (Out.rd HG5.out.op) HGI.out.2.1 HWP.out ⟨fun _ => HHH.out, fun _ => rfl⟩).mono ?_; rintro e w6 ⟨rfl, f6⟩; have HG6 := hid (HG5.out.fr f6); have HS6 := hid (show Out w.heap.size w6 (.slice (some ⟨g', o', none⟩) ps.length cs) ps from own_fr HS5.out f6 (fun _ _ h => h)); have HF6 := hid (HF5.out.trans f6); have HE6 := hid (Blk.fr HE5.out f6 (fun h => h)); clear f6 d0 d1))
              have HR1 := hid (Rd.one w6 (SV.v ⟨uA, un, uc⟩) 24)
              have HGR := hid (HG6.out.fr (fr1 w6 (.cells #[SV.v ⟨uA, un, uc⟩] 24)))
              have HRL := hid HGR.out.row
              have HSR := hid (show Out w.heap.size (w6.alloc (.cells #[SV.v ⟨uA, un, uc⟩] 24)) (.slice (some ⟨g', o', none⟩) ps.length cs) ps from own_fr HS6.out (fr1 w6 _) (fun _ _ h => h))
              have HFR := hid (HF6.out.alloc (.cells #[SV.v ⟨uA, un, uc⟩] 24))
              have HER := hid (Blk.alloc HE6.out (.cells #[SV.v ⟨uA, un, uc⟩] 24))
              go_upto_region 11 with (at_builtin; go_loud (refine app_row rfl (.tmp 30) (.tmp 32) rfl w.heap.size (.slice Aa vs.length ca) vs rfl HRL.out (some ⟨w6.heap.size, 0, none⟩) 1 ⟨uA, un, uc⟩ rfl HR1.out (by have := HVL.out; omega) HFR.out.size ?_; intro A8 c8 w8 hr8 f8; have HG8 := hid (GI.close HGR.out f8 hr8); have HS8 := hid (show Out w.heap.size w8 (.slice (some ⟨g', o', none⟩) ps.length cs) ps from own_fr HSR.out f8 (fun q h h' => own_apart HRL.out HSR.out ne_t q h' h)); have HF8 := hid (HFR.out.step f8 (fun i hi h => by have := (own_at HRL.out i h).1.1; omega)); have HE8 := hid (Blk.fr HER.out f8 (fun h => absurd (HGE.out.1 E h) (Nat.lt_irrefl _))); clear hr8 f8))
              have HN8 := hid (show ∀ q, (Value.slice (some ⟨g', o', none⟩) ps.length cs).ownBlock = some q → (Value.slice none 0 0).ownBlock ≠ some q from fun q _ h => by simp [Value.ownBlock] at h)
              have d0 : w8.cell? ⟨E, 0, none⟩ = some (.int .i64 p0) := HE8.out.cell 0
              have d1 : w8.cell? ⟨E, 1, none⟩ = some (.int .i64 p1) := HE8.out.cell 1
              have HLP := hid (lit_rd w8 p0 p1)
              have HGL := hid (HG8.out.fr (fr1 w8 (.cells #[.int .i64 p0, .int .i64 p1] 51)))
              have HSL := hid (show Out w.heap.size (w8.alloc (.cells #[.int .i64 p0, .int .i64 p1] 51)) (.slice (some ⟨g', o', none⟩) ps.length cs) ps from own_fr HS8.out (fr1 w8 (.cells #[.int .i64 p0, .int .i64 p1] 51)) (fun _ _ h => h))
              have HFL := hid (HF8.out.alloc (.cells #[.int .i64 p0, .int .i64 p1] 51))
              have HLM := hid (show ([] : List Sp).length + 1 ≤ 1000000 by simp)
              go_wp2_with (at_builtin; go_loud (refine app_grp rfl (.tmp 34) (.tmp 36) rfl w.heap.size (.slice none 0 0) ([] : List Sp) rfl HGL.out.op (some ⟨w8.heap.size, 0, none⟩) 1 (p0, p1) rfl HLP.out HLM.out HFL.out.size ?_; intro A7 c7 w7 ho7 f7 n7; have HG7 := hid (GI.app HGL.out f7 (p0, p1) ⟨A7, ([] : List Sp).length + 1, c7⟩ rfl ho7 n7); have HS7 := hid (show Out w.heap.size w7 (.slice (some ⟨g', o', none⟩) ps.length cs) ps from own_fr HSL.out f7 (fun q h => HN8.out q h)); have HN7 := hid (show ∀ q, (Value.slice (some ⟨g', o', none⟩) ps.length cs).ownBlock = some q → (Value.slice A7 (([] : List Sp).length + 1) c7).ownBlock ≠ some q from fun q h h' => by rcases n7 q h' with h1 | h1; exact HN8.out q h h1; (have := (own_at HSL.out q h).1.2; omega)); have HF7 := hid (HFL.out.step f7 (fun i hi h => by have := (own_at HGL.out.op i h).1.1; omega)); clear ho7 f7 n7 d0 d1))
              go_roundw
              case rel => (try refine ⟨_, _, _, ?_, rfl, rfl, rfl⟩); exact ⟨j + 1, (vs ++ [⟨uA, un, uc⟩]), ⟨A7, ([] : List Sp).length + 1, c7⟩, A8, c8, Nat.succ_le_of_lt HJT.out, by go_num, by simp, by rw [HNX.out, HST2.out]; exact HG7.out, HS7.out, HN7.out, HF7.out⟩
              case measure => first | exact next_m _ _ HJT.out hw2 | exact next_p _ _ HJT.out
            · have HST2 := hid (show gstep (all, grp) (p0, p1) = (all, grp ++ [(p0, p1)]) by unfold gstep; rw [if_neg (fun h => by rcases h with h | h; (dsimp only at h; rw [← HLN.out] at h; exact h8 h); exact hh ((hitB_iff _ _).1 h))])
              have HHH := hid hh
              clear hh
              go_upto_region 12 with (go_at_call 59; go_loud (refine (meets_ok uA un uc grp p0 p1 false _ (by omega) (Out.rd HG5.out.op) HGI.out.2.1 HWP.out ⟨(fun h => Bool.noConfusion h), fun h => absurd h HHH.out⟩).mono ?_; rintro e w6 ⟨rfl, f6⟩; have HG6 := hid (HG5.out.fr f6); have HS6 := hid (show Out w.heap.size w6 (.slice (some ⟨g', o', none⟩) ps.length cs) ps from own_fr HS5.out f6 (fun _ _ h => h)); have HF6 := hid (HF5.out.trans f6); have HE6 := hid (Blk.fr HE5.out f6 (fun h => h)); clear f6 d0 d1))
              have d0 : w6.cell? ⟨E, 0, none⟩ = some (.int .i64 p0) := HE6.out.cell 0
              have d1 : w6.cell? ⟨E, 1, none⟩ = some (.int .i64 p1) := HE6.out.cell 1
              have HLP := hid (lit_rd w6 p0 p1)
              have HGL := hid (HG6.out.fr (fr1 w6 (.cells #[.int .i64 p0, .int .i64 p1] 51)))
              have HSL := hid (show Out w.heap.size (w6.alloc (.cells #[.int .i64 p0, .int .i64 p1] 51)) (.slice (some ⟨g', o', none⟩) ps.length cs) ps from own_fr HS6.out (fr1 w6 (.cells #[.int .i64 p0, .int .i64 p1] 51)) (fun _ _ h => h))
              have HFL := hid (HF6.out.alloc (.cells #[.int .i64 p0, .int .i64 p1] 51))
              have HLM := hid (show grp.length + 1 ≤ 1000000 by rw [← HLN.out]; omega)
              go_wp2_with (at_builtin; go_loud (refine app_grp rfl (.tmp 34) (.tmp 36) rfl w.heap.size (.slice uA un uc) grp rfl HGL.out.op (some ⟨w6.heap.size, 0, none⟩) 1 (p0, p1) rfl HLP.out HLM.out HFL.out.size ?_; intro A7 c7 w7 ho7 f7 n7; have HG7 := hid (GI.app HGL.out f7 (p0, p1) ⟨A7, grp.length + 1, c7⟩ rfl ho7 n7); have HS7 := hid (show Out w.heap.size w7 (.slice (some ⟨g', o', none⟩) ps.length cs) ps from own_fr HSL.out f7 (fun q h => HSN.out q h)); have HN7 := hid (show ∀ q, (Value.slice (some ⟨g', o', none⟩) ps.length cs).ownBlock = some q → (Value.slice A7 (grp.length + 1) c7).ownBlock ≠ some q from fun q h h' => by rcases n7 q h' with h1 | h1; exact HSN.out q h h1; (have := (own_at HSL.out q h).1.2; omega)); have HF7 := hid (HFL.out.step f7 (fun i hi h => by have := (own_at HGL.out.op i h).1.1; omega)); clear ho7 f7 n7 d0 d1))
              go_roundw
              case rel => (try refine ⟨_, _, _, ?_, rfl, rfl, rfl⟩); exact ⟨j + 1, vs, ⟨A7, grp.length + 1, c7⟩, Aa, ca, Nat.succ_le_of_lt HJT.out, by go_num, rfl, by rw [HNX.out, HST2.out]; exact HG7.out, HS7.out, HN7.out, HF7.out⟩
              case measure => first | exact next_m _ _ HJT.out hw2 | exact next_p _ _ HJT.out
        · obtain rfl : j = ps.length := by omega
          rw [List.take_length] at hg hgl
          have HGZ := hid (show GI w.heap.size wr (gfold ([], []) (pcs (xs.take (k + 1)))) (.slice Aa vs.length ca) (.slice uA un uc) vs ⟨uA, un, uc⟩ by rw [HPS.out, gfold_app, HST.out]; exact hg)
          have HFZ := hid hf
          clear hg hos hsn hf hln hgi hgl hvl
          go_wp2
          go_roundw
          case rel => (try refine ⟨_, _, _, ?_, rfl, rfl, rfl⟩); exact ⟨k + 1, vs, ⟨uA, un, uc⟩, Aa, ca, by omega, by go_num, rfl, HGZ.out, HFZ.out⟩
          case measure => first | exact next_m _ _ hlt hw1 | exact next_p _ _ hlt
    · obtain rfl : k = l := by omega
      have HEQ := hid (show gps xs = gclose (gfold ([], []) (pcs (xs.take k))) by unfold gps; rw [List.take_of_length_le (by rw [HXL.out]; exact Nat.le_refl _)])
      obtain ⟨⟨all, grp⟩, hst2⟩ : ∃ st2, gfold ([], []) (pcs (xs.take k)) = st2 := ⟨_, rfl⟩
      rw [hst2] at HG HEQ
      have hln : un = grp.length := HG.out.ln
      have hvl : vs.length = all.length := HG.out.len
      have HLN := hid (And.intro hln hvl)
      by_cases h0 : un = 0
      · have h0b : decide ((0 : Int) < (un : Int)) = false := decide_eq_false (by omega)
        have hgr : grp = [] := List.eq_nil_of_length_eq_zero (by omega)
        have HE2 := hid (show gps xs = all by rw [HEQ.out]; unfold gclose; rw [if_pos hgr])
        clear hst2 hg hf hln hvl hgr
        subst h0
        go_wp2
        go_ret
        exact ⟨Aa, ca, vs, by rw [HE2.out, HLN.out.2]; rfl, by rw [HE2.out, ← HLN.out.2]; exact Rd.own HG.out.row, by rw [HE2.out]; exact HLN.out.2, by rw [HE2.out]; exact HG.out.cl, HF.out⟩
      · have h0c : (0 : Int) < (un : Int) := by omega
        have h0b : decide ((0 : Int) < (un : Int)) = true := decide_eq_true h0c
        have h0d : 0 < un := by omega
        have hgr : ¬ grp = [] := fun h => by rw [h] at hln; exact h0 hln
        have HE2 := hid (show gps xs = all ++ [grp] by rw [HEQ.out]; unfold gclose; rw [if_neg hgr])
        have HR1 := hid (Rd.one wx (SV.v ⟨uA, un, uc⟩) 24)
        have HGR := hid (HG.out.fr (fr1 wx (.cells #[SV.v ⟨uA, un, uc⟩] 24)))
        have HRL := hid HGR.out.row
        have HFR := hid (HF.out.alloc (.cells #[SV.v ⟨uA, un, uc⟩] 24))
        clear hst2 hg hf hln hvl hgr
        go_wp2_with (at_builtin; go_loud (refine app_row rfl (.tmp 43) (.tmp 45) rfl w.heap.size (.slice Aa vs.length ca) vs rfl HRL.out (some ⟨wx.heap.size, 0, none⟩) 1 ⟨uA, un, uc⟩ rfl HR1.out (by have := HVW.out; omega) HFR.out.size ?_; intro A8 c8 w8 hr8 f8; have HRW := hid hr8; have HG8 := hid (GI.close HGR.out f8 hr8); have HF8 := hid (HFR.out.step f8 (fun i hi h => by have := (own_at HRL.out i h).1.1; omega)); clear hr8 f8))
        go_ret
        have hlen : (vs ++ [(⟨uA, un, uc⟩ : SV)]).length = vs.length + 1 := by simp
        have hall : (all ++ [grp]).length = vs.length + 1 := by rw [List.length_append, HLN.out.2]; rfl
        refine ⟨A8, c8, vs ++ [⟨uA, un, uc⟩], by rw [HE2.out, hall]; rfl, ?_, by rw [HE2.out, hall]; exact hlen, by rw [HE2.out]; exact HG8.out.cl, HF8.out⟩
        rw [HE2.out, hall, ← hlen]
        have hrow := HRW.out
        rw [← hlen] at hrow
        exact Rd.own hrow
end Go.Proofs.YtkkbgbpmpcoffaaDoor.BtR
/- Contracts: spans as batches of nothing, by the program. Conditions: the slice reads as spans, no more than a hundred; all numbers are 64 bits. -/
namespace Go.Proofs.YtkkbgbpmpcoffaaDoor.BtS
open Go.RowKit MSep MSepC MSpM MGeM Kit BtA SpO BtQ BtR
open BtM (okS_may)
open SpA (wf w64)
open GeA (bg BG ld_geom)

/-- The cells of the i-th batch of nothing; of all from the i-th on. -/
def hb (seq : Int) (i : Nat) (v : SV) : List Value := [.int .i64 (wrap64 (seq + i)), .int .i64 2, v.v]
def hbs (seq : Int) : Nat → List SV → List Value
  | _, [] => []
  | i, v :: vs => hb seq i v ++ hbs seq (i + 1) vs
theorem hbs_snoc (seq : Int) (v : SV) : ∀ (vs : List SV) (i : Nat), hbs seq i (vs ++ [v]) = hbs seq i vs ++ hb seq (i + vs.length) v
  | [], i => by simp [hbs]
  | u :: vs, i => by
    show hb seq i u ++ hbs seq (i + 1) (vs ++ [v]) = hb seq i u ++ hbs seq (i + 1) vs ++ hb seq (i + (vs.length + 1)) v
    rw [hbs_snoc seq v vs (i + 1), List.append_assoc, show i + 1 + vs.length = i + (vs.length + 1) by omega]
theorem hbs_one (seq : Int) : ∀ (vs : List SV) (i : Nat), ∀ u ∈ hbs seq i vs, u.oneCell' = true
  | [], _ => by simp [hbs]
  | v :: vs, i => by
    intro u hu
    rw [hbs, List.mem_append] at hu
    rcases hu with hu | hu
    · simp [hb] at hu
      rcases hu with rfl | rfl | rfl <;> rfl
    · exact hbs_one seq vs (i + 1) u hu
theorem hbs_get (seq : Int) : ∀ (vs : List SV) (i k : Nat) (v : SV), vs[k]? = some v → (hbs seq i vs)[k * 3]? = some (.int .i64 (wrap64 (seq + (i + k : Nat)))) ∧ (hbs seq i vs)[k * 3 + 1]? = some (.int .i64 2) ∧ (hbs seq i vs)[k * 3 + 2]? = some v.v
  | [], _, _, _, h => by simp at h
  | u :: vs, i, 0, v, h => by
    simp at h
    subst h
    simp [hbs, hb]
  | u :: vs, i, k + 1, v, h => by
    have := hbs_get seq vs (i + 1) k v (by simpa using h)
    rw [show i + 1 + k = i + (k + 1) by omega] at this
    rw [show (k + 1) * 3 = k * 3 + 1 + 1 + 1 by omega]
    simpa [hbs, hb] using this
theorem infoBa : (Tryd.prog.info? 26).map (fun i => (i.zero, i.size, i.bytes)) = some (some (.agg #[.int .i64 0, .int .i64 0, .slice none 0 0]), 3, 40) := by kernel_rfl
theorem infoB3 : ∃ i z, Tryd.prog.info? 26 = some i ∧ i.zero = some z ∧ i.size = 3 ∧ i.bytes = 40 ∧ z.cells.size = 3 := by
  have h := infoBa
  cases hi : Tryd.prog.info? 26 with
  | none => rw [hi] at h; cases h
  | some i =>
    rw [hi] at h
    simp only [Option.map_some, Option.some.injEq, Prod.mk.injEq] at h
    exact ⟨i, _, rfl, h.1, h.2.1, h.2.2, rfl⟩
def RowB (B : Nat) (w : World) (va : Value) (seq : Int) (vs : List SV) : Prop := w.ownsRow B 26 3 va vs.length (hbs seq 0 vs)
theorem app_bt {w : World} {ops : Array Oper} {rest : List Oper} {o : Oper} {a : Act} {Q : Exit → Act → World → Prop} (hgd : o.guard = none) (s x : Operand)
    (ho : o.op = .call { callee := .builtin .append, args := #[s, x], argTypes := #[54, 54] })
    (B : Nat) (va : Value) (seq : Int) (vs : List SV) (hs : a.eval s = va) (hown : RowB B w va seq vs)
    (A : Option Addr) (c : Nat) (v : SV) (hx : a.eval x = .slice A 1 c) (hr : Rd w A 3 (hb seq vs.length v))
    (hlim : vs.length + 1 ≤ 1000000) (hbase : B ≤ w.heap.size)
    (h : ∀ A' c' w', RowB B w' (.slice A' (vs.length + 1) c') seq (vs ++ [v]) → Fr (fun q => va.ownBlock = some q) w w' → wpList Tryd.prog ops Q rest (a.put o.dst (.slice A' (vs.length + 1) c')) w') :
    wpList Tryd.prog ops Q (o :: rest) a w := by
  obtain ⟨i0, z0, hi, hz0, hz1, hz2, hz3⟩ := infoB3
  refine wpList_appk 3 (by omega) hgd s x 54 ho B 26 i0 z0 40 Tryd.underlying54 hi hz0 hz1 hz2 hz3 va vs.length (hbs seq 0 vs) hs hown A 1 c (hb seq vs.length v) hx hr (by intro u hu; simp [hb] at hu; rcases hu with rfl | rfl | rfl <;> rfl) (by simp only [maxLen]; omega) (by omega) hbase ?_
  intro A' c' w' o1 f1 _
  refine h A' c' w' ?_ f1
  unfold RowB
  rw [List.length_append, hbs_snoc, Nat.zero_add]
  exact o1
theorem own_rd3 {B : Nat} {w : World} {A : Option Addr} {n c : Nat} {seq : Int} {vs : List SV} (h : RowB B w (.slice A n c) seq vs) (hn : vs.length = n) : Rd w A (n * 3) (hbs seq 0 vs) := by
  subst hn
  refine ⟨by simpa using h.1, fun hn => ?_⟩
  rcases h.2 with ⟨_, h0⟩ | ⟨g, cap, cur, hv, hb, hg, hnc, hcm, hcs, htake⟩
  · rw [h0] at hn
    simp at hn
  · injection hv with h1 h2 h3
    subst h1
    refine ⟨g, 0, rfl, (Array.getElem?_eq_some_iff.1 hg).1, fun j u hu => ?_⟩
    rw [Nat.zero_add, cell_of_row w g j cur 26 (0, 0) hg]
    rw [← htake, List.getElem?_take] at hu
    split at hu
    · simpa using hu
    · cases hu
/-- A number that may not be. -/
def badS (seq : Int) (m : Nat) : Prop := 0 < m ∧ (seq < 1 ∨ 1099511627776 - ((m : Int) - 1) < seq)
def RetHo (w w' : World) (E : Ending) (seq : Int) (gs : List (List Sp)) : Prop := ((badS seq gs.length ∧ E = .returned (.tuple #[.slice none 0 0, .int .i64 1])) ∨ (¬ badS seq gs.length ∧ ∃ (A : Option Addr) (c : Nat) (vs : List SV), E = .returned (.tuple #[.slice A gs.length c, .int .i64 0]) ∧ Rd w' A (gs.length * 3) (hbs seq 0 vs) ∧ vs.length = gs.length ∧ ∀ (i : Nat) v g, vs[i]? = some v → gs[i]? = some g → RdS w' v.A v.n g ∧ v.n = g.length ∧ v.n ≤ v.c)) ∧ Fr No w w'
theorem out_lim {B : Nat} {w : World} {u : SV} {l : List Sp} (h : Out B w u.v l) : RdS w u.A u.n l ∧ u.n ≤ u.c := by
  refine ⟨Out.rd h, ?_⟩
  rcases h.2 with ⟨hv, h0⟩ | ⟨g, cap, cur, hv, hb, hg, hnc, hcm, hcs, htake⟩
  · injection hv with h1 h2 h3
    omega
  · injection hv with h1 h2 h3
    omega
set_option maxRecDepth 100000 in
set_option maxHeartbeats 4000000 in
theorem holes_geom (gc gs gn gl gk seq : Int) (A : Option Addr) (l c : Nat) (w : World) (hs : r64 gs) (hm : ¬ mayG ⟨gc, gs, gn, gl, gk⟩) :
    Calls Tryd.prog 19 #[.agg #[.int .i64 gc, .int .i64 gs, .int .i64 gn, .int .i64 gl, .int .i64 gk], .int .i64 seq, .slice A l c] w fun E w' => E = .returned (.tuple #[.slice none 0 0, .int .i64 70]) ∧ Fr No w w' := by
  obtain ⟨G, hG⟩ : ∃ G, w.heap.size = G := ⟨_, rfl⟩
  obtain ⟨w1, hw1⟩ : ∃ w1, w.alloc (bg gc gs gn gl gk) = w1 := ⟨_, rfl⟩
  have FG := hid (show Fr No w w1 by rw [← hw1]; exact fr1 _ _)
  have P0 := hid (show BG w1 G gc gs gn gl gk by rw [← hw1, ← hG]; exact BG.new w gc gs gn gl gk)
  have HS := hid hs
  have HW1 := hid hw1
  clear hs hw1
  have HM := hid hm
  clear hm
  go_enter Tryd.func19, Tryd.ntmps19
  go_upto_region 1 with fail
  try rw [show w.alloc (Obj.cells #[.int .i64 gc, .int .i64 gs, .int .i64 gn, .int .i64 gl, .int .i64 gk] 23) = w1 from HW1.out]
  try rw [hG]
  go_wp2_with (first | ((with_reducible refine ld_geom rfl (.tmp 3) rfl G ?_ P0.out ?_); · rfl) | (go_at_call 22; refine (GeC.may_ok gc gs gn gl gk _ HS.out).mono ?_; rintro e w2 ⟨rfl, f2⟩; rw [decide_eq_false HM.out]; replace FG := hid (FG.out.trans f2); clear f2))
  go_ret2
  exact ⟨rfl, FG.out⟩
set_option maxRecDepth 100000 in
set_option maxHeartbeats 8000000 in
theorem holes_range (gc gs gn gl gk seq : Int) (A : Option Addr) (l c : Nat) (xs : List Sp) (w : World) (hs : r64 gs) (hm : mayG ⟨gc, gs, gn, gl, gk⟩) (hl : l ≤ 100) (hx : RdS w A l xs) (hw : ∀ s ∈ xs, wf s) (hno : ¬ ∀ s ∈ xs, cko ⟨gc, gs, gn, gl, gk⟩ s.1 s.2 = 0) :
    Calls Tryd.prog 19 #[.agg #[.int .i64 gc, .int .i64 gs, .int .i64 gn, .int .i64 gl, .int .i64 gk], .int .i64 seq, .slice A l c] w fun E w' => E = .returned (.tuple #[.slice none 0 0, .int .i64 71]) ∧ Fr No w w' := by
  obtain ⟨G, hG⟩ : ∃ G, w.heap.size = G := ⟨_, rfl⟩
  obtain ⟨w1, hw1⟩ : ∃ w1, w.alloc (bg gc gs gn gl gk) = w1 := ⟨_, rfl⟩
  have FG := hid (show Fr No w w1 by rw [← hw1]; exact fr1 _ _)
  have P0 := hid (show BG w1 G gc gs gn gl gk by rw [← hw1, ← hG]; exact BG.new w gc gs gn gl gk)
  have HS := hid hs
  have HW1 := hid hw1
  clear hs hw1
  have HM := hid hm
  have HX := hid hx
  have HW := hid hw
  have HL := hid hl
  have HXL := hid hx.1
  have HNO := hid hno
  clear hm hx hw hl hno
  go_enter Tryd.func19, Tryd.ntmps19
  go_upto_region 1 with fail
  try rw [show w.alloc (Obj.cells #[.int .i64 gc, .int .i64 gs, .int .i64 gn, .int .i64 gl, .int .i64 gk] 23) = w1 from HW1.out]
  try rw [hG]
  go_upto_region 4 with (first | ((with_reducible refine ld_geom rfl (.tmp 3) rfl G ?_ P0.out ?_); · rfl) | (go_at_call 22; refine (GeC.may_ok gc gs gn gl gk _ HS.out).mono ?_; rintro e w2 ⟨rfl, f2⟩; rw [decide_eq_true HM.out]; replace FG := hid (FG.out.trans f2); replace P0 := hid (P0.out.fr f2); clear f2))
  go_loopw [19] (fun i wr => ∃ k : Nat, k ≤ l ∧ i = .int .i64 k ∧ (∀ s ∈ xs.take k, cko ⟨gc, gs, gn, gl, gk⟩ s.1 s.2 = 0) ∧ Fr No w2 wr) (fun i _ => l - (intOf i).toNat)
  case atStart => exact ⟨0, by omega, rfl, by simp, Fr.refl _ _⟩
  case round =>
    obtain ⟨k, hk, rfl, hall, hf⟩ := hrel
    by_cases hlt : k < l
    · obtain ⟨⟨a, n⟩, hxk⟩ : ∃ x, xs[k]? = some x := ⟨_, List.getElem?_eq_getElem (by rw [HXL.out]; exact hlt)⟩
      have HXK := hid hxk
      have HWK := hid (HW.out _ (List.mem_of_getElem? hxk))
      obtain ⟨g, o, rfl, hgg, hc⟩ := (HX.out.fr (FG.out.trans hf)).at_ (by omega)
      obtain ⟨e0, e1⟩ := hc k _ hxk
      simp only [] at e0 e1
      have hlt3 : (k : Int) < l := by omega
      have h0k : (0 : Int) ≤ k := by omega
      have hw1 : wrap64 ((k : Int) + 1) = (k : Int) + 1 := by have := HL.out; exact w64 _ (by omega)
      obtain ⟨D, hD⟩ : ∃ D, wr.heap.size = D := ⟨_, rfl⟩
      obtain ⟨w3, hw3⟩ : ∃ w3, wr.alloc (.cells #[.int .i64 a, .int .i64 n] 51) = w3 := ⟨_, rfl⟩
      have HB3 : Blk w3 D 51 #[.int .i64 a, .int .i64 n] := by rw [← hw3, ← hD]; exact Blk.new _ _ _
      have d0 : w3.cell? ⟨D, 0, none⟩ = some (.int .i64 a) := HB3.cell 0
      have d1 : w3.cell? ⟨D, 1, none⟩ = some (.int .i64 n) := HB3.cell 1
      have HF3 := hid (show Fr No w2 w3 by rw [← hw3]; exact hf.alloc _)
      have HP3 := hid (BG.fr P0.out HF3.out)
      have HALL := hid hall
      have HW3 := hid hw3
      obtain ⟨E0, hE0⟩ : ∃ E0, cko ⟨gc, gs, gn, gl, gk⟩ a n = E0 := ⟨_, rfl⟩
      have HCK := hid hE0
      clear hc hgg hxk hw3 hf hall HB3
      go_upto_region 6 with fail
      try rw [HW3.out]
      try rw [hD]
      clear e0 e1
      by_cases hc0 : E0 = 0
      · subst hc0
        clear hE0
        have HNX := hid (show ∀ s ∈ xs.take (k + 1), cko ⟨gc, gs, gn, gl, gk⟩ s.1 s.2 = 0 from fun s hs => by
          rw [BtA.take_snoc HXK.out, List.mem_append] at hs
          rcases hs with hs | hs
          · exact HALL.out s hs
          · simp only [List.mem_singleton] at hs
            subst hs
            exact HCK.out)
        go_wp2_with (first | ((with_reducible refine ld_geom rfl (.tmp 3) rfl G ?_ HP3.out ?_); · rfl) | (go_at_call 46; refine (GeF.check_ok gc gs gn gl gk a n _ HS.out HWK.out).mono ?_; rintro e w4 ⟨rfl, f4⟩; rw [HCK.out]; have HF4 := hid (HF3.out.trans f4); clear f4 d0 d1))
        go_roundw
        case rel => exact ⟨k + 1, by omega, by go_num, HNX.out, HF4.out⟩
        case measure => first | exact next_m _ _ hlt hw1 | exact next_p _ _ hlt
      · have hcb : (E0 == 0) = false := by simpa using hc0
        have hcb2 : (E0 != 0) = true := by rw [bne, hcb]; rfl
        have h71 : E0 = 71 := by
          have h1 := HCK.out
          unfold cko at h1
          rw [if_pos HM.out] at h1
          split at h1 <;> omega
        subst h71
        clear hE0
        go_wp2_with (first | ((with_reducible refine ld_geom rfl (.tmp 3) rfl G ?_ HP3.out ?_); · rfl) | (go_at_call 46; refine (GeF.check_ok gc gs gn gl gk a n _ HS.out HWK.out).mono ?_; rintro e w4 ⟨rfl, f4⟩; rw [HCK.out]; have HF4 := hid (HF3.out.trans f4); clear f4 d0 d1))
        go_ret2
        exact ⟨rfl, FG.out.trans HF4.out⟩
    · obtain rfl : k = l := by omega
      exact absurd (fun s hs => hall s (by rw [List.take_of_length_le (by rw [HXL.out]; exact Nat.le_refl _)]; exact hs)) HNO.out
set_option maxRecDepth 100000 in
set_option maxHeartbeats 8000000 in
theorem holes_ok (gc gs gn gl gk seq : Int) (A : Option Addr) (l c : Nat) (xs : List Sp) (w : World) (hs : r64 gs) (hm : mayG ⟨gc, gs, gn, gl, gk⟩) (hl : l ≤ 100) (hx : RdS w A l xs) (hw : ∀ s ∈ xs, wf s) (hq : r64 seq) (hok : ∀ s ∈ xs, cko ⟨gc, gs, gn, gl, gk⟩ s.1 s.2 = 0) :
    Calls Tryd.prog 19 #[.agg #[.int .i64 gc, .int .i64 gs, .int .i64 gn, .int .i64 gl, .int .i64 gk], .int .i64 seq, .slice A l c] w fun E w' => RetHo w w' E seq (gps xs) := by
  obtain ⟨G, hG⟩ : ∃ G, w.heap.size = G := ⟨_, rfl⟩
  obtain ⟨w1, hw1⟩ : ∃ w1, w.alloc (bg gc gs gn gl gk) = w1 := ⟨_, rfl⟩
  have FG := hid (show Fr No w w1 by rw [← hw1]; exact fr1 _ _)
  have P0 := hid (show BG w1 G gc gs gn gl gk by rw [← hw1, ← hG]; exact BG.new w gc gs gn gl gk)
  have HS := hid hs
  have HW1 := hid hw1
  clear hs hw1
  have HM := hid hm
  have HX := hid hx
  have HW := hid hw
  have HL := hid hl
  have HXL := hid hx.1
  have HNO := hid hok
  have HQ := hid hq
  have HOP := hid (show ∀ s ∈ xs, Okp s from fun s hs => by
    have h1 := hok s hs
    unfold cko at h1
    rw [if_pos hm] at h1
    by_cases hc : (0 ≤ s.1 ∧ 0 ≤ s.2 ∧ s.1 + s.2 ≤ 1099511627776) ∧ s.2 ≠ 0 ∧ s.1 + s.2 ≤ (lay ⟨gc, gs, gn, gl, gk⟩).t
    · have h2 := (good hm.1).t2
      exact ⟨hc.1, by omega, by omega⟩
    · rw [if_neg hc] at h1
      omega)
  have HGPL := hid (show (gps xs).length ≤ 6000 from by
    have h1 := pcs_len HOP.out
    have h2 := gfold_len (pcs xs) ([], [])
    have h3 := HXL.out
    simp only [List.length_nil, Nat.zero_add] at h2
    have h4 : (gps xs).length ≤ (gfold ([], []) (pcs xs)).1.length + 1 := by
      unfold gps gclose
      split <;> simp
    omega)
  obtain ⟨Gs, hgp⟩ : ∃ q, gps xs = q := ⟨_, rfl⟩
  rw [hgp] at HGPL ⊢
  have HGP := hid hgp
  clear hm hx hw hl hok hq hgp
  go_enter Tryd.func19, Tryd.ntmps19
  go_upto_region 1 with fail
  try rw [show w.alloc (Obj.cells #[.int .i64 gc, .int .i64 gs, .int .i64 gn, .int .i64 gl, .int .i64 gk] 23) = w1 from HW1.out]
  try rw [hG]
  go_upto_region 4 with (first | ((with_reducible refine ld_geom rfl (.tmp 3) rfl G ?_ P0.out ?_); · rfl) | (go_at_call 22; refine (GeC.may_ok gc gs gn gl gk _ HS.out).mono ?_; rintro e w2 ⟨rfl, f2⟩; rw [decide_eq_true HM.out]; replace FG := hid (FG.out.trans f2); replace P0 := hid (P0.out.fr f2); clear f2))
  go_loopw [19] (fun i wr => ∃ k : Nat, k ≤ l ∧ i = .int .i64 k ∧ (∀ s ∈ xs.take k, cko ⟨gc, gs, gn, gl, gk⟩ s.1 s.2 = 0) ∧ Fr No w2 wr) (fun i _ => l - (intOf i).toNat)
  case atStart => exact ⟨0, by omega, rfl, by simp, Fr.refl _ _⟩
  case round =>
    obtain ⟨k, hk, rfl, hall, hf⟩ := hrel
    by_cases hlt : k < l
    · obtain ⟨⟨a, n⟩, hxk⟩ : ∃ x, xs[k]? = some x := ⟨_, List.getElem?_eq_getElem (by rw [HXL.out]; exact hlt)⟩
      have HXK := hid hxk
      have HWK := hid (HW.out _ (List.mem_of_getElem? hxk))
      obtain ⟨g, o, rfl, hgg, hc⟩ := (HX.out.fr (FG.out.trans hf)).at_ (by omega)
      obtain ⟨e0, e1⟩ := hc k _ hxk
      simp only [] at e0 e1
      have hlt3 : (k : Int) < l := by omega
      have h0k : (0 : Int) ≤ k := by omega
      have hw1 : wrap64 ((k : Int) + 1) = (k : Int) + 1 := by have := HL.out; exact w64 _ (by omega)
      obtain ⟨D, hD⟩ : ∃ D, wr.heap.size = D := ⟨_, rfl⟩
      obtain ⟨w3, hw3⟩ : ∃ w3, wr.alloc (.cells #[.int .i64 a, .int .i64 n] 51) = w3 := ⟨_, rfl⟩
      have HB3 : Blk w3 D 51 #[.int .i64 a, .int .i64 n] := by rw [← hw3, ← hD]; exact Blk.new _ _ _
      have d0 : w3.cell? ⟨D, 0, none⟩ = some (.int .i64 a) := HB3.cell 0
      have d1 : w3.cell? ⟨D, 1, none⟩ = some (.int .i64 n) := HB3.cell 1
      have HF3 := hid (show Fr No w2 w3 by rw [← hw3]; exact hf.alloc _)
      have HP3 := hid (BG.fr P0.out HF3.out)
      have HALL := hid hall
      have HW3 := hid hw3
      obtain ⟨E0, hE0⟩ : ∃ E0, cko ⟨gc, gs, gn, gl, gk⟩ a n = E0 := ⟨_, rfl⟩
      have HCK := hid hE0
      clear hc hgg hxk hw3 hf hall HB3
      go_upto_region 6 with fail
      try rw [HW3.out]
      try rw [hD]
      clear e0 e1
      by_cases hc0 : E0 = 0
      · subst hc0
        clear hE0
        have HNX := hid (show ∀ s ∈ xs.take (k + 1), cko ⟨gc, gs, gn, gl, gk⟩ s.1 s.2 = 0 from fun s hs => by
          rw [BtA.take_snoc HXK.out, List.mem_append] at hs
          rcases hs with hs | hs
          · exact HALL.out s hs
          · simp only [List.mem_singleton] at hs
            subst hs
            exact HCK.out)
        go_wp2_with (first | ((with_reducible refine ld_geom rfl (.tmp 3) rfl G ?_ HP3.out ?_); · rfl) | (go_at_call 46; refine (GeF.check_ok gc gs gn gl gk a n _ HS.out HWK.out).mono ?_; rintro e w4 ⟨rfl, f4⟩; rw [HCK.out]; have HF4 := hid (HF3.out.trans f4); clear f4 d0 d1))
        go_roundw
        case rel => exact ⟨k + 1, by omega, by go_num, HNX.out, HF4.out⟩
        case measure => first | exact next_m _ _ hlt hw1 | exact next_p _ _ hlt
      · exact absurd (HCK.out.symm.trans (HNO.out _ (List.mem_of_getElem? HXK.out))) hc0
    · obtain rfl : k = l := by omega
      have HFA := hid (FG.out.trans hf)
      have HGC := hid (groups_ok A k c xs wr HL.out (HX.out.fr HFA.out) HOP.out)
      clear hf hall P0
      obtain ⟨wx, hwx⟩ : ∃ wx : World, wx = wr := ⟨_, rfl⟩
      subst hwx
      go_upto_region 12 with (go_at_call 47; go_loud (refine HGC.out.mono ?_; rintro e w4 ⟨Ag, cg, vs, rfl, hrd, hvl, hcl, f4⟩))
      rw [HGP.out] at hrd hvl hcl ⊢
      have HGL := HGPL.out
      obtain ⟨m, hm⟩ : ∃ m, Gs.length = m := ⟨_, rfl⟩
      have HMM := hid hm
      rw [hm] at hrd hvl HGL ⊢
      have HRD := hid hrd
      have HVL := hid hvl
      have HCL := hid hcl
      have HFB := hid (HFA.out.trans f4)
      have HF4 := hid f4
      have HMB := hid HGL
      clear hrd hvl hcl f4 hm HGC HFA HGL
      try simp only [HMM.out]
      go_loopw [11, 33] (fun va i wr => ∃ (k : Nat) (A' : Option Addr) (c' : Nat), k ≤ m ∧ i = .int .i64 k ∧ va = .slice A' k c' ∧ RowB w4.heap.size wr va seq (vs.take k) ∧ Fr No w4 wr) (fun _ i _ => m - (intOf i).toNat)
      case atStart => exact ⟨0, none, 0, by omega, rfl, rfl, World.ownsRow_nil w4 _ _ 3, Fr.refl _ _⟩
      case round =>
        obtain ⟨j, A', c', hj, rfl, rfl, ho, hf⟩ := hrel
        have hkl : (vs.take j).length = j := by rw [List.length_take, HVL.out]; omega
        by_cases hjt : j < m
        · obtain ⟨v, hv⟩ : ∃ v, vs[j]? = some v := ⟨_, List.getElem?_eq_getElem (by rw [HVL.out]; exact hjt)⟩
          obtain ⟨g', o', rfl, _, hc⟩ := (HRD.out.fr hf (fun _ _ _ h => h)).2 (by omega)
          have cv : wr.cell? ⟨g', o' + j, none⟩ = some (.slice v.A v.n v.c) := hc j v.v (by rw [List.getElem?_map, hv]; rfl)
          have hjt3 : (j : Int) < m := by omega
          have h0j : (0 : Int) ≤ j := by omega
          have hw2 : wrap64 ((j : Int) + 1) = (j : Int) + 1 := by have := HMB.out; exact w64 _ (by omega)
          have HSN := hid (BtA.take_snoc hv)
          have HKL := hid hkl
          have HOL := hid (show RowB w4.heap.size (wr.alloc (.cells #[.int .i64 (wrap64 (seq + j)), .int .i64 2, .slice v.A v.n v.c] 26)) (.slice A' j c') seq (vs.take j) from own_fr ho (fr1 _ _) (fun _ _ h => h))
          have HFL := hid (hf.alloc (.cells #[.int .i64 (wrap64 (seq + j)), .int .i64 2, .slice v.A v.n v.c] 26))
          have HLB := hid (show Rd (wr.alloc (.cells #[.int .i64 (wrap64 (seq + j)), .int .i64 2, .slice v.A v.n v.c] 26)) (some ⟨wr.heap.size, 0, none⟩) 3 (hb seq (vs.take j).length v) by rw [hkl]; exact Rd.lit wr [.int .i64 (wrap64 (seq + j)), .int .i64 2, .slice v.A v.n v.c] 26)
          have HLM := hid (show (vs.take j).length + 1 ≤ 1000000 by rw [hkl]; exact Nat.le_trans (Nat.succ_le_of_lt hjt) (Nat.le_trans HMB.out (by decide)))
          clear hc hv ho hf hkl
          go_wp2_with (at_builtin; go_loud (refine app_bt rfl (.tmp 37) (.tmp 44) rfl w4.heap.size (.slice A' j c') seq (vs.take j) rfl HOL.out (some ⟨wr.heap.size, 0, none⟩) 1 v rfl HLB.out HLM.out HFL.out.size ?_; intro A8 c8 w8 ho8 f8; rw [HKL.out] at ho8 ⊢; have HO8 := hid ho8; have HF8 := hid (HFL.out.step f8 (fun i hi h => by have := (own_at HOL.out i h).1.1; omega)); clear ho8 f8))
          go_roundw
          case rel => exact ⟨j + 1, A8, c8, by omega, by go_num, rfl, by rw [HSN.out]; exact HO8.out, HF8.out⟩
          case measure => first | exact next_m _ _ hjt hw2 | exact next_p _ _ hjt
        · obtain rfl : j = m := by omega
          have HO := hid (show RowB w4.heap.size wr (.slice A' j c') seq vs by have := ho; rwa [List.take_of_length_le (by rw [HVL.out]; exact Nat.le_refl _)] at this)
          have HF := hid hf
          clear ho hf hkl
          by_cases h0 : j = 0
          · have h0b : decide ((0 : Int) < (j : Int)) = false := decide_eq_false (by omega)
            have HBD := hid (show ¬ badS seq Gs.length from fun h => by have := h.1; rw [HMM.out] at this; omega)
            have hj0 : ¬ (0 : Int) < (j : Int) := by omega
            subst h0
            go_wp2
            go_ret2
            refine ⟨Or.inr ⟨HBD.out, A', c', vs, by rw [HMM.out]; rfl, by rw [HMM.out]; exact own_rd3 HO.out HVL.out, by rw [HMM.out]; exact HVL.out, fun i v g h1 h2 => ?_⟩, HFB.out.trans HF.out⟩
            obtain ⟨ho, hn⟩ := HCL.out i v g h1 h2
            obtain ⟨h3, h4⟩ := out_lim (own_fr ho HF.out (fun _ _ h => h))
            exact ⟨h3, hn, h4⟩
          · have h0c : (0 : Int) < (j : Int) := by omega
            have h0d : 0 < j := by omega
            have h0b : decide ((0 : Int) < (j : Int)) = true := decide_eq_true h0c
            have hwA : wrap64 ((j : Int) - 1) = (j : Int) - 1 := w64 _ (by have := HMB.out; omega)
            have hwB : wrap64 (1099511627776 - ((j : Int) - 1)) = 1099511627776 - ((j : Int) - 1) := w64 _ (by have := HMB.out; omega)
            by_cases h1 : seq < 1
            · have h1b : decide (seq < 1) = true := decide_eq_true h1
              have HBD := hid (show badS seq Gs.length from ⟨by rw [HMM.out]; exact h0d, Or.inl h1⟩)
              go_wp2
              go_ret2
              exact ⟨Or.inl ⟨HBD.out, rfl⟩, HFB.out.trans HF.out⟩
            · have h1b : decide (seq < 1) = false := decide_eq_false h1
              by_cases h2 : 1099511627776 - ((j : Int) - 1) < seq
              · have h2b : decide (1099511627776 - ((j : Int) - 1) < seq) = true := decide_eq_true h2
                have HBD := hid (show badS seq Gs.length from ⟨by rw [HMM.out]; exact h0d, Or.inr (by rw [HMM.out]; exact h2)⟩)
                go_wp2
                go_ret2
                exact ⟨Or.inl ⟨HBD.out, rfl⟩, HFB.out.trans HF.out⟩
              · have h2b : decide (1099511627776 - ((j : Int) - 1) < seq) = false := decide_eq_false h2
                have HBD := hid (show ¬ badS seq Gs.length from fun h => by rcases h.2 with q | q; exact h1 q; (rw [HMM.out] at q; exact h2 q))
                go_wp2
                go_ret2
                refine ⟨Or.inr ⟨HBD.out, A', c', vs, by rw [HMM.out]; rfl, by rw [HMM.out]; exact own_rd3 HO.out HVL.out, by rw [HMM.out]; exact HVL.out, fun i v g h1 h2 => ?_⟩, HFB.out.trans HF.out⟩
                obtain ⟨ho, hn⟩ := HCL.out i v g h1 h2
                obtain ⟨h3, h4⟩ := out_lim (own_fr ho HF.out (fun _ _ h => h))
                exact ⟨h3, hn, h4⟩
end Go.Proofs.YtkkbgbpmpcoffaaDoor.BtS
