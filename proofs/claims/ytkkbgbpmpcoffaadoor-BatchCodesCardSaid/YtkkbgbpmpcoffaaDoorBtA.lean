/- Contracts: whether one of the spans has a sector in common with a span; how many sectors a batch has. Conditions: the slice reads as spans; all numbers are 64 bits. -/
import Derived.Test.YtkkbgbpmpcoffaaDoorBtM
import Derived.Test.YtkkbgbpmpcoffaaDoorSpD
import Derived.Test.YtkkbgbpmpcoffaaDoorGeF
import Derived.Test.YtkkbgbpmpcoffaaDoorKit
import Derived.Deep.DeepCutAuto
import Derived.BigQuiet
namespace Go.Proofs.YtkkbgbpmpcoffaaDoor.BtA
open Go.RowKit MSep MSepC MSpM MGeM SpA SpB BtM

def r64 (n : Int) : Prop := -9223372036854775808 ≤ n ∧ n ≤ 9223372036854775807
theorem next_m (n N : Nat) (h : n < N) (hw : wrap64 ((n : Int) + 1) = (n : Int) + 1) : N - (intOf (Value.int .i64 (wrap64 ((n : Int) + 1)))).toNat < N - (intOf (Value.int .i64 (n : Int))).toNat := by
  rw [hw]; show N - ((n : Int) + 1).toNat < N - (n : Int).toNat; omega
theorem take_snoc {α : Type} {xs : List α} {k : Nat} {s : α} (h : xs[k]? = some s) : xs.take (k + 1) = xs.take k ++ [s] := by
  rw [List.take_add_one, h]
  rfl
abbrev sv (s : Sp) : Value := .agg #[.int .i64 s.1, .int .i64 s.2]
/-- One of the spans has a sector in common with s. -/
def hit (s : Sp) (l : List Sp) : Prop := ∃ t ∈ l, 0 < (meet s t).2
set_option maxRecDepth 100000 in
theorem meets1_ok (a n b m : Int) (v : Bool) (B : Nat) (w : World) (ha : wf (a, n)) (hb : wf (b, m)) (c0 : w.cell? ⟨B, 0, none⟩ = some (.int .i64 b)) (c1 : w.cell? ⟨B, 1, none⟩ = some (.int .i64 m)) (hv : v = decide (0 < (meet (b, m) (a, n)).2)) :
    Calls Tryd.prog 76 #[.agg #[.int .i64 a, .int .i64 n], .pointer (some ⟨B, 0, none⟩)] w fun e w' => e = .returned (.bool v) ∧ Fr No w w' := by
  have HA := hid ha
  have HB := hid hb
  have HV := hid hv
  have FW := hid (fr1 w (.cells #[.int .i64 a, .int .i64 n] 51))
  have d0 := fun o => (fr1 w o).cell_some c0 (fun h => h)
  have d1 := fun o => (fr1 w o).cell_some c1 (fun h => h)
  have hfd : ∀ (A D : Int) (w : World), (Instr.field 51 (.agg #[.int .i64 A, .int .i64 D]) 1).run Tryd.prog w = .ok (.int .i64 D) w := fun _ _ _ => by kernel_rfl
  clear ha hb hv c0 c1
  go_enter Tryd.func76, Tryd.ntmps76
  go_wp2_with (go_at_call 77; refine (meet_ok b m a n _ HB.out HA.out).mono ?_; rintro e w1 ⟨rfl, f1⟩; replace FW := hid (FW.out.trans f1); clear f1)
  go_ret
  exact ⟨congrArg (fun b => Ending.returned (.bool b)) HV.out.symm, FW.out⟩
set_option maxRecDepth 100000 in
set_option maxHeartbeats 2000000 in
theorem index_ok (A : Option Addr) (l c : Nat) (xs : List Sp) (b m : Int) (B : Nat) (w : World) (hl : l ≤ 140737488355328) (hx : RdS w A l xs) (hw : ∀ s ∈ xs, wf s) (hb : wf (b, m)) (c0 : w.cell? ⟨B, 0, none⟩ = some (.int .i64 b)) (c1 : w.cell? ⟨B, 1, none⟩ = some (.int .i64 m)) :
    Calls Tryd.prog 82 #[.slice A l c, .func (.func 76) #[] #[.pointer (some ⟨B, 0, none⟩)]] w fun e w' => (∃ j : Int, e = .returned (.int .i64 j) ∧ (0 ≤ j ↔ hit (b, m) xs)) ∧ Fr No w w' := by
  have HX := hid hx
  have HW := hid hw
  have HB := hid hb
  have HL := hid hl
  have HC := hid (And.intro c0 c1)
  clear hx hw c0 c1 hb hl
  go_enter Tryd.func82, Tryd.ntmps82
  go_wp2
  go_loopw [8] (fun i wr => ∃ k : Nat, k ≤ l ∧ i = .int .i64 k ∧ ¬ hit (b, m) (xs.take k) ∧ Fr No w wr) (fun i _ => l - (intOf i).toNat)
  case atStart => exact ⟨0, by omega, rfl, (fun ⟨_, h, _⟩ => by simp at h), Fr.refl _ _⟩
  case round =>
    obtain ⟨k, hk, rfl, hno, hf⟩ := hrel
    by_cases hlt : k < l
    · have hk1 : k < xs.length := by rw [HX.out.1]; exact hlt
      obtain ⟨⟨a, n⟩, hx⟩ : ∃ x, xs[k]? = some x := ⟨_, List.getElem?_eq_getElem hk1⟩
      have HXk := hid hx
      have HWk := hid (HW.out _ (List.mem_of_getElem? hx))
      obtain ⟨g, o, rfl, hg, hc⟩ := (HX.out.fr hf).at_ (by omega)
      obtain ⟨e0, e1⟩ := hc k _ HXk.out
      simp only [] at e0 e1
      have hlt3 : (k : Int) < l := by omega
      have h0k : (0 : Int) ≤ k := by omega
      have hw1 : wrap64 ((k : Int) + 1) = (k : Int) + 1 := by have := HL.out; exact w64 _ (by omega)
      have FW := hid hf
      have CB := hid (And.intro (hf.cell_some HC.out.1 (fun h => h)) (hf.cell_some HC.out.2 (fun h => h)))
      have HNO := hid hno
      clear hc hg hx hk1 hf hno
      obtain ⟨v, hv⟩ : ∃ v, decide (0 < (meet (b, m) (a, n)).2) = v := ⟨_, rfl⟩
      have HVV := hid hv
      clear hv
      go_wp2_with fail
      refine (meets1_ok a n b m v B _ HWk.out HB.out CB.out.1 CB.out.2 HVV.out.symm).mono ?_
      rintro e w3 ⟨rfl, f3⟩
      replace FW := hid (FW.out.trans f3)
      clear f3
      cases v with
      | true =>
        have HH := hid (show hit (b, m) xs from ⟨(a, n), List.mem_of_getElem? HXk.out, of_decide_eq_true HVV.out⟩)
        go_wp2
        go_ret
        exact ⟨⟨(k : Int), rfl, ⟨fun _ => HH.out, fun _ => by omega⟩⟩, FW.out⟩
      | false =>
        have HH := hid (show ¬ hit (b, m) (xs.take (k + 1)) from by
          rintro ⟨s, hs, hp⟩
          rw [take_snoc HXk.out, List.mem_append] at hs
          rcases hs with hs | hs
          · exact HNO.out ⟨s, hs, hp⟩
          · simp only [List.mem_singleton] at hs
            subst hs
            exact of_decide_eq_false HVV.out hp)
        go_wp2
        go_roundw
        case rel => exact ⟨k + 1, by omega, by go_num, HH.out, FW.out⟩
        case measure => exact next_m _ _ hlt hw1
    · obtain rfl : k = l := by omega
      have HH := hid (show ¬ hit (b, m) xs by rw [List.take_of_length_le (by rw [HX.out.1]; exact Nat.le_refl _)] at hno; exact hno)
      have FW := hid hf
      clear hf hno
      go_wp2
      go_ret
      exact ⟨⟨-1, rfl, ⟨fun h => absurd h (by decide), fun h => absurd h HH.out⟩⟩, FW.out⟩
set_option maxRecDepth 100000 in
theorem contains_ok (A : Option Addr) (l c : Nat) (xs : List Sp) (b m : Int) (v : Bool) (B : Nat) (w : World) (hl : l ≤ 140737488355328) (hx : RdS w A l xs) (hw : ∀ s ∈ xs, wf s) (hb : wf (b, m)) (c0 : w.cell? ⟨B, 0, none⟩ = some (.int .i64 b)) (c1 : w.cell? ⟨B, 1, none⟩ = some (.int .i64 m)) (hv : v = true ↔ hit (b, m) xs) :
    Calls Tryd.prog 75 #[.slice A l c, .func (.func 76) #[] #[.pointer (some ⟨B, 0, none⟩)]] w fun e w' => e = .returned (.bool v) ∧ Fr No w w' := by
  have HI := hid (index_ok A l c xs b m B w hl hx hw hb c0 c1)
  have HV := hid hv
  clear hv hx hw hb c0 c1 hl
  go_enter Tryd.func75, Tryd.ntmps75
  go_wp2_with (go_at_call 82; refine HI.out.mono ?_; rintro e w1 ⟨⟨j, rfl, hj⟩, f1⟩; have HJ := hid (hj.trans HV.out.symm); have FW := hid f1; clear hj f1)
  all_goals
    go_ret
    refine ⟨?_, FW.out⟩
    have h1 := HJ.out
    cases v <;> simp_all
set_option maxRecDepth 100000 in
theorem meets_ok (A : Option Addr) (l c : Nat) (xs : List Sp) (b m : Int) (v : Bool) (w : World) (hl : l ≤ 140737488355328) (hx : RdS w A l xs) (hw : ∀ s ∈ xs, wf s) (hb : wf (b, m)) (hv : v = true ↔ hit (b, m) xs) :
    Calls Tryd.prog 59 #[.slice A l c, .agg #[.int .i64 b, .int .i64 m]] w fun e w' => e = .returned (.bool v) ∧ Fr No w w' := by
  have f0 := fr1 w (.cells #[.int .i64 b, .int .i64 m] 51)
  have HBB := Blk.new w 51 #[.int .i64 b, .int .i64 m]
  have HC := hid (contains_ok A l c xs b m v w.heap.size _ hl (hx.fr f0) hw hb (HBB.cell 0) (HBB.cell 1) hv)
  have FW := hid f0
  clear hv hx hw hb hl f0 HBB
  go_enter Tryd.func59, Tryd.ntmps59
  go_wp2_with (go_at_call 75; refine HC.out.mono ?_; rintro e w1 ⟨rfl, f1⟩; replace FW := hid (FW.out.trans f1); clear f1)
  go_ret
  exact ⟨rfl, FW.out⟩
abbrev bcs (q k : Int) (A : Option Addr) (n c : Nat) : Array Value := #[.int .i64 q, .int .i64 k, .slice A n c]
abbrev bv (q k : Int) (A : Option Addr) (n c : Nat) : Value := .agg (bcs q k A n c)
def BB (w : World) (g : Nat) (q k : Int) (A : Option Addr) (n c : Nat) : Prop := Blk w g 26 (bcs q k A n c)
theorem BB.new (w : World) (q k : Int) (A : Option Addr) (n c : Nat) : BB (w.alloc (.cells (bcs q k A n c) 26)) w.heap.size q k A n c := Blk.new _ _ _
theorem BB.fr {w w' : World} {g : Nat} {q k : Int} {A : Option Addr} {n c : Nat} (h : BB w g q k A n c) (f : Fr No w w') : BB w' g q k A n c := Blk.fr h f (fun h => h)
theorem BB.cells {w : World} {g : Nat} {q k : Int} {A : Option Addr} {n c : Nat} (h : BB w g q k A n c) : w.cell? ⟨g, 0, none⟩ = some (.int .i64 q) ∧ w.cell? ⟨g, 1, none⟩ = some (.int .i64 k) ∧ w.cell? ⟨g, 2, none⟩ = some (.slice A n c) := ⟨Blk.cell h 0, Blk.cell h 1, Blk.cell h 2⟩
theorem infoBt : (Tryd.prog.info? 26).map (·.size) = some 3 := by kernel_rfl
theorem ld_bt {ops : Array Oper} {rest : List Oper} {o : Oper} {ac : Act} {w : World} {Q : Exit → Act → World → Prop} (hgd : o.guard = none) (p : Operand) (ho : o.op = .load 26 p) (g : Nat) (hx : ac.eval p = .pointer (some ⟨g, 0, none⟩)) {q k : Int} {A : Option Addr} {n c : Nat} (hg : BB w g q k A n c)
    (h : wpList Tryd.prog ops Q rest (ac.put o.dst (bv q k A n c)) w) : wpList Tryd.prog ops Q (o :: rest) ac w :=
  wpList_load_row hgd 26 p ho g hx 26 _ (0, 0) _ hg Tryd.underlying26 rfl infoBt h
theorem capif (t n : Int) : cap t n = t + (if 1048576 - t < (if n < 0 then 0 else n) then 1048576 - t else if n < 0 then 0 else n) := by
  unfold cap
  split <;> split <;> omega
set_option maxRecDepth 100000 in
set_option maxHeartbeats 2000000 in
theorem data_ok (q k : Int) (A : Option Addr) (l c : Nat) (xs : List Sp) (w : World) (hl : l ≤ 140737488355328) (hx : RdS w A l xs) (hw : ∀ s ∈ xs, wf s) :
    Calls Tryd.prog 23 #[bv q k A l c] w fun e w' => e = .returned (.int .i64 (dsec k xs)) ∧ Fr No w w' := by
  obtain ⟨w1, hw1⟩ : ∃ w1, w.alloc (.cells (bcs q k A l c) 26) = w1 := ⟨_, rfl⟩
  have f0 : Fr No w w1 := by rw [← hw1]; exact fr1 _ _
  have FW := hid f0
  obtain ⟨b0, b1, b2⟩ := (show BB w1 w.heap.size q k A l c by rw [← hw1]; exact BB.new _ _ _ _ _ _).cells
  have HX := hid (hx.fr f0)
  have HW := hid hw
  have HL := hid hl
  have HW1 := hid hw1
  clear hx hw hl f0 hw1
  by_cases hk : k = 1
  · subst hk
    rw [show dsec 1 xs = dn xs from if_pos rfl]
    obtain ⟨T, hT⟩ : ∃ T, dn xs = T := ⟨_, rfl⟩
    rw [hT]
    have HT := hid hT
    clear hT
    go_enter Tryd.func23, Tryd.ntmps23
    go_upto_region 1 with fail
    try rw [HW1.out]
    go_wp2
    go_loopw [3, 12] (fun v i wr => ∃ j : Nat, j ≤ l ∧ i = .int .i64 j ∧ v = .int .i64 (dn (xs.take j)) ∧ Fr No w1 wr) (fun _ i _ => l - (intOf i).toNat)
    case atStart => exact ⟨0, by omega, rfl, rfl, Fr.refl _ _⟩
    case round =>
      obtain ⟨j, hj, rfl, rfl, hf⟩ := hrel
      by_cases hlt : j < l
      · have hk1 : j < xs.length := by rw [HX.out.1]; exact hlt
        obtain ⟨⟨a, n⟩, hx⟩ : ∃ x, xs[j]? = some x := ⟨_, List.getElem?_eq_getElem hk1⟩
        have HXk := hid hx
        have hwk := HW.out _ (List.mem_of_getElem? hx)
        obtain ⟨g, o, rfl, hg, hc⟩ := (HX.out.fr hf).at_ (by omega)
        obtain ⟨e0, e1⟩ := hc j _ HXk.out
        simp only [] at e0 e1
        have hlt3 : (j : Int) < l := by omega
        have h0k : (0 : Int) ≤ j := by omega
        have hw1 : wrap64 ((j : Int) + 1) = (j : Int) + 1 := by have := HL.out; exact w64 _ (by omega)
        have hds := dn_in (xs.take j)
        have HSN := hid (dn_snoc hx)
        obtain ⟨t, ht⟩ : ∃ t, dn (xs.take j) = t := ⟨_, rfl⟩
        rw [ht] at hds HSN ⊢
        have hw2 : wrap64 (1048576 - t) = 1048576 - t := w64 _ (by omega)
        have hw3 : wrap64 (t + min (max n 0) (1048576 - t)) = cap t n := by
          have := cap_in (x := n) hds
          unfold cap at this ⊢
          exact w64 _ (by omega)
        have FR := hid (hf.alloc (.cells #[.int .i64 a, .int .i64 n] 51))
        clear hc hg hx hk1 hf ht hwk
        go_wp2
        go_roundw
        case rel => exact ⟨j + 1, by omega, by go_num, by rw [HSN.out, capif], FR.out⟩
        case measure => exact next_m _ _ hlt hw1
      · obtain rfl : j = l := by omega
        have FR := hid (FW.out.trans hf)
        have HE := hid (show dn (xs.take j) = T by rw [List.take_of_length_le (by rw [HX.out.1]; exact Nat.le_refl _)]; exact HT.out)
        clear hf
        go_wp2
        go_ret
        exact ⟨congrArg (fun z => Ending.returned (.int .i64 z)) HE.out, FR.out⟩
  · rw [show dsec k xs = 0 from if_neg hk]
    have hkb : (k == 1) = false := by simpa using hk
    have hkb2 : (k != 1) = true := by rw [bne, hkb]; rfl
    go_enter Tryd.func23, Tryd.ntmps23
    go_upto_region 1 with fail
    try rw [HW1.out]
    go_wp2
    go_ret
    exact ⟨rfl, FW.out⟩
theorem dsec_in (k : Int) (xs : List Sp) : 0 ≤ dsec k xs ∧ dsec k xs ≤ 1048576 := by
  unfold dsec
  split
  · exact dn_in xs
  · omega
set_option maxRecDepth 100000 in
theorem sectors_ok (q k : Int) (A : Option Addr) (l c : Nat) (xs : List Sp) (w : World) (hl : l ≤ 140737488355328) (hx : RdS w A l xs) (hw : ∀ s ∈ xs, wf s) :
    Calls Tryd.prog 11 #[bv q k A l c] w fun e w' => e = .returned (.int .i64 (1 + dsec k xs)) ∧ Fr No w w' := by
  have f0 := fr1 w (.cells (bcs q k A l c) 26)
  have HC := hid (data_ok q k A l c xs _ hl (hx.fr f0) hw)
  have P0 := hid (BB.new w q k A l c)
  have FW := hid f0
  have hd := dsec_in k xs
  obtain ⟨T, hT⟩ : ∃ T, dsec k xs = T := ⟨_, rfl⟩
  rw [hT] at hd HC ⊢
  have hw2 : wrap64 (1 + T) = 1 + T := w64 _ (by omega)
  clear hx hw hl f0 hT
  go_enter Tryd.func11, Tryd.ntmps11
  go_wp2_with (first | ((with_reducible refine ld_bt rfl (.tmp 1) rfl w.heap.size ?_ P0.out ?_); · rfl) | (go_at_call 23; refine HC.out.mono ?_; rintro e w1 ⟨rfl, f1⟩; replace FW := hid (FW.out.trans f1); clear f1))
  go_ret
  exact ⟨congrArg (fun z => Ending.returned (.int .i64 z)) (by first | exact hw2 | rfl), FW.out⟩
end Go.Proofs.YtkkbgbpmpcoffaaDoor.BtA
