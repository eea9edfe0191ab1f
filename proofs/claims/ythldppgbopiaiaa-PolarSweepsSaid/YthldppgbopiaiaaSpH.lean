/- Contracts: a list that is limited; a copy of a list; a set without a span. Condition: the slices read as lists, all numbers are 64 bits. -/
import Derived.Test.YthldppgbopiaiaaSpG
namespace Go.Proofs.Ythldppgbopiaiaa.SpH
open Go.RowKit MSep MSepC MSpM SpA SpB SpO SpE SpF SpG

/-- The call has returned a slice that reads as L, and an error's number. -/
def RetP (w w' : World) (e : Ending) (L : List Sp) (n : Int) : Prop := ∃ A k c, e = .returned (.tuple #[.slice A k c, .int .i64 n]) ∧ RdS w' A k L ∧ Fr No w w'
theorem RetP.mk {w w' : World} {L : List Sp} {A : Option Addr} {k c : Nat} {n : Int} (h : RdS w' A k L) (f : Fr No w w') : RetP w w' (.returned (.tuple #[.slice A k c, .int .i64 n])) L n := ⟨A, k, c, rfl, h, f⟩
theorem kco {B : Nat} {W w' : World} {v : Value} {l : List Sp} {p : Addr} {u : Value} (f : Fr (fun q => v.ownBlock = some q) W w') (o : Out B W v l) (hb : p.block < B) (h : W.cell? p = some u) : w'.cell? p = some u :=
  Fr.cell_some f h (fun he => by have := (o.ge _ he).1; omega)

theorem limited2_ok (A : Option Addr) (l c : Nat) (w : World) (hl : l ≤ 4096) : Calls Try.prog 46 #[.slice A l c] w fun e w' => e = .returned (.tuple #[.slice A l c, .int .i64 0]) ∧ Fr No w w' := by
  have h : ¬ (4096 : Int) < (l : Int) := by omega
  go_enter Try.func46, Try.ntmps46
  go_wp2
  go_ret2
  exact ⟨rfl, Fr.refl _ _⟩
theorem eqnil (a : Option Addr) (l c : Nat) (w : World) : (binOp .eql 25 (.slice a l c) (.slice none 0 0)).run Try.prog w = .ok (.bool a.isNone) w := by
  have h := run_equal_slice_nil (P := Try.prog) w 25 _ a l c Try.underlying25
  simp [binOp, h]
theorem limited_ok (A : Option Addr) (l c : Nat) (w : World) (hl : l ≤ 4096) : Calls Try.prog 46 #[.slice A l c] w fun e w' => e = .returned (.tuple #[.slice A l c, .int .i64 0]) ∧ w = w' := by
  have h : ¬ (4096 : Int) < (l : Int) := by omega
  go_enter Try.func46, Try.ntmps46
  go_wp2
  go_ret2
  exact ⟨rfl, rfl⟩

set_option maxRecDepth 100000 in
theorem clone_ok (A : Option Addr) (l c : Nat) (xs : List Sp) (w : World) (hl : l ≤ 1000000) (hx : RdS w A l xs) : Calls Try.prog 40 #[.slice A l c] w fun e w' => RetS w w' e xs := by
  cases hA : A with
  | none =>
    subst hA
    have hl0 : l = 0 := by
      rcases Nat.eq_zero_or_pos l with h | h
      · exact h
      · obtain ⟨g, o, h, _⟩ := hx.at_ h
        cases h
    subst hl0
    have hx0 : xs = [] := List.eq_nil_of_length_eq_zero hx.1
    subst hx0
    have hnil := fun w => eqnil none 0 c w
    clear hx
    go_enter Try.func40, Try.ntmps40
    go_wp2
    go_ret
    exact .mk (RdS.nil _ _) (Fr.refl _ _)
  | some a =>
    subst hA
    have HX := hid (hx.fr (fr1 w (.cells #[] 23)))
    have O0 := hid (World.ownsRow_lit (base := w.heap.size) (e := 23) (size := 2) w #[] 0 (Nat.le_refl _) (by simp [maxLen]) rfl)
    have hnil := fun w => eqnil (some a) l c w
    clear hx
    go_enter Try.func40, Try.ntmps40
    go_wp2_with (at_builtin; refine app_sp rfl (.tmp 5) (.tmp 6) rfl w.heap.size _ [] rfl O0.out _ l _ xs rfl HX.out (by simp; omega) (by simp) ?_)
    intro A1 c1 w1 o1 f1
    have F1 := hid (fr_own (fr1 w (.cells #[] 23)) (show Out w.heap.size _ _ [] from O0.out) (Nat.le_refl _) f1)
    have O1 := hid o1
    clear o1 f1
    go_wp2
    go_ret
    exact .mk (by simpa using O1.out.rd) F1.out

/-- Behind k rounds of Drop. -/
def DrI (w : World) (xs : List Sp) (s : Sp) (l : Nat) (v i : Value) (wr : World) : Prop := ∃ (k : Nat) (A : Option Addr) (c : Nat), k ≤ l ∧ i = .int .i64 k ∧ v = .slice A (drop (xs.take k) s).length c ∧ Out (w.heap.size + 1) wr v (drop (xs.take k) s) ∧ Fr No w wr ∧ Blk wr w.heap.size 23 #[.int .i64 s.1, .int .i64 s.2]
theorem drI_start {w w1 : World} {xs : List Sp} {s : Sp} {l : Nat} (f : Hid (Fr No w w1)) (b : Hid (Blk w1 w.heap.size 23 #[.int .i64 s.1, .int .i64 s.2])) : DrI w xs s l (.slice none 0 0) (.int .i64 0) w1 :=
  ⟨0, none, 0, by omega, rfl, rfl, Out.nil _ _, f.out, b.out⟩
theorem drop_snoc {xs : List Sp} {k : Nat} {t s : Sp} (h : xs[k]? = some t) : drop (xs.take (k + 1)) s = drop (xs.take k) s ++ cut0 t s := by
  rw [take_snoc h, drop, List.flatMap_append]
  simp [drop]
theorem drop_len2 {xs : List Sp} {k l : Nat} (s : Sp) (h : xs.length = l) : (drop (xs.take k) s).length ≤ 2 * l := by
  have := drop_len (xs.take k) s
  have : (xs.take k).length ≤ xs.length := by simp; omega
  omega

set_option maxRecDepth 100000 in
set_option maxHeartbeats 4000000 in
theorem drop_ok (A : Option Addr) (l c : Nat) (xs : List Sp) (a n : Int) (w : World) (hl : l ≤ 2000) (hx : RdS w A l xs) (hr : Ris xs) (hs : may (a, n)) : Calls Try.prog 28 #[.slice A l c, .agg #[.int .i64 a, .int .i64 n]] w fun e w' =>
    RetP w w' e (drop xs (a, n)) 0 := by
  have hset : isSet xs = true := decide_eq_true ⟨by rw [hx.1]; omega, hr⟩
  have HSET := hid hset
  have HX := hid hx
  have HR := hid hr
  have HS := hid hs
  have HI := hid (isSet_ok A l c xs (w.alloc (.cells #[.int .i64 a, .int .i64 n] 23)) (by simp only [maxLen]; omega) (hx.fr (fr1 w _)) (fun t ht => wf_may (hr.2 t ht).1))
  have FW := hid (fr1 w (.cells #[.int .i64 a, .int .i64 n] 23))
  have BX := hid (Blk.new w 23 #[.int .i64 a, .int .i64 n])
  clear hset hx hr hs
  go_enter Try.func28, Try.ntmps28
  go_wp2_with fail
  refine HI.out.mono ?_
  rintro e w1 ⟨rfl, f1⟩
  rw [HSET.out]
  have FW := kf f1 FW
  have BX := kb f1 BX
  have c0 := BX.out.cell 0
  have c1 := BX.out.cell 1
  simp only [List.getElem?_toArray, List.getElem?_cons_zero, List.getElem?_cons_succ] at c0 c1
  clear f1 HI
  go_wp2_with fail
  refine (may_ok a n _ (wf_may HS.out)).mono ?_
  rintro e w2 ⟨rfl, f2⟩
  rw [decide_eq_true HS.out]
  have FW := kf f2 FW
  have BX := kb f2 BX
  clear f2 c0 c1
  go_wp2
  go_loopw [6, 19] (fun v i wr => DrI w xs (a, n) l v i wr) (fun _ i _ => l - (intOf i).toNat)
  case atStart => exact drI_start FW BX
  case round =>
    obtain ⟨k, Av, cv, hk, rfl, rfl, ho, hf, hb⟩ := hrel
    by_cases hlt : k < l
    · have hk1 : k < xs.length := by rw [HX.out.1]; exact hlt
      obtain ⟨⟨b, m⟩, hx⟩ : ∃ x, xs[k]? = some x := ⟨_, List.getElem?_eq_getElem hk1⟩
      have HXk := hid hx
      have HMB := hid (HR.out.2 _ (List.mem_of_getElem? hx)).1
      obtain ⟨g, o, rfl, hg, hc⟩ := (HX.out.fr hf).at_ (by omega)
      obtain ⟨c0, c1⟩ := hc k _ HXk.out
      simp only [] at c0 c1
      have hlt3 : (k : Int) < l := by omega
      have h0k : (0 : Int) ≤ k := by omega
      have FW := hid (hf.alloc (.cells #[.int .i64 b, .int .i64 m] 23))
      have BX := hid (hb.alloc (.cells #[.int .i64 b, .int .i64 m] 23))
      have OX := hid (ho.fr (fr1 wr (.cells #[.int .i64 b, .int .i64 m] 23)))
      have d0 := BX.out.cell 0
      have d1 := BX.out.cell 1
      simp only [List.getElem?_toArray, List.getElem?_cons_zero, List.getElem?_cons_succ] at d0 d1
      have HH := hid (show w.heap.size + 1 ≤ wr.heap.size from hb.lt)
      have HK := hid hlt
      clear hc hg hx hk1 hf hb ho hk hlt
      go_wp2_with fail
      refine (cut_ok b m a n _ (wf_may HMB.out) (wf_may HS.out)).mono ?_
      rintro e w3 ⟨A3, k3, c3, rfl, r3, f3⟩
      rw [cut_go HMB.out HS.out] at r3
      have FW := kf f3 FW
      have BX := kb f3 BX
      have OX := ko f3 OX
      have HR3 := hid r3
      have HH3 := hid (show w.heap.size + 1 ≤ w3.heap.size from BX.out.lt)
      clear r3 f3 c0 c1 d0 d1
      go_wp2_with (at_builtin; refine app_sp rfl (.tmp 23) (.tmp 26) rfl (w.heap.size + 1) _ (drop (xs.take k) (a, n)) rfl OX.out _ k3 _ (cut0 (b, m) (a, n)) rfl HR3.out (by have h1 := drop_len2 (k := k) (a, n) HX.out.1; have h2 := cut0_len (b, m) (a, n); rw [HR3.out.1] at h2; omega) HH3.out ?_)
      intro A4 c4 w4 o4 f4
      have FW := hid (fr_own FW.out OX.out (by omega) f4)
      have BX := hid (kbo BX.out OX.out (by omega) f4)
      have O4 := hid o4
      have E4 := hid (show (drop (xs.take k) (a, n)).length + k3 = (drop (xs.take (k + 1)) (a, n)).length by rw [drop_snoc HXk.out, List.length_append, HR3.out.1])
      clear o4 f4
      go_wp2
      go_roundw
      case rel => exact ⟨k + 1, A4, c4, HK.out, by go_num, by rw [E4.out], by rw [drop_snoc HXk.out]; exact O4.out, FW.out, BX.out⟩
      case measure => have := HK.out; simp [intOf]; omega
    · obtain rfl : k = l := by omega
      have hE : xs.take k = xs := List.take_of_length_le (by rw [HX.out.1]; exact Nat.le_refl _)
      have h4 := drop_len xs (a, n)
      rw [hE] at ho ⊢
      have HO := hid ho
      have FW := hid hf
      have H4 := hid (show (drop xs (a, n)).length ≤ 4096 by rw [HX.out.1] at h4; omega)
      clear hE ho hf hb h4
      go_wp2_with fail
      refine (limited_ok Av _ cv _ H4.out).mono ?_
      rintro e w3 ⟨rfl, rfl⟩
      go_wp2
      go_ret2
      exact .mk HO.out.rd FW.out

set_option maxRecDepth 100000 in
set_option maxHeartbeats 4000000 in
theorem drop_bad (A : Option Addr) (l c : Nat) (xs : List Sp) (a n : Int) (w : World) (hl : l ≤ 2000) (hx : RdS w A l xs) (hw : ∀ s ∈ xs, wf s) (hs : wf (a, n)) (hn : ¬ (isSet xs = true ∧ may (a, n))) : Calls Try.prog 28 #[.slice A l c, .agg #[.int .i64 a, .int .i64 n]] w fun e w' =>
    RetP w w' e [] 30 := by
  have HI := hid (isSet_ok A l c xs (w.alloc (.cells #[.int .i64 a, .int .i64 n] 23)) (by simp only [maxLen]; omega) (hx.fr (fr1 w _)) hw)
  have HS := hid hs
  have FW := hid (fr1 w (.cells #[.int .i64 a, .int .i64 n] 23))
  have BX := hid (Blk.new w 23 #[.int .i64 a, .int .i64 n])
  clear hx hs hw
  by_cases hset : isSet xs = true
  · have HSET := hid hset
    have HM := hid (show ¬ may (a, n) from fun h => hn ⟨hset, h⟩)
    clear hset hn
    go_enter Try.func28, Try.ntmps28
    go_wp2_with fail
    refine HI.out.mono ?_
    rintro e w1 ⟨rfl, f1⟩
    rw [HSET.out]
    have FW := kf f1 FW
    have BX := kb f1 BX
    have c0 := BX.out.cell 0
    have c1 := BX.out.cell 1
    simp only [List.getElem?_toArray, List.getElem?_cons_zero, List.getElem?_cons_succ] at c0 c1
    clear f1 HI
    go_wp2_with fail
    refine (may_ok a n _ HS.out).mono ?_
    rintro e w2 ⟨rfl, f2⟩
    rw [decide_eq_false HM.out]
    have FW := kf f2 FW
    clear f2 c0 c1
    go_wp2
    go_ret2
    exact .mk (RdS.nil _ _) FW.out
  · have HSET := hid (show isSet xs = false by simpa using hset)
    clear hset hn
    go_enter Try.func28, Try.ntmps28
    go_wp2_with fail
    refine HI.out.mono ?_
    rintro e w1 ⟨rfl, f1⟩
    rw [HSET.out]
    have FW := kf f1 FW
    clear f1 HI
    go_wp2
    go_ret2
    exact .mk (RdS.nil _ _) FW.out
end Go.Proofs.Ythldppgbopiaiaa.SpH
