/- Contracts: without, the document's next, whether two jobs are the same. Condition: lists that read as lists. -/
import Derived.Test.YtgjcpepfggkieaaClB
namespace Go.Proofs.Ytgjcpepfggkieaa.ClC
open Go.RowKit MSep MGeM GeA GeC GeD PlA PlB ClM ClA ClE ClB

/-- The job that comes of a zone and bands: its list is the one that was given, or nil. -/
def RetN (w : World) (z : Int) (A : Option Addr) (l c : Nat) (bs : List Int) (e : Ending) (w' : World) : Prop :=
  ∃ st sp nx z' B m d, (∀ w0, InI w0 A l c bs → InI w0 B m d (nextJ z bs).bs) ∧ e = .returned (.agg #[.int .i64 st, .int .i64 z', .slice B m d, .int .i64 sp, .int .i64 nx]) ∧ nextJ z bs = ⟨st, z', (nextJ z bs).bs, sp, nx⟩ ∧ InI w B m d (nextJ z bs).bs ∧ Fr No w w'
theorem RetN.mk0 {w w' : World} {z : Int} {A : Option Addr} {l c : Nat} {bs : List Int} (hb : bs = []) (hz : z = 255) (f : Fr No w w') : RetN w z A l c bs (.returned (.agg #[.int .i64 0, .int .i64 255, .slice none 0 0, .int .i64 255, .int .i64 0])) w' :=
  ⟨_, _, _, _, _, _, _, fun w0 _ => by subst hb hz; exact InI.nil w0, rfl, by subst hb hz; rfl, by subst hb hz; exact InI.nil w, f⟩
theorem RetN.mk1 {w w' : World} {z : Int} {A : Option Addr} {l c : Nat} {bs : List Int} (hb : bs = []) (hz : z ≠ 255) (f : Fr No w w') : RetN w z A l c bs (.returned (.agg #[.int .i64 5, .int .i64 z, .slice none 0 0, .int .i64 255, .int .i64 0])) w' :=
  ⟨_, _, _, _, _, _, _, fun w0 _ => by subst hb; simp [nextJ, hz]; exact InI.nil w0, rfl, by subst hb; simp [nextJ, hz], by subst hb; simp [nextJ, hz]; exact InI.nil w, f⟩
theorem RetN.mk2 {w w' : World} {z : Int} {A : Option Addr} {l c : Nat} {bs : List Int} (hb : bs ≠ []) (hi : InI w A l c bs) (f : Fr No w w') : RetN w z A l c bs (.returned (.agg #[.int .i64 1, .int .i64 z, .slice A l c, .int .i64 255, .int .i64 0])) w' :=
  ⟨_, _, _, _, _, _, _, fun w0 h => by simp [nextJ, hb]; exact h, rfl, by simp [nextJ, hb], by simp [nextJ, hb]; exact hi, f⟩
theorem RetN.old {w w' w0 : World} {z : Int} {A : Option Addr} {l c : Nat} {bs : List Int} {e : Ending} (h : RetN w z A l c bs e w') (h0 : InI w0 A l c bs) :
    ∃ st sp nx z' B m d, e = .returned (.agg #[.int .i64 st, .int .i64 z', .slice B m d, .int .i64 sp, .int .i64 nx]) ∧ nextJ z bs = ⟨st, z', (nextJ z bs).bs, sp, nx⟩ ∧ InI w0 B m d (nextJ z bs).bs ∧ Fr No w w' := by
  obtain ⟨st, sp, nx, z', B, m, d, h1, h2, h3, _, h5⟩ := h
  exact ⟨st, sp, nx, z', B, m, d, h2, h3, h1 w0 h0, h5⟩
set_option maxRecDepth 100000 in
set_option maxHeartbeats 2000000 in
theorem without_ok (z : Int) (A : Option Addr) (l c : Nat) (bs : List Int) (w : World) (hi : InI w A l c bs) :
    Calls Try.prog 94 #[.int .i64 z, .slice A l c] w fun e w' => RetN w z A l c bs e w' := by
  have HI := hid hi
  have hlm := hi.lm
  unfold maxLen at hlm
  by_cases h0 : l = 0
  · have HB := hid ((ne_of_len hi).2 h0)
    have h1 : decide (0 < (l : Int)) = false := decide_eq_false (by omega)
    have h1n : decide (0 < l) = false := decide_eq_false (by omega)
    clear hi
    by_cases hz : z = 255
    · subst hz
      go_enter Try.func94, Try.ntmps94
      go_wp2_with fail
      refine (idle_ok _).mono ?_
      rintro e w1 ⟨rfl, f1⟩
      have HF := hid (((fr1 w (oJ 0 0 none 0 0 0 0)).trans f1).alloc (oJ 0 255 none 0 0 255 0))
      have P0 := hid (show BJ (w1.alloc (oJ 0 255 none 0 0 255 0)) w.heap.size 0 0 none 0 0 0 0 from ((BJ.at_ 0 0 none 0 0 0 0 rfl).fr f1).up _)
      have P1 := hid (BJ.at_ (w := w1) 0 255 none 0 0 255 0 rfl)
      clear f1
      go_wp2_with (first | ((with_reducible refine ldJ rfl (.tmp 5) rfl w1.heap.size ?_ P1.out ?_); · rfl) | ((with_reducible refine stJ rfl (.tmp 4) (.tmp 20) rfl w.heap.size ?_ (st' := 0) (z' := 255) (A' := none) (l' := 0) (c' := 0) (sp' := 255) (nx' := 0) ?_ P0.out ?_); (· rfl); (· rfl); intro W' hb hf; have HB2 := hid hb; have HF := kfg (Nat.le_refl _) HF hf; clear hb hf))
      exact bodyPost_ret (v := .agg #[.int .i64 0, .int .i64 255, .slice none 0 0, .int .i64 255, .int .i64 0]) (resJ rfl _ _ w.heap.size 0 255 none 0 0 255 0 rfl HB2.out) rfl (RetN.mk0 HB.out rfl HF.out)
    · have HZ := hid hz
      have e1 : (z != 255) = true := by simpa using hz
      clear hz
      go_enter Try.func94, Try.ntmps94
      go_wp2_with fail
      refine (idle_ok _).mono ?_
      rintro e w1 ⟨rfl, f1⟩
      have HF := hid (((fr1 w (oJ 0 0 none 0 0 0 0)).trans f1).alloc (oJ 5 z none 0 0 255 0))
      have P0 := hid (show BJ (w1.alloc (oJ 5 z none 0 0 255 0)) w.heap.size 0 0 none 0 0 0 0 from ((BJ.at_ 0 0 none 0 0 0 0 rfl).fr f1).up _)
      have P1 := hid (BJ.at_ (w := w1) 5 z none 0 0 255 0 rfl)
      clear f1
      go_wp2_with (first | ((with_reducible refine ldJ rfl (.tmp 5) rfl w1.heap.size ?_ P1.out ?_); · rfl) | ((with_reducible refine stJ rfl (.tmp 4) (.tmp 20) rfl w.heap.size ?_ (st' := 5) (z' := z) (A' := none) (l' := 0) (c' := 0) (sp' := 255) (nx' := 0) ?_ P0.out ?_); (· rfl); (· rfl); intro W' hb hf; have HB2 := hid hb; have HF := kfg (Nat.le_refl _) HF hf; clear hb hf))
      exact bodyPost_ret (v := .agg #[.int .i64 5, .int .i64 z, .slice none 0 0, .int .i64 255, .int .i64 0]) (resJ rfl _ _ w.heap.size 5 z none 0 0 255 0 rfl HB2.out) rfl (RetN.mk1 HB.out HZ.out HF.out)
  · have HB := hid (fun h => h0 ((ne_of_len hi).1 h))
    have h1 : decide (0 < (l : Int)) = true := decide_eq_true (by omega)
    have h1n : decide (0 < l) = true := decide_eq_true (by omega)
    clear hi
    go_enter Try.func94, Try.ntmps94
    go_wp2_with fail
    refine (idle_ok _).mono ?_
    rintro e w1 ⟨rfl, f1⟩
    have HF := hid (((fr1 w (oJ 0 0 none 0 0 0 0)).trans f1).alloc (oJ 1 z A l c 255 0))
    have P0 := hid (show BJ (w1.alloc (oJ 1 z A l c 255 0)) w.heap.size 0 0 none 0 0 0 0 from ((BJ.at_ 0 0 none 0 0 0 0 rfl).fr f1).up _)
    have P1 := hid (BJ.at_ (w := w1) 1 z A l c 255 0 rfl)
    clear f1
    go_wp2_with (first | ((with_reducible refine ldJ rfl (.tmp 5) rfl w1.heap.size ?_ P1.out ?_); · rfl) | ((with_reducible refine stJ rfl (.tmp 4) (.tmp 20) rfl w.heap.size ?_ (st' := 1) (z' := z) (A' := A) (l' := l) (c' := c) (sp' := 255) (nx' := 0) ?_ P0.out ?_); (· rfl); (· rfl); intro W' hb hf; have HB2 := hid hb; have HF := kfg (Nat.le_refl _) HF hf; clear hb hf))
    exact bodyPost_ret (v := .agg #[.int .i64 1, .int .i64 z, .slice A l c, .int .i64 255, .int .i64 0]) (resJ rfl _ _ w.heap.size 1 z A l c 255 0 rfl HB2.out) rfl (RetN.mk2 HB.out HI.out HF.out)
set_option maxRecDepth 100000 in
set_option maxHeartbeats 2000000 in
theorem rnext_ok (z : Int) (A : Option Addr) (l c : Nat) (bs : List Int) (w : World) (hi : InI w A l c bs) :
    Calls Try.prog 73 #[.int .i64 z, .slice A l c] w fun e w' => RetN w z A l c bs e w' := by
  have HI := hid hi
  have hlm := hi.lm
  unfold maxLen at hlm
  by_cases h0 : l = 0
  · have HB := hid ((ne_of_len hi).2 h0)
    have h1 : decide (0 < (l : Int)) = false := decide_eq_false (by omega)
    have h1n : decide (0 < l) = false := decide_eq_false (by omega)
    clear hi
    by_cases hz : z = 255
    · subst hz
      go_enter Try.func73, Try.ntmps73
      go_wp2_with fail
      refine (ridle_ok _).mono ?_
      rintro e w1 ⟨rfl, f1⟩
      have HF := hid ((fr1 w (oJ 0 0 none 0 0 0 0)).trans f1)
      have P0 := hid ((BJ.at_ 0 0 none 0 0 0 0 rfl : BJ (w.alloc _) w.heap.size _ _ _ _ _ _ _).fr f1)
      clear f1
      go_wp2_with ((with_reducible refine stJ rfl (.tmp 4) (.tmp 17) rfl w.heap.size ?_ (st' := 0) (z' := 255) (A' := none) (l' := 0) (c' := 0) (sp' := 255) (nx' := 0) ?_ P0.out ?_); (· rfl); (· rfl); intro W' hb hf; have HB2 := hid hb; have HF := kfg (Nat.le_refl _) HF hf; clear hb hf)
      exact bodyPost_ret (v := .agg #[.int .i64 0, .int .i64 255, .slice none 0 0, .int .i64 255, .int .i64 0]) (resJ rfl _ _ w.heap.size 0 255 none 0 0 255 0 rfl HB2.out) rfl (RetN.mk0 HB.out rfl HF.out)
    · have HZ := hid hz
      have e1 : (z != 255) = true := by simpa using hz
      clear hz
      go_enter Try.func73, Try.ntmps73
      go_wp2
      have HF := hid (fr1 w (oJ 5 z none 0 0 255 0))
      exact bodyPost_ret (v := .agg #[.int .i64 5, .int .i64 z, .slice none 0 0, .int .i64 255, .int .i64 0]) (resJ rfl _ _ w.heap.size 5 z none 0 0 255 0 rfl (BJ.at_ 5 z none 0 0 255 0 rfl)) rfl (RetN.mk1 HB.out HZ.out HF.out)
  · have HB := hid (fun h => h0 ((ne_of_len hi).1 h))
    have h1 : decide (0 < (l : Int)) = true := decide_eq_true (by omega)
    have h1n : decide (0 < l) = true := decide_eq_true (by omega)
    clear hi
    go_enter Try.func73, Try.ntmps73
    go_wp2
    have HF := hid (fr1 w (oJ 1 z A l c 255 0))
    exact bodyPost_ret (v := .agg #[.int .i64 1, .int .i64 z, .slice A l c, .int .i64 255, .int .i64 0]) (resJ rfl _ _ w.heap.size 1 z A l c 255 0 rfl (BJ.at_ 1 z A l c 255 0 rfl)) rfl (RetN.mk2 HB.out HI.out HF.out)
set_option maxRecDepth 100000 in
set_option maxHeartbeats 2000000 in
theorem same_ok (st z : Int) (A : Option Addr) (l c : Nat) (sp nx : Int) (bs : List Int) (st' z' : Int) (B : Option Addr) (m e : Nat) (sp' nx' : Int) (ys : List Int) (w : World) (hi : InI w A l c bs) (hy : InI w B m e ys) :
    Calls Try.prog 44 #[.agg #[.int .i64 st, .int .i64 z, .slice A l c, .int .i64 sp, .int .i64 nx], .agg #[.int .i64 st', .int .i64 z', .slice B m e, .int .i64 sp', .int .i64 nx']] w fun e w' => e = .returned (.bool (decide ((⟨st, z, bs, sp, nx⟩ : Jb) = ⟨st', z', ys, sp', nx'⟩))) ∧ Fr No w w' := by
  obtain ⟨R, hR⟩ : ∃ R, decide ((⟨st, z, bs, sp, nx⟩ : Jb) = ⟨st', z', ys, sp', nx'⟩) = R := ⟨_, rfl⟩
  rw [hR]
  have HR := hid hR
  clear hR
  have HF := hid ((fr1 w (oJ st z A l c sp nx)).alloc (oJ st' z' B m e sp' nx'))
  by_cases h0 : st = st'
  case neg =>
    have HN := hid (show R = false by rw [← HR.out]; exact decide_eq_false (fun h => h0 (by injection h)))
    have e1 : (st == st') = false := by simpa using h0
    have e2 : (st != st') = true := by simpa using h0
    clear h0 hi hy
    go_enter Try.func44, Try.ntmps44
    go_wp2
    go_ret
    exact ⟨retb HN.out.symm, HF.out⟩
  subst h0
  by_cases h1 : z = z'
  case neg =>
    have HN := hid (show R = false by rw [← HR.out]; exact decide_eq_false (fun h => h1 (by injection h)))
    have e1 : (z == z') = false := by simpa using h1
    have e2 : (z != z') = true := by simpa using h1
    clear h1 hi hy
    go_enter Try.func44, Try.ntmps44
    go_wp2
    go_ret
    exact ⟨retb HN.out.symm, HF.out⟩
  subst h1
  by_cases h2 : sp = sp'
  case neg =>
    have HN := hid (show R = false by rw [← HR.out]; exact decide_eq_false (fun h => h2 (by injection h)))
    have e1 : (sp == sp') = false := by simpa using h2
    have e2 : (sp != sp') = true := by simpa using h2
    clear h2 hi hy
    go_enter Try.func44, Try.ntmps44
    go_wp2
    go_ret
    exact ⟨retb HN.out.symm, HF.out⟩
  subst h2
  by_cases h3 : nx = nx'
  case neg =>
    have HN := hid (show R = false by rw [← HR.out]; exact decide_eq_false (fun h => h3 (by injection h)))
    have e1 : (nx == nx') = false := by simpa using h3
    have e2 : (nx != nx') = true := by simpa using h3
    clear h3 hi hy
    go_enter Try.func44, Try.ntmps44
    go_wp2
    go_ret
    exact ⟨retb HN.out.symm, HF.out⟩
  subst h3
  have HI := hid (hi.fr HF.out)
  have HY := hid (hy.fr HF.out)
  have HE := hid (fun W (a : InI W A l c bs) (b : InI W B m e ys) => equalI_ok A l c bs B m e ys W a.lm b.lm a.rd b.rd)
  obtain ⟨V, hV⟩ : ∃ V, decide (bs = ys) = V := ⟨_, rfl⟩
  rw [hV] at HE
  have HV := hid (show R = V by
    rw [← HR.out, ← hV, decide_eq_decide]
    constructor
    · intro h; injection h
    · rintro rfl; rfl)
  clear hi hy hV
  go_enter Try.func44, Try.ntmps44
  go_wp2_with fail
  refine (HE.out _ HI.out HY.out).mono ?_
  rintro e w1 ⟨rfl, f1⟩
  have HF := kf f1 HF
  clear f1
  go_wp2
  go_ret
  exact ⟨retb HV.out.symm, HF.out⟩
set_option maxRecDepth 100000 in
set_option maxHeartbeats 2000000 in
theorem rsame_ok (st z : Int) (A : Option Addr) (l c : Nat) (sp nx : Int) (bs : List Int) (st' z' : Int) (B : Option Addr) (m e : Nat) (sp' nx' : Int) (ys : List Int) (w : World) (hi : InI w A l c bs) (hy : InI w B m e ys) :
    Calls Try.prog 39 #[.agg #[.int .i64 st, .int .i64 z, .slice A l c, .int .i64 sp, .int .i64 nx], .agg #[.int .i64 st', .int .i64 z', .slice B m e, .int .i64 sp', .int .i64 nx']] w fun e w' => e = .returned (.bool (decide ((⟨st, z, bs, sp, nx⟩ : Jb) = ⟨st', z', ys, sp', nx'⟩))) ∧ Fr No w w' := by
  obtain ⟨R, hR⟩ : ∃ R, decide ((⟨st, z, bs, sp, nx⟩ : Jb) = ⟨st', z', ys, sp', nx'⟩) = R := ⟨_, rfl⟩
  rw [hR]
  have HR := hid hR
  clear hR
  have HF := hid ((fr1 w (oJ st z A l c sp nx)).alloc (oJ st' z' B m e sp' nx'))
  by_cases h0 : st = st'
  case neg =>
    have HN := hid (show R = false by rw [← HR.out]; exact decide_eq_false (fun h => h0 (by injection h)))
    have e1 : (st == st') = false := by simpa using h0
    have e2 : (st != st') = true := by simpa using h0
    clear h0 hi hy
    go_enter Try.func39, Try.ntmps39
    go_wp2
    go_ret
    exact ⟨retb HN.out.symm, HF.out⟩
  subst h0
  by_cases h1 : z = z'
  case neg =>
    have HN := hid (show R = false by rw [← HR.out]; exact decide_eq_false (fun h => h1 (by injection h)))
    have e1 : (z == z') = false := by simpa using h1
    have e2 : (z != z') = true := by simpa using h1
    clear h1 hi hy
    go_enter Try.func39, Try.ntmps39
    go_wp2
    go_ret
    exact ⟨retb HN.out.symm, HF.out⟩
  subst h1
  by_cases h2 : sp = sp'
  case neg =>
    have HN := hid (show R = false by rw [← HR.out]; exact decide_eq_false (fun h => h2 (by injection h)))
    have e1 : (sp == sp') = false := by simpa using h2
    have e2 : (sp != sp') = true := by simpa using h2
    clear h2 hi hy
    go_enter Try.func39, Try.ntmps39
    go_wp2
    go_ret
    exact ⟨retb HN.out.symm, HF.out⟩
  subst h2
  by_cases h3 : nx = nx'
  case neg =>
    have HN := hid (show R = false by rw [← HR.out]; exact decide_eq_false (fun h => h3 (by injection h)))
    have e1 : (nx == nx') = false := by simpa using h3
    have e2 : (nx != nx') = true := by simpa using h3
    clear h3 hi hy
    go_enter Try.func39, Try.ntmps39
    go_wp2
    go_ret
    exact ⟨retb HN.out.symm, HF.out⟩
  subst h3
  by_cases hlm : l = m
  case neg =>
    have HN := hid (show R = false by rw [← HR.out]; exact decide_eq_false (fun h => hlm (by injection h with _ _ h; rw [← hi.len, ← hy.len, h])))
    have e1 : ((l : Int) == (m : Int)) = false := by
      have : ¬ (l : Int) = m := by omega
      simpa using this
    have e2 : ((l : Int) != (m : Int)) = true := by rw [bne, e1]; rfl
    clear hlm hi hy
    go_enter Try.func39, Try.ntmps39
    go_wp2
    go_ret
    exact ⟨retb HN.out.symm, HF.out⟩
  subst hlm
  have hl := hi.lm
  unfold maxLen at hl
  have HI := hid (hi.fr HF.out)
  have HY := hid (hy.fr HF.out)
  clear hi hy
  go_enter Try.func39, Try.ntmps39
  go_wp2
  go_loopw [5] (fun i wr => ∃ k : Nat, k ≤ l ∧ i = .int .i64 k ∧ Hid (bs.take k = ys.take k) ∧ Fr No ((w.alloc (oJ st z A l c sp nx)).alloc (oJ st z B l e sp nx)) wr) (fun i _ => l - (intOf i).toNat)
  case atStart => exact ⟨0, by omega, rfl, hid rfl, Fr.refl _ _⟩
  case round =>
    obtain ⟨k, hk, rfl, HE, hf⟩ := hrel
    have c0 := kc hf (p := ⟨w.heap.size, 2, none⟩) (v := .slice A l c) (by simp)
    have d0 := kc hf (p := ⟨w.heap.size + 1, 2, none⟩) (v := .slice B l e) (by simp)
    by_cases hlt : k < l
    · obtain ⟨x, hx⟩ : ∃ x, bs[k]? = some x := ⟨_, List.getElem?_eq_getElem (by rw [HI.out.len]; exact hlt)⟩
      obtain ⟨y, hy⟩ : ∃ y, ys[k]? = some y := ⟨_, List.getElem?_eq_getElem (by rw [HY.out.len]; exact hlt)⟩
      obtain ⟨g, o, rfl, hg, hc⟩ := (HI.out.rd.fr hf).at_ (by omega)
      obtain ⟨g', o', rfl, hg', hc'⟩ := (HY.out.rd.fr hf).at_ (by omega)
      have c1 := hc k x hx
      have d1 := hc' k y hy
      have hlt3 : (k : Int) < l := by omega
      have h0 : (0 : Int) ≤ k := by omega
      have HXk := hid hx
      have HYk := hid hy
      have HF2 := hid hf
      clear hc hc' hg hg' hx hy hf
      by_cases e0 : x = y
      case neg =>
        have HN := hid (show R = false by rw [← HR.out]; exact decide_eq_false (fun h => ne_at HXk.out HYk.out e0 (by injection h)))
        have e1 : (x == y) = false := by simpa using e0
        have e2 : (x != y) = true := by simpa using e0
        clear e0
        go_wp2
        go_quiet (fail)
        go_wp2
        go_ret
        exact ⟨retb HN.out.symm, (HF.out.trans HF2.out).drewN _⟩
      subst e0
      have HT := hid (show bs.take (k + 1) = ys.take (k + 1) by rw [take_snoc HXk.out, take_snoc HYk.out, HE.out])
      go_wp2
      go_quiet (fail)
      go_wp2
      go_roundw
      case rel => exact ⟨k + 1, by omega, by go_num, HT, HF2.out.drewN _⟩
      case measure => simp [intOf]; omega
    · obtain rfl : k = l := by omega
      have HD := hid (show R = true by
        rw [← HR.out]
        have q := HE.out
        rw [List.take_of_length_le (by rw [HI.out.len]; omega), List.take_of_length_le (by rw [HY.out.len]; omega)] at q
        rw [q]
        exact decide_eq_true rfl)
      have HF2 := hid hf
      clear hf
      go_wp2
      go_ret
      exact ⟨retb HD.out.symm, HF.out.trans HF2.out⟩
end Go.Proofs.Ytgjcpepfggkieaa.ClC
