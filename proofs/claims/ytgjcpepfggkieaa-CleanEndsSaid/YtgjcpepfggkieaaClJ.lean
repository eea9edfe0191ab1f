/- Contracts: what becomes of a job as a band was written; the table of what becomes of it by kinds. Condition: lists that read as lists; numbers of 64 bits. -/
import Derived.Test.YtgjcpepfggkieaaClI
import Derived.Test.YtgjcpepfggkieaaClH
namespace Go.Proofs.Ytgjcpepfggkieaa.ClJ
open Go.RowKit MSep MGeM GeA GeC GeD PlA PlB ClM ClA ClE ClB ClC ClD ClG ClH ClI

set_option maxRecDepth 100000 in
set_option maxHeartbeats 2000000 in
theorem touch_3y (z : Int) (A : Option Addr) (l c : Nat) (sp nx : Int) (bs : List Int) (band : Int) (w0 w : World) (h0 : InI w0 A l c bs) (hi : InI w A l c bs) (hb : bs ≠ []) (he : band = bs.headD 0) :
    Calls Try.prog 92 #[.agg #[.int .i64 3, .int .i64 z, .slice A l c, .int .i64 sp, .int .i64 nx], .int .i64 band] w fun r w' => RetJ w0 w (nextJ z bs) r w' := by
  have HF := hid ((fr1 w (oJ 3 z A l c sp nx)).alloc (oJ 0 0 none 0 0 0 0))
  have P0 := hid ((BJ.at_ (w := w) (g := w.heap.size) 3 z A l c sp nx rfl).up (oJ 0 0 none 0 0 0 0))
  have P1 := hid (BJ.at_ (w := w.alloc (oJ 3 z A l c sp nx)) (g := w.heap.size + 1) 0 0 none 0 0 0 0 (by simp))
  have HIW := hid h0
  have HI := hid (hi.fr HF.out)
  obtain ⟨g, o, hA, hl, hc⟩ := HI.out.head hb
  obtain ⟨x, hx⟩ : ∃ x, bs.headD 0 = x := ⟨_, rfl⟩
  rw [hx] at hc he
  have hl2 : (0 : Int) < l := by omega
  clear hi hb hx h0
  subst he
  subst hA
  have eb : (band == band) = true := by simp
  go_enter Try.func92, Try.ntmps92
  go_wp2_with fail
  refine (without_ok2 _ _ _ _ bs w0 _ HIW.out HI.out).mono ?_
  rintro r w1 ⟨st', sp', nx', z', B', m', d', rfl, hn, hi, f1⟩
  have HF := kf f1 HF
  have P1 := hid (P1.out.fr f1)
  have HN := hid hn
  have HI2 := hid hi
  clear f1 hn hi hc
  go_wp2_with (((with_reducible refine stJ rfl (.tmp 4) (.tmp 21) rfl (w.heap.size + 1) ?_ (st' := st') (z' := z') (A' := B') (l' := m') (c' := d') (sp' := sp') (nx' := nx') ?_ P1.out ?_); (· rfl); (· rfl); intro W' hb hf; have HB := hid hb; have HF := kfg (by omega) HF hf; clear hb hf))
  exact bodyPost_ret (v := .agg #[.int .i64 st', .int .i64 z', .slice B' m' d', .int .i64 sp', .int .i64 nx']) (resJ rfl _ _ (w.heap.size + 1) st' z' B' m' d' sp' nx' rfl HB.out) rfl (RetJ.mk HN.out HI2.out HF.out)
set_option maxRecDepth 100000 in
set_option maxHeartbeats 2000000 in
theorem touch_3n (z : Int) (A : Option Addr) (l c : Nat) (sp nx : Int) (bs : List Int) (band : Int) (w0 w : World) (h0 : InI w0 A l c bs) (hi : InI w A l c bs) (hb : bs ≠ []) (he : band ≠ bs.headD 0) :
    Calls Try.prog 92 #[.agg #[.int .i64 3, .int .i64 z, .slice A l c, .int .i64 sp, .int .i64 nx], .int .i64 band] w fun r w' => RetJ w0 w ⟨3, z, bs, sp, nx⟩ r w' := by
  have HF := hid ((fr1 w (oJ 3 z A l c sp nx)).alloc (oJ 0 0 none 0 0 0 0))
  have P0 := hid ((BJ.at_ (w := w) (g := w.heap.size) 3 z A l c sp nx rfl).up (oJ 0 0 none 0 0 0 0))
  have P1 := hid (BJ.at_ (w := w.alloc (oJ 3 z A l c sp nx)) (g := w.heap.size + 1) 0 0 none 0 0 0 0 (by simp))
  have HIW := hid h0
  have HI := hid (hi.fr HF.out)
  obtain ⟨g, o, hA, hl, hc⟩ := HI.out.head hb
  obtain ⟨x, hx⟩ : ∃ x, bs.headD 0 = x := ⟨_, rfl⟩
  rw [hx] at hc he
  have hl2 : (0 : Int) < l := by omega
  clear hi hb hx h0
  subst hA
  have eb : (band == x) = false := by simpa using he
  clear he
  go_enter Try.func92, Try.ntmps92
  go_wp2_with fail
  exact bodyPost_ret (v := .agg #[.int .i64 3, .int .i64 z, .slice (some ⟨g, o, none⟩) l c, .int .i64 sp, .int .i64 nx]) (resJ rfl _ _ (w.heap.size + 1) 3 z (some ⟨g, o, none⟩) l c sp nx rfl (BJ.at_ (w := w.alloc (oJ 3 z (some ⟨g, o, none⟩) l c sp nx)) 3 z (some ⟨g, o, none⟩) l c sp nx (by simp))) rfl (RetJ.mk (j := ⟨3, z, bs, sp, nx⟩) rfl HIW.out ((fr1 w (oJ 3 z (some ⟨g, o, none⟩) l c sp nx)).alloc (oJ 3 z (some ⟨g, o, none⟩) l c sp nx)))
set_option maxRecDepth 100000 in
set_option maxHeartbeats 2000000 in
theorem touch_2y (z : Int) (A : Option Addr) (l c : Nat) (sp nx : Int) (bs : List Int) (band : Int) (w0 w : World) (h0 : InI w0 A l c bs) (hi : InI w A l c bs) (hb : bs ≠ []) (he : band = bs.headD 0) :
    Calls Try.prog 92 #[.agg #[.int .i64 2, .int .i64 z, .slice A l c, .int .i64 sp, .int .i64 nx], .int .i64 band] w fun r w' => RetJ w0 w (nextJ z bs) r w' := by
  have HF := hid ((fr1 w (oJ 2 z A l c sp nx)).alloc (oJ 0 0 none 0 0 0 0))
  have P0 := hid ((BJ.at_ (w := w) (g := w.heap.size) 2 z A l c sp nx rfl).up (oJ 0 0 none 0 0 0 0))
  have P1 := hid (BJ.at_ (w := w.alloc (oJ 2 z A l c sp nx)) (g := w.heap.size + 1) 0 0 none 0 0 0 0 (by simp))
  have HIW := hid h0
  have HI := hid (hi.fr HF.out)
  obtain ⟨g, o, hA, hl, hc⟩ := HI.out.head hb
  obtain ⟨x, hx⟩ : ∃ x, bs.headD 0 = x := ⟨_, rfl⟩
  rw [hx] at hc he
  have hl2 : (0 : Int) < l := by omega
  clear hi hb hx h0
  subst he
  subst hA
  have eb : (band == band) = true := by simp
  go_enter Try.func92, Try.ntmps92
  go_wp2_with fail
  refine (without_ok2 _ _ _ _ bs w0 _ HIW.out HI.out).mono ?_
  rintro r w1 ⟨st', sp', nx', z', B', m', d', rfl, hn, hi, f1⟩
  have HF := kf f1 HF
  have P1 := hid (P1.out.fr f1)
  have HN := hid hn
  have HI2 := hid hi
  clear f1 hn hi hc
  go_wp2_with (((with_reducible refine stJ rfl (.tmp 4) (.tmp 21) rfl (w.heap.size + 1) ?_ (st' := st') (z' := z') (A' := B') (l' := m') (c' := d') (sp' := sp') (nx' := nx') ?_ P1.out ?_); (· rfl); (· rfl); intro W' hb hf; have HB := hid hb; have HF := kfg (by omega) HF hf; clear hb hf))
  exact bodyPost_ret (v := .agg #[.int .i64 st', .int .i64 z', .slice B' m' d', .int .i64 sp', .int .i64 nx']) (resJ rfl _ _ (w.heap.size + 1) st' z' B' m' d' sp' nx' rfl HB.out) rfl (RetJ.mk HN.out HI2.out HF.out)
set_option maxRecDepth 100000 in
set_option maxHeartbeats 2000000 in
theorem touch_2n (z : Int) (A : Option Addr) (l c : Nat) (sp nx : Int) (bs : List Int) (band : Int) (w0 w : World) (h0 : InI w0 A l c bs) (hi : InI w A l c bs) (hb : bs ≠ []) (he : band ≠ bs.headD 0) :
    Calls Try.prog 92 #[.agg #[.int .i64 2, .int .i64 z, .slice A l c, .int .i64 sp, .int .i64 nx], .int .i64 band] w fun r w' => RetJ w0 w ⟨2, z, bs, sp, nx⟩ r w' := by
  have HF := hid ((fr1 w (oJ 2 z A l c sp nx)).alloc (oJ 0 0 none 0 0 0 0))
  have P0 := hid ((BJ.at_ (w := w) (g := w.heap.size) 2 z A l c sp nx rfl).up (oJ 0 0 none 0 0 0 0))
  have P1 := hid (BJ.at_ (w := w.alloc (oJ 2 z A l c sp nx)) (g := w.heap.size + 1) 0 0 none 0 0 0 0 (by simp))
  have HIW := hid h0
  have HI := hid (hi.fr HF.out)
  obtain ⟨g, o, hA, hl, hc⟩ := HI.out.head hb
  obtain ⟨x, hx⟩ : ∃ x, bs.headD 0 = x := ⟨_, rfl⟩
  rw [hx] at hc he
  have hl2 : (0 : Int) < l := by omega
  clear hi hb hx h0
  subst hA
  have eb : (band == x) = false := by simpa using he
  clear he
  go_enter Try.func92, Try.ntmps92
  go_wp2_with fail
  exact bodyPost_ret (v := .agg #[.int .i64 2, .int .i64 z, .slice (some ⟨g, o, none⟩) l c, .int .i64 sp, .int .i64 nx]) (resJ rfl _ _ (w.heap.size + 1) 2 z (some ⟨g, o, none⟩) l c sp nx rfl (BJ.at_ (w := w.alloc (oJ 2 z (some ⟨g, o, none⟩) l c sp nx)) 2 z (some ⟨g, o, none⟩) l c sp nx (by simp))) rfl (RetJ.mk (j := ⟨2, z, bs, sp, nx⟩) rfl HIW.out ((fr1 w (oJ 2 z (some ⟨g, o, none⟩) l c sp nx)).alloc (oJ 2 z (some ⟨g, o, none⟩) l c sp nx)))
set_option maxRecDepth 100000 in
set_option maxHeartbeats 2000000 in
theorem touch_4y (z : Int) (A : Option Addr) (l c : Nat) (sp nx : Int) (bs : List Int) (band : Int) (w0 w : World) (h0 : InI w0 A l c bs) (hi : InI w A l c bs) (hb : bs ≠ []) (he : band = bs.headD 0) :
    Calls Try.prog 92 #[.agg #[.int .i64 4, .int .i64 z, .slice A l c, .int .i64 sp, .int .i64 nx], .int .i64 band] w fun r w' => RetJ w0 w (nextJ z bs) r w' := by
  have HF := hid ((fr1 w (oJ 4 z A l c sp nx)).alloc (oJ 0 0 none 0 0 0 0))
  have P0 := hid ((BJ.at_ (w := w) (g := w.heap.size) 4 z A l c sp nx rfl).up (oJ 0 0 none 0 0 0 0))
  have P1 := hid (BJ.at_ (w := w.alloc (oJ 4 z A l c sp nx)) (g := w.heap.size + 1) 0 0 none 0 0 0 0 (by simp))
  have HIW := hid h0
  have HI := hid (hi.fr HF.out)
  obtain ⟨g, o, hA, hl, hc⟩ := HI.out.head hb
  obtain ⟨x, hx⟩ : ∃ x, bs.headD 0 = x := ⟨_, rfl⟩
  rw [hx] at hc he
  have hl2 : (0 : Int) < l := by omega
  clear hi hb hx h0
  subst he
  subst hA
  have eb : (band == band) = true := by simp
  go_enter Try.func92, Try.ntmps92
  go_wp2_with fail
  refine (without_ok2 _ _ _ _ bs w0 _ HIW.out HI.out).mono ?_
  rintro r w1 ⟨st', sp', nx', z', B', m', d', rfl, hn, hi, f1⟩
  have HF := kf f1 HF
  have P1 := hid (P1.out.fr f1)
  have HN := hid hn
  have HI2 := hid hi
  clear f1 hn hi hc
  go_wp2_with (((with_reducible refine stJ rfl (.tmp 4) (.tmp 21) rfl (w.heap.size + 1) ?_ (st' := st') (z' := z') (A' := B') (l' := m') (c' := d') (sp' := sp') (nx' := nx') ?_ P1.out ?_); (· rfl); (· rfl); intro W' hb hf; have HB := hid hb; have HF := kfg (by omega) HF hf; clear hb hf))
  exact bodyPost_ret (v := .agg #[.int .i64 st', .int .i64 z', .slice B' m' d', .int .i64 sp', .int .i64 nx']) (resJ rfl _ _ (w.heap.size + 1) st' z' B' m' d' sp' nx' rfl HB.out) rfl (RetJ.mk HN.out HI2.out HF.out)
set_option maxRecDepth 100000 in
set_option maxHeartbeats 2000000 in
theorem touch_4n (z : Int) (A : Option Addr) (l c : Nat) (sp nx : Int) (bs : List Int) (band : Int) (w0 w : World) (h0 : InI w0 A l c bs) (hi : InI w A l c bs) (hb : bs ≠ []) (he : band ≠ bs.headD 0) :
    Calls Try.prog 92 #[.agg #[.int .i64 4, .int .i64 z, .slice A l c, .int .i64 sp, .int .i64 nx], .int .i64 band] w fun r w' => RetJ w0 w ⟨4, z, bs, sp, nx⟩ r w' := by
  have HF := hid ((fr1 w (oJ 4 z A l c sp nx)).alloc (oJ 0 0 none 0 0 0 0))
  have P0 := hid ((BJ.at_ (w := w) (g := w.heap.size) 4 z A l c sp nx rfl).up (oJ 0 0 none 0 0 0 0))
  have P1 := hid (BJ.at_ (w := w.alloc (oJ 4 z A l c sp nx)) (g := w.heap.size + 1) 0 0 none 0 0 0 0 (by simp))
  have HIW := hid h0
  have HI := hid (hi.fr HF.out)
  obtain ⟨g, o, hA, hl, hc⟩ := HI.out.head hb
  obtain ⟨x, hx⟩ : ∃ x, bs.headD 0 = x := ⟨_, rfl⟩
  rw [hx] at hc he
  have hl2 : (0 : Int) < l := by omega
  clear hi hb hx h0
  subst hA
  have eb : (band == x) = false := by simpa using he
  clear he
  go_enter Try.func92, Try.ntmps92
  go_wp2_with fail
  exact bodyPost_ret (v := .agg #[.int .i64 4, .int .i64 z, .slice (some ⟨g, o, none⟩) l c, .int .i64 sp, .int .i64 nx]) (resJ rfl _ _ (w.heap.size + 1) 4 z (some ⟨g, o, none⟩) l c sp nx rfl (BJ.at_ (w := w.alloc (oJ 4 z (some ⟨g, o, none⟩) l c sp nx)) 4 z (some ⟨g, o, none⟩) l c sp nx (by simp))) rfl (RetJ.mk (j := ⟨4, z, bs, sp, nx⟩) rfl HIW.out ((fr1 w (oJ 4 z (some ⟨g, o, none⟩) l c sp nx)).alloc (oJ 4 z (some ⟨g, o, none⟩) l c sp nx)))
set_option maxRecDepth 100000 in
set_option maxHeartbeats 2000000 in
theorem touch_no (st z : Int) (A : Option Addr) (l c : Nat) (sp nx : Int) (bs : List Int) (band : Int) (w0 w : World) (h0 : InI w0 A l c bs) (_hi : InI w A l c bs) (h : st ≠ 2 ∧ st ≠ 3 ∧ st ≠ 4) :
    Calls Try.prog 92 #[.agg #[.int .i64 st, .int .i64 z, .slice A l c, .int .i64 sp, .int .i64 nx], .int .i64 band] w fun r w' => RetJ w0 w ⟨st, z, bs, sp, nx⟩ r w' := by
  have HIW := hid h0
  have e2 : (st == 2) = false := by simpa using h.1
  have e3 : (st == 3) = false := by simpa using h.2.1
  have e4 : (st == 4) = false := by simpa using h.2.2
  clear _hi h h0
  go_enter Try.func92, Try.ntmps92
  go_wp2_with fail
  exact bodyPost_ret (v := .agg #[.int .i64 st, .int .i64 z, .slice A l c, .int .i64 sp, .int .i64 nx]) (resJ rfl _ _ (w.heap.size + 1) st z A l c sp nx rfl (BJ.at_ (w := w.alloc (oJ st z A l c sp nx)) st z A l c sp nx (by simp))) rfl (RetJ.mk (j := ⟨st, z, bs, sp, nx⟩) rfl HIW.out ((fr1 w (oJ st z A l c sp nx)).alloc (oJ st z A l c sp nx)))
set_option maxRecDepth 100000 in
set_option maxHeartbeats 2000000 in
theorem touched_ok (st z : Int) (A : Option Addr) (l c : Nat) (sp nx : Int) (bs : List Int) (band : Int) (w0 w : World) (h0 : InI w0 A l c bs) (hi : InI w A l c bs) (hb : st = 2 ∨ st = 3 ∨ st = 4 → bs ≠ []) :
    Calls Try.prog 92 #[.agg #[.int .i64 st, .int .i64 z, .slice A l c, .int .i64 sp, .int .i64 nx], .int .i64 band] w fun r w' => RetJ w0 w (touchJ ⟨st, z, bs, sp, nx⟩ band) r w' := by
  by_cases h : st = 2 ∨ st = 3 ∨ st = 4
  · have hne := hb h
    clear hb
    by_cases he : band = bs.headD 0
    · rw [show touchJ ⟨st, z, bs, sp, nx⟩ band = nextJ z bs by unfold touchJ; rw [if_pos ⟨h, he⟩]]
      rcases h with rfl | rfl | rfl
      · exact touch_2y z A l c sp nx bs band w0 w h0 hi hne he
      · exact touch_3y z A l c sp nx bs band w0 w h0 hi hne he
      · exact touch_4y z A l c sp nx bs band w0 w h0 hi hne he
    · rw [show touchJ ⟨st, z, bs, sp, nx⟩ band = ⟨st, z, bs, sp, nx⟩ by unfold touchJ; rw [if_neg (fun k => he k.2)]]
      rcases h with rfl | rfl | rfl
      · exact touch_2n z A l c sp nx bs band w0 w h0 hi hne he
      · exact touch_3n z A l c sp nx bs band w0 w h0 hi hne he
      · exact touch_4n z A l c sp nx bs band w0 w h0 hi hne he
  · rw [show touchJ ⟨st, z, bs, sp, nx⟩ band = ⟨st, z, bs, sp, nx⟩ by unfold touchJ; rw [if_neg (fun k => h k.1)]]
    exact touch_no st z A l c sp nx bs band w0 w h0 hi (by simpa using h)
/-- The table of turns lies in block gt, the way that it took along in block gw. -/
structure TU (w : World) (gt gw : Nat) (gc gs gn gl gk b d ch : Int) : Prop where
  hw : BW w gw gc gs gn gl gk b d ch
  ht : Blk w gt 120 #[.nilFunc, .func (.func 93) #[] #[], .func (.func 95) #[] #[], .func (.func 97) #[] #[.pointer (some ⟨gw, 0, none⟩)], .func (.func 96) #[] #[], .func (.func 98) #[] #[], .func (.func 99) #[] #[]]
theorem TU.fr {w w' : World} {gt gw : Nat} {gc gs gn gl gk b d ch : Int} (h : TU w gt gw gc gs gn gl gk b d ch) (f : Fr No w w') : TU w' gt gw gc gs gn gl gk b d ch := ⟨h.hw.fr f, h.ht.fr f (fun h => h)⟩
theorem TU.far {w w' : World} {gt gw q : Nat} {gc gs gn gl gk b d ch : Int} (h : TU w gt gw gc gs gn gl gk b d ch) (f : Fr (fun k => k = q) w w') (h1 : gt ≠ q) (h2 : gw ≠ q) : TU w' gt gw gc gs gn gl gk b d ch := ⟨h.hw.far f h2, h.ht.fr f h1⟩
theorem TU.cells {w : World} {gt gw : Nat} {gc gs gn gl gk b d ch : Int} (h : TU w gt gw gc gs gn gl gk b d ch) :
    w.cell? ⟨gt, 1, none⟩ = some (.func (.func 93) #[] #[]) ∧ w.cell? ⟨gt, 2, none⟩ = some (.func (.func 95) #[] #[]) ∧ w.cell? ⟨gt, 3, none⟩ = some (.func (.func 97) #[] #[.pointer (some ⟨gw, 0, none⟩)]) ∧ w.cell? ⟨gt, 4, none⟩ = some (.func (.func 96) #[] #[]) ∧ w.cell? ⟨gt, 5, none⟩ = some (.func (.func 98) #[] #[]) ∧ w.cell? ⟨gt, 6, none⟩ = some (.func (.func 99) #[] #[]) :=
  ⟨h.ht.cell 1, h.ht.cell 2, h.ht.cell 3, h.ht.cell 4, h.ht.cell 5, h.ht.cell 6⟩
set_option maxRecDepth 100000 in
set_option maxHeartbeats 2000000 in
theorem turns_ok (gc gs gn gl gk b d ch : Int) (w : World) :
    Calls Try.prog 74 #[.agg #[.int .i64 gc, .int .i64 gs, .int .i64 gn, .int .i64 gl, .int .i64 gk, .int .i64 b, .int .i64 d, .int .i64 ch]] w fun r w' => ∃ gt gw, r = .returned (.slice (some ⟨gt, 0, none⟩) 7 7) ∧ TU w' gt gw gc gs gn gl gk b d ch ∧ w.heap.size ≤ gt ∧ w.heap.size ≤ gw ∧ Fr No w w' := by
  go_enter Try.func74, Try.ntmps74
  go_wp2_with fail
  go_ret
  exact ⟨w.heap.size + 1, w.heap.size, rfl, ⟨(BW.at_ gc gs gn gl gk b d ch rfl).up _, blk_at (by simp)⟩, by omega, Nat.le_refl _, ((fr1 w (oW gc gs gn gl gk b d ch)).alloc _)⟩
end Go.Proofs.Ytgjcpepfggkieaa.ClJ
