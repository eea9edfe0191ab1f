/- The document's lives: what must come of every program. Condition: none. -/
import Derived.Test.YtgjcpepfggkieaaClP
namespace Go.Proofs.Ytgjcpepfggkieaa.ClU
open Go.RowKit MSep MGeM GeA GeC GeD PlA PlB ClM ClA ClE ClB ClC ClD ClG ClH ClI ClJ ClK ClL ClN ClP

set_option maxRecDepth 100000 in
set_option maxHeartbeats 2000000 in
theorem geom_ok (w : World) : Calls Try.prog 64 #[] w fun e w' => e = .returned (.agg #[.int .i64 2, .int .i64 6, .int .i64 16, .int .i64 3, .int .i64 2]) ∧ Fr No w w' := by
  go_enter Try.func64, Try.ntmps64
  go_wp2
  exact bodyPost_ret (v := .agg #[.int .i64 2, .int .i64 6, .int .i64 16, .int .i64 3, .int .i64 2]) (by simp [results, Try.results64, go_sem]) rfl ⟨rfl, fr1 _ _⟩
set_option maxRecDepth 100000 in
theorem small_ok (st z : Int) (A : Option Addr) (l c : Nat) (sp nx : Int) (_bs : List Int) (k dz db : Int) (B : Option Addr) (m e : Nat) (R : Bool) (w : World) (hR : decide (l ≤ 100 ∧ m ≤ 100) = R) :
    Calls Try.prog 30 #[.agg #[.int .i64 st, .int .i64 z, .slice A l c, .int .i64 sp, .int .i64 nx], .agg #[.int .i64 k, .int .i64 dz, .int .i64 db, .slice B m e]] w fun r w' => r = .returned (.bool R) ∧ Fr No w w' := by
  have HR := hid hR
  have HF := hid ((fr1 w (oJ st z A l c sp nx)).alloc (oD k dz db B m e))
  clear hR
  by_cases h1 : l ≤ 100
  · have e1 : decide ((l : Int) ≤ 100) = true := decide_eq_true (by omega)
    have HV := hid (show R = decide ((m : Int) ≤ 100) by rw [← HR.out, decide_eq_decide]; omega)
    have e1n : decide (l ≤ 100) = true := decide_eq_true h1
    clear h1
    go_enter Try.func30, Try.ntmps30
    go_wp2_with fail
    go_ret
    exact ⟨retb HV.out.symm, HF.out⟩
  · have e1 : decide ((l : Int) ≤ 100) = false := decide_eq_false (by omega)
    have HV := hid (show R = false by rw [← HR.out]; exact decide_eq_false (by omega))
    have e1n : decide (l ≤ 100) = false := decide_eq_false h1
    clear h1
    go_enter Try.func30, Try.ntmps30
    go_wp2_with fail
    go_ret
    exact ⟨retb HV.out.symm, HF.out⟩
theorem RetA.get {w w' : World} {st z sp nx er : Int} {bs : List Int} {e : Ending} (h : RetA w (⟨st, z, bs, sp, nx⟩, er) e w') :
    ∃ A l c, e = .returned (.tuple #[.agg #[.int .i64 st, .int .i64 z, .slice A l c, .int .i64 sp, .int .i64 nx], .int .i64 er]) ∧ InI w' A l c bs ∧ Fr No w w' := by
  obtain ⟨st', z', A, l, c, sp', nx', er', h1, h2, h3, h4⟩ := h
  simp only [Prod.mk.injEq, Jb.mk.injEq] at h2
  obtain ⟨⟨rfl, rfl, _, rfl, rfl⟩, rfl⟩ := h2
  exact ⟨A, l, c, h1, h3, h4⟩
theorem w1v : wanA ⟨2, 6, 16, 3, 2⟩ 4 ⟨0, 255, [], 255, 0⟩ = ((1, 0, 0, 0, 0), 0) := by decide
theorem a1v : aftA ⟨2, 6, 16, 3, 2⟩ 4 ⟨0, 255, [], 255, 0⟩ ⟨1, 3, 0, [1]⟩ = (⟨1, 3, [1], 255, 0⟩, 0) := by decide
theorem a2v : aftA ⟨2, 6, 16, 3, 2⟩ 4 ⟨1, 3, [1], 255, 0⟩ ⟨2, 5, 0, []⟩ = (⟨3, 3, [1], 5, 0⟩, 0) := by decide
theorem a3v : aftA ⟨2, 6, 16, 3, 2⟩ 4 ⟨3, 3, [1], 5, 0⟩ ⟨4, 0, 0, []⟩ = (⟨2, 3, [1], 5, 0⟩, 0) := by decide
theorem a4v : aftA ⟨2, 6, 16, 3, 2⟩ 4 ⟨1, 3, [1], 255, 0⟩ ⟨3, 0, 0, []⟩ = (⟨0, 0, [], 0, 0⟩, 52) := by decide
theorem w2v : wanA ⟨2, 6, 16, 3, 2⟩ 4 ⟨2, 3, [1], 5, 0⟩ = ((3, 1, 5, 0, 4), 0) := by decide
theorem l1v : lefA ⟨2, 6, 16, 3, 2⟩ 4 ⟨1, 3, [1], 255, 0⟩ = 8 := by decide
theorem m1v : mayB ⟨2, 6, 16, 3, 2⟩ ⟨2, 3, [1], 5, 0⟩ = true := by decide
theorem s1v : decide ((⟨2, 3, [1], 5, 0⟩ : Jb) = ⟨2, 3, [1], 5, 0⟩) = true := by decide
theorem s2v : decide ((⟨1, 3, [1], 255, 0⟩ : Jb) = ⟨2, 3, [1], 5, 0⟩) = false := by decide
theorem bnd6 : -9223372036854775808 ≤ (6 : Int) ∧ (6 : Int) ≤ 9223372036854775807 := by decide
theorem in255 : inI 255 := by unfold inI; decide
theorem in3 : inI 3 := by unfold inI; decide
theorem in5 : inI 5 := by unfold inI; decide
theorem in0 : inI 0 := by unfold inI; decide
theorem lit1 (w : World) : InI (w.alloc (.cells #[.int .i64 1] 3)) (some ⟨w.heap.size, 0, none⟩) 1 1 [1] := ⟨lit_i w 1, Nat.le_refl _, by simp [maxLen]⟩
theorem c_w1 (w : World) : Calls Try.prog 32 #[.agg #[.int .i64 2, .int .i64 6, .int .i64 16, .int .i64 3, .int .i64 2], .int .i64 4, .agg #[.int .i64 0, .int .i64 255, .slice none 0 0, .int .i64 255, .int .i64 0]] w fun r w' => r = .returned (.tuple #[.agg #[.int .i64 1, .int .i64 0, .int .i64 0, .int .i64 0, .int .i64 0], .int .i64 0]) ∧ Fr No w w' := by
  have h := pWants_ok 2 6 16 3 2 4 0 255 none 0 0 255 0 [] w bnd6 in255 in255 (InI.nil _)
  rw [w1v] at h
  exact h
theorem c_w2 (A : Option Addr) (l c : Nat) (w : World) (hi : InI w A l c [1]) : Calls Try.prog 32 #[.agg #[.int .i64 2, .int .i64 6, .int .i64 16, .int .i64 3, .int .i64 2], .int .i64 4, .agg #[.int .i64 2, .int .i64 3, .slice A l c, .int .i64 5, .int .i64 0]] w fun r w' => r = .returned (.tuple #[.agg #[.int .i64 3, .int .i64 1, .int .i64 5, .int .i64 0, .int .i64 4], .int .i64 0]) ∧ Fr No w w' := by
  have h := pWants_ok 2 6 16 3 2 4 2 3 A l c 5 0 [1] w bnd6 in3 in5 hi
  rw [w2v] at h
  exact h
theorem c_a1 (B : Option Addr) (m e : Nat) (w : World) (hy : InI w B m e [1]) : Calls Try.prog 38 #[.agg #[.int .i64 2, .int .i64 6, .int .i64 16, .int .i64 3, .int .i64 2], .int .i64 4, .agg #[.int .i64 0, .int .i64 255, .slice none 0 0, .int .i64 255, .int .i64 0], .agg #[.int .i64 1, .int .i64 3, .int .i64 0, .slice B m e]] w fun r w' => ∃ A l c, r = .returned (.tuple #[.agg #[.int .i64 1, .int .i64 3, .slice A l c, .int .i64 255, .int .i64 0], .int .i64 0]) ∧ InI w' A l c [1] ∧ Fr No w w' := by
  have h := pAfter_ok 2 6 16 3 2 4 0 255 none 0 0 255 0 [] 1 3 0 B m e [1] w bnd6 in255 in255 in3 (InI.nil _) hy (by omega) (by have := hy.len; simp at this; omega)
  rw [a1v] at h
  exact h.mono fun _ _ h => RetA.get h
theorem c_a2 (A : Option Addr) (l c : Nat) (w : World) (hi : InI w A l c [1]) : Calls Try.prog 38 #[.agg #[.int .i64 2, .int .i64 6, .int .i64 16, .int .i64 3, .int .i64 2], .int .i64 4, .agg #[.int .i64 1, .int .i64 3, .slice A l c, .int .i64 255, .int .i64 0], .agg #[.int .i64 2, .int .i64 5, .int .i64 0, .slice none 0 0]] w fun r w' => ∃ A l c, r = .returned (.tuple #[.agg #[.int .i64 3, .int .i64 3, .slice A l c, .int .i64 5, .int .i64 0], .int .i64 0]) ∧ InI w' A l c [1] ∧ Fr No w w' := by
  have h := pAfter_ok 2 6 16 3 2 4 1 3 A l c 255 0 [1] 2 5 0 none 0 0 [] w bnd6 in3 in255 in5 hi (InI.nil _) (by have := hi.len; simp at this; omega) (by omega)
  rw [a2v] at h
  exact h.mono fun _ _ h => RetA.get h
theorem c_a3 (A : Option Addr) (l c : Nat) (w : World) (hi : InI w A l c [1]) : Calls Try.prog 38 #[.agg #[.int .i64 2, .int .i64 6, .int .i64 16, .int .i64 3, .int .i64 2], .int .i64 4, .agg #[.int .i64 3, .int .i64 3, .slice A l c, .int .i64 5, .int .i64 0], .agg #[.int .i64 4, .int .i64 0, .int .i64 0, .slice none 0 0]] w fun r w' => ∃ A l c, r = .returned (.tuple #[.agg #[.int .i64 2, .int .i64 3, .slice A l c, .int .i64 5, .int .i64 0], .int .i64 0]) ∧ InI w' A l c [1] ∧ Fr No w w' := by
  have h := pAfter_ok 2 6 16 3 2 4 3 3 A l c 5 0 [1] 4 0 0 none 0 0 [] w bnd6 in3 in5 in0 hi (InI.nil _) (by have := hi.len; simp at this; omega) (by omega)
  rw [a3v] at h
  exact h.mono fun _ _ h => RetA.get h
theorem c_a4 (A : Option Addr) (l c : Nat) (w : World) (hi : InI w A l c [1]) : Calls Try.prog 38 #[.agg #[.int .i64 2, .int .i64 6, .int .i64 16, .int .i64 3, .int .i64 2], .int .i64 4, .agg #[.int .i64 1, .int .i64 3, .slice A l c, .int .i64 255, .int .i64 0], .agg #[.int .i64 3, .int .i64 0, .int .i64 0, .slice none 0 0]] w fun r w' => ∃ A l c, r = .returned (.tuple #[.agg #[.int .i64 0, .int .i64 0, .slice A l c, .int .i64 0, .int .i64 0], .int .i64 52]) ∧ InI w' A l c [] ∧ Fr No w w' := by
  have h := pAfter_ok 2 6 16 3 2 4 1 3 A l c 255 0 [1] 3 0 0 none 0 0 [] w bnd6 in3 in255 in0 hi (InI.nil _) (by have := hi.len; simp at this; omega) (by omega)
  rw [a4v] at h
  exact h.mono fun _ _ h => RetA.get h
theorem c_l1 (A : Option Addr) (l c : Nat) (w : World) (hi : InI w A l c [1]) : Calls Try.prog 42 #[.agg #[.int .i64 2, .int .i64 6, .int .i64 16, .int .i64 3, .int .i64 2], .int .i64 4, .agg #[.int .i64 1, .int .i64 3, .slice A l c, .int .i64 255, .int .i64 0]] w fun r w' => r = .returned (.int .i64 8) ∧ Fr No w w' := by
  have h := pLeft_ok 2 6 16 3 2 4 1 3 A l c 255 0 [1] w bnd6 in3 in255 hi
  rw [l1v] at h
  exact h
theorem c_m1 (A : Option Addr) (l c : Nat) (w : World) (hi : InI w A l c [1]) : Calls Try.prog 34 #[.agg #[.int .i64 2, .int .i64 6, .int .i64 16, .int .i64 3, .int .i64 2], .agg #[.int .i64 2, .int .i64 3, .slice A l c, .int .i64 5, .int .i64 0]] w fun r w' => r = .returned (.bool true) ∧ Fr No w w' := by
  have h := may_ok 2 6 16 3 2 2 3 A l c 5 0 [1] w bnd6 in3 in5 hi
  rw [m1v] at h
  exact h
theorem c_s1 (A : Option Addr) (l c : Nat) (w : World) (hi : InI w A l c [1]) : Calls Try.prog 44 #[.agg #[.int .i64 2, .int .i64 3, .slice A l c, .int .i64 5, .int .i64 0], .agg #[.int .i64 2, .int .i64 3, .slice A l c, .int .i64 5, .int .i64 0]] w fun r w' => r = .returned (.bool true) ∧ Fr No w w' := by
  have h := same_ok 2 3 A l c 5 0 [1] 2 3 A l c 5 0 [1] w hi hi
  rw [s1v] at h
  exact h
theorem c_s2 (A : Option Addr) (l c : Nat) (B : Option Addr) (m e : Nat) (w : World) (hi : InI w A l c [1]) (hy : InI w B m e [1]) : Calls Try.prog 44 #[.agg #[.int .i64 1, .int .i64 3, .slice A l c, .int .i64 255, .int .i64 0], .agg #[.int .i64 2, .int .i64 3, .slice B m e, .int .i64 5, .int .i64 0]] w fun r w' => r = .returned (.bool false) ∧ Fr No w w' := by
  have h := same_ok 1 3 A l c 255 0 [1] 2 3 B m e 5 0 [1] w hi hy
  rw [s2v] at h
  exact h
theorem c_h1 (A : Option Addr) (l c : Nat) (w : World) : Calls Try.prog 33 #[.agg #[.int .i64 2, .int .i64 3, .slice A l c, .int .i64 5, .int .i64 0]] w fun r w' => r = .returned (.tuple #[.int .i64 5, .bool true]) ∧ Fr No w w' := holds_ok 2 3 A l c 5 0 [1] w
set_option maxRecDepth 100000 in
set_option maxHeartbeats 2000000 in
theorem lives_ok (w : World) : Calls Try.prog 31 #[] w fun e w' => e = .returned (.bool true) ∧ Fr No w w' := by
  go_enter Try.func31, Try.ntmps31
  go_wp2_with fail
  refine (geom_ok _).mono ?_
  rintro e w1 ⟨rfl, f1⟩
  have HF := hid (f1.alloc (bg 2 6 16 3 2))
  have P1 := hid (BG.new w1 2 6 16 3 2)
  obtain ⟨b1, hb⟩ : ∃ x, w1.heap.size = x := ⟨_, rfl⟩
  rw [hb] at P1
  clear f1
  go_wp2_with fail
  refine (idle_ok _).mono ?_
  rintro e w2 ⟨rfl, f2⟩
  try rw [hb]
  clear hb
  have HF := hid ((HF.out.trans f2).alloc (oJ 0 255 none 0 0 255 0))
  have P1 := hid (show BG (w2.alloc (oJ 0 255 none 0 0 255 0)) b1 2 6 16 3 2 from (Blk.fr P1.out f2 (fun h => h)).alloc _)
  have P2 := hid (BJ.at_ (w := w2) 0 255 none 0 0 255 0 rfl)
  obtain ⟨b2, hb⟩ : ∃ x, w2.heap.size = x := ⟨_, rfl⟩
  rw [hb] at P2
  clear f2
  go_wp2_with (first | ((with_reducible refine ld_geom rfl (.tmp 1) rfl b1 ?_ P1.out ?_); · rfl) | ((with_reducible refine ldJ rfl (.tmp 2) rfl b2 ?_ P2.out ?_); · rfl))
  refine (c_w1 _).mono ?_
  rintro e w3 ⟨rfl, f3⟩
  try rw [hb]
  clear hb
  have HF := hid ((HF.out.trans f3).alloc (oT 1 0 0 0 0))
  have P1 := hid (show BG (w3.alloc (oT 1 0 0 0 0)) b1 2 6 16 3 2 from (Blk.fr P1.out f3 (fun h => h)).alloc _)
  have P2 := hid ((P2.out.fr f3).up (oT 1 0 0 0 0))
  have P3 := hid (BT.at_ (w := w3) 1 0 0 0 0 rfl)
  obtain ⟨b3, hb⟩ : ∃ x, w3.heap.size = x := ⟨_, rfl⟩
  rw [hb] at P3
  clear f3
  go_wp2_with (first | ((with_reducible refine ld_geom rfl (.tmp 1) rfl b1 ?_ P1.out ?_); · rfl) | ((with_reducible refine ldJ rfl (.tmp 2) rfl b2 ?_ P2.out ?_); · rfl))
  try rw [hb]
  obtain ⟨w4, hw4⟩ : ∃ x, World.alloc (w3.alloc (oT 1 0 0 0 0)) (.cells #[.int .i64 1] 3) = x := ⟨_, rfl⟩
  have F4 : Fr No (w3.alloc (oT 1 0 0 0 0)) w4 := hw4 ▸ fr1 _ _
  have L0 := hid (show InI w4 (some ⟨b3 + 1, 0, none⟩) 1 1 [1] by
    have h := lit1 (w3.alloc (oT 1 0 0 0 0))
    rw [World.size_alloc, hb] at h
    exact hw4 ▸ h)
  clear hb
  have HF := hid (HF.out.trans F4)
  have P1 := hid (show BG (w4) b1 2 6 16 3 2 from Blk.fr P1.out F4 (fun h => h))
  have P2 := hid (P2.out.fr F4)
  have P3 := hid (P3.out.fr F4)
  try rw [hw4]
  clear hw4 F4
  refine (c_a1 _ _ _ _ L0.out).mono ?_
  rintro e w5 ⟨A5, l5, c5, rfl, L5_, f5⟩
  have HF := hid ((HF.out.trans f5).alloc (oJ 1 3 A5 l5 c5 255 0))
  have P1 := hid (show BG (w5.alloc (oJ 1 3 A5 l5 c5 255 0)) b1 2 6 16 3 2 from (Blk.fr P1.out f5 (fun h => h)).alloc _)
  have P2 := hid ((P2.out.fr f5).up (oJ 1 3 A5 l5 c5 255 0))
  have P3 := hid ((P3.out.fr f5).up (oJ 1 3 A5 l5 c5 255 0))
  have P5 := hid (BJ.at_ (w := w5) 1 3 A5 l5 c5 255 0 rfl)
  obtain ⟨b5, hb⟩ : ∃ x, w5.heap.size = x := ⟨_, rfl⟩
  rw [hb] at P5
  have L5 := hid (L5_.fr (fr1 w5 (oJ 1 3 A5 l5 c5 255 0)))
  clear L5_ f5
  go_wp2_with (first | ((with_reducible refine ld_geom rfl (.tmp 1) rfl b1 ?_ P1.out ?_); · rfl) | ((with_reducible refine ldJ rfl (.tmp 5) rfl b5 ?_ P5.out ?_); · rfl))
  refine (c_a2 _ _ _ _ L5.out).mono ?_
  rintro e w6 ⟨A7, l7, c7, rfl, L7_, f6⟩
  try rw [hb]
  clear hb
  have HF := hid ((HF.out.trans f6).alloc (oJ 3 3 A7 l7 c7 5 0))
  have P1 := hid (show BG (w6.alloc (oJ 3 3 A7 l7 c7 5 0)) b1 2 6 16 3 2 from (Blk.fr P1.out f6 (fun h => h)).alloc _)
  have P2 := hid ((P2.out.fr f6).up (oJ 3 3 A7 l7 c7 5 0))
  have P3 := hid ((P3.out.fr f6).up (oJ 3 3 A7 l7 c7 5 0))
  have P5 := hid ((P5.out.fr f6).up (oJ 3 3 A7 l7 c7 5 0))
  have L5 := hid (L5.out.fr (f6.alloc (oJ 3 3 A7 l7 c7 5 0)))
  have P7 := hid (BJ.at_ (w := w6) 3 3 A7 l7 c7 5 0 rfl)
  obtain ⟨b7, hb⟩ : ∃ x, w6.heap.size = x := ⟨_, rfl⟩
  rw [hb] at P7
  have L7 := hid (L7_.fr (fr1 w6 (oJ 3 3 A7 l7 c7 5 0)))
  clear L7_
  clear f6
  go_wp2_with (first | ((with_reducible refine ld_geom rfl (.tmp 1) rfl b1 ?_ P1.out ?_); · rfl) | ((with_reducible refine ldJ rfl (.tmp 7) rfl b7 ?_ P7.out ?_); · rfl))
  refine (c_a3 _ _ _ _ L7.out).mono ?_
  rintro e w7 ⟨A9, l9, c9, rfl, L9_, f7⟩
  try rw [hb]
  clear hb
  have HF := hid ((HF.out.trans f7).alloc (oJ 2 3 A9 l9 c9 5 0))
  have P1 := hid (show BG (w7.alloc (oJ 2 3 A9 l9 c9 5 0)) b1 2 6 16 3 2 from (Blk.fr P1.out f7 (fun h => h)).alloc _)
  have P2 := hid ((P2.out.fr f7).up (oJ 2 3 A9 l9 c9 5 0))
  have P3 := hid ((P3.out.fr f7).up (oJ 2 3 A9 l9 c9 5 0))
  have P5 := hid ((P5.out.fr f7).up (oJ 2 3 A9 l9 c9 5 0))
  have P7 := hid ((P7.out.fr f7).up (oJ 2 3 A9 l9 c9 5 0))
  have L5 := hid (L5.out.fr (f7.alloc (oJ 2 3 A9 l9 c9 5 0)))
  have L7 := hid (L7.out.fr (f7.alloc (oJ 2 3 A9 l9 c9 5 0)))
  have P9 := hid (BJ.at_ (w := w7) 2 3 A9 l9 c9 5 0 rfl)
  obtain ⟨b9, hb⟩ : ∃ x, w7.heap.size = x := ⟨_, rfl⟩
  rw [hb] at P9
  have L9 := hid (L9_.fr (fr1 w7 (oJ 2 3 A9 l9 c9 5 0)))
  clear L9_
  clear f7
  go_wp2_with (first | ((with_reducible refine ld_geom rfl (.tmp 1) rfl b1 ?_ P1.out ?_); · rfl) | ((with_reducible refine ldJ rfl (.tmp 5) rfl b5 ?_ P5.out ?_); · rfl))
  refine (c_a4 _ _ _ _ L5.out).mono ?_
  rintro e w8 ⟨A11, l11, c11, rfl, L11_, f8⟩
  try rw [hb]
  clear hb
  have HF := hid ((HF.out.trans f8).alloc (oJ 0 0 A11 l11 c11 0 0))
  have P1 := hid (show BG (w8.alloc (oJ 0 0 A11 l11 c11 0 0)) b1 2 6 16 3 2 from (Blk.fr P1.out f8 (fun h => h)).alloc _)
  have P2 := hid ((P2.out.fr f8).up (oJ 0 0 A11 l11 c11 0 0))
  have P3 := hid ((P3.out.fr f8).up (oJ 0 0 A11 l11 c11 0 0))
  have P5 := hid ((P5.out.fr f8).up (oJ 0 0 A11 l11 c11 0 0))
  have P7 := hid ((P7.out.fr f8).up (oJ 0 0 A11 l11 c11 0 0))
  have P9 := hid ((P9.out.fr f8).up (oJ 0 0 A11 l11 c11 0 0))
  have L5 := hid (L5.out.fr (f8.alloc (oJ 0 0 A11 l11 c11 0 0)))
  have L7 := hid (L7.out.fr (f8.alloc (oJ 0 0 A11 l11 c11 0 0)))
  have L9 := hid (L9.out.fr (f8.alloc (oJ 0 0 A11 l11 c11 0 0)))
  have P11 := hid (BJ.at_ (w := w8) 0 0 A11 l11 c11 0 0 rfl)
  obtain ⟨b11, hb⟩ : ∃ x, w8.heap.size = x := ⟨_, rfl⟩
  rw [hb] at P11
  have L11 := hid (L11_.fr (fr1 w8 (oJ 0 0 A11 l11 c11 0 0)))
  clear L11_
  clear f8
  go_wp2_with (first | ((with_reducible refine ld_geom rfl (.tmp 1) rfl b1 ?_ P1.out ?_); · rfl) | ((with_reducible refine ldJ rfl (.tmp 9) rfl b9 ?_ P9.out ?_); · rfl))
  refine (c_w2 _ _ _ _ L9.out).mono ?_
  rintro e w9 ⟨rfl, f9⟩
  try rw [hb]
  clear hb
  have HF := hid ((HF.out.trans f9).alloc (oT 3 1 5 0 4))
  have P1 := hid (show BG (w9.alloc (oT 3 1 5 0 4)) b1 2 6 16 3 2 from (Blk.fr P1.out f9 (fun h => h)).alloc _)
  have P2 := hid ((P2.out.fr f9).up (oT 3 1 5 0 4))
  have P3 := hid ((P3.out.fr f9).up (oT 3 1 5 0 4))
  have P5 := hid ((P5.out.fr f9).up (oT 3 1 5 0 4))
  have P7 := hid ((P7.out.fr f9).up (oT 3 1 5 0 4))
  have P9 := hid ((P9.out.fr f9).up (oT 3 1 5 0 4))
  have P11 := hid ((P11.out.fr f9).up (oT 3 1 5 0 4))
  have L5 := hid (L5.out.fr (f9.alloc (oT 3 1 5 0 4)))
  have L7 := hid (L7.out.fr (f9.alloc (oT 3 1 5 0 4)))
  have L9 := hid (L9.out.fr (f9.alloc (oT 3 1 5 0 4)))
  have L11 := hid (L11.out.fr (f9.alloc (oT 3 1 5 0 4)))
  have P13 := hid (BT.at_ (w := w9) 3 1 5 0 4 rfl)
  obtain ⟨b13, hb⟩ : ∃ x, w9.heap.size = x := ⟨_, rfl⟩
  rw [hb] at P13
  clear f9
  go_wp2_with (first | ((with_reducible refine ldJ rfl (.tmp 9) rfl b9 ?_ P9.out ?_); · rfl))
  try rw [hb]
  clear hb
  refine (c_h1 _ _ _ _).mono ?_
  rintro e w10 ⟨rfl, f10⟩
  have HF := kf f10 HF
  have P1 := hid (show BG (w10) b1 2 6 16 3 2 from Blk.fr P1.out f10 (fun h => h))
  have P2 := hid (P2.out.fr f10)
  have P3 := hid (P3.out.fr f10)
  have P5 := hid (P5.out.fr f10)
  have P7 := hid (P7.out.fr f10)
  have P9 := hid (P9.out.fr f10)
  have P11 := hid (P11.out.fr f10)
  have P13 := hid (P13.out.fr f10)
  have L5 := hid (L5.out.fr f10)
  have L7 := hid (L7.out.fr f10)
  have L9 := hid (L9.out.fr f10)
  have L11 := hid (L11.out.fr f10)
  clear f10
  obtain ⟨g0, g1, g2, g3, g4⟩ := P1.out.cells
  obtain ⟨u0, u1, u2, u3, u4⟩ := P3.out.cells
  obtain ⟨p0, p1, p2, p3, p4⟩ := P5.out.cells
  obtain ⟨r0, r1, r2, r3, r4⟩ := P9.out.cells
  obtain ⟨v0, v1, v2, v3, v4⟩ := P13.out.cells
  go_wp2_with fail
  refine (c_l1 _ _ _ _ L5.out).mono ?_
  rintro e w11 ⟨rfl, f11⟩
  clear g0 g1 g2 g3 g4 u0 u1 u2 u3 u4 p0 p1 p2 p3 p4 r0 r1 r2 r3 r4 v0 v1 v2 v3 v4
  have HF := kf f11 HF
  have P1 := hid (show BG (w11) b1 2 6 16 3 2 from Blk.fr P1.out f11 (fun h => h))
  have P2 := hid (P2.out.fr f11)
  have P3 := hid (P3.out.fr f11)
  have P5 := hid (P5.out.fr f11)
  have P7 := hid (P7.out.fr f11)
  have P9 := hid (P9.out.fr f11)
  have P11 := hid (P11.out.fr f11)
  have P13 := hid (P13.out.fr f11)
  have L5 := hid (L5.out.fr f11)
  have L7 := hid (L7.out.fr f11)
  have L9 := hid (L9.out.fr f11)
  have L11 := hid (L11.out.fr f11)
  clear f11
  obtain ⟨g0, g1, g2, g3, g4⟩ := P1.out.cells
  obtain ⟨u0, u1, u2, u3, u4⟩ := P3.out.cells
  obtain ⟨p0, p1, p2, p3, p4⟩ := P5.out.cells
  obtain ⟨r0, r1, r2, r3, r4⟩ := P9.out.cells
  obtain ⟨v0, v1, v2, v3, v4⟩ := P13.out.cells
  go_wp2_with fail
  refine (c_m1 _ _ _ _ L9.out).mono ?_
  rintro e w12 ⟨rfl, f12⟩
  clear g0 g1 g2 g3 g4 u0 u1 u2 u3 u4 p0 p1 p2 p3 p4 r0 r1 r2 r3 r4 v0 v1 v2 v3 v4
  have HF := kf f12 HF
  have P1 := hid (show BG (w12) b1 2 6 16 3 2 from Blk.fr P1.out f12 (fun h => h))
  have P2 := hid (P2.out.fr f12)
  have P3 := hid (P3.out.fr f12)
  have P5 := hid (P5.out.fr f12)
  have P7 := hid (P7.out.fr f12)
  have P9 := hid (P9.out.fr f12)
  have P11 := hid (P11.out.fr f12)
  have P13 := hid (P13.out.fr f12)
  have L5 := hid (L5.out.fr f12)
  have L7 := hid (L7.out.fr f12)
  have L9 := hid (L9.out.fr f12)
  have L11 := hid (L11.out.fr f12)
  clear f12
  obtain ⟨g0, g1, g2, g3, g4⟩ := P1.out.cells
  obtain ⟨u0, u1, u2, u3, u4⟩ := P3.out.cells
  obtain ⟨p0, p1, p2, p3, p4⟩ := P5.out.cells
  obtain ⟨r0, r1, r2, r3, r4⟩ := P9.out.cells
  obtain ⟨v0, v1, v2, v3, v4⟩ := P13.out.cells
  go_wp2_with fail
  refine (c_s1 _ _ _ _ L9.out).mono ?_
  rintro e w13 ⟨rfl, f13⟩
  clear g0 g1 g2 g3 g4 u0 u1 u2 u3 u4 p0 p1 p2 p3 p4 r0 r1 r2 r3 r4 v0 v1 v2 v3 v4
  have HF := kf f13 HF
  have P1 := hid (show BG (w13) b1 2 6 16 3 2 from Blk.fr P1.out f13 (fun h => h))
  have P2 := hid (P2.out.fr f13)
  have P3 := hid (P3.out.fr f13)
  have P5 := hid (P5.out.fr f13)
  have P7 := hid (P7.out.fr f13)
  have P9 := hid (P9.out.fr f13)
  have P11 := hid (P11.out.fr f13)
  have P13 := hid (P13.out.fr f13)
  have L5 := hid (L5.out.fr f13)
  have L7 := hid (L7.out.fr f13)
  have L9 := hid (L9.out.fr f13)
  have L11 := hid (L11.out.fr f13)
  clear f13
  obtain ⟨g0, g1, g2, g3, g4⟩ := P1.out.cells
  obtain ⟨u0, u1, u2, u3, u4⟩ := P3.out.cells
  obtain ⟨p0, p1, p2, p3, p4⟩ := P5.out.cells
  obtain ⟨r0, r1, r2, r3, r4⟩ := P9.out.cells
  obtain ⟨v0, v1, v2, v3, v4⟩ := P13.out.cells
  go_wp2_with fail
  refine (c_s2 _ _ _ _ _ _ _ L5.out L9.out).mono ?_
  rintro e w14 ⟨rfl, f14⟩
  clear g0 g1 g2 g3 g4 u0 u1 u2 u3 u4 p0 p1 p2 p3 p4 r0 r1 r2 r3 r4 v0 v1 v2 v3 v4
  have HF := kf f14 HF
  have P1 := hid (show BG (w14) b1 2 6 16 3 2 from Blk.fr P1.out f14 (fun h => h))
  have P2 := hid (P2.out.fr f14)
  have P3 := hid (P3.out.fr f14)
  have P5 := hid (P5.out.fr f14)
  have P7 := hid (P7.out.fr f14)
  have P9 := hid (P9.out.fr f14)
  have P11 := hid (P11.out.fr f14)
  have P13 := hid (P13.out.fr f14)
  have L5 := hid (L5.out.fr f14)
  have L7 := hid (L7.out.fr f14)
  have L9 := hid (L9.out.fr f14)
  have L11 := hid (L11.out.fr f14)
  clear f14
  obtain ⟨g0, g1, g2, g3, g4⟩ := P1.out.cells
  obtain ⟨u0, u1, u2, u3, u4⟩ := P3.out.cells
  obtain ⟨p0, p1, p2, p3, p4⟩ := P5.out.cells
  obtain ⟨r0, r1, r2, r3, r4⟩ := P9.out.cells
  obtain ⟨v0, v1, v2, v3, v4⟩ := P13.out.cells
  go_wp2_with fail
  go_ret
  exact ⟨rfl, HF.out⟩
end Go.Proofs.Ytgjcpepfggkieaa.ClU
