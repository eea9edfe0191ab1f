/- CleanAfter's walk. Conditions: numbers of 64 bits; lists that read as lists. -/
import Derived.Test.YtgjcpepfggkieaaClU
import Derived.Test.YtgjcpepfggkieaaClT
namespace Go.Proofs.Ytgjcpepfggkieaa.ClV
open Go.RowKit MSep MGeM GeA GeC GeD GeE GeEk PlA PlB ClM ClA ClE ClB ClC ClD ClF ClG ClH ClI ClJ ClK ClL ClN ClP ClQ ClT ClU

theorem idle_may {g : Ge} (h : mayG g) : mayB g idle = true := by
  unfold mayB
  rw [decide_eq_true h]
  simp [idle, rises, stB]
theorem touch_may {g : Ge} {j : Jb} {x : Int} (h : mayB g j = true) : mayB g (touchJ j x) = true := by
  unfold touchJ
  split
  case isFalse => exact h
  case isTrue hc =>
    have hne := (ok_of_may h).2.1 (by have := hc.1; omega)
    simp only [mayB, Bool.and_eq_true] at h ⊢
    obtain ⟨h1, h2, h3⟩ := h
    have e : nextJ j.z j.bs = ⟨1, j.z, j.bs, 255, 0⟩ := by unfold nextJ; rw [if_neg hne]
    rw [e]
    refine ⟨h1, h2, ?_⟩
    have hcl : clB g j = true := by
      unfold stB at h3
      rcases hc.1 with hs | hs | hs <;> rw [hs] at h3 <;> simp at h3 <;> exact h3.1
    have hcl2 : clB g ⟨1, j.z, j.bs, 255, 0⟩ = true := hcl
    unfold stB
    simp [hcl2]
theorem aft_may {g : Ge} {ch : Int} {j : Jb} {v : Dd} (hm : mayG g) (h : mayB g j = true) (h0 : (aftJ g ch j v).2 = 0) : mayB g (aftJ g ch j v).1 = true := by
  unfold aftJ at h0 ⊢
  split
  · exact idle_may hm
  split
  · split
    · exact touch_may h
    · rename_i h1 h2 h3; rw [if_neg h1, if_pos h2, if_neg h3] at h0; simp at h0
  split
  · split
    · assumption
    · rename_i h1 h2 h3 h4; rw [if_neg h1, if_neg h2, if_pos h3, if_neg h4] at h0; simp at h0
  · rename_i h1 h2 h3; rw [if_neg h1, if_neg h2, if_neg h3] at h0; simp at h0
theorem in_aft {g : Ge} {ch : Int} {j : Jb} {v : Dd} (h1 : inI j.z) (h2 : inI j.sp) (h3 : inI v.z) : inI (aftJ g ch j v).1.z ∧ inI (aftJ g ch j v).1.sp := by
  have i255 : inI 255 := by unfold inI; decide
  have i0 : inI 0 := by unfold inI; decide
  have ht := @in_turn (lay g).d ch v.k v.z j v h1 h2 h3
  unfold aftJ
  split
  · exact ⟨i255, i255⟩
  split
  · split
    · unfold touchJ
      split
      · unfold nextJ
        split
        · split
          · exact ⟨i255, i255⟩
          · exact ⟨h1, i255⟩
        · exact ⟨h1, i255⟩
      · exact ⟨h1, h2⟩
    · exact ⟨i0, i0⟩
  split
  · split
    · exact ht
    · exact ⟨i0, i0⟩
  · exact ⟨i0, i0⟩
theorem RetB.get {w w' : World} {p : Jb × Int} {e : Ending} (h : RetB w p e w') :
    ∃ A l c, e = .returned (.tuple #[.agg #[.int .i64 p.1.st, .int .i64 p.1.z, .slice A l c, .int .i64 p.1.sp, .int .i64 p.1.nx], .int .i64 p.2]) ∧ InI w' A l c p.1.bs ∧ Fr No w w' := by
  obtain ⟨st', z', A, l, c, sp', nx', er', h1, h2, h3, h4⟩ := h
  refine ⟨A, l, c, ?_, h3.fr h4, h4⟩
  rw [h1]
  have e1 := congrArg (fun (q : Jb × Int) => q.1.st) h2
  have e2 := congrArg (fun (q : Jb × Int) => q.1.z) h2
  have e3 := congrArg (fun (q : Jb × Int) => q.1.sp) h2
  have e4 := congrArg (fun (q : Jb × Int) => q.1.nx) h2
  have e5 := congrArg (fun (q : Jb × Int) => q.2) h2
  dsimp only at e1 e2 e3 e4 e5
  rw [e1, e2, e3, e4, e5]
theorem RetA.get2 {w w' : World} {p : Jb × Int} {e : Ending} (h : RetA w p e w') :
    ∃ A l c, e = .returned (.tuple #[.agg #[.int .i64 p.1.st, .int .i64 p.1.z, .slice A l c, .int .i64 p.1.sp, .int .i64 p.1.nx], .int .i64 p.2]) ∧ InI w' A l c p.1.bs ∧ Fr No w w' := by
  obtain ⟨st', z', A, l, c, sp', nx', er', h1, h2, h3, h4⟩ := h
  refine ⟨A, l, c, ?_, h3, h4⟩
  rw [h1]
  have e1 := congrArg (fun (q : Jb × Int) => q.1.st) h2
  have e2 := congrArg (fun (q : Jb × Int) => q.1.z) h2
  have e3 := congrArg (fun (q : Jb × Int) => q.1.sp) h2
  have e4 := congrArg (fun (q : Jb × Int) => q.1.nx) h2
  have e5 := congrArg (fun (q : Jb × Int) => q.2) h2
  dsimp only at e1 e2 e3 e4 e5
  rw [e1, e2, e3, e4, e5]
set_option maxRecDepth 100000 in
set_option maxHeartbeats 2000000 in
theorem after_big (gc gs gn gl gk : Int) (ch : Int) (st z : Int) (A : Option Addr) (l c : Nat) (sp nx : Int) (bs : List Int) (k dz db : Int) (B : Option Addr) (m e : Nat) (ys : List Int) (w : World) (_hs : -9223372036854775808 ≤ gs ∧ gs ≤ 9223372036854775807) (hi : InI w A l c bs) (hy : InI w B m e ys) (hl : ¬ (l ≤ 100 ∧ m ≤ 100)) :
    Calls Try.prog 9 #[.agg #[.int .i64 gc, .int .i64 gs, .int .i64 gn, .int .i64 gl, .int .i64 gk], .int .i64 ch, .agg #[.int .i64 st, .int .i64 z, .slice A l c, .int .i64 sp, .int .i64 nx], .agg #[.int .i64 k, .int .i64 dz, .int .i64 db, .slice B m e]] w fun r w' => r = .returned (.bool true) ∧ Fr No w w' := by
  have P0 := hid (show BG (((w.alloc (bg gc gs gn gl gk)).alloc (oJ st z A l c sp nx)).alloc (oD k dz db B m e)) w.heap.size gc gs gn gl gk from BG3 w gc gs gn gl gk (oJ st z A l c sp nx) (oD k dz db B m e))
  have P1 := hid ((BJ.at_ (w := w.alloc (bg gc gs gn gl gk)) (g := w.heap.size + 1) st z A l c sp nx (by simp)).up (oD k dz db B m e))
  have P2 := hid (BD.at_ (w := (w.alloc (bg gc gs gn gl gk)).alloc (oJ st z A l c sp nx)) (g := w.heap.size + 1 + 1) k dz db B m e (by simp))
  have HF := hid (((fr1 w (bg gc gs gn gl gk)).alloc (oJ st z A l c sp nx)).alloc (oD k dz db B m e))
  have HI := hid (hi.fr HF.out)
  have HY := hid (hy.fr HF.out)
  have HS := hid (fun W => small_ok st z A l c sp nx bs k dz db B m e false W (decide_eq_false hl))
  clear hi hy hl
  go_enter Try.func9, Try.ntmps9
  go_wp2_with (first | ((with_reducible refine ldJ rfl (.tmp 6) rfl (w.heap.size + 1) ?_ P1.out ?_); · rfl) | ((with_reducible refine ldD rfl (.tmp 7) rfl (w.heap.size + 1 + 1) ?_ P2.out ?_); · rfl))
  refine (HS.out _).mono ?_
  rintro r v1 ⟨rfl, f1⟩
  have HF := hid (HF.out.trans f1)
  have P0 := hid (show BG (v1) (w.heap.size) gc gs gn gl gk from Blk.fr P0.out f1 (fun h => h))
  have P1 := hid (P1.out.fr f1)
  have P2 := hid (P2.out.fr f1)
  have HI := hid (HI.out.fr f1)
  have HY := hid (HY.out.fr f1)
  clear f1
  go_wp2_with fail
  refine (lives_ok _).mono ?_
  rintro r v2 ⟨rfl, f2⟩
  have HF := hid (HF.out.trans f2)
  have P0 := hid (show BG (v2) (w.heap.size) gc gs gn gl gk from Blk.fr P0.out f2 (fun h => h))
  have P1 := hid (P1.out.fr f2)
  have P2 := hid (P2.out.fr f2)
  have HI := hid (HI.out.fr f2)
  have HY := hid (HY.out.fr f2)
  clear f2
  go_wp2_with fail
  go_ret
  exact ⟨rfl, HF.out⟩
theorem in_own {B0 : Nat} {w : World} {A : Option Addr} {n c : Nat} {xs : List Int} (hn : n = xs.length) (h : OutI B0 w (.slice A n c) xs) : InI w A n c xs := by
  refine ⟨OutI.rd hn h, ?_, ?_⟩
  · subst hn; exact (own_lim h).1
  · subst hn; exact (own_lim h).2
theorem pAfter_lit (gc gs gn gl gk : Int) (ch : Int) (st z : Int) (A : Option Addr) (l c : Nat) (sp nx : Int) (bs : List Int) (k dz db : Int) (B : Option Addr) (m e : Nat) (ys : List Int) (qs qz : Int) (qb : List Int) (qp qn qe : Int) (w : World) (hs : -9223372036854775808 ≤ gs ∧ gs ≤ 9223372036854775807) (hz : inI z) (hp : inI sp) (hdz : inI dz) (hq : aftA ⟨gc, gs, gn, gl, gk⟩ ch ⟨st, z, bs, sp, nx⟩ ⟨k, dz, db, ys⟩ = (⟨qs, qz, qb, qp, qn⟩, qe)) (hi : InI w A l c bs) (hy : InI w B m e ys) (hl : l ≤ 1000000) (hl2 : m ≤ 1000000) :
    Calls Try.prog 38 #[.agg #[.int .i64 gc, .int .i64 gs, .int .i64 gn, .int .i64 gl, .int .i64 gk], .int .i64 ch, .agg #[.int .i64 st, .int .i64 z, .slice A l c, .int .i64 sp, .int .i64 nx], .agg #[.int .i64 k, .int .i64 dz, .int .i64 db, .slice B m e]] w fun r w' => ∃ A' l' c', r = .returned (.tuple #[.agg #[.int .i64 qs, .int .i64 qz, .slice A' l' c', .int .i64 qp, .int .i64 qn], .int .i64 qe]) ∧ InI w' A' l' c' qb ∧ Fr No w w' := by
  have h := pAfter_ok gc gs gn gl gk ch st z A l c sp nx bs k dz db B m e ys w hs hz hp hdz hi hy hl hl2
  rw [hq] at h
  exact h.mono fun _ _ h => RetA.get2 h
theorem rAfter_lit (gc gs gn gl gk : Int) (ch : Int) (st z : Int) (A : Option Addr) (l c : Nat) (sp nx : Int) (bs : List Int) (k dz db : Int) (B : Option Addr) (m e : Nat) (ys : List Int) (qs qz : Int) (qb : List Int) (qp qn qe : Int) (w : World) (hs : -9223372036854775808 ≤ gs ∧ gs ≤ 9223372036854775807) (hm : mayG ⟨gc, gs, gn, gl, gk⟩) (hj : mayB ⟨gc, gs, gn, gl, gk⟩ ⟨st, z, bs, sp, nx⟩ = true) (hc : 1 ≤ ch ∧ ch ≤ 1000000) (hq : aftJ ⟨gc, gs, gn, gl, gk⟩ ch ⟨st, z, bs, sp, nx⟩ ⟨k, dz, db, ys⟩ = (⟨qs, qz, qb, qp, qn⟩, qe)) (hi : InI w A l c bs) (hy : InI w B m e ys) :
    Calls Try.prog 40 #[.agg #[.int .i64 gc, .int .i64 gs, .int .i64 gn, .int .i64 gl, .int .i64 gk], .int .i64 ch, .agg #[.int .i64 st, .int .i64 z, .slice A l c, .int .i64 sp, .int .i64 nx], .agg #[.int .i64 k, .int .i64 dz, .int .i64 db, .slice B m e]] w fun r w' => ∃ A' l' c', r = .returned (.tuple #[.agg #[.int .i64 qs, .int .i64 qz, .slice A' l' c', .int .i64 qp, .int .i64 qn], .int .i64 qe]) ∧ InI w' A' l' c' qb ∧ Fr No w w' := by
  have h := rAfter_ok gc gs gn gl gk ch st z A l c sp nx bs k dz db B m e ys w hs hm hi hy hj hc
  rw [hq] at h
  exact h.mono fun _ _ h => RetB.get h
theorem rsame_refl (st z : Int) (A : Option Addr) (l c : Nat) (sp nx : Int) (bs : List Int) (B : Option Addr) (m e : Nat) (w : World) (hi : InI w A l c bs) (hy : InI w B m e bs) :
    Calls Try.prog 39 #[.agg #[.int .i64 st, .int .i64 z, .slice A l c, .int .i64 sp, .int .i64 nx], .agg #[.int .i64 st, .int .i64 z, .slice B m e, .int .i64 sp, .int .i64 nx]] w fun r w' => r = .returned (.bool true) ∧ Fr No w w' := by
  have h := rsame_ok st z A l c sp nx bs st z B m e sp nx bs w hi hy
  rw [show decide ((⟨st, z, bs, sp, nx⟩ : Jb) = ⟨st, z, bs, sp, nx⟩) = true from decide_eq_true rfl] at h
  exact h
set_option maxRecDepth 100000 in
set_option maxHeartbeats 2000000 in
theorem after_geom (gc gs gn gl gk : Int) (ch : Int) (st z : Int) (A : Option Addr) (l c : Nat) (sp nx : Int) (bs : List Int) (k dz db : Int) (B : Option Addr) (m e : Nat) (ys : List Int) (w : World) (hs : -9223372036854775808 ≤ gs ∧ gs ≤ 9223372036854775807) (hi : InI w A l c bs) (hy : InI w B m e ys) (hl : l ≤ 100 ∧ m ≤ 100) (hz : inI z) (hp : inI sp) (hdz : inI dz) (hm : ¬ mayG ⟨gc, gs, gn, gl, gk⟩) :
    Calls Try.prog 9 #[.agg #[.int .i64 gc, .int .i64 gs, .int .i64 gn, .int .i64 gl, .int .i64 gk], .int .i64 ch, .agg #[.int .i64 st, .int .i64 z, .slice A l c, .int .i64 sp, .int .i64 nx], .agg #[.int .i64 k, .int .i64 dz, .int .i64 db, .slice B m e]] w fun r w' => r = .returned (.bool true) ∧ Fr No w w' := by
  have P0 := hid (show BG (((w.alloc (bg gc gs gn gl gk)).alloc (oJ st z A l c sp nx)).alloc (oD k dz db B m e)) w.heap.size gc gs gn gl gk from BG3 w gc gs gn gl gk (oJ st z A l c sp nx) (oD k dz db B m e))
  have P1 := hid ((BJ.at_ (w := w.alloc (bg gc gs gn gl gk)) (g := w.heap.size + 1) st z A l c sp nx (by simp)).up (oD k dz db B m e))
  have P2 := hid (BD.at_ (w := (w.alloc (bg gc gs gn gl gk)).alloc (oJ st z A l c sp nx)) (g := w.heap.size + 1 + 1) k dz db B m e (by simp))
  have HF := hid (((fr1 w (bg gc gs gn gl gk)).alloc (oJ st z A l c sp nx)).alloc (oD k dz db B m e))
  have HI := hid (hi.fr HF.out)
  have HY := hid (hy.fr HF.out)
  have HLM := hid hl
  have HS := hid (fun W => small_ok st z A l c sp nx bs k dz db B m e true W (decide_eq_true hl))
  have HL := hid (fun W => rlayout_ok gc gs gn gl gk W hs)
  rw [rlo_no hm] at HL
  unfold z8 at HL
  dsimp only at HL
  have hq : aftA ⟨gc, gs, gn, gl, gk⟩ ch ⟨st, z, bs, sp, nx⟩ ⟨k, dz, db, ys⟩ = (⟨0, 0, [], 0, 0⟩, 70) := by unfold aftA; rw [if_neg hm]; rfl
  have HA := hid (fun C' (n' : Nat) (c' : Nat) W (h1 : InI W C' n' c' bs) (h2 : InI W B m e ys) => pAfter_lit gc gs gn gl gk ch st z C' n' c' sp nx bs k dz db B m e ys 0 0 [] 0 0 70 W hs hz hp hdz hq h1 h2 (by have := h1.len; have := hi.len; omega) (by omega))
  clear hi hy hl
  go_enter Try.func9, Try.ntmps9
  go_wp2_with (first | ((with_reducible refine ldJ rfl (.tmp 6) rfl (w.heap.size + 1) ?_ P1.out ?_); · rfl) | ((with_reducible refine ldD rfl (.tmp 7) rfl (w.heap.size + 1 + 1) ?_ P2.out ?_); · rfl))
  refine (HS.out _).mono ?_
  rintro r v1 ⟨rfl, f1⟩
  have HF := hid (HF.out.trans f1)
  have P0 := hid (show BG (v1) (w.heap.size) gc gs gn gl gk from Blk.fr P0.out f1 (fun h => h))
  have P1 := hid (P1.out.fr f1)
  have P2 := hid (P2.out.fr f1)
  have HI := hid (HI.out.fr f1)
  have HY := hid (HY.out.fr f1)
  clear f1
  have O0 := hid (own_lit v1)
  have HIa := hid (HI.out.fr (fr1 v1 (.cells #[] 3)))
  have a2 := kc (fr1 v1 (.cells #[] 3)) P1.out.cells.2.2.1
  have hl9 := HLM.out.1
  have hbl := HI.out.len
  clear hbl
  go_wp2_with (first | (at_builtin; refine app_i rfl (.tmp 22) (.tmp 24) rfl v1.heap.size _ [] rfl O0.out _ l _ bs rfl HIa.out.rd (by simp; omega) (by simp) ?_))
  intro A1 c1 u1 o1 f1
  try simp only [List.length_nil, Nat.zero_add, List.nil_append] at o1 f1
  try simp only [List.length_nil, Nat.zero_add]
  have F1 : Fr No v1 u1 := fr_ownI ((Fr.refl No v1).alloc (.cells #[] 3)) (lit_ge v1) (Nat.le_refl _) f1
  have HO := hid (in_own HI.out.len.symm o1)
  have HF := hid (HF.out.trans F1)
  have P0 := hid (show BG (u1) (w.heap.size) gc gs gn gl gk from Blk.fr P0.out F1 (fun h => h))
  have P1 := hid (P1.out.fr F1)
  have P2 := hid (P2.out.fr F1)
  have HI := hid (HI.out.fr F1)
  have HY := hid (HY.out.fr F1)
  clear o1 f1 F1 a2 HIa O0 hl9
  go_upto_region 6 with (first | ((with_reducible refine ldJ rfl (.tmp 6) rfl (w.heap.size + 1) ?_ P1.out ?_); · rfl))
  have HF := hid (HF.out.alloc (oJ st z A1 l c1 sp nx))
  have F1 := fr1 u1 (oJ st z A1 l c1 sp nx)
  have P0 := hid (show BG (u1.alloc (oJ st z A1 l c1 sp nx)) (w.heap.size) gc gs gn gl gk from Blk.fr P0.out F1 (fun h => h))
  have P1 := hid (P1.out.fr F1)
  have P2 := hid (P2.out.fr F1)
  have HI := hid (HI.out.fr F1)
  have HY := hid (HY.out.fr F1)
  have HO := hid (HO.out.fr F1)
  have P10 := hid (BJ.at_ (w := u1) st z A1 l c1 sp nx rfl)
  clear F1
  obtain ⟨b10, hb⟩ : ∃ x, u1.heap.size = x := ⟨_, rfl⟩
  rw [hb] at P10
  go_wp2_with (first | ((with_reducible refine ld_geom rfl (.tmp 4) rfl (w.heap.size) ?_ P0.out ?_); · rfl) | ((with_reducible refine ldD rfl (.tmp 7) rfl (w.heap.size + 1 + 1) ?_ P2.out ?_); · rfl) | ((with_reducible refine ldJ rfl (.tmp 10) rfl (b10) ?_ P10.out ?_); · rfl))
  try rw [hb]
  clear hb
  refine (HA.out _ _ _ _ HO.out HY.out).mono ?_
  rintro r v2 ⟨A5, l5, c5, rfl, i5, f2⟩
  have HF := hid ((HF.out.trans f2).alloc (oJ 0 0 A5 l5 c5 0 0))
  have P0 := hid (show BG (v2.alloc (oJ 0 0 A5 l5 c5 0 0)) (w.heap.size) gc gs gn gl gk from (Blk.fr P0.out f2 (fun h => h)).alloc _)
  have P1 := hid ((P1.out.fr f2).up (oJ 0 0 A5 l5 c5 0 0))
  have P2 := hid ((P2.out.fr f2).up (oJ 0 0 A5 l5 c5 0 0))
  have P10 := hid ((P10.out.fr f2).up (oJ 0 0 A5 l5 c5 0 0))
  have HI := hid (HI.out.fr (f2.alloc (oJ 0 0 A5 l5 c5 0 0)))
  have HY := hid (HY.out.fr (f2.alloc (oJ 0 0 A5 l5 c5 0 0)))
  have HO := hid (HO.out.fr (f2.alloc (oJ 0 0 A5 l5 c5 0 0)))
  have P11 := hid (BJ.at_ (w := v2) 0 0 A5 l5 c5 0 0 rfl)
  obtain ⟨b11, hb⟩ : ∃ x, v2.heap.size = x := ⟨_, rfl⟩
  rw [hb] at P11
  have H5 := hid (i5.fr (fr1 v2 (oJ 0 0 A5 l5 c5 0 0)))
  clear i5
  clear f2
  go_wp2_with fail
  try rw [hb]
  clear hb
  refine (lives_ok _).mono ?_
  rintro r v3 ⟨rfl, f3⟩
  have HF := hid (HF.out.trans f3)
  have P0 := hid (show BG (v3) (w.heap.size) gc gs gn gl gk from Blk.fr P0.out f3 (fun h => h))
  have P1 := hid (P1.out.fr f3)
  have P2 := hid (P2.out.fr f3)
  have P10 := hid (P10.out.fr f3)
  have P11 := hid (P11.out.fr f3)
  have HI := hid (HI.out.fr f3)
  have HY := hid (HY.out.fr f3)
  have HO := hid (HO.out.fr f3)
  have H5 := hid (H5.out.fr f3)
  clear f3
  obtain ⟨p10_0, p10_1, p10_2, p10_3, p10_4⟩ := P10.out.cells
  obtain ⟨p1_0, p1_1, p1_2, p1_3, p1_4⟩ := P1.out.cells
  go_wp2_with fail
  refine (rsame_refl st z A1 l c1 sp nx bs A l c _ HO.out HI.out).mono ?_
  rintro r v4 ⟨rfl, f4⟩
  clear p10_0 p10_1 p10_2 p10_3 p10_4 p1_0 p1_1 p1_2 p1_3 p1_4
  have HF := hid (HF.out.trans f4)
  have P0 := hid (show BG (v4) (w.heap.size) gc gs gn gl gk from Blk.fr P0.out f4 (fun h => h))
  have P1 := hid (P1.out.fr f4)
  have P2 := hid (P2.out.fr f4)
  have P10 := hid (P10.out.fr f4)
  have P11 := hid (P11.out.fr f4)
  have HI := hid (HI.out.fr f4)
  have HY := hid (HY.out.fr f4)
  have HO := hid (HO.out.fr f4)
  have H5 := hid (H5.out.fr f4)
  clear f4
  go_wp2_with (first | ((with_reducible refine ld_geom rfl (.tmp 4) rfl (w.heap.size) ?_ P0.out ?_); · rfl))
  refine (HL.out _).mono ?_
  rintro r v5 ⟨rfl, f5⟩
  have HF := hid ((HF.out.trans f5).alloc (by_ 0 0 0 0 0 0 0 0))
  have P0 := hid (show BG (v5.alloc (by_ 0 0 0 0 0 0 0 0)) (w.heap.size) gc gs gn gl gk from (Blk.fr P0.out f5 (fun h => h)).alloc _)
  have P1 := hid ((P1.out.fr f5).up (by_ 0 0 0 0 0 0 0 0))
  have P2 := hid ((P2.out.fr f5).up (by_ 0 0 0 0 0 0 0 0))
  have P10 := hid ((P10.out.fr f5).up (by_ 0 0 0 0 0 0 0 0))
  have P11 := hid ((P11.out.fr f5).up (by_ 0 0 0 0 0 0 0 0))
  have HI := hid (HI.out.fr (f5.alloc (by_ 0 0 0 0 0 0 0 0)))
  have HY := hid (HY.out.fr (f5.alloc (by_ 0 0 0 0 0 0 0 0)))
  have HO := hid (HO.out.fr (f5.alloc (by_ 0 0 0 0 0 0 0 0)))
  have H5 := hid (H5.out.fr (f5.alloc (by_ 0 0 0 0 0 0 0 0)))
  have P13 := hid (BL.new v5 0 0 0 0 0 0 0 0)
  obtain ⟨b13, hb⟩ : ∃ x, v5.heap.size = x := ⟨_, rfl⟩
  rw [hb] at P13
  clear f5
  obtain ⟨p11_0, p11_1, p11_2, p11_3, p11_4⟩ := P11.out.cells
  go_wp2_with fail
  try rw [hb]
  clear hb
  refine (rsame_refl 0 0 A5 l5 c5 0 0 [] none 0 0 _ H5.out (InI.nil _)).mono ?_
  rintro r v6 ⟨rfl, f6⟩
  clear p11_0 p11_1 p11_2 p11_3 p11_4
  have HF := hid (HF.out.trans f6)
  have P0 := hid (show BG (v6) (w.heap.size) gc gs gn gl gk from Blk.fr P0.out f6 (fun h => h))
  have P1 := hid (P1.out.fr f6)
  have P2 := hid (P2.out.fr f6)
  have P10 := hid (P10.out.fr f6)
  have P11 := hid (P11.out.fr f6)
  have P13 := hid (show BL (v6) (b13) 0 0 0 0 0 0 0 0 from Blk.fr P13.out f6 (fun h => h))
  have HI := hid (HI.out.fr f6)
  have HY := hid (HY.out.fr f6)
  have HO := hid (HO.out.fr f6)
  have H5 := hid (H5.out.fr f6)
  clear f6
  go_wp2_with fail
  go_ret
  exact ⟨rfl, HF.out⟩
set_option maxRecDepth 100000 in
set_option maxHeartbeats 2000000 in
theorem after_bad (gc gs gn gl gk : Int) (ch : Int) (st z : Int) (A : Option Addr) (l c : Nat) (sp nx : Int) (bs : List Int) (k dz db : Int) (B : Option Addr) (m e : Nat) (ys : List Int) (w : World) (hs : -9223372036854775808 ≤ gs ∧ gs ≤ 9223372036854775807) (hi : InI w A l c bs) (hy : InI w B m e ys) (hl : l ≤ 100 ∧ m ≤ 100) (hz : inI z) (hp : inI sp) (hdz : inI dz) (hm : mayG ⟨gc, gs, gn, gl, gk⟩) (hj : mayB ⟨gc, gs, gn, gl, gk⟩ ⟨st, z, bs, sp, nx⟩ = false) :
    Calls Try.prog 9 #[.agg #[.int .i64 gc, .int .i64 gs, .int .i64 gn, .int .i64 gl, .int .i64 gk], .int .i64 ch, .agg #[.int .i64 st, .int .i64 z, .slice A l c, .int .i64 sp, .int .i64 nx], .agg #[.int .i64 k, .int .i64 dz, .int .i64 db, .slice B m e]] w fun r w' => r = .returned (.bool true) ∧ Fr No w w' := by
  have P0 := hid (show BG (((w.alloc (bg gc gs gn gl gk)).alloc (oJ st z A l c sp nx)).alloc (oD k dz db B m e)) w.heap.size gc gs gn gl gk from BG3 w gc gs gn gl gk (oJ st z A l c sp nx) (oD k dz db B m e))
  have P1 := hid ((BJ.at_ (w := w.alloc (bg gc gs gn gl gk)) (g := w.heap.size + 1) st z A l c sp nx (by simp)).up (oD k dz db B m e))
  have P2 := hid (BD.at_ (w := (w.alloc (bg gc gs gn gl gk)).alloc (oJ st z A l c sp nx)) (g := w.heap.size + 1 + 1) k dz db B m e (by simp))
  have HF := hid (((fr1 w (bg gc gs gn gl gk)).alloc (oJ st z A l c sp nx)).alloc (oD k dz db B m e))
  have HI := hid (hi.fr HF.out)
  have HY := hid (hy.fr HF.out)
  have HLM := hid hl
  have HS := hid (fun W => small_ok st z A l c sp nx bs k dz db B m e true W (decide_eq_true hl))
  have HL := hid (fun W => rlayout_ok gc gs gn gl gk W hs)
  rw [rlo_yes hm] at HL
  obtain ⟨y, hy0⟩ : ∃ y, lay ⟨gc, gs, gn, gl, gk⟩ = y := ⟨_, rfl⟩
  rw [hy0] at HL
  obtain ⟨ya, yr, yq, yb, yd, yt, yx, yu⟩ := y
  dsimp only at HL
  have HM := hid (fun W (h : InI W A l c bs) => rmay_ok gc gs gn gl gk st z A l c sp nx bs W hs h)
  rw [hj] at HM
  have hq : aftA ⟨gc, gs, gn, gl, gk⟩ ch ⟨st, z, bs, sp, nx⟩ ⟨k, dz, db, ys⟩ = (⟨0, 0, [], 0, 0⟩, 1) := by unfold aftA; rw [if_pos hm, hj]; rfl
  have HA := hid (fun C' (n' : Nat) (c' : Nat) W (h1 : InI W C' n' c' bs) (h2 : InI W B m e ys) => pAfter_lit gc gs gn gl gk ch st z C' n' c' sp nx bs k dz db B m e ys 0 0 [] 0 0 1 W hs hz hp hdz hq h1 h2 (by have := h1.len; have := hi.len; omega) (by omega))
  clear hi hy hl
  go_enter Try.func9, Try.ntmps9
  go_wp2_with (first | ((with_reducible refine ldJ rfl (.tmp 6) rfl (w.heap.size + 1) ?_ P1.out ?_); · rfl) | ((with_reducible refine ldD rfl (.tmp 7) rfl (w.heap.size + 1 + 1) ?_ P2.out ?_); · rfl))
  refine (HS.out _).mono ?_
  rintro r v1 ⟨rfl, f1⟩
  have HF := hid (HF.out.trans f1)
  have P0 := hid (show BG (v1) (w.heap.size) gc gs gn gl gk from Blk.fr P0.out f1 (fun h => h))
  have P1 := hid (P1.out.fr f1)
  have P2 := hid (P2.out.fr f1)
  have HI := hid (HI.out.fr f1)
  have HY := hid (HY.out.fr f1)
  clear f1
  have O0 := hid (own_lit v1)
  have HIa := hid (HI.out.fr (fr1 v1 (.cells #[] 3)))
  have a2 := kc (fr1 v1 (.cells #[] 3)) P1.out.cells.2.2.1
  have hl9 := HLM.out.1
  have hbl := HI.out.len
  clear hbl
  go_wp2_with (first | (at_builtin; refine app_i rfl (.tmp 22) (.tmp 24) rfl v1.heap.size _ [] rfl O0.out _ l _ bs rfl HIa.out.rd (by simp; omega) (by simp) ?_))
  intro A1 c1 u1 o1 f1
  try simp only [List.length_nil, Nat.zero_add, List.nil_append] at o1 f1
  try simp only [List.length_nil, Nat.zero_add]
  have F1 : Fr No v1 u1 := fr_ownI ((Fr.refl No v1).alloc (.cells #[] 3)) (lit_ge v1) (Nat.le_refl _) f1
  have HO := hid (in_own HI.out.len.symm o1)
  have HF := hid (HF.out.trans F1)
  have P0 := hid (show BG (u1) (w.heap.size) gc gs gn gl gk from Blk.fr P0.out F1 (fun h => h))
  have P1 := hid (P1.out.fr F1)
  have P2 := hid (P2.out.fr F1)
  have HI := hid (HI.out.fr F1)
  have HY := hid (HY.out.fr F1)
  clear o1 f1 F1 a2 HIa O0 hl9
  go_upto_region 6 with (first | ((with_reducible refine ldJ rfl (.tmp 6) rfl (w.heap.size + 1) ?_ P1.out ?_); · rfl))
  have HF := hid (HF.out.alloc (oJ st z A1 l c1 sp nx))
  have F1 := fr1 u1 (oJ st z A1 l c1 sp nx)
  have P0 := hid (show BG (u1.alloc (oJ st z A1 l c1 sp nx)) (w.heap.size) gc gs gn gl gk from Blk.fr P0.out F1 (fun h => h))
  have P1 := hid (P1.out.fr F1)
  have P2 := hid (P2.out.fr F1)
  have HI := hid (HI.out.fr F1)
  have HY := hid (HY.out.fr F1)
  have HO := hid (HO.out.fr F1)
  have P10 := hid (BJ.at_ (w := u1) st z A1 l c1 sp nx rfl)
  clear F1
  obtain ⟨b10, hb⟩ : ∃ x, u1.heap.size = x := ⟨_, rfl⟩
  rw [hb] at P10
  go_wp2_with (first | ((with_reducible refine ld_geom rfl (.tmp 4) rfl (w.heap.size) ?_ P0.out ?_); · rfl) | ((with_reducible refine ldD rfl (.tmp 7) rfl (w.heap.size + 1 + 1) ?_ P2.out ?_); · rfl) | ((with_reducible refine ldJ rfl (.tmp 10) rfl (b10) ?_ P10.out ?_); · rfl))
  try rw [hb]
  clear hb
  refine (HA.out _ _ _ _ HO.out HY.out).mono ?_
  rintro r v2 ⟨A5, l5, c5, rfl, i5, f2⟩
  have HF := hid ((HF.out.trans f2).alloc (oJ 0 0 A5 l5 c5 0 0))
  have P0 := hid (show BG (v2.alloc (oJ 0 0 A5 l5 c5 0 0)) (w.heap.size) gc gs gn gl gk from (Blk.fr P0.out f2 (fun h => h)).alloc _)
  have P1 := hid ((P1.out.fr f2).up (oJ 0 0 A5 l5 c5 0 0))
  have P2 := hid ((P2.out.fr f2).up (oJ 0 0 A5 l5 c5 0 0))
  have P10 := hid ((P10.out.fr f2).up (oJ 0 0 A5 l5 c5 0 0))
  have HI := hid (HI.out.fr (f2.alloc (oJ 0 0 A5 l5 c5 0 0)))
  have HY := hid (HY.out.fr (f2.alloc (oJ 0 0 A5 l5 c5 0 0)))
  have HO := hid (HO.out.fr (f2.alloc (oJ 0 0 A5 l5 c5 0 0)))
  have P11 := hid (BJ.at_ (w := v2) 0 0 A5 l5 c5 0 0 rfl)
  obtain ⟨b11, hb⟩ : ∃ x, v2.heap.size = x := ⟨_, rfl⟩
  rw [hb] at P11
  have H5 := hid (i5.fr (fr1 v2 (oJ 0 0 A5 l5 c5 0 0)))
  clear i5
  clear f2
  go_wp2_with fail
  try rw [hb]
  clear hb
  refine (lives_ok _).mono ?_
  rintro r v3 ⟨rfl, f3⟩
  have HF := hid (HF.out.trans f3)
  have P0 := hid (show BG (v3) (w.heap.size) gc gs gn gl gk from Blk.fr P0.out f3 (fun h => h))
  have P1 := hid (P1.out.fr f3)
  have P2 := hid (P2.out.fr f3)
  have P10 := hid (P10.out.fr f3)
  have P11 := hid (P11.out.fr f3)
  have HI := hid (HI.out.fr f3)
  have HY := hid (HY.out.fr f3)
  have HO := hid (HO.out.fr f3)
  have H5 := hid (H5.out.fr f3)
  clear f3
  obtain ⟨p10_0, p10_1, p10_2, p10_3, p10_4⟩ := P10.out.cells
  obtain ⟨p1_0, p1_1, p1_2, p1_3, p1_4⟩ := P1.out.cells
  go_wp2_with fail
  refine (rsame_refl st z A1 l c1 sp nx bs A l c _ HO.out HI.out).mono ?_
  rintro r v4 ⟨rfl, f4⟩
  clear p10_0 p10_1 p10_2 p10_3 p10_4 p1_0 p1_1 p1_2 p1_3 p1_4
  have HF := hid (HF.out.trans f4)
  have P0 := hid (show BG (v4) (w.heap.size) gc gs gn gl gk from Blk.fr P0.out f4 (fun h => h))
  have P1 := hid (P1.out.fr f4)
  have P2 := hid (P2.out.fr f4)
  have P10 := hid (P10.out.fr f4)
  have P11 := hid (P11.out.fr f4)
  have HI := hid (HI.out.fr f4)
  have HY := hid (HY.out.fr f4)
  have HO := hid (HO.out.fr f4)
  have H5 := hid (H5.out.fr f4)
  clear f4
  go_wp2_with (first | ((with_reducible refine ld_geom rfl (.tmp 4) rfl (w.heap.size) ?_ P0.out ?_); · rfl))
  refine (HL.out _).mono ?_
  rintro r v5 ⟨rfl, f5⟩
  have HF := hid ((HF.out.trans f5).alloc (by_ ya yr yq yb yd yt yx yu))
  have P0 := hid (show BG (v5.alloc (by_ ya yr yq yb yd yt yx yu)) (w.heap.size) gc gs gn gl gk from (Blk.fr P0.out f5 (fun h => h)).alloc _)
  have P1 := hid ((P1.out.fr f5).up (by_ ya yr yq yb yd yt yx yu))
  have P2 := hid ((P2.out.fr f5).up (by_ ya yr yq yb yd yt yx yu))
  have P10 := hid ((P10.out.fr f5).up (by_ ya yr yq yb yd yt yx yu))
  have P11 := hid ((P11.out.fr f5).up (by_ ya yr yq yb yd yt yx yu))
  have HI := hid (HI.out.fr (f5.alloc (by_ ya yr yq yb yd yt yx yu)))
  have HY := hid (HY.out.fr (f5.alloc (by_ ya yr yq yb yd yt yx yu)))
  have HO := hid (HO.out.fr (f5.alloc (by_ ya yr yq yb yd yt yx yu)))
  have H5 := hid (H5.out.fr (f5.alloc (by_ ya yr yq yb yd yt yx yu)))
  have P13 := hid (BL.new v5 ya yr yq yb yd yt yx yu)
  obtain ⟨b13, hb⟩ : ∃ x, v5.heap.size = x := ⟨_, rfl⟩
  rw [hb] at P13
  clear f5
  go_wp2_with (first | ((with_reducible refine ld_geom rfl (.tmp 4) rfl (w.heap.size) ?_ P0.out ?_); · rfl) | ((with_reducible refine ldJ rfl (.tmp 6) rfl (w.heap.size + 1) ?_ P1.out ?_); · rfl))
  try rw [hb]
  clear hb
  refine (HM.out _ HI.out).mono ?_
  rintro r v6 ⟨rfl, f6⟩
  have HF := hid (HF.out.trans f6)
  have P0 := hid (show BG (v6) (w.heap.size) gc gs gn gl gk from Blk.fr P0.out f6 (fun h => h))
  have P1 := hid (P1.out.fr f6)
  have P2 := hid (P2.out.fr f6)
  have P10 := hid (P10.out.fr f6)
  have P11 := hid (P11.out.fr f6)
  have P13 := hid (show BL (v6) (b13) ya yr yq yb yd yt yx yu from Blk.fr P13.out f6 (fun h => h))
  have HI := hid (HI.out.fr f6)
  have HY := hid (HY.out.fr f6)
  have HO := hid (HO.out.fr f6)
  have H5 := hid (H5.out.fr f6)
  clear f6
  obtain ⟨p11_0, p11_1, p11_2, p11_3, p11_4⟩ := P11.out.cells
  go_wp2_with fail
  refine (rsame_refl 0 0 A5 l5 c5 0 0 [] none 0 0 _ H5.out (InI.nil _)).mono ?_
  rintro r v7 ⟨rfl, f7⟩
  clear p11_0 p11_1 p11_2 p11_3 p11_4
  have HF := hid (HF.out.trans f7)
  have P0 := hid (show BG (v7) (w.heap.size) gc gs gn gl gk from Blk.fr P0.out f7 (fun h => h))
  have P1 := hid (P1.out.fr f7)
  have P2 := hid (P2.out.fr f7)
  have P10 := hid (P10.out.fr f7)
  have P11 := hid (P11.out.fr f7)
  have P13 := hid (show BL (v7) (b13) ya yr yq yb yd yt yx yu from Blk.fr P13.out f7 (fun h => h))
  have HI := hid (HI.out.fr f7)
  have HY := hid (HY.out.fr f7)
  have HO := hid (HO.out.fr f7)
  have H5 := hid (H5.out.fr f7)
  clear f7
  go_wp2_with fail
  go_ret
  exact ⟨rfl, HF.out⟩
set_option maxRecDepth 100000 in
set_option maxHeartbeats 2000000 in
theorem after_chunk (gc gs gn gl gk : Int) (ch : Int) (st z : Int) (A : Option Addr) (l c : Nat) (sp nx : Int) (bs : List Int) (k dz db : Int) (B : Option Addr) (m e : Nat) (ys : List Int) (w : World) (hs : -9223372036854775808 ≤ gs ∧ gs ≤ 9223372036854775807) (hi : InI w A l c bs) (hy : InI w B m e ys) (hl : l ≤ 100 ∧ m ≤ 100) (hz : inI z) (hp : inI sp) (hdz : inI dz) (hm : mayG ⟨gc, gs, gn, gl, gk⟩) (hj : mayB ⟨gc, gs, gn, gl, gk⟩ ⟨st, z, bs, sp, nx⟩ = true) (hc : chB ch = false) :
    Calls Try.prog 9 #[.agg #[.int .i64 gc, .int .i64 gs, .int .i64 gn, .int .i64 gl, .int .i64 gk], .int .i64 ch, .agg #[.int .i64 st, .int .i64 z, .slice A l c, .int .i64 sp, .int .i64 nx], .agg #[.int .i64 k, .int .i64 dz, .int .i64 db, .slice B m e]] w fun r w' => r = .returned (.bool true) ∧ Fr No w w' := by
  have P0 := hid (show BG (((w.alloc (bg gc gs gn gl gk)).alloc (oJ st z A l c sp nx)).alloc (oD k dz db B m e)) w.heap.size gc gs gn gl gk from BG3 w gc gs gn gl gk (oJ st z A l c sp nx) (oD k dz db B m e))
  have P1 := hid ((BJ.at_ (w := w.alloc (bg gc gs gn gl gk)) (g := w.heap.size + 1) st z A l c sp nx (by simp)).up (oD k dz db B m e))
  have P2 := hid (BD.at_ (w := (w.alloc (bg gc gs gn gl gk)).alloc (oJ st z A l c sp nx)) (g := w.heap.size + 1 + 1) k dz db B m e (by simp))
  have HF := hid (((fr1 w (bg gc gs gn gl gk)).alloc (oJ st z A l c sp nx)).alloc (oD k dz db B m e))
  have HI := hid (hi.fr HF.out)
  have HY := hid (hy.fr HF.out)
  have HLM := hid hl
  have HS := hid (fun W => small_ok st z A l c sp nx bs k dz db B m e true W (decide_eq_true hl))
  have HL := hid (fun W => rlayout_ok gc gs gn gl gk W hs)
  rw [rlo_yes hm] at HL
  obtain ⟨y, hy0⟩ : ∃ y, lay ⟨gc, gs, gn, gl, gk⟩ = y := ⟨_, rfl⟩
  rw [hy0] at HL
  obtain ⟨ya, yr, yq, yb, yd, yt, yx, yu⟩ := y
  dsimp only at HL
  have HM := hid (fun W (h : InI W A l c bs) => rmay_ok gc gs gn gl gk st z A l c sp nx bs W hs h)
  rw [hj] at HM
  have HCH := hid (fun W => chunk_ok ch W)
  rw [hc] at HCH
  have hq : aftA ⟨gc, gs, gn, gl, gk⟩ ch ⟨st, z, bs, sp, nx⟩ ⟨k, dz, db, ys⟩ = (⟨0, 0, [], 0, 0⟩, 1) := by unfold aftA; rw [if_pos hm, hj, hc]; rfl
  have HA := hid (fun C' (n' : Nat) (c' : Nat) W (h1 : InI W C' n' c' bs) (h2 : InI W B m e ys) => pAfter_lit gc gs gn gl gk ch st z C' n' c' sp nx bs k dz db B m e ys 0 0 [] 0 0 1 W hs hz hp hdz hq h1 h2 (by have := h1.len; have := hi.len; omega) (by omega))
  clear hi hy hl
  go_enter Try.func9, Try.ntmps9
  go_wp2_with (first | ((with_reducible refine ldJ rfl (.tmp 6) rfl (w.heap.size + 1) ?_ P1.out ?_); · rfl) | ((with_reducible refine ldD rfl (.tmp 7) rfl (w.heap.size + 1 + 1) ?_ P2.out ?_); · rfl))
  refine (HS.out _).mono ?_
  rintro r v1 ⟨rfl, f1⟩
  have HF := hid (HF.out.trans f1)
  have P0 := hid (show BG (v1) (w.heap.size) gc gs gn gl gk from Blk.fr P0.out f1 (fun h => h))
  have P1 := hid (P1.out.fr f1)
  have P2 := hid (P2.out.fr f1)
  have HI := hid (HI.out.fr f1)
  have HY := hid (HY.out.fr f1)
  clear f1
  have O0 := hid (own_lit v1)
  have HIa := hid (HI.out.fr (fr1 v1 (.cells #[] 3)))
  have a2 := kc (fr1 v1 (.cells #[] 3)) P1.out.cells.2.2.1
  have hl9 := HLM.out.1
  have hbl := HI.out.len
  clear hbl
  go_wp2_with (first | (at_builtin; refine app_i rfl (.tmp 22) (.tmp 24) rfl v1.heap.size _ [] rfl O0.out _ l _ bs rfl HIa.out.rd (by simp; omega) (by simp) ?_))
  intro A1 c1 u1 o1 f1
  try simp only [List.length_nil, Nat.zero_add, List.nil_append] at o1 f1
  try simp only [List.length_nil, Nat.zero_add]
  have F1 : Fr No v1 u1 := fr_ownI ((Fr.refl No v1).alloc (.cells #[] 3)) (lit_ge v1) (Nat.le_refl _) f1
  have HO := hid (in_own HI.out.len.symm o1)
  have HF := hid (HF.out.trans F1)
  have P0 := hid (show BG (u1) (w.heap.size) gc gs gn gl gk from Blk.fr P0.out F1 (fun h => h))
  have P1 := hid (P1.out.fr F1)
  have P2 := hid (P2.out.fr F1)
  have HI := hid (HI.out.fr F1)
  have HY := hid (HY.out.fr F1)
  clear o1 f1 F1 a2 HIa O0 hl9
  go_upto_region 6 with (first | ((with_reducible refine ldJ rfl (.tmp 6) rfl (w.heap.size + 1) ?_ P1.out ?_); · rfl))
  have HF := hid (HF.out.alloc (oJ st z A1 l c1 sp nx))
  have F1 := fr1 u1 (oJ st z A1 l c1 sp nx)
  have P0 := hid (show BG (u1.alloc (oJ st z A1 l c1 sp nx)) (w.heap.size) gc gs gn gl gk from Blk.fr P0.out F1 (fun h => h))
  have P1 := hid (P1.out.fr F1)
  have P2 := hid (P2.out.fr F1)
  have HI := hid (HI.out.fr F1)
  have HY := hid (HY.out.fr F1)
  have HO := hid (HO.out.fr F1)
  have P10 := hid (BJ.at_ (w := u1) st z A1 l c1 sp nx rfl)
  clear F1
  obtain ⟨b10, hb⟩ : ∃ x, u1.heap.size = x := ⟨_, rfl⟩
  rw [hb] at P10
  go_wp2_with (first | ((with_reducible refine ld_geom rfl (.tmp 4) rfl (w.heap.size) ?_ P0.out ?_); · rfl) | ((with_reducible refine ldD rfl (.tmp 7) rfl (w.heap.size + 1 + 1) ?_ P2.out ?_); · rfl) | ((with_reducible refine ldJ rfl (.tmp 10) rfl (b10) ?_ P10.out ?_); · rfl))
  try rw [hb]
  clear hb
  refine (HA.out _ _ _ _ HO.out HY.out).mono ?_
  rintro r v2 ⟨A5, l5, c5, rfl, i5, f2⟩
  have HF := hid ((HF.out.trans f2).alloc (oJ 0 0 A5 l5 c5 0 0))
  have P0 := hid (show BG (v2.alloc (oJ 0 0 A5 l5 c5 0 0)) (w.heap.size) gc gs gn gl gk from (Blk.fr P0.out f2 (fun h => h)).alloc _)
  have P1 := hid ((P1.out.fr f2).up (oJ 0 0 A5 l5 c5 0 0))
  have P2 := hid ((P2.out.fr f2).up (oJ 0 0 A5 l5 c5 0 0))
  have P10 := hid ((P10.out.fr f2).up (oJ 0 0 A5 l5 c5 0 0))
  have HI := hid (HI.out.fr (f2.alloc (oJ 0 0 A5 l5 c5 0 0)))
  have HY := hid (HY.out.fr (f2.alloc (oJ 0 0 A5 l5 c5 0 0)))
  have HO := hid (HO.out.fr (f2.alloc (oJ 0 0 A5 l5 c5 0 0)))
  have P11 := hid (BJ.at_ (w := v2) 0 0 A5 l5 c5 0 0 rfl)
  obtain ⟨b11, hb⟩ : ∃ x, v2.heap.size = x := ⟨_, rfl⟩
  rw [hb] at P11
  have H5 := hid (i5.fr (fr1 v2 (oJ 0 0 A5 l5 c5 0 0)))
  clear i5
  clear f2
  go_wp2_with fail
  try rw [hb]
  clear hb
  refine (lives_ok _).mono ?_
  rintro r v3 ⟨rfl, f3⟩
  have HF := hid (HF.out.trans f3)
  have P0 := hid (show BG (v3) (w.heap.size) gc gs gn gl gk from Blk.fr P0.out f3 (fun h => h))
  have P1 := hid (P1.out.fr f3)
  have P2 := hid (P2.out.fr f3)
  have P10 := hid (P10.out.fr f3)
  have P11 := hid (P11.out.fr f3)
  have HI := hid (HI.out.fr f3)
  have HY := hid (HY.out.fr f3)
  have HO := hid (HO.out.fr f3)
  have H5 := hid (H5.out.fr f3)
  clear f3
  obtain ⟨p10_0, p10_1, p10_2, p10_3, p10_4⟩ := P10.out.cells
  obtain ⟨p1_0, p1_1, p1_2, p1_3, p1_4⟩ := P1.out.cells
  go_wp2_with fail
  refine (rsame_refl st z A1 l c1 sp nx bs A l c _ HO.out HI.out).mono ?_
  rintro r v4 ⟨rfl, f4⟩
  clear p10_0 p10_1 p10_2 p10_3 p10_4 p1_0 p1_1 p1_2 p1_3 p1_4
  have HF := hid (HF.out.trans f4)
  have P0 := hid (show BG (v4) (w.heap.size) gc gs gn gl gk from Blk.fr P0.out f4 (fun h => h))
  have P1 := hid (P1.out.fr f4)
  have P2 := hid (P2.out.fr f4)
  have P10 := hid (P10.out.fr f4)
  have P11 := hid (P11.out.fr f4)
  have HI := hid (HI.out.fr f4)
  have HY := hid (HY.out.fr f4)
  have HO := hid (HO.out.fr f4)
  have H5 := hid (H5.out.fr f4)
  clear f4
  go_wp2_with (first | ((with_reducible refine ld_geom rfl (.tmp 4) rfl (w.heap.size) ?_ P0.out ?_); · rfl))
  refine (HL.out _).mono ?_
  rintro r v5 ⟨rfl, f5⟩
  have HF := hid ((HF.out.trans f5).alloc (by_ ya yr yq yb yd yt yx yu))
  have P0 := hid (show BG (v5.alloc (by_ ya yr yq yb yd yt yx yu)) (w.heap.size) gc gs gn gl gk from (Blk.fr P0.out f5 (fun h => h)).alloc _)
  have P1 := hid ((P1.out.fr f5).up (by_ ya yr yq yb yd yt yx yu))
  have P2 := hid ((P2.out.fr f5).up (by_ ya yr yq yb yd yt yx yu))
  have P10 := hid ((P10.out.fr f5).up (by_ ya yr yq yb yd yt yx yu))
  have P11 := hid ((P11.out.fr f5).up (by_ ya yr yq yb yd yt yx yu))
  have HI := hid (HI.out.fr (f5.alloc (by_ ya yr yq yb yd yt yx yu)))
  have HY := hid (HY.out.fr (f5.alloc (by_ ya yr yq yb yd yt yx yu)))
  have HO := hid (HO.out.fr (f5.alloc (by_ ya yr yq yb yd yt yx yu)))
  have H5 := hid (H5.out.fr (f5.alloc (by_ ya yr yq yb yd yt yx yu)))
  have P13 := hid (BL.new v5 ya yr yq yb yd yt yx yu)
  obtain ⟨b13, hb⟩ : ∃ x, v5.heap.size = x := ⟨_, rfl⟩
  rw [hb] at P13
  clear f5
  go_wp2_with (first | ((with_reducible refine ld_geom rfl (.tmp 4) rfl (w.heap.size) ?_ P0.out ?_); · rfl) | ((with_reducible refine ldJ rfl (.tmp 6) rfl (w.heap.size + 1) ?_ P1.out ?_); · rfl))
  try rw [hb]
  clear hb
  refine (HM.out _ HI.out).mono ?_
  rintro r v6 ⟨rfl, f6⟩
  have HF := hid (HF.out.trans f6)
  have P0 := hid (show BG (v6) (w.heap.size) gc gs gn gl gk from Blk.fr P0.out f6 (fun h => h))
  have P1 := hid (P1.out.fr f6)
  have P2 := hid (P2.out.fr f6)
  have P10 := hid (P10.out.fr f6)
  have P11 := hid (P11.out.fr f6)
  have P13 := hid (show BL (v6) (b13) ya yr yq yb yd yt yx yu from Blk.fr P13.out f6 (fun h => h))
  have HI := hid (HI.out.fr f6)
  have HY := hid (HY.out.fr f6)
  have HO := hid (HO.out.fr f6)
  have H5 := hid (H5.out.fr f6)
  clear f6
  go_wp2_with fail
  refine (HCH.out _).mono ?_
  rintro r w9 ⟨rfl, rfl⟩
  obtain ⟨p11_0, p11_1, p11_2, p11_3, p11_4⟩ := P11.out.cells
  go_wp2_with fail
  refine (rsame_refl 0 0 A5 l5 c5 0 0 [] none 0 0 _ H5.out (InI.nil _)).mono ?_
  rintro r v7 ⟨rfl, f7⟩
  clear p11_0 p11_1 p11_2 p11_3 p11_4
  have HF := hid (HF.out.trans f7)
  have P0 := hid (show BG (v7) (w.heap.size) gc gs gn gl gk from Blk.fr P0.out f7 (fun h => h))
  have P1 := hid (P1.out.fr f7)
  have P2 := hid (P2.out.fr f7)
  have P10 := hid (P10.out.fr f7)
  have P11 := hid (P11.out.fr f7)
  have P13 := hid (show BL (v7) (b13) ya yr yq yb yd yt yx yu from Blk.fr P13.out f7 (fun h => h))
  have HI := hid (HI.out.fr f7)
  have HY := hid (HY.out.fr f7)
  have HO := hid (HO.out.fr f7)
  have H5 := hid (H5.out.fr f7)
  clear f7
  go_wp2_with fail
  go_ret
  exact ⟨rfl, HF.out⟩
set_option maxRecDepth 100000 in
set_option maxHeartbeats 2000000 in
theorem after_err (gc gs gn gl gk : Int) (ch : Int) (st z : Int) (A : Option Addr) (l c : Nat) (sp nx : Int) (bs : List Int) (k dz db : Int) (B : Option Addr) (m e : Nat) (ys : List Int) (w : World) (hs : -9223372036854775808 ≤ gs ∧ gs ≤ 9223372036854775807) (hi : InI w A l c bs) (hy : InI w B m e ys) (hl : l ≤ 100 ∧ m ≤ 100) (hz : inI z) (hp : inI sp) (hdz : inI dz) (qs qz : Int) (qb : List Int) (qp qn qe : Int) (hm : mayG ⟨gc, gs, gn, gl, gk⟩) (hj : mayB ⟨gc, gs, gn, gl, gk⟩ ⟨st, z, bs, sp, nx⟩ = true) (hc : chB ch = true) (hqj : aftJ ⟨gc, gs, gn, gl, gk⟩ ch ⟨st, z, bs, sp, nx⟩ ⟨k, dz, db, ys⟩ = (⟨qs, qz, qb, qp, qn⟩, qe)) (he : qe ≠ 0) :
    Calls Try.prog 9 #[.agg #[.int .i64 gc, .int .i64 gs, .int .i64 gn, .int .i64 gl, .int .i64 gk], .int .i64 ch, .agg #[.int .i64 st, .int .i64 z, .slice A l c, .int .i64 sp, .int .i64 nx], .agg #[.int .i64 k, .int .i64 dz, .int .i64 db, .slice B m e]] w fun r w' => r = .returned (.bool true) ∧ Fr No w w' := by
  have P0 := hid (show BG (((w.alloc (bg gc gs gn gl gk)).alloc (oJ st z A l c sp nx)).alloc (oD k dz db B m e)) w.heap.size gc gs gn gl gk from BG3 w gc gs gn gl gk (oJ st z A l c sp nx) (oD k dz db B m e))
  have P1 := hid ((BJ.at_ (w := w.alloc (bg gc gs gn gl gk)) (g := w.heap.size + 1) st z A l c sp nx (by simp)).up (oD k dz db B m e))
  have P2 := hid (BD.at_ (w := (w.alloc (bg gc gs gn gl gk)).alloc (oJ st z A l c sp nx)) (g := w.heap.size + 1 + 1) k dz db B m e (by simp))
  have HF := hid (((fr1 w (bg gc gs gn gl gk)).alloc (oJ st z A l c sp nx)).alloc (oD k dz db B m e))
  have HI := hid (hi.fr HF.out)
  have HY := hid (hy.fr HF.out)
  have HLM := hid hl
  have HS := hid (fun W => small_ok st z A l c sp nx bs k dz db B m e true W (decide_eq_true hl))
  have HL := hid (fun W => rlayout_ok gc gs gn gl gk W hs)
  rw [rlo_yes hm] at HL
  obtain ⟨y, hy0⟩ : ∃ y, lay ⟨gc, gs, gn, gl, gk⟩ = y := ⟨_, rfl⟩
  rw [hy0] at HL
  obtain ⟨ya, yr, yq, yb, yd, yt, yx, yu⟩ := y
  dsimp only at HL
  have HM := hid (fun W (h : InI W A l c bs) => rmay_ok gc gs gn gl gk st z A l c sp nx bs W hs h)
  rw [hj] at HM
  have HCH := hid (fun W => chunk_ok ch W)
  rw [hc] at HCH
  have hq : aftA ⟨gc, gs, gn, gl, gk⟩ ch ⟨st, z, bs, sp, nx⟩ ⟨k, dz, db, ys⟩ = (⟨qs, qz, qb, qp, qn⟩, qe) := by unfold aftA; rw [if_pos hm, hj, hc]; exact hqj
  have HRA := hid (fun W (h1 : InI W A l c bs) (h2 : InI W B m e ys) => rAfter_lit gc gs gn gl gk ch st z A l c sp nx bs k dz db B m e ys qs qz qb qp qn qe W hs hm hj (ch_of hc) hqj h1 h2)
  have e1 : (qe == 0) = false := by simpa using he
  have e2 : (qe != 0) = true := by simpa using he
  have e3 : (qe == qe) = true := by simp
  clear he
  have HA := hid (fun C' (n' : Nat) (c' : Nat) W (h1 : InI W C' n' c' bs) (h2 : InI W B m e ys) => pAfter_lit gc gs gn gl gk ch st z C' n' c' sp nx bs k dz db B m e ys qs qz qb qp qn qe W hs hz hp hdz hq h1 h2 (by have := h1.len; have := hi.len; omega) (by omega))
  clear hi hy hl
  go_enter Try.func9, Try.ntmps9
  go_wp2_with (first | ((with_reducible refine ldJ rfl (.tmp 6) rfl (w.heap.size + 1) ?_ P1.out ?_); · rfl) | ((with_reducible refine ldD rfl (.tmp 7) rfl (w.heap.size + 1 + 1) ?_ P2.out ?_); · rfl))
  refine (HS.out _).mono ?_
  rintro r v1 ⟨rfl, f1⟩
  have HF := hid (HF.out.trans f1)
  have P0 := hid (show BG (v1) (w.heap.size) gc gs gn gl gk from Blk.fr P0.out f1 (fun h => h))
  have P1 := hid (P1.out.fr f1)
  have P2 := hid (P2.out.fr f1)
  have HI := hid (HI.out.fr f1)
  have HY := hid (HY.out.fr f1)
  clear f1
  have O0 := hid (own_lit v1)
  have HIa := hid (HI.out.fr (fr1 v1 (.cells #[] 3)))
  have a2 := kc (fr1 v1 (.cells #[] 3)) P1.out.cells.2.2.1
  have hl9 := HLM.out.1
  have hbl := HI.out.len
  clear hbl
  go_wp2_with (first | (at_builtin; refine app_i rfl (.tmp 22) (.tmp 24) rfl v1.heap.size _ [] rfl O0.out _ l _ bs rfl HIa.out.rd (by simp; omega) (by simp) ?_))
  intro A1 c1 u1 o1 f1
  try simp only [List.length_nil, Nat.zero_add, List.nil_append] at o1 f1
  try simp only [List.length_nil, Nat.zero_add]
  have F1 : Fr No v1 u1 := fr_ownI ((Fr.refl No v1).alloc (.cells #[] 3)) (lit_ge v1) (Nat.le_refl _) f1
  have HO := hid (in_own HI.out.len.symm o1)
  have HF := hid (HF.out.trans F1)
  have P0 := hid (show BG (u1) (w.heap.size) gc gs gn gl gk from Blk.fr P0.out F1 (fun h => h))
  have P1 := hid (P1.out.fr F1)
  have P2 := hid (P2.out.fr F1)
  have HI := hid (HI.out.fr F1)
  have HY := hid (HY.out.fr F1)
  clear o1 f1 F1 a2 HIa O0 hl9
  go_upto_region 6 with (first | ((with_reducible refine ldJ rfl (.tmp 6) rfl (w.heap.size + 1) ?_ P1.out ?_); · rfl))
  have HF := hid (HF.out.alloc (oJ st z A1 l c1 sp nx))
  have F1 := fr1 u1 (oJ st z A1 l c1 sp nx)
  have P0 := hid (show BG (u1.alloc (oJ st z A1 l c1 sp nx)) (w.heap.size) gc gs gn gl gk from Blk.fr P0.out F1 (fun h => h))
  have P1 := hid (P1.out.fr F1)
  have P2 := hid (P2.out.fr F1)
  have HI := hid (HI.out.fr F1)
  have HY := hid (HY.out.fr F1)
  have HO := hid (HO.out.fr F1)
  have P10 := hid (BJ.at_ (w := u1) st z A1 l c1 sp nx rfl)
  clear F1
  obtain ⟨b10, hb⟩ : ∃ x, u1.heap.size = x := ⟨_, rfl⟩
  rw [hb] at P10
  go_wp2_with (first | ((with_reducible refine ld_geom rfl (.tmp 4) rfl (w.heap.size) ?_ P0.out ?_); · rfl) | ((with_reducible refine ldD rfl (.tmp 7) rfl (w.heap.size + 1 + 1) ?_ P2.out ?_); · rfl) | ((with_reducible refine ldJ rfl (.tmp 10) rfl (b10) ?_ P10.out ?_); · rfl))
  try rw [hb]
  clear hb
  refine (HA.out _ _ _ _ HO.out HY.out).mono ?_
  rintro r v2 ⟨A5, l5, c5, rfl, i5, f2⟩
  have HF := hid ((HF.out.trans f2).alloc (oJ qs qz A5 l5 c5 qp qn))
  have P0 := hid (show BG (v2.alloc (oJ qs qz A5 l5 c5 qp qn)) (w.heap.size) gc gs gn gl gk from (Blk.fr P0.out f2 (fun h => h)).alloc _)
  have P1 := hid ((P1.out.fr f2).up (oJ qs qz A5 l5 c5 qp qn))
  have P2 := hid ((P2.out.fr f2).up (oJ qs qz A5 l5 c5 qp qn))
  have P10 := hid ((P10.out.fr f2).up (oJ qs qz A5 l5 c5 qp qn))
  have HI := hid (HI.out.fr (f2.alloc (oJ qs qz A5 l5 c5 qp qn)))
  have HY := hid (HY.out.fr (f2.alloc (oJ qs qz A5 l5 c5 qp qn)))
  have HO := hid (HO.out.fr (f2.alloc (oJ qs qz A5 l5 c5 qp qn)))
  have P11 := hid (BJ.at_ (w := v2) qs qz A5 l5 c5 qp qn rfl)
  obtain ⟨b11, hb⟩ : ∃ x, v2.heap.size = x := ⟨_, rfl⟩
  rw [hb] at P11
  have H5 := hid (i5.fr (fr1 v2 (oJ qs qz A5 l5 c5 qp qn)))
  clear i5
  clear f2
  go_wp2_with fail
  try rw [hb]
  clear hb
  refine (lives_ok _).mono ?_
  rintro r v3 ⟨rfl, f3⟩
  have HF := hid (HF.out.trans f3)
  have P0 := hid (show BG (v3) (w.heap.size) gc gs gn gl gk from Blk.fr P0.out f3 (fun h => h))
  have P1 := hid (P1.out.fr f3)
  have P2 := hid (P2.out.fr f3)
  have P10 := hid (P10.out.fr f3)
  have P11 := hid (P11.out.fr f3)
  have HI := hid (HI.out.fr f3)
  have HY := hid (HY.out.fr f3)
  have HO := hid (HO.out.fr f3)
  have H5 := hid (H5.out.fr f3)
  clear f3
  obtain ⟨p10_0, p10_1, p10_2, p10_3, p10_4⟩ := P10.out.cells
  obtain ⟨p1_0, p1_1, p1_2, p1_3, p1_4⟩ := P1.out.cells
  go_wp2_with fail
  refine (rsame_refl st z A1 l c1 sp nx bs A l c _ HO.out HI.out).mono ?_
  rintro r v4 ⟨rfl, f4⟩
  clear p10_0 p10_1 p10_2 p10_3 p10_4 p1_0 p1_1 p1_2 p1_3 p1_4
  have HF := hid (HF.out.trans f4)
  have P0 := hid (show BG (v4) (w.heap.size) gc gs gn gl gk from Blk.fr P0.out f4 (fun h => h))
  have P1 := hid (P1.out.fr f4)
  have P2 := hid (P2.out.fr f4)
  have P10 := hid (P10.out.fr f4)
  have P11 := hid (P11.out.fr f4)
  have HI := hid (HI.out.fr f4)
  have HY := hid (HY.out.fr f4)
  have HO := hid (HO.out.fr f4)
  have H5 := hid (H5.out.fr f4)
  clear f4
  go_wp2_with (first | ((with_reducible refine ld_geom rfl (.tmp 4) rfl (w.heap.size) ?_ P0.out ?_); · rfl))
  refine (HL.out _).mono ?_
  rintro r v5 ⟨rfl, f5⟩
  have HF := hid ((HF.out.trans f5).alloc (by_ ya yr yq yb yd yt yx yu))
  have P0 := hid (show BG (v5.alloc (by_ ya yr yq yb yd yt yx yu)) (w.heap.size) gc gs gn gl gk from (Blk.fr P0.out f5 (fun h => h)).alloc _)
  have P1 := hid ((P1.out.fr f5).up (by_ ya yr yq yb yd yt yx yu))
  have P2 := hid ((P2.out.fr f5).up (by_ ya yr yq yb yd yt yx yu))
  have P10 := hid ((P10.out.fr f5).up (by_ ya yr yq yb yd yt yx yu))
  have P11 := hid ((P11.out.fr f5).up (by_ ya yr yq yb yd yt yx yu))
  have HI := hid (HI.out.fr (f5.alloc (by_ ya yr yq yb yd yt yx yu)))
  have HY := hid (HY.out.fr (f5.alloc (by_ ya yr yq yb yd yt yx yu)))
  have HO := hid (HO.out.fr (f5.alloc (by_ ya yr yq yb yd yt yx yu)))
  have H5 := hid (H5.out.fr (f5.alloc (by_ ya yr yq yb yd yt yx yu)))
  have P13 := hid (BL.new v5 ya yr yq yb yd yt yx yu)
  obtain ⟨b13, hb⟩ : ∃ x, v5.heap.size = x := ⟨_, rfl⟩
  rw [hb] at P13
  clear f5
  go_wp2_with (first | ((with_reducible refine ld_geom rfl (.tmp 4) rfl (w.heap.size) ?_ P0.out ?_); · rfl) | ((with_reducible refine ldJ rfl (.tmp 6) rfl (w.heap.size + 1) ?_ P1.out ?_); · rfl))
  try rw [hb]
  clear hb
  refine (HM.out _ HI.out).mono ?_
  rintro r v6 ⟨rfl, f6⟩
  have HF := hid (HF.out.trans f6)
  have P0 := hid (show BG (v6) (w.heap.size) gc gs gn gl gk from Blk.fr P0.out f6 (fun h => h))
  have P1 := hid (P1.out.fr f6)
  have P2 := hid (P2.out.fr f6)
  have P10 := hid (P10.out.fr f6)
  have P11 := hid (P11.out.fr f6)
  have P13 := hid (show BL (v6) (b13) ya yr yq yb yd yt yx yu from Blk.fr P13.out f6 (fun h => h))
  have HI := hid (HI.out.fr f6)
  have HY := hid (HY.out.fr f6)
  have HO := hid (HO.out.fr f6)
  have H5 := hid (H5.out.fr f6)
  clear f6
  go_wp2_with fail
  refine (HCH.out _).mono ?_
  rintro r w9 ⟨rfl, rfl⟩
  go_wp2_with (first | ((with_reducible refine ld_geom rfl (.tmp 4) rfl (w.heap.size) ?_ P0.out ?_); · rfl) | ((with_reducible refine ldJ rfl (.tmp 6) rfl (w.heap.size + 1) ?_ P1.out ?_); · rfl) | ((with_reducible refine ldD rfl (.tmp 7) rfl (w.heap.size + 1 + 1) ?_ P2.out ?_); · rfl))
  refine (HRA.out _ HI.out HY.out).mono ?_
  rintro r v7 ⟨A6, l6, c6, rfl, i6, f7⟩
  have HF := hid ((HF.out.trans f7).alloc (oJ qs qz A6 l6 c6 qp qn))
  have P0 := hid (show BG (v7.alloc (oJ qs qz A6 l6 c6 qp qn)) (w.heap.size) gc gs gn gl gk from (Blk.fr P0.out f7 (fun h => h)).alloc _)
  have P1 := hid ((P1.out.fr f7).up (oJ qs qz A6 l6 c6 qp qn))
  have P2 := hid ((P2.out.fr f7).up (oJ qs qz A6 l6 c6 qp qn))
  have P10 := hid ((P10.out.fr f7).up (oJ qs qz A6 l6 c6 qp qn))
  have P11 := hid ((P11.out.fr f7).up (oJ qs qz A6 l6 c6 qp qn))
  have P13 := hid (show BL (v7.alloc (oJ qs qz A6 l6 c6 qp qn)) (b13) ya yr yq yb yd yt yx yu from (Blk.fr P13.out f7 (fun h => h)).alloc _)
  have HI := hid (HI.out.fr (f7.alloc (oJ qs qz A6 l6 c6 qp qn)))
  have HY := hid (HY.out.fr (f7.alloc (oJ qs qz A6 l6 c6 qp qn)))
  have HO := hid (HO.out.fr (f7.alloc (oJ qs qz A6 l6 c6 qp qn)))
  have H5 := hid (H5.out.fr (f7.alloc (oJ qs qz A6 l6 c6 qp qn)))
  have P15 := hid (BJ.at_ (w := v7) qs qz A6 l6 c6 qp qn rfl)
  obtain ⟨b15, hb⟩ : ∃ x, v7.heap.size = x := ⟨_, rfl⟩
  rw [hb] at P15
  have H6 := hid (i6.fr (fr1 v7 (oJ qs qz A6 l6 c6 qp qn)))
  clear i6
  clear f7
  try rw [hb]
  obtain ⟨p11_0, p11_1, p11_2, p11_3, p11_4⟩ := P11.out.cells
  obtain ⟨p15_0, p15_1, p15_2, p15_3, p15_4⟩ := P15.out.cells
  obtain ⟨p0_0, p0_1, p0_2, p0_3, p0_4⟩ := P0.out.cells
  go_wp2_with fail
  try rw [hb]
  clear hb
  refine (rsame_refl qs qz A5 l5 c5 qp qn qb A6 l6 c6 _ H5.out H6.out).mono ?_
  rintro r v8 ⟨rfl, f8⟩
  clear p11_0 p11_1 p11_2 p11_3 p11_4 p15_0 p15_1 p15_2 p15_3 p15_4 p0_0 p0_1 p0_2 p0_3 p0_4
  have HF := hid (HF.out.trans f8)
  have P0 := hid (show BG (v8) (w.heap.size) gc gs gn gl gk from Blk.fr P0.out f8 (fun h => h))
  have P1 := hid (P1.out.fr f8)
  have P2 := hid (P2.out.fr f8)
  have P10 := hid (P10.out.fr f8)
  have P11 := hid (P11.out.fr f8)
  have P13 := hid (show BL (v8) (b13) ya yr yq yb yd yt yx yu from Blk.fr P13.out f8 (fun h => h))
  have P15 := hid (P15.out.fr f8)
  have HI := hid (HI.out.fr f8)
  have HY := hid (HY.out.fr f8)
  have HO := hid (HO.out.fr f8)
  have H5 := hid (H5.out.fr f8)
  have H6 := hid (H6.out.fr f8)
  clear f8
  obtain ⟨p11_0, p11_1, p11_2, p11_3, p11_4⟩ := P11.out.cells
  obtain ⟨p0_0, p0_1, p0_2, p0_3, p0_4⟩ := P0.out.cells
  go_wp2_with fail
  go_ret
  exact ⟨rfl, HF.out⟩
set_option maxRecDepth 100000 in
set_option maxHeartbeats 2000000 in
theorem after_ok (gc gs gn gl gk : Int) (ch : Int) (st z : Int) (A : Option Addr) (l c : Nat) (sp nx : Int) (bs : List Int) (k dz db : Int) (B : Option Addr) (m e : Nat) (ys : List Int) (w : World) (hs : -9223372036854775808 ≤ gs ∧ gs ≤ 9223372036854775807) (hi : InI w A l c bs) (hy : InI w B m e ys) (hl : l ≤ 100 ∧ m ≤ 100) (hz : inI z) (hp : inI sp) (hdz : inI dz) (qs qz : Int) (qb : List Int) (qp qn : Int) (hm : mayG ⟨gc, gs, gn, gl, gk⟩) (hj : mayB ⟨gc, gs, gn, gl, gk⟩ ⟨st, z, bs, sp, nx⟩ = true) (hc : chB ch = true) (hqj : aftJ ⟨gc, gs, gn, gl, gk⟩ ch ⟨st, z, bs, sp, nx⟩ ⟨k, dz, db, ys⟩ = (⟨qs, qz, qb, qp, qn⟩, 0)) :
    Calls Try.prog 9 #[.agg #[.int .i64 gc, .int .i64 gs, .int .i64 gn, .int .i64 gl, .int .i64 gk], .int .i64 ch, .agg #[.int .i64 st, .int .i64 z, .slice A l c, .int .i64 sp, .int .i64 nx], .agg #[.int .i64 k, .int .i64 dz, .int .i64 db, .slice B m e]] w fun r w' => r = .returned (.bool true) ∧ Fr No w w' := by
  have P0 := hid (show BG (((w.alloc (bg gc gs gn gl gk)).alloc (oJ st z A l c sp nx)).alloc (oD k dz db B m e)) w.heap.size gc gs gn gl gk from BG3 w gc gs gn gl gk (oJ st z A l c sp nx) (oD k dz db B m e))
  have P1 := hid ((BJ.at_ (w := w.alloc (bg gc gs gn gl gk)) (g := w.heap.size + 1) st z A l c sp nx (by simp)).up (oD k dz db B m e))
  have P2 := hid (BD.at_ (w := (w.alloc (bg gc gs gn gl gk)).alloc (oJ st z A l c sp nx)) (g := w.heap.size + 1 + 1) k dz db B m e (by simp))
  have HF := hid (((fr1 w (bg gc gs gn gl gk)).alloc (oJ st z A l c sp nx)).alloc (oD k dz db B m e))
  have HI := hid (hi.fr HF.out)
  have HY := hid (hy.fr HF.out)
  have HLM := hid hl
  have HS := hid (fun W => small_ok st z A l c sp nx bs k dz db B m e true W (decide_eq_true hl))
  have HL := hid (fun W => rlayout_ok gc gs gn gl gk W hs)
  rw [rlo_yes hm] at HL
  obtain ⟨y, hy0⟩ : ∃ y, lay ⟨gc, gs, gn, gl, gk⟩ = y := ⟨_, rfl⟩
  rw [hy0] at HL
  obtain ⟨ya, yr, yq, yb, yd, yt, yx, yu⟩ := y
  dsimp only at HL
  have HM := hid (fun W (h : InI W A l c bs) => rmay_ok gc gs gn gl gk st z A l c sp nx bs W hs h)
  rw [hj] at HM
  have HCH := hid (fun W => chunk_ok ch W)
  rw [hc] at HCH
  have hq : aftA ⟨gc, gs, gn, gl, gk⟩ ch ⟨st, z, bs, sp, nx⟩ ⟨k, dz, db, ys⟩ = (⟨qs, qz, qb, qp, qn⟩, 0) := by unfold aftA; rw [if_pos hm, hj, hc]; exact hqj
  have HRA := hid (fun W (h1 : InI W A l c bs) (h2 : InI W B m e ys) => rAfter_lit gc gs gn gl gk ch st z A l c sp nx bs k dz db B m e ys qs qz qb qp qn 0 W hs hm hj (ch_of hc) hqj h1 h2)
  have hmt : mayB ⟨gc, gs, gn, gl, gk⟩ ⟨qs, qz, qb, qp, qn⟩ = true := by
    have h := aft_may (g := ⟨gc, gs, gn, gl, gk⟩) (ch := ch) (j := ⟨st, z, bs, sp, nx⟩) (v := ⟨k, dz, db, ys⟩) hm hj (by rw [hqj])
    rw [hqj] at h
    exact h
  have hin := in_aft (g := ⟨gc, gs, gn, gl, gk⟩) (ch := ch) (j := ⟨st, z, bs, sp, nx⟩) (v := ⟨k, dz, db, ys⟩) hz hp hdz
  rw [hqj] at hin
  have HMT := hid (fun A' (l' c' : Nat) W (h : InI W A' l' c' qb) => may_ok gc gs gn gl gk qs qz A' l' c' qp qn qb W hs hin.1 hin.2 h)
  rw [hmt] at HMT
  have HA := hid (fun C' (n' : Nat) (c' : Nat) W (h1 : InI W C' n' c' bs) (h2 : InI W B m e ys) => pAfter_lit gc gs gn gl gk ch st z C' n' c' sp nx bs k dz db B m e ys qs qz qb qp qn 0 W hs hz hp hdz hq h1 h2 (by have := h1.len; have := hi.len; omega) (by omega))
  clear hi hy hl
  go_enter Try.func9, Try.ntmps9
  go_wp2_with (first | ((with_reducible refine ldJ rfl (.tmp 6) rfl (w.heap.size + 1) ?_ P1.out ?_); · rfl) | ((with_reducible refine ldD rfl (.tmp 7) rfl (w.heap.size + 1 + 1) ?_ P2.out ?_); · rfl))
  refine (HS.out _).mono ?_
  rintro r v1 ⟨rfl, f1⟩
  have HF := hid (HF.out.trans f1)
  have P0 := hid (show BG (v1) (w.heap.size) gc gs gn gl gk from Blk.fr P0.out f1 (fun h => h))
  have P1 := hid (P1.out.fr f1)
  have P2 := hid (P2.out.fr f1)
  have HI := hid (HI.out.fr f1)
  have HY := hid (HY.out.fr f1)
  clear f1
  have O0 := hid (own_lit v1)
  have HIa := hid (HI.out.fr (fr1 v1 (.cells #[] 3)))
  have a2 := kc (fr1 v1 (.cells #[] 3)) P1.out.cells.2.2.1
  have hl9 := HLM.out.1
  have hbl := HI.out.len
  clear hbl
  go_wp2_with (first | (at_builtin; refine app_i rfl (.tmp 22) (.tmp 24) rfl v1.heap.size _ [] rfl O0.out _ l _ bs rfl HIa.out.rd (by simp; omega) (by simp) ?_))
  intro A1 c1 u1 o1 f1
  try simp only [List.length_nil, Nat.zero_add, List.nil_append] at o1 f1
  try simp only [List.length_nil, Nat.zero_add]
  have F1 : Fr No v1 u1 := fr_ownI ((Fr.refl No v1).alloc (.cells #[] 3)) (lit_ge v1) (Nat.le_refl _) f1
  have HO := hid (in_own HI.out.len.symm o1)
  have HF := hid (HF.out.trans F1)
  have P0 := hid (show BG (u1) (w.heap.size) gc gs gn gl gk from Blk.fr P0.out F1 (fun h => h))
  have P1 := hid (P1.out.fr F1)
  have P2 := hid (P2.out.fr F1)
  have HI := hid (HI.out.fr F1)
  have HY := hid (HY.out.fr F1)
  clear o1 f1 F1 a2 HIa O0 hl9
  go_upto_region 6 with (first | ((with_reducible refine ldJ rfl (.tmp 6) rfl (w.heap.size + 1) ?_ P1.out ?_); · rfl))
  have HF := hid (HF.out.alloc (oJ st z A1 l c1 sp nx))
  have F1 := fr1 u1 (oJ st z A1 l c1 sp nx)
  have P0 := hid (show BG (u1.alloc (oJ st z A1 l c1 sp nx)) (w.heap.size) gc gs gn gl gk from Blk.fr P0.out F1 (fun h => h))
  have P1 := hid (P1.out.fr F1)
  have P2 := hid (P2.out.fr F1)
  have HI := hid (HI.out.fr F1)
  have HY := hid (HY.out.fr F1)
  have HO := hid (HO.out.fr F1)
  have P10 := hid (BJ.at_ (w := u1) st z A1 l c1 sp nx rfl)
  clear F1
  obtain ⟨b10, hb⟩ : ∃ x, u1.heap.size = x := ⟨_, rfl⟩
  rw [hb] at P10
  go_wp2_with (first | ((with_reducible refine ld_geom rfl (.tmp 4) rfl (w.heap.size) ?_ P0.out ?_); · rfl) | ((with_reducible refine ldD rfl (.tmp 7) rfl (w.heap.size + 1 + 1) ?_ P2.out ?_); · rfl) | ((with_reducible refine ldJ rfl (.tmp 10) rfl (b10) ?_ P10.out ?_); · rfl))
  try rw [hb]
  clear hb
  refine (HA.out _ _ _ _ HO.out HY.out).mono ?_
  rintro r v2 ⟨A5, l5, c5, rfl, i5, f2⟩
  have HF := hid ((HF.out.trans f2).alloc (oJ qs qz A5 l5 c5 qp qn))
  have P0 := hid (show BG (v2.alloc (oJ qs qz A5 l5 c5 qp qn)) (w.heap.size) gc gs gn gl gk from (Blk.fr P0.out f2 (fun h => h)).alloc _)
  have P1 := hid ((P1.out.fr f2).up (oJ qs qz A5 l5 c5 qp qn))
  have P2 := hid ((P2.out.fr f2).up (oJ qs qz A5 l5 c5 qp qn))
  have P10 := hid ((P10.out.fr f2).up (oJ qs qz A5 l5 c5 qp qn))
  have HI := hid (HI.out.fr (f2.alloc (oJ qs qz A5 l5 c5 qp qn)))
  have HY := hid (HY.out.fr (f2.alloc (oJ qs qz A5 l5 c5 qp qn)))
  have HO := hid (HO.out.fr (f2.alloc (oJ qs qz A5 l5 c5 qp qn)))
  have P11 := hid (BJ.at_ (w := v2) qs qz A5 l5 c5 qp qn rfl)
  obtain ⟨b11, hb⟩ : ∃ x, v2.heap.size = x := ⟨_, rfl⟩
  rw [hb] at P11
  have H5 := hid (i5.fr (fr1 v2 (oJ qs qz A5 l5 c5 qp qn)))
  clear i5
  clear f2
  go_wp2_with fail
  try rw [hb]
  clear hb
  refine (lives_ok _).mono ?_
  rintro r v3 ⟨rfl, f3⟩
  have HF := hid (HF.out.trans f3)
  have P0 := hid (show BG (v3) (w.heap.size) gc gs gn gl gk from Blk.fr P0.out f3 (fun h => h))
  have P1 := hid (P1.out.fr f3)
  have P2 := hid (P2.out.fr f3)
  have P10 := hid (P10.out.fr f3)
  have P11 := hid (P11.out.fr f3)
  have HI := hid (HI.out.fr f3)
  have HY := hid (HY.out.fr f3)
  have HO := hid (HO.out.fr f3)
  have H5 := hid (H5.out.fr f3)
  clear f3
  obtain ⟨p10_0, p10_1, p10_2, p10_3, p10_4⟩ := P10.out.cells
  obtain ⟨p1_0, p1_1, p1_2, p1_3, p1_4⟩ := P1.out.cells
  go_wp2_with fail
  refine (rsame_refl st z A1 l c1 sp nx bs A l c _ HO.out HI.out).mono ?_
  rintro r v4 ⟨rfl, f4⟩
  clear p10_0 p10_1 p10_2 p10_3 p10_4 p1_0 p1_1 p1_2 p1_3 p1_4
  have HF := hid (HF.out.trans f4)
  have P0 := hid (show BG (v4) (w.heap.size) gc gs gn gl gk from Blk.fr P0.out f4 (fun h => h))
  have P1 := hid (P1.out.fr f4)
  have P2 := hid (P2.out.fr f4)
  have P10 := hid (P10.out.fr f4)
  have P11 := hid (P11.out.fr f4)
  have HI := hid (HI.out.fr f4)
  have HY := hid (HY.out.fr f4)
  have HO := hid (HO.out.fr f4)
  have H5 := hid (H5.out.fr f4)
  clear f4
  go_wp2_with (first | ((with_reducible refine ld_geom rfl (.tmp 4) rfl (w.heap.size) ?_ P0.out ?_); · rfl))
  refine (HL.out _).mono ?_
  rintro r v5 ⟨rfl, f5⟩
  have HF := hid ((HF.out.trans f5).alloc (by_ ya yr yq yb yd yt yx yu))
  have P0 := hid (show BG (v5.alloc (by_ ya yr yq yb yd yt yx yu)) (w.heap.size) gc gs gn gl gk from (Blk.fr P0.out f5 (fun h => h)).alloc _)
  have P1 := hid ((P1.out.fr f5).up (by_ ya yr yq yb yd yt yx yu))
  have P2 := hid ((P2.out.fr f5).up (by_ ya yr yq yb yd yt yx yu))
  have P10 := hid ((P10.out.fr f5).up (by_ ya yr yq yb yd yt yx yu))
  have P11 := hid ((P11.out.fr f5).up (by_ ya yr yq yb yd yt yx yu))
  have HI := hid (HI.out.fr (f5.alloc (by_ ya yr yq yb yd yt yx yu)))
  have HY := hid (HY.out.fr (f5.alloc (by_ ya yr yq yb yd yt yx yu)))
  have HO := hid (HO.out.fr (f5.alloc (by_ ya yr yq yb yd yt yx yu)))
  have H5 := hid (H5.out.fr (f5.alloc (by_ ya yr yq yb yd yt yx yu)))
  have P13 := hid (BL.new v5 ya yr yq yb yd yt yx yu)
  obtain ⟨b13, hb⟩ : ∃ x, v5.heap.size = x := ⟨_, rfl⟩
  rw [hb] at P13
  clear f5
  go_wp2_with (first | ((with_reducible refine ld_geom rfl (.tmp 4) rfl (w.heap.size) ?_ P0.out ?_); · rfl) | ((with_reducible refine ldJ rfl (.tmp 6) rfl (w.heap.size + 1) ?_ P1.out ?_); · rfl))
  try rw [hb]
  clear hb
  refine (HM.out _ HI.out).mono ?_
  rintro r v6 ⟨rfl, f6⟩
  have HF := hid (HF.out.trans f6)
  have P0 := hid (show BG (v6) (w.heap.size) gc gs gn gl gk from Blk.fr P0.out f6 (fun h => h))
  have P1 := hid (P1.out.fr f6)
  have P2 := hid (P2.out.fr f6)
  have P10 := hid (P10.out.fr f6)
  have P11 := hid (P11.out.fr f6)
  have P13 := hid (show BL (v6) (b13) ya yr yq yb yd yt yx yu from Blk.fr P13.out f6 (fun h => h))
  have HI := hid (HI.out.fr f6)
  have HY := hid (HY.out.fr f6)
  have HO := hid (HO.out.fr f6)
  have H5 := hid (H5.out.fr f6)
  clear f6
  go_wp2_with fail
  refine (HCH.out _).mono ?_
  rintro r w9 ⟨rfl, rfl⟩
  go_wp2_with (first | ((with_reducible refine ld_geom rfl (.tmp 4) rfl (w.heap.size) ?_ P0.out ?_); · rfl) | ((with_reducible refine ldJ rfl (.tmp 6) rfl (w.heap.size + 1) ?_ P1.out ?_); · rfl) | ((with_reducible refine ldD rfl (.tmp 7) rfl (w.heap.size + 1 + 1) ?_ P2.out ?_); · rfl))
  refine (HRA.out _ HI.out HY.out).mono ?_
  rintro r v7 ⟨A6, l6, c6, rfl, i6, f7⟩
  have HF := hid ((HF.out.trans f7).alloc (oJ qs qz A6 l6 c6 qp qn))
  have P0 := hid (show BG (v7.alloc (oJ qs qz A6 l6 c6 qp qn)) (w.heap.size) gc gs gn gl gk from (Blk.fr P0.out f7 (fun h => h)).alloc _)
  have P1 := hid ((P1.out.fr f7).up (oJ qs qz A6 l6 c6 qp qn))
  have P2 := hid ((P2.out.fr f7).up (oJ qs qz A6 l6 c6 qp qn))
  have P10 := hid ((P10.out.fr f7).up (oJ qs qz A6 l6 c6 qp qn))
  have P11 := hid ((P11.out.fr f7).up (oJ qs qz A6 l6 c6 qp qn))
  have P13 := hid (show BL (v7.alloc (oJ qs qz A6 l6 c6 qp qn)) (b13) ya yr yq yb yd yt yx yu from (Blk.fr P13.out f7 (fun h => h)).alloc _)
  have HI := hid (HI.out.fr (f7.alloc (oJ qs qz A6 l6 c6 qp qn)))
  have HY := hid (HY.out.fr (f7.alloc (oJ qs qz A6 l6 c6 qp qn)))
  have HO := hid (HO.out.fr (f7.alloc (oJ qs qz A6 l6 c6 qp qn)))
  have H5 := hid (H5.out.fr (f7.alloc (oJ qs qz A6 l6 c6 qp qn)))
  have P15 := hid (BJ.at_ (w := v7) qs qz A6 l6 c6 qp qn rfl)
  obtain ⟨b15, hb⟩ : ∃ x, v7.heap.size = x := ⟨_, rfl⟩
  rw [hb] at P15
  have H6 := hid (i6.fr (fr1 v7 (oJ qs qz A6 l6 c6 qp qn)))
  clear i6
  clear f7
  try rw [hb]
  obtain ⟨p11_0, p11_1, p11_2, p11_3, p11_4⟩ := P11.out.cells
  obtain ⟨p15_0, p15_1, p15_2, p15_3, p15_4⟩ := P15.out.cells
  obtain ⟨p0_0, p0_1, p0_2, p0_3, p0_4⟩ := P0.out.cells
  go_wp2_with fail
  try rw [hb]
  clear hb
  refine (rsame_refl qs qz A5 l5 c5 qp qn qb A6 l6 c6 _ H5.out H6.out).mono ?_
  rintro r v8 ⟨rfl, f8⟩
  clear p11_0 p11_1 p11_2 p11_3 p11_4 p15_0 p15_1 p15_2 p15_3 p15_4 p0_0 p0_1 p0_2 p0_3 p0_4
  have HF := hid (HF.out.trans f8)
  have P0 := hid (show BG (v8) (w.heap.size) gc gs gn gl gk from Blk.fr P0.out f8 (fun h => h))
  have P1 := hid (P1.out.fr f8)
  have P2 := hid (P2.out.fr f8)
  have P10 := hid (P10.out.fr f8)
  have P11 := hid (P11.out.fr f8)
  have P13 := hid (show BL (v8) (b13) ya yr yq yb yd yt yx yu from Blk.fr P13.out f8 (fun h => h))
  have P15 := hid (P15.out.fr f8)
  have HI := hid (HI.out.fr f8)
  have HY := hid (HY.out.fr f8)
  have HO := hid (HO.out.fr f8)
  have H5 := hid (H5.out.fr f8)
  have H6 := hid (H6.out.fr f8)
  clear f8
  obtain ⟨p11_0, p11_1, p11_2, p11_3, p11_4⟩ := P11.out.cells
  obtain ⟨p0_0, p0_1, p0_2, p0_3, p0_4⟩ := P0.out.cells
  go_wp2_with fail
  refine (HMT.out _ _ _ _ H5.out).mono ?_
  rintro r v9 ⟨rfl, f9⟩
  clear p11_0 p11_1 p11_2 p11_3 p11_4 p0_0 p0_1 p0_2 p0_3 p0_4
  have HF := hid (HF.out.trans f9)
  have P0 := hid (show BG (v9) (w.heap.size) gc gs gn gl gk from Blk.fr P0.out f9 (fun h => h))
  have P1 := hid (P1.out.fr f9)
  have P2 := hid (P2.out.fr f9)
  have P10 := hid (P10.out.fr f9)
  have P11 := hid (P11.out.fr f9)
  have P13 := hid (show BL (v9) (b13) ya yr yq yb yd yt yx yu from Blk.fr P13.out f9 (fun h => h))
  have P15 := hid (P15.out.fr f9)
  have HI := hid (HI.out.fr f9)
  have HY := hid (HY.out.fr f9)
  have HO := hid (HO.out.fr f9)
  have H5 := hid (H5.out.fr f9)
  have H6 := hid (H6.out.fr f9)
  clear f9
  go_wp2_with fail
  go_ret
  exact ⟨rfl, HF.out⟩
theorem row (gc gs gn gl gk : Int) (ch : Int) (st z : Int) (A : Option Addr) (l c : Nat) (sp nx : Int) (bs : List Int) (k dz db : Int) (B : Option Addr) (m e : Nat) (ys : List Int) (w : World) (hs : -9223372036854775808 ≤ gs ∧ gs ≤ 9223372036854775807) (hz : inI z) (hp : inI sp) (hi : InI w A l c bs) (hdz : inI dz) (hy : InI w B m e ys) :
    Calls Try.prog 9 #[.agg #[.int .i64 gc, .int .i64 gs, .int .i64 gn, .int .i64 gl, .int .i64 gk], .int .i64 ch, .agg #[.int .i64 st, .int .i64 z, .slice A l c, .int .i64 sp, .int .i64 nx], .agg #[.int .i64 k, .int .i64 dz, .int .i64 db, .slice B m e]] w fun r w' => r = .returned (.bool true) ∧ Fr No w w' := by
  by_cases hl : l ≤ 100 ∧ m ≤ 100
  case neg => exact after_big gc gs gn gl gk ch st z A l c sp nx bs k dz db B m e ys w hs hi hy hl
  by_cases hm : mayG ⟨gc, gs, gn, gl, gk⟩
  case neg => exact after_geom gc gs gn gl gk ch st z A l c sp nx bs k dz db B m e ys w hs hi hy hl hz hp hdz hm
  cases hj : mayB ⟨gc, gs, gn, gl, gk⟩ ⟨st, z, bs, sp, nx⟩
  · exact after_bad gc gs gn gl gk ch st z A l c sp nx bs k dz db B m e ys w hs hi hy hl hz hp hdz hm hj
  cases hc : chB ch
  · exact after_chunk gc gs gn gl gk ch st z A l c sp nx bs k dz db B m e ys w hs hi hy hl hz hp hdz hm hj hc
  obtain ⟨q, hq⟩ : ∃ q, aftJ ⟨gc, gs, gn, gl, gk⟩ ch ⟨st, z, bs, sp, nx⟩ ⟨k, dz, db, ys⟩ = q := ⟨_, rfl⟩
  obtain ⟨⟨qs, qz, qb, qp, qn⟩, qe⟩ := q
  by_cases he : qe = 0
  · subst he
    exact after_ok gc gs gn gl gk ch st z A l c sp nx bs k dz db B m e ys w hs hi hy hl hz hp hdz qs qz qb qp qn hm hj hc hq
  · exact after_err gc gs gn gl gk ch st z A l c sp nx bs k dz db B m e ys w hs hi hy hl hz hp hdz qs qz qb qp qn qe hm hj hc hq he
end Go.Proofs.Ytgjcpepfggkieaa.ClV
