/- Contracts: whether an extent may be, by the program and by the document. Condition: all numbers are 64 bits. -/
import Derived.Test.YtoboialfaifbgaaGeF
import Derived.Deep.DeepCutAuto
namespace Go.Proofs.Ytoboialfaifbgaa.PgA
open Go.RowKit MSep MGeM GeA GeD GeF

/-- Which extents may be. -/
def mayX (g : Ge) (a m z o : Int) : Prop := cko g a m = 0 ∧ a / 4096 = (a + m - 1) / 4096 ∧ ((z = 255 ∧ o = 0) ∨ (¬ z = 255 ∧ (g.c ≤ z ∧ z < g.c + g.s) ∧ 0 ≤ o ∧ o ≤ g.n - m))
instance (g : Ge) (a m z o : Int) : Decidable (mayX g a m z o) := by unfold mayX; exact inferInstance
theorem cko0 {g : Ge} {a m : Int} (h : cko g a m = 0) : mayG g ∧ (0 ≤ a ∧ 1 ≤ m ∧ a + m ≤ 1099511627776) ∧ a + m ≤ (lay g).t := by
  unfold cko at h
  split at h
  · rename_i hm
    split at h
    · rename_i h2
      exact ⟨hm, by omega, h2.2.2⟩
    · cases h
  · cases h
theorem inG {g : Ge} (h : mayG g) : (2 ≤ g.c ∧ g.c ≤ 16) ∧ (4 ≤ g.s ∧ g.s ≤ 128) ∧ (8 ≤ g.n ∧ g.n ≤ 1024) := ⟨h.1.1, h.1.2.1, h.1.2.2.1⟩
abbrev gv (gc gs gn gl gk : Int) : Value := .agg #[.int .i64 gc, .int .i64 gs, .int .i64 gn, .int .i64 gl, .int .i64 gk]
abbrev xv (a m z o : Int) : Value := .agg #[.int .i64 a, .int .i64 m, .int .i64 z, .int .i64 o]
def GB (w : World) (G : Nat) (gc gs gn gl gk : Int) : Prop := Blk w G 23 #[.int .i64 gc, .int .i64 gs, .int .i64 gn, .int .i64 gl, .int .i64 gk]
def XB (w : World) (X : Nat) (a m z o : Int) : Prop := Blk w X 62 #[.int .i64 a, .int .i64 m, .int .i64 z, .int .i64 o]
theorem two_new (w : World) (gc gs gn gl gk a m z o : Int) : GB ((w.alloc (.cells #[.int .i64 gc, .int .i64 gs, .int .i64 gn, .int .i64 gl, .int .i64 gk] 23)).alloc (.cells #[.int .i64 a, .int .i64 m, .int .i64 z, .int .i64 o] 62)) w.heap.size gc gs gn gl gk ∧ XB ((w.alloc (.cells #[.int .i64 gc, .int .i64 gs, .int .i64 gn, .int .i64 gl, .int .i64 gk] 23)).alloc (.cells #[.int .i64 a, .int .i64 m, .int .i64 z, .int .i64 o] 62)) (w.heap.size + 1) a m z o ∧ Fr No w ((w.alloc (.cells #[.int .i64 gc, .int .i64 gs, .int .i64 gn, .int .i64 gl, .int .i64 gk] 23)).alloc (.cells #[.int .i64 a, .int .i64 m, .int .i64 z, .int .i64 o] 62)) := by
  refine ⟨(Blk.new w _ _).alloc _, ?_, ((Fr.refl No w).alloc _).alloc _⟩
  have := Blk.new (w.alloc (.cells #[.int .i64 gc, .int .i64 gs, .int .i64 gn, .int .i64 gl, .int .i64 gk] 23)) 62 #[.int .i64 a, .int .i64 m, .int .i64 z, .int .i64 o]
  rwa [World.size_alloc] at this
set_option maxRecDepth 100000 in
set_option maxHeartbeats 2000000 in
theorem seq_ok (gc gs gn gl gk i : Int) (w : World) (hm : mayG ⟨gc, gs, gn, gl, gk⟩) : Calls Try.prog 69 #[gv gc gs gn gl gk, .int .i64 i] w fun e w' => e = .returned (.bool (decide (gc ≤ i ∧ i < gc + gs))) ∧ Fr No w w' := by
  obtain ⟨⟨h1, h2⟩, ⟨h3, h4⟩, _⟩ := inG hm
  simp only [] at h1 h2 h3 h4
  have HF := hid (fr1 w (.cells #[.int .i64 gc, .int .i64 gs, .int .i64 gn, .int .i64 gl, .int .i64 gk] 23))
  clear hm
  by_cases h : gc ≤ i
  · by_cases h5 : i < gc + gs
    · rw [decide_eq_true (show gc ≤ i ∧ i < gc + gs from ⟨h, h5⟩)]
      go_enter Try.func69, Try.ntmps69
      go_wp2
      go_ret
      exact ⟨rfl, HF.out⟩
    · rw [decide_eq_false (show ¬ (gc ≤ i ∧ i < gc + gs) from fun q => h5 q.2)]
      have h5b : gc + gs ≤ i := by omega
      go_enter Try.func69, Try.ntmps69
      go_wp2
      go_ret
      exact ⟨rfl, HF.out⟩
  · rw [decide_eq_false (show ¬ (gc ≤ i ∧ i < gc + gs) from fun q => h q.1)]
    have hb : i < gc := by omega
    go_enter Try.func69, Try.ntmps69
    go_wp2
    go_ret
    exact ⟨rfl, HF.out⟩
set_option maxRecDepth 100000 in
set_option maxHeartbeats 4000000 in
theorem mx_ok (gc gs gn gl gk a m z o : Int) (w : World) (hs : -9223372036854775808 ≤ gs ∧ gs ≤ 9223372036854775807) (hw : SpA.wf (a, m)) (hz : -9223372036854775808 ≤ z ∧ z ≤ 9223372036854775807) : Calls Try.prog 63 #[gv gc gs gn gl gk, xv a m z o] w fun e w' => e = .returned (.bool (decide (mayX ⟨gc, gs, gn, gl, gk⟩ a m z o))) ∧ Fr No w w' := by
  obtain ⟨hG, hX, hF⟩ := two_new w gc gs gn gl gk a m z o
  have HGX := hid (show ∀ w2, Fr No ((w.alloc (.cells #[.int .i64 gc, .int .i64 gs, .int .i64 gn, .int .i64 gl, .int .i64 gk] 23)).alloc (.cells #[.int .i64 a, .int .i64 m, .int .i64 z, .int .i64 o] 62)) w2 → GB w2 w.heap.size gc gs gn gl gk ∧ XB w2 (w.heap.size + 1) a m z o ∧ Fr No w w2 from fun w2 f => ⟨Blk.fr hG f (fun h => h), Blk.fr hX f (fun h => h), hF.trans f⟩)
  have HGX0 := hid (HGX.out _ (Fr.refl No _))
  have HS := hid hs
  have HW := hid hw
  have HZ := hid hz
  obtain ⟨ck, hck⟩ : ∃ ck, cko ⟨gc, gs, gn, gl, gk⟩ a m = ck := ⟨_, rfl⟩
  have HCK := hid hck
  clear hG hX hF hs hw hz hck
  by_cases h0 : ck = 0
  · subst h0
    obtain ⟨hmg, ⟨ha, hm1, ham⟩, _⟩ := cko0 HCK.out
    obtain ⟨⟨i1, i2⟩, ⟨i3, i4⟩, ⟨i5, i6⟩⟩ := inG hmg
    simp only [] at i1 i2 i3 i4 i5 i6
    have HMG := hid hmg
    clear hmg
    by_cases hd : a / 4096 = (a + m - 1) / 4096
    · have hm4 : m ≤ 4096 := by omega
      have hdb : (a / 4096 == (a + m - 1) / 4096) = true := by simpa using hd
      have hdc : (a / 4096 != (a + m - 1) / 4096) = false := by rw [bne, hdb]; rfl
      have hmb : decide (4096 < m) = false := decide_eq_false (by omega)
      by_cases hz : z = 255
      · by_cases ho : o = 0
        · have HD := hid (decide_eq_true (show mayX ⟨gc, gs, gn, gl, gk⟩ a m z o from ⟨HCK.out, hd, Or.inl ⟨hz, ho⟩⟩))
          have hzb : (z == 255) = true := by simpa using hz
          have hob : (o == 0) = true := by simpa using ho
          clear hd hz ho
          rw [HD.out]
          clear HD
          go_enter Try.func63, Try.ntmps63
          go_wp2_with (go_at_call 85; ((with_reducible refine (check_ok gc gs gn gl gk a m _ HS.out HW.out).mono ?_); rintro e' w2 ⟨rfl, f⟩; rw [HCK.out]; obtain ⟨QG, QX, QF⟩ := HGX.out _ f; have y0 : w2.cell? ⟨w.heap.size, 0, none⟩ = some (.int .i64 gc) := Blk.cell QG 0; have y1 : w2.cell? ⟨w.heap.size, 1, none⟩ = some (.int .i64 gs) := Blk.cell QG 1; have y2 : w2.cell? ⟨w.heap.size, 2, none⟩ = some (.int .i64 gn) := Blk.cell QG 2; have y3 : w2.cell? ⟨w.heap.size, 3, none⟩ = some (.int .i64 gl) := Blk.cell QG 3; have y4 : w2.cell? ⟨w.heap.size, 4, none⟩ = some (.int .i64 gk) := Blk.cell QG 4; have x0 : w2.cell? ⟨w.heap.size + 1, 0, none⟩ = some (.int .i64 a) := Blk.cell QX 0; have x1 : w2.cell? ⟨w.heap.size + 1, 1, none⟩ = some (.int .i64 m) := Blk.cell QX 1; have x2 : w2.cell? ⟨w.heap.size + 1, 2, none⟩ = some (.int .i64 z) := Blk.cell QX 2; have x3 : w2.cell? ⟨w.heap.size + 1, 3, none⟩ = some (.int .i64 o) := Blk.cell QX 3; have HQ := hid (And.intro QG (And.intro QX QF)); clear QG QX QF f))
          go_ret
          exact ⟨rfl, HQ.out.2.2⟩
        · have HD := hid (decide_eq_false (show ¬ mayX ⟨gc, gs, gn, gl, gk⟩ a m z o from fun h => by rcases h.2.2 with q | q; exact ho q.2; exact q.1 hz))
          have hob : (o == 0) = false := by simpa using ho
          have hzb : (z == 255) = true := by simpa using hz
          clear hd hz ho
          rw [HD.out]
          clear HD
          go_enter Try.func63, Try.ntmps63
          go_wp2_with (go_at_call 85; ((with_reducible refine (check_ok gc gs gn gl gk a m _ HS.out HW.out).mono ?_); rintro e' w2 ⟨rfl, f⟩; rw [HCK.out]; obtain ⟨QG, QX, QF⟩ := HGX.out _ f; have y0 : w2.cell? ⟨w.heap.size, 0, none⟩ = some (.int .i64 gc) := Blk.cell QG 0; have y1 : w2.cell? ⟨w.heap.size, 1, none⟩ = some (.int .i64 gs) := Blk.cell QG 1; have y2 : w2.cell? ⟨w.heap.size, 2, none⟩ = some (.int .i64 gn) := Blk.cell QG 2; have y3 : w2.cell? ⟨w.heap.size, 3, none⟩ = some (.int .i64 gl) := Blk.cell QG 3; have y4 : w2.cell? ⟨w.heap.size, 4, none⟩ = some (.int .i64 gk) := Blk.cell QG 4; have x0 : w2.cell? ⟨w.heap.size + 1, 0, none⟩ = some (.int .i64 a) := Blk.cell QX 0; have x1 : w2.cell? ⟨w.heap.size + 1, 1, none⟩ = some (.int .i64 m) := Blk.cell QX 1; have x2 : w2.cell? ⟨w.heap.size + 1, 2, none⟩ = some (.int .i64 z) := Blk.cell QX 2; have x3 : w2.cell? ⟨w.heap.size + 1, 3, none⟩ = some (.int .i64 o) := Blk.cell QX 3; have HQ := hid (And.intro QG (And.intro QX QF)); clear QG QX QF f))
          go_ret
          exact ⟨rfl, HQ.out.2.2⟩
      · have hzb : (z == 255) = false := by simpa using hz
        by_cases hq : gc ≤ z ∧ z < gc + gs
        · have HSQ := hid (decide_eq_true (show sqo ⟨gc, gs, gn, gl, gk⟩ z from ⟨HMG.out, hq⟩))
          by_cases ho : 0 ≤ o
          · by_cases hn : o ≤ gn - m
            · have HD := hid (decide_eq_true (show mayX ⟨gc, gs, gn, gl, gk⟩ a m z o from ⟨HCK.out, hd, Or.inr ⟨hz, hq, ho, hn⟩⟩))
              have hnb : decide (o ≤ gn - m) = true := decide_eq_true hn
              clear hd hz hq
              rw [HD.out]
              clear HD
              go_enter Try.func63, Try.ntmps63
              go_wp2_with (first | (go_at_call 85; ((with_reducible refine (check_ok gc gs gn gl gk a m _ HS.out HW.out).mono ?_); rintro e' w2 ⟨rfl, f⟩; rw [HCK.out]; obtain ⟨QG, QX, QF⟩ := HGX.out _ f; have y0 : w2.cell? ⟨w.heap.size, 0, none⟩ = some (.int .i64 gc) := Blk.cell QG 0; have y1 : w2.cell? ⟨w.heap.size, 1, none⟩ = some (.int .i64 gs) := Blk.cell QG 1; have y2 : w2.cell? ⟨w.heap.size, 2, none⟩ = some (.int .i64 gn) := Blk.cell QG 2; have y3 : w2.cell? ⟨w.heap.size, 3, none⟩ = some (.int .i64 gl) := Blk.cell QG 3; have y4 : w2.cell? ⟨w.heap.size, 4, none⟩ = some (.int .i64 gk) := Blk.cell QG 4; have x0 : w2.cell? ⟨w.heap.size + 1, 0, none⟩ = some (.int .i64 a) := Blk.cell QX 0; have x1 : w2.cell? ⟨w.heap.size + 1, 1, none⟩ = some (.int .i64 m) := Blk.cell QX 1; have x2 : w2.cell? ⟨w.heap.size + 1, 2, none⟩ = some (.int .i64 z) := Blk.cell QX 2; have x3 : w2.cell? ⟨w.heap.size + 1, 3, none⟩ = some (.int .i64 o) := Blk.cell QX 3; have HQ := hid (And.intro QG (And.intro QX QF)); clear QG QX QF f)) | (go_at_call 73; ((with_reducible refine (isseq_ok gc gs gn gl gk z _ HS.out HZ.out).mono ?_); rintro e' w3 ⟨rfl, f⟩; rw [HSQ.out]; have HQ2 := hid (And.intro (Blk.fr HQ.out.1 f (fun h => h)) (And.intro (Blk.fr HQ.out.2.1 f (fun h => h)) (HQ.out.2.2.trans f))); clear f y0 y1 y2 y3 y4 x0 x1 x2 x3 HQ; have HQ := HQ2; clear HQ2; have QG := HQ.out.1; have QX := HQ.out.2.1; have y0 : w3.cell? ⟨w.heap.size, 0, none⟩ = some (.int .i64 gc) := Blk.cell QG 0; have y1 : w3.cell? ⟨w.heap.size, 1, none⟩ = some (.int .i64 gs) := Blk.cell QG 1; have y2 : w3.cell? ⟨w.heap.size, 2, none⟩ = some (.int .i64 gn) := Blk.cell QG 2; have y3 : w3.cell? ⟨w.heap.size, 3, none⟩ = some (.int .i64 gl) := Blk.cell QG 3; have y4 : w3.cell? ⟨w.heap.size, 4, none⟩ = some (.int .i64 gk) := Blk.cell QG 4; have x0 : w3.cell? ⟨w.heap.size + 1, 0, none⟩ = some (.int .i64 a) := Blk.cell QX 0; have x1 : w3.cell? ⟨w.heap.size + 1, 1, none⟩ = some (.int .i64 m) := Blk.cell QX 1; have x2 : w3.cell? ⟨w.heap.size + 1, 2, none⟩ = some (.int .i64 z) := Blk.cell QX 2; have x3 : w3.cell? ⟨w.heap.size + 1, 3, none⟩ = some (.int .i64 o) := Blk.cell QX 3; clear QG QX)))
              go_ret
              exact ⟨rfl, HQ.out.2.2⟩
            · have HD := hid (decide_eq_false (show ¬ mayX ⟨gc, gs, gn, gl, gk⟩ a m z o from fun h => by rcases h.2.2 with q | q; exact hz q.1; exact hn q.2.2.2))
              have hnb : decide (o ≤ gn - m) = false := decide_eq_false hn
              clear hd hz hq
              rw [HD.out]
              clear HD
              go_enter Try.func63, Try.ntmps63
              go_wp2_with (first | (go_at_call 85; ((with_reducible refine (check_ok gc gs gn gl gk a m _ HS.out HW.out).mono ?_); rintro e' w2 ⟨rfl, f⟩; rw [HCK.out]; obtain ⟨QG, QX, QF⟩ := HGX.out _ f; have y0 : w2.cell? ⟨w.heap.size, 0, none⟩ = some (.int .i64 gc) := Blk.cell QG 0; have y1 : w2.cell? ⟨w.heap.size, 1, none⟩ = some (.int .i64 gs) := Blk.cell QG 1; have y2 : w2.cell? ⟨w.heap.size, 2, none⟩ = some (.int .i64 gn) := Blk.cell QG 2; have y3 : w2.cell? ⟨w.heap.size, 3, none⟩ = some (.int .i64 gl) := Blk.cell QG 3; have y4 : w2.cell? ⟨w.heap.size, 4, none⟩ = some (.int .i64 gk) := Blk.cell QG 4; have x0 : w2.cell? ⟨w.heap.size + 1, 0, none⟩ = some (.int .i64 a) := Blk.cell QX 0; have x1 : w2.cell? ⟨w.heap.size + 1, 1, none⟩ = some (.int .i64 m) := Blk.cell QX 1; have x2 : w2.cell? ⟨w.heap.size + 1, 2, none⟩ = some (.int .i64 z) := Blk.cell QX 2; have x3 : w2.cell? ⟨w.heap.size + 1, 3, none⟩ = some (.int .i64 o) := Blk.cell QX 3; have HQ := hid (And.intro QG (And.intro QX QF)); clear QG QX QF f)) | (go_at_call 73; ((with_reducible refine (isseq_ok gc gs gn gl gk z _ HS.out HZ.out).mono ?_); rintro e' w3 ⟨rfl, f⟩; rw [HSQ.out]; have HQ2 := hid (And.intro (Blk.fr HQ.out.1 f (fun h => h)) (And.intro (Blk.fr HQ.out.2.1 f (fun h => h)) (HQ.out.2.2.trans f))); clear f y0 y1 y2 y3 y4 x0 x1 x2 x3 HQ; have HQ := HQ2; clear HQ2; have QG := HQ.out.1; have QX := HQ.out.2.1; have y0 : w3.cell? ⟨w.heap.size, 0, none⟩ = some (.int .i64 gc) := Blk.cell QG 0; have y1 : w3.cell? ⟨w.heap.size, 1, none⟩ = some (.int .i64 gs) := Blk.cell QG 1; have y2 : w3.cell? ⟨w.heap.size, 2, none⟩ = some (.int .i64 gn) := Blk.cell QG 2; have y3 : w3.cell? ⟨w.heap.size, 3, none⟩ = some (.int .i64 gl) := Blk.cell QG 3; have y4 : w3.cell? ⟨w.heap.size, 4, none⟩ = some (.int .i64 gk) := Blk.cell QG 4; have x0 : w3.cell? ⟨w.heap.size + 1, 0, none⟩ = some (.int .i64 a) := Blk.cell QX 0; have x1 : w3.cell? ⟨w.heap.size + 1, 1, none⟩ = some (.int .i64 m) := Blk.cell QX 1; have x2 : w3.cell? ⟨w.heap.size + 1, 2, none⟩ = some (.int .i64 z) := Blk.cell QX 2; have x3 : w3.cell? ⟨w.heap.size + 1, 3, none⟩ = some (.int .i64 o) := Blk.cell QX 3; clear QG QX)))
              go_ret
              exact ⟨rfl, HQ.out.2.2⟩
          · have HD := hid (decide_eq_false (show ¬ mayX ⟨gc, gs, gn, gl, gk⟩ a m z o from fun h => by rcases h.2.2 with q | q; exact hz q.1; exact ho q.2.2.1))
            have hob : o < 0 := by omega
            clear hd hz hq
            rw [HD.out]
            clear HD
            go_enter Try.func63, Try.ntmps63
            go_wp2_with (first | (go_at_call 85; ((with_reducible refine (check_ok gc gs gn gl gk a m _ HS.out HW.out).mono ?_); rintro e' w2 ⟨rfl, f⟩; rw [HCK.out]; obtain ⟨QG, QX, QF⟩ := HGX.out _ f; have y0 : w2.cell? ⟨w.heap.size, 0, none⟩ = some (.int .i64 gc) := Blk.cell QG 0; have y1 : w2.cell? ⟨w.heap.size, 1, none⟩ = some (.int .i64 gs) := Blk.cell QG 1; have y2 : w2.cell? ⟨w.heap.size, 2, none⟩ = some (.int .i64 gn) := Blk.cell QG 2; have y3 : w2.cell? ⟨w.heap.size, 3, none⟩ = some (.int .i64 gl) := Blk.cell QG 3; have y4 : w2.cell? ⟨w.heap.size, 4, none⟩ = some (.int .i64 gk) := Blk.cell QG 4; have x0 : w2.cell? ⟨w.heap.size + 1, 0, none⟩ = some (.int .i64 a) := Blk.cell QX 0; have x1 : w2.cell? ⟨w.heap.size + 1, 1, none⟩ = some (.int .i64 m) := Blk.cell QX 1; have x2 : w2.cell? ⟨w.heap.size + 1, 2, none⟩ = some (.int .i64 z) := Blk.cell QX 2; have x3 : w2.cell? ⟨w.heap.size + 1, 3, none⟩ = some (.int .i64 o) := Blk.cell QX 3; have HQ := hid (And.intro QG (And.intro QX QF)); clear QG QX QF f)) | (go_at_call 73; ((with_reducible refine (isseq_ok gc gs gn gl gk z _ HS.out HZ.out).mono ?_); rintro e' w3 ⟨rfl, f⟩; rw [HSQ.out]; have HQ2 := hid (And.intro (Blk.fr HQ.out.1 f (fun h => h)) (And.intro (Blk.fr HQ.out.2.1 f (fun h => h)) (HQ.out.2.2.trans f))); clear f y0 y1 y2 y3 y4 x0 x1 x2 x3 HQ; have HQ := HQ2; clear HQ2; have QG := HQ.out.1; have QX := HQ.out.2.1; have y0 : w3.cell? ⟨w.heap.size, 0, none⟩ = some (.int .i64 gc) := Blk.cell QG 0; have y1 : w3.cell? ⟨w.heap.size, 1, none⟩ = some (.int .i64 gs) := Blk.cell QG 1; have y2 : w3.cell? ⟨w.heap.size, 2, none⟩ = some (.int .i64 gn) := Blk.cell QG 2; have y3 : w3.cell? ⟨w.heap.size, 3, none⟩ = some (.int .i64 gl) := Blk.cell QG 3; have y4 : w3.cell? ⟨w.heap.size, 4, none⟩ = some (.int .i64 gk) := Blk.cell QG 4; have x0 : w3.cell? ⟨w.heap.size + 1, 0, none⟩ = some (.int .i64 a) := Blk.cell QX 0; have x1 : w3.cell? ⟨w.heap.size + 1, 1, none⟩ = some (.int .i64 m) := Blk.cell QX 1; have x2 : w3.cell? ⟨w.heap.size + 1, 2, none⟩ = some (.int .i64 z) := Blk.cell QX 2; have x3 : w3.cell? ⟨w.heap.size + 1, 3, none⟩ = some (.int .i64 o) := Blk.cell QX 3; clear QG QX)))
            go_ret
            exact ⟨rfl, HQ.out.2.2⟩
        · have HSQ := hid (decide_eq_false (show ¬ sqo ⟨gc, gs, gn, gl, gk⟩ z from fun q => hq q.2))
          have HD := hid (decide_eq_false (show ¬ mayX ⟨gc, gs, gn, gl, gk⟩ a m z o from fun h => by rcases h.2.2 with q | q; exact hz q.1; exact hq q.2.1))
          clear hd hz hq
          rw [HD.out]
          clear HD
          go_enter Try.func63, Try.ntmps63
          go_wp2_with (first | (go_at_call 85; ((with_reducible refine (check_ok gc gs gn gl gk a m _ HS.out HW.out).mono ?_); rintro e' w2 ⟨rfl, f⟩; rw [HCK.out]; obtain ⟨QG, QX, QF⟩ := HGX.out _ f; have y0 : w2.cell? ⟨w.heap.size, 0, none⟩ = some (.int .i64 gc) := Blk.cell QG 0; have y1 : w2.cell? ⟨w.heap.size, 1, none⟩ = some (.int .i64 gs) := Blk.cell QG 1; have y2 : w2.cell? ⟨w.heap.size, 2, none⟩ = some (.int .i64 gn) := Blk.cell QG 2; have y3 : w2.cell? ⟨w.heap.size, 3, none⟩ = some (.int .i64 gl) := Blk.cell QG 3; have y4 : w2.cell? ⟨w.heap.size, 4, none⟩ = some (.int .i64 gk) := Blk.cell QG 4; have x0 : w2.cell? ⟨w.heap.size + 1, 0, none⟩ = some (.int .i64 a) := Blk.cell QX 0; have x1 : w2.cell? ⟨w.heap.size + 1, 1, none⟩ = some (.int .i64 m) := Blk.cell QX 1; have x2 : w2.cell? ⟨w.heap.size + 1, 2, none⟩ = some (.int .i64 z) := Blk.cell QX 2; have x3 : w2.cell? ⟨w.heap.size + 1, 3, none⟩ = some (.int .i64 o) := Blk.cell QX 3; have HQ := hid (And.intro QG (And.intro QX QF)); clear QG QX QF f)) | (go_at_call 73; ((with_reducible refine (isseq_ok gc gs gn gl gk z _ HS.out HZ.out).mono ?_); rintro e' w3 ⟨rfl, f⟩; rw [HSQ.out]; have HQ2 := hid (And.intro (Blk.fr HQ.out.1 f (fun h => h)) (And.intro (Blk.fr HQ.out.2.1 f (fun h => h)) (HQ.out.2.2.trans f))); clear f y0 y1 y2 y3 y4 x0 x1 x2 x3 HQ; have HQ := HQ2; clear HQ2; have QG := HQ.out.1; have QX := HQ.out.2.1; have y0 : w3.cell? ⟨w.heap.size, 0, none⟩ = some (.int .i64 gc) := Blk.cell QG 0; have y1 : w3.cell? ⟨w.heap.size, 1, none⟩ = some (.int .i64 gs) := Blk.cell QG 1; have y2 : w3.cell? ⟨w.heap.size, 2, none⟩ = some (.int .i64 gn) := Blk.cell QG 2; have y3 : w3.cell? ⟨w.heap.size, 3, none⟩ = some (.int .i64 gl) := Blk.cell QG 3; have y4 : w3.cell? ⟨w.heap.size, 4, none⟩ = some (.int .i64 gk) := Blk.cell QG 4; have x0 : w3.cell? ⟨w.heap.size + 1, 0, none⟩ = some (.int .i64 a) := Blk.cell QX 0; have x1 : w3.cell? ⟨w.heap.size + 1, 1, none⟩ = some (.int .i64 m) := Blk.cell QX 1; have x2 : w3.cell? ⟨w.heap.size + 1, 2, none⟩ = some (.int .i64 z) := Blk.cell QX 2; have x3 : w3.cell? ⟨w.heap.size + 1, 3, none⟩ = some (.int .i64 o) := Blk.cell QX 3; clear QG QX)))
          go_ret
          exact ⟨rfl, HQ.out.2.2⟩
    · have HD := hid (decide_eq_false (show ¬ mayX ⟨gc, gs, gn, gl, gk⟩ a m z o from fun h => hd h.2.1))
      have hdb : (a / 4096 == (a + m - 1) / 4096) = false := by simpa using hd
      have hdc : (a / 4096 != (a + m - 1) / 4096) = true := by rw [bne, hdb]; rfl
      clear hd
      rw [HD.out]
      clear HD
      go_enter Try.func63, Try.ntmps63
      go_wp2_with (go_at_call 85; ((with_reducible refine (check_ok gc gs gn gl gk a m _ HS.out HW.out).mono ?_); rintro e' w2 ⟨rfl, f⟩; rw [HCK.out]; obtain ⟨QG, QX, QF⟩ := HGX.out _ f; have y0 : w2.cell? ⟨w.heap.size, 0, none⟩ = some (.int .i64 gc) := Blk.cell QG 0; have y1 : w2.cell? ⟨w.heap.size, 1, none⟩ = some (.int .i64 gs) := Blk.cell QG 1; have y2 : w2.cell? ⟨w.heap.size, 2, none⟩ = some (.int .i64 gn) := Blk.cell QG 2; have y3 : w2.cell? ⟨w.heap.size, 3, none⟩ = some (.int .i64 gl) := Blk.cell QG 3; have y4 : w2.cell? ⟨w.heap.size, 4, none⟩ = some (.int .i64 gk) := Blk.cell QG 4; have x0 : w2.cell? ⟨w.heap.size + 1, 0, none⟩ = some (.int .i64 a) := Blk.cell QX 0; have x1 : w2.cell? ⟨w.heap.size + 1, 1, none⟩ = some (.int .i64 m) := Blk.cell QX 1; have x2 : w2.cell? ⟨w.heap.size + 1, 2, none⟩ = some (.int .i64 z) := Blk.cell QX 2; have x3 : w2.cell? ⟨w.heap.size + 1, 3, none⟩ = some (.int .i64 o) := Blk.cell QX 3; have HQ := hid (And.intro QG (And.intro QX QF)); clear QG QX QF f))
      go_ret
      exact ⟨rfl, HQ.out.2.2⟩
  · have HD := hid (decide_eq_false (show ¬ mayX ⟨gc, gs, gn, gl, gk⟩ a m z o from fun h => h0 (HCK.out.symm.trans h.1)))
    have h0b : (ck == 0) = false := by simpa using h0
    have h0c : (ck != 0) = true := by rw [bne, h0b]; rfl
    clear h0
    rw [HD.out]
    clear HD
    go_enter Try.func63, Try.ntmps63
    go_wp2_with (go_at_call 85; ((with_reducible refine (check_ok gc gs gn gl gk a m _ HS.out HW.out).mono ?_); rintro e' w2 ⟨rfl, f⟩; rw [HCK.out]; obtain ⟨QG, QX, QF⟩ := HGX.out _ f; have y0 : w2.cell? ⟨w.heap.size, 0, none⟩ = some (.int .i64 gc) := Blk.cell QG 0; have y1 : w2.cell? ⟨w.heap.size, 1, none⟩ = some (.int .i64 gs) := Blk.cell QG 1; have y2 : w2.cell? ⟨w.heap.size, 2, none⟩ = some (.int .i64 gn) := Blk.cell QG 2; have y3 : w2.cell? ⟨w.heap.size, 3, none⟩ = some (.int .i64 gl) := Blk.cell QG 3; have y4 : w2.cell? ⟨w.heap.size, 4, none⟩ = some (.int .i64 gk) := Blk.cell QG 4; have x0 : w2.cell? ⟨w.heap.size + 1, 0, none⟩ = some (.int .i64 a) := Blk.cell QX 0; have x1 : w2.cell? ⟨w.heap.size + 1, 1, none⟩ = some (.int .i64 m) := Blk.cell QX 1; have x2 : w2.cell? ⟨w.heap.size + 1, 2, none⟩ = some (.int .i64 z) := Blk.cell QX 2; have x3 : w2.cell? ⟨w.heap.size + 1, 3, none⟩ = some (.int .i64 o) := Blk.cell QX 3; have HQ := hid (And.intro QG (And.intro QX QF)); clear QG QX QF f))
    go_ret
    exact ⟨rfl, HQ.out.2.2⟩
set_option maxRecDepth 100000 in
set_option maxHeartbeats 4000000 in
theorem rmx_ok (gc gs gn gl gk a m z o : Int) (w : World) (hs : -9223372036854775808 ≤ gs ∧ gs ≤ 9223372036854775807) (hw : SpA.wf (a, m)) (hz : -9223372036854775808 ≤ z ∧ z ≤ 9223372036854775807) : Calls Try.prog 40 #[gv gc gs gn gl gk, xv a m z o] w fun e w' => e = .returned (.bool (decide (mayX ⟨gc, gs, gn, gl, gk⟩ a m z o))) ∧ Fr No w w' := by
  obtain ⟨hG, hX, hF⟩ := two_new w gc gs gn gl gk a m z o
  have HGX := hid (show ∀ w2, Fr No ((w.alloc (.cells #[.int .i64 gc, .int .i64 gs, .int .i64 gn, .int .i64 gl, .int .i64 gk] 23)).alloc (.cells #[.int .i64 a, .int .i64 m, .int .i64 z, .int .i64 o] 62)) w2 → GB w2 w.heap.size gc gs gn gl gk ∧ XB w2 (w.heap.size + 1) a m z o ∧ Fr No w w2 from fun w2 f => ⟨Blk.fr hG f (fun h => h), Blk.fr hX f (fun h => h), hF.trans f⟩)
  have HGX0 := hid (HGX.out _ (Fr.refl No _))
  have HS := hid hs
  have HW := hid hw
  have HZ := hid hz
  obtain ⟨ck, hck⟩ : ∃ ck, cko ⟨gc, gs, gn, gl, gk⟩ a m = ck := ⟨_, rfl⟩
  have HCK := hid hck
  clear hG hX hF hs hw hz hck
  by_cases h0 : ck = 0
  · subst h0
    obtain ⟨hmg, ⟨ha, hm1, ham⟩, _⟩ := cko0 HCK.out
    obtain ⟨⟨i1, i2⟩, ⟨i3, i4⟩, ⟨i5, i6⟩⟩ := inG hmg
    simp only [] at i1 i2 i3 i4 i5 i6
    have HMG := hid hmg
    clear hmg
    by_cases hd : a / 4096 = (a + m - 1) / 4096
    · have hm4 : m ≤ 4096 := by omega
      have hdb : (a / 4096 == (a + m - 1) / 4096) = true := by simpa using hd
      have hdc : (a / 4096 != (a + m - 1) / 4096) = false := by rw [bne, hdb]; rfl
      have hmb : decide (4096 < m) = false := decide_eq_false (by omega)
      by_cases hz : z = 255
      · by_cases ho : o = 0
        · have HD := hid (decide_eq_true (show mayX ⟨gc, gs, gn, gl, gk⟩ a m z o from ⟨HCK.out, hd, Or.inl ⟨hz, ho⟩⟩))
          have hzb : (z == 255) = true := by simpa using hz
          have hob : (o == 0) = true := by simpa using ho
          clear hd hz ho
          rw [HD.out]
          clear HD
          go_enter Try.func40, Try.ntmps40
          go_wp2_with (go_at_call 68; ((with_reducible refine (rcheck_ok gc gs gn gl gk a m _ HS.out HW.out).mono ?_); rintro e' w2 ⟨rfl, f⟩; rw [HCK.out]; obtain ⟨QG, QX, QF⟩ := HGX.out _ f; have y0 : w2.cell? ⟨w.heap.size, 0, none⟩ = some (.int .i64 gc) := Blk.cell QG 0; have y1 : w2.cell? ⟨w.heap.size, 1, none⟩ = some (.int .i64 gs) := Blk.cell QG 1; have y2 : w2.cell? ⟨w.heap.size, 2, none⟩ = some (.int .i64 gn) := Blk.cell QG 2; have y3 : w2.cell? ⟨w.heap.size, 3, none⟩ = some (.int .i64 gl) := Blk.cell QG 3; have y4 : w2.cell? ⟨w.heap.size, 4, none⟩ = some (.int .i64 gk) := Blk.cell QG 4; have x0 : w2.cell? ⟨w.heap.size + 1, 0, none⟩ = some (.int .i64 a) := Blk.cell QX 0; have x1 : w2.cell? ⟨w.heap.size + 1, 1, none⟩ = some (.int .i64 m) := Blk.cell QX 1; have x2 : w2.cell? ⟨w.heap.size + 1, 2, none⟩ = some (.int .i64 z) := Blk.cell QX 2; have x3 : w2.cell? ⟨w.heap.size + 1, 3, none⟩ = some (.int .i64 o) := Blk.cell QX 3; have HQ := hid (And.intro QG (And.intro QX QF)); clear QG QX QF f))
          go_ret
          exact ⟨rfl, HQ.out.2.2⟩
        · have HD := hid (decide_eq_false (show ¬ mayX ⟨gc, gs, gn, gl, gk⟩ a m z o from fun h => by rcases h.2.2 with q | q; exact ho q.2; exact q.1 hz))
          have hob : (o == 0) = false := by simpa using ho
          have hzb : (z == 255) = true := by simpa using hz
          clear hd hz ho
          rw [HD.out]
          clear HD
          go_enter Try.func40, Try.ntmps40
          go_wp2_with (go_at_call 68; ((with_reducible refine (rcheck_ok gc gs gn gl gk a m _ HS.out HW.out).mono ?_); rintro e' w2 ⟨rfl, f⟩; rw [HCK.out]; obtain ⟨QG, QX, QF⟩ := HGX.out _ f; have y0 : w2.cell? ⟨w.heap.size, 0, none⟩ = some (.int .i64 gc) := Blk.cell QG 0; have y1 : w2.cell? ⟨w.heap.size, 1, none⟩ = some (.int .i64 gs) := Blk.cell QG 1; have y2 : w2.cell? ⟨w.heap.size, 2, none⟩ = some (.int .i64 gn) := Blk.cell QG 2; have y3 : w2.cell? ⟨w.heap.size, 3, none⟩ = some (.int .i64 gl) := Blk.cell QG 3; have y4 : w2.cell? ⟨w.heap.size, 4, none⟩ = some (.int .i64 gk) := Blk.cell QG 4; have x0 : w2.cell? ⟨w.heap.size + 1, 0, none⟩ = some (.int .i64 a) := Blk.cell QX 0; have x1 : w2.cell? ⟨w.heap.size + 1, 1, none⟩ = some (.int .i64 m) := Blk.cell QX 1; have x2 : w2.cell? ⟨w.heap.size + 1, 2, none⟩ = some (.int .i64 z) := Blk.cell QX 2; have x3 : w2.cell? ⟨w.heap.size + 1, 3, none⟩ = some (.int .i64 o) := Blk.cell QX 3; have HQ := hid (And.intro QG (And.intro QX QF)); clear QG QX QF f))
          go_ret
          exact ⟨rfl, HQ.out.2.2⟩
      · have hzb : (z == 255) = false := by simpa using hz
        by_cases hq : gc ≤ z ∧ z < gc + gs
        · have HSQ := hid (decide_eq_true (show (gc ≤ z ∧ z < gc + gs) from hq))
          by_cases ho : 0 ≤ o
          · by_cases hn : o ≤ gn - m
            · have HD := hid (decide_eq_true (show mayX ⟨gc, gs, gn, gl, gk⟩ a m z o from ⟨HCK.out, hd, Or.inr ⟨hz, hq, ho, hn⟩⟩))
              have hnb : decide (o ≤ gn - m) = true := decide_eq_true hn
              clear hd hz hq
              rw [HD.out]
              clear HD
              go_enter Try.func40, Try.ntmps40
              go_wp2_with (first | (go_at_call 68; ((with_reducible refine (rcheck_ok gc gs gn gl gk a m _ HS.out HW.out).mono ?_); rintro e' w2 ⟨rfl, f⟩; rw [HCK.out]; obtain ⟨QG, QX, QF⟩ := HGX.out _ f; have y0 : w2.cell? ⟨w.heap.size, 0, none⟩ = some (.int .i64 gc) := Blk.cell QG 0; have y1 : w2.cell? ⟨w.heap.size, 1, none⟩ = some (.int .i64 gs) := Blk.cell QG 1; have y2 : w2.cell? ⟨w.heap.size, 2, none⟩ = some (.int .i64 gn) := Blk.cell QG 2; have y3 : w2.cell? ⟨w.heap.size, 3, none⟩ = some (.int .i64 gl) := Blk.cell QG 3; have y4 : w2.cell? ⟨w.heap.size, 4, none⟩ = some (.int .i64 gk) := Blk.cell QG 4; have x0 : w2.cell? ⟨w.heap.size + 1, 0, none⟩ = some (.int .i64 a) := Blk.cell QX 0; have x1 : w2.cell? ⟨w.heap.size + 1, 1, none⟩ = some (.int .i64 m) := Blk.cell QX 1; have x2 : w2.cell? ⟨w.heap.size + 1, 2, none⟩ = some (.int .i64 z) := Blk.cell QX 2; have x3 : w2.cell? ⟨w.heap.size + 1, 3, none⟩ = some (.int .i64 o) := Blk.cell QX 3; have HQ := hid (And.intro QG (And.intro QX QF)); clear QG QX QF f)) | (go_at_call 69; ((with_reducible refine (seq_ok gc gs gn gl gk z _ HMG.out).mono ?_); rintro e' w3 ⟨rfl, f⟩; rw [HSQ.out]; have HQ2 := hid (And.intro (Blk.fr HQ.out.1 f (fun h => h)) (And.intro (Blk.fr HQ.out.2.1 f (fun h => h)) (HQ.out.2.2.trans f))); clear f y0 y1 y2 y3 y4 x0 x1 x2 x3 HQ; have HQ := HQ2; clear HQ2; have QG := HQ.out.1; have QX := HQ.out.2.1; have y0 : w3.cell? ⟨w.heap.size, 0, none⟩ = some (.int .i64 gc) := Blk.cell QG 0; have y1 : w3.cell? ⟨w.heap.size, 1, none⟩ = some (.int .i64 gs) := Blk.cell QG 1; have y2 : w3.cell? ⟨w.heap.size, 2, none⟩ = some (.int .i64 gn) := Blk.cell QG 2; have y3 : w3.cell? ⟨w.heap.size, 3, none⟩ = some (.int .i64 gl) := Blk.cell QG 3; have y4 : w3.cell? ⟨w.heap.size, 4, none⟩ = some (.int .i64 gk) := Blk.cell QG 4; have x0 : w3.cell? ⟨w.heap.size + 1, 0, none⟩ = some (.int .i64 a) := Blk.cell QX 0; have x1 : w3.cell? ⟨w.heap.size + 1, 1, none⟩ = some (.int .i64 m) := Blk.cell QX 1; have x2 : w3.cell? ⟨w.heap.size + 1, 2, none⟩ = some (.int .i64 z) := Blk.cell QX 2; have x3 : w3.cell? ⟨w.heap.size + 1, 3, none⟩ = some (.int .i64 o) := Blk.cell QX 3; clear QG QX)))
              go_ret
              exact ⟨rfl, HQ.out.2.2⟩
            · have HD := hid (decide_eq_false (show ¬ mayX ⟨gc, gs, gn, gl, gk⟩ a m z o from fun h => by rcases h.2.2 with q | q; exact hz q.1; exact hn q.2.2.2))
              have hnb : decide (o ≤ gn - m) = false := decide_eq_false hn
              clear hd hz hq
              rw [HD.out]
              clear HD
              go_enter Try.func40, Try.ntmps40
              go_wp2_with (first | (go_at_call 68; ((with_reducible refine (rcheck_ok gc gs gn gl gk a m _ HS.out HW.out).mono ?_); rintro e' w2 ⟨rfl, f⟩; rw [HCK.out]; obtain ⟨QG, QX, QF⟩ := HGX.out _ f; have y0 : w2.cell? ⟨w.heap.size, 0, none⟩ = some (.int .i64 gc) := Blk.cell QG 0; have y1 : w2.cell? ⟨w.heap.size, 1, none⟩ = some (.int .i64 gs) := Blk.cell QG 1; have y2 : w2.cell? ⟨w.heap.size, 2, none⟩ = some (.int .i64 gn) := Blk.cell QG 2; have y3 : w2.cell? ⟨w.heap.size, 3, none⟩ = some (.int .i64 gl) := Blk.cell QG 3; have y4 : w2.cell? ⟨w.heap.size, 4, none⟩ = some (.int .i64 gk) := Blk.cell QG 4; have x0 : w2.cell? ⟨w.heap.size + 1, 0, none⟩ = some (.int .i64 a) := Blk.cell QX 0; have x1 : w2.cell? ⟨w.heap.size + 1, 1, none⟩ = some (.int .i64 m) := Blk.cell QX 1; have x2 : w2.cell? ⟨w.heap.size + 1, 2, none⟩ = some (.int .i64 z) := Blk.cell QX 2; have x3 : w2.cell? ⟨w.heap.size + 1, 3, none⟩ = some (.int .i64 o) := Blk.cell QX 3; have HQ := hid (And.intro QG (And.intro QX QF)); clear QG QX QF f)) | (go_at_call 69; ((with_reducible refine (seq_ok gc gs gn gl gk z _ HMG.out).mono ?_); rintro e' w3 ⟨rfl, f⟩; rw [HSQ.out]; have HQ2 := hid (And.intro (Blk.fr HQ.out.1 f (fun h => h)) (And.intro (Blk.fr HQ.out.2.1 f (fun h => h)) (HQ.out.2.2.trans f))); clear f y0 y1 y2 y3 y4 x0 x1 x2 x3 HQ; have HQ := HQ2; clear HQ2; have QG := HQ.out.1; have QX := HQ.out.2.1; have y0 : w3.cell? ⟨w.heap.size, 0, none⟩ = some (.int .i64 gc) := Blk.cell QG 0; have y1 : w3.cell? ⟨w.heap.size, 1, none⟩ = some (.int .i64 gs) := Blk.cell QG 1; have y2 : w3.cell? ⟨w.heap.size, 2, none⟩ = some (.int .i64 gn) := Blk.cell QG 2; have y3 : w3.cell? ⟨w.heap.size, 3, none⟩ = some (.int .i64 gl) := Blk.cell QG 3; have y4 : w3.cell? ⟨w.heap.size, 4, none⟩ = some (.int .i64 gk) := Blk.cell QG 4; have x0 : w3.cell? ⟨w.heap.size + 1, 0, none⟩ = some (.int .i64 a) := Blk.cell QX 0; have x1 : w3.cell? ⟨w.heap.size + 1, 1, none⟩ = some (.int .i64 m) := Blk.cell QX 1; have x2 : w3.cell? ⟨w.heap.size + 1, 2, none⟩ = some (.int .i64 z) := Blk.cell QX 2; have x3 : w3.cell? ⟨w.heap.size + 1, 3, none⟩ = some (.int .i64 o) := Blk.cell QX 3; clear QG QX)))
              go_ret
              exact ⟨rfl, HQ.out.2.2⟩
          · have HD := hid (decide_eq_false (show ¬ mayX ⟨gc, gs, gn, gl, gk⟩ a m z o from fun h => by rcases h.2.2 with q | q; exact hz q.1; exact ho q.2.2.1))
            have hob : o < 0 := by omega
            clear hd hz hq
            rw [HD.out]
            clear HD
            go_enter Try.func40, Try.ntmps40
            go_wp2_with (first | (go_at_call 68; ((with_reducible refine (rcheck_ok gc gs gn gl gk a m _ HS.out HW.out).mono ?_); rintro e' w2 ⟨rfl, f⟩; rw [HCK.out]; obtain ⟨QG, QX, QF⟩ := HGX.out _ f; have y0 : w2.cell? ⟨w.heap.size, 0, none⟩ = some (.int .i64 gc) := Blk.cell QG 0; have y1 : w2.cell? ⟨w.heap.size, 1, none⟩ = some (.int .i64 gs) := Blk.cell QG 1; have y2 : w2.cell? ⟨w.heap.size, 2, none⟩ = some (.int .i64 gn) := Blk.cell QG 2; have y3 : w2.cell? ⟨w.heap.size, 3, none⟩ = some (.int .i64 gl) := Blk.cell QG 3; have y4 : w2.cell? ⟨w.heap.size, 4, none⟩ = some (.int .i64 gk) := Blk.cell QG 4; have x0 : w2.cell? ⟨w.heap.size + 1, 0, none⟩ = some (.int .i64 a) := Blk.cell QX 0; have x1 : w2.cell? ⟨w.heap.size + 1, 1, none⟩ = some (.int .i64 m) := Blk.cell QX 1; have x2 : w2.cell? ⟨w.heap.size + 1, 2, none⟩ = some (.int .i64 z) := Blk.cell QX 2; have x3 : w2.cell? ⟨w.heap.size + 1, 3, none⟩ = some (.int .i64 o) := Blk.cell QX 3; have HQ := hid (And.intro QG (And.intro QX QF)); clear QG QX QF f)) | (go_at_call 69; ((with_reducible refine (seq_ok gc gs gn gl gk z _ HMG.out).mono ?_); rintro e' w3 ⟨rfl, f⟩; rw [HSQ.out]; have HQ2 := hid (And.intro (Blk.fr HQ.out.1 f (fun h => h)) (And.intro (Blk.fr HQ.out.2.1 f (fun h => h)) (HQ.out.2.2.trans f))); clear f y0 y1 y2 y3 y4 x0 x1 x2 x3 HQ; have HQ := HQ2; clear HQ2; have QG := HQ.out.1; have QX := HQ.out.2.1; have y0 : w3.cell? ⟨w.heap.size, 0, none⟩ = some (.int .i64 gc) := Blk.cell QG 0; have y1 : w3.cell? ⟨w.heap.size, 1, none⟩ = some (.int .i64 gs) := Blk.cell QG 1; have y2 : w3.cell? ⟨w.heap.size, 2, none⟩ = some (.int .i64 gn) := Blk.cell QG 2; have y3 : w3.cell? ⟨w.heap.size, 3, none⟩ = some (.int .i64 gl) := Blk.cell QG 3; have y4 : w3.cell? ⟨w.heap.size, 4, none⟩ = some (.int .i64 gk) := Blk.cell QG 4; have x0 : w3.cell? ⟨w.heap.size + 1, 0, none⟩ = some (.int .i64 a) := Blk.cell QX 0; have x1 : w3.cell? ⟨w.heap.size + 1, 1, none⟩ = some (.int .i64 m) := Blk.cell QX 1; have x2 : w3.cell? ⟨w.heap.size + 1, 2, none⟩ = some (.int .i64 z) := Blk.cell QX 2; have x3 : w3.cell? ⟨w.heap.size + 1, 3, none⟩ = some (.int .i64 o) := Blk.cell QX 3; clear QG QX)))
            go_ret
            exact ⟨rfl, HQ.out.2.2⟩
        · have HSQ := hid (decide_eq_false (show ¬ (gc ≤ z ∧ z < gc + gs) from hq))
          have HD := hid (decide_eq_false (show ¬ mayX ⟨gc, gs, gn, gl, gk⟩ a m z o from fun h => by rcases h.2.2 with q | q; exact hz q.1; exact hq q.2.1))
          clear hd hz hq
          rw [HD.out]
          clear HD
          go_enter Try.func40, Try.ntmps40
          go_wp2_with (first | (go_at_call 68; ((with_reducible refine (rcheck_ok gc gs gn gl gk a m _ HS.out HW.out).mono ?_); rintro e' w2 ⟨rfl, f⟩; rw [HCK.out]; obtain ⟨QG, QX, QF⟩ := HGX.out _ f; have y0 : w2.cell? ⟨w.heap.size, 0, none⟩ = some (.int .i64 gc) := Blk.cell QG 0; have y1 : w2.cell? ⟨w.heap.size, 1, none⟩ = some (.int .i64 gs) := Blk.cell QG 1; have y2 : w2.cell? ⟨w.heap.size, 2, none⟩ = some (.int .i64 gn) := Blk.cell QG 2; have y3 : w2.cell? ⟨w.heap.size, 3, none⟩ = some (.int .i64 gl) := Blk.cell QG 3; have y4 : w2.cell? ⟨w.heap.size, 4, none⟩ = some (.int .i64 gk) := Blk.cell QG 4; have x0 : w2.cell? ⟨w.heap.size + 1, 0, none⟩ = some (.int .i64 a) := Blk.cell QX 0; have x1 : w2.cell? ⟨w.heap.size + 1, 1, none⟩ = some (.int .i64 m) := Blk.cell QX 1; have x2 : w2.cell? ⟨w.heap.size + 1, 2, none⟩ = some (.int .i64 z) := Blk.cell QX 2; have x3 : w2.cell? ⟨w.heap.size + 1, 3, none⟩ = some (.int .i64 o) := Blk.cell QX 3; have HQ := hid (And.intro QG (And.intro QX QF)); clear QG QX QF f)) | (go_at_call 69; ((with_reducible refine (seq_ok gc gs gn gl gk z _ HMG.out).mono ?_); rintro e' w3 ⟨rfl, f⟩; rw [HSQ.out]; have HQ2 := hid (And.intro (Blk.fr HQ.out.1 f (fun h => h)) (And.intro (Blk.fr HQ.out.2.1 f (fun h => h)) (HQ.out.2.2.trans f))); clear f y0 y1 y2 y3 y4 x0 x1 x2 x3 HQ; have HQ := HQ2; clear HQ2; have QG := HQ.out.1; have QX := HQ.out.2.1; have y0 : w3.cell? ⟨w.heap.size, 0, none⟩ = some (.int .i64 gc) := Blk.cell QG 0; have y1 : w3.cell? ⟨w.heap.size, 1, none⟩ = some (.int .i64 gs) := Blk.cell QG 1; have y2 : w3.cell? ⟨w.heap.size, 2, none⟩ = some (.int .i64 gn) := Blk.cell QG 2; have y3 : w3.cell? ⟨w.heap.size, 3, none⟩ = some (.int .i64 gl) := Blk.cell QG 3; have y4 : w3.cell? ⟨w.heap.size, 4, none⟩ = some (.int .i64 gk) := Blk.cell QG 4; have x0 : w3.cell? ⟨w.heap.size + 1, 0, none⟩ = some (.int .i64 a) := Blk.cell QX 0; have x1 : w3.cell? ⟨w.heap.size + 1, 1, none⟩ = some (.int .i64 m) := Blk.cell QX 1; have x2 : w3.cell? ⟨w.heap.size + 1, 2, none⟩ = some (.int .i64 z) := Blk.cell QX 2; have x3 : w3.cell? ⟨w.heap.size + 1, 3, none⟩ = some (.int .i64 o) := Blk.cell QX 3; clear QG QX)))
          go_ret
          exact ⟨rfl, HQ.out.2.2⟩
    · have HD := hid (decide_eq_false (show ¬ mayX ⟨gc, gs, gn, gl, gk⟩ a m z o from fun h => hd h.2.1))
      have hdb : (a / 4096 == (a + m - 1) / 4096) = false := by simpa using hd
      have hdc : (a / 4096 != (a + m - 1) / 4096) = true := by rw [bne, hdb]; rfl
      clear hd
      by_cases hm4 : m ≤ 4096
      · have hmb : decide (4096 < m) = false := decide_eq_false (by omega)
        rw [HD.out]
        clear HD
        go_enter Try.func40, Try.ntmps40
        go_wp2_with (go_at_call 68; ((with_reducible refine (rcheck_ok gc gs gn gl gk a m _ HS.out HW.out).mono ?_); rintro e' w2 ⟨rfl, f⟩; rw [HCK.out]; obtain ⟨QG, QX, QF⟩ := HGX.out _ f; have y0 : w2.cell? ⟨w.heap.size, 0, none⟩ = some (.int .i64 gc) := Blk.cell QG 0; have y1 : w2.cell? ⟨w.heap.size, 1, none⟩ = some (.int .i64 gs) := Blk.cell QG 1; have y2 : w2.cell? ⟨w.heap.size, 2, none⟩ = some (.int .i64 gn) := Blk.cell QG 2; have y3 : w2.cell? ⟨w.heap.size, 3, none⟩ = some (.int .i64 gl) := Blk.cell QG 3; have y4 : w2.cell? ⟨w.heap.size, 4, none⟩ = some (.int .i64 gk) := Blk.cell QG 4; have x0 : w2.cell? ⟨w.heap.size + 1, 0, none⟩ = some (.int .i64 a) := Blk.cell QX 0; have x1 : w2.cell? ⟨w.heap.size + 1, 1, none⟩ = some (.int .i64 m) := Blk.cell QX 1; have x2 : w2.cell? ⟨w.heap.size + 1, 2, none⟩ = some (.int .i64 z) := Blk.cell QX 2; have x3 : w2.cell? ⟨w.heap.size + 1, 3, none⟩ = some (.int .i64 o) := Blk.cell QX 3; have HQ := hid (And.intro QG (And.intro QX QF)); clear QG QX QF f))
        go_ret
        exact ⟨rfl, HQ.out.2.2⟩
      · have hmb : decide (4096 < m) = true := decide_eq_true (by omega)
        rw [HD.out]
        clear HD
        go_enter Try.func40, Try.ntmps40
        go_wp2_with (go_at_call 68; ((with_reducible refine (rcheck_ok gc gs gn gl gk a m _ HS.out HW.out).mono ?_); rintro e' w2 ⟨rfl, f⟩; rw [HCK.out]; obtain ⟨QG, QX, QF⟩ := HGX.out _ f; have y0 : w2.cell? ⟨w.heap.size, 0, none⟩ = some (.int .i64 gc) := Blk.cell QG 0; have y1 : w2.cell? ⟨w.heap.size, 1, none⟩ = some (.int .i64 gs) := Blk.cell QG 1; have y2 : w2.cell? ⟨w.heap.size, 2, none⟩ = some (.int .i64 gn) := Blk.cell QG 2; have y3 : w2.cell? ⟨w.heap.size, 3, none⟩ = some (.int .i64 gl) := Blk.cell QG 3; have y4 : w2.cell? ⟨w.heap.size, 4, none⟩ = some (.int .i64 gk) := Blk.cell QG 4; have x0 : w2.cell? ⟨w.heap.size + 1, 0, none⟩ = some (.int .i64 a) := Blk.cell QX 0; have x1 : w2.cell? ⟨w.heap.size + 1, 1, none⟩ = some (.int .i64 m) := Blk.cell QX 1; have x2 : w2.cell? ⟨w.heap.size + 1, 2, none⟩ = some (.int .i64 z) := Blk.cell QX 2; have x3 : w2.cell? ⟨w.heap.size + 1, 3, none⟩ = some (.int .i64 o) := Blk.cell QX 3; have HQ := hid (And.intro QG (And.intro QX QF)); clear QG QX QF f))
        go_ret
        exact ⟨rfl, HQ.out.2.2⟩
  · have HD := hid (decide_eq_false (show ¬ mayX ⟨gc, gs, gn, gl, gk⟩ a m z o from fun h => h0 (HCK.out.symm.trans h.1)))
    have h0b : (ck == 0) = false := by simpa using h0
    have h0c : (ck != 0) = true := by rw [bne, h0b]; rfl
    clear h0
    rw [HD.out]
    clear HD
    go_enter Try.func40, Try.ntmps40
    go_wp2_with (go_at_call 68; ((with_reducible refine (rcheck_ok gc gs gn gl gk a m _ HS.out HW.out).mono ?_); rintro e' w2 ⟨rfl, f⟩; rw [HCK.out]; obtain ⟨QG, QX, QF⟩ := HGX.out _ f; have y0 : w2.cell? ⟨w.heap.size, 0, none⟩ = some (.int .i64 gc) := Blk.cell QG 0; have y1 : w2.cell? ⟨w.heap.size, 1, none⟩ = some (.int .i64 gs) := Blk.cell QG 1; have y2 : w2.cell? ⟨w.heap.size, 2, none⟩ = some (.int .i64 gn) := Blk.cell QG 2; have y3 : w2.cell? ⟨w.heap.size, 3, none⟩ = some (.int .i64 gl) := Blk.cell QG 3; have y4 : w2.cell? ⟨w.heap.size, 4, none⟩ = some (.int .i64 gk) := Blk.cell QG 4; have x0 : w2.cell? ⟨w.heap.size + 1, 0, none⟩ = some (.int .i64 a) := Blk.cell QX 0; have x1 : w2.cell? ⟨w.heap.size + 1, 1, none⟩ = some (.int .i64 m) := Blk.cell QX 1; have x2 : w2.cell? ⟨w.heap.size + 1, 2, none⟩ = some (.int .i64 z) := Blk.cell QX 2; have x3 : w2.cell? ⟨w.heap.size + 1, 3, none⟩ = some (.int .i64 o) := Blk.cell QX 3; have HQ := hid (And.intro QG (And.intro QX QF)); clear QG QX QF f))
    go_ret
    exact ⟨rfl, HQ.out.2.2⟩
end Go.Proofs.Ytoboialfaifbgaa.PgA
