/- Contract: how many things are left, by the program. Condition: the list reads as a list; numbers of 64 bits. -/
import Derived.Test.YtgjcpepfggkieaaClN
namespace Go.Proofs.Ytgjcpepfggkieaa.ClP
open Go.RowKit MSep MGeM GeA GeC GeD PlA PlB ClM ClA ClE ClB ClC ClD ClG ClH ClI ClJ ClK ClL ClN

def lefA (g : Ge) (ch : Int) (j : Jb) : Int := if mayG g then (if (mayB g j && chB ch) = true then leftJ (lay g).d ch j else 0) else 0
theorem lefA_no {g : Ge} {ch : Int} {j : Jb} {e : Int} (h : badW g ch j = some e) : lefA g ch j = 0 := by
  unfold badW at h
  unfold lefA
  split
  · rename_i hm; rw [if_pos hm] at h
    split
    · rename_i hq; rw [if_pos hq] at h; cases h
    · rfl
  · rfl
theorem left_le {d ch : Int} {j : Jb} (hc : 1 ≤ ch) (hd : 1 ≤ d ∧ d ≤ 1023) (h : okJ d j) (hl : j.bs.length ≤ 126) : leftJ d ch j ≤ 1000000 := by
  obtain ⟨st, z, bs, s, nx⟩ := j
  obtain ⟨h1, h2, h3, h4⟩ := h
  dsimp only at h1 h2 h3 h4 hl
  have k0 := cks_nonneg (ch := ch) (x := d) hc (by omega)
  have k1 := cks_le (ch := ch) (x := d) hc (by omega)
  have f0 : fz z ≤ 1 := by unfold fz; split <;> omega
  have len : ∀ {l : List Int}, l ≠ [] → 1 ≤ (l.length : Int) := by
    intro l hl; have := List.length_pos_iff.2 hl; omega
  have pos : ∀ n : Int, 0 ≤ n → n ≤ 126 → n * (3 + cks ch d) ≤ 126 * 1026 := fun n h0 hn => Int.mul_le_mul hn (by omega) (by omega) (by omega)
  rcases h1 with rfl | rfl | rfl | rfl | rfl | rfl
  · simp [leftJ]
  · have hb := len (h2 (by simp))
    have p := pos (bs.length : Int) (by omega) (by omega)
    simp [leftJ]
    omega
  · have hb := len (h2 (by simp))
    have p := pos ((bs.length : Int) - 1) (by omega) (by omega)
    have k2 := cks_le (ch := ch) (x := d - nx) hc (by have := h4 rfl; omega)
    have h5 := h4 rfl
    simp [leftJ]
    omega
  · have hb := len (h2 (by simp))
    have p := pos ((bs.length : Int) - 1) (by omega) (by omega)
    simp [leftJ]
    omega
  · have hb := len (h2 (by simp))
    have p := pos ((bs.length : Int) - 1) (by omega) (by omega)
    simp [leftJ]
    omega
  · simp [leftJ]
theorem may_len {g : Ge} {j : Jb} (h : mayB g j = true) : j.bs.length ≤ 126 := by
  simp only [mayB, Bool.and_eq_true, decide_eq_true_eq] at h
  have h1 := rises_len h.2.1
  have h2 := (good h.1.1).b2
  omega
/-- The loop of Left: so many are done, the job lies in block jb. -/
def LeftR (w : World) (jb wb gt gw : Nat) (gc gs gn gl gk yb yd ch : Int) (L0 : Int) (n : Value) (wr : World) : Prop :=
  ∃ (i : Nat) (st z : Int) (A : Option Addr) (l c : Nat) (sp nx : Int) (bs : List Int), n = .int .i64 i ∧ BJ wr jb st z A l c sp nx ∧ InI w A l c bs ∧ okJ yd ⟨st, z, bs, sp, nx⟩ ∧ (i : Int) + leftJ yd ch ⟨st, z, bs, sp, nx⟩ = L0 ∧ BW wr wb gc gs gn gl gk yb yd ch ∧ TU wr gt gw gc gs gn gl gk yb yd ch ∧ Fr No w wr
set_option maxRecDepth 100000 in
set_option maxHeartbeats 2000000 in
theorem pLeft_ok (gc gs gn gl gk : Int) (ch : Int) (st z : Int) (A : Option Addr) (l c : Nat) (sp nx : Int) (bs : List Int) (w : World) (hs : -9223372036854775808 ≤ gs ∧ gs ≤ 9223372036854775807) (hz : inI z) (hp : inI sp) (hi : InI w A l c bs) :
    Calls Try.prog 42 #[.agg #[.int .i64 gc, .int .i64 gs, .int .i64 gn, .int .i64 gl, .int .i64 gk], .int .i64 ch, .agg #[.int .i64 st, .int .i64 z, .slice A l c, .int .i64 sp, .int .i64 nx]] w fun r w' => r = .returned (.int .i64 (lefA ⟨gc, gs, gn, gl, gk⟩ ch ⟨st, z, bs, sp, nx⟩)) ∧ Fr No w w' := by
  have P0 := hid (BG2 w gc gs gn gl gk (oJ st z A l c sp nx))
  have P1 := hid (BJ.at_ (w := w.alloc (bg gc gs gn gl gk)) (g := w.heap.size + 1) st z A l c sp nx (by simp))
  have HF := hid ((fr1 w (bg gc gs gn gl gk)).alloc (oJ st z A l c sp nx))
  have HI := hid (hi.fr HF.out)
  have HIW := hid hi
  cases hb : badW ⟨gc, gs, gn, gl, gk⟩ ch ⟨st, z, bs, sp, nx⟩ with
  | some e =>
    rw [lefA_no hb]
    have HW := hid (fun W (h : InI W A l c bs) => way_err gc gs gn gl gk ch st z A l c sp nx bs W hs hz hp h e hb)
    have he : (e != 0) = true := by rcases bad_ne hb with h | h <;> rw [h] <;> rfl
    have he2 : (e == 0) = false := by rcases bad_ne hb with h | h <;> rw [h] <;> rfl
    clear hb hi hz hp
    go_enter Try.func42, Try.ntmps42
    go_wp2_with (first | ((with_reducible refine ld_geom rfl (.tmp 3) rfl w.heap.size ?_ P0.out ?_); · rfl) | ((with_reducible refine ldJ rfl (.tmp 5) rfl (w.heap.size + 1) ?_ P1.out ?_); · rfl))
    refine (HW.out _ HI.out).mono ?_
    rintro r w1 ⟨rfl, f1⟩
    have HF := hid ((HF.out.trans f1).alloc (oW 0 0 0 0 0 0 0 0))
    clear f1 HW P0 P1
    go_wp2_with fail
    go_ret
    exact ⟨rfl, HF.out⟩
  | none =>
    obtain ⟨hm, hj, hc, _⟩ := way_yes gc gs gn gl gk ch st z A l c sp nx bs w hs hz hp hi hb
    have HW := hid (fun W (h : InI W A l c bs) => (way_yes gc gs gn gl gk ch st z A l c sp nx bs W hs hz hp h hb).2.2.2)
    have hc2 := ch_of hc
    have hg := good hm.1
    have hd1 := hg.d1
    have hd2 := hg.d2
    have HOK := hid (ok_of_may hj)
    rw [show lefA ⟨gc, gs, gn, gl, gk⟩ ch ⟨st, z, bs, sp, nx⟩ = leftJ (lay ⟨gc, gs, gn, gl, gk⟩).d ch ⟨st, z, bs, sp, nx⟩ by unfold lefA; rw [if_pos hm, hj, hc]; rfl]
    have HLE := hid (left_le (ch := ch) (by omega) ⟨by omega, by omega⟩ (ok_of_may hj) (may_len hj))
    obtain ⟨yb, hyb⟩ : ∃ y, (lay ⟨gc, gs, gn, gl, gk⟩).b = y := ⟨_, rfl⟩
    obtain ⟨yd, hyd⟩ : ∃ y, (lay ⟨gc, gs, gn, gl, gk⟩).d = y := ⟨_, rfl⟩
    rw [hyb, hyd] at HW
    rw [hyd] at HOK HLE hd1 hd2
    rw [hyd]
    obtain ⟨L0, hL0⟩ : ∃ y, leftJ yd ch ⟨st, z, bs, sp, nx⟩ = y := ⟨_, rfl⟩
    rw [hL0] at HLE
    rw [hL0]
    have HL0 := hid hL0
    have HC := hid hc2
    have HD := hid (show 1 ≤ yd ∧ yd ≤ 1000000 from ⟨by omega, by omega⟩)
    have HT := hid (fun W => turns_ok gc gs gn gl gk yb yd ch W)
    clear hb hi hz hp hm hj hc hc2 hg hyb hyd hd1 hd2 hL0
    go_enter Try.func42, Try.ntmps42
    go_wp2_with (first | ((with_reducible refine ld_geom rfl (.tmp 3) rfl w.heap.size ?_ P0.out ?_); · rfl) | ((with_reducible refine ldJ rfl (.tmp 5) rfl (w.heap.size + 1) ?_ P1.out ?_); · rfl))
    refine (HW.out _ HI.out).mono ?_
    rintro r w1 ⟨rfl, f1⟩
    have HF := hid ((HF.out.trans f1).alloc (oW gc gs gn gl gk yb yd ch))
    have hlt1 := (P1.out.fr f1 : Blk _ _ _ _).lt
    have P1 := hid ((P1.out.fr f1).up (oW gc gs gn gl gk yb yd ch))
    have P7 := hid (BW.at_ (w := w1) gc gs gn gl gk yb yd ch rfl)
    clear f1 HW P0 HI
    go_wp2_with fail
    refine (HT.out _).mono ?_
    rintro r w2 ⟨gt, gw, rfl, ht, hg1, hg2, f2⟩
    have HF := kf f2 HF
    have P1 := hid (P1.out.fr f2)
    have P7 := hid (P7.out.fr f2)
    have HTU := hid ht
    have hgt : w.heap.size + 1 < gt := by simp at hg1; omega
    have hgw : w.heap.size + 1 < gw := by simp at hg2; omega
    obtain ⟨wb, hwb⟩ : ∃ x, w1.heap.size = x := ⟨_, rfl⟩
    rw [hwb] at P7 hlt1
    rw [hwb]
    clear ht hg1 hg2 f2 HT hwb
    have hfd : ∀ (x1 x2 x3 x4 x5 : Int) (w : World), (Instr.field 63 (.agg #[.int .i64 x1, .int .i64 x2, .int .i64 x3, .int .i64 x4, .int .i64 x5]) 0).run Try.prog w = .ok (.int .i64 x1) w := fun _ _ _ _ _ _ => by kernel_rfl
    go_wp2_with fail
    go_loopw [9] (fun n wr => LeftR w (w.heap.size + 1) wb gt gw gc gs gn gl gk yb yd ch L0 n wr) (fun n _ => (L0 - intOf n).toNat)
    case atStart => exact ⟨0, st, z, A, l, c, sp, nx, bs, rfl, P1.out, HIW.out, HOK.out, by rw [HL0.out]; simp, P7.out, HTU.out, HF.out⟩
    case round =>
      clear P1 P7 HTU HF HIW HOK HL0
      obtain ⟨i, st, z, A, l, c, sp, nx, bs, rfl, hbj, hi, hok, hn, hbw, htu, hf⟩ := hrel
      have P1 := hid hbj
      have P7 := hid hbw
      have HTU := hid htu
      have HIW := hid hi
      have HF := hid hf
      have HI := hid (hi.fr hf)
      have HN := hid hn
      have HOK := hid hok
      have HLP := hid (left_pos HC.out.1 HD.out.1 hok)
      have hiL : (i : Int) ≤ 1000000 := by have := HLE.out; have := HLP.out.1; omega
      clear hbj hi hn hbw htu hf
      obtain ⟨h1, h2, h3, h4⟩ := hok
      dsimp only at h1 h2 h3 h4
      have H2 := hid h2
      have H4 := hid h4
      clear h2 h3 h4
      have P1L := P1
      have HFL := HF
      have HIL := HI
      rcases h1 with rfl | rfl | rfl | rfl | rfl | rfl
      · have HE := hid (show (i : Int) = L0 by have := HN.out; simp [leftJ] at this; exact this)
        obtain ⟨c0, c1, c2, c3, c4⟩ := P1.out.cells
        clear c1 c2 c3 c4
        go_wp2_with fail
        go_ret
        exact ⟨reti HE.out, HF.out⟩
      · have HLT := hid (left_turn (d := yd) (ch := ch) (j := ⟨1, z, bs, sp, nx⟩) 0 HC.out.1 HD.out.1 HOK.out (by simp))
        rw [show turnJ yd ch (wantJ yd ch ⟨1, z, bs, sp, nx⟩).1 ⟨1, z, bs, sp, nx⟩ ⟨(wantJ yd ch ⟨1, z, bs, sp, nx⟩).1, 0, 0, []⟩ = ⟨3, z, bs, 0, nx⟩ by rw [w_band]; simp [turnJ]] at HLT
        have HWA := hid (fun W (h : InI W A l c bs) => wants_ok gc gs gn gl gk yb yd ch 1 z A l c sp nx bs W h HOK.out ⟨by have := HD.out; omega, HD.out.2⟩ ⟨by have := HC.out; omega, HC.out.2⟩)
        rw [w_band] at HWA
        dsimp only [tv] at HWA
        obtain ⟨c0, c1, c2, c3, c4⟩ := P1.out.cells
        go_wp2_with (first | ((with_reducible refine ldJ rfl (.tmp 5) rfl (w.heap.size + 1) ?_ P1.out ?_); · rfl) | ((with_reducible refine ldW rfl (.tmp 7) rfl wb ?_ P7.out ?_); · rfl))
        refine (HWA.out _ HI.out).mono ?_
        rintro r w3 ⟨rfl, f3⟩
        have HF := kf f3 HF
        have P1 := hid (P1.out.fr f3)
        have P7 := hid (P7.out.fr f3)
        have HTU := hid (HTU.out.fr f3)
        have HI := hid (HI.out.fr f3)
        clear c0 c1 c2 c3 c4 f3 HWA
        go_upto_region 9 with fail
        obtain ⟨c0, c1, c2, c3, c4⟩ := P1.out.cells
        have tk := HTU.out.cells.2.1
        go_still_tail 7, (by kernel_rfl)
        change wpList _ _ _ _ _ w3.drew
        clear c0 c1 c2 c3 c4 tk
        obtain ⟨w4, hw4⟩ : ∃ w4, w3.drew = w4 := ⟨_, rfl⟩
        have F4 : Fr No w3 w4 := hw4 ▸ Fr.drew (Fr.refl No w3)
        rw [hw4]
        have HF := kf F4 HF
        have P1 := hid (P1.out.fr F4)
        have P7 := hid (P7.out.fr F4)
        have HTU := hid (HTU.out.fr F4)
        have HI := hid (HI.out.fr F4)
        clear hw4 F4
        go_wp2_with fail
        refine (turn2_ok 1 z A l c sp nx bs 2 0 0 none 0 0 w _ HIW.out HI.out).mono ?_
        rintro r w5 ⟨st', z', B', m', d', sp', nx', rfl, hj, hi, f5⟩
        have HF := kf f5 HF
        have P1 := hid (P1.out.fr f5)
        have P7 := hid (P7.out.fr f5)
        have HTU := hid (HTU.out.fr f5)
        have HJ := hid hj
        have HIN := hid hi
        have hsz : w.heap.size ≤ w.heap.size + 1 := by omega
        have hn1 : gt ≠ w.heap.size + 1 := by omega
        have hn2 : gw ≠ w.heap.size + 1 := by omega
        have hn3 : wb ≠ w.heap.size + 1 := by omega
        clear f5 hj hi
        go_wp2_with ((with_reducible refine stJ rfl (.tmp 5) (.tmp 39) rfl (w.heap.size + 1) ?_ (st' := st') (z' := z') (A' := B') (l' := m') (c' := d') (sp' := sp') (nx' := nx') ?_ P1.out ?_); (· rfl); (· rfl); intro W' hb hf; have P1N := hid hb; have HF := kfg hsz HF hf; have P7 := hid (P7.out.far hf hn3); have HTU := hid (HTU.out.far hf hn1 hn2); clear hb hf)
        go_roundw
        case rel =>
          have hJ := HJ.out
          have h5 := HLT.out
          have hI := HIN.out
          rw [hJ] at h5
          refine ⟨i + 1, st', z', B', m', d', sp', nx', (⟨3, z, bs, 0, nx⟩ : Jb).bs, by go_num, P1N.out, hI, h5.1, ?_, P7.out, HTU.out, HF.out⟩
          have h6 := h5.2
          have h7 := HN.out
          try dsimp only at h6 h7 ⊢
          omega
        case measure =>
          have := HN.out
          have := HLP.out
          simp [intOf]
          have : leftJ yd ch ⟨1, z, bs, sp, nx⟩ ≠ 0 := fun h => by have := this.2 h; simp at this
          omega
      · have HLT := hid (left_turn (d := yd) (ch := ch) (j := ⟨2, z, bs, sp, nx⟩) 0 HC.out.1 HD.out.1 HOK.out (by simp))
        rw [show turnJ yd ch (wantJ yd ch ⟨2, z, bs, sp, nx⟩).1 ⟨2, z, bs, sp, nx⟩ ⟨(wantJ yd ch ⟨2, z, bs, sp, nx⟩).1, 0, 0, []⟩ = ⟨if nx + min ch (yd - nx) = yd then 4 else 2, z, bs, sp, nx + min ch (yd - nx)⟩ by rw [w_copy]; simp [turnJ, w_copy]] at HLT
        have HWA := hid (fun W (h : InI W A l c bs) => wants_ok gc gs gn gl gk yb yd ch 2 z A l c sp nx bs W h HOK.out ⟨by have := HD.out; omega, HD.out.2⟩ ⟨by have := HC.out; omega, HC.out.2⟩)
        rw [w_copy] at HWA
        dsimp only [tv] at HWA
        obtain ⟨c0, c1, c2, c3, c4⟩ := P1.out.cells
        go_wp2_with (first | ((with_reducible refine ldJ rfl (.tmp 5) rfl (w.heap.size + 1) ?_ P1.out ?_); · rfl) | ((with_reducible refine ldW rfl (.tmp 7) rfl wb ?_ P7.out ?_); · rfl))
        refine (HWA.out _ HI.out).mono ?_
        rintro r w3 ⟨rfl, f3⟩
        have HF := kf f3 HF
        have P1 := hid (P1.out.fr f3)
        have P7 := hid (P7.out.fr f3)
        have HTU := hid (HTU.out.fr f3)
        have HI := hid (HI.out.fr f3)
        clear c0 c1 c2 c3 c4 f3 HWA
        go_upto_region 9 with fail
        obtain ⟨c0, c1, c2, c3, c4⟩ := P1.out.cells
        have tk := HTU.out.cells.2.2.1
        go_still_tail 7, (by kernel_rfl)
        change wpList _ _ _ _ _ w3.drew
        clear c0 c1 c2 c3 c4 tk
        obtain ⟨w4, hw4⟩ : ∃ w4, w3.drew = w4 := ⟨_, rfl⟩
        have F4 : Fr No w3 w4 := hw4 ▸ Fr.drew (Fr.refl No w3)
        rw [hw4]
        have HF := kf F4 HF
        have P1 := hid (P1.out.fr F4)
        have P7 := hid (P7.out.fr F4)
        have HTU := hid (HTU.out.fr F4)
        have HI := hid (HI.out.fr F4)
        clear hw4 F4
        go_wp2_with fail
        refine (turn4_ok gw gc gs gn gl gk yb yd ch z A l c sp nx bs 3 0 0 none 0 0 w _ HIW.out HI.out (H2.out (by simp)) HTU.out.hw (H4.out (by simp)) HD.out.2 HC.out).mono ?_
        rintro r w5 ⟨st', z', B', m', d', sp', nx', rfl, hj, hi, f5⟩
        have HF := kf f5 HF
        have P1 := hid (P1.out.fr f5)
        have P7 := hid (P7.out.fr f5)
        have HTU := hid (HTU.out.fr f5)
        have HJ := hid hj
        have HIN := hid hi
        have hsz : w.heap.size ≤ w.heap.size + 1 := by omega
        have hn1 : gt ≠ w.heap.size + 1 := by omega
        have hn2 : gw ≠ w.heap.size + 1 := by omega
        have hn3 : wb ≠ w.heap.size + 1 := by omega
        clear f5 hj hi
        go_wp2_with ((with_reducible refine stJ rfl (.tmp 5) (.tmp 39) rfl (w.heap.size + 1) ?_ (st' := st') (z' := z') (A' := B') (l' := m') (c' := d') (sp' := sp') (nx' := nx') ?_ P1.out ?_); (· rfl); (· rfl); intro W' hb hf; have P1N := hid hb; have HF := kfg hsz HF hf; have P7 := hid (P7.out.far hf hn3); have HTU := hid (HTU.out.far hf hn1 hn2); clear hb hf)
        go_roundw
        case rel =>
          have hJ := HJ.out
          have h5 := HLT.out
          have hI := HIN.out
          rw [hJ] at h5
          refine ⟨i + 1, st', z', B', m', d', sp', nx', (⟨if nx + min ch (yd - nx) = yd then 4 else 2, z, bs, sp, nx + min ch (yd - nx)⟩ : Jb).bs, by go_num, P1N.out, hI, h5.1, ?_, P7.out, HTU.out, HF.out⟩
          have h6 := h5.2
          have h7 := HN.out
          try dsimp only at h6 h7 ⊢
          omega
        case measure =>
          have := HN.out
          have := HLP.out
          simp [intOf]
          have : leftJ yd ch ⟨2, z, bs, sp, nx⟩ ≠ 0 := fun h => by have := this.2 h; simp at this
          omega
      · have HLT := hid (left_turn (d := yd) (ch := ch) (j := ⟨3, z, bs, sp, nx⟩) 0 HC.out.1 HD.out.1 HOK.out (by simp))
        rw [show turnJ yd ch (wantJ yd ch ⟨3, z, bs, sp, nx⟩).1 ⟨3, z, bs, sp, nx⟩ ⟨(wantJ yd ch ⟨3, z, bs, sp, nx⟩).1, 0, 0, []⟩ = ⟨2, z, bs, sp, nx⟩ by rw [w_label]; simp [turnJ]] at HLT
        have HWA := hid (fun W (h : InI W A l c bs) => wants_ok gc gs gn gl gk yb yd ch 3 z A l c sp nx bs W h HOK.out ⟨by have := HD.out; omega, HD.out.2⟩ ⟨by have := HC.out; omega, HC.out.2⟩)
        rw [w_label] at HWA
        dsimp only [tv] at HWA
        obtain ⟨c0, c1, c2, c3, c4⟩ := P1.out.cells
        go_wp2_with (first | ((with_reducible refine ldJ rfl (.tmp 5) rfl (w.heap.size + 1) ?_ P1.out ?_); · rfl) | ((with_reducible refine ldW rfl (.tmp 7) rfl wb ?_ P7.out ?_); · rfl))
        refine (HWA.out _ HI.out).mono ?_
        rintro r w3 ⟨rfl, f3⟩
        have HF := kf f3 HF
        have P1 := hid (P1.out.fr f3)
        have P7 := hid (P7.out.fr f3)
        have HTU := hid (HTU.out.fr f3)
        have HI := hid (HI.out.fr f3)
        clear c0 c1 c2 c3 c4 f3 HWA
        go_upto_region 9 with fail
        obtain ⟨c0, c1, c2, c3, c4⟩ := P1.out.cells
        have tk := HTU.out.cells.2.2.2.1
        go_still_tail 7, (by kernel_rfl)
        change wpList _ _ _ _ _ w3.drew
        clear c0 c1 c2 c3 c4 tk
        obtain ⟨w4, hw4⟩ : ∃ w4, w3.drew = w4 := ⟨_, rfl⟩
        have F4 : Fr No w3 w4 := hw4 ▸ Fr.drew (Fr.refl No w3)
        rw [hw4]
        have HF := kf F4 HF
        have P1 := hid (P1.out.fr F4)
        have P7 := hid (P7.out.fr F4)
        have HTU := hid (HTU.out.fr F4)
        have HI := hid (HI.out.fr F4)
        clear hw4 F4
        go_wp2_with fail
        refine (turn3_ok 3 z A l c sp nx bs 4 0 0 none 0 0 w _ HIW.out HI.out).mono ?_
        rintro r w5 ⟨st', z', B', m', d', sp', nx', rfl, hj, hi, f5⟩
        have HF := kf f5 HF
        have P1 := hid (P1.out.fr f5)
        have P7 := hid (P7.out.fr f5)
        have HTU := hid (HTU.out.fr f5)
        have HJ := hid hj
        have HIN := hid hi
        have hsz : w.heap.size ≤ w.heap.size + 1 := by omega
        have hn1 : gt ≠ w.heap.size + 1 := by omega
        have hn2 : gw ≠ w.heap.size + 1 := by omega
        have hn3 : wb ≠ w.heap.size + 1 := by omega
        clear f5 hj hi
        go_wp2_with ((with_reducible refine stJ rfl (.tmp 5) (.tmp 39) rfl (w.heap.size + 1) ?_ (st' := st') (z' := z') (A' := B') (l' := m') (c' := d') (sp' := sp') (nx' := nx') ?_ P1.out ?_); (· rfl); (· rfl); intro W' hb hf; have P1N := hid hb; have HF := kfg hsz HF hf; have P7 := hid (P7.out.far hf hn3); have HTU := hid (HTU.out.far hf hn1 hn2); clear hb hf)
        go_roundw
        case rel =>
          have hJ := HJ.out
          have h5 := HLT.out
          have hI := HIN.out
          rw [hJ] at h5
          refine ⟨i + 1, st', z', B', m', d', sp', nx', (⟨2, z, bs, sp, nx⟩ : Jb).bs, by go_num, P1N.out, hI, h5.1, ?_, P7.out, HTU.out, HF.out⟩
          have h6 := h5.2
          have h7 := HN.out
          try dsimp only at h6 h7 ⊢
          omega
        case measure =>
          have := HN.out
          have := HLP.out
          simp [intOf]
          have : leftJ yd ch ⟨3, z, bs, sp, nx⟩ ≠ 0 := fun h => by have := this.2 h; simp at this
          omega
      · have HLT := hid (left_turn (d := yd) (ch := ch) (j := ⟨4, z, bs, sp, nx⟩) 0 HC.out.1 HD.out.1 HOK.out (by simp))
        rw [show turnJ yd ch (wantJ yd ch ⟨4, z, bs, sp, nx⟩).1 ⟨4, z, bs, sp, nx⟩ ⟨(wantJ yd ch ⟨4, z, bs, sp, nx⟩).1, 0, 0, []⟩ = nextJ z bs.tail by rw [w_commit]; simp [turnJ]] at HLT
        have HWA := hid (fun W (h : InI W A l c bs) => wants_ok gc gs gn gl gk yb yd ch 4 z A l c sp nx bs W h HOK.out ⟨by have := HD.out; omega, HD.out.2⟩ ⟨by have := HC.out; omega, HC.out.2⟩)
        rw [w_commit] at HWA
        dsimp only [tv] at HWA
        obtain ⟨c0, c1, c2, c3, c4⟩ := P1.out.cells
        go_wp2_with (first | ((with_reducible refine ldJ rfl (.tmp 5) rfl (w.heap.size + 1) ?_ P1.out ?_); · rfl) | ((with_reducible refine ldW rfl (.tmp 7) rfl wb ?_ P7.out ?_); · rfl))
        refine (HWA.out _ HI.out).mono ?_
        rintro r w3 ⟨rfl, f3⟩
        have HF := kf f3 HF
        have P1 := hid (P1.out.fr f3)
        have P7 := hid (P7.out.fr f3)
        have HTU := hid (HTU.out.fr f3)
        have HI := hid (HI.out.fr f3)
        clear c0 c1 c2 c3 c4 f3 HWA
        go_upto_region 9 with fail
        obtain ⟨c0, c1, c2, c3, c4⟩ := P1.out.cells
        have tk := HTU.out.cells.2.2.2.2.1
        go_still_tail 7, (by kernel_rfl)
        change wpList _ _ _ _ _ w3.drew
        clear c0 c1 c2 c3 c4 tk
        obtain ⟨w4, hw4⟩ : ∃ w4, w3.drew = w4 := ⟨_, rfl⟩
        have F4 : Fr No w3 w4 := hw4 ▸ Fr.drew (Fr.refl No w3)
        rw [hw4]
        have HF := kf F4 HF
        have P1 := hid (P1.out.fr F4)
        have P7 := hid (P7.out.fr F4)
        have HTU := hid (HTU.out.fr F4)
        have HI := hid (HI.out.fr F4)
        clear hw4 F4
        go_wp2_with fail
        refine (turn5_ok 4 z A l c sp nx bs 5 0 0 none 0 0 w _ HIW.out HI.out (H2.out (by simp))).mono ?_
        rintro r w5 ⟨st', z', B', m', d', sp', nx', rfl, hj, hi, f5⟩
        have HF := kf f5 HF
        have P1 := hid (P1.out.fr f5)
        have P7 := hid (P7.out.fr f5)
        have HTU := hid (HTU.out.fr f5)
        have HJ := hid hj
        have HIN := hid hi
        have hsz : w.heap.size ≤ w.heap.size + 1 := by omega
        have hn1 : gt ≠ w.heap.size + 1 := by omega
        have hn2 : gw ≠ w.heap.size + 1 := by omega
        have hn3 : wb ≠ w.heap.size + 1 := by omega
        clear f5 hj hi
        go_wp2_with ((with_reducible refine stJ rfl (.tmp 5) (.tmp 39) rfl (w.heap.size + 1) ?_ (st' := st') (z' := z') (A' := B') (l' := m') (c' := d') (sp' := sp') (nx' := nx') ?_ P1.out ?_); (· rfl); (· rfl); intro W' hb hf; have P1N := hid hb; have HF := kfg hsz HF hf; have P7 := hid (P7.out.far hf hn3); have HTU := hid (HTU.out.far hf hn1 hn2); clear hb hf)
        go_roundw
        case rel =>
          have hJ := HJ.out
          have h5 := HLT.out
          have hI := HIN.out
          rw [hJ] at h5
          refine ⟨i + 1, st', z', B', m', d', sp', nx', (nextJ z bs.tail : Jb).bs, by go_num, P1N.out, hI, h5.1, ?_, P7.out, HTU.out, HF.out⟩
          have h6 := h5.2
          have h7 := HN.out
          try dsimp only at h6 h7 ⊢
          omega
        case measure =>
          have := HN.out
          have := HLP.out
          simp [intOf]
          have : leftJ yd ch ⟨4, z, bs, sp, nx⟩ ≠ 0 := fun h => by have := this.2 h; simp at this
          omega
      · have HLT := hid (left_turn (d := yd) (ch := ch) (j := ⟨5, z, bs, sp, nx⟩) 0 HC.out.1 HD.out.1 HOK.out (by simp))
        rw [show turnJ yd ch (wantJ yd ch ⟨5, z, bs, sp, nx⟩).1 ⟨5, z, bs, sp, nx⟩ ⟨(wantJ yd ch ⟨5, z, bs, sp, nx⟩).1, 0, 0, []⟩ = idle by rw [w_free]; simp [turnJ]] at HLT
        have HWA := hid (fun W (h : InI W A l c bs) => wants_ok gc gs gn gl gk yb yd ch 5 z A l c sp nx bs W h HOK.out ⟨by have := HD.out; omega, HD.out.2⟩ ⟨by have := HC.out; omega, HC.out.2⟩)
        rw [w_free] at HWA
        dsimp only [tv] at HWA
        obtain ⟨c0, c1, c2, c3, c4⟩ := P1.out.cells
        go_wp2_with (first | ((with_reducible refine ldJ rfl (.tmp 5) rfl (w.heap.size + 1) ?_ P1.out ?_); · rfl) | ((with_reducible refine ldW rfl (.tmp 7) rfl wb ?_ P7.out ?_); · rfl))
        refine (HWA.out _ HI.out).mono ?_
        rintro r w3 ⟨rfl, f3⟩
        have HF := kf f3 HF
        have P1 := hid (P1.out.fr f3)
        have P7 := hid (P7.out.fr f3)
        have HTU := hid (HTU.out.fr f3)
        have HI := hid (HI.out.fr f3)
        clear c0 c1 c2 c3 c4 f3 HWA
        go_upto_region 9 with fail
        obtain ⟨c0, c1, c2, c3, c4⟩ := P1.out.cells
        have tk := HTU.out.cells.2.2.2.2.2
        go_still_tail 7, (by kernel_rfl)
        change wpList _ _ _ _ _ w3.drew
        clear c0 c1 c2 c3 c4 tk
        obtain ⟨w4, hw4⟩ : ∃ w4, w3.drew = w4 := ⟨_, rfl⟩
        have F4 : Fr No w3 w4 := hw4 ▸ Fr.drew (Fr.refl No w3)
        rw [hw4]
        have HF := kf F4 HF
        have P1 := hid (P1.out.fr F4)
        have P7 := hid (P7.out.fr F4)
        have HTU := hid (HTU.out.fr F4)
        have HI := hid (HI.out.fr F4)
        clear hw4 F4
        go_wp2_with fail
        refine (turn6_ok 5 z A l c sp nx bs 6 0 0 none 0 0 w _).mono ?_
        rintro r w5 ⟨st', z', B', m', d', sp', nx', rfl, hj, hi, f5⟩
        have HF := kf f5 HF
        have P1 := hid (P1.out.fr f5)
        have P7 := hid (P7.out.fr f5)
        have HTU := hid (HTU.out.fr f5)
        have HJ := hid hj
        have HIN := hid hi
        have hsz : w.heap.size ≤ w.heap.size + 1 := by omega
        have hn1 : gt ≠ w.heap.size + 1 := by omega
        have hn2 : gw ≠ w.heap.size + 1 := by omega
        have hn3 : wb ≠ w.heap.size + 1 := by omega
        clear f5 hj hi
        go_wp2_with ((with_reducible refine stJ rfl (.tmp 5) (.tmp 39) rfl (w.heap.size + 1) ?_ (st' := st') (z' := z') (A' := B') (l' := m') (c' := d') (sp' := sp') (nx' := nx') ?_ P1.out ?_); (· rfl); (· rfl); intro W' hb hf; have P1N := hid hb; have HF := kfg hsz HF hf; have P7 := hid (P7.out.far hf hn3); have HTU := hid (HTU.out.far hf hn1 hn2); clear hb hf)
        go_roundw
        case rel =>
          have hJ := HJ.out
          have h5 := HLT.out
          have hI := HIN.out
          rw [hJ] at h5
          refine ⟨i + 1, st', z', B', m', d', sp', nx', (idle : Jb).bs, by go_num, P1N.out, hI, h5.1, ?_, P7.out, HTU.out, HF.out⟩
          have h6 := h5.2
          have h7 := HN.out
          try dsimp only at h6 h7 ⊢
          omega
        case measure =>
          have := HN.out
          have := HLP.out
          simp [intOf]
          have : leftJ yd ch ⟨5, z, bs, sp, nx⟩ ≠ 0 := fun h => by have := this.2 h; simp at this
          omega
end Go.Proofs.Ytgjcpepfggkieaa.ClP
