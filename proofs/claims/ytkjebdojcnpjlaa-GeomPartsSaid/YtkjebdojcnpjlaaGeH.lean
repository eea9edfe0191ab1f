/- Contracts: a span cut into runs, by the program. Condition: all numbers are 64 bits. -/
import Derived.Test.YtkjebdojcnpjlaaGeF
import Derived.Test.YtkjebdojcnpjlaaGeG
namespace Go.Proofs.Ytkjebdojcnpjlaa.GeH
open Go.RowKit MSep MSepC MGeM GeA GeB GeC GeD GeE GeEk GeF MGeG SqU

/-- L is what the runs of the span (a, m) are. -/
def RunsOf (g : Ge) (a m : Int) (L : List MSpM.Sp) : Prop :=
  (cko g a m ≠ 0 ∧ L = []) ∨ (cko g a m = 0 ∧ ∃ k, Ok a (a + m) (lay g).d (lay g).u k ∧ ¬ pos a (a + m) (lay g).d (lay g).u k < a + m ∧ L = rns a (a + m) (lay g).d (lay g).u k ∧ k ≤ 200000)
theorem RunsOf.one {g : Ge} {a m : Int} {L L' : List MSpM.Sp} (h : RunsOf g a m L) (h' : RunsOf g a m L') : L = L' := by
  rcases h with ⟨h1, h2⟩ | ⟨h1, k, h2, h3, h4, _⟩
  · rcases h' with ⟨_, h5⟩ | ⟨h5, _⟩
    · rw [h2, h5]
    · exact absurd h5 h1
  · rcases h' with ⟨h5, _⟩ | ⟨_, k', h5, h6, h7, _⟩
    · exact absurd h1 h5
    · rw [h4, h7, Ok.one h2 h5 h3 h6]
/-- The call has returned the runs. -/
def RetU (g : Ge) (a m : Int) (w w' : World) (e : Ending) : Prop := ∃ L, RunsOf g a m L ∧ SqB.RetS w w' e L
theorem app_sp_step2 {w : World} {ops : Array Oper} {o : Oper} {a : Act} {K : Act → World → Prop} {Q : Exit → Act → World → Prop} {E : Prop} (hgd : o.guard = none) (s x : Operand)
    (ho : o.op = .call { callee := .builtin .append, args := #[s, x], argTypes := #[33, 33] })
    (B : Nat) (v : Value) (l : List MSpM.Sp) (hs : a.eval s = v) (hown : SqB.Out B w v l)
    (A : Option Addr) (m c : Nat) (news : List MSpM.Sp) (hx : a.eval x = .slice A m c) (hr : RdS w A m news)
    (hlim : l.length + m ≤ 4000000000000) (hbase : B ≤ w.heap.size)
    (h : ∀ A' c' w', SqB.Out B w' (.slice A' (l.length + m) c') (l ++ news) → Fr (fun q => v.ownBlock = some q) w w' → (∀ q, (Value.slice A' (l.length + m) c').ownBlock = some q → v.ownBlock = some q ∨ w.heap.size ≤ q) → K (a.put o.dst (.slice A' (l.length + m) c')) w') :
    if Region.wanted o (yielded ops a.tmps) = true then Oper.wp Try.prog o a w K Q else E := by
  obtain ⟨i0, z0, hi, hz0, hz1, hz2, hz3⟩ := SqB.info23
  refine step_appk 2 (by omega) hgd s x 33 ho B 31 i0 z0 16 Try.underlying33 hi hz0 hz1 hz2 hz3 v l.length (cs2 l) hs hown A m c (cs2 news) hx hr.2 cs2_one (by simp only [maxLen]; omega) (by omega) hbase ?_
  intro A' c' w' o1 f1 h1
  refine h A' c' w' ?_ f1 h1
  have e : (l ++ news).length = l.length + m := by rw [List.length_append, hr.1]
  unfold SqB.Out
  rw [cs2_append, e]
  exact o1
/-- Part j begins at; behind the last one: the end. -/
def bgn (a m d F : Int) (K j : Nat) : Int := if j = K + 1 then a + m else frm a d F j
theorem bgn_next (a m d F : Int) {K j : Nat} (hj : j ≤ K) : bgn a m d F K (j + 1) = too a m d F K j := by
  unfold bgn
  by_cases h : j = K
  · subst h
    rw [if_pos rfl]
    unfold too
    rw [if_pos rfl]
  · rw [if_neg (by omega), too_frm a m d F (show j < K by omega)]
theorem bgn_at (a m d F : Int) {K j : Nat} (hj : j ≤ K) : bgn a m d F K j = frm a d F j := by unfold bgn; rw [if_neg (by omega)]
theorem stp_part {a m d F u X : Int} {K j : Nat} (hg : Gd a m d F K) (hj : j ≤ K) (h1 : frm a d F j ≤ X) (h2 : X < too a m d F K j) : stp (a + m) d u X = min u (too a m d F K j - X) := by
  have f := hg.frm_in hj
  have t := hg.too_in hj
  have b := hg.base
  have u1 := hg.u1
  have s := step_u F d j
  rw [stp_band (f := F + j) (by omega) (by omega) (by omega)]
  by_cases h : j = K
  · subst h
    have e : too a m d F j j = a + m := by unfold too; rw [if_pos rfl]
    rw [e] at *
    omega
  · have e : too a m d F K j = (F + j + 1) * d := by unfold too; rw [if_neg h]
    have md := hg.mid (i := j) (by omega)
    rw [e] at *
    omega
theorem gd_of {a m d b : Int} (hm : MSpM.may (a, m)) (h0 : m ≠ 0) (hd : 1 ≤ d) (ht : a + m ≤ b * d) (hb : b ≤ 126) : ∃ (F : Int) (K : Nat), Gd a m d F K ∧ K < 4096 := by
  have hm' := hm
  unfold MSpM.may at hm'
  dsimp only at hm'
  have h1 : a / d ≤ (a + m - 1) / d := Int.ediv_le_ediv (by omega) (by omega)
  have h2 : (a + m - 1) / d < b := Int.ediv_lt_of_lt_mul (by omega) (by omega)
  have h3 : 0 ≤ a / d := Int.ediv_nonneg (by omega) (by omega)
  exact ⟨a / d, ((a + m - 1) / d - a / d).toNat, ⟨hm, by omega, hd, rfl, by omega⟩, by omega⟩
theorem part_may {a m d F : Int} {K j : Nat} (hg : Gd a m d F K) (hj : j ≤ K) : MSpM.may (frm a d F j, too a m d F K j - frm a d F j) := by
  have f := hg.frm_in hj
  have t := hg.too_in hj
  have b := hg.base
  unfold MSpM.may
  dsimp only
  omega
theorem kg {w w' : World} {v : Value} {g8 : Nat} {x y : Int} (h : Hid (BS w g8 x y)) (hn : ∀ q, v.ownBlock = some q → q ≠ g8) (f : Fr (fun q => v.ownBlock = some q) w w') : Hid (BS w' g8 x y) := hid (Blk.fr h.out f (fun he => hn _ he rfl))
set_option maxRecDepth 100000 in
set_option maxHeartbeats 4000000 in
theorem runs_ok (c s n l k a m : Int) (w : World) (hs : -9223372036854775808 ≤ s ∧ s ≤ 9223372036854775807) (hw : SpA.wf (a, m)) : Calls Try.prog 13 #[.agg #[.int .i64 c, .int .i64 s, .int .i64 n, .int .i64 l, .int .i64 k], .agg #[.int .i64 a, .int .i64 m]] w fun e w' => RetU ⟨c, s, n, l, k⟩ a m w w' e := by
  have HC := hid (fun W => check_ok c s n l k a m W hs hw)
  have HF := hid ((fr1 w (bg c s n l k)).alloc (bs_ a m))
  have P0 := hid (BG2 w c s n l k (bs_ a m))
  have P1 := hid (BS.new2 w (bg c s n l k) a m)
  obtain ⟨p0, p1⟩ := P1.out.cells
  have LD := 0
  clear LD
  by_cases hc : cko ⟨c, s, n, l, k⟩ a m = 0
  · have HR := hid hc
    rw [hc] at HC
    have hm : mayG ⟨c, s, n, l, k⟩ := by
      unfold cko at hc
      by_cases h : mayG ⟨c, s, n, l, k⟩
      · exact h
      · rw [if_neg h] at hc; omega
    have h3 : MSpM.may (a, m) ∧ m ≠ 0 ∧ a + m ≤ (lay ⟨c, s, n, l, k⟩).t := by
      by_cases h : MSpM.may (a, m) ∧ m ≠ 0 ∧ a + m ≤ (lay ⟨c, s, n, l, k⟩).t
      · exact h
      · rw [cko_bad hm h] at hc; omega
    have hg := good hm.1
    obtain ⟨y, hy⟩ : ∃ y, lay ⟨c, s, n, l, k⟩ = y := ⟨_, rfl⟩
    have HL := hid (fun W => follows_ok c s n l k y W hm.1 hy)
    have HY := hid hy
    rw [hy] at h3 hg
    clear hy hm hc
    obtain ⟨ya, yr, yq, yb, d, yt, yx, u⟩ := y
    have hb2 := hg.b2
    have hd1 := hg.d1
    have hd2 := hg.d2
    have ht := hg.t0
    have hu1 := hg.u1
    have hu2 := hg.u2
    have ht2 := hg.t2
    dsimp only at hb2 hd1 hd2 ht hu1 hu2 ht2 h3 HL
    obtain ⟨FF, K, hgd, hK⟩ := gd_of h3.1 h3.2.1 (show 1 ≤ d by omega) (show a + m ≤ yb * d by omega) hb2
    have hae : a + m ≤ 128898 := by omega
    have ha0 : 0 ≤ a := h3.1.1
    have GD := hid hgd
    have HK := hid hK
    have HSP := hid (fun W => split_ok a m d FF K W hgd (by omega) hK)
    clear hg hgd hK h3 ht hb2 ht2
    go_enter Try.func13, Try.ntmps13
    go_wp2_with ((with_reducible refine ld_geom rfl (.tmp 2) rfl w.heap.size ?_ P0.out ?_); · rfl)
    refine (HC.out _).mono ?_
    rintro e w1 ⟨rfl, f1⟩
    have HF := kf f1 HF
    have P0 := hid (P0.out.fr f1)
    have P1 := hid (P1.out.fr f1)
    clear f1 HC p0 p1
    go_wp2_with ((with_reducible refine ld_geom rfl (.tmp 2) rfl w.heap.size ?_ P0.out ?_); · rfl)
    refine (HL.out _).mono ?_
    rintro e w2 ⟨rfl, f2⟩
    have S2 : w.heap.size + 2 ≤ w2.heap.size := by have h1 := HF.out.size; have h2 := f2.size; have h3 := P1.out; have := Blk.lt h3; omega
    have HF := hid ((HF.out.trans f2).alloc (by_ ya yr yq yb d yt yx u))
    have P1 := hid (show BS (w2.alloc (by_ ya yr yq yb d yt yx u)) (w.heap.size + 1) a m from (P1.out.fr f2 : Blk _ _ _ _).alloc _)
    have P2 := hid (BL.new w2 ya yr yq yb d yt yx u)
    clear f2 HL P0
    obtain ⟨p0, p1⟩ := P1.out.cells
    go_wp2_with fail
    refine (HSP.out _).mono ?_
    rintro e w3 ⟨A3, k3, c3, rfl, r3, f3⟩
    obtain rfl : k3 = K + 1 := by rw [← r3.1, spl_len]
    have HF := kf f3 HF
    have P2 := hid (P2.out.fr f3)
    have R3 := hid r3
    have S3 : w2.heap.size + 1 ≤ w3.heap.size := by have := f3.size; simp at this; omega
    clear f3 r3 HSP p0 p1 P1
    go_wp2
    go_loopw [6, 21] (fun v i wr => ∃ (j k : Nat) (A : Option Addr) (c : Nat), j ≤ K + 1 ∧ i = .int .i64 j ∧ v = .slice A k c ∧ SqB.Out w3.heap.size wr v (rns a (a + m) d u k) ∧ Ok a (a + m) d u k ∧ pos a (a + m) d u k = bgn a m d FF K j ∧ Fr No w3 wr) (fun _ i _ => K + 1 - (intOf i).toNat)
    case atStart => exact ⟨0, 0, none, 0, by omega, rfl, rfl, SqB.Out.nil _ _, Ok.zero _ _ _ _, by rw [bgn_at a m d FF (by omega)]; rfl, Fr.refl _ _⟩
    case round =>
      obtain ⟨j, q, Av, cv, hj, rfl, rfl, ho, hok, hpos, hf⟩ := hrel
      by_cases hlt : j < K + 1
      · have hjK : j ≤ K := by omega
        obtain ⟨g, o, rfl, hgl, hcell⟩ := (R3.out.fr hf).at_ (by omega)
        obtain ⟨x0, x1⟩ := hcell j _ (spl_at a m d FF hlt)
        have e1 : (pc a m d FF K j).1 = frm a d FF j := rfl
        have e2 : (pc a m d FF K j).2 = too a m d FF K j - frm a d FF j := rfl
        rw [e1] at x0
        rw [e2] at x1
        rw [bgn_at a m d FF hjK] at hpos
        have hfi := GD.out.frm_in hjK
        have hti := GD.out.too_in hjK
        have HPM := hid (part_may GD.out hjK)
        have HST := hid (fun X h1 h2 => stp_part (u := u) (X := X) GD.out hjK h1 h2)
        have HNX := hid (bgn_next a m d FF hjK)
        obtain ⟨B, hB⟩ : ∃ B, frm a d FF j = B := ⟨_, rfl⟩
        obtain ⟨T, hT⟩ : ∃ T, too a m d FF K j = T := ⟨_, rfl⟩
        rw [hB] at x0 x1 hpos hfi hti HPM HST
        rw [hT] at x1 hti HPM HST HNX
        obtain ⟨hfi0, hfi1, _, _⟩ := hfi
        obtain ⟨hti0, hti1, _⟩ := hti
        have hlt3 : (j : Int) < (K : Int) + 1 := by omega
        have hj4 : (j : Int) ≤ 4096 := by have := HK.out; omega
        have hj0 : (0 : Int) ≤ j := by omega
        have HJ := hid hlt
        have HO := hid ho
        have HOK := hid hok
        have HP := hid hpos
        have FW := hid (hf.alloc (bs_ B (T - B)))
        have S4 : w3.heap.size ≤ wr.heap.size := hf.size
        have P8 := hid (BS.new wr B (T - B))
        have HO := hid (show SqB.Out w3.heap.size (wr.alloc (bs_ B (T - B))) (.slice Av q cv) (rns a (a + m) d u q) from ho.fr (fr1 _ _))
        have HNE := hid (show ∀ z, (Value.slice Av q cv).ownBlock = some z → z ≠ wr.heap.size from fun z hz => by have := (ho.ge z hz).2; omega)
        have hae2 : T ≤ 128898 := by omega
        have hB0 : 0 ≤ B := by omega
        clear hcell hgl ho hok hpos hf hlt hj hjK hB hT e1 e2
        go_wp2
        obtain ⟨w4, hw4⟩ : ∃ w4, wr.alloc (bs_ B (T - B)) = w4 := ⟨_, rfl⟩
        obtain ⟨g8, hg8⟩ : ∃ g8, wr.heap.size = g8 := ⟨_, rfl⟩
        rw [hw4] at FW P8 HO
        rw [hg8] at P8 HNE
        have S5 : g8 < w4.heap.size := by rw [← hw4, ← hg8]; simp
        rw [hw4]
        rw [hg8]
        clear hw4 hg8 S4
        go_loopw [6, 9] (fun v x wr2 => ∃ (q : Nat) (A : Option Addr) (c : Nat) (X : Int), x = .int .i64 X ∧ v = .slice A q c ∧ SqB.Out w3.heap.size wr2 v (rns a (a + m) d u q) ∧ Ok a (a + m) d u q ∧ B ≤ X ∧ X ≤ 128906 ∧ pos a (a + m) d u q = min X T ∧ Fr No w3 wr2 ∧ BS wr2 g8 B (T - B) ∧ (∀ z, v.ownBlock = some z → z ≠ g8)) (fun _ x _ => 200000 - (intOf x).toNat)
        case atStart => exact ⟨q, _, _, B, rfl, rfl, HO.out, HOK.out, by omega, by omega, by rw [HP.out]; omega, FW.out, P8.out, HNE.out⟩
        case round =>
          obtain ⟨q2, Ax, cx, X, rfl, rfl, ho, hok, hX0, hX1, hpos, hf, h8, hne⟩ := hrel
          have HX0 := hid hX0
          have c80 := (BS.cells h8).1
          have c81 := (BS.cells h8).2
          have P2 := hid (P2.out.fr hf)
          have FW := hid hf
          have OX := hid ho
          have HOK := hid hok
          have HP := hid hpos
          have P8 := hid h8
          have HNE := hid hne
          have S6 : g8 < wr.heap.size := Blk.lt h8
          have S7 : w3.heap.size ≤ wr.heap.size := hf.size
          clear hf ho hok hpos h8 hne
          go_wp2_with fail
          refine (SqB.end_may B (T - B) _ HPM.out).mono ?_
          rintro e w5 ⟨rfl, f5⟩
          have FW := kf f5 FW
          have OX := SqB.ko f5 OX
          have P8 := hid (P8.out.fr f5)
          have P2 := hid (P2.out.fr f5)
          have S6 : g8 < w5.heap.size := Blk.lt P8.out
          clear f5 c80 c81
          have c80 := (BS.cells P8.out).1
          have c81 := (BS.cells P8.out).2
          obtain ⟨_, _, _, _, _, _, _, d7⟩ := P2.out.cells
          have hBT : B + (T - B) = T := by omega
          rw [hBT]
          by_cases hXT : X < T
          · have hst := HST.out X hX0 hXT
            have hp1 : pos a (a + m) d u q2 = X := by rw [HP.out]; omega
            have hXe : pos a (a + m) d u q2 < a + m := by omega
            have HOK2 := hid (HOK.out.succ hXe)
            have hlow := HOK.out.low (by omega) (by omega)
            have hq : q2 ≤ 128898 := by omega
            have HL := hid (rns_len a (a + m) d u q2)
            have HRS := hid (rns_succ a (a + m) d u q2)
            have HPS := hid (pos_succ a (a + m) d u q2)
            rw [hp1, hst] at HRS HPS
            clear HP hp1 hXe HOK hlow hst
            by_cases hU : u ≤ T - X
            · have hmn : min u (T - X) = u := by omega
              rw [hmn] at HRS HPS
              have hmx : ¬ T - X < u := by omega
              have hwx : IntKind.i64.wrap (T - X) = T - X := by rw [IntKind.wrap_i64]; omega
              clear hmn
              go_wp2_with fail
              have P8 := hid (show BS w5.drew g8 B (T - B) from P8.out)
              have P2 := hid (show BL w5.drew _ _ _ _ _ _ _ _ _ from P2.out)
              have OX := hid (show SqB.Out _ w5.drew _ _ from OX.out)
              have FW := kd FW
              refine wp_region_noPanic ?_
              refine wp_region_held_drew (S := (fun W' => W'.cell? ⟨w2.heap.size, 7, none⟩ = some (.int .i64 u) ∧ W'.cell? ⟨g8, 0, none⟩ = some (.int .i64 B) ∧ W'.cell? ⟨g8, 1, none⟩ = some (.int .i64 (T - B)) ∧ Hid (Fr No w3 W'))) (by kernel_rfl) ?_ (fun hHeld => ?_)
              · (try dsimp only); (first | (go_split_ands; exact ⟨kc f (by assumption), kc f (by assumption), kc f (by assumption), by assumption⟩) | (go_split_ands; exact ⟨(by assumption), (by assumption), (by assumption), by assumption⟩) | (go_split_ands; exact ⟨kc (fr1 _ _) (by assumption), kc (fr1 _ _) (by assumption), kc (fr1 _ _) (by assumption), kfa (by assumption)⟩))
              refine wpAnyH_take (i := 0) (v := ?v1) rfl (by kernel_rfl) (by kernel_rfl) (by kernel_rfl) (fun _ _ _ h => h) (Or.inl ⟨by kernel_rfl, ?y1⟩) (by assumption) ?_
              case y1 => (intro w hSw; (try dsimp only at hSw); go_simp; all_goals with_reducible rfl)
              try simp only [Act.put, List.getElem_toArray, List.getElem_cons_zero, List.setIfInBounds_toArray, List.set_cons_zero, List.set_cons_succ]
              refine wpAnyH_take (i := 1) (v := ?v2) rfl (by kernel_rfl) (by kernel_rfl) (by kernel_rfl) (fun _ _ _ h => h) (Or.inl ⟨by kernel_rfl, ?y2⟩) (by assumption) ?_
              case y2 => (intro w hSw; (try dsimp only at hSw); go_simp; all_goals with_reducible rfl)
              try simp only [Act.put, List.getElem_toArray, List.getElem_cons_succ, List.getElem_cons_zero, List.setIfInBounds_toArray, List.set_cons_zero, List.set_cons_succ]
              refine wpAnyH_take (i := 2) (v := ?v3) rfl (by kernel_rfl) (by kernel_rfl) (by kernel_rfl) (fun _ _ _ h => h) (Or.inl ⟨by kernel_rfl, ?y3⟩) (by assumption) ?_
              case y3 => (intro w hSw; (try dsimp only at hSw); go_simp; all_goals with_reducible rfl)
              try simp only [Act.put, List.getElem_toArray, List.getElem_cons_succ, List.getElem_cons_zero, List.setIfInBounds_toArray, List.set_cons_zero, List.set_cons_succ]
              refine wpAnyH_take (i := 3) (v := ?v4) rfl (by kernel_rfl) (by kernel_rfl) (by kernel_rfl) (fun _ _ _ h => h) (Or.inl ⟨by kernel_rfl, ?y4⟩) (by assumption) ?_
              case y4 => (intro w hSw; (try dsimp only at hSw); go_simp; all_goals with_reducible rfl)
              try simp only [Act.put, List.getElem_toArray, List.getElem_cons_succ, List.getElem_cons_zero, List.setIfInBounds_toArray, List.set_cons_zero, List.set_cons_succ]
              refine wpAnyH_take (i := 4) (v := ?v5) rfl (by kernel_rfl) (by kernel_rfl) (by kernel_rfl) (fun _ _ _ h => h) (Or.inl ⟨by kernel_rfl, ?y5⟩) (by assumption) ?_
              case y5 => (intro w hSw; (try dsimp only at hSw); go_simp; all_goals with_reducible rfl)
              try simp only [Act.put, List.getElem_toArray, List.getElem_cons_succ, List.getElem_cons_zero, List.setIfInBounds_toArray, List.set_cons_zero, List.set_cons_succ]
              refine wpAnyH_take (i := 6) (v := ?v6) rfl (by kernel_rfl) (by kernel_rfl) (by kernel_rfl) (fun _ _ _ h => h) (Or.inl ⟨by kernel_rfl, ?y6⟩) (by assumption) ?_
              case y6 => (intro w hSw; (try dsimp only at hSw); go_simp; all_goals with_reducible rfl)
              try simp only [Act.put, List.getElem_toArray, List.getElem_cons_succ, List.getElem_cons_zero, List.setIfInBounds_toArray, List.set_cons_zero, List.set_cons_succ]
              refine wpAnyH_ready (rs := [5]) (by kernel_rfl) (by simp) (AllReadyH.cons rfl (fun K hK => ?_) AllReadyH.nil)
              go_simp
              go_at_call 19
              refine (SqB.end_may B (T - B) _ HPM.out).mono ?_
              rintro e W1 ⟨rfl, f⟩
              have FW := kf f hHeld.2.2.2
              have P8 := hid (P8.out.fr f)
              have P2 := hid (P2.out.fr f)
              have OX := SqB.ko f OX
              rw [hBT]
              dsimp only
              refine hK.out _ _ ?_ (fun hHeld => ?_)
              · (try dsimp only); (first | (go_split_ands; exact ⟨kc f (by assumption), kc f (by assumption), kc f (by assumption), by assumption⟩) | (go_split_ands; exact ⟨(by assumption), (by assumption), (by assumption), by assumption⟩) | (go_split_ands; exact ⟨kc (fr1 _ _) (by assumption), kc (fr1 _ _) (by assumption), kc (fr1 _ _) (by assumption), kfa (by assumption)⟩))
              clear hK K
              try simp only [Act.put, List.getElem_toArray, List.getElem_cons_succ, List.getElem_cons_zero, List.setIfInBounds_toArray, List.set_cons_zero, List.set_cons_succ]
              refine wpAnyH_take (i := 7) (v := ?v7) rfl (by kernel_rfl) (by kernel_rfl) (by kernel_rfl) (fun _ _ _ h => h) (Or.inl ⟨by kernel_rfl, ?y7⟩) (by assumption) ?_
              case y7 => (intro w hSw; (try dsimp only at hSw); go_simp; all_goals with_reducible rfl)
              try simp only [Act.put, List.getElem_toArray, List.getElem_cons_succ, List.getElem_cons_zero, List.setIfInBounds_toArray, List.set_cons_zero, List.set_cons_succ]
              refine wpAnyH_take (i := 8) (v := (.int .i64 (u))) rfl (by kernel_rfl) (by kernel_rfl) (by kernel_rfl) (fun _ _ _ h => h) (Or.inl ⟨by kernel_rfl, fun w hSw => by first | (go_simp; done) | (go_simp; with_reducible rfl) | (go_simp; omega)⟩) (by assumption) ?_
              try simp only [Act.put, List.getElem_toArray, List.getElem_cons_succ, List.getElem_cons_zero, List.setIfInBounds_toArray, List.set_cons_zero, List.set_cons_succ]
              refine wpAnyH_take (i := 9) (v := ?v8) rfl (by kernel_rfl) (by kernel_rfl) (by kernel_rfl) (fun _ _ _ h => h) (Or.inl ⟨by kernel_rfl, ?y8⟩) (by assumption) ?_
              case y8 => (intro w hSw; (try dsimp only at hSw); go_simp; all_goals with_reducible rfl)
              try simp only [Act.put, List.getElem_toArray, List.getElem_cons_succ, List.getElem_cons_zero, List.setIfInBounds_toArray, List.set_cons_zero, List.set_cons_succ]
              refine wpAnyH_ready (rs := [10]) (by kernel_rfl) (by simp) (AllReadyH.cons rfl (fun K hK => ?_) AllReadyH.nil)
              go_simp
              refine hK.out _ _ ?_ (fun hHeld => ?_)
              · (try dsimp only); (first | (go_split_ands; exact ⟨kc f (by assumption), kc f (by assumption), kc f (by assumption), by assumption⟩) | (go_split_ands; exact ⟨(by assumption), (by assumption), (by assumption), by assumption⟩) | (go_split_ands; exact ⟨kc (fr1 _ _) (by assumption), kc (fr1 _ _) (by assumption), kc (fr1 _ _) (by assumption), kfa (by assumption)⟩))
              clear hK K
              try simp only [Act.put, List.getElem_toArray, List.getElem_cons_succ, List.getElem_cons_zero, List.setIfInBounds_toArray, List.set_cons_zero, List.set_cons_succ]
              have FW := hid (FW.out.alloc (bs_ X (u)))
              have OX := hid (SqB.Out.fr OX.out (fr1 _ (bs_ X (u))))
              have P8 := hid (bs_alloc P8.out (bs_ X (u)))
              have P8x := P8
              have P2 := hid (show BL _ _ _ _ _ _ _ _ _ _ from Blk.alloc P2.out (bs_ X (u)))
              refine wpAnyH_ready (rs := [11]) (by kernel_rfl) (by simp) (AllReadyH.cons rfl (fun K hK => ?_) AllReadyH.nil)
              refine app_sp_step2 (by rfl) (.tmp 35) (.tmp 45) (by rfl) w3.heap.size _ (rns a (a + m) d u q2) (by first | rfl | (dsimp only; rw [HL.out])) OX.out _ 1 _ [(X, u)] (by rfl) (SqB.lit_rd2 _ _ _ _ (by simp)) (by rw [HL.out]; omega) (by have := FW.out.size; simp at this ⊢; omega) ?_
              intro A9 c9 w9 o9 f9 n9
              have FW := hid (SqB.fr_own FW.out OX.out (Nat.le_refl _) f9)
              have P8 := kg P8 HNE.out f9
              have HNE := hid (show ∀ z, (Value.slice A9 _ c9).ownBlock = some z → z ≠ g8 from fun z hz => by rcases n9 z hz with h | h; (exact HNE.out z h); (intro e; rw [e] at h; exact absurd h (Nat.not_le.2 (Blk.lt P8x.out))))
              have P2 := hid (show BL _ _ _ _ _ _ _ _ _ _ from Blk.fr P2.out f9 (fun he => by have := (OX.out.ge _ he).1; omega))
              have c80 := (BS.cells P8.out).1
              have c81 := (BS.cells P8.out).2
              obtain ⟨_, _, _, _, _, _, _, d7⟩ := P2.out.cells
              have O9 := hid o9
              clear o9 f9 n9
              refine hK.out _ _ ?_ (fun hHeld => ?_)
              · (try dsimp only); (first | (go_split_ands; exact ⟨kc f (by assumption), kc f (by assumption), kc f (by assumption), by assumption⟩) | (go_split_ands; exact ⟨(by assumption), (by assumption), (by assumption), by assumption⟩) | (go_split_ands; exact ⟨kc (fr1 _ _) (by assumption), kc (fr1 _ _) (by assumption), kc (fr1 _ _) (by assumption), kfa (by assumption)⟩))
              clear hK K
              try simp only [Act.put, List.getElem_toArray, List.getElem_cons_succ, List.getElem_cons_zero, List.setIfInBounds_toArray, List.set_cons_zero, List.set_cons_succ]
              refine wpAnyH_take (i := 12) (v := ?v9) rfl (by kernel_rfl) (by kernel_rfl) (by kernel_rfl) (fun _ _ _ h => h) (Or.inl ⟨by kernel_rfl, ?y9⟩) (by assumption) ?_
              case y9 => (intro w hSw; (try dsimp only at hSw); go_simp; all_goals with_reducible rfl)
              try simp only [Act.put, List.getElem_toArray, List.getElem_cons_succ, List.getElem_cons_zero, List.setIfInBounds_toArray, List.set_cons_zero, List.set_cons_succ]
              refine wpAnyH_done (by kernel_rfl) ?_ _
              refine NoPanic.normal ?_
              have E9 := hid (show (rns a (a + m) d u q2).length + 1 = q2 + 1 by rw [HL.out])
              go_wp2
              go_roundw
              case rel => exact ⟨q2 + 1, A9, c9, X + u, by go_num, by rw [E9.out], by rw [HRS.out]; have := O9.out; rw [E9.out] at this; first | exact this | (rw [E9.out]; exact this), HOK2.out, by omega, by omega, by rw [HPS.out]; omega, FW.out, P8.out, by have := HNE.out; first | exact this | (rw [E9.out] at this; exact this)⟩
              case measure => simp [intOf]; omega
            · have hmn : min u (T - X) = T - X := by omega
              rw [hmn] at HRS HPS
              have hmx : T - X < u := by omega
              have hwx : IntKind.i64.wrap (T - X) = T - X := by rw [IntKind.wrap_i64]; omega
              clear hmn
              go_wp2_with fail
              have P8 := hid (show BS w5.drew g8 B (T - B) from P8.out)
              have P2 := hid (show BL w5.drew _ _ _ _ _ _ _ _ _ from P2.out)
              have OX := hid (show SqB.Out _ w5.drew _ _ from OX.out)
              have FW := kd FW
              refine wp_region_noPanic ?_
              refine wp_region_held_drew (S := (fun W' => W'.cell? ⟨w2.heap.size, 7, none⟩ = some (.int .i64 u) ∧ W'.cell? ⟨g8, 0, none⟩ = some (.int .i64 B) ∧ W'.cell? ⟨g8, 1, none⟩ = some (.int .i64 (T - B)) ∧ Hid (Fr No w3 W'))) (by kernel_rfl) ?_ (fun hHeld => ?_)
              · (try dsimp only); (first | (go_split_ands; exact ⟨kc f (by assumption), kc f (by assumption), kc f (by assumption), by assumption⟩) | (go_split_ands; exact ⟨(by assumption), (by assumption), (by assumption), by assumption⟩) | (go_split_ands; exact ⟨kc (fr1 _ _) (by assumption), kc (fr1 _ _) (by assumption), kc (fr1 _ _) (by assumption), kfa (by assumption)⟩))
              refine wpAnyH_take (i := 0) (v := ?v10) rfl (by kernel_rfl) (by kernel_rfl) (by kernel_rfl) (fun _ _ _ h => h) (Or.inl ⟨by kernel_rfl, ?y10⟩) (by assumption) ?_
              case y10 => (intro w hSw; (try dsimp only at hSw); go_simp; all_goals with_reducible rfl)
              try simp only [Act.put, List.getElem_toArray, List.getElem_cons_zero, List.setIfInBounds_toArray, List.set_cons_zero, List.set_cons_succ]
              refine wpAnyH_take (i := 1) (v := ?v11) rfl (by kernel_rfl) (by kernel_rfl) (by kernel_rfl) (fun _ _ _ h => h) (Or.inl ⟨by kernel_rfl, ?y11⟩) (by assumption) ?_
              case y11 => (intro w hSw; (try dsimp only at hSw); go_simp; all_goals with_reducible rfl)
              try simp only [Act.put, List.getElem_toArray, List.getElem_cons_succ, List.getElem_cons_zero, List.setIfInBounds_toArray, List.set_cons_zero, List.set_cons_succ]
              refine wpAnyH_take (i := 2) (v := ?v12) rfl (by kernel_rfl) (by kernel_rfl) (by kernel_rfl) (fun _ _ _ h => h) (Or.inl ⟨by kernel_rfl, ?y12⟩) (by assumption) ?_
              case y12 => (intro w hSw; (try dsimp only at hSw); go_simp; all_goals with_reducible rfl)
              try simp only [Act.put, List.getElem_toArray, List.getElem_cons_succ, List.getElem_cons_zero, List.setIfInBounds_toArray, List.set_cons_zero, List.set_cons_succ]
              refine wpAnyH_take (i := 3) (v := ?v13) rfl (by kernel_rfl) (by kernel_rfl) (by kernel_rfl) (fun _ _ _ h => h) (Or.inl ⟨by kernel_rfl, ?y13⟩) (by assumption) ?_
              case y13 => (intro w hSw; (try dsimp only at hSw); go_simp; all_goals with_reducible rfl)
              try simp only [Act.put, List.getElem_toArray, List.getElem_cons_succ, List.getElem_cons_zero, List.setIfInBounds_toArray, List.set_cons_zero, List.set_cons_succ]
              refine wpAnyH_take (i := 4) (v := ?v14) rfl (by kernel_rfl) (by kernel_rfl) (by kernel_rfl) (fun _ _ _ h => h) (Or.inl ⟨by kernel_rfl, ?y14⟩) (by assumption) ?_
              case y14 => (intro w hSw; (try dsimp only at hSw); go_simp; all_goals with_reducible rfl)
              try simp only [Act.put, List.getElem_toArray, List.getElem_cons_succ, List.getElem_cons_zero, List.setIfInBounds_toArray, List.set_cons_zero, List.set_cons_succ]
              refine wpAnyH_take (i := 6) (v := ?v15) rfl (by kernel_rfl) (by kernel_rfl) (by kernel_rfl) (fun _ _ _ h => h) (Or.inl ⟨by kernel_rfl, ?y15⟩) (by assumption) ?_
              case y15 => (intro w hSw; (try dsimp only at hSw); go_simp; all_goals with_reducible rfl)
              try simp only [Act.put, List.getElem_toArray, List.getElem_cons_succ, List.getElem_cons_zero, List.setIfInBounds_toArray, List.set_cons_zero, List.set_cons_succ]
              refine wpAnyH_ready (rs := [5]) (by kernel_rfl) (by simp) (AllReadyH.cons rfl (fun K hK => ?_) AllReadyH.nil)
              go_simp
              go_at_call 19
              refine (SqB.end_may B (T - B) _ HPM.out).mono ?_
              rintro e W1 ⟨rfl, f⟩
              have FW := kf f hHeld.2.2.2
              have P8 := hid (P8.out.fr f)
              have P2 := hid (P2.out.fr f)
              have OX := SqB.ko f OX
              rw [hBT]
              dsimp only
              refine hK.out _ _ ?_ (fun hHeld => ?_)
              · (try dsimp only); (first | (go_split_ands; exact ⟨kc f (by assumption), kc f (by assumption), kc f (by assumption), by assumption⟩) | (go_split_ands; exact ⟨(by assumption), (by assumption), (by assumption), by assumption⟩) | (go_split_ands; exact ⟨kc (fr1 _ _) (by assumption), kc (fr1 _ _) (by assumption), kc (fr1 _ _) (by assumption), kfa (by assumption)⟩))
              clear hK K
              try simp only [Act.put, List.getElem_toArray, List.getElem_cons_succ, List.getElem_cons_zero, List.setIfInBounds_toArray, List.set_cons_zero, List.set_cons_succ]
              refine wpAnyH_take (i := 7) (v := ?v16) rfl (by kernel_rfl) (by kernel_rfl) (by kernel_rfl) (fun _ _ _ h => h) (Or.inl ⟨by kernel_rfl, ?y16⟩) (by assumption) ?_
              case y16 => (intro w hSw; (try dsimp only at hSw); go_simp; all_goals with_reducible rfl)
              try simp only [Act.put, List.getElem_toArray, List.getElem_cons_succ, List.getElem_cons_zero, List.setIfInBounds_toArray, List.set_cons_zero, List.set_cons_succ]
              refine wpAnyH_take (i := 8) (v := (.int .i64 (T - X))) rfl (by kernel_rfl) (by kernel_rfl) (by kernel_rfl) (fun _ _ _ h => h) (Or.inl ⟨by kernel_rfl, fun w hSw => by first | (go_simp; done) | (go_simp; with_reducible rfl) | (go_simp; omega)⟩) (by assumption) ?_
              try simp only [Act.put, List.getElem_toArray, List.getElem_cons_succ, List.getElem_cons_zero, List.setIfInBounds_toArray, List.set_cons_zero, List.set_cons_succ]
              refine wpAnyH_take (i := 9) (v := ?v17) rfl (by kernel_rfl) (by kernel_rfl) (by kernel_rfl) (fun _ _ _ h => h) (Or.inl ⟨by kernel_rfl, ?y17⟩) (by assumption) ?_
              case y17 => (intro w hSw; (try dsimp only at hSw); go_simp; all_goals with_reducible rfl)
              try simp only [Act.put, List.getElem_toArray, List.getElem_cons_succ, List.getElem_cons_zero, List.setIfInBounds_toArray, List.set_cons_zero, List.set_cons_succ]
              refine wpAnyH_ready (rs := [10]) (by kernel_rfl) (by simp) (AllReadyH.cons rfl (fun K hK => ?_) AllReadyH.nil)
              go_simp
              refine hK.out _ _ ?_ (fun hHeld => ?_)
              · (try dsimp only); (first | (go_split_ands; exact ⟨kc f (by assumption), kc f (by assumption), kc f (by assumption), by assumption⟩) | (go_split_ands; exact ⟨(by assumption), (by assumption), (by assumption), by assumption⟩) | (go_split_ands; exact ⟨kc (fr1 _ _) (by assumption), kc (fr1 _ _) (by assumption), kc (fr1 _ _) (by assumption), kfa (by assumption)⟩))
              clear hK K
              try simp only [Act.put, List.getElem_toArray, List.getElem_cons_succ, List.getElem_cons_zero, List.setIfInBounds_toArray, List.set_cons_zero, List.set_cons_succ]
              have FW := hid (FW.out.alloc (bs_ X (T - X)))
              have OX := hid (SqB.Out.fr OX.out (fr1 _ (bs_ X (T - X))))
              have P8 := hid (bs_alloc P8.out (bs_ X (T - X)))
              have P8x := P8
              have P2 := hid (show BL _ _ _ _ _ _ _ _ _ _ from Blk.alloc P2.out (bs_ X (T - X)))
              refine wpAnyH_ready (rs := [11]) (by kernel_rfl) (by simp) (AllReadyH.cons rfl (fun K hK => ?_) AllReadyH.nil)
              refine app_sp_step2 (by rfl) (.tmp 35) (.tmp 45) (by rfl) w3.heap.size _ (rns a (a + m) d u q2) (by first | rfl | (dsimp only; rw [HL.out])) OX.out _ 1 _ [(X, T - X)] (by rfl) (SqB.lit_rd2 _ _ _ _ (by simp)) (by rw [HL.out]; omega) (by have := FW.out.size; simp at this ⊢; omega) ?_
              intro A9 c9 w9 o9 f9 n9
              have FW := hid (SqB.fr_own FW.out OX.out (Nat.le_refl _) f9)
              have P8 := kg P8 HNE.out f9
              have HNE := hid (show ∀ z, (Value.slice A9 _ c9).ownBlock = some z → z ≠ g8 from fun z hz => by rcases n9 z hz with h | h; (exact HNE.out z h); (intro e; rw [e] at h; exact absurd h (Nat.not_le.2 (Blk.lt P8x.out))))
              have P2 := hid (show BL _ _ _ _ _ _ _ _ _ _ from Blk.fr P2.out f9 (fun he => by have := (OX.out.ge _ he).1; omega))
              have c80 := (BS.cells P8.out).1
              have c81 := (BS.cells P8.out).2
              obtain ⟨_, _, _, _, _, _, _, d7⟩ := P2.out.cells
              have O9 := hid o9
              clear o9 f9 n9
              refine hK.out _ _ ?_ (fun hHeld => ?_)
              · (try dsimp only); (first | (go_split_ands; exact ⟨kc f (by assumption), kc f (by assumption), kc f (by assumption), by assumption⟩) | (go_split_ands; exact ⟨(by assumption), (by assumption), (by assumption), by assumption⟩) | (go_split_ands; exact ⟨kc (fr1 _ _) (by assumption), kc (fr1 _ _) (by assumption), kc (fr1 _ _) (by assumption), kfa (by assumption)⟩))
              clear hK K
              try simp only [Act.put, List.getElem_toArray, List.getElem_cons_succ, List.getElem_cons_zero, List.setIfInBounds_toArray, List.set_cons_zero, List.set_cons_succ]
              refine wpAnyH_take (i := 12) (v := ?v18) rfl (by kernel_rfl) (by kernel_rfl) (by kernel_rfl) (fun _ _ _ h => h) (Or.inl ⟨by kernel_rfl, ?y18⟩) (by assumption) ?_
              case y18 => (intro w hSw; (try dsimp only at hSw); go_simp; all_goals with_reducible rfl)
              try simp only [Act.put, List.getElem_toArray, List.getElem_cons_succ, List.getElem_cons_zero, List.setIfInBounds_toArray, List.set_cons_zero, List.set_cons_succ]
              refine wpAnyH_done (by kernel_rfl) ?_ _
              refine NoPanic.normal ?_
              have E9 := hid (show (rns a (a + m) d u q2).length + 1 = q2 + 1 by rw [HL.out])
              go_wp2
              go_roundw
              case rel => exact ⟨q2 + 1, A9, c9, X + u, by go_num, by rw [E9.out], by rw [HRS.out]; have := O9.out; rw [E9.out] at this; first | exact this | (rw [E9.out]; exact this), HOK2.out, by omega, by omega, by rw [HPS.out]; omega, FW.out, P8.out, by have := HNE.out; first | exact this | (rw [E9.out] at this; exact this)⟩
              case measure => simp [intOf]; omega
          · have HP2 := hid (show pos a (a + m) d u q2 = bgn a m d FF K (j + 1) by rw [HP.out, HNX.out]; omega)
            go_wp2
            go_roundw
            case rel => exact ⟨j + 1, q2, _, _, by have := HJ.out; omega, by go_num, rfl, OX.out, HOK.out, HP2.out, FW.out⟩
            case measure => have := HJ.out; simp [intOf]; omega
      · obtain rfl : j = K + 1 := by omega
        have HO := hid ho
        have FW := hid (HF.out.trans hf)
        have hk := hok.low (by omega) (by omega)
        have he : bgn a m d FF K (K + 1) = a + m := by unfold bgn; rw [if_pos rfl]
        rw [he] at hpos
        have HU := hid (show RunsOf ⟨c, s, n, l, k⟩ a m (rns a (a + m) d u q) from .inr ⟨HR.out, q, by rw [HY.out]; exact hok, by rw [HY.out]; dsimp only; rw [hpos]; omega, by rw [HY.out], by omega⟩)
        clear ho hf hok hpos hlt hj hk he
        go_wp2
        go_ret
        have hL := rns_len a (a + m) d u q
        exact ⟨_, HU.out, _, _, _, rfl, by have := HO.out; unfold SqB.Out at this; exact SqB.Out.rd (show SqB.Out _ _ _ _ from HO.out), FW.out⟩
  · have HR := hid (show RunsOf ⟨c, s, n, l, k⟩ a m [] from .inl ⟨hc, rfl⟩)
    obtain ⟨x, hx⟩ : ∃ x, cko ⟨c, s, n, l, k⟩ a m = x := ⟨_, rfl⟩
    rw [hx] at hc HC
    have hb : (x != 0) = true := by simpa using hc
    clear hc hx
    go_enter Try.func13, Try.ntmps13
    go_wp2_with ((with_reducible refine ld_geom rfl (.tmp 2) rfl w.heap.size ?_ P0.out ?_); · rfl)
    refine (HC.out _).mono ?_
    rintro e w1 ⟨rfl, f1⟩
    have HF := kf f1 HF
    clear f1 HC p0 p1 P0 P1
    go_wp2
    go_ret
    exact ⟨[], HR.out, _, _, _, rfl, RdS.nil _ _, HF.out⟩
end Go.Proofs.Ytkjebdojcnpjlaa.GeH
