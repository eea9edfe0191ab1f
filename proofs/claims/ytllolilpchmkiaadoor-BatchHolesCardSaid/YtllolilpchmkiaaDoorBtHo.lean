/- Contract: spans as batches of nothing, by the document. Conditions: the slice reads as spans that may be, of no more than 200000 sectors, a hundred at most; the first number is within its bounds. -/
import Derived.Test.YtllolilpchmkiaaDoorBtHm
import Derived.Test.YtllolilpchmkiaaDoorBtZ
namespace Go.Proofs.YtllolilpchmkiaaDoor.BtHo
open Go.RowKit MSep MSepC MSpM Kit BtA SpO BtQ BtR BtS BtHm BtZ
open SpA (wf w64)

theorem rmeet_ok (a n b m x y : Int) (w : World) (ha : may (a, n)) (hb : may (b, m)) (hm : meet (a, n) (b, m) = (x, y)) : Calls Tryd.prog 34 #[.agg #[.int .i64 a, .int .i64 n], .agg #[.int .i64 b, .int .i64 m]] w fun e w' => e = .returned (.agg #[.int .i64 x, .int .i64 y]) ∧ Fr No w w' := by
  have h := SpB.rMeet_ok a n b m w ha hb
  rw [← SpB.meet_yes ha hb, hm] at h
  exact h
/-- May a piece still go to the last group? -/
def able (st : GS) : Bool := decide (¬ st.2 = []) && decide (¬ st.2.length = 8)
def FI (st : GS) (p : Sp) (j : Nat) (b : Bool) : Prop := (b = true ∧ able st = true ∧ j ≤ st.2.length ∧ ∀ t ∈ st.2.take j, ¬ 0 < (meet p t).2) ∨ (b = false ∧ (able st = false ∨ hitB p st.2 = true))
theorem FI.zero (st : GS) (p : Sp) : FI st p 0 (able st) := by
  cases h : able st with
  | true => exact Or.inl ⟨rfl, h, Nat.zero_le _, fun t ht => by simp at ht⟩
  | false => exact Or.inr ⟨rfl, Or.inl h⟩
theorem FI.step {st : GS} {p t : Sp} {j : Nat} (h : FI st p j true) (ht : st.2[j]? = some t) {b : Bool} (hb : b = true ↔ ¬ 0 < (meet p t).2) : FI st p (j + 1) b := by
  rcases h with ⟨_, h1, h2, h3⟩ | ⟨h1, _⟩
  · have hj := (List.getElem?_eq_some_iff.1 ht).1
    cases b with
    | true =>
      refine Or.inl ⟨rfl, h1, hj, fun q hq => ?_⟩
      rw [BtA.take_snoc ht, List.mem_append] at hq
      rcases hq with hq | hq
      · exact h3 q hq
      · rw [List.mem_singleton] at hq
        subst hq
        exact hb.1 rfl
    | false =>
      refine Or.inr ⟨rfl, Or.inr ((hitB_iff p st.2).2 ⟨t, List.mem_of_getElem? ht, ?_⟩)⟩
      by_cases hc : 0 < (meet p t).2
      · exact hc
      · exact absurd (hb.2 hc) (by decide)
  · cases h1
theorem able_iff (st : GS) : able st = true ↔ ¬ st.2 = [] ∧ ¬ st.2.length = 8 := by
  unfold able
  simp
/-- Behind the loop. -/
theorem FI.yes {st : GS} {p : Sp} (h : FI st p st.2.length true) : (¬ st.2 = [] ∧ ¬ st.2.length = 8) ∧ hitB p st.2 = false := by
  rcases h with ⟨_, h1, _, h3⟩ | ⟨h1, _⟩
  · refine ⟨(able_iff st).1 h1, ?_⟩
    cases hb : hitB p st.2 with
    | false => rfl
    | true =>
      obtain ⟨t, ht, hp⟩ := (hitB_iff p st.2).1 hb
      exact absurd hp (h3 t (by rw [List.take_length]; exact ht))
  · cases h1
theorem FI.no {st : GS} {p : Sp} {j : Nat} (h : FI st p j false) : st.2 = [] ∨ st.2.length = 8 ∨ hitB p st.2 = true := by
  rcases h with ⟨h1, _⟩ | ⟨_, h1 | h1⟩
  · cases h1
  · by_cases e1 : st.2 = []
    · exact Or.inl e1
    · by_cases e2 : st.2.length = 8
      · exact Or.inr (Or.inl e2)
      · exact absurd ((able_iff st).2 ⟨e1, e2⟩) (by rw [h1]; decide)
  · exact Or.inr (Or.inr h1)
theorem kcB {B : Nat} {b c : World} {p : Addr} {v : Value} (k : Fr (fun q => B ≤ q) b c) (hp : p.block < B) (h : b.cell? p = some v) : c.cell? p = some v := k.cell_some h (Nat.not_le.2 hp)
theorem kfB {S : Nat → Prop} {a b c : World} (k : Fr (fun q => a.heap.size ≤ q) b c) (h : Hid (Fr S a b)) : Hid (Fr S a c) := hid (h.out.step k (fun _ hi e => absurd hi (Nat.not_lt.2 e)))
theorem kdS {S : Nat → Prop} {a b : World} (h : Hid (Fr S a b)) : Hid (Fr S a b.drew) := hid h.out.drew
theorem fr1dd (w : World) (o : Obj) : Fr No w.drew (w.alloc o).drew := ⟨(fr1 w o).os, (fr1 w o).tape, (fr1 w o).output, (fr1 w o).size, (fr1 w o).block⟩
theorem frB {B : Nat} {w w' : World} (f : Fr No w w') : Fr (fun q => B ≤ q) w w' := f.mono (fun _ _ h => h.elim)
theorem frO {B : Nat} {w w' : World} {v : Value} {l : List Sp} (o : Out B w v l) (f : Fr (fun q => v.ownBlock = some q) w w') : Fr (fun q => B ≤ q) w w' := f.mono (fun k _ h => (o.ge k h).1)
theorem own0 {B : Nat} (w : World) (h : B ≤ w.heap.size) : Out B (w.alloc (.cells #[] 57)) (.slice (some ⟨w.heap.size, 0, none⟩) 0 0) [] :=
  ⟨rfl, .inr ⟨w.heap.size, 0, #[], rfl, h, Blk.new _ _ _, Nat.le_refl _, by simp [maxLen], rfl, rfl⟩⟩
theorem rdS_lo2 {S : Nat → Prop} {w w' : World} {A : Option Addr} {n : Nat} {l : List Sp} (h : RdS w A n l) (hf : Fr S w w') (hS : ∀ g o, A = some ⟨g, o, none⟩ → ¬ S g) : RdS w' A n l := ⟨h.1, h.2.fr hf hS⟩
theorem own_lt {B : Nat} {w : World} {e : TypeId} {n m : Nat} {v : Value} {xs : List Value} (h : w.ownsRow B e n v m xs) (k : Nat) (hk : v.ownBlock = some k) : k < w.heap.size := (own_at h k hk).1.2
theorem app_st {w : World} {ops : Array Oper} {o : Oper} {a : Act} {K : Act → World → Prop} {Q : Exit → Act → World → Prop} {E : Prop} (hgd : o.guard = none) (s x : Operand)
    (ho : o.op = .call { callee := .builtin .append, args := #[s, x], argTypes := #[24, 24] })
    (B : Nat) (v : Value) (l : List Sp) (hs : a.eval s = v) (hown : Out B w v l)
    (A : Option Addr) (m c : Nat) (news : List Sp) (hx : a.eval x = .slice A m c) (hr : RdS w A m news)
    (hlim : l.length + m ≤ 4000000000000) (hbase : B ≤ w.heap.size)
    (h : ∀ A' c' w', Out B w' (.slice A' (l.length + m) c') (l ++ news) → Fr (fun q => v.ownBlock = some q) w w' → K (a.put o.dst (.slice A' (l.length + m) c')) w') :
    if Region.wanted o (yielded ops a.tmps) = true then Oper.wp Tryd.prog o a w K Q else E := by
  obtain ⟨i0, z0, hi, hz0, hz1, hz2, hz3⟩ := info23
  refine step_appk 2 (by omega) hgd s x 24 ho B 57 i0 z0 16 Tryd.underlying24 hi hz0 hz1 hz2 hz3 v l.length (cs2 l) hs hown A m c (cs2 news) hx hr.2 cs2_one (by simp only [maxLen]; omega) (by omega) hbase ?_
  intro A' c' w' o1 f1 _
  refine h A' c' w' ?_ f1
  have e : (l ++ news).length = l.length + m := by rw [List.length_append, hr.1]
  unfold Out
  rw [cs2_append, e]
  exact o1
/-- The k-th batch of a row whose block is known. -/
theorem row_at {B : Nat} {w : World} {g n c : Nat} {seq : Int} {vs : List SV} (h : RowB B w (.slice (some ⟨g, 0, none⟩) n c) seq vs) {k : Nat} {u : SV} (hk : vs[k]? = some u) :
    w.cell? ⟨g, k * 3 + 2, none⟩ = some u.v ∧ w.frozen? ⟨g, k * 3 + 2, none⟩ = false ∧
      ∀ v : SV, RowB B (w.setCell ⟨g, k * 3 + 2, none⟩ v.v) (.slice (some ⟨g, 0, none⟩) n c) seq (vs.set k v) ∧ Fr (fun q => q = g) w (w.setCell ⟨g, k * 3 + 2, none⟩ v.v) := by
  obtain ⟨g', hg, _, _, _, _, h1, h2, h3⟩ := RowB.at_ h hk
  injection hg with hg
  injection hg with hg
  subst hg
  exact ⟨h1, h2, fun v => ⟨(h3 v).1, Fr.set1 w g _ _⟩⟩
theorem kcs {b c : World} {p : Addr} {v : Value} {g : Nat} (k : Fr (fun q => q = g) b c) (hn : p.block ≠ g) (h : b.cell? p = some v) : c.cell? p = some v := k.cell_some h hn
theorem kfT {S : Nat → Prop} {a b c : World} (k : Fr S b c) (h : Hid (Fr S a b)) : Hid (Fr S a c) := hid (h.out.trans k)
theorem kfS {S : Nat → Prop} {a b c : World} (k : Fr No b c) (h : Hid (Fr S a b)) : Hid (Fr S a c) := hid (h.out.step k (fun _ _ h => h.elim))
theorem out_cell {B : Nat} {w : World} {g o n c k : Nat} {P : List Sp} {s : Sp} (h : Out B w (.slice (some ⟨g, o, none⟩) n c) P) (hk : P[k]? = some s) (hn : 0 < n) : w.cell? ⟨g, o + k * 2, none⟩ = some (.int .i64 s.1) ∧ w.cell? ⟨g, o + k * 2 + 1, none⟩ = some (.int .i64 s.2) := by
  obtain ⟨g', o', hA, _, hc⟩ := (Out.rd h).at_ hn
  injection hA with hA
  injection hA with h1 h2
  subst h1 h2
  exact hc k s hk
theorem HR.last {B : Nat} {w : World} {st : GS} {va : Value} {seq : Int} {vs : List SV} (h : HR B w (gclose st) va seq vs) (hne : ¬ st.2 = []) : vs.length = st.1.length + 1 ∧ ∃ u, vs[st.1.length]? = some u ∧ Out B w u.v st.2 ∧ u.n = st.2.length := by
  rw [gclose_open hne] at h
  have hl := h.len
  rw [List.length_append, List.length_singleton] at hl
  obtain ⟨u, hu⟩ : ∃ u, vs[st.1.length]? = some u := ⟨_, List.getElem?_eq_getElem (by omega)⟩
  obtain ⟨h1, h2⟩ := h.cl _ u st.2 hu (by rw [List.getElem?_append_right (Nat.le_refl _), Nat.sub_self]; rfl)
  exact ⟨hl, u, hu, h1, h2⟩
theorem HR.size {B : Nat} {w : World} {gs : List (List Sp)} {va : Value} {seq : Int} {vs : List SV} (h : HR B w gs va seq vs) (k : Nat) (hk : va.ownBlock = some k) : B ≤ k ∧ k < w.heap.size := (own_at h.row k hk).1
/-- The last batch of a row. -/
theorem lead_ok {B : Nat} {w : World} {gs0 : List (List Sp)} {g0 : List Sp} {A : Option Addr} {m2 c2 : Nat} {seq : Int} {vs2 : List SV} (h : HR B w (gs0 ++ [g0]) (.slice A m2 c2) seq vs2) :
    ∃ (gO : Nat) (u : SV), A = some ⟨gO, 0, none⟩ ∧ vs2[gs0.length]? = some u ∧ vs2.length = gs0.length + 1 ∧ u.n = g0.length ∧ B ≤ gO ∧ RdS w u.A u.n g0 ∧ ∀ g o, u.A = some ⟨g, o, none⟩ → ¬ g = gO := by
  have hl : vs2.length = gs0.length + 1 := by rw [h.len]; simp
  obtain ⟨u, hu⟩ : ∃ u, vs2[gs0.length]? = some u := ⟨_, List.getElem?_eq_getElem (by omega)⟩
  obtain ⟨h1, h2⟩ := h.cl _ u g0 hu (by simp)
  obtain ⟨gO, hA, hb, _⟩ := RowB.at_ h.row hu
  have hr : RdS w u.A u.n g0 := by
    have := Out.rd (show Out B w (.slice u.A g0.length u.c) g0 by rw [← h2]; exact h1)
    rw [h2]
    exact this
  refine ⟨gO, u, hA, hu, hl, h2, hb, hr, fun g o hg e => ?_⟩
  subst hA
  exact own_apart h.row h1 ne_b gO rfl (by rw [SV.v, hg, e]; rfl)
/-- The outer loop. -/
def LH (w : World) (seq : Int) (P : List Sp) (Al : Option Addr) (cl : Nat) (v i : Value) (wr : World) : Prop := ∃ (k : Nat) (vs : List SV) (A : Option Addr) (c : Nat), k ≤ P.length ∧ i = .int .i64 k ∧ v = .slice A vs.length c ∧ HR w.heap.size wr (gclose (gfold ([], []) (P.take k))) v seq vs ∧ Out w.heap.size wr (.slice Al P.length cl) P ∧ Fr No w wr
def LJ (wq : World) (st : GS) (p : Sp) (f jv : Value) (w2 : World) : Prop := ∃ (j : Nat) (b : Bool), f = .bool b ∧ jv = .int .i64 j ∧ FI st p j b ∧ Fr No wq w2
/-- Ahead of the last batch's new spans. -/
def CR (w : World) (seq : Int) (P : List Sp) (p : Sp) (gsN : List (List Sp)) (Al : Option Addr) (cl : Nat) (v kv : Value) (wx : World) : Prop := ∃ (gs0 : List (List Sp)) (g0 : List Sp) (vs : List SV) (A : Option Addr) (c : Nat), kv = .int .i64 gs0.length ∧ v = .slice A (gs0.length + 1) c ∧ HR w.heap.size wx (gs0 ++ [g0]) v seq vs ∧ g0.length ≤ 8 ∧ gsN = gs0 ++ [g0 ++ [p]] ∧ Out w.heap.size wx (.slice Al P.length cl) P ∧ Fr No w wx
set_option maxRecDepth 100000 in
set_option maxHeartbeats 8000000 in
theorem rholes_ok (seq : Int) (A : Option Addr) (l c : Nat) (xs : List Sp) (w : World) (hl : l ≤ 100) (hx : RdS w A l xs) (ho : ∀ s ∈ xs, Okp s) (hq : 1 ≤ seq ∧ seq ≤ 1099511627776) :
    Calls Tryd.prog 22 #[.int .i64 seq, .slice A l c] w fun E w' => ∃ A' c' vs, E = .returned (.slice A' (gps xs).length c') ∧ HR w.heap.size w' (gps xs) (.slice A' (gps xs).length c') seq vs ∧ Fr No w w' := by
  have HC := hid (fun W (f : Fr No w W) => rcut_ok A l c xs W hl (hx.fr f) ho)
  have HXL := hid hx.1
  have HL := hid hl
  have HPW := hid (pcs_wf ho)
  have HPL := hid (show (pcs xs).length ≤ 5100 from by
    have h1 := BtQ.pcs_len ho
    have h2 := hx.1
    omega)
  have HG := hid (show gps xs = gclose (gfold ([], []) (pcs xs)) from rfl)
  have HQ := hid hq
  clear hx ho hl hq
  obtain ⟨P, hP⟩ : ∃ P, pcs xs = P := ⟨_, rfl⟩
  rw [hP] at HPW HPL HG
  obtain ⟨GP, hGP⟩ : ∃ q, gps xs = q := ⟨_, rfl⟩
  rw [hGP] at HG ⊢
  clear hGP
  have HP := hid hP
  clear hP
  have hfd : ∀ (A D : Int) (w : World), (Instr.field 57 (.agg #[.int .i64 A, .int .i64 D]) 1).run Tryd.prog w = .ok (.int .i64 D) w := fun _ _ _ => by kernel_rfl
  go_enter Tryd.func22, Tryd.ntmps22
  go_upto_region 2 with (go_at_call 52; go_loud (refine (HC.out _ (Fr.refl _ _)).mono ?_; rintro e w1 ⟨Al, cl, rfl, hol, f1⟩))
  rw [HP.out] at hol ⊢
  obtain ⟨N, hN⟩ : ∃ N, P.length = N := ⟨_, rfl⟩
  have HN := hid hN
  have HOL := hid hol
  have HF1 := hid f1
  clear hol f1 HC hN
  try simp only [HN.out]
  go_wp2
  go_loopw [6, 7] (fun v i wr => LH w seq P Al cl v i wr) (fun _ i _ => N - (intOf i).toNat)
  case atStart => exact ⟨0, [], none, 0, Nat.zero_le _, rfl, rfl, HR.nil _ _ _, HOL.out, HF1.out⟩
  case round =>
    clear HOL HF1
    obtain ⟨k, vs, AV, cV, hk, rfl, rfl, hrow, hol, hf⟩ := hrel
    rw [HN.out] at hk
    obtain ⟨m, hm⟩ : ∃ m, vs.length = m := ⟨_, rfl⟩
    have HM := hid hm
    rw [hm] at hrow
    try rw [hm]
    have HRW := hid hrow
    have HOL := hid hol
    have HF := hid hf
    clear hrow hol hf hm
    by_cases hlt : k < N
    · obtain ⟨⟨p0, p1⟩, hpk⟩ : ∃ x, P[k]? = some x := ⟨_, List.getElem?_eq_getElem (by rw [HN.out]; exact hlt)⟩
      have HPK := hid hpk
      have hwp := HPW.out _ (List.mem_of_getElem? hpk)
      have HMP := hid (show may (p0, p1) from by unfold may; dsimp only at hwp ⊢; omega)
      have HNX := hid (show gfold ([], []) (P.take (k + 1)) = gstep (gfold ([], []) (P.take k)) (p0, p1) by rw [BtA.take_snoc hpk, gfold_snoc])
      obtain ⟨gL, oL, rfl, _, _⟩ := (Out.rd HOL.out).at_ (by rw [HN.out]; omega)
      have hlt3 : (k : Int) < N := by omega
      have h0k : (0 : Int) ≤ k := by omega
      have hw1 : wrap64 ((k : Int) + 1) = (k : Int) + 1 := w64 _ (by have := HPL.out; have := HN.out; omega)
      have HE0 := hid (show (gfold ([], []) (P.take k)).2 = [] → gfold ([], []) (P.take k) = ([], []) from fun h => by
        by_cases hk0 : k = 0
        · subst hk0; rfl
        · exact absurd h (gfold_last (by omega) (by rw [HN.out]; omega)))
      have HSI := hid (gfold_in (P := may) (P.take k) ([], []) (fun q hq => by
        have := HPW.out q (List.mem_of_mem_take hq)
        unfold may
        omega) (by simp) (by simp) (by simp))
      have HGCL := hid (gclose_len (P.take k))
      obtain ⟨st, hst⟩ : ∃ st, gfold ([], []) (P.take k) = st := ⟨_, rfl⟩
      rw [hst] at HRW HNX HE0 HSI HGCL
      have HM5 := hid (show m ≤ 5100 by
        have h1 := HGCL.out
        have h2 := HRW.out.len
        have h3 := HM.out
        have h4 := HPL.out
        rw [List.length_take] at h1
        omega)
      obtain ⟨kI, hkI⟩ : ∃ q : Int, (m : Int) - 1 = q := ⟨_, rfl⟩
      have hmw : wrap64 ((m : Int) - 1) = kI := by rw [← hkI]; exact w64 _ (by have := HM5.out; omega)
      have HKI := hid hkI
      have HFA := hid (hst)
      clear hst hwp hpk hkI
      go_upto_region 7 with fail
      go_cut [9] (fun v wx => v = .bool (able st) ∧ wr = wx)
      case first =>
        by_cases hne : st.2 = []
        · have hs0 := HE0.out hne
          have hm0 : m = 0 := by
            have h1 := HRW.out.len
            rw [hs0] at h1
            rw [← HM.out, h1]
            rfl
          have hge : decide ((0 : Int) ≤ kI) = false := decide_eq_false (by have := HKI.out; omega)
          have HAB := hid (show able st = false by unfold able; rw [decide_eq_false (fun h => h hne)]; rfl)
          clear hs0 hm0 hne
          go_wp2
          go_meet
          case rel => exact ⟨by rw [HAB.out], rfl⟩
        · obtain ⟨hvl, u, hu, hou, hun⟩ := HR.last HRW.out hne
          obtain ⟨uA, un, uc⟩ := u
          obtain ⟨gO, rfl, _, _, _, _, yc, _, _⟩ := RowB.at_ HRW.out.row hu
          obtain ⟨K, hK⟩ : ∃ K, st.1.length = K := ⟨_, rfl⟩
          rw [hK] at hvl yc hu
          obtain rfl : kI = (K : Int) := by have := HKI.out; have := HM.out; omega
          dsimp only [SV.v] at yc
          have hKm : (K : Int) < m := by have := HM.out; omega
          have h0K : (0 : Int) ≤ K := by omega
          have h8b : decide ((un : Int) < 8) = able st := by
            have h1 := HSI.out.2.2
            have h2 : un = st.2.length := hun
            unfold able
            rw [decide_eq_true hne, Bool.true_and]
            by_cases h8 : st.2.length = 8
            · rw [show decide (¬ st.2.length = 8) = false from decide_eq_false (fun h => h h8)]; exact decide_eq_false (by omega)
            · rw [show decide (¬ st.2.length = 8) = true from decide_eq_true h8]; exact decide_eq_true (by omega)
          clear hvl hou hun hu hK hne
          go_wp2
          go_meet
          case rel => exact ⟨by first | rfl | rw [h8b], rfl⟩
      case rest =>
        obtain ⟨rfl, rfl⟩ := hcut
        obtain ⟨n2, hn2⟩ : ∃ n, st.2.length = n := ⟨_, rfl⟩
        have HN2 := hid hn2
        clear hn2
        obtain ⟨wq, hwq⟩ : ∃ wq : World, wq = wr := ⟨_, rfl⟩
        subst hwq
        go_wp2
        try simp only [hmw]
        go_loopw [9, 10] (fun f jv w2 => LJ wq st (p0, p1) f jv w2) (fun _ jv _ => n2 - (intOf jv).toNat)
        case atStart => exact ⟨0, able st, rfl, rfl, FI.zero _ _, Fr.refl _ _⟩
        case round =>
          obtain ⟨j, b, rfl, rfl, hfi, hf⟩ := hrel
          obtain ⟨w5, hw5⟩ : ∃ w5 : World, w5 = wr := ⟨_, rfl⟩
          subst hw5
          have HW5 := hid (HRW.out.fr hf)
          have HO5 := hid (HOL.out.fr hf)
          have HF5 := hid (HF.out.trans hf)
          have HFI := hid hfi
          have HF2 := hid hf
          clear hfi hf
          cases b with
          | false =>
            have HGN := hid (gclose_new (HFI.out.no))
            have HB5 := hid (HW5.out.row)
            have hs1 : wrap64 (seq + kI) = seq + kI := w64 _ (by have := HQ.out; have := HM5.out; have := HKI.out; omega)
            have hs2 : wrap64 (seq + kI + 1) = seq + m := by rw [w64 _ (by have := HQ.out; have := HM5.out; have := HKI.out; omega)]; have := HKI.out; omega
            have hk1 : wrap64 (kI + 1) = (m : Int) := by rw [w64 _ (by have := HM5.out; have := HKI.out; omega)]; have := HKI.out; omega
            have HLB := hid (show Rd (w5.alloc (.cells #[.int .i64 (seq + m), .int .i64 2, .slice none 0 0] 26)) (some ⟨w5.heap.size, 0, none⟩) 3 (hb seq vs.length ⟨none, 0, 0⟩) by
              have e : wrap64 (seq + (vs.length : Int)) = seq + m := by rw [HM.out]; exact w64 _ (by have := HQ.out; have := HM5.out; omega)
              unfold hb
              rw [e]
              exact Rd.lit w5 [.int .i64 (seq + m), .int .i64 2, .slice none 0 0] 26)
            have HWA := hid (HW5.out.fr (fr1 w5 (.cells #[.int .i64 (seq + m), .int .i64 2, .slice none 0 0] 26)))
            have HOA := hid (HO5.out.fr (fr1 w5 (.cells #[.int .i64 (seq + m), .int .i64 2, .slice none 0 0] 26)))
            have HFA := hid (HF5.out.alloc (.cells #[.int .i64 (seq + m), .int .i64 2, .slice none 0 0] 26))
            have HRA := hid HWA.out.row
            have HLM := hid (show vs.length + 1 ≤ 1000000 by rw [HM.out]; exact Nat.le_trans (Nat.succ_le_succ HM5.out) (by decide))
            go_upto_region 15 with (at_builtin; go_loud (refine app_bt rfl (.tmp 63) (.tmp 69) rfl w.heap.size (.slice AV m cV) seq vs (by first | rfl | (rw [← HM.out]; rfl)) HRA.out (some ⟨w5.heap.size, 0, none⟩) 1 ⟨none, 0, 0⟩ rfl HLB.out HLM.out HFA.out.size ?_; intro A3 c3 wz ho8 f8; have HRZ := hid (HR.push HWA.out f8 ho8); have HOLZ := hid (show Out w.heap.size wz (.slice (some ⟨gL, oL, none⟩) P.length cl) P from own_fr HOA.out f8 (fun q h h' => own_apart HRA.out HOA.out ne_b q h' h)); have HFZ := hid (HFA.out.step f8 (fun i hi h => by have := (own_at HRA.out i h).1.1; omega)); rw [HM.out] at HRZ ⊢; clear ho8 f8))
            obtain ⟨m2, hm2⟩ : ∃ q, m + 1 = q := ⟨_, rfl⟩
            have hm2' : (m : Int) + 1 = m2 := by omega
            rw [hm2] at HRZ
            try rw [hm2]
            try rw [hm2']
            obtain ⟨gO, ⟨vA, vn, vc⟩, rfl, hvk, hvl2, hvn, hog, hrg, hng⟩ := lead_ok HRZ.out
            obtain ⟨vs2, hvs2⟩ : ∃ q, vs ++ [⟨none, 0, 0⟩] = q := ⟨_, rfl⟩
            rw [hvs2] at HRZ hvk hvl2
            have HGL := hid (show (gclose st).length = m from (by rw [← HRW.out.len, HM.out]))
            rw [HGL.out] at hvk hvl2
            dsimp only at hvn hrg hng
            have HV2 := hid (show vs2.length = m2 by rw [hvl2]; exact hm2)
            have HVK := hid hvk
            have HVE := hid hvn
            have HVN := hid (show vn ≤ 8 from (by rw [hvn]; simp))
            have HRG := hid hrg
            have HNG := hid hng
            have HOG := hid hog
            have HWZ := hid (show w.heap.size ≤ wz.heap.size from HFZ.out.size)
            have HLG := hid (show gL ≠ gO from fun e => own_apart HRZ.out.row HOLZ.out ne_b gO rfl (by rw [e]; rfl))
            have HLZ := hid (show gL < wz.heap.size from (own_at HOLZ.out gL rfl).1.2)
            obtain ⟨e0, e1⟩ := out_cell HOLZ.out HPK.out (by rw [HN.out]; omega)
            dsimp only at e0 e1
            have hK2 : (m : Int) < m2 := (by omega)
            have h0K2 : (0 : Int) ≤ m := by omega
            clear hvk hvn hrg hng hog hvl2 hvs2
            have FW := hid (Fr.refl (fun q => q = gO) wz)
            have FN := kd (hid (Fr.refl No wz))
            have FW := kdS FW
            refine wp_region_noPanic ?_
            refine wp_region_held_drew (S := (fun W' => W'.cell? ⟨gL, oL + k * 2, none⟩ = some (.int .i64 p0) ∧ W'.cell? ⟨gL, oL + k * 2 + 1, none⟩ = some (.int .i64 p1) ∧ Hid (Fr (fun q => q = gO) wz W'))) (by kernel_rfl) ?_ (fun hHeld => ?_)
            · (try dsimp only); (first | (go_split_ands; exact ⟨kc f (by assumption), kc f (by assumption), by assumption⟩) | (go_split_ands; exact ⟨(by assumption), (by assumption), by assumption⟩) | (go_split_ands; exact ⟨kc (fr1 _ _) (by assumption), kc (fr1 _ _) (by assumption), kfa (by assumption)⟩) | (exact ⟨kcB f HLZ.out hHeld.1, kcB f HLZ.out hHeld.2.1, FW⟩) | (exact ⟨kcs (Fr.set1 _ gO _ _) HLG.out hHeld.1, kcs (Fr.set1 _ gO _ _) HLG.out hHeld.2.1, kfT (Fr.set1 _ gO _ _) hHeld.2.2⟩) | (exact hHeld))
            refine wpAnyH_take (i := 0) (v := ?v1) rfl (by kernel_rfl) (by kernel_rfl) (by kernel_rfl) (fun _ _ _ h => h) (Or.inl ⟨by kernel_rfl, ?y1⟩) (by assumption) ?_
            case y1 => (intro w hSw; (try dsimp only at hSw); go_simp; all_goals with_reducible rfl)
            try simp only [Act.put, List.getElem_toArray, List.getElem_cons_zero, List.setIfInBounds_toArray, List.set_cons_zero, List.set_cons_succ]
            refine wpAnyH_take (i := 1) (v := ?v2) rfl (by kernel_rfl) (by kernel_rfl) (by kernel_rfl) (fun _ _ _ h => h) (Or.inl ⟨by kernel_rfl, ?y2⟩) (by assumption) ?_
            case y2 => (intro w hSw; (try dsimp only at hSw); go_simp; all_goals with_reducible rfl)
            try simp only [Act.put, List.getElem_toArray, List.getElem_cons_succ, List.getElem_cons_zero, List.setIfInBounds_toArray, List.set_cons_zero, List.set_cons_succ]
            refine wpAnyH_take (i := 3) (v := ?v3) rfl (by kernel_rfl) (by kernel_rfl) (by kernel_rfl) (fun _ _ _ h => h) (Or.inl ⟨by kernel_rfl, ?y3⟩) (by assumption) ?_
            case y3 => (intro w hSw; (try dsimp only at hSw); go_simp; all_goals with_reducible rfl)
            try simp only [Act.put, List.getElem_toArray, List.getElem_cons_succ, List.getElem_cons_zero, List.setIfInBounds_toArray, List.set_cons_zero, List.set_cons_succ]
            refine wpAnyH_take (i := 4) (v := ?v4) rfl (by kernel_rfl) (by kernel_rfl) (by kernel_rfl) (fun _ _ _ h => h) (Or.inl ⟨by kernel_rfl, ?y4⟩) (by assumption) ?_
            case y4 => (intro w hSw; (try dsimp only at hSw); go_simp; all_goals with_reducible rfl)
            try simp only [Act.put, List.getElem_toArray, List.getElem_cons_succ, List.getElem_cons_zero, List.setIfInBounds_toArray, List.set_cons_zero, List.set_cons_succ]
            refine wpAnyH_take (i := 5) (v := ?v5) rfl (by kernel_rfl) (by kernel_rfl) (by kernel_rfl) (fun _ _ _ h => h) (Or.inl ⟨by kernel_rfl, ?y5⟩) (by assumption) ?_
            case y5 => (intro w hSw; (try dsimp only at hSw); go_simp; all_goals with_reducible rfl)
            try simp only [Act.put, List.getElem_toArray, List.getElem_cons_succ, List.getElem_cons_zero, List.setIfInBounds_toArray, List.set_cons_zero, List.set_cons_succ]
            refine wpAnyH_take (i := 6) (v := (.pointer (some ⟨gO, m * 3 + 2, none⟩))) rfl (by kernel_rfl) (by kernel_rfl) (by kernel_rfl) (fun _ _ _ h => h) (Or.inl ⟨by kernel_rfl, fun w hSw => by first | (go_simp; done) | (go_simp; with_reducible rfl) | (go_simp; omega)⟩) (by assumption) ?_
            try simp only [Act.put, List.getElem_toArray, List.getElem_cons_succ, List.getElem_cons_zero, List.setIfInBounds_toArray, List.set_cons_zero, List.set_cons_succ]
            refine wpAnyH_take (i := 9) (v := ?v6) rfl (by kernel_rfl) (by kernel_rfl) (by kernel_rfl) (fun _ _ _ h => h) (Or.inl ⟨by kernel_rfl, ?y6⟩) (by assumption) ?_
            case y6 => (intro w hSw; (try dsimp only at hSw); go_simp; all_goals with_reducible rfl)
            try simp only [Act.put, List.getElem_toArray, List.getElem_cons_succ, List.getElem_cons_zero, List.setIfInBounds_toArray, List.set_cons_zero, List.set_cons_succ]
            refine wpAnyH_take (i := 10) (v := ?v7) rfl (by kernel_rfl) (by kernel_rfl) (by kernel_rfl) (fun _ _ _ h => h) (Or.inl ⟨by kernel_rfl, ?y7⟩) (by assumption) ?_
            case y7 => (intro w hSw; (try dsimp only at hSw); go_simp; all_goals with_reducible rfl)
            try simp only [Act.put, List.getElem_toArray, List.getElem_cons_succ, List.getElem_cons_zero, List.setIfInBounds_toArray, List.set_cons_zero, List.set_cons_succ]
            refine wpAnyH_take (i := 11) (v := ?v8) rfl (by kernel_rfl) (by kernel_rfl) (by kernel_rfl) (fun _ _ _ h => h) (Or.inl ⟨by kernel_rfl, ?y8⟩) (by assumption) ?_
            case y8 => (intro w hSw; (try dsimp only at hSw); go_simp; all_goals with_reducible rfl)
            try simp only [Act.put, List.getElem_toArray, List.getElem_cons_succ, List.getElem_cons_zero, List.setIfInBounds_toArray, List.set_cons_zero, List.set_cons_succ]
            refine wpAnyH_take (i := 12) (v := ?v9) rfl (by kernel_rfl) (by kernel_rfl) (by kernel_rfl) (fun _ _ _ h => h) (Or.inl ⟨by kernel_rfl, ?y9⟩) (by assumption) ?_
            case y9 => (intro w hSw; (try dsimp only at hSw); go_simp; all_goals with_reducible rfl)
            try simp only [Act.put, List.getElem_toArray, List.getElem_cons_succ, List.getElem_cons_zero, List.setIfInBounds_toArray, List.set_cons_zero, List.set_cons_succ]
            refine wpAnyH_ready (rs := [2, 7, 13]) (by kernel_rfl) (by simp) (AllReadyH.cons rfl (fun K hK => ?_) (AllReadyH.cons rfl (fun K hK => ?_) (AllReadyH.cons rfl (fun K hK => ?_) AllReadyH.nil)))
            · go_simp
              obtain ⟨x2, hx2⟩ : ∃ x, World.drew (World.alloc wz (Obj.cells #[] 57)) = x := ⟨_, rfl⟩
              try rw [hx2]
              have HZ2 := hid (show wz.heap.size ≤ wz.drew.heap.size from (hHeld.2.2).out.size)
              have f0 : Fr No wz.drew x2 := by rw [← hx2]; exact fr1dd _ _
              have f : Fr (fun q => wz.heap.size ≤ q) wz.drew x2 := frB f0
              have FW := kfB f hHeld.2.2
              have FN := kfB f FN
              have O0 := hid (show Out wz.heap.size x2 (.slice (some ⟨wz.drew.heap.size, 0, none⟩) 0 0) [] by rw [← hx2]; exact own0 wz HZ2.out)
              have HS2 := hid (show x2.heap.size = (wz.drew).heap.size + 1 by rw [← hx2]; first | (simp; done) | (show (World.alloc wz _).heap.size = (wz).heap.size + 1; simp))
              clear f0 hx2
              refine hK.out _ _ ?_ (fun hHeld => ?_)
              · (try dsimp only); (first | (go_split_ands; exact ⟨kc f (by assumption), kc f (by assumption), by assumption⟩) | (go_split_ands; exact ⟨(by assumption), (by assumption), by assumption⟩) | (go_split_ands; exact ⟨kc (fr1 _ _) (by assumption), kc (fr1 _ _) (by assumption), kfa (by assumption)⟩) | (exact ⟨kcB f HLZ.out hHeld.1, kcB f HLZ.out hHeld.2.1, FW⟩) | (exact ⟨kcs (Fr.set1 _ gO _ _) HLG.out hHeld.1, kcs (Fr.set1 _ gO _ _) HLG.out hHeld.2.1, kfT (Fr.set1 _ gO _ _) hHeld.2.2⟩) | (exact hHeld))
              clear hK K
              try simp only [Act.put, List.getElem_toArray, List.getElem_cons_succ, List.getElem_cons_zero, List.setIfInBounds_toArray, List.set_cons_zero, List.set_cons_succ]
              refine wpAnyH_ready (rs := [7, 13]) (by kernel_rfl) (by simp) (AllReadyH.cons rfl (fun K hK => ?_) (AllReadyH.cons rfl (fun K hK => ?_) AllReadyH.nil))
              · have y7 := (row_at (HRZ.out.fr FN.out).row HVK.out).1
                dsimp only [SV.v] at y7
                go_simp
                have FW := hHeld.2.2
                refine hK.out _ _ ?_ (fun hHeld => ?_)
                · (try dsimp only); (first | (go_split_ands; exact ⟨kc f (by assumption), kc f (by assumption), by assumption⟩) | (go_split_ands; exact ⟨(by assumption), (by assumption), by assumption⟩) | (go_split_ands; exact ⟨kc (fr1 _ _) (by assumption), kc (fr1 _ _) (by assumption), kfa (by assumption)⟩) | (exact ⟨kcB f HLZ.out hHeld.1, kcB f HLZ.out hHeld.2.1, FW⟩) | (exact ⟨kcs (Fr.set1 _ gO _ _) HLG.out hHeld.1, kcs (Fr.set1 _ gO _ _) HLG.out hHeld.2.1, kfT (Fr.set1 _ gO _ _) hHeld.2.2⟩) | (exact hHeld))
                clear hK K
                try simp only [Act.put, List.getElem_toArray, List.getElem_cons_succ, List.getElem_cons_zero, List.setIfInBounds_toArray, List.set_cons_zero, List.set_cons_succ]
                refine wpAnyH_ready (rs := [8, 13]) (by kernel_rfl) (by simp) (AllReadyH.cons rfl (fun K hK => ?_) (AllReadyH.cons rfl (fun K hK => ?_) AllReadyH.nil))
                · refine app_st rfl (.tmp 75) (.tmp 80) rfl wz.heap.size (.slice (some ⟨wz.drew.heap.size, 0, none⟩) 0 0) [] rfl O0.out vA vn vc ([] : List Sp) rfl (rdS_lo2 HRG.out (hHeld.2.2).out HNG.out) (by have := HVN.out; simp; omega) (show wz.heap.size ≤ x2.heap.size from (hHeld.2.2).out.size) ?_
                  intro A8 c8 x8 o8 f8
                  try simp only [List.length_nil, Nat.zero_add, List.nil_append] at o8
                  try simp only [List.length_nil, Nat.zero_add]
                  have f : Fr (fun q => wz.heap.size ≤ q) x2 x8 := frO O0.out f8
                  have FW := kfB f hHeld.2.2
                  have FN := kfB f FN
                  have OX := hid o8
                  clear o8 f8
                  refine hK.out _ _ ?_ (fun hHeld => ?_)
                  · (try dsimp only); (first | (go_split_ands; exact ⟨kc f (by assumption), kc f (by assumption), by assumption⟩) | (go_split_ands; exact ⟨(by assumption), (by assumption), by assumption⟩) | (go_split_ands; exact ⟨kc (fr1 _ _) (by assumption), kc (fr1 _ _) (by assumption), kfa (by assumption)⟩) | (exact ⟨kcB f HLZ.out hHeld.1, kcB f HLZ.out hHeld.2.1, FW⟩) | (exact ⟨kcs (Fr.set1 _ gO _ _) HLG.out hHeld.1, kcs (Fr.set1 _ gO _ _) HLG.out hHeld.2.1, kfT (Fr.set1 _ gO _ _) hHeld.2.2⟩) | (exact hHeld))
                  clear hK K
                  try simp only [Act.put, List.getElem_toArray, List.getElem_cons_succ, List.getElem_cons_zero, List.setIfInBounds_toArray, List.set_cons_zero, List.set_cons_succ]
                  refine wpAnyH_ready (rs := [13]) (by kernel_rfl) (by simp) (AllReadyH.cons rfl (fun K hK => ?_) AllReadyH.nil)
                  go_simp
                  obtain ⟨x13, hx13⟩ : ∃ x, World.alloc x8 (Obj.cells #[.int .i64 p0, .int .i64 p1] 57) = x := ⟨_, rfl⟩
                  try rw [hx13]
                  have HZ13 := hid (show wz.heap.size ≤ x8.heap.size from (hHeld.2.2).out.size)
                  have f0 : Fr No x8 x13 := by rw [← hx13]; exact fr1 _ _
                  have f : Fr (fun q => wz.heap.size ≤ q) x8 x13 := frB f0
                  have FW := kfB f hHeld.2.2
                  have FN := kfB f FN
                  have RL := hid (show RdS x13 (some ⟨x8.heap.size, 0, none⟩) 1 [(p0, p1)] by rw [← hx13]; exact lit_rd x8 p0 p1)
                  have OX := hid (own_fr OX.out f0 (fun _ _ h => h))
                  clear f0 hx13
                  refine hK.out _ _ ?_ (fun hHeld => ?_)
                  · (try dsimp only); (first | (go_split_ands; exact ⟨kc f (by assumption), kc f (by assumption), by assumption⟩) | (go_split_ands; exact ⟨(by assumption), (by assumption), by assumption⟩) | (go_split_ands; exact ⟨kc (fr1 _ _) (by assumption), kc (fr1 _ _) (by assumption), kfa (by assumption)⟩) | (exact ⟨kcB f HLZ.out hHeld.1, kcB f HLZ.out hHeld.2.1, FW⟩) | (exact ⟨kcs (Fr.set1 _ gO _ _) HLG.out hHeld.1, kcs (Fr.set1 _ gO _ _) HLG.out hHeld.2.1, kfT (Fr.set1 _ gO _ _) hHeld.2.2⟩) | (exact hHeld))
                  clear hK K
                  try simp only [Act.put, List.getElem_toArray, List.getElem_cons_succ, List.getElem_cons_zero, List.setIfInBounds_toArray, List.set_cons_zero, List.set_cons_succ]
                  refine wpAnyH_ready (rs := [14]) (by kernel_rfl) (by simp) (AllReadyH.cons rfl (fun K hK => ?_) AllReadyH.nil)
                  refine app_st rfl (.tmp 81) (.tmp 86) rfl wz.heap.size _ ([] : List Sp) (by first | rfl | (rw [← HVE.out]; rfl)) (by have := OX.out; first | exact this | (rw [← HVE.out]; exact this)) (some ⟨x8.heap.size, 0, none⟩) 1 1 [(p0, p1)] rfl RL.out (by have := HVN.out; have := HVE.out; omega) (show wz.heap.size ≤ x13.heap.size from (hHeld.2.2).out.size) ?_
                  intro A14 c14 x14 o14 f14
                  have f : Fr (fun q => wz.heap.size ≤ q) x13 x14 := frO OX.out f14
                  have FW := kfB f hHeld.2.2
                  have FN := kfB f FN
                  have OY := hid o14
                  clear o14 f14
                  refine hK.out _ _ ?_ (fun hHeld => ?_)
                  · (try dsimp only); (first | (go_split_ands; exact ⟨kc f (by assumption), kc f (by assumption), by assumption⟩) | (go_split_ands; exact ⟨(by assumption), (by assumption), by assumption⟩) | (go_split_ands; exact ⟨kc (fr1 _ _) (by assumption), kc (fr1 _ _) (by assumption), kfa (by assumption)⟩) | (exact ⟨kcB f HLZ.out hHeld.1, kcB f HLZ.out hHeld.2.1, FW⟩) | (exact ⟨kcs (Fr.set1 _ gO _ _) HLG.out hHeld.1, kcs (Fr.set1 _ gO _ _) HLG.out hHeld.2.1, kfT (Fr.set1 _ gO _ _) hHeld.2.2⟩) | (exact hHeld))
                  clear hK K
                  try simp only [Act.put, List.getElem_toArray, List.getElem_cons_succ, List.getElem_cons_zero, List.setIfInBounds_toArray, List.set_cons_zero, List.set_cons_succ]
                  refine wpAnyH_take (i := 15) (v := ?v10) rfl (by kernel_rfl) (by kernel_rfl) (by kernel_rfl) (fun _ _ _ h => h) (Or.inl ⟨by kernel_rfl, ?y10⟩) (by assumption) ?_
                  case y10 => (intro w hSw; (try dsimp only at hSw); go_simp; all_goals with_reducible rfl)
                  try simp only [Act.put, List.getElem_toArray, List.getElem_cons_succ, List.getElem_cons_zero, List.setIfInBounds_toArray, List.set_cons_zero, List.set_cons_succ]
                  refine wpAnyH_take (i := 16) (v := (.pointer (some ⟨gO, m * 3 + 2, none⟩))) rfl (by kernel_rfl) (by kernel_rfl) (by kernel_rfl) (fun _ _ _ h => h) (Or.inl ⟨by kernel_rfl, fun w hSw => by first | (go_simp; done) | (go_simp; with_reducible rfl) | (go_simp; omega)⟩) (by assumption) ?_
                  try simp only [Act.put, List.getElem_toArray, List.getElem_cons_succ, List.getElem_cons_zero, List.setIfInBounds_toArray, List.set_cons_zero, List.set_cons_succ]
                  refine wpAnyH_ready (rs := [17]) (by kernel_rfl) (by simp) (AllReadyH.cons rfl (fun K hK => ?_) AllReadyH.nil)
                  obtain ⟨y9, z9, s9⟩ := row_at (HRZ.out.fr FN.out).row HVK.out
                  dsimp only [SV.v] at y9
                  go_simp
                  refine hK.out _ _ ?_ (fun hHeld => ?_)
                  · (try dsimp only); (first | (go_split_ands; exact ⟨kc f (by assumption), kc f (by assumption), by assumption⟩) | (go_split_ands; exact ⟨(by assumption), (by assumption), by assumption⟩) | (go_split_ands; exact ⟨kc (fr1 _ _) (by assumption), kc (fr1 _ _) (by assumption), kfa (by assumption)⟩) | (exact ⟨kcB f HLZ.out hHeld.1, kcB f HLZ.out hHeld.2.1, FW⟩) | (exact ⟨kcs (Fr.set1 _ gO _ _) HLG.out hHeld.1, kcs (Fr.set1 _ gO _ _) HLG.out hHeld.2.1, kfT (Fr.set1 _ gO _ _) hHeld.2.2⟩) | (exact hHeld))
                  clear hK K
                  try simp only [Act.put, List.getElem_toArray, List.getElem_cons_succ, List.getElem_cons_zero, List.setIfInBounds_toArray, List.set_cons_zero, List.set_cons_succ]
                  refine wpAnyH_done (by kernel_rfl) ?_ _
                  refine NoPanic.normal ?_
                  have FX := hHeld.2.2
                  clear hHeld
                  obtain ⟨s9a, s9b⟩ := s9 ⟨A14, ([] : List Sp).length + 1, c14⟩
                  dsimp only [SV.v] at s9a s9b
                  have HRE := hid (HR.put (v := ⟨A14, ([] : List Sp).length + 1, c14⟩) (HRZ.out.fr FN.out) (s9b.mono (fun q _ e => by rw [e]; rfl)) (by rw [HGL.out]; exact s9a) (Out.le OY.out HWZ.out) (by simp))
                  have HOE := hid (own_fr (HOLZ.out.fr FN.out) s9b (fun q hq e => HLG.out (by simp [Value.ownBlock] at hq; have e2 : q = gO := e; omega)))
                  have HFE := hid ((HFZ.out.trans FN.out).step s9b (fun q hq e => by have := HOG.out; have e2 : q = gO := e; omega))
                  go_wp2
                  go_roundw
                  case rel => (try refine ⟨_, _, ?_, rfl, rfl⟩); exact ⟨k + 1, vs2.set m ⟨A14, ([] : List Sp).length + 1, c14⟩, some ⟨gO, 0, none⟩, c3, by rw [HN.out]; omega, by go_num, by rw [List.length_set, HV2.out], by rw [HNX.out, HGN.out, ← HGL.out]; have h := HRE.out; rw [HGL.out] at h ⊢; exact h, HOE.out, HFE.out⟩
                  case measure => first | exact next_m _ _ hlt hw1 | exact next_p _ _ hlt
                · go_simp
                  obtain ⟨x13, hx13⟩ : ∃ x, World.alloc x2 (Obj.cells #[.int .i64 p0, .int .i64 p1] 57) = x := ⟨_, rfl⟩
                  try rw [hx13]
                  have HZ13 := hid (show wz.heap.size ≤ x2.heap.size from (hHeld.2.2).out.size)
                  have f0 : Fr No x2 x13 := by rw [← hx13]; exact fr1 _ _
                  have f : Fr (fun q => wz.heap.size ≤ q) x2 x13 := frB f0
                  have FW := kfB f hHeld.2.2
                  have FN := kfB f FN
                  have RL := hid (show RdS x13 (some ⟨x2.heap.size, 0, none⟩) 1 [(p0, p1)] by rw [← hx13]; exact lit_rd x2 p0 p1)
                  have O0 := hid (own_fr O0.out f0 (fun _ _ h => h))
                  have HLE := hid (show x2.heap.size ≠ (wz.drew).heap.size by have := HS2.out; omega)
                  clear f0 hx13
                  refine hK.out _ _ ?_ (fun hHeld => ?_)
                  · (try dsimp only); (first | (go_split_ands; exact ⟨kc f (by assumption), kc f (by assumption), by assumption⟩) | (go_split_ands; exact ⟨(by assumption), (by assumption), by assumption⟩) | (go_split_ands; exact ⟨kc (fr1 _ _) (by assumption), kc (fr1 _ _) (by assumption), kfa (by assumption)⟩) | (exact ⟨kcB f HLZ.out hHeld.1, kcB f HLZ.out hHeld.2.1, FW⟩) | (exact ⟨kcs (Fr.set1 _ gO _ _) HLG.out hHeld.1, kcs (Fr.set1 _ gO _ _) HLG.out hHeld.2.1, kfT (Fr.set1 _ gO _ _) hHeld.2.2⟩) | (exact hHeld))
                  clear hK K
                  try simp only [Act.put, List.getElem_toArray, List.getElem_cons_succ, List.getElem_cons_zero, List.setIfInBounds_toArray, List.set_cons_zero, List.set_cons_succ]
                  refine wpAnyH_ready (rs := [8]) (by kernel_rfl) (by simp) (AllReadyH.cons rfl (fun K hK => ?_) AllReadyH.nil)
                  refine app_st rfl (.tmp 75) (.tmp 80) rfl wz.heap.size (.slice (some ⟨wz.drew.heap.size, 0, none⟩) 0 0) [] rfl O0.out vA vn vc ([] : List Sp) rfl (rdS_lo2 HRG.out (hHeld.2.2).out HNG.out) (by have := HVN.out; simp; omega) (show wz.heap.size ≤ x13.heap.size from (hHeld.2.2).out.size) ?_
                  intro A8 c8 x8 o8 f8
                  try simp only [List.length_nil, Nat.zero_add, List.nil_append] at o8
                  try simp only [List.length_nil, Nat.zero_add]
                  have f : Fr (fun q => wz.heap.size ≤ q) x13 x8 := frO O0.out f8
                  have FW := kfB f hHeld.2.2
                  have FN := kfB f FN
                  have OX := hid o8
                  have RL := hid (rdS_lo2 RL.out f8 (fun g o h e => by cases h; exact HLE.out (Option.some.inj (show some (wz.drew).heap.size = some (x2).heap.size from e)).symm))
                  clear o8 f8
                  refine hK.out _ _ ?_ (fun hHeld => ?_)
                  · (try dsimp only); (first | (go_split_ands; exact ⟨kc f (by assumption), kc f (by assumption), by assumption⟩) | (go_split_ands; exact ⟨(by assumption), (by assumption), by assumption⟩) | (go_split_ands; exact ⟨kc (fr1 _ _) (by assumption), kc (fr1 _ _) (by assumption), kfa (by assumption)⟩) | (exact ⟨kcB f HLZ.out hHeld.1, kcB f HLZ.out hHeld.2.1, FW⟩) | (exact ⟨kcs (Fr.set1 _ gO _ _) HLG.out hHeld.1, kcs (Fr.set1 _ gO _ _) HLG.out hHeld.2.1, kfT (Fr.set1 _ gO _ _) hHeld.2.2⟩) | (exact hHeld))
                  clear hK K
                  try simp only [Act.put, List.getElem_toArray, List.getElem_cons_succ, List.getElem_cons_zero, List.setIfInBounds_toArray, List.set_cons_zero, List.set_cons_succ]
                  refine wpAnyH_ready (rs := [14]) (by kernel_rfl) (by simp) (AllReadyH.cons rfl (fun K hK => ?_) AllReadyH.nil)
                  refine app_st rfl (.tmp 81) (.tmp 86) rfl wz.heap.size _ ([] : List Sp) (by first | rfl | (rw [← HVE.out]; rfl)) (by have := OX.out; first | exact this | (rw [← HVE.out]; exact this)) (some ⟨x2.heap.size, 0, none⟩) 1 1 [(p0, p1)] rfl RL.out (by have := HVN.out; have := HVE.out; omega) (show wz.heap.size ≤ x8.heap.size from (hHeld.2.2).out.size) ?_
                  intro A14 c14 x14 o14 f14
                  have f : Fr (fun q => wz.heap.size ≤ q) x8 x14 := frO OX.out f14
                  have FW := kfB f hHeld.2.2
                  have FN := kfB f FN
                  have OY := hid o14
                  clear o14 f14
                  refine hK.out _ _ ?_ (fun hHeld => ?_)
                  · (try dsimp only); (first | (go_split_ands; exact ⟨kc f (by assumption), kc f (by assumption), by assumption⟩) | (go_split_ands; exact ⟨(by assumption), (by assumption), by assumption⟩) | (go_split_ands; exact ⟨kc (fr1 _ _) (by assumption), kc (fr1 _ _) (by assumption), kfa (by assumption)⟩) | (exact ⟨kcB f HLZ.out hHeld.1, kcB f HLZ.out hHeld.2.1, FW⟩) | (exact ⟨kcs (Fr.set1 _ gO _ _) HLG.out hHeld.1, kcs (Fr.set1 _ gO _ _) HLG.out hHeld.2.1, kfT (Fr.set1 _ gO _ _) hHeld.2.2⟩) | (exact hHeld))
                  clear hK K
                  try simp only [Act.put, List.getElem_toArray, List.getElem_cons_succ, List.getElem_cons_zero, List.setIfInBounds_toArray, List.set_cons_zero, List.set_cons_succ]
                  refine wpAnyH_take (i := 15) (v := ?v11) rfl (by kernel_rfl) (by kernel_rfl) (by kernel_rfl) (fun _ _ _ h => h) (Or.inl ⟨by kernel_rfl, ?y11⟩) (by assumption) ?_
                  case y11 => (intro w hSw; (try dsimp only at hSw); go_simp; all_goals with_reducible rfl)
                  try simp only [Act.put, List.getElem_toArray, List.getElem_cons_succ, List.getElem_cons_zero, List.setIfInBounds_toArray, List.set_cons_zero, List.set_cons_succ]
                  refine wpAnyH_take (i := 16) (v := (.pointer (some ⟨gO, m * 3 + 2, none⟩))) rfl (by kernel_rfl) (by kernel_rfl) (by kernel_rfl) (fun _ _ _ h => h) (Or.inl ⟨by kernel_rfl, fun w hSw => by first | (go_simp; done) | (go_simp; with_reducible rfl) | (go_simp; omega)⟩) (by assumption) ?_
                  try simp only [Act.put, List.getElem_toArray, List.getElem_cons_succ, List.getElem_cons_zero, List.setIfInBounds_toArray, List.set_cons_zero, List.set_cons_succ]
                  refine wpAnyH_ready (rs := [17]) (by kernel_rfl) (by simp) (AllReadyH.cons rfl (fun K hK => ?_) AllReadyH.nil)
                  obtain ⟨y9, z9, s9⟩ := row_at (HRZ.out.fr FN.out).row HVK.out
                  dsimp only [SV.v] at y9
                  go_simp
                  refine hK.out _ _ ?_ (fun hHeld => ?_)
                  · (try dsimp only); (first | (go_split_ands; exact ⟨kc f (by assumption), kc f (by assumption), by assumption⟩) | (go_split_ands; exact ⟨(by assumption), (by assumption), by assumption⟩) | (go_split_ands; exact ⟨kc (fr1 _ _) (by assumption), kc (fr1 _ _) (by assumption), kfa (by assumption)⟩) | (exact ⟨kcB f HLZ.out hHeld.1, kcB f HLZ.out hHeld.2.1, FW⟩) | (exact ⟨kcs (Fr.set1 _ gO _ _) HLG.out hHeld.1, kcs (Fr.set1 _ gO _ _) HLG.out hHeld.2.1, kfT (Fr.set1 _ gO _ _) hHeld.2.2⟩) | (exact hHeld))
                  clear hK K
                  try simp only [Act.put, List.getElem_toArray, List.getElem_cons_succ, List.getElem_cons_zero, List.setIfInBounds_toArray, List.set_cons_zero, List.set_cons_succ]
                  refine wpAnyH_done (by kernel_rfl) ?_ _
                  refine NoPanic.normal ?_
                  have FX := hHeld.2.2
                  clear hHeld
                  obtain ⟨s9a, s9b⟩ := s9 ⟨A14, ([] : List Sp).length + 1, c14⟩
                  dsimp only [SV.v] at s9a s9b
                  have HRE := hid (HR.put (v := ⟨A14, ([] : List Sp).length + 1, c14⟩) (HRZ.out.fr FN.out) (s9b.mono (fun q _ e => by rw [e]; rfl)) (by rw [HGL.out]; exact s9a) (Out.le OY.out HWZ.out) (by simp))
                  have HOE := hid (own_fr (HOLZ.out.fr FN.out) s9b (fun q hq e => HLG.out (by simp [Value.ownBlock] at hq; have e2 : q = gO := e; omega)))
                  have HFE := hid ((HFZ.out.trans FN.out).step s9b (fun q hq e => by have := HOG.out; have e2 : q = gO := e; omega))
                  go_wp2
                  go_roundw
                  case rel => (try refine ⟨_, _, ?_, rfl, rfl⟩); exact ⟨k + 1, vs2.set m ⟨A14, ([] : List Sp).length + 1, c14⟩, some ⟨gO, 0, none⟩, c3, by rw [HN.out]; omega, by go_num, by rw [List.length_set, HV2.out], by rw [HNX.out, HGN.out, ← HGL.out]; have h := HRE.out; rw [HGL.out] at h ⊢; exact h, HOE.out, HFE.out⟩
                  case measure => first | exact next_m _ _ hlt hw1 | exact next_p _ _ hlt
              · go_simp
                obtain ⟨x13, hx13⟩ : ∃ x, World.alloc x2 (Obj.cells #[.int .i64 p0, .int .i64 p1] 57) = x := ⟨_, rfl⟩
                try rw [hx13]
                have HZ13 := hid (show wz.heap.size ≤ x2.heap.size from (hHeld.2.2).out.size)
                have f0 : Fr No x2 x13 := by rw [← hx13]; exact fr1 _ _
                have f : Fr (fun q => wz.heap.size ≤ q) x2 x13 := frB f0
                have FW := kfB f hHeld.2.2
                have FN := kfB f FN
                have RL := hid (show RdS x13 (some ⟨x2.heap.size, 0, none⟩) 1 [(p0, p1)] by rw [← hx13]; exact lit_rd x2 p0 p1)
                have O0 := hid (own_fr O0.out f0 (fun _ _ h => h))
                have HLE := hid (show x2.heap.size ≠ (wz.drew).heap.size by have := HS2.out; omega)
                clear f0 hx13
                refine hK.out _ _ ?_ (fun hHeld => ?_)
                · (try dsimp only); (first | (go_split_ands; exact ⟨kc f (by assumption), kc f (by assumption), by assumption⟩) | (go_split_ands; exact ⟨(by assumption), (by assumption), by assumption⟩) | (go_split_ands; exact ⟨kc (fr1 _ _) (by assumption), kc (fr1 _ _) (by assumption), kfa (by assumption)⟩) | (exact ⟨kcB f HLZ.out hHeld.1, kcB f HLZ.out hHeld.2.1, FW⟩) | (exact ⟨kcs (Fr.set1 _ gO _ _) HLG.out hHeld.1, kcs (Fr.set1 _ gO _ _) HLG.out hHeld.2.1, kfT (Fr.set1 _ gO _ _) hHeld.2.2⟩) | (exact hHeld))
                clear hK K
                try simp only [Act.put, List.getElem_toArray, List.getElem_cons_succ, List.getElem_cons_zero, List.setIfInBounds_toArray, List.set_cons_zero, List.set_cons_succ]
                refine wpAnyH_ready (rs := [7]) (by kernel_rfl) (by simp) (AllReadyH.cons rfl (fun K hK => ?_) AllReadyH.nil)
                have y7 := (row_at (HRZ.out.fr FN.out).row HVK.out).1
                dsimp only [SV.v] at y7
                go_simp
                have FW := hHeld.2.2
                refine hK.out _ _ ?_ (fun hHeld => ?_)
                · (try dsimp only); (first | (go_split_ands; exact ⟨kc f (by assumption), kc f (by assumption), by assumption⟩) | (go_split_ands; exact ⟨(by assumption), (by assumption), by assumption⟩) | (go_split_ands; exact ⟨kc (fr1 _ _) (by assumption), kc (fr1 _ _) (by assumption), kfa (by assumption)⟩) | (exact ⟨kcB f HLZ.out hHeld.1, kcB f HLZ.out hHeld.2.1, FW⟩) | (exact ⟨kcs (Fr.set1 _ gO _ _) HLG.out hHeld.1, kcs (Fr.set1 _ gO _ _) HLG.out hHeld.2.1, kfT (Fr.set1 _ gO _ _) hHeld.2.2⟩) | (exact hHeld))
                clear hK K
                try simp only [Act.put, List.getElem_toArray, List.getElem_cons_succ, List.getElem_cons_zero, List.setIfInBounds_toArray, List.set_cons_zero, List.set_cons_succ]
                refine wpAnyH_ready (rs := [8]) (by kernel_rfl) (by simp) (AllReadyH.cons rfl (fun K hK => ?_) AllReadyH.nil)
                refine app_st rfl (.tmp 75) (.tmp 80) rfl wz.heap.size (.slice (some ⟨wz.drew.heap.size, 0, none⟩) 0 0) [] rfl O0.out vA vn vc ([] : List Sp) rfl (rdS_lo2 HRG.out (hHeld.2.2).out HNG.out) (by have := HVN.out; simp; omega) (show wz.heap.size ≤ x13.heap.size from (hHeld.2.2).out.size) ?_
                intro A8 c8 x8 o8 f8
                try simp only [List.length_nil, Nat.zero_add, List.nil_append] at o8
                try simp only [List.length_nil, Nat.zero_add]
                have f : Fr (fun q => wz.heap.size ≤ q) x13 x8 := frO O0.out f8
                have FW := kfB f hHeld.2.2
                have FN := kfB f FN
                have OX := hid o8
                have RL := hid (rdS_lo2 RL.out f8 (fun g o h e => by cases h; exact HLE.out (Option.some.inj (show some (wz.drew).heap.size = some (x2).heap.size from e)).symm))
                clear o8 f8
                refine hK.out _ _ ?_ (fun hHeld => ?_)
                · (try dsimp only); (first | (go_split_ands; exact ⟨kc f (by assumption), kc f (by assumption), by assumption⟩) | (go_split_ands; exact ⟨(by assumption), (by assumption), by assumption⟩) | (go_split_ands; exact ⟨kc (fr1 _ _) (by assumption), kc (fr1 _ _) (by assumption), kfa (by assumption)⟩) | (exact ⟨kcB f HLZ.out hHeld.1, kcB f HLZ.out hHeld.2.1, FW⟩) | (exact ⟨kcs (Fr.set1 _ gO _ _) HLG.out hHeld.1, kcs (Fr.set1 _ gO _ _) HLG.out hHeld.2.1, kfT (Fr.set1 _ gO _ _) hHeld.2.2⟩) | (exact hHeld))
                clear hK K
                try simp only [Act.put, List.getElem_toArray, List.getElem_cons_succ, List.getElem_cons_zero, List.setIfInBounds_toArray, List.set_cons_zero, List.set_cons_succ]
                refine wpAnyH_ready (rs := [14]) (by kernel_rfl) (by simp) (AllReadyH.cons rfl (fun K hK => ?_) AllReadyH.nil)
                refine app_st rfl (.tmp 81) (.tmp 86) rfl wz.heap.size _ ([] : List Sp) (by first | rfl | (rw [← HVE.out]; rfl)) (by have := OX.out; first | exact this | (rw [← HVE.out]; exact this)) (some ⟨x2.heap.size, 0, none⟩) 1 1 [(p0, p1)] rfl RL.out (by have := HVN.out; have := HVE.out; omega) (show wz.heap.size ≤ x8.heap.size from (hHeld.2.2).out.size) ?_
                intro A14 c14 x14 o14 f14
                have f : Fr (fun q => wz.heap.size ≤ q) x8 x14 := frO OX.out f14
                have FW := kfB f hHeld.2.2
                have FN := kfB f FN
                have OY := hid o14
                clear o14 f14
                refine hK.out _ _ ?_ (fun hHeld => ?_)
                · (try dsimp only); (first | (go_split_ands; exact ⟨kc f (by assumption), kc f (by assumption), by assumption⟩) | (go_split_ands; exact ⟨(by assumption), (by assumption), by assumption⟩) | (go_split_ands; exact ⟨kc (fr1 _ _) (by assumption), kc (fr1 _ _) (by assumption), kfa (by assumption)⟩) | (exact ⟨kcB f HLZ.out hHeld.1, kcB f HLZ.out hHeld.2.1, FW⟩) | (exact ⟨kcs (Fr.set1 _ gO _ _) HLG.out hHeld.1, kcs (Fr.set1 _ gO _ _) HLG.out hHeld.2.1, kfT (Fr.set1 _ gO _ _) hHeld.2.2⟩) | (exact hHeld))
                clear hK K
                try simp only [Act.put, List.getElem_toArray, List.getElem_cons_succ, List.getElem_cons_zero, List.setIfInBounds_toArray, List.set_cons_zero, List.set_cons_succ]
                refine wpAnyH_take (i := 15) (v := ?v12) rfl (by kernel_rfl) (by kernel_rfl) (by kernel_rfl) (fun _ _ _ h => h) (Or.inl ⟨by kernel_rfl, ?y12⟩) (by assumption) ?_
                case y12 => (intro w hSw; (try dsimp only at hSw); go_simp; all_goals with_reducible rfl)
                try simp only [Act.put, List.getElem_toArray, List.getElem_cons_succ, List.getElem_cons_zero, List.setIfInBounds_toArray, List.set_cons_zero, List.set_cons_succ]
                refine wpAnyH_take (i := 16) (v := (.pointer (some ⟨gO, m * 3 + 2, none⟩))) rfl (by kernel_rfl) (by kernel_rfl) (by kernel_rfl) (fun _ _ _ h => h) (Or.inl ⟨by kernel_rfl, fun w hSw => by first | (go_simp; done) | (go_simp; with_reducible rfl) | (go_simp; omega)⟩) (by assumption) ?_
                try simp only [Act.put, List.getElem_toArray, List.getElem_cons_succ, List.getElem_cons_zero, List.setIfInBounds_toArray, List.set_cons_zero, List.set_cons_succ]
                refine wpAnyH_ready (rs := [17]) (by kernel_rfl) (by simp) (AllReadyH.cons rfl (fun K hK => ?_) AllReadyH.nil)
                obtain ⟨y9, z9, s9⟩ := row_at (HRZ.out.fr FN.out).row HVK.out
                dsimp only [SV.v] at y9
                go_simp
                refine hK.out _ _ ?_ (fun hHeld => ?_)
                · (try dsimp only); (first | (go_split_ands; exact ⟨kc f (by assumption), kc f (by assumption), by assumption⟩) | (go_split_ands; exact ⟨(by assumption), (by assumption), by assumption⟩) | (go_split_ands; exact ⟨kc (fr1 _ _) (by assumption), kc (fr1 _ _) (by assumption), kfa (by assumption)⟩) | (exact ⟨kcB f HLZ.out hHeld.1, kcB f HLZ.out hHeld.2.1, FW⟩) | (exact ⟨kcs (Fr.set1 _ gO _ _) HLG.out hHeld.1, kcs (Fr.set1 _ gO _ _) HLG.out hHeld.2.1, kfT (Fr.set1 _ gO _ _) hHeld.2.2⟩) | (exact hHeld))
                clear hK K
                try simp only [Act.put, List.getElem_toArray, List.getElem_cons_succ, List.getElem_cons_zero, List.setIfInBounds_toArray, List.set_cons_zero, List.set_cons_succ]
                refine wpAnyH_done (by kernel_rfl) ?_ _
                refine NoPanic.normal ?_
                have FX := hHeld.2.2
                clear hHeld
                obtain ⟨s9a, s9b⟩ := s9 ⟨A14, ([] : List Sp).length + 1, c14⟩
                dsimp only [SV.v] at s9a s9b
                have HRE := hid (HR.put (v := ⟨A14, ([] : List Sp).length + 1, c14⟩) (HRZ.out.fr FN.out) (s9b.mono (fun q _ e => by rw [e]; rfl)) (by rw [HGL.out]; exact s9a) (Out.le OY.out HWZ.out) (by simp))
                have HOE := hid (own_fr (HOLZ.out.fr FN.out) s9b (fun q hq e => HLG.out (by simp [Value.ownBlock] at hq; have e2 : q = gO := e; omega)))
                have HFE := hid ((HFZ.out.trans FN.out).step s9b (fun q hq e => by have := HOG.out; have e2 : q = gO := e; omega))
                go_wp2
                go_roundw
                case rel => (try refine ⟨_, _, ?_, rfl, rfl⟩); exact ⟨k + 1, vs2.set m ⟨A14, ([] : List Sp).length + 1, c14⟩, some ⟨gO, 0, none⟩, c3, by rw [HN.out]; omega, by go_num, by rw [List.length_set, HV2.out], by rw [HNX.out, HGN.out, ← HGL.out]; have h := HRE.out; rw [HGL.out] at h ⊢; exact h, HOE.out, HFE.out⟩
                case measure => first | exact next_m _ _ hlt hw1 | exact next_p _ _ hlt
            · have y7 := (row_at (HRZ.out.fr FN.out).row HVK.out).1
              dsimp only [SV.v] at y7
              go_simp
              have FW := hHeld.2.2
              refine hK.out _ _ ?_ (fun hHeld => ?_)
              · (try dsimp only); (first | (go_split_ands; exact ⟨kc f (by assumption), kc f (by assumption), by assumption⟩) | (go_split_ands; exact ⟨(by assumption), (by assumption), by assumption⟩) | (go_split_ands; exact ⟨kc (fr1 _ _) (by assumption), kc (fr1 _ _) (by assumption), kfa (by assumption)⟩) | (exact ⟨kcB f HLZ.out hHeld.1, kcB f HLZ.out hHeld.2.1, FW⟩) | (exact ⟨kcs (Fr.set1 _ gO _ _) HLG.out hHeld.1, kcs (Fr.set1 _ gO _ _) HLG.out hHeld.2.1, kfT (Fr.set1 _ gO _ _) hHeld.2.2⟩) | (exact hHeld))
              clear hK K
              try simp only [Act.put, List.getElem_toArray, List.getElem_cons_succ, List.getElem_cons_zero, List.setIfInBounds_toArray, List.set_cons_zero, List.set_cons_succ]
              refine wpAnyH_ready (rs := [2, 13]) (by kernel_rfl) (by simp) (AllReadyH.cons rfl (fun K hK => ?_) (AllReadyH.cons rfl (fun K hK => ?_) AllReadyH.nil))
              · go_simp
                obtain ⟨x2, hx2⟩ : ∃ x, World.drew (World.alloc wz (Obj.cells #[] 57)) = x := ⟨_, rfl⟩
                try rw [hx2]
                have HZ2 := hid (show wz.heap.size ≤ wz.drew.heap.size from (hHeld.2.2).out.size)
                have f0 : Fr No wz.drew x2 := by rw [← hx2]; exact fr1dd _ _
                have f : Fr (fun q => wz.heap.size ≤ q) wz.drew x2 := frB f0
                have FW := kfB f hHeld.2.2
                have FN := kfB f FN
                have O0 := hid (show Out wz.heap.size x2 (.slice (some ⟨wz.drew.heap.size, 0, none⟩) 0 0) [] by rw [← hx2]; exact own0 wz HZ2.out)
                have HS2 := hid (show x2.heap.size = (wz.drew).heap.size + 1 by rw [← hx2]; first | (simp; done) | (show (World.alloc wz _).heap.size = (wz).heap.size + 1; simp))
                clear f0 hx2
                refine hK.out _ _ ?_ (fun hHeld => ?_)
                · (try dsimp only); (first | (go_split_ands; exact ⟨kc f (by assumption), kc f (by assumption), by assumption⟩) | (go_split_ands; exact ⟨(by assumption), (by assumption), by assumption⟩) | (go_split_ands; exact ⟨kc (fr1 _ _) (by assumption), kc (fr1 _ _) (by assumption), kfa (by assumption)⟩) | (exact ⟨kcB f HLZ.out hHeld.1, kcB f HLZ.out hHeld.2.1, FW⟩) | (exact ⟨kcs (Fr.set1 _ gO _ _) HLG.out hHeld.1, kcs (Fr.set1 _ gO _ _) HLG.out hHeld.2.1, kfT (Fr.set1 _ gO _ _) hHeld.2.2⟩) | (exact hHeld))
                clear hK K
                try simp only [Act.put, List.getElem_toArray, List.getElem_cons_succ, List.getElem_cons_zero, List.setIfInBounds_toArray, List.set_cons_zero, List.set_cons_succ]
                refine wpAnyH_ready (rs := [8, 13]) (by kernel_rfl) (by simp) (AllReadyH.cons rfl (fun K hK => ?_) (AllReadyH.cons rfl (fun K hK => ?_) AllReadyH.nil))
                · refine app_st rfl (.tmp 75) (.tmp 80) rfl wz.heap.size (.slice (some ⟨wz.drew.heap.size, 0, none⟩) 0 0) [] rfl O0.out vA vn vc ([] : List Sp) rfl (rdS_lo2 HRG.out (hHeld.2.2).out HNG.out) (by have := HVN.out; simp; omega) (show wz.heap.size ≤ x2.heap.size from (hHeld.2.2).out.size) ?_
                  intro A8 c8 x8 o8 f8
                  try simp only [List.length_nil, Nat.zero_add, List.nil_append] at o8
                  try simp only [List.length_nil, Nat.zero_add]
                  have f : Fr (fun q => wz.heap.size ≤ q) x2 x8 := frO O0.out f8
                  have FW := kfB f hHeld.2.2
                  have FN := kfB f FN
                  have OX := hid o8
                  clear o8 f8
                  refine hK.out _ _ ?_ (fun hHeld => ?_)
                  · (try dsimp only); (first | (go_split_ands; exact ⟨kc f (by assumption), kc f (by assumption), by assumption⟩) | (go_split_ands; exact ⟨(by assumption), (by assumption), by assumption⟩) | (go_split_ands; exact ⟨kc (fr1 _ _) (by assumption), kc (fr1 _ _) (by assumption), kfa (by assumption)⟩) | (exact ⟨kcB f HLZ.out hHeld.1, kcB f HLZ.out hHeld.2.1, FW⟩) | (exact ⟨kcs (Fr.set1 _ gO _ _) HLG.out hHeld.1, kcs (Fr.set1 _ gO _ _) HLG.out hHeld.2.1, kfT (Fr.set1 _ gO _ _) hHeld.2.2⟩) | (exact hHeld))
                  clear hK K
                  try simp only [Act.put, List.getElem_toArray, List.getElem_cons_succ, List.getElem_cons_zero, List.setIfInBounds_toArray, List.set_cons_zero, List.set_cons_succ]
                  refine wpAnyH_ready (rs := [13]) (by kernel_rfl) (by simp) (AllReadyH.cons rfl (fun K hK => ?_) AllReadyH.nil)
                  go_simp
                  obtain ⟨x13, hx13⟩ : ∃ x, World.alloc x8 (Obj.cells #[.int .i64 p0, .int .i64 p1] 57) = x := ⟨_, rfl⟩
                  try rw [hx13]
                  have HZ13 := hid (show wz.heap.size ≤ x8.heap.size from (hHeld.2.2).out.size)
                  have f0 : Fr No x8 x13 := by rw [← hx13]; exact fr1 _ _
                  have f : Fr (fun q => wz.heap.size ≤ q) x8 x13 := frB f0
                  have FW := kfB f hHeld.2.2
                  have FN := kfB f FN
                  have RL := hid (show RdS x13 (some ⟨x8.heap.size, 0, none⟩) 1 [(p0, p1)] by rw [← hx13]; exact lit_rd x8 p0 p1)
                  have OX := hid (own_fr OX.out f0 (fun _ _ h => h))
                  clear f0 hx13
                  refine hK.out _ _ ?_ (fun hHeld => ?_)
                  · (try dsimp only); (first | (go_split_ands; exact ⟨kc f (by assumption), kc f (by assumption), by assumption⟩) | (go_split_ands; exact ⟨(by assumption), (by assumption), by assumption⟩) | (go_split_ands; exact ⟨kc (fr1 _ _) (by assumption), kc (fr1 _ _) (by assumption), kfa (by assumption)⟩) | (exact ⟨kcB f HLZ.out hHeld.1, kcB f HLZ.out hHeld.2.1, FW⟩) | (exact ⟨kcs (Fr.set1 _ gO _ _) HLG.out hHeld.1, kcs (Fr.set1 _ gO _ _) HLG.out hHeld.2.1, kfT (Fr.set1 _ gO _ _) hHeld.2.2⟩) | (exact hHeld))
                  clear hK K
                  try simp only [Act.put, List.getElem_toArray, List.getElem_cons_succ, List.getElem_cons_zero, List.setIfInBounds_toArray, List.set_cons_zero, List.set_cons_succ]
                  refine wpAnyH_ready (rs := [14]) (by kernel_rfl) (by simp) (AllReadyH.cons rfl (fun K hK => ?_) AllReadyH.nil)
                  refine app_st rfl (.tmp 81) (.tmp 86) rfl wz.heap.size _ ([] : List Sp) (by first | rfl | (rw [← HVE.out]; rfl)) (by have := OX.out; first | exact this | (rw [← HVE.out]; exact this)) (some ⟨x8.heap.size, 0, none⟩) 1 1 [(p0, p1)] rfl RL.out (by have := HVN.out; have := HVE.out; omega) (show wz.heap.size ≤ x13.heap.size from (hHeld.2.2).out.size) ?_
                  intro A14 c14 x14 o14 f14
                  have f : Fr (fun q => wz.heap.size ≤ q) x13 x14 := frO OX.out f14
                  have FW := kfB f hHeld.2.2
                  have FN := kfB f FN
                  have OY := hid o14
                  clear o14 f14
                  refine hK.out _ _ ?_ (fun hHeld => ?_)
                  · (try dsimp only); (first | (go_split_ands; exact ⟨kc f (by assumption), kc f (by assumption), by assumption⟩) | (go_split_ands; exact ⟨(by assumption), (by assumption), by assumption⟩) | (go_split_ands; exact ⟨kc (fr1 _ _) (by assumption), kc (fr1 _ _) (by assumption), kfa (by assumption)⟩) | (exact ⟨kcB f HLZ.out hHeld.1, kcB f HLZ.out hHeld.2.1, FW⟩) | (exact ⟨kcs (Fr.set1 _ gO _ _) HLG.out hHeld.1, kcs (Fr.set1 _ gO _ _) HLG.out hHeld.2.1, kfT (Fr.set1 _ gO _ _) hHeld.2.2⟩) | (exact hHeld))
                  clear hK K
                  try simp only [Act.put, List.getElem_toArray, List.getElem_cons_succ, List.getElem_cons_zero, List.setIfInBounds_toArray, List.set_cons_zero, List.set_cons_succ]
                  refine wpAnyH_take (i := 15) (v := ?v13) rfl (by kernel_rfl) (by kernel_rfl) (by kernel_rfl) (fun _ _ _ h => h) (Or.inl ⟨by kernel_rfl, ?y13⟩) (by assumption) ?_
                  case y13 => (intro w hSw; (try dsimp only at hSw); go_simp; all_goals with_reducible rfl)
                  try simp only [Act.put, List.getElem_toArray, List.getElem_cons_succ, List.getElem_cons_zero, List.setIfInBounds_toArray, List.set_cons_zero, List.set_cons_succ]
                  refine wpAnyH_take (i := 16) (v := (.pointer (some ⟨gO, m * 3 + 2, none⟩))) rfl (by kernel_rfl) (by kernel_rfl) (by kernel_rfl) (fun _ _ _ h => h) (Or.inl ⟨by kernel_rfl, fun w hSw => by first | (go_simp; done) | (go_simp; with_reducible rfl) | (go_simp; omega)⟩) (by assumption) ?_
                  try simp only [Act.put, List.getElem_toArray, List.getElem_cons_succ, List.getElem_cons_zero, List.setIfInBounds_toArray, List.set_cons_zero, List.set_cons_succ]
                  refine wpAnyH_ready (rs := [17]) (by kernel_rfl) (by simp) (AllReadyH.cons rfl (fun K hK => ?_) AllReadyH.nil)
                  obtain ⟨y9, z9, s9⟩ := row_at (HRZ.out.fr FN.out).row HVK.out
                  dsimp only [SV.v] at y9
                  go_simp
                  refine hK.out _ _ ?_ (fun hHeld => ?_)
                  · (try dsimp only); (first | (go_split_ands; exact ⟨kc f (by assumption), kc f (by assumption), by assumption⟩) | (go_split_ands; exact ⟨(by assumption), (by assumption), by assumption⟩) | (go_split_ands; exact ⟨kc (fr1 _ _) (by assumption), kc (fr1 _ _) (by assumption), kfa (by assumption)⟩) | (exact ⟨kcB f HLZ.out hHeld.1, kcB f HLZ.out hHeld.2.1, FW⟩) | (exact ⟨kcs (Fr.set1 _ gO _ _) HLG.out hHeld.1, kcs (Fr.set1 _ gO _ _) HLG.out hHeld.2.1, kfT (Fr.set1 _ gO _ _) hHeld.2.2⟩) | (exact hHeld))
                  clear hK K
                  try simp only [Act.put, List.getElem_toArray, List.getElem_cons_succ, List.getElem_cons_zero, List.setIfInBounds_toArray, List.set_cons_zero, List.set_cons_succ]
                  refine wpAnyH_done (by kernel_rfl) ?_ _
                  refine NoPanic.normal ?_
                  have FX := hHeld.2.2
                  clear hHeld
                  obtain ⟨s9a, s9b⟩ := s9 ⟨A14, ([] : List Sp).length + 1, c14⟩
                  dsimp only [SV.v] at s9a s9b
                  have HRE := hid (HR.put (v := ⟨A14, ([] : List Sp).length + 1, c14⟩) (HRZ.out.fr FN.out) (s9b.mono (fun q _ e => by rw [e]; rfl)) (by rw [HGL.out]; exact s9a) (Out.le OY.out HWZ.out) (by simp))
                  have HOE := hid (own_fr (HOLZ.out.fr FN.out) s9b (fun q hq e => HLG.out (by simp [Value.ownBlock] at hq; have e2 : q = gO := e; omega)))
                  have HFE := hid ((HFZ.out.trans FN.out).step s9b (fun q hq e => by have := HOG.out; have e2 : q = gO := e; omega))
                  go_wp2
                  go_roundw
                  case rel => (try refine ⟨_, _, ?_, rfl, rfl⟩); exact ⟨k + 1, vs2.set m ⟨A14, ([] : List Sp).length + 1, c14⟩, some ⟨gO, 0, none⟩, c3, by rw [HN.out]; omega, by go_num, by rw [List.length_set, HV2.out], by rw [HNX.out, HGN.out, ← HGL.out]; have h := HRE.out; rw [HGL.out] at h ⊢; exact h, HOE.out, HFE.out⟩
                  case measure => first | exact next_m _ _ hlt hw1 | exact next_p _ _ hlt
                · go_simp
                  obtain ⟨x13, hx13⟩ : ∃ x, World.alloc x2 (Obj.cells #[.int .i64 p0, .int .i64 p1] 57) = x := ⟨_, rfl⟩
                  try rw [hx13]
                  have HZ13 := hid (show wz.heap.size ≤ x2.heap.size from (hHeld.2.2).out.size)
                  have f0 : Fr No x2 x13 := by rw [← hx13]; exact fr1 _ _
                  have f : Fr (fun q => wz.heap.size ≤ q) x2 x13 := frB f0
                  have FW := kfB f hHeld.2.2
                  have FN := kfB f FN
                  have RL := hid (show RdS x13 (some ⟨x2.heap.size, 0, none⟩) 1 [(p0, p1)] by rw [← hx13]; exact lit_rd x2 p0 p1)
                  have O0 := hid (own_fr O0.out f0 (fun _ _ h => h))
                  have HLE := hid (show x2.heap.size ≠ (wz.drew).heap.size by have := HS2.out; omega)
                  clear f0 hx13
                  refine hK.out _ _ ?_ (fun hHeld => ?_)
                  · (try dsimp only); (first | (go_split_ands; exact ⟨kc f (by assumption), kc f (by assumption), by assumption⟩) | (go_split_ands; exact ⟨(by assumption), (by assumption), by assumption⟩) | (go_split_ands; exact ⟨kc (fr1 _ _) (by assumption), kc (fr1 _ _) (by assumption), kfa (by assumption)⟩) | (exact ⟨kcB f HLZ.out hHeld.1, kcB f HLZ.out hHeld.2.1, FW⟩) | (exact ⟨kcs (Fr.set1 _ gO _ _) HLG.out hHeld.1, kcs (Fr.set1 _ gO _ _) HLG.out hHeld.2.1, kfT (Fr.set1 _ gO _ _) hHeld.2.2⟩) | (exact hHeld))
                  clear hK K
                  try simp only [Act.put, List.getElem_toArray, List.getElem_cons_succ, List.getElem_cons_zero, List.setIfInBounds_toArray, List.set_cons_zero, List.set_cons_succ]
                  refine wpAnyH_ready (rs := [8]) (by kernel_rfl) (by simp) (AllReadyH.cons rfl (fun K hK => ?_) AllReadyH.nil)
                  refine app_st rfl (.tmp 75) (.tmp 80) rfl wz.heap.size (.slice (some ⟨wz.drew.heap.size, 0, none⟩) 0 0) [] rfl O0.out vA vn vc ([] : List Sp) rfl (rdS_lo2 HRG.out (hHeld.2.2).out HNG.out) (by have := HVN.out; simp; omega) (show wz.heap.size ≤ x13.heap.size from (hHeld.2.2).out.size) ?_
                  intro A8 c8 x8 o8 f8
                  try simp only [List.length_nil, Nat.zero_add, List.nil_append] at o8
                  try simp only [List.length_nil, Nat.zero_add]
                  have f : Fr (fun q => wz.heap.size ≤ q) x13 x8 := frO O0.out f8
                  have FW := kfB f hHeld.2.2
                  have FN := kfB f FN
                  have OX := hid o8
                  have RL := hid (rdS_lo2 RL.out f8 (fun g o h e => by cases h; exact HLE.out (Option.some.inj (show some (wz.drew).heap.size = some (x2).heap.size from e)).symm))
                  clear o8 f8
                  refine hK.out _ _ ?_ (fun hHeld => ?_)
                  · (try dsimp only); (first | (go_split_ands; exact ⟨kc f (by assumption), kc f (by assumption), by assumption⟩) | (go_split_ands; exact ⟨(by assumption), (by assumption), by assumption⟩) | (go_split_ands; exact ⟨kc (fr1 _ _) (by assumption), kc (fr1 _ _) (by assumption), kfa (by assumption)⟩) | (exact ⟨kcB f HLZ.out hHeld.1, kcB f HLZ.out hHeld.2.1, FW⟩) | (exact ⟨kcs (Fr.set1 _ gO _ _) HLG.out hHeld.1, kcs (Fr.set1 _ gO _ _) HLG.out hHeld.2.1, kfT (Fr.set1 _ gO _ _) hHeld.2.2⟩) | (exact hHeld))
                  clear hK K
                  try simp only [Act.put, List.getElem_toArray, List.getElem_cons_succ, List.getElem_cons_zero, List.setIfInBounds_toArray, List.set_cons_zero, List.set_cons_succ]
                  refine wpAnyH_ready (rs := [14]) (by kernel_rfl) (by simp) (AllReadyH.cons rfl (fun K hK => ?_) AllReadyH.nil)
                  refine app_st rfl (.tmp 81) (.tmp 86) rfl wz.heap.size _ ([] : List Sp) (by first | rfl | (rw [← HVE.out]; rfl)) (by have := OX.out; first | exact this | (rw [← HVE.out]; exact this)) (some ⟨x2.heap.size, 0, none⟩) 1 1 [(p0, p1)] rfl RL.out (by have := HVN.out; have := HVE.out; omega) (show wz.heap.size ≤ x8.heap.size from (hHeld.2.2).out.size) ?_
                  intro A14 c14 x14 o14 f14
                  have f : Fr (fun q => wz.heap.size ≤ q) x8 x14 := frO OX.out f14
                  have FW := kfB f hHeld.2.2
                  have FN := kfB f FN
                  have OY := hid o14
                  clear o14 f14
                  refine hK.out _ _ ?_ (fun hHeld => ?_)
                  · (try dsimp only); (first | (go_split_ands; exact ⟨kc f (by assumption), kc f (by assumption), by assumption⟩) | (go_split_ands; exact ⟨(by assumption), (by assumption), by assumption⟩) | (go_split_ands; exact ⟨kc (fr1 _ _) (by assumption), kc (fr1 _ _) (by assumption), kfa (by assumption)⟩) | (exact ⟨kcB f HLZ.out hHeld.1, kcB f HLZ.out hHeld.2.1, FW⟩) | (exact ⟨kcs (Fr.set1 _ gO _ _) HLG.out hHeld.1, kcs (Fr.set1 _ gO _ _) HLG.out hHeld.2.1, kfT (Fr.set1 _ gO _ _) hHeld.2.2⟩) | (exact hHeld))
                  clear hK K
                  try simp only [Act.put, List.getElem_toArray, List.getElem_cons_succ, List.getElem_cons_zero, List.setIfInBounds_toArray, List.set_cons_zero, List.set_cons_succ]
                  refine wpAnyH_take (i := 15) (v := ?v14) rfl (by kernel_rfl) (by kernel_rfl) (by kernel_rfl) (fun _ _ _ h => h) (Or.inl ⟨by kernel_rfl, ?y14⟩) (by assumption) ?_
                  case y14 => (intro w hSw; (try dsimp only at hSw); go_simp; all_goals with_reducible rfl)
                  try simp only [Act.put, List.getElem_toArray, List.getElem_cons_succ, List.getElem_cons_zero, List.setIfInBounds_toArray, List.set_cons_zero, List.set_cons_succ]
                  refine wpAnyH_take (i := 16) (v := (.pointer (some ⟨gO, m * 3 + 2, none⟩))) rfl (by kernel_rfl) (by kernel_rfl) (by kernel_rfl) (fun _ _ _ h => h) (Or.inl ⟨by kernel_rfl, fun w hSw => by first | (go_simp; done) | (go_simp; with_reducible rfl) | (go_simp; omega)⟩) (by assumption) ?_
                  try simp only [Act.put, List.getElem_toArray, List.getElem_cons_succ, List.getElem_cons_zero, List.setIfInBounds_toArray, List.set_cons_zero, List.set_cons_succ]
                  refine wpAnyH_ready (rs := [17]) (by kernel_rfl) (by simp) (AllReadyH.cons rfl (fun K hK => ?_) AllReadyH.nil)
                  obtain ⟨y9, z9, s9⟩ := row_at (HRZ.out.fr FN.out).row HVK.out
                  dsimp only [SV.v] at y9
                  go_simp
                  refine hK.out _ _ ?_ (fun hHeld => ?_)
                  · (try dsimp only); (first | (go_split_ands; exact ⟨kc f (by assumption), kc f (by assumption), by assumption⟩) | (go_split_ands; exact ⟨(by assumption), (by assumption), by assumption⟩) | (go_split_ands; exact ⟨kc (fr1 _ _) (by assumption), kc (fr1 _ _) (by assumption), kfa (by assumption)⟩) | (exact ⟨kcB f HLZ.out hHeld.1, kcB f HLZ.out hHeld.2.1, FW⟩) | (exact ⟨kcs (Fr.set1 _ gO _ _) HLG.out hHeld.1, kcs (Fr.set1 _ gO _ _) HLG.out hHeld.2.1, kfT (Fr.set1 _ gO _ _) hHeld.2.2⟩) | (exact hHeld))
                  clear hK K
                  try simp only [Act.put, List.getElem_toArray, List.getElem_cons_succ, List.getElem_cons_zero, List.setIfInBounds_toArray, List.set_cons_zero, List.set_cons_succ]
                  refine wpAnyH_done (by kernel_rfl) ?_ _
                  refine NoPanic.normal ?_
                  have FX := hHeld.2.2
                  clear hHeld
                  obtain ⟨s9a, s9b⟩ := s9 ⟨A14, ([] : List Sp).length + 1, c14⟩
                  dsimp only [SV.v] at s9a s9b
                  have HRE := hid (HR.put (v := ⟨A14, ([] : List Sp).length + 1, c14⟩) (HRZ.out.fr FN.out) (s9b.mono (fun q _ e => by rw [e]; rfl)) (by rw [HGL.out]; exact s9a) (Out.le OY.out HWZ.out) (by simp))
                  have HOE := hid (own_fr (HOLZ.out.fr FN.out) s9b (fun q hq e => HLG.out (by simp [Value.ownBlock] at hq; have e2 : q = gO := e; omega)))
                  have HFE := hid ((HFZ.out.trans FN.out).step s9b (fun q hq e => by have := HOG.out; have e2 : q = gO := e; omega))
                  go_wp2
                  go_roundw
                  case rel => (try refine ⟨_, _, ?_, rfl, rfl⟩); exact ⟨k + 1, vs2.set m ⟨A14, ([] : List Sp).length + 1, c14⟩, some ⟨gO, 0, none⟩, c3, by rw [HN.out]; omega, by go_num, by rw [List.length_set, HV2.out], by rw [HNX.out, HGN.out, ← HGL.out]; have h := HRE.out; rw [HGL.out] at h ⊢; exact h, HOE.out, HFE.out⟩
                  case measure => first | exact next_m _ _ hlt hw1 | exact next_p _ _ hlt
              · go_simp
                obtain ⟨x13, hx13⟩ : ∃ x, World.drew (World.alloc wz (Obj.cells #[.int .i64 p0, .int .i64 p1] 57)) = x := ⟨_, rfl⟩
                try rw [hx13]
                have HZ13 := hid (show wz.heap.size ≤ wz.drew.heap.size from (hHeld.2.2).out.size)
                have f0 : Fr No wz.drew x13 := by rw [← hx13]; exact fr1dd _ _
                have f : Fr (fun q => wz.heap.size ≤ q) wz.drew x13 := frB f0
                have FW := kfB f hHeld.2.2
                have FN := kfB f FN
                have RL := hid (show RdS x13 (some ⟨wz.drew.heap.size, 0, none⟩) 1 [(p0, p1)] by rw [← hx13]; exact lit_rd wz p0 p1)
                have HS13 := hid (show x13.heap.size = (wz.drew).heap.size + 1 by rw [← hx13]; first | (simp; done) | (show (World.alloc wz _).heap.size = (wz).heap.size + 1; simp))
                clear f0 hx13
                refine hK.out _ _ ?_ (fun hHeld => ?_)
                · (try dsimp only); (first | (go_split_ands; exact ⟨kc f (by assumption), kc f (by assumption), by assumption⟩) | (go_split_ands; exact ⟨(by assumption), (by assumption), by assumption⟩) | (go_split_ands; exact ⟨kc (fr1 _ _) (by assumption), kc (fr1 _ _) (by assumption), kfa (by assumption)⟩) | (exact ⟨kcB f HLZ.out hHeld.1, kcB f HLZ.out hHeld.2.1, FW⟩) | (exact ⟨kcs (Fr.set1 _ gO _ _) HLG.out hHeld.1, kcs (Fr.set1 _ gO _ _) HLG.out hHeld.2.1, kfT (Fr.set1 _ gO _ _) hHeld.2.2⟩) | (exact hHeld))
                clear hK K
                try simp only [Act.put, List.getElem_toArray, List.getElem_cons_succ, List.getElem_cons_zero, List.setIfInBounds_toArray, List.set_cons_zero, List.set_cons_succ]
                refine wpAnyH_ready (rs := [2]) (by kernel_rfl) (by simp) (AllReadyH.cons rfl (fun K hK => ?_) AllReadyH.nil)
                go_simp
                obtain ⟨x2, hx2⟩ : ∃ x, World.alloc x13 (Obj.cells #[] 57) = x := ⟨_, rfl⟩
                try rw [hx2]
                have HZ2 := hid (show wz.heap.size ≤ x13.heap.size from (hHeld.2.2).out.size)
                have f0 : Fr No x13 x2 := by rw [← hx2]; exact fr1 _ _
                have f : Fr (fun q => wz.heap.size ≤ q) x13 x2 := frB f0
                have FW := kfB f hHeld.2.2
                have FN := kfB f FN
                have O0 := hid (show Out wz.heap.size x2 (.slice (some ⟨x13.heap.size, 0, none⟩) 0 0) [] by rw [← hx2]; exact own0 x13 HZ2.out)
                have RL := hid (rdS_lo2 RL.out f0 (fun _ _ _ h => h))
                have HLE := hid (show (wz.drew).heap.size ≠ x13.heap.size by have := HS13.out; omega)
                clear f0 hx2
                refine hK.out _ _ ?_ (fun hHeld => ?_)
                · (try dsimp only); (first | (go_split_ands; exact ⟨kc f (by assumption), kc f (by assumption), by assumption⟩) | (go_split_ands; exact ⟨(by assumption), (by assumption), by assumption⟩) | (go_split_ands; exact ⟨kc (fr1 _ _) (by assumption), kc (fr1 _ _) (by assumption), kfa (by assumption)⟩) | (exact ⟨kcB f HLZ.out hHeld.1, kcB f HLZ.out hHeld.2.1, FW⟩) | (exact ⟨kcs (Fr.set1 _ gO _ _) HLG.out hHeld.1, kcs (Fr.set1 _ gO _ _) HLG.out hHeld.2.1, kfT (Fr.set1 _ gO _ _) hHeld.2.2⟩) | (exact hHeld))
                clear hK K
                try simp only [Act.put, List.getElem_toArray, List.getElem_cons_succ, List.getElem_cons_zero, List.setIfInBounds_toArray, List.set_cons_zero, List.set_cons_succ]
                refine wpAnyH_ready (rs := [8]) (by kernel_rfl) (by simp) (AllReadyH.cons rfl (fun K hK => ?_) AllReadyH.nil)
                refine app_st rfl (.tmp 75) (.tmp 80) rfl wz.heap.size (.slice (some ⟨x13.heap.size, 0, none⟩) 0 0) [] rfl O0.out vA vn vc ([] : List Sp) rfl (rdS_lo2 HRG.out (hHeld.2.2).out HNG.out) (by have := HVN.out; simp; omega) (show wz.heap.size ≤ x2.heap.size from (hHeld.2.2).out.size) ?_
                intro A8 c8 x8 o8 f8
                try simp only [List.length_nil, Nat.zero_add, List.nil_append] at o8
                try simp only [List.length_nil, Nat.zero_add]
                have f : Fr (fun q => wz.heap.size ≤ q) x2 x8 := frO O0.out f8
                have FW := kfB f hHeld.2.2
                have FN := kfB f FN
                have OX := hid o8
                have RL := hid (rdS_lo2 RL.out f8 (fun g o h e => by cases h; exact HLE.out (Option.some.inj (show some (x13).heap.size = some (wz.drew).heap.size from e)).symm))
                clear o8 f8
                refine hK.out _ _ ?_ (fun hHeld => ?_)
                · (try dsimp only); (first | (go_split_ands; exact ⟨kc f (by assumption), kc f (by assumption), by assumption⟩) | (go_split_ands; exact ⟨(by assumption), (by assumption), by assumption⟩) | (go_split_ands; exact ⟨kc (fr1 _ _) (by assumption), kc (fr1 _ _) (by assumption), kfa (by assumption)⟩) | (exact ⟨kcB f HLZ.out hHeld.1, kcB f HLZ.out hHeld.2.1, FW⟩) | (exact ⟨kcs (Fr.set1 _ gO _ _) HLG.out hHeld.1, kcs (Fr.set1 _ gO _ _) HLG.out hHeld.2.1, kfT (Fr.set1 _ gO _ _) hHeld.2.2⟩) | (exact hHeld))
                clear hK K
                try simp only [Act.put, List.getElem_toArray, List.getElem_cons_succ, List.getElem_cons_zero, List.setIfInBounds_toArray, List.set_cons_zero, List.set_cons_succ]
                refine wpAnyH_ready (rs := [14]) (by kernel_rfl) (by simp) (AllReadyH.cons rfl (fun K hK => ?_) AllReadyH.nil)
                refine app_st rfl (.tmp 81) (.tmp 86) rfl wz.heap.size _ ([] : List Sp) (by first | rfl | (rw [← HVE.out]; rfl)) (by have := OX.out; first | exact this | (rw [← HVE.out]; exact this)) (some ⟨wz.drew.heap.size, 0, none⟩) 1 1 [(p0, p1)] rfl RL.out (by have := HVN.out; have := HVE.out; omega) (show wz.heap.size ≤ x8.heap.size from (hHeld.2.2).out.size) ?_
                intro A14 c14 x14 o14 f14
                have f : Fr (fun q => wz.heap.size ≤ q) x8 x14 := frO OX.out f14
                have FW := kfB f hHeld.2.2
                have FN := kfB f FN
                have OY := hid o14
                clear o14 f14
                refine hK.out _ _ ?_ (fun hHeld => ?_)
                · (try dsimp only); (first | (go_split_ands; exact ⟨kc f (by assumption), kc f (by assumption), by assumption⟩) | (go_split_ands; exact ⟨(by assumption), (by assumption), by assumption⟩) | (go_split_ands; exact ⟨kc (fr1 _ _) (by assumption), kc (fr1 _ _) (by assumption), kfa (by assumption)⟩) | (exact ⟨kcB f HLZ.out hHeld.1, kcB f HLZ.out hHeld.2.1, FW⟩) | (exact ⟨kcs (Fr.set1 _ gO _ _) HLG.out hHeld.1, kcs (Fr.set1 _ gO _ _) HLG.out hHeld.2.1, kfT (Fr.set1 _ gO _ _) hHeld.2.2⟩) | (exact hHeld))
                clear hK K
                try simp only [Act.put, List.getElem_toArray, List.getElem_cons_succ, List.getElem_cons_zero, List.setIfInBounds_toArray, List.set_cons_zero, List.set_cons_succ]
                refine wpAnyH_take (i := 15) (v := ?v15) rfl (by kernel_rfl) (by kernel_rfl) (by kernel_rfl) (fun _ _ _ h => h) (Or.inl ⟨by kernel_rfl, ?y15⟩) (by assumption) ?_
                case y15 => (intro w hSw; (try dsimp only at hSw); go_simp; all_goals with_reducible rfl)
                try simp only [Act.put, List.getElem_toArray, List.getElem_cons_succ, List.getElem_cons_zero, List.setIfInBounds_toArray, List.set_cons_zero, List.set_cons_succ]
                refine wpAnyH_take (i := 16) (v := (.pointer (some ⟨gO, m * 3 + 2, none⟩))) rfl (by kernel_rfl) (by kernel_rfl) (by kernel_rfl) (fun _ _ _ h => h) (Or.inl ⟨by kernel_rfl, fun w hSw => by first | (go_simp; done) | (go_simp; with_reducible rfl) | (go_simp; omega)⟩) (by assumption) ?_
                try simp only [Act.put, List.getElem_toArray, List.getElem_cons_succ, List.getElem_cons_zero, List.setIfInBounds_toArray, List.set_cons_zero, List.set_cons_succ]
                refine wpAnyH_ready (rs := [17]) (by kernel_rfl) (by simp) (AllReadyH.cons rfl (fun K hK => ?_) AllReadyH.nil)
                obtain ⟨y9, z9, s9⟩ := row_at (HRZ.out.fr FN.out).row HVK.out
                dsimp only [SV.v] at y9
                go_simp
                refine hK.out _ _ ?_ (fun hHeld => ?_)
                · (try dsimp only); (first | (go_split_ands; exact ⟨kc f (by assumption), kc f (by assumption), by assumption⟩) | (go_split_ands; exact ⟨(by assumption), (by assumption), by assumption⟩) | (go_split_ands; exact ⟨kc (fr1 _ _) (by assumption), kc (fr1 _ _) (by assumption), kfa (by assumption)⟩) | (exact ⟨kcB f HLZ.out hHeld.1, kcB f HLZ.out hHeld.2.1, FW⟩) | (exact ⟨kcs (Fr.set1 _ gO _ _) HLG.out hHeld.1, kcs (Fr.set1 _ gO _ _) HLG.out hHeld.2.1, kfT (Fr.set1 _ gO _ _) hHeld.2.2⟩) | (exact hHeld))
                clear hK K
                try simp only [Act.put, List.getElem_toArray, List.getElem_cons_succ, List.getElem_cons_zero, List.setIfInBounds_toArray, List.set_cons_zero, List.set_cons_succ]
                refine wpAnyH_done (by kernel_rfl) ?_ _
                refine NoPanic.normal ?_
                have FX := hHeld.2.2
                clear hHeld
                obtain ⟨s9a, s9b⟩ := s9 ⟨A14, ([] : List Sp).length + 1, c14⟩
                dsimp only [SV.v] at s9a s9b
                have HRE := hid (HR.put (v := ⟨A14, ([] : List Sp).length + 1, c14⟩) (HRZ.out.fr FN.out) (s9b.mono (fun q _ e => by rw [e]; rfl)) (by rw [HGL.out]; exact s9a) (Out.le OY.out HWZ.out) (by simp))
                have HOE := hid (own_fr (HOLZ.out.fr FN.out) s9b (fun q hq e => HLG.out (by simp [Value.ownBlock] at hq; have e2 : q = gO := e; omega)))
                have HFE := hid ((HFZ.out.trans FN.out).step s9b (fun q hq e => by have := HOG.out; have e2 : q = gO := e; omega))
                go_wp2
                go_roundw
                case rel => (try refine ⟨_, _, ?_, rfl, rfl⟩); exact ⟨k + 1, vs2.set m ⟨A14, ([] : List Sp).length + 1, c14⟩, some ⟨gO, 0, none⟩, c3, by rw [HN.out]; omega, by go_num, by rw [List.length_set, HV2.out], by rw [HNX.out, HGN.out, ← HGL.out]; have h := HRE.out; rw [HGL.out] at h ⊢; exact h, HOE.out, HFE.out⟩
                case measure => first | exact next_m _ _ hlt hw1 | exact next_p _ _ hlt
            · go_simp
              obtain ⟨x13, hx13⟩ : ∃ x, World.drew (World.alloc wz (Obj.cells #[.int .i64 p0, .int .i64 p1] 57)) = x := ⟨_, rfl⟩
              try rw [hx13]
              have HZ13 := hid (show wz.heap.size ≤ wz.drew.heap.size from (hHeld.2.2).out.size)
              have f0 : Fr No wz.drew x13 := by rw [← hx13]; exact fr1dd _ _
              have f : Fr (fun q => wz.heap.size ≤ q) wz.drew x13 := frB f0
              have FW := kfB f hHeld.2.2
              have FN := kfB f FN
              have RL := hid (show RdS x13 (some ⟨wz.drew.heap.size, 0, none⟩) 1 [(p0, p1)] by rw [← hx13]; exact lit_rd wz p0 p1)
              have HS13 := hid (show x13.heap.size = (wz.drew).heap.size + 1 by rw [← hx13]; first | (simp; done) | (show (World.alloc wz _).heap.size = (wz).heap.size + 1; simp))
              clear f0 hx13
              refine hK.out _ _ ?_ (fun hHeld => ?_)
              · (try dsimp only); (first | (go_split_ands; exact ⟨kc f (by assumption), kc f (by assumption), by assumption⟩) | (go_split_ands; exact ⟨(by assumption), (by assumption), by assumption⟩) | (go_split_ands; exact ⟨kc (fr1 _ _) (by assumption), kc (fr1 _ _) (by assumption), kfa (by assumption)⟩) | (exact ⟨kcB f HLZ.out hHeld.1, kcB f HLZ.out hHeld.2.1, FW⟩) | (exact ⟨kcs (Fr.set1 _ gO _ _) HLG.out hHeld.1, kcs (Fr.set1 _ gO _ _) HLG.out hHeld.2.1, kfT (Fr.set1 _ gO _ _) hHeld.2.2⟩) | (exact hHeld))
              clear hK K
              try simp only [Act.put, List.getElem_toArray, List.getElem_cons_succ, List.getElem_cons_zero, List.setIfInBounds_toArray, List.set_cons_zero, List.set_cons_succ]
              refine wpAnyH_ready (rs := [2, 7]) (by kernel_rfl) (by simp) (AllReadyH.cons rfl (fun K hK => ?_) (AllReadyH.cons rfl (fun K hK => ?_) AllReadyH.nil))
              · go_simp
                obtain ⟨x2, hx2⟩ : ∃ x, World.alloc x13 (Obj.cells #[] 57) = x := ⟨_, rfl⟩
                try rw [hx2]
                have HZ2 := hid (show wz.heap.size ≤ x13.heap.size from (hHeld.2.2).out.size)
                have f0 : Fr No x13 x2 := by rw [← hx2]; exact fr1 _ _
                have f : Fr (fun q => wz.heap.size ≤ q) x13 x2 := frB f0
                have FW := kfB f hHeld.2.2
                have FN := kfB f FN
                have O0 := hid (show Out wz.heap.size x2 (.slice (some ⟨x13.heap.size, 0, none⟩) 0 0) [] by rw [← hx2]; exact own0 x13 HZ2.out)
                have RL := hid (rdS_lo2 RL.out f0 (fun _ _ _ h => h))
                have HLE := hid (show (wz.drew).heap.size ≠ x13.heap.size by have := HS13.out; omega)
                clear f0 hx2
                refine hK.out _ _ ?_ (fun hHeld => ?_)
                · (try dsimp only); (first | (go_split_ands; exact ⟨kc f (by assumption), kc f (by assumption), by assumption⟩) | (go_split_ands; exact ⟨(by assumption), (by assumption), by assumption⟩) | (go_split_ands; exact ⟨kc (fr1 _ _) (by assumption), kc (fr1 _ _) (by assumption), kfa (by assumption)⟩) | (exact ⟨kcB f HLZ.out hHeld.1, kcB f HLZ.out hHeld.2.1, FW⟩) | (exact ⟨kcs (Fr.set1 _ gO _ _) HLG.out hHeld.1, kcs (Fr.set1 _ gO _ _) HLG.out hHeld.2.1, kfT (Fr.set1 _ gO _ _) hHeld.2.2⟩) | (exact hHeld))
                clear hK K
                try simp only [Act.put, List.getElem_toArray, List.getElem_cons_succ, List.getElem_cons_zero, List.setIfInBounds_toArray, List.set_cons_zero, List.set_cons_succ]
                refine wpAnyH_ready (rs := [7]) (by kernel_rfl) (by simp) (AllReadyH.cons rfl (fun K hK => ?_) AllReadyH.nil)
                have y7 := (row_at (HRZ.out.fr FN.out).row HVK.out).1
                dsimp only [SV.v] at y7
                go_simp
                have FW := hHeld.2.2
                refine hK.out _ _ ?_ (fun hHeld => ?_)
                · (try dsimp only); (first | (go_split_ands; exact ⟨kc f (by assumption), kc f (by assumption), by assumption⟩) | (go_split_ands; exact ⟨(by assumption), (by assumption), by assumption⟩) | (go_split_ands; exact ⟨kc (fr1 _ _) (by assumption), kc (fr1 _ _) (by assumption), kfa (by assumption)⟩) | (exact ⟨kcB f HLZ.out hHeld.1, kcB f HLZ.out hHeld.2.1, FW⟩) | (exact ⟨kcs (Fr.set1 _ gO _ _) HLG.out hHeld.1, kcs (Fr.set1 _ gO _ _) HLG.out hHeld.2.1, kfT (Fr.set1 _ gO _ _) hHeld.2.2⟩) | (exact hHeld))
                clear hK K
                try simp only [Act.put, List.getElem_toArray, List.getElem_cons_succ, List.getElem_cons_zero, List.setIfInBounds_toArray, List.set_cons_zero, List.set_cons_succ]
                refine wpAnyH_ready (rs := [8]) (by kernel_rfl) (by simp) (AllReadyH.cons rfl (fun K hK => ?_) AllReadyH.nil)
                refine app_st rfl (.tmp 75) (.tmp 80) rfl wz.heap.size (.slice (some ⟨x13.heap.size, 0, none⟩) 0 0) [] rfl O0.out vA vn vc ([] : List Sp) rfl (rdS_lo2 HRG.out (hHeld.2.2).out HNG.out) (by have := HVN.out; simp; omega) (show wz.heap.size ≤ x2.heap.size from (hHeld.2.2).out.size) ?_
                intro A8 c8 x8 o8 f8
                try simp only [List.length_nil, Nat.zero_add, List.nil_append] at o8
                try simp only [List.length_nil, Nat.zero_add]
                have f : Fr (fun q => wz.heap.size ≤ q) x2 x8 := frO O0.out f8
                have FW := kfB f hHeld.2.2
                have FN := kfB f FN
                have OX := hid o8
                have RL := hid (rdS_lo2 RL.out f8 (fun g o h e => by cases h; exact HLE.out (Option.some.inj (show some (x13).heap.size = some (wz.drew).heap.size from e)).symm))
                clear o8 f8
                refine hK.out _ _ ?_ (fun hHeld => ?_)
                · (try dsimp only); (first | (go_split_ands; exact ⟨kc f (by assumption), kc f (by assumption), by assumption⟩) | (go_split_ands; exact ⟨(by assumption), (by assumption), by assumption⟩) | (go_split_ands; exact ⟨kc (fr1 _ _) (by assumption), kc (fr1 _ _) (by assumption), kfa (by assumption)⟩) | (exact ⟨kcB f HLZ.out hHeld.1, kcB f HLZ.out hHeld.2.1, FW⟩) | (exact ⟨kcs (Fr.set1 _ gO _ _) HLG.out hHeld.1, kcs (Fr.set1 _ gO _ _) HLG.out hHeld.2.1, kfT (Fr.set1 _ gO _ _) hHeld.2.2⟩) | (exact hHeld))
                clear hK K
                try simp only [Act.put, List.getElem_toArray, List.getElem_cons_succ, List.getElem_cons_zero, List.setIfInBounds_toArray, List.set_cons_zero, List.set_cons_succ]
                refine wpAnyH_ready (rs := [14]) (by kernel_rfl) (by simp) (AllReadyH.cons rfl (fun K hK => ?_) AllReadyH.nil)
                refine app_st rfl (.tmp 81) (.tmp 86) rfl wz.heap.size _ ([] : List Sp) (by first | rfl | (rw [← HVE.out]; rfl)) (by have := OX.out; first | exact this | (rw [← HVE.out]; exact this)) (some ⟨wz.drew.heap.size, 0, none⟩) 1 1 [(p0, p1)] rfl RL.out (by have := HVN.out; have := HVE.out; omega) (show wz.heap.size ≤ x8.heap.size from (hHeld.2.2).out.size) ?_
                intro A14 c14 x14 o14 f14
                have f : Fr (fun q => wz.heap.size ≤ q) x8 x14 := frO OX.out f14
                have FW := kfB f hHeld.2.2
                have FN := kfB f FN
                have OY := hid o14
                clear o14 f14
                refine hK.out _ _ ?_ (fun hHeld => ?_)
                · (try dsimp only); (first | (go_split_ands; exact ⟨kc f (by assumption), kc f (by assumption), by assumption⟩) | (go_split_ands; exact ⟨(by assumption), (by assumption), by assumption⟩) | (go_split_ands; exact ⟨kc (fr1 _ _) (by assumption), kc (fr1 _ _) (by assumption), kfa (by assumption)⟩) | (exact ⟨kcB f HLZ.out hHeld.1, kcB f HLZ.out hHeld.2.1, FW⟩) | (exact ⟨kcs (Fr.set1 _ gO _ _) HLG.out hHeld.1, kcs (Fr.set1 _ gO _ _) HLG.out hHeld.2.1, kfT (Fr.set1 _ gO _ _) hHeld.2.2⟩) | (exact hHeld))
                clear hK K
                try simp only [Act.put, List.getElem_toArray, List.getElem_cons_succ, List.getElem_cons_zero, List.setIfInBounds_toArray, List.set_cons_zero, List.set_cons_succ]
                refine wpAnyH_take (i := 15) (v := ?v16) rfl (by kernel_rfl) (by kernel_rfl) (by kernel_rfl) (fun _ _ _ h => h) (Or.inl ⟨by kernel_rfl, ?y16⟩) (by assumption) ?_
                case y16 => (intro w hSw; (try dsimp only at hSw); go_simp; all_goals with_reducible rfl)
                try simp only [Act.put, List.getElem_toArray, List.getElem_cons_succ, List.getElem_cons_zero, List.setIfInBounds_toArray, List.set_cons_zero, List.set_cons_succ]
                refine wpAnyH_take (i := 16) (v := (.pointer (some ⟨gO, m * 3 + 2, none⟩))) rfl (by kernel_rfl) (by kernel_rfl) (by kernel_rfl) (fun _ _ _ h => h) (Or.inl ⟨by kernel_rfl, fun w hSw => by first | (go_simp; done) | (go_simp; with_reducible rfl) | (go_simp; omega)⟩) (by assumption) ?_
                try simp only [Act.put, List.getElem_toArray, List.getElem_cons_succ, List.getElem_cons_zero, List.setIfInBounds_toArray, List.set_cons_zero, List.set_cons_succ]
                refine wpAnyH_ready (rs := [17]) (by kernel_rfl) (by simp) (AllReadyH.cons rfl (fun K hK => ?_) AllReadyH.nil)
                obtain ⟨y9, z9, s9⟩ := row_at (HRZ.out.fr FN.out).row HVK.out
                dsimp only [SV.v] at y9
                go_simp
                refine hK.out _ _ ?_ (fun hHeld => ?_)
                · (try dsimp only); (first | (go_split_ands; exact ⟨kc f (by assumption), kc f (by assumption), by assumption⟩) | (go_split_ands; exact ⟨(by assumption), (by assumption), by assumption⟩) | (go_split_ands; exact ⟨kc (fr1 _ _) (by assumption), kc (fr1 _ _) (by assumption), kfa (by assumption)⟩) | (exact ⟨kcB f HLZ.out hHeld.1, kcB f HLZ.out hHeld.2.1, FW⟩) | (exact ⟨kcs (Fr.set1 _ gO _ _) HLG.out hHeld.1, kcs (Fr.set1 _ gO _ _) HLG.out hHeld.2.1, kfT (Fr.set1 _ gO _ _) hHeld.2.2⟩) | (exact hHeld))
                clear hK K
                try simp only [Act.put, List.getElem_toArray, List.getElem_cons_succ, List.getElem_cons_zero, List.setIfInBounds_toArray, List.set_cons_zero, List.set_cons_succ]
                refine wpAnyH_done (by kernel_rfl) ?_ _
                refine NoPanic.normal ?_
                have FX := hHeld.2.2
                clear hHeld
                obtain ⟨s9a, s9b⟩ := s9 ⟨A14, ([] : List Sp).length + 1, c14⟩
                dsimp only [SV.v] at s9a s9b
                have HRE := hid (HR.put (v := ⟨A14, ([] : List Sp).length + 1, c14⟩) (HRZ.out.fr FN.out) (s9b.mono (fun q _ e => by rw [e]; rfl)) (by rw [HGL.out]; exact s9a) (Out.le OY.out HWZ.out) (by simp))
                have HOE := hid (own_fr (HOLZ.out.fr FN.out) s9b (fun q hq e => HLG.out (by simp [Value.ownBlock] at hq; have e2 : q = gO := e; omega)))
                have HFE := hid ((HFZ.out.trans FN.out).step s9b (fun q hq e => by have := HOG.out; have e2 : q = gO := e; omega))
                go_wp2
                go_roundw
                case rel => (try refine ⟨_, _, ?_, rfl, rfl⟩); exact ⟨k + 1, vs2.set m ⟨A14, ([] : List Sp).length + 1, c14⟩, some ⟨gO, 0, none⟩, c3, by rw [HN.out]; omega, by go_num, by rw [List.length_set, HV2.out], by rw [HNX.out, HGN.out, ← HGL.out]; have h := HRE.out; rw [HGL.out] at h ⊢; exact h, HOE.out, HFE.out⟩
                case measure => first | exact next_m _ _ hlt hw1 | exact next_p _ _ hlt
              · have y7 := (row_at (HRZ.out.fr FN.out).row HVK.out).1
                dsimp only [SV.v] at y7
                go_simp
                have FW := hHeld.2.2
                refine hK.out _ _ ?_ (fun hHeld => ?_)
                · (try dsimp only); (first | (go_split_ands; exact ⟨kc f (by assumption), kc f (by assumption), by assumption⟩) | (go_split_ands; exact ⟨(by assumption), (by assumption), by assumption⟩) | (go_split_ands; exact ⟨kc (fr1 _ _) (by assumption), kc (fr1 _ _) (by assumption), kfa (by assumption)⟩) | (exact ⟨kcB f HLZ.out hHeld.1, kcB f HLZ.out hHeld.2.1, FW⟩) | (exact ⟨kcs (Fr.set1 _ gO _ _) HLG.out hHeld.1, kcs (Fr.set1 _ gO _ _) HLG.out hHeld.2.1, kfT (Fr.set1 _ gO _ _) hHeld.2.2⟩) | (exact hHeld))
                clear hK K
                try simp only [Act.put, List.getElem_toArray, List.getElem_cons_succ, List.getElem_cons_zero, List.setIfInBounds_toArray, List.set_cons_zero, List.set_cons_succ]
                refine wpAnyH_ready (rs := [2]) (by kernel_rfl) (by simp) (AllReadyH.cons rfl (fun K hK => ?_) AllReadyH.nil)
                go_simp
                obtain ⟨x2, hx2⟩ : ∃ x, World.alloc x13 (Obj.cells #[] 57) = x := ⟨_, rfl⟩
                try rw [hx2]
                have HZ2 := hid (show wz.heap.size ≤ x13.heap.size from (hHeld.2.2).out.size)
                have f0 : Fr No x13 x2 := by rw [← hx2]; exact fr1 _ _
                have f : Fr (fun q => wz.heap.size ≤ q) x13 x2 := frB f0
                have FW := kfB f hHeld.2.2
                have FN := kfB f FN
                have O0 := hid (show Out wz.heap.size x2 (.slice (some ⟨x13.heap.size, 0, none⟩) 0 0) [] by rw [← hx2]; exact own0 x13 HZ2.out)
                have RL := hid (rdS_lo2 RL.out f0 (fun _ _ _ h => h))
                have HLE := hid (show (wz.drew).heap.size ≠ x13.heap.size by have := HS13.out; omega)
                clear f0 hx2
                refine hK.out _ _ ?_ (fun hHeld => ?_)
                · (try dsimp only); (first | (go_split_ands; exact ⟨kc f (by assumption), kc f (by assumption), by assumption⟩) | (go_split_ands; exact ⟨(by assumption), (by assumption), by assumption⟩) | (go_split_ands; exact ⟨kc (fr1 _ _) (by assumption), kc (fr1 _ _) (by assumption), kfa (by assumption)⟩) | (exact ⟨kcB f HLZ.out hHeld.1, kcB f HLZ.out hHeld.2.1, FW⟩) | (exact ⟨kcs (Fr.set1 _ gO _ _) HLG.out hHeld.1, kcs (Fr.set1 _ gO _ _) HLG.out hHeld.2.1, kfT (Fr.set1 _ gO _ _) hHeld.2.2⟩) | (exact hHeld))
                clear hK K
                try simp only [Act.put, List.getElem_toArray, List.getElem_cons_succ, List.getElem_cons_zero, List.setIfInBounds_toArray, List.set_cons_zero, List.set_cons_succ]
                refine wpAnyH_ready (rs := [8]) (by kernel_rfl) (by simp) (AllReadyH.cons rfl (fun K hK => ?_) AllReadyH.nil)
                refine app_st rfl (.tmp 75) (.tmp 80) rfl wz.heap.size (.slice (some ⟨x13.heap.size, 0, none⟩) 0 0) [] rfl O0.out vA vn vc ([] : List Sp) rfl (rdS_lo2 HRG.out (hHeld.2.2).out HNG.out) (by have := HVN.out; simp; omega) (show wz.heap.size ≤ x2.heap.size from (hHeld.2.2).out.size) ?_
                intro A8 c8 x8 o8 f8
                try simp only [List.length_nil, Nat.zero_add, List.nil_append] at o8
                try simp only [List.length_nil, Nat.zero_add]
                have f : Fr (fun q => wz.heap.size ≤ q) x2 x8 := frO O0.out f8
                have FW := kfB f hHeld.2.2
                have FN := kfB f FN
                have OX := hid o8
                have RL := hid (rdS_lo2 RL.out f8 (fun g o h e => by cases h; exact HLE.out (Option.some.inj (show some (x13).heap.size = some (wz.drew).heap.size from e)).symm))
                clear o8 f8
                refine hK.out _ _ ?_ (fun hHeld => ?_)
                · (try dsimp only); (first | (go_split_ands; exact ⟨kc f (by assumption), kc f (by assumption), by assumption⟩) | (go_split_ands; exact ⟨(by assumption), (by assumption), by assumption⟩) | (go_split_ands; exact ⟨kc (fr1 _ _) (by assumption), kc (fr1 _ _) (by assumption), kfa (by assumption)⟩) | (exact ⟨kcB f HLZ.out hHeld.1, kcB f HLZ.out hHeld.2.1, FW⟩) | (exact ⟨kcs (Fr.set1 _ gO _ _) HLG.out hHeld.1, kcs (Fr.set1 _ gO _ _) HLG.out hHeld.2.1, kfT (Fr.set1 _ gO _ _) hHeld.2.2⟩) | (exact hHeld))
                clear hK K
                try simp only [Act.put, List.getElem_toArray, List.getElem_cons_succ, List.getElem_cons_zero, List.setIfInBounds_toArray, List.set_cons_zero, List.set_cons_succ]
                refine wpAnyH_ready (rs := [14]) (by kernel_rfl) (by simp) (AllReadyH.cons rfl (fun K hK => ?_) AllReadyH.nil)
                refine app_st rfl (.tmp 81) (.tmp 86) rfl wz.heap.size _ ([] : List Sp) (by first | rfl | (rw [← HVE.out]; rfl)) (by have := OX.out; first | exact this | (rw [← HVE.out]; exact this)) (some ⟨wz.drew.heap.size, 0, none⟩) 1 1 [(p0, p1)] rfl RL.out (by have := HVN.out; have := HVE.out; omega) (show wz.heap.size ≤ x8.heap.size from (hHeld.2.2).out.size) ?_
                intro A14 c14 x14 o14 f14
                have f : Fr (fun q => wz.heap.size ≤ q) x8 x14 := frO OX.out f14
                have FW := kfB f hHeld.2.2
                have FN := kfB f FN
                have OY := hid o14
                clear o14 f14
                refine hK.out _ _ ?_ (fun hHeld => ?_)
                · (try dsimp only); (first | (go_split_ands; exact ⟨kc f (by assumption), kc f (by assumption), by assumption⟩) | (go_split_ands; exact ⟨(by assumption), (by assumption), by assumption⟩) | (go_split_ands; exact ⟨kc (fr1 _ _) (by assumption), kc (fr1 _ _) (by assumption), kfa (by assumption)⟩) | (exact ⟨kcB f HLZ.out hHeld.1, kcB f HLZ.out hHeld.2.1, FW⟩) | (exact ⟨kcs (Fr.set1 _ gO _ _) HLG.out hHeld.1, kcs (Fr.set1 _ gO _ _) HLG.out hHeld.2.1, kfT (Fr.set1 _ gO _ _) hHeld.2.2⟩) | (exact hHeld))
                clear hK K
                try simp only [Act.put, List.getElem_toArray, List.getElem_cons_succ, List.getElem_cons_zero, List.setIfInBounds_toArray, List.set_cons_zero, List.set_cons_succ]
                refine wpAnyH_take (i := 15) (v := ?v17) rfl (by kernel_rfl) (by kernel_rfl) (by kernel_rfl) (fun _ _ _ h => h) (Or.inl ⟨by kernel_rfl, ?y17⟩) (by assumption) ?_
                case y17 => (intro w hSw; (try dsimp only at hSw); go_simp; all_goals with_reducible rfl)
                try simp only [Act.put, List.getElem_toArray, List.getElem_cons_succ, List.getElem_cons_zero, List.setIfInBounds_toArray, List.set_cons_zero, List.set_cons_succ]
                refine wpAnyH_take (i := 16) (v := (.pointer (some ⟨gO, m * 3 + 2, none⟩))) rfl (by kernel_rfl) (by kernel_rfl) (by kernel_rfl) (fun _ _ _ h => h) (Or.inl ⟨by kernel_rfl, fun w hSw => by first | (go_simp; done) | (go_simp; with_reducible rfl) | (go_simp; omega)⟩) (by assumption) ?_
                try simp only [Act.put, List.getElem_toArray, List.getElem_cons_succ, List.getElem_cons_zero, List.setIfInBounds_toArray, List.set_cons_zero, List.set_cons_succ]
                refine wpAnyH_ready (rs := [17]) (by kernel_rfl) (by simp) (AllReadyH.cons rfl (fun K hK => ?_) AllReadyH.nil)
                obtain ⟨y9, z9, s9⟩ := row_at (HRZ.out.fr FN.out).row HVK.out
                dsimp only [SV.v] at y9
                go_simp
                refine hK.out _ _ ?_ (fun hHeld => ?_)
                · (try dsimp only); (first | (go_split_ands; exact ⟨kc f (by assumption), kc f (by assumption), by assumption⟩) | (go_split_ands; exact ⟨(by assumption), (by assumption), by assumption⟩) | (go_split_ands; exact ⟨kc (fr1 _ _) (by assumption), kc (fr1 _ _) (by assumption), kfa (by assumption)⟩) | (exact ⟨kcB f HLZ.out hHeld.1, kcB f HLZ.out hHeld.2.1, FW⟩) | (exact ⟨kcs (Fr.set1 _ gO _ _) HLG.out hHeld.1, kcs (Fr.set1 _ gO _ _) HLG.out hHeld.2.1, kfT (Fr.set1 _ gO _ _) hHeld.2.2⟩) | (exact hHeld))
                clear hK K
                try simp only [Act.put, List.getElem_toArray, List.getElem_cons_succ, List.getElem_cons_zero, List.setIfInBounds_toArray, List.set_cons_zero, List.set_cons_succ]
                refine wpAnyH_done (by kernel_rfl) ?_ _
                refine NoPanic.normal ?_
                have FX := hHeld.2.2
                clear hHeld
                obtain ⟨s9a, s9b⟩ := s9 ⟨A14, ([] : List Sp).length + 1, c14⟩
                dsimp only [SV.v] at s9a s9b
                have HRE := hid (HR.put (v := ⟨A14, ([] : List Sp).length + 1, c14⟩) (HRZ.out.fr FN.out) (s9b.mono (fun q _ e => by rw [e]; rfl)) (by rw [HGL.out]; exact s9a) (Out.le OY.out HWZ.out) (by simp))
                have HOE := hid (own_fr (HOLZ.out.fr FN.out) s9b (fun q hq e => HLG.out (by simp [Value.ownBlock] at hq; have e2 : q = gO := e; omega)))
                have HFE := hid ((HFZ.out.trans FN.out).step s9b (fun q hq e => by have := HOG.out; have e2 : q = gO := e; omega))
                go_wp2
                go_roundw
                case rel => (try refine ⟨_, _, ?_, rfl, rfl⟩); exact ⟨k + 1, vs2.set m ⟨A14, ([] : List Sp).length + 1, c14⟩, some ⟨gO, 0, none⟩, c3, by rw [HN.out]; omega, by go_num, by rw [List.length_set, HV2.out], by rw [HNX.out, HGN.out, ← HGL.out]; have h := HRE.out; rw [HGL.out] at h ⊢; exact h, HOE.out, HFE.out⟩
                case measure => first | exact next_m _ _ hlt hw1 | exact next_p _ _ hlt
          | true =>
            have hne : ¬ st.2 = [] := by
              rcases HFI.out with ⟨_, h, _⟩ | ⟨h, _⟩
              · exact ((able_iff st).1 h).1
              · cases h
            obtain ⟨hvl, u, hu, hou, hun⟩ := HR.last HW5.out hne
            obtain ⟨uA, un, uc⟩ := u
            obtain ⟨gO, rfl, _, _, _, _, yc, _, _⟩ := RowB.at_ HW5.out.row hu
            obtain ⟨K, hK⟩ : ∃ K, st.1.length = K := ⟨_, rfl⟩
            rw [hK] at hvl yc hu
            obtain rfl : kI = (K : Int) := by have := HKI.out; have := HM.out; omega
            dsimp only [SV.v] at yc hou
            obtain rfl : un = n2 := by rw [← HN2.out]; exact hun
            have hKm : (K : Int) < m := by have := HM.out; omega
            have h0K : (0 : Int) ≤ K := by omega
            have hn8 : un ≤ 8 := by have := HSI.out.2.2; have := HN2.out; omega
            have HKL := hid hK
            have HVK := hid hu
            have HOU := hid hou
            have hj : j ≤ un := by
              rcases HFI.out with ⟨_, _, h, _⟩ | ⟨h, _⟩
              · rw [HN2.out] at h; exact h
              · cases h
            clear hu hou hun hK hne hvl
            by_cases hjn : j < un
            · obtain ⟨⟨t0, t1⟩, htj⟩ : ∃ x, st.2[j]? = some x := ⟨_, List.getElem?_eq_getElem (by rw [HN2.out]; exact hjn)⟩
              have HMT := hid (HSI.out.2.1 _ (List.mem_of_getElem? htj))
              obtain ⟨gU, oU, rfl, _, hcU⟩ := (Out.rd (show Out w.heap.size w5 (.slice uA st.2.length uc) st.2 by rw [HN2.out]; exact HOU.out)).at_ (by rw [HN2.out]; omega)
              obtain ⟨t0c, t1c⟩ := hcU j _ htj
              obtain ⟨e0, e1⟩ := out_cell HO5.out HPK.out (by rw [HN.out]; omega)
              dsimp only at t0c t1c e0 e1
              have hjn3 : (j : Int) < un := by omega
              have h0j : (0 : Int) ≤ j := by omega
              have hwj : wrap64 ((j : Int) + 1) = (j : Int) + 1 := w64 _ (by omega)
              obtain ⟨⟨x, y⟩, hxy⟩ : ∃ q, meet (t0, t1) (p0, p1) = q := ⟨_, rfl⟩
              have HMM := hid hxy
              obtain ⟨bv, hbv⟩ : ∃ b, (y == 0) = b := ⟨_, rfl⟩
              have HNF := hid (HFI.out.step htj (b := bv) (by
                have h0 := meet_nonneg (t0, t1) (p0, p1)
                rw [hxy] at h0
                rw [meet_comm, hxy, ← hbv]
                dsimp only at h0 ⊢
                simp
                omega))
              clear hcU htj hxy
              go_upto_region 11 with fail
              have FW := hid (Fr.refl No w5)
              have FW := kd FW
              refine wp_region_noPanic ?_
              refine wp_region_held_drew (S := (fun W' => W'.cell? ⟨gO, K * 3 + 2, none⟩ = some (.slice (some ⟨gU, oU, none⟩) un uc) ∧ W'.cell? ⟨gU, oU + j * 2, none⟩ = some (.int .i64 t0) ∧ W'.cell? ⟨gU, oU + j * 2 + 1, none⟩ = some (.int .i64 t1) ∧ W'.cell? ⟨gL, oL + k * 2, none⟩ = some (.int .i64 p0) ∧ W'.cell? ⟨gL, oL + k * 2 + 1, none⟩ = some (.int .i64 p1) ∧ Hid (Fr No w5 W'))) (by kernel_rfl) ?_ (fun hHeld => ?_)
              · (try dsimp only); (first | (go_split_ands; exact ⟨kc f (by assumption), kc f (by assumption), kc f (by assumption), kc f (by assumption), kc f (by assumption), by assumption⟩) | (go_split_ands; exact ⟨(by assumption), (by assumption), (by assumption), (by assumption), (by assumption), by assumption⟩) | (go_split_ands; exact ⟨kc (fr1 _ _) (by assumption), kc (fr1 _ _) (by assumption), kc (fr1 _ _) (by assumption), kc (fr1 _ _) (by assumption), kc (fr1 _ _) (by assumption), kfa (by assumption)⟩))
              refine wpAnyH_take (i := 0) (v := ?v35) rfl (by kernel_rfl) (by kernel_rfl) (by kernel_rfl) (fun _ _ _ h => h) (Or.inl ⟨by kernel_rfl, ?y35⟩) (by assumption) ?_
              case y35 => (intro w hSw; (try dsimp only at hSw); go_simp; all_goals with_reducible rfl)
              try simp only [Act.put, List.getElem_toArray, List.getElem_cons_zero, List.setIfInBounds_toArray, List.set_cons_zero, List.set_cons_succ]
              refine wpAnyH_take (i := 1) (v := ?v36) rfl (by kernel_rfl) (by kernel_rfl) (by kernel_rfl) (fun _ _ _ h => h) (Or.inl ⟨by kernel_rfl, ?y36⟩) (by assumption) ?_
              case y36 => (intro w hSw; (try dsimp only at hSw); go_simp; all_goals with_reducible rfl)
              try simp only [Act.put, List.getElem_toArray, List.getElem_cons_succ, List.getElem_cons_zero, List.setIfInBounds_toArray, List.set_cons_zero, List.set_cons_succ]
              refine wpAnyH_take (i := 2) (v := ?v37) rfl (by kernel_rfl) (by kernel_rfl) (by kernel_rfl) (fun _ _ _ h => h) (Or.inl ⟨by kernel_rfl, ?y37⟩) (by assumption) ?_
              case y37 => (intro w hSw; (try dsimp only at hSw); go_simp; all_goals with_reducible rfl)
              try simp only [Act.put, List.getElem_toArray, List.getElem_cons_succ, List.getElem_cons_zero, List.setIfInBounds_toArray, List.set_cons_zero, List.set_cons_succ]
              refine wpAnyH_take (i := 3) (v := (.pointer (some ⟨gO, K * 3 + 2, none⟩))) rfl (by kernel_rfl) (by kernel_rfl) (by kernel_rfl) (fun _ _ _ h => h) (Or.inl ⟨by kernel_rfl, fun w hSw => by first | (go_simp; done) | (go_simp; with_reducible rfl) | (go_simp; omega)⟩) (by assumption) ?_
              try simp only [Act.put, List.getElem_toArray, List.getElem_cons_succ, List.getElem_cons_zero, List.setIfInBounds_toArray, List.set_cons_zero, List.set_cons_succ]
              refine wpAnyH_take (i := 4) (v := ?v38) rfl (by kernel_rfl) (by kernel_rfl) (by kernel_rfl) (fun _ _ _ h => h) (Or.inl ⟨by kernel_rfl, ?y38⟩) (by assumption) ?_
              case y38 => (intro w hSw; (try dsimp only at hSw); go_simp; all_goals with_reducible rfl)
              try simp only [Act.put, List.getElem_toArray, List.getElem_cons_succ, List.getElem_cons_zero, List.setIfInBounds_toArray, List.set_cons_zero, List.set_cons_succ]
              refine wpAnyH_take (i := 5) (v := ?v39) rfl (by kernel_rfl) (by kernel_rfl) (by kernel_rfl) (fun _ _ _ h => h) (Or.inl ⟨by kernel_rfl, ?y39⟩) (by assumption) ?_
              case y39 => (intro w hSw; (try dsimp only at hSw); go_simp; all_goals with_reducible rfl)
              try simp only [Act.put, List.getElem_toArray, List.getElem_cons_succ, List.getElem_cons_zero, List.setIfInBounds_toArray, List.set_cons_zero, List.set_cons_succ]
              refine wpAnyH_take (i := 6) (v := ?v40) rfl (by kernel_rfl) (by kernel_rfl) (by kernel_rfl) (fun _ _ _ h => h) (Or.inl ⟨by kernel_rfl, ?y40⟩) (by assumption) ?_
              case y40 => (intro w hSw; (try dsimp only at hSw); go_simp; all_goals with_reducible rfl)
              try simp only [Act.put, List.getElem_toArray, List.getElem_cons_succ, List.getElem_cons_zero, List.setIfInBounds_toArray, List.set_cons_zero, List.set_cons_succ]
              refine wpAnyH_take (i := 7) (v := ?v41) rfl (by kernel_rfl) (by kernel_rfl) (by kernel_rfl) (fun _ _ _ h => h) (Or.inl ⟨by kernel_rfl, ?y41⟩) (by assumption) ?_
              case y41 => (intro w hSw; (try dsimp only at hSw); go_simp; all_goals with_reducible rfl)
              try simp only [Act.put, List.getElem_toArray, List.getElem_cons_succ, List.getElem_cons_zero, List.setIfInBounds_toArray, List.set_cons_zero, List.set_cons_succ]
              refine wpAnyH_take (i := 8) (v := ?v42) rfl (by kernel_rfl) (by kernel_rfl) (by kernel_rfl) (fun _ _ _ h => h) (Or.inl ⟨by kernel_rfl, ?y42⟩) (by assumption) ?_
              case y42 => (intro w hSw; (try dsimp only at hSw); go_simp; all_goals with_reducible rfl)
              try simp only [Act.put, List.getElem_toArray, List.getElem_cons_succ, List.getElem_cons_zero, List.setIfInBounds_toArray, List.set_cons_zero, List.set_cons_succ]
              refine wpAnyH_take (i := 9) (v := ?v43) rfl (by kernel_rfl) (by kernel_rfl) (by kernel_rfl) (fun _ _ _ h => h) (Or.inl ⟨by kernel_rfl, ?y43⟩) (by assumption) ?_
              case y43 => (intro w hSw; (try dsimp only at hSw); go_simp; all_goals with_reducible rfl)
              try simp only [Act.put, List.getElem_toArray, List.getElem_cons_succ, List.getElem_cons_zero, List.setIfInBounds_toArray, List.set_cons_zero, List.set_cons_succ]
              refine wpAnyH_take (i := 10) (v := ?v44) rfl (by kernel_rfl) (by kernel_rfl) (by kernel_rfl) (fun _ _ _ h => h) (Or.inl ⟨by kernel_rfl, ?y44⟩) (by assumption) ?_
              case y44 => (intro w hSw; (try dsimp only at hSw); go_simp; all_goals with_reducible rfl)
              try simp only [Act.put, List.getElem_toArray, List.getElem_cons_succ, List.getElem_cons_zero, List.setIfInBounds_toArray, List.set_cons_zero, List.set_cons_succ]
              refine wpAnyH_take (i := 11) (v := ?v45) rfl (by kernel_rfl) (by kernel_rfl) (by kernel_rfl) (fun _ _ _ h => h) (Or.inl ⟨by kernel_rfl, ?y45⟩) (by assumption) ?_
              case y45 => (intro w hSw; (try dsimp only at hSw); go_simp; all_goals with_reducible rfl)
              try simp only [Act.put, List.getElem_toArray, List.getElem_cons_succ, List.getElem_cons_zero, List.setIfInBounds_toArray, List.set_cons_zero, List.set_cons_succ]
              refine wpAnyH_ready (rs := [12]) (by kernel_rfl) (by simp) (AllReadyH.cons rfl (fun K hK => ?_) AllReadyH.nil)
              go_simp
              go_at_call 34
              refine (rmeet_ok t0 t1 p0 p1 x y _ HMT.out HMP.out HMM.out).mono ?_
              rintro e W1 ⟨rfl, f⟩
              have FW := kf f hHeld.2.2.2.2.2
              dsimp only
              refine hK.out _ _ ?_ (fun hHeld => ?_)
              · (try dsimp only); (first | (go_split_ands; exact ⟨kc f (by assumption), kc f (by assumption), kc f (by assumption), kc f (by assumption), kc f (by assumption), by assumption⟩) | (go_split_ands; exact ⟨(by assumption), (by assumption), (by assumption), (by assumption), (by assumption), by assumption⟩) | (go_split_ands; exact ⟨kc (fr1 _ _) (by assumption), kc (fr1 _ _) (by assumption), kc (fr1 _ _) (by assumption), kc (fr1 _ _) (by assumption), kc (fr1 _ _) (by assumption), kfa (by assumption)⟩))
              clear hK K
              try simp only [Act.put, List.getElem_toArray, List.getElem_cons_succ, List.getElem_cons_zero, List.setIfInBounds_toArray, List.set_cons_zero, List.set_cons_succ]
              refine wpAnyH_take (i := 13) (v := ?v46) rfl (by kernel_rfl) (by kernel_rfl) (by kernel_rfl) (fun _ _ _ h => h) (Or.inl ⟨by kernel_rfl, ?y46⟩) (by assumption) ?_
              case y46 => (intro w hSw; (try dsimp only at hSw); go_simp; all_goals with_reducible rfl)
              try simp only [Act.put, List.getElem_toArray, List.getElem_cons_succ, List.getElem_cons_zero, List.setIfInBounds_toArray, List.set_cons_zero, List.set_cons_succ]
              refine wpAnyH_take (i := 14) (v := (.bool bv)) rfl (by kernel_rfl) (by kernel_rfl) (by kernel_rfl) (fun _ _ _ h => h) (Or.inl ⟨by kernel_rfl, fun w hSw => by first | (go_simp; done) | (go_simp; with_reducible rfl) | (go_simp; omega)⟩) (by assumption) ?_
              try simp only [Act.put, List.getElem_toArray, List.getElem_cons_succ, List.getElem_cons_zero, List.setIfInBounds_toArray, List.set_cons_zero, List.set_cons_succ]
              refine wpAnyH_take (i := 15) (v := ?v47) rfl (by kernel_rfl) (by kernel_rfl) (by kernel_rfl) (fun _ _ _ h => h) (Or.inl ⟨by kernel_rfl, ?y47⟩) (by assumption) ?_
              case y47 => (intro w hSw; (try dsimp only at hSw); go_simp; all_goals with_reducible rfl)
              try simp only [Act.put, List.getElem_toArray, List.getElem_cons_succ, List.getElem_cons_zero, List.setIfInBounds_toArray, List.set_cons_zero, List.set_cons_succ]
              refine wpAnyH_done (by kernel_rfl) ?_ _
              refine NoPanic.normal ?_
              have FZ := hHeld.2.2.2.2.2
              clear hHeld
              go_wp2
              go_roundw
              case rel => (try refine ⟨_, _, ?_, rfl, rfl⟩); exact ⟨j + 1, bv, by first | rfl | (rw [← hbv]; rfl), by go_num, HNF.out, HF2.out.trans FZ.out⟩
              case measure => first | exact next_m _ _ hjn hwj | exact next_p _ _ hjn
            · obtain rfl : j = un := by omega
              have HYS := hid ((FI.yes (by have := HFI.out; rw [← HN2.out] at this; exact this)))
              have HGN := hid (gclose_fit HYS.out.1.2 HYS.out.2)
              have HRZ := hid (show HR w.heap.size w5 (st.1 ++ [st.2]) _ _ _ by have := HW5.out; rw [gclose_open HYS.out.1.1] at this; exact this)
              have HOLZ := HO5
              have HFZ := HF5
              have HKLZ := HKL
              have HUN := HN2
              obtain ⟨wz, hwz⟩ : ∃ wz : World, wz = w5 := ⟨_, rfl⟩
              subst hwz
              clear HYS
              go_upto_region 15 with fail
              obtain ⟨gO', ⟨vA, vn, vc⟩, hgo, hvk, hvl2, hvn, hog, hrg, hng⟩ := lead_ok HRZ.out
              obtain rfl : gO = gO' := by injection hgo with h; injection h
              obtain ⟨vs2, hvs2⟩ : ∃ q, vs = q := ⟨_, rfl⟩
              rw [hvs2] at HRZ hvk hvl2
              have HGL := hid (show (st.1).length = K from HKL.out)
              rw [HGL.out] at hvk hvl2
              dsimp only at hvn hrg hng
              have HV2 := hid (show vs2.length = m by rw [hvl2]; have h1 := HM.out; have h2 := HRZ.out.len; rw [hvs2] at h1; omega)
              have HVK := hid hvk
              have HVE := hid hvn
              have HVN := hid (show vn ≤ 8 from (by rw [hvn]; exact HSI.out.2.2))
              have HRG := hid hrg
              have HNG := hid hng
              have HOG := hid hog
              have HWZ := hid (show w.heap.size ≤ wz.heap.size from HFZ.out.size)
              have HLG := hid (show gL ≠ gO from fun e => own_apart HRZ.out.row HOLZ.out ne_b gO rfl (by rw [e]; rfl))
              have HLZ := hid (show gL < wz.heap.size from (own_at HOLZ.out gL rfl).1.2)
              obtain ⟨e0, e1⟩ := out_cell HOLZ.out HPK.out (by rw [HN.out]; omega)
              dsimp only at e0 e1
              have hK2 : (K : Int) < m := hKm
              have h0K2 : (0 : Int) ≤ K := by omega
              clear hvk hvn hrg hng hog hvl2 hvs2
              have FW := hid (Fr.refl (fun q => q = gO) wz)
              have FN := kd (hid (Fr.refl No wz))
              have FW := kdS FW
              refine wp_region_noPanic ?_
              refine wp_region_held_drew (S := (fun W' => W'.cell? ⟨gL, oL + k * 2, none⟩ = some (.int .i64 p0) ∧ W'.cell? ⟨gL, oL + k * 2 + 1, none⟩ = some (.int .i64 p1) ∧ Hid (Fr (fun q => q = gO) wz W'))) (by kernel_rfl) ?_ (fun hHeld => ?_)
              · (try dsimp only); (first | (go_split_ands; exact ⟨kc f (by assumption), kc f (by assumption), by assumption⟩) | (go_split_ands; exact ⟨(by assumption), (by assumption), by assumption⟩) | (go_split_ands; exact ⟨kc (fr1 _ _) (by assumption), kc (fr1 _ _) (by assumption), kfa (by assumption)⟩) | (exact ⟨kcB f HLZ.out hHeld.1, kcB f HLZ.out hHeld.2.1, FW⟩) | (exact ⟨kcs (Fr.set1 _ gO _ _) HLG.out hHeld.1, kcs (Fr.set1 _ gO _ _) HLG.out hHeld.2.1, kfT (Fr.set1 _ gO _ _) hHeld.2.2⟩) | (exact hHeld))
              refine wpAnyH_take (i := 0) (v := ?v18) rfl (by kernel_rfl) (by kernel_rfl) (by kernel_rfl) (fun _ _ _ h => h) (Or.inl ⟨by kernel_rfl, ?y18⟩) (by assumption) ?_
              case y18 => (intro w hSw; (try dsimp only at hSw); go_simp; all_goals with_reducible rfl)
              try simp only [Act.put, List.getElem_toArray, List.getElem_cons_zero, List.setIfInBounds_toArray, List.set_cons_zero, List.set_cons_succ]
              refine wpAnyH_take (i := 1) (v := ?v19) rfl (by kernel_rfl) (by kernel_rfl) (by kernel_rfl) (fun _ _ _ h => h) (Or.inl ⟨by kernel_rfl, ?y19⟩) (by assumption) ?_
              case y19 => (intro w hSw; (try dsimp only at hSw); go_simp; all_goals with_reducible rfl)
              try simp only [Act.put, List.getElem_toArray, List.getElem_cons_succ, List.getElem_cons_zero, List.setIfInBounds_toArray, List.set_cons_zero, List.set_cons_succ]
              refine wpAnyH_take (i := 3) (v := ?v20) rfl (by kernel_rfl) (by kernel_rfl) (by kernel_rfl) (fun _ _ _ h => h) (Or.inl ⟨by kernel_rfl, ?y20⟩) (by assumption) ?_
              case y20 => (intro w hSw; (try dsimp only at hSw); go_simp; all_goals with_reducible rfl)
              try simp only [Act.put, List.getElem_toArray, List.getElem_cons_succ, List.getElem_cons_zero, List.setIfInBounds_toArray, List.set_cons_zero, List.set_cons_succ]
              refine wpAnyH_take (i := 4) (v := ?v21) rfl (by kernel_rfl) (by kernel_rfl) (by kernel_rfl) (fun _ _ _ h => h) (Or.inl ⟨by kernel_rfl, ?y21⟩) (by assumption) ?_
              case y21 => (intro w hSw; (try dsimp only at hSw); go_simp; all_goals with_reducible rfl)
              try simp only [Act.put, List.getElem_toArray, List.getElem_cons_succ, List.getElem_cons_zero, List.setIfInBounds_toArray, List.set_cons_zero, List.set_cons_succ]
              refine wpAnyH_take (i := 5) (v := ?v22) rfl (by kernel_rfl) (by kernel_rfl) (by kernel_rfl) (fun _ _ _ h => h) (Or.inl ⟨by kernel_rfl, ?y22⟩) (by assumption) ?_
              case y22 => (intro w hSw; (try dsimp only at hSw); go_simp; all_goals with_reducible rfl)
              try simp only [Act.put, List.getElem_toArray, List.getElem_cons_succ, List.getElem_cons_zero, List.setIfInBounds_toArray, List.set_cons_zero, List.set_cons_succ]
              refine wpAnyH_take (i := 6) (v := (.pointer (some ⟨gO, K * 3 + 2, none⟩))) rfl (by kernel_rfl) (by kernel_rfl) (by kernel_rfl) (fun _ _ _ h => h) (Or.inl ⟨by kernel_rfl, fun w hSw => by first | (go_simp; done) | (go_simp; with_reducible rfl) | (go_simp; omega)⟩) (by assumption) ?_
              try simp only [Act.put, List.getElem_toArray, List.getElem_cons_succ, List.getElem_cons_zero, List.setIfInBounds_toArray, List.set_cons_zero, List.set_cons_succ]
              refine wpAnyH_take (i := 9) (v := ?v23) rfl (by kernel_rfl) (by kernel_rfl) (by kernel_rfl) (fun _ _ _ h => h) (Or.inl ⟨by kernel_rfl, ?y23⟩) (by assumption) ?_
              case y23 => (intro w hSw; (try dsimp only at hSw); go_simp; all_goals with_reducible rfl)
              try simp only [Act.put, List.getElem_toArray, List.getElem_cons_succ, List.getElem_cons_zero, List.setIfInBounds_toArray, List.set_cons_zero, List.set_cons_succ]
              refine wpAnyH_take (i := 10) (v := ?v24) rfl (by kernel_rfl) (by kernel_rfl) (by kernel_rfl) (fun _ _ _ h => h) (Or.inl ⟨by kernel_rfl, ?y24⟩) (by assumption) ?_
              case y24 => (intro w hSw; (try dsimp only at hSw); go_simp; all_goals with_reducible rfl)
              try simp only [Act.put, List.getElem_toArray, List.getElem_cons_succ, List.getElem_cons_zero, List.setIfInBounds_toArray, List.set_cons_zero, List.set_cons_succ]
              refine wpAnyH_take (i := 11) (v := ?v25) rfl (by kernel_rfl) (by kernel_rfl) (by kernel_rfl) (fun _ _ _ h => h) (Or.inl ⟨by kernel_rfl, ?y25⟩) (by assumption) ?_
              case y25 => (intro w hSw; (try dsimp only at hSw); go_simp; all_goals with_reducible rfl)
              try simp only [Act.put, List.getElem_toArray, List.getElem_cons_succ, List.getElem_cons_zero, List.setIfInBounds_toArray, List.set_cons_zero, List.set_cons_succ]
              refine wpAnyH_take (i := 12) (v := ?v26) rfl (by kernel_rfl) (by kernel_rfl) (by kernel_rfl) (fun _ _ _ h => h) (Or.inl ⟨by kernel_rfl, ?y26⟩) (by assumption) ?_
              case y26 => (intro w hSw; (try dsimp only at hSw); go_simp; all_goals with_reducible rfl)
              try simp only [Act.put, List.getElem_toArray, List.getElem_cons_succ, List.getElem_cons_zero, List.setIfInBounds_toArray, List.set_cons_zero, List.set_cons_succ]
              refine wpAnyH_ready (rs := [2, 7, 13]) (by kernel_rfl) (by simp) (AllReadyH.cons rfl (fun K hK => ?_) (AllReadyH.cons rfl (fun K hK => ?_) (AllReadyH.cons rfl (fun K hK => ?_) AllReadyH.nil)))
              · go_simp
                obtain ⟨x2, hx2⟩ : ∃ x, World.drew (World.alloc wz (Obj.cells #[] 57)) = x := ⟨_, rfl⟩
                try rw [hx2]
                have HZ2 := hid (show wz.heap.size ≤ wz.drew.heap.size from (hHeld.2.2).out.size)
                have f0 : Fr No wz.drew x2 := by rw [← hx2]; exact fr1dd _ _
                have f : Fr (fun q => wz.heap.size ≤ q) wz.drew x2 := frB f0
                have FW := kfB f hHeld.2.2
                have FN := kfB f FN
                have O0 := hid (show Out wz.heap.size x2 (.slice (some ⟨wz.drew.heap.size, 0, none⟩) 0 0) [] by rw [← hx2]; exact own0 wz HZ2.out)
                have HS2 := hid (show x2.heap.size = (wz.drew).heap.size + 1 by rw [← hx2]; first | (simp; done) | (show (World.alloc wz _).heap.size = (wz).heap.size + 1; simp))
                clear f0 hx2
                refine hK.out _ _ ?_ (fun hHeld => ?_)
                · (try dsimp only); (first | (go_split_ands; exact ⟨kc f (by assumption), kc f (by assumption), by assumption⟩) | (go_split_ands; exact ⟨(by assumption), (by assumption), by assumption⟩) | (go_split_ands; exact ⟨kc (fr1 _ _) (by assumption), kc (fr1 _ _) (by assumption), kfa (by assumption)⟩) | (exact ⟨kcB f HLZ.out hHeld.1, kcB f HLZ.out hHeld.2.1, FW⟩) | (exact ⟨kcs (Fr.set1 _ gO _ _) HLG.out hHeld.1, kcs (Fr.set1 _ gO _ _) HLG.out hHeld.2.1, kfT (Fr.set1 _ gO _ _) hHeld.2.2⟩) | (exact hHeld))
                clear hK K
                try simp only [Act.put, List.getElem_toArray, List.getElem_cons_succ, List.getElem_cons_zero, List.setIfInBounds_toArray, List.set_cons_zero, List.set_cons_succ]
                refine wpAnyH_ready (rs := [7, 13]) (by kernel_rfl) (by simp) (AllReadyH.cons rfl (fun K hK => ?_) (AllReadyH.cons rfl (fun K hK => ?_) AllReadyH.nil))
                · have y7 := (row_at (HRZ.out.fr FN.out).row HVK.out).1
                  dsimp only [SV.v] at y7
                  go_simp
                  have FW := hHeld.2.2
                  refine hK.out _ _ ?_ (fun hHeld => ?_)
                  · (try dsimp only); (first | (go_split_ands; exact ⟨kc f (by assumption), kc f (by assumption), by assumption⟩) | (go_split_ands; exact ⟨(by assumption), (by assumption), by assumption⟩) | (go_split_ands; exact ⟨kc (fr1 _ _) (by assumption), kc (fr1 _ _) (by assumption), kfa (by assumption)⟩) | (exact ⟨kcB f HLZ.out hHeld.1, kcB f HLZ.out hHeld.2.1, FW⟩) | (exact ⟨kcs (Fr.set1 _ gO _ _) HLG.out hHeld.1, kcs (Fr.set1 _ gO _ _) HLG.out hHeld.2.1, kfT (Fr.set1 _ gO _ _) hHeld.2.2⟩) | (exact hHeld))
                  clear hK K
                  try simp only [Act.put, List.getElem_toArray, List.getElem_cons_succ, List.getElem_cons_zero, List.setIfInBounds_toArray, List.set_cons_zero, List.set_cons_succ]
                  refine wpAnyH_ready (rs := [8, 13]) (by kernel_rfl) (by simp) (AllReadyH.cons rfl (fun K hK => ?_) (AllReadyH.cons rfl (fun K hK => ?_) AllReadyH.nil))
                  · refine app_st rfl (.tmp 75) (.tmp 80) rfl wz.heap.size (.slice (some ⟨wz.drew.heap.size, 0, none⟩) 0 0) [] rfl O0.out vA vn vc st.2 rfl (rdS_lo2 HRG.out (hHeld.2.2).out HNG.out) (by have := HVN.out; simp; omega) (show wz.heap.size ≤ x2.heap.size from (hHeld.2.2).out.size) ?_
                    intro A8 c8 x8 o8 f8
                    try simp only [List.length_nil, Nat.zero_add, List.nil_append] at o8
                    try simp only [List.length_nil, Nat.zero_add]
                    have f : Fr (fun q => wz.heap.size ≤ q) x2 x8 := frO O0.out f8
                    have FW := kfB f hHeld.2.2
                    have FN := kfB f FN
                    have OX := hid o8
                    clear o8 f8
                    refine hK.out _ _ ?_ (fun hHeld => ?_)
                    · (try dsimp only); (first | (go_split_ands; exact ⟨kc f (by assumption), kc f (by assumption), by assumption⟩) | (go_split_ands; exact ⟨(by assumption), (by assumption), by assumption⟩) | (go_split_ands; exact ⟨kc (fr1 _ _) (by assumption), kc (fr1 _ _) (by assumption), kfa (by assumption)⟩) | (exact ⟨kcB f HLZ.out hHeld.1, kcB f HLZ.out hHeld.2.1, FW⟩) | (exact ⟨kcs (Fr.set1 _ gO _ _) HLG.out hHeld.1, kcs (Fr.set1 _ gO _ _) HLG.out hHeld.2.1, kfT (Fr.set1 _ gO _ _) hHeld.2.2⟩) | (exact hHeld))
                    clear hK K
                    try simp only [Act.put, List.getElem_toArray, List.getElem_cons_succ, List.getElem_cons_zero, List.setIfInBounds_toArray, List.set_cons_zero, List.set_cons_succ]
                    refine wpAnyH_ready (rs := [13]) (by kernel_rfl) (by simp) (AllReadyH.cons rfl (fun K hK => ?_) AllReadyH.nil)
                    go_simp
                    obtain ⟨x13, hx13⟩ : ∃ x, World.alloc x8 (Obj.cells #[.int .i64 p0, .int .i64 p1] 57) = x := ⟨_, rfl⟩
                    try rw [hx13]
                    have HZ13 := hid (show wz.heap.size ≤ x8.heap.size from (hHeld.2.2).out.size)
                    have f0 : Fr No x8 x13 := by rw [← hx13]; exact fr1 _ _
                    have f : Fr (fun q => wz.heap.size ≤ q) x8 x13 := frB f0
                    have FW := kfB f hHeld.2.2
                    have FN := kfB f FN
                    have RL := hid (show RdS x13 (some ⟨x8.heap.size, 0, none⟩) 1 [(p0, p1)] by rw [← hx13]; exact lit_rd x8 p0 p1)
                    have OX := hid (own_fr OX.out f0 (fun _ _ h => h))
                    clear f0 hx13
                    refine hK.out _ _ ?_ (fun hHeld => ?_)
                    · (try dsimp only); (first | (go_split_ands; exact ⟨kc f (by assumption), kc f (by assumption), by assumption⟩) | (go_split_ands; exact ⟨(by assumption), (by assumption), by assumption⟩) | (go_split_ands; exact ⟨kc (fr1 _ _) (by assumption), kc (fr1 _ _) (by assumption), kfa (by assumption)⟩) | (exact ⟨kcB f HLZ.out hHeld.1, kcB f HLZ.out hHeld.2.1, FW⟩) | (exact ⟨kcs (Fr.set1 _ gO _ _) HLG.out hHeld.1, kcs (Fr.set1 _ gO _ _) HLG.out hHeld.2.1, kfT (Fr.set1 _ gO _ _) hHeld.2.2⟩) | (exact hHeld))
                    clear hK K
                    try simp only [Act.put, List.getElem_toArray, List.getElem_cons_succ, List.getElem_cons_zero, List.setIfInBounds_toArray, List.set_cons_zero, List.set_cons_succ]
                    refine wpAnyH_ready (rs := [14]) (by kernel_rfl) (by simp) (AllReadyH.cons rfl (fun K hK => ?_) AllReadyH.nil)
                    refine app_st rfl (.tmp 81) (.tmp 86) rfl wz.heap.size _ st.2 (by first | rfl | (rw [← HVE.out]; rfl)) (by have := OX.out; first | exact this | (rw [← HVE.out]; exact this)) (some ⟨x8.heap.size, 0, none⟩) 1 1 [(p0, p1)] rfl RL.out (by have := HVN.out; have := HVE.out; omega) (show wz.heap.size ≤ x13.heap.size from (hHeld.2.2).out.size) ?_
                    intro A14 c14 x14 o14 f14
                    have f : Fr (fun q => wz.heap.size ≤ q) x13 x14 := frO OX.out f14
                    have FW := kfB f hHeld.2.2
                    have FN := kfB f FN
                    have OY := hid o14
                    clear o14 f14
                    refine hK.out _ _ ?_ (fun hHeld => ?_)
                    · (try dsimp only); (first | (go_split_ands; exact ⟨kc f (by assumption), kc f (by assumption), by assumption⟩) | (go_split_ands; exact ⟨(by assumption), (by assumption), by assumption⟩) | (go_split_ands; exact ⟨kc (fr1 _ _) (by assumption), kc (fr1 _ _) (by assumption), kfa (by assumption)⟩) | (exact ⟨kcB f HLZ.out hHeld.1, kcB f HLZ.out hHeld.2.1, FW⟩) | (exact ⟨kcs (Fr.set1 _ gO _ _) HLG.out hHeld.1, kcs (Fr.set1 _ gO _ _) HLG.out hHeld.2.1, kfT (Fr.set1 _ gO _ _) hHeld.2.2⟩) | (exact hHeld))
                    clear hK K
                    try simp only [Act.put, List.getElem_toArray, List.getElem_cons_succ, List.getElem_cons_zero, List.setIfInBounds_toArray, List.set_cons_zero, List.set_cons_succ]
                    refine wpAnyH_take (i := 15) (v := ?v27) rfl (by kernel_rfl) (by kernel_rfl) (by kernel_rfl) (fun _ _ _ h => h) (Or.inl ⟨by kernel_rfl, ?y27⟩) (by assumption) ?_
                    case y27 => (intro w hSw; (try dsimp only at hSw); go_simp; all_goals with_reducible rfl)
                    try simp only [Act.put, List.getElem_toArray, List.getElem_cons_succ, List.getElem_cons_zero, List.setIfInBounds_toArray, List.set_cons_zero, List.set_cons_succ]
                    refine wpAnyH_take (i := 16) (v := (.pointer (some ⟨gO, K * 3 + 2, none⟩))) rfl (by kernel_rfl) (by kernel_rfl) (by kernel_rfl) (fun _ _ _ h => h) (Or.inl ⟨by kernel_rfl, fun w hSw => by first | (go_simp; done) | (go_simp; with_reducible rfl) | (go_simp; omega)⟩) (by assumption) ?_
                    try simp only [Act.put, List.getElem_toArray, List.getElem_cons_succ, List.getElem_cons_zero, List.setIfInBounds_toArray, List.set_cons_zero, List.set_cons_succ]
                    refine wpAnyH_ready (rs := [17]) (by kernel_rfl) (by simp) (AllReadyH.cons rfl (fun K hK => ?_) AllReadyH.nil)
                    obtain ⟨y9, z9, s9⟩ := row_at (HRZ.out.fr FN.out).row HVK.out
                    dsimp only [SV.v] at y9
                    go_simp
                    refine hK.out _ _ ?_ (fun hHeld => ?_)
                    · (try dsimp only); (first | (go_split_ands; exact ⟨kc f (by assumption), kc f (by assumption), by assumption⟩) | (go_split_ands; exact ⟨(by assumption), (by assumption), by assumption⟩) | (go_split_ands; exact ⟨kc (fr1 _ _) (by assumption), kc (fr1 _ _) (by assumption), kfa (by assumption)⟩) | (exact ⟨kcB f HLZ.out hHeld.1, kcB f HLZ.out hHeld.2.1, FW⟩) | (exact ⟨kcs (Fr.set1 _ gO _ _) HLG.out hHeld.1, kcs (Fr.set1 _ gO _ _) HLG.out hHeld.2.1, kfT (Fr.set1 _ gO _ _) hHeld.2.2⟩) | (exact hHeld))
                    clear hK K
                    try simp only [Act.put, List.getElem_toArray, List.getElem_cons_succ, List.getElem_cons_zero, List.setIfInBounds_toArray, List.set_cons_zero, List.set_cons_succ]
                    refine wpAnyH_done (by kernel_rfl) ?_ _
                    refine NoPanic.normal ?_
                    have FX := hHeld.2.2
                    clear hHeld
                    obtain ⟨s9a, s9b⟩ := s9 ⟨A14, st.2.length + 1, c14⟩
                    dsimp only [SV.v] at s9a s9b
                    have HRE := hid (HR.put (v := ⟨A14, st.2.length + 1, c14⟩) (HRZ.out.fr FN.out) (s9b.mono (fun q _ e => by rw [e]; rfl)) (by rw [HGL.out]; exact s9a) (Out.le OY.out HWZ.out) (by simp))
                    have HOE := hid (own_fr (HOLZ.out.fr FN.out) s9b (fun q hq e => HLG.out (by simp [Value.ownBlock] at hq; have e2 : q = gO := e; omega)))
                    have HFE := hid ((HFZ.out.trans FN.out).step s9b (fun q hq e => by have := HOG.out; have e2 : q = gO := e; omega))
                    go_wp2
                    go_roundw
                    case rel => (try refine ⟨_, _, ?_, rfl, rfl⟩); exact ⟨k + 1, vs2.set K ⟨A14, st.2.length + 1, c14⟩, some ⟨gO, 0, none⟩, cV, by rw [HN.out]; omega, by go_num, by rw [List.length_set, HV2.out], by rw [HNX.out, HGN.out, ← HGL.out]; have h := HRE.out; rw [HGL.out] at h ⊢; exact h, HOE.out, HFE.out⟩
                    case measure => first | exact next_m _ _ hlt hw1 | exact next_p _ _ hlt
                  · go_simp
                    obtain ⟨x13, hx13⟩ : ∃ x, World.alloc x2 (Obj.cells #[.int .i64 p0, .int .i64 p1] 57) = x := ⟨_, rfl⟩
                    try rw [hx13]
                    have HZ13 := hid (show wz.heap.size ≤ x2.heap.size from (hHeld.2.2).out.size)
                    have f0 : Fr No x2 x13 := by rw [← hx13]; exact fr1 _ _
                    have f : Fr (fun q => wz.heap.size ≤ q) x2 x13 := frB f0
                    have FW := kfB f hHeld.2.2
                    have FN := kfB f FN
                    have RL := hid (show RdS x13 (some ⟨x2.heap.size, 0, none⟩) 1 [(p0, p1)] by rw [← hx13]; exact lit_rd x2 p0 p1)
                    have O0 := hid (own_fr O0.out f0 (fun _ _ h => h))
                    have HLE := hid (show x2.heap.size ≠ (wz.drew).heap.size by have := HS2.out; omega)
                    clear f0 hx13
                    refine hK.out _ _ ?_ (fun hHeld => ?_)
                    · (try dsimp only); (first | (go_split_ands; exact ⟨kc f (by assumption), kc f (by assumption), by assumption⟩) | (go_split_ands; exact ⟨(by assumption), (by assumption), by assumption⟩) | (go_split_ands; exact ⟨kc (fr1 _ _) (by assumption), kc (fr1 _ _) (by assumption), kfa (by assumption)⟩) | (exact ⟨kcB f HLZ.out hHeld.1, kcB f HLZ.out hHeld.2.1, FW⟩) | (exact ⟨kcs (Fr.set1 _ gO _ _) HLG.out hHeld.1, kcs (Fr.set1 _ gO _ _) HLG.out hHeld.2.1, kfT (Fr.set1 _ gO _ _) hHeld.2.2⟩) | (exact hHeld))
                    clear hK K
                    try simp only [Act.put, List.getElem_toArray, List.getElem_cons_succ, List.getElem_cons_zero, List.setIfInBounds_toArray, List.set_cons_zero, List.set_cons_succ]
                    refine wpAnyH_ready (rs := [8]) (by kernel_rfl) (by simp) (AllReadyH.cons rfl (fun K hK => ?_) AllReadyH.nil)
                    refine app_st rfl (.tmp 75) (.tmp 80) rfl wz.heap.size (.slice (some ⟨wz.drew.heap.size, 0, none⟩) 0 0) [] rfl O0.out vA vn vc st.2 rfl (rdS_lo2 HRG.out (hHeld.2.2).out HNG.out) (by have := HVN.out; simp; omega) (show wz.heap.size ≤ x13.heap.size from (hHeld.2.2).out.size) ?_
                    intro A8 c8 x8 o8 f8
                    try simp only [List.length_nil, Nat.zero_add, List.nil_append] at o8
                    try simp only [List.length_nil, Nat.zero_add]
                    have f : Fr (fun q => wz.heap.size ≤ q) x13 x8 := frO O0.out f8
                    have FW := kfB f hHeld.2.2
                    have FN := kfB f FN
                    have OX := hid o8
                    have RL := hid (rdS_lo2 RL.out f8 (fun g o h e => by cases h; exact HLE.out (Option.some.inj (show some (wz.drew).heap.size = some (x2).heap.size from e)).symm))
                    clear o8 f8
                    refine hK.out _ _ ?_ (fun hHeld => ?_)
                    · (try dsimp only); (first | (go_split_ands; exact ⟨kc f (by assumption), kc f (by assumption), by assumption⟩) | (go_split_ands; exact ⟨(by assumption), (by assumption), by assumption⟩) | (go_split_ands; exact ⟨kc (fr1 _ _) (by assumption), kc (fr1 _ _) (by assumption), kfa (by assumption)⟩) | (exact ⟨kcB f HLZ.out hHeld.1, kcB f HLZ.out hHeld.2.1, FW⟩) | (exact ⟨kcs (Fr.set1 _ gO _ _) HLG.out hHeld.1, kcs (Fr.set1 _ gO _ _) HLG.out hHeld.2.1, kfT (Fr.set1 _ gO _ _) hHeld.2.2⟩) | (exact hHeld))
                    clear hK K
                    try simp only [Act.put, List.getElem_toArray, List.getElem_cons_succ, List.getElem_cons_zero, List.setIfInBounds_toArray, List.set_cons_zero, List.set_cons_succ]
                    refine wpAnyH_ready (rs := [14]) (by kernel_rfl) (by simp) (AllReadyH.cons rfl (fun K hK => ?_) AllReadyH.nil)
                    refine app_st rfl (.tmp 81) (.tmp 86) rfl wz.heap.size _ st.2 (by first | rfl | (rw [← HVE.out]; rfl)) (by have := OX.out; first | exact this | (rw [← HVE.out]; exact this)) (some ⟨x2.heap.size, 0, none⟩) 1 1 [(p0, p1)] rfl RL.out (by have := HVN.out; have := HVE.out; omega) (show wz.heap.size ≤ x8.heap.size from (hHeld.2.2).out.size) ?_
                    intro A14 c14 x14 o14 f14
                    have f : Fr (fun q => wz.heap.size ≤ q) x8 x14 := frO OX.out f14
                    have FW := kfB f hHeld.2.2
                    have FN := kfB f FN
                    have OY := hid o14
                    clear o14 f14
                    refine hK.out _ _ ?_ (fun hHeld => ?_)
                    · (try dsimp only); (first | (go_split_ands; exact ⟨kc f (by assumption), kc f (by assumption), by assumption⟩) | (go_split_ands; exact ⟨(by assumption), (by assumption), by assumption⟩) | (go_split_ands; exact ⟨kc (fr1 _ _) (by assumption), kc (fr1 _ _) (by assumption), kfa (by assumption)⟩) | (exact ⟨kcB f HLZ.out hHeld.1, kcB f HLZ.out hHeld.2.1, FW⟩) | (exact ⟨kcs (Fr.set1 _ gO _ _) HLG.out hHeld.1, kcs (Fr.set1 _ gO _ _) HLG.out hHeld.2.1, kfT (Fr.set1 _ gO _ _) hHeld.2.2⟩) | (exact hHeld))
                    clear hK K
                    try simp only [Act.put, List.getElem_toArray, List.getElem_cons_succ, List.getElem_cons_zero, List.setIfInBounds_toArray, List.set_cons_zero, List.set_cons_succ]
                    refine wpAnyH_take (i := 15) (v := ?v28) rfl (by kernel_rfl) (by kernel_rfl) (by kernel_rfl) (fun _ _ _ h => h) (Or.inl ⟨by kernel_rfl, ?y28⟩) (by assumption) ?_
                    case y28 => (intro w hSw; (try dsimp only at hSw); go_simp; all_goals with_reducible rfl)
                    try simp only [Act.put, List.getElem_toArray, List.getElem_cons_succ, List.getElem_cons_zero, List.setIfInBounds_toArray, List.set_cons_zero, List.set_cons_succ]
                    refine wpAnyH_take (i := 16) (v := (.pointer (some ⟨gO, K * 3 + 2, none⟩))) rfl (by kernel_rfl) (by kernel_rfl) (by kernel_rfl) (fun _ _ _ h => h) (Or.inl ⟨by kernel_rfl, fun w hSw => by first | (go_simp; done) | (go_simp; with_reducible rfl) | (go_simp; omega)⟩) (by assumption) ?_
                    try simp only [Act.put, List.getElem_toArray, List.getElem_cons_succ, List.getElem_cons_zero, List.setIfInBounds_toArray, List.set_cons_zero, List.set_cons_succ]
                    refine wpAnyH_ready (rs := [17]) (by kernel_rfl) (by simp) (AllReadyH.cons rfl (fun K hK => ?_) AllReadyH.nil)
                    obtain ⟨y9, z9, s9⟩ := row_at (HRZ.out.fr FN.out).row HVK.out
                    dsimp only [SV.v] at y9
                    go_simp
                    refine hK.out _ _ ?_ (fun hHeld => ?_)
                    · (try dsimp only); (first | (go_split_ands; exact ⟨kc f (by assumption), kc f (by assumption), by assumption⟩) | (go_split_ands; exact ⟨(by assumption), (by assumption), by assumption⟩) | (go_split_ands; exact ⟨kc (fr1 _ _) (by assumption), kc (fr1 _ _) (by assumption), kfa (by assumption)⟩) | (exact ⟨kcB f HLZ.out hHeld.1, kcB f HLZ.out hHeld.2.1, FW⟩) | (exact ⟨kcs (Fr.set1 _ gO _ _) HLG.out hHeld.1, kcs (Fr.set1 _ gO _ _) HLG.out hHeld.2.1, kfT (Fr.set1 _ gO _ _) hHeld.2.2⟩) | (exact hHeld))
                    clear hK K
                    try simp only [Act.put, List.getElem_toArray, List.getElem_cons_succ, List.getElem_cons_zero, List.setIfInBounds_toArray, List.set_cons_zero, List.set_cons_succ]
                    refine wpAnyH_done (by kernel_rfl) ?_ _
                    refine NoPanic.normal ?_
                    have FX := hHeld.2.2
                    clear hHeld
                    obtain ⟨s9a, s9b⟩ := s9 ⟨A14, st.2.length + 1, c14⟩
                    dsimp only [SV.v] at s9a s9b
                    have HRE := hid (HR.put (v := ⟨A14, st.2.length + 1, c14⟩) (HRZ.out.fr FN.out) (s9b.mono (fun q _ e => by rw [e]; rfl)) (by rw [HGL.out]; exact s9a) (Out.le OY.out HWZ.out) (by simp))
                    have HOE := hid (own_fr (HOLZ.out.fr FN.out) s9b (fun q hq e => HLG.out (by simp [Value.ownBlock] at hq; have e2 : q = gO := e; omega)))
                    have HFE := hid ((HFZ.out.trans FN.out).step s9b (fun q hq e => by have := HOG.out; have e2 : q = gO := e; omega))
                    go_wp2
                    go_roundw
                    case rel => (try refine ⟨_, _, ?_, rfl, rfl⟩); exact ⟨k + 1, vs2.set K ⟨A14, st.2.length + 1, c14⟩, some ⟨gO, 0, none⟩, cV, by rw [HN.out]; omega, by go_num, by rw [List.length_set, HV2.out], by rw [HNX.out, HGN.out, ← HGL.out]; have h := HRE.out; rw [HGL.out] at h ⊢; exact h, HOE.out, HFE.out⟩
                    case measure => first | exact next_m _ _ hlt hw1 | exact next_p _ _ hlt
                · go_simp
                  obtain ⟨x13, hx13⟩ : ∃ x, World.alloc x2 (Obj.cells #[.int .i64 p0, .int .i64 p1] 57) = x := ⟨_, rfl⟩
                  try rw [hx13]
                  have HZ13 := hid (show wz.heap.size ≤ x2.heap.size from (hHeld.2.2).out.size)
                  have f0 : Fr No x2 x13 := by rw [← hx13]; exact fr1 _ _
                  have f : Fr (fun q => wz.heap.size ≤ q) x2 x13 := frB f0
                  have FW := kfB f hHeld.2.2
                  have FN := kfB f FN
                  have RL := hid (show RdS x13 (some ⟨x2.heap.size, 0, none⟩) 1 [(p0, p1)] by rw [← hx13]; exact lit_rd x2 p0 p1)
                  have O0 := hid (own_fr O0.out f0 (fun _ _ h => h))
                  have HLE := hid (show x2.heap.size ≠ (wz.drew).heap.size by have := HS2.out; omega)
                  clear f0 hx13
                  refine hK.out _ _ ?_ (fun hHeld => ?_)
                  · (try dsimp only); (first | (go_split_ands; exact ⟨kc f (by assumption), kc f (by assumption), by assumption⟩) | (go_split_ands; exact ⟨(by assumption), (by assumption), by assumption⟩) | (go_split_ands; exact ⟨kc (fr1 _ _) (by assumption), kc (fr1 _ _) (by assumption), kfa (by assumption)⟩) | (exact ⟨kcB f HLZ.out hHeld.1, kcB f HLZ.out hHeld.2.1, FW⟩) | (exact ⟨kcs (Fr.set1 _ gO _ _) HLG.out hHeld.1, kcs (Fr.set1 _ gO _ _) HLG.out hHeld.2.1, kfT (Fr.set1 _ gO _ _) hHeld.2.2⟩) | (exact hHeld))
                  clear hK K
                  try simp only [Act.put, List.getElem_toArray, List.getElem_cons_succ, List.getElem_cons_zero, List.setIfInBounds_toArray, List.set_cons_zero, List.set_cons_succ]
                  refine wpAnyH_ready (rs := [7]) (by kernel_rfl) (by simp) (AllReadyH.cons rfl (fun K hK => ?_) AllReadyH.nil)
                  have y7 := (row_at (HRZ.out.fr FN.out).row HVK.out).1
                  dsimp only [SV.v] at y7
                  go_simp
                  have FW := hHeld.2.2
                  refine hK.out _ _ ?_ (fun hHeld => ?_)
                  · (try dsimp only); (first | (go_split_ands; exact ⟨kc f (by assumption), kc f (by assumption), by assumption⟩) | (go_split_ands; exact ⟨(by assumption), (by assumption), by assumption⟩) | (go_split_ands; exact ⟨kc (fr1 _ _) (by assumption), kc (fr1 _ _) (by assumption), kfa (by assumption)⟩) | (exact ⟨kcB f HLZ.out hHeld.1, kcB f HLZ.out hHeld.2.1, FW⟩) | (exact ⟨kcs (Fr.set1 _ gO _ _) HLG.out hHeld.1, kcs (Fr.set1 _ gO _ _) HLG.out hHeld.2.1, kfT (Fr.set1 _ gO _ _) hHeld.2.2⟩) | (exact hHeld))
                  clear hK K
                  try simp only [Act.put, List.getElem_toArray, List.getElem_cons_succ, List.getElem_cons_zero, List.setIfInBounds_toArray, List.set_cons_zero, List.set_cons_succ]
                  refine wpAnyH_ready (rs := [8]) (by kernel_rfl) (by simp) (AllReadyH.cons rfl (fun K hK => ?_) AllReadyH.nil)
                  refine app_st rfl (.tmp 75) (.tmp 80) rfl wz.heap.size (.slice (some ⟨wz.drew.heap.size, 0, none⟩) 0 0) [] rfl O0.out vA vn vc st.2 rfl (rdS_lo2 HRG.out (hHeld.2.2).out HNG.out) (by have := HVN.out; simp; omega) (show wz.heap.size ≤ x13.heap.size from (hHeld.2.2).out.size) ?_
                  intro A8 c8 x8 o8 f8
                  try simp only [List.length_nil, Nat.zero_add, List.nil_append] at o8
                  try simp only [List.length_nil, Nat.zero_add]
                  have f : Fr (fun q => wz.heap.size ≤ q) x13 x8 := frO O0.out f8
                  have FW := kfB f hHeld.2.2
                  have FN := kfB f FN
                  have OX := hid o8
                  have RL := hid (rdS_lo2 RL.out f8 (fun g o h e => by cases h; exact HLE.out (Option.some.inj (show some (wz.drew).heap.size = some (x2).heap.size from e)).symm))
                  clear o8 f8
                  refine hK.out _ _ ?_ (fun hHeld => ?_)
                  · (try dsimp only); (first | (go_split_ands; exact ⟨kc f (by assumption), kc f (by assumption), by assumption⟩) | (go_split_ands; exact ⟨(by assumption), (by assumption), by assumption⟩) | (go_split_ands; exact ⟨kc (fr1 _ _) (by assumption), kc (fr1 _ _) (by assumption), kfa (by assumption)⟩) | (exact ⟨kcB f HLZ.out hHeld.1, kcB f HLZ.out hHeld.2.1, FW⟩) | (exact ⟨kcs (Fr.set1 _ gO _ _) HLG.out hHeld.1, kcs (Fr.set1 _ gO _ _) HLG.out hHeld.2.1, kfT (Fr.set1 _ gO _ _) hHeld.2.2⟩) | (exact hHeld))
                  clear hK K
                  try simp only [Act.put, List.getElem_toArray, List.getElem_cons_succ, List.getElem_cons_zero, List.setIfInBounds_toArray, List.set_cons_zero, List.set_cons_succ]
                  refine wpAnyH_ready (rs := [14]) (by kernel_rfl) (by simp) (AllReadyH.cons rfl (fun K hK => ?_) AllReadyH.nil)
                  refine app_st rfl (.tmp 81) (.tmp 86) rfl wz.heap.size _ st.2 (by first | rfl | (rw [← HVE.out]; rfl)) (by have := OX.out; first | exact this | (rw [← HVE.out]; exact this)) (some ⟨x2.heap.size, 0, none⟩) 1 1 [(p0, p1)] rfl RL.out (by have := HVN.out; have := HVE.out; omega) (show wz.heap.size ≤ x8.heap.size from (hHeld.2.2).out.size) ?_
                  intro A14 c14 x14 o14 f14
                  have f : Fr (fun q => wz.heap.size ≤ q) x8 x14 := frO OX.out f14
                  have FW := kfB f hHeld.2.2
                  have FN := kfB f FN
                  have OY := hid o14
                  clear o14 f14
                  refine hK.out _ _ ?_ (fun hHeld => ?_)
                  · (try dsimp only); (first | (go_split_ands; exact ⟨kc f (by assumption), kc f (by assumption), by assumption⟩) | (go_split_ands; exact ⟨(by assumption), (by assumption), by assumption⟩) | (go_split_ands; exact ⟨kc (fr1 _ _) (by assumption), kc (fr1 _ _) (by assumption), kfa (by assumption)⟩) | (exact ⟨kcB f HLZ.out hHeld.1, kcB f HLZ.out hHeld.2.1, FW⟩) | (exact ⟨kcs (Fr.set1 _ gO _ _) HLG.out hHeld.1, kcs (Fr.set1 _ gO _ _) HLG.out hHeld.2.1, kfT (Fr.set1 _ gO _ _) hHeld.2.2⟩) | (exact hHeld))
                  clear hK K
                  try simp only [Act.put, List.getElem_toArray, List.getElem_cons_succ, List.getElem_cons_zero, List.setIfInBounds_toArray, List.set_cons_zero, List.set_cons_succ]
                  refine wpAnyH_take (i := 15) (v := ?v29) rfl (by kernel_rfl) (by kernel_rfl) (by kernel_rfl) (fun _ _ _ h => h) (Or.inl ⟨by kernel_rfl, ?y29⟩) (by assumption) ?_
                  case y29 => (intro w hSw; (try dsimp only at hSw); go_simp; all_goals with_reducible rfl)
                  try simp only [Act.put, List.getElem_toArray, List.getElem_cons_succ, List.getElem_cons_zero, List.setIfInBounds_toArray, List.set_cons_zero, List.set_cons_succ]
                  refine wpAnyH_take (i := 16) (v := (.pointer (some ⟨gO, K * 3 + 2, none⟩))) rfl (by kernel_rfl) (by kernel_rfl) (by kernel_rfl) (fun _ _ _ h => h) (Or.inl ⟨by kernel_rfl, fun w hSw => by first | (go_simp; done) | (go_simp; with_reducible rfl) | (go_simp; omega)⟩) (by assumption) ?_
                  try simp only [Act.put, List.getElem_toArray, List.getElem_cons_succ, List.getElem_cons_zero, List.setIfInBounds_toArray, List.set_cons_zero, List.set_cons_succ]
                  refine wpAnyH_ready (rs := [17]) (by kernel_rfl) (by simp) (AllReadyH.cons rfl (fun K hK => ?_) AllReadyH.nil)
                  obtain ⟨y9, z9, s9⟩ := row_at (HRZ.out.fr FN.out).row HVK.out
                  dsimp only [SV.v] at y9
                  go_simp
                  refine hK.out _ _ ?_ (fun hHeld => ?_)
                  · (try dsimp only); (first | (go_split_ands; exact ⟨kc f (by assumption), kc f (by assumption), by assumption⟩) | (go_split_ands; exact ⟨(by assumption), (by assumption), by assumption⟩) | (go_split_ands; exact ⟨kc (fr1 _ _) (by assumption), kc (fr1 _ _) (by assumption), kfa (by assumption)⟩) | (exact ⟨kcB f HLZ.out hHeld.1, kcB f HLZ.out hHeld.2.1, FW⟩) | (exact ⟨kcs (Fr.set1 _ gO _ _) HLG.out hHeld.1, kcs (Fr.set1 _ gO _ _) HLG.out hHeld.2.1, kfT (Fr.set1 _ gO _ _) hHeld.2.2⟩) | (exact hHeld))
                  clear hK K
                  try simp only [Act.put, List.getElem_toArray, List.getElem_cons_succ, List.getElem_cons_zero, List.setIfInBounds_toArray, List.set_cons_zero, List.set_cons_succ]
                  refine wpAnyH_done (by kernel_rfl) ?_ _
                  refine NoPanic.normal ?_
                  have FX := hHeld.2.2
                  clear hHeld
                  obtain ⟨s9a, s9b⟩ := s9 ⟨A14, st.2.length + 1, c14⟩
                  dsimp only [SV.v] at s9a s9b
                  have HRE := hid (HR.put (v := ⟨A14, st.2.length + 1, c14⟩) (HRZ.out.fr FN.out) (s9b.mono (fun q _ e => by rw [e]; rfl)) (by rw [HGL.out]; exact s9a) (Out.le OY.out HWZ.out) (by simp))
                  have HOE := hid (own_fr (HOLZ.out.fr FN.out) s9b (fun q hq e => HLG.out (by simp [Value.ownBlock] at hq; have e2 : q = gO := e; omega)))
                  have HFE := hid ((HFZ.out.trans FN.out).step s9b (fun q hq e => by have := HOG.out; have e2 : q = gO := e; omega))
                  go_wp2
                  go_roundw
                  case rel => (try refine ⟨_, _, ?_, rfl, rfl⟩); exact ⟨k + 1, vs2.set K ⟨A14, st.2.length + 1, c14⟩, some ⟨gO, 0, none⟩, cV, by rw [HN.out]; omega, by go_num, by rw [List.length_set, HV2.out], by rw [HNX.out, HGN.out, ← HGL.out]; have h := HRE.out; rw [HGL.out] at h ⊢; exact h, HOE.out, HFE.out⟩
                  case measure => first | exact next_m _ _ hlt hw1 | exact next_p _ _ hlt
              · have y7 := (row_at (HRZ.out.fr FN.out).row HVK.out).1
                dsimp only [SV.v] at y7
                go_simp
                have FW := hHeld.2.2
                refine hK.out _ _ ?_ (fun hHeld => ?_)
                · (try dsimp only); (first | (go_split_ands; exact ⟨kc f (by assumption), kc f (by assumption), by assumption⟩) | (go_split_ands; exact ⟨(by assumption), (by assumption), by assumption⟩) | (go_split_ands; exact ⟨kc (fr1 _ _) (by assumption), kc (fr1 _ _) (by assumption), kfa (by assumption)⟩) | (exact ⟨kcB f HLZ.out hHeld.1, kcB f HLZ.out hHeld.2.1, FW⟩) | (exact ⟨kcs (Fr.set1 _ gO _ _) HLG.out hHeld.1, kcs (Fr.set1 _ gO _ _) HLG.out hHeld.2.1, kfT (Fr.set1 _ gO _ _) hHeld.2.2⟩) | (exact hHeld))
                clear hK K
                try simp only [Act.put, List.getElem_toArray, List.getElem_cons_succ, List.getElem_cons_zero, List.setIfInBounds_toArray, List.set_cons_zero, List.set_cons_succ]
                refine wpAnyH_ready (rs := [2, 13]) (by kernel_rfl) (by simp) (AllReadyH.cons rfl (fun K hK => ?_) (AllReadyH.cons rfl (fun K hK => ?_) AllReadyH.nil))
                · go_simp
                  obtain ⟨x2, hx2⟩ : ∃ x, World.drew (World.alloc wz (Obj.cells #[] 57)) = x := ⟨_, rfl⟩
                  try rw [hx2]
                  have HZ2 := hid (show wz.heap.size ≤ wz.drew.heap.size from (hHeld.2.2).out.size)
                  have f0 : Fr No wz.drew x2 := by rw [← hx2]; exact fr1dd _ _
                  have f : Fr (fun q => wz.heap.size ≤ q) wz.drew x2 := frB f0
                  have FW := kfB f hHeld.2.2
                  have FN := kfB f FN
                  have O0 := hid (show Out wz.heap.size x2 (.slice (some ⟨wz.drew.heap.size, 0, none⟩) 0 0) [] by rw [← hx2]; exact own0 wz HZ2.out)
                  have HS2 := hid (show x2.heap.size = (wz.drew).heap.size + 1 by rw [← hx2]; first | (simp; done) | (show (World.alloc wz _).heap.size = (wz).heap.size + 1; simp))
                  clear f0 hx2
                  refine hK.out _ _ ?_ (fun hHeld => ?_)
                  · (try dsimp only); (first | (go_split_ands; exact ⟨kc f (by assumption), kc f (by assumption), by assumption⟩) | (go_split_ands; exact ⟨(by assumption), (by assumption), by assumption⟩) | (go_split_ands; exact ⟨kc (fr1 _ _) (by assumption), kc (fr1 _ _) (by assumption), kfa (by assumption)⟩) | (exact ⟨kcB f HLZ.out hHeld.1, kcB f HLZ.out hHeld.2.1, FW⟩) | (exact ⟨kcs (Fr.set1 _ gO _ _) HLG.out hHeld.1, kcs (Fr.set1 _ gO _ _) HLG.out hHeld.2.1, kfT (Fr.set1 _ gO _ _) hHeld.2.2⟩) | (exact hHeld))
                  clear hK K
                  try simp only [Act.put, List.getElem_toArray, List.getElem_cons_succ, List.getElem_cons_zero, List.setIfInBounds_toArray, List.set_cons_zero, List.set_cons_succ]
                  refine wpAnyH_ready (rs := [8, 13]) (by kernel_rfl) (by simp) (AllReadyH.cons rfl (fun K hK => ?_) (AllReadyH.cons rfl (fun K hK => ?_) AllReadyH.nil))
                  · refine app_st rfl (.tmp 75) (.tmp 80) rfl wz.heap.size (.slice (some ⟨wz.drew.heap.size, 0, none⟩) 0 0) [] rfl O0.out vA vn vc st.2 rfl (rdS_lo2 HRG.out (hHeld.2.2).out HNG.out) (by have := HVN.out; simp; omega) (show wz.heap.size ≤ x2.heap.size from (hHeld.2.2).out.size) ?_
                    intro A8 c8 x8 o8 f8
                    try simp only [List.length_nil, Nat.zero_add, List.nil_append] at o8
                    try simp only [List.length_nil, Nat.zero_add]
                    have f : Fr (fun q => wz.heap.size ≤ q) x2 x8 := frO O0.out f8
                    have FW := kfB f hHeld.2.2
                    have FN := kfB f FN
                    have OX := hid o8
                    clear o8 f8
                    refine hK.out _ _ ?_ (fun hHeld => ?_)
                    · (try dsimp only); (first | (go_split_ands; exact ⟨kc f (by assumption), kc f (by assumption), by assumption⟩) | (go_split_ands; exact ⟨(by assumption), (by assumption), by assumption⟩) | (go_split_ands; exact ⟨kc (fr1 _ _) (by assumption), kc (fr1 _ _) (by assumption), kfa (by assumption)⟩) | (exact ⟨kcB f HLZ.out hHeld.1, kcB f HLZ.out hHeld.2.1, FW⟩) | (exact ⟨kcs (Fr.set1 _ gO _ _) HLG.out hHeld.1, kcs (Fr.set1 _ gO _ _) HLG.out hHeld.2.1, kfT (Fr.set1 _ gO _ _) hHeld.2.2⟩) | (exact hHeld))
                    clear hK K
                    try simp only [Act.put, List.getElem_toArray, List.getElem_cons_succ, List.getElem_cons_zero, List.setIfInBounds_toArray, List.set_cons_zero, List.set_cons_succ]
                    refine wpAnyH_ready (rs := [13]) (by kernel_rfl) (by simp) (AllReadyH.cons rfl (fun K hK => ?_) AllReadyH.nil)
                    go_simp
                    obtain ⟨x13, hx13⟩ : ∃ x, World.alloc x8 (Obj.cells #[.int .i64 p0, .int .i64 p1] 57) = x := ⟨_, rfl⟩
                    try rw [hx13]
                    have HZ13 := hid (show wz.heap.size ≤ x8.heap.size from (hHeld.2.2).out.size)
                    have f0 : Fr No x8 x13 := by rw [← hx13]; exact fr1 _ _
                    have f : Fr (fun q => wz.heap.size ≤ q) x8 x13 := frB f0
                    have FW := kfB f hHeld.2.2
                    have FN := kfB f FN
                    have RL := hid (show RdS x13 (some ⟨x8.heap.size, 0, none⟩) 1 [(p0, p1)] by rw [← hx13]; exact lit_rd x8 p0 p1)
                    have OX := hid (own_fr OX.out f0 (fun _ _ h => h))
                    clear f0 hx13
                    refine hK.out _ _ ?_ (fun hHeld => ?_)
                    · (try dsimp only); (first | (go_split_ands; exact ⟨kc f (by assumption), kc f (by assumption), by assumption⟩) | (go_split_ands; exact ⟨(by assumption), (by assumption), by assumption⟩) | (go_split_ands; exact ⟨kc (fr1 _ _) (by assumption), kc (fr1 _ _) (by assumption), kfa (by assumption)⟩) | (exact ⟨kcB f HLZ.out hHeld.1, kcB f HLZ.out hHeld.2.1, FW⟩) | (exact ⟨kcs (Fr.set1 _ gO _ _) HLG.out hHeld.1, kcs (Fr.set1 _ gO _ _) HLG.out hHeld.2.1, kfT (Fr.set1 _ gO _ _) hHeld.2.2⟩) | (exact hHeld))
                    clear hK K
                    try simp only [Act.put, List.getElem_toArray, List.getElem_cons_succ, List.getElem_cons_zero, List.setIfInBounds_toArray, List.set_cons_zero, List.set_cons_succ]
                    refine wpAnyH_ready (rs := [14]) (by kernel_rfl) (by simp) (AllReadyH.cons rfl (fun K hK => ?_) AllReadyH.nil)
                    refine app_st rfl (.tmp 81) (.tmp 86) rfl wz.heap.size _ st.2 (by first | rfl | (rw [← HVE.out]; rfl)) (by have := OX.out; first | exact this | (rw [← HVE.out]; exact this)) (some ⟨x8.heap.size, 0, none⟩) 1 1 [(p0, p1)] rfl RL.out (by have := HVN.out; have := HVE.out; omega) (show wz.heap.size ≤ x13.heap.size from (hHeld.2.2).out.size) ?_
                    intro A14 c14 x14 o14 f14
                    have f : Fr (fun q => wz.heap.size ≤ q) x13 x14 := frO OX.out f14
                    have FW := kfB f hHeld.2.2
                    have FN := kfB f FN
                    have OY := hid o14
                    clear o14 f14
                    refine hK.out _ _ ?_ (fun hHeld => ?_)
                    · (try dsimp only); (first | (go_split_ands; exact ⟨kc f (by assumption), kc f (by assumption), by assumption⟩) | (go_split_ands; exact ⟨(by assumption), (by assumption), by assumption⟩) | (go_split_ands; exact ⟨kc (fr1 _ _) (by assumption), kc (fr1 _ _) (by assumption), kfa (by assumption)⟩) | (exact ⟨kcB f HLZ.out hHeld.1, kcB f HLZ.out hHeld.2.1, FW⟩) | (exact ⟨kcs (Fr.set1 _ gO _ _) HLG.out hHeld.1, kcs (Fr.set1 _ gO _ _) HLG.out hHeld.2.1, kfT (Fr.set1 _ gO _ _) hHeld.2.2⟩) | (exact hHeld))
                    clear hK K
                    try simp only [Act.put, List.getElem_toArray, List.getElem_cons_succ, List.getElem_cons_zero, List.setIfInBounds_toArray, List.set_cons_zero, List.set_cons_succ]
                    refine wpAnyH_take (i := 15) (v := ?v30) rfl (by kernel_rfl) (by kernel_rfl) (by kernel_rfl) (fun _ _ _ h => h) (Or.inl ⟨by kernel_rfl, ?y30⟩) (by assumption) ?_
                    case y30 => (intro w hSw; (try dsimp only at hSw); go_simp; all_goals with_reducible rfl)
                    try simp only [Act.put, List.getElem_toArray, List.getElem_cons_succ, List.getElem_cons_zero, List.setIfInBounds_toArray, List.set_cons_zero, List.set_cons_succ]
                    refine wpAnyH_take (i := 16) (v := (.pointer (some ⟨gO, K * 3 + 2, none⟩))) rfl (by kernel_rfl) (by kernel_rfl) (by kernel_rfl) (fun _ _ _ h => h) (Or.inl ⟨by kernel_rfl, fun w hSw => by first | (go_simp; done) | (go_simp; with_reducible rfl) | (go_simp; omega)⟩) (by assumption) ?_
                    try simp only [Act.put, List.getElem_toArray, List.getElem_cons_succ, List.getElem_cons_zero, List.setIfInBounds_toArray, List.set_cons_zero, List.set_cons_succ]
                    refine wpAnyH_ready (rs := [17]) (by kernel_rfl) (by simp) (AllReadyH.cons rfl (fun K hK => ?_) AllReadyH.nil)
                    obtain ⟨y9, z9, s9⟩ := row_at (HRZ.out.fr FN.out).row HVK.out
                    dsimp only [SV.v] at y9
                    go_simp
                    refine hK.out _ _ ?_ (fun hHeld => ?_)
                    · (try dsimp only); (first | (go_split_ands; exact ⟨kc f (by assumption), kc f (by assumption), by assumption⟩) | (go_split_ands; exact ⟨(by assumption), (by assumption), by assumption⟩) | (go_split_ands; exact ⟨kc (fr1 _ _) (by assumption), kc (fr1 _ _) (by assumption), kfa (by assumption)⟩) | (exact ⟨kcB f HLZ.out hHeld.1, kcB f HLZ.out hHeld.2.1, FW⟩) | (exact ⟨kcs (Fr.set1 _ gO _ _) HLG.out hHeld.1, kcs (Fr.set1 _ gO _ _) HLG.out hHeld.2.1, kfT (Fr.set1 _ gO _ _) hHeld.2.2⟩) | (exact hHeld))
                    clear hK K
                    try simp only [Act.put, List.getElem_toArray, List.getElem_cons_succ, List.getElem_cons_zero, List.setIfInBounds_toArray, List.set_cons_zero, List.set_cons_succ]
                    refine wpAnyH_done (by kernel_rfl) ?_ _
                    refine NoPanic.normal ?_
                    have FX := hHeld.2.2
                    clear hHeld
                    obtain ⟨s9a, s9b⟩ := s9 ⟨A14, st.2.length + 1, c14⟩
                    dsimp only [SV.v] at s9a s9b
                    have HRE := hid (HR.put (v := ⟨A14, st.2.length + 1, c14⟩) (HRZ.out.fr FN.out) (s9b.mono (fun q _ e => by rw [e]; rfl)) (by rw [HGL.out]; exact s9a) (Out.le OY.out HWZ.out) (by simp))
                    have HOE := hid (own_fr (HOLZ.out.fr FN.out) s9b (fun q hq e => HLG.out (by simp [Value.ownBlock] at hq; have e2 : q = gO := e; omega)))
                    have HFE := hid ((HFZ.out.trans FN.out).step s9b (fun q hq e => by have := HOG.out; have e2 : q = gO := e; omega))
                    go_wp2
                    go_roundw
                    case rel => (try refine ⟨_, _, ?_, rfl, rfl⟩); exact ⟨k + 1, vs2.set K ⟨A14, st.2.length + 1, c14⟩, some ⟨gO, 0, none⟩, cV, by rw [HN.out]; omega, by go_num, by rw [List.length_set, HV2.out], by rw [HNX.out, HGN.out, ← HGL.out]; have h := HRE.out; rw [HGL.out] at h ⊢; exact h, HOE.out, HFE.out⟩
                    case measure => first | exact next_m _ _ hlt hw1 | exact next_p _ _ hlt
                  · go_simp
                    obtain ⟨x13, hx13⟩ : ∃ x, World.alloc x2 (Obj.cells #[.int .i64 p0, .int .i64 p1] 57) = x := ⟨_, rfl⟩
                    try rw [hx13]
                    have HZ13 := hid (show wz.heap.size ≤ x2.heap.size from (hHeld.2.2).out.size)
                    have f0 : Fr No x2 x13 := by rw [← hx13]; exact fr1 _ _
                    have f : Fr (fun q => wz.heap.size ≤ q) x2 x13 := frB f0
                    have FW := kfB f hHeld.2.2
                    have FN := kfB f FN
                    have RL := hid (show RdS x13 (some ⟨x2.heap.size, 0, none⟩) 1 [(p0, p1)] by rw [← hx13]; exact lit_rd x2 p0 p1)
                    have O0 := hid (own_fr O0.out f0 (fun _ _ h => h))
                    have HLE := hid (show x2.heap.size ≠ (wz.drew).heap.size by have := HS2.out; omega)
                    clear f0 hx13
                    refine hK.out _ _ ?_ (fun hHeld => ?_)
                    · (try dsimp only); (first | (go_split_ands; exact ⟨kc f (by assumption), kc f (by assumption), by assumption⟩) | (go_split_ands; exact ⟨(by assumption), (by assumption), by assumption⟩) | (go_split_ands; exact ⟨kc (fr1 _ _) (by assumption), kc (fr1 _ _) (by assumption), kfa (by assumption)⟩) | (exact ⟨kcB f HLZ.out hHeld.1, kcB f HLZ.out hHeld.2.1, FW⟩) | (exact ⟨kcs (Fr.set1 _ gO _ _) HLG.out hHeld.1, kcs (Fr.set1 _ gO _ _) HLG.out hHeld.2.1, kfT (Fr.set1 _ gO _ _) hHeld.2.2⟩) | (exact hHeld))
                    clear hK K
                    try simp only [Act.put, List.getElem_toArray, List.getElem_cons_succ, List.getElem_cons_zero, List.setIfInBounds_toArray, List.set_cons_zero, List.set_cons_succ]
                    refine wpAnyH_ready (rs := [8]) (by kernel_rfl) (by simp) (AllReadyH.cons rfl (fun K hK => ?_) AllReadyH.nil)
                    refine app_st rfl (.tmp 75) (.tmp 80) rfl wz.heap.size (.slice (some ⟨wz.drew.heap.size, 0, none⟩) 0 0) [] rfl O0.out vA vn vc st.2 rfl (rdS_lo2 HRG.out (hHeld.2.2).out HNG.out) (by have := HVN.out; simp; omega) (show wz.heap.size ≤ x13.heap.size from (hHeld.2.2).out.size) ?_
                    intro A8 c8 x8 o8 f8
                    try simp only [List.length_nil, Nat.zero_add, List.nil_append] at o8
                    try simp only [List.length_nil, Nat.zero_add]
                    have f : Fr (fun q => wz.heap.size ≤ q) x13 x8 := frO O0.out f8
                    have FW := kfB f hHeld.2.2
                    have FN := kfB f FN
                    have OX := hid o8
                    have RL := hid (rdS_lo2 RL.out f8 (fun g o h e => by cases h; exact HLE.out (Option.some.inj (show some (wz.drew).heap.size = some (x2).heap.size from e)).symm))
                    clear o8 f8
                    refine hK.out _ _ ?_ (fun hHeld => ?_)
                    · (try dsimp only); (first | (go_split_ands; exact ⟨kc f (by assumption), kc f (by assumption), by assumption⟩) | (go_split_ands; exact ⟨(by assumption), (by assumption), by assumption⟩) | (go_split_ands; exact ⟨kc (fr1 _ _) (by assumption), kc (fr1 _ _) (by assumption), kfa (by assumption)⟩) | (exact ⟨kcB f HLZ.out hHeld.1, kcB f HLZ.out hHeld.2.1, FW⟩) | (exact ⟨kcs (Fr.set1 _ gO _ _) HLG.out hHeld.1, kcs (Fr.set1 _ gO _ _) HLG.out hHeld.2.1, kfT (Fr.set1 _ gO _ _) hHeld.2.2⟩) | (exact hHeld))
                    clear hK K
                    try simp only [Act.put, List.getElem_toArray, List.getElem_cons_succ, List.getElem_cons_zero, List.setIfInBounds_toArray, List.set_cons_zero, List.set_cons_succ]
                    refine wpAnyH_ready (rs := [14]) (by kernel_rfl) (by simp) (AllReadyH.cons rfl (fun K hK => ?_) AllReadyH.nil)
                    refine app_st rfl (.tmp 81) (.tmp 86) rfl wz.heap.size _ st.2 (by first | rfl | (rw [← HVE.out]; rfl)) (by have := OX.out; first | exact this | (rw [← HVE.out]; exact this)) (some ⟨x2.heap.size, 0, none⟩) 1 1 [(p0, p1)] rfl RL.out (by have := HVN.out; have := HVE.out; omega) (show wz.heap.size ≤ x8.heap.size from (hHeld.2.2).out.size) ?_
                    intro A14 c14 x14 o14 f14
                    have f : Fr (fun q => wz.heap.size ≤ q) x8 x14 := frO OX.out f14
                    have FW := kfB f hHeld.2.2
                    have FN := kfB f FN
                    have OY := hid o14
                    clear o14 f14
                    refine hK.out _ _ ?_ (fun hHeld => ?_)
                    · (try dsimp only); (first | (go_split_ands; exact ⟨kc f (by assumption), kc f (by assumption), by assumption⟩) | (go_split_ands; exact ⟨(by assumption), (by assumption), by assumption⟩) | (go_split_ands; exact ⟨kc (fr1 _ _) (by assumption), kc (fr1 _ _) (by assumption), kfa (by assumption)⟩) | (exact ⟨kcB f HLZ.out hHeld.1, kcB f HLZ.out hHeld.2.1, FW⟩) | (exact ⟨kcs (Fr.set1 _ gO _ _) HLG.out hHeld.1, kcs (Fr.set1 _ gO _ _) HLG.out hHeld.2.1, kfT (Fr.set1 _ gO _ _) hHeld.2.2⟩) | (exact hHeld))
                    clear hK K
                    try simp only [Act.put, List.getElem_toArray, List.getElem_cons_succ, List.getElem_cons_zero, List.setIfInBounds_toArray, List.set_cons_zero, List.set_cons_succ]
                    refine wpAnyH_take (i := 15) (v := ?v31) rfl (by kernel_rfl) (by kernel_rfl) (by kernel_rfl) (fun _ _ _ h => h) (Or.inl ⟨by kernel_rfl, ?y31⟩) (by assumption) ?_
                    case y31 => (intro w hSw; (try dsimp only at hSw); go_simp; all_goals with_reducible rfl)
                    try simp only [Act.put, List.getElem_toArray, List.getElem_cons_succ, List.getElem_cons_zero, List.setIfInBounds_toArray, List.set_cons_zero, List.set_cons_succ]
                    refine wpAnyH_take (i := 16) (v := (.pointer (some ⟨gO, K * 3 + 2, none⟩))) rfl (by kernel_rfl) (by kernel_rfl) (by kernel_rfl) (fun _ _ _ h => h) (Or.inl ⟨by kernel_rfl, fun w hSw => by first | (go_simp; done) | (go_simp; with_reducible rfl) | (go_simp; omega)⟩) (by assumption) ?_
                    try simp only [Act.put, List.getElem_toArray, List.getElem_cons_succ, List.getElem_cons_zero, List.setIfInBounds_toArray, List.set_cons_zero, List.set_cons_succ]
                    refine wpAnyH_ready (rs := [17]) (by kernel_rfl) (by simp) (AllReadyH.cons rfl (fun K hK => ?_) AllReadyH.nil)
                    obtain ⟨y9, z9, s9⟩ := row_at (HRZ.out.fr FN.out).row HVK.out
                    dsimp only [SV.v] at y9
                    go_simp
                    refine hK.out _ _ ?_ (fun hHeld => ?_)
                    · (try dsimp only); (first | (go_split_ands; exact ⟨kc f (by assumption), kc f (by assumption), by assumption⟩) | (go_split_ands; exact ⟨(by assumption), (by assumption), by assumption⟩) | (go_split_ands; exact ⟨kc (fr1 _ _) (by assumption), kc (fr1 _ _) (by assumption), kfa (by assumption)⟩) | (exact ⟨kcB f HLZ.out hHeld.1, kcB f HLZ.out hHeld.2.1, FW⟩) | (exact ⟨kcs (Fr.set1 _ gO _ _) HLG.out hHeld.1, kcs (Fr.set1 _ gO _ _) HLG.out hHeld.2.1, kfT (Fr.set1 _ gO _ _) hHeld.2.2⟩) | (exact hHeld))
                    clear hK K
                    try simp only [Act.put, List.getElem_toArray, List.getElem_cons_succ, List.getElem_cons_zero, List.setIfInBounds_toArray, List.set_cons_zero, List.set_cons_succ]
                    refine wpAnyH_done (by kernel_rfl) ?_ _
                    refine NoPanic.normal ?_
                    have FX := hHeld.2.2
                    clear hHeld
                    obtain ⟨s9a, s9b⟩ := s9 ⟨A14, st.2.length + 1, c14⟩
                    dsimp only [SV.v] at s9a s9b
                    have HRE := hid (HR.put (v := ⟨A14, st.2.length + 1, c14⟩) (HRZ.out.fr FN.out) (s9b.mono (fun q _ e => by rw [e]; rfl)) (by rw [HGL.out]; exact s9a) (Out.le OY.out HWZ.out) (by simp))
                    have HOE := hid (own_fr (HOLZ.out.fr FN.out) s9b (fun q hq e => HLG.out (by simp [Value.ownBlock] at hq; have e2 : q = gO := e; omega)))
                    have HFE := hid ((HFZ.out.trans FN.out).step s9b (fun q hq e => by have := HOG.out; have e2 : q = gO := e; omega))
                    go_wp2
                    go_roundw
                    case rel => (try refine ⟨_, _, ?_, rfl, rfl⟩); exact ⟨k + 1, vs2.set K ⟨A14, st.2.length + 1, c14⟩, some ⟨gO, 0, none⟩, cV, by rw [HN.out]; omega, by go_num, by rw [List.length_set, HV2.out], by rw [HNX.out, HGN.out, ← HGL.out]; have h := HRE.out; rw [HGL.out] at h ⊢; exact h, HOE.out, HFE.out⟩
                    case measure => first | exact next_m _ _ hlt hw1 | exact next_p _ _ hlt
                · go_simp
                  obtain ⟨x13, hx13⟩ : ∃ x, World.drew (World.alloc wz (Obj.cells #[.int .i64 p0, .int .i64 p1] 57)) = x := ⟨_, rfl⟩
                  try rw [hx13]
                  have HZ13 := hid (show wz.heap.size ≤ wz.drew.heap.size from (hHeld.2.2).out.size)
                  have f0 : Fr No wz.drew x13 := by rw [← hx13]; exact fr1dd _ _
                  have f : Fr (fun q => wz.heap.size ≤ q) wz.drew x13 := frB f0
                  have FW := kfB f hHeld.2.2
                  have FN := kfB f FN
                  have RL := hid (show RdS x13 (some ⟨wz.drew.heap.size, 0, none⟩) 1 [(p0, p1)] by rw [← hx13]; exact lit_rd wz p0 p1)
                  have HS13 := hid (show x13.heap.size = (wz.drew).heap.size + 1 by rw [← hx13]; first | (simp; done) | (show (World.alloc wz _).heap.size = (wz).heap.size + 1; simp))
                  clear f0 hx13
                  refine hK.out _ _ ?_ (fun hHeld => ?_)
                  · (try dsimp only); (first | (go_split_ands; exact ⟨kc f (by assumption), kc f (by assumption), by assumption⟩) | (go_split_ands; exact ⟨(by assumption), (by assumption), by assumption⟩) | (go_split_ands; exact ⟨kc (fr1 _ _) (by assumption), kc (fr1 _ _) (by assumption), kfa (by assumption)⟩) | (exact ⟨kcB f HLZ.out hHeld.1, kcB f HLZ.out hHeld.2.1, FW⟩) | (exact ⟨kcs (Fr.set1 _ gO _ _) HLG.out hHeld.1, kcs (Fr.set1 _ gO _ _) HLG.out hHeld.2.1, kfT (Fr.set1 _ gO _ _) hHeld.2.2⟩) | (exact hHeld))
                  clear hK K
                  try simp only [Act.put, List.getElem_toArray, List.getElem_cons_succ, List.getElem_cons_zero, List.setIfInBounds_toArray, List.set_cons_zero, List.set_cons_succ]
                  refine wpAnyH_ready (rs := [2]) (by kernel_rfl) (by simp) (AllReadyH.cons rfl (fun K hK => ?_) AllReadyH.nil)
                  go_simp
                  obtain ⟨x2, hx2⟩ : ∃ x, World.alloc x13 (Obj.cells #[] 57) = x := ⟨_, rfl⟩
                  try rw [hx2]
                  have HZ2 := hid (show wz.heap.size ≤ x13.heap.size from (hHeld.2.2).out.size)
                  have f0 : Fr No x13 x2 := by rw [← hx2]; exact fr1 _ _
                  have f : Fr (fun q => wz.heap.size ≤ q) x13 x2 := frB f0
                  have FW := kfB f hHeld.2.2
                  have FN := kfB f FN
                  have O0 := hid (show Out wz.heap.size x2 (.slice (some ⟨x13.heap.size, 0, none⟩) 0 0) [] by rw [← hx2]; exact own0 x13 HZ2.out)
                  have RL := hid (rdS_lo2 RL.out f0 (fun _ _ _ h => h))
                  have HLE := hid (show (wz.drew).heap.size ≠ x13.heap.size by have := HS13.out; omega)
                  clear f0 hx2
                  refine hK.out _ _ ?_ (fun hHeld => ?_)
                  · (try dsimp only); (first | (go_split_ands; exact ⟨kc f (by assumption), kc f (by assumption), by assumption⟩) | (go_split_ands; exact ⟨(by assumption), (by assumption), by assumption⟩) | (go_split_ands; exact ⟨kc (fr1 _ _) (by assumption), kc (fr1 _ _) (by assumption), kfa (by assumption)⟩) | (exact ⟨kcB f HLZ.out hHeld.1, kcB f HLZ.out hHeld.2.1, FW⟩) | (exact ⟨kcs (Fr.set1 _ gO _ _) HLG.out hHeld.1, kcs (Fr.set1 _ gO _ _) HLG.out hHeld.2.1, kfT (Fr.set1 _ gO _ _) hHeld.2.2⟩) | (exact hHeld))
                  clear hK K
                  try simp only [Act.put, List.getElem_toArray, List.getElem_cons_succ, List.getElem_cons_zero, List.setIfInBounds_toArray, List.set_cons_zero, List.set_cons_succ]
                  refine wpAnyH_ready (rs := [8]) (by kernel_rfl) (by simp) (AllReadyH.cons rfl (fun K hK => ?_) AllReadyH.nil)
                  refine app_st rfl (.tmp 75) (.tmp 80) rfl wz.heap.size (.slice (some ⟨x13.heap.size, 0, none⟩) 0 0) [] rfl O0.out vA vn vc st.2 rfl (rdS_lo2 HRG.out (hHeld.2.2).out HNG.out) (by have := HVN.out; simp; omega) (show wz.heap.size ≤ x2.heap.size from (hHeld.2.2).out.size) ?_
                  intro A8 c8 x8 o8 f8
                  try simp only [List.length_nil, Nat.zero_add, List.nil_append] at o8
                  try simp only [List.length_nil, Nat.zero_add]
                  have f : Fr (fun q => wz.heap.size ≤ q) x2 x8 := frO O0.out f8
                  have FW := kfB f hHeld.2.2
                  have FN := kfB f FN
                  have OX := hid o8
                  have RL := hid (rdS_lo2 RL.out f8 (fun g o h e => by cases h; exact HLE.out (Option.some.inj (show some (x13).heap.size = some (wz.drew).heap.size from e)).symm))
                  clear o8 f8
                  refine hK.out _ _ ?_ (fun hHeld => ?_)
                  · (try dsimp only); (first | (go_split_ands; exact ⟨kc f (by assumption), kc f (by assumption), by assumption⟩) | (go_split_ands; exact ⟨(by assumption), (by assumption), by assumption⟩) | (go_split_ands; exact ⟨kc (fr1 _ _) (by assumption), kc (fr1 _ _) (by assumption), kfa (by assumption)⟩) | (exact ⟨kcB f HLZ.out hHeld.1, kcB f HLZ.out hHeld.2.1, FW⟩) | (exact ⟨kcs (Fr.set1 _ gO _ _) HLG.out hHeld.1, kcs (Fr.set1 _ gO _ _) HLG.out hHeld.2.1, kfT (Fr.set1 _ gO _ _) hHeld.2.2⟩) | (exact hHeld))
                  clear hK K
                  try simp only [Act.put, List.getElem_toArray, List.getElem_cons_succ, List.getElem_cons_zero, List.setIfInBounds_toArray, List.set_cons_zero, List.set_cons_succ]
                  refine wpAnyH_ready (rs := [14]) (by kernel_rfl) (by simp) (AllReadyH.cons rfl (fun K hK => ?_) AllReadyH.nil)
                  refine app_st rfl (.tmp 81) (.tmp 86) rfl wz.heap.size _ st.2 (by first | rfl | (rw [← HVE.out]; rfl)) (by have := OX.out; first | exact this | (rw [← HVE.out]; exact this)) (some ⟨wz.drew.heap.size, 0, none⟩) 1 1 [(p0, p1)] rfl RL.out (by have := HVN.out; have := HVE.out; omega) (show wz.heap.size ≤ x8.heap.size from (hHeld.2.2).out.size) ?_
                  intro A14 c14 x14 o14 f14
                  have f : Fr (fun q => wz.heap.size ≤ q) x8 x14 := frO OX.out f14
                  have FW := kfB f hHeld.2.2
                  have FN := kfB f FN
                  have OY := hid o14
                  clear o14 f14
                  refine hK.out _ _ ?_ (fun hHeld => ?_)
                  · (try dsimp only); (first | (go_split_ands; exact ⟨kc f (by assumption), kc f (by assumption), by assumption⟩) | (go_split_ands; exact ⟨(by assumption), (by assumption), by assumption⟩) | (go_split_ands; exact ⟨kc (fr1 _ _) (by assumption), kc (fr1 _ _) (by assumption), kfa (by assumption)⟩) | (exact ⟨kcB f HLZ.out hHeld.1, kcB f HLZ.out hHeld.2.1, FW⟩) | (exact ⟨kcs (Fr.set1 _ gO _ _) HLG.out hHeld.1, kcs (Fr.set1 _ gO _ _) HLG.out hHeld.2.1, kfT (Fr.set1 _ gO _ _) hHeld.2.2⟩) | (exact hHeld))
                  clear hK K
                  try simp only [Act.put, List.getElem_toArray, List.getElem_cons_succ, List.getElem_cons_zero, List.setIfInBounds_toArray, List.set_cons_zero, List.set_cons_succ]
                  refine wpAnyH_take (i := 15) (v := ?v32) rfl (by kernel_rfl) (by kernel_rfl) (by kernel_rfl) (fun _ _ _ h => h) (Or.inl ⟨by kernel_rfl, ?y32⟩) (by assumption) ?_
                  case y32 => (intro w hSw; (try dsimp only at hSw); go_simp; all_goals with_reducible rfl)
                  try simp only [Act.put, List.getElem_toArray, List.getElem_cons_succ, List.getElem_cons_zero, List.setIfInBounds_toArray, List.set_cons_zero, List.set_cons_succ]
                  refine wpAnyH_take (i := 16) (v := (.pointer (some ⟨gO, K * 3 + 2, none⟩))) rfl (by kernel_rfl) (by kernel_rfl) (by kernel_rfl) (fun _ _ _ h => h) (Or.inl ⟨by kernel_rfl, fun w hSw => by first | (go_simp; done) | (go_simp; with_reducible rfl) | (go_simp; omega)⟩) (by assumption) ?_
                  try simp only [Act.put, List.getElem_toArray, List.getElem_cons_succ, List.getElem_cons_zero, List.setIfInBounds_toArray, List.set_cons_zero, List.set_cons_succ]
                  refine wpAnyH_ready (rs := [17]) (by kernel_rfl) (by simp) (AllReadyH.cons rfl (fun K hK => ?_) AllReadyH.nil)
                  obtain ⟨y9, z9, s9⟩ := row_at (HRZ.out.fr FN.out).row HVK.out
                  dsimp only [SV.v] at y9
                  go_simp
                  refine hK.out _ _ ?_ (fun hHeld => ?_)
                  · (try dsimp only); (first | (go_split_ands; exact ⟨kc f (by assumption), kc f (by assumption), by assumption⟩) | (go_split_ands; exact ⟨(by assumption), (by assumption), by assumption⟩) | (go_split_ands; exact ⟨kc (fr1 _ _) (by assumption), kc (fr1 _ _) (by assumption), kfa (by assumption)⟩) | (exact ⟨kcB f HLZ.out hHeld.1, kcB f HLZ.out hHeld.2.1, FW⟩) | (exact ⟨kcs (Fr.set1 _ gO _ _) HLG.out hHeld.1, kcs (Fr.set1 _ gO _ _) HLG.out hHeld.2.1, kfT (Fr.set1 _ gO _ _) hHeld.2.2⟩) | (exact hHeld))
                  clear hK K
                  try simp only [Act.put, List.getElem_toArray, List.getElem_cons_succ, List.getElem_cons_zero, List.setIfInBounds_toArray, List.set_cons_zero, List.set_cons_succ]
                  refine wpAnyH_done (by kernel_rfl) ?_ _
                  refine NoPanic.normal ?_
                  have FX := hHeld.2.2
                  clear hHeld
                  obtain ⟨s9a, s9b⟩ := s9 ⟨A14, st.2.length + 1, c14⟩
                  dsimp only [SV.v] at s9a s9b
                  have HRE := hid (HR.put (v := ⟨A14, st.2.length + 1, c14⟩) (HRZ.out.fr FN.out) (s9b.mono (fun q _ e => by rw [e]; rfl)) (by rw [HGL.out]; exact s9a) (Out.le OY.out HWZ.out) (by simp))
                  have HOE := hid (own_fr (HOLZ.out.fr FN.out) s9b (fun q hq e => HLG.out (by simp [Value.ownBlock] at hq; have e2 : q = gO := e; omega)))
                  have HFE := hid ((HFZ.out.trans FN.out).step s9b (fun q hq e => by have := HOG.out; have e2 : q = gO := e; omega))
                  go_wp2
                  go_roundw
                  case rel => (try refine ⟨_, _, ?_, rfl, rfl⟩); exact ⟨k + 1, vs2.set K ⟨A14, st.2.length + 1, c14⟩, some ⟨gO, 0, none⟩, cV, by rw [HN.out]; omega, by go_num, by rw [List.length_set, HV2.out], by rw [HNX.out, HGN.out, ← HGL.out]; have h := HRE.out; rw [HGL.out] at h ⊢; exact h, HOE.out, HFE.out⟩
                  case measure => first | exact next_m _ _ hlt hw1 | exact next_p _ _ hlt
              · go_simp
                obtain ⟨x13, hx13⟩ : ∃ x, World.drew (World.alloc wz (Obj.cells #[.int .i64 p0, .int .i64 p1] 57)) = x := ⟨_, rfl⟩
                try rw [hx13]
                have HZ13 := hid (show wz.heap.size ≤ wz.drew.heap.size from (hHeld.2.2).out.size)
                have f0 : Fr No wz.drew x13 := by rw [← hx13]; exact fr1dd _ _
                have f : Fr (fun q => wz.heap.size ≤ q) wz.drew x13 := frB f0
                have FW := kfB f hHeld.2.2
                have FN := kfB f FN
                have RL := hid (show RdS x13 (some ⟨wz.drew.heap.size, 0, none⟩) 1 [(p0, p1)] by rw [← hx13]; exact lit_rd wz p0 p1)
                have HS13 := hid (show x13.heap.size = (wz.drew).heap.size + 1 by rw [← hx13]; first | (simp; done) | (show (World.alloc wz _).heap.size = (wz).heap.size + 1; simp))
                clear f0 hx13
                refine hK.out _ _ ?_ (fun hHeld => ?_)
                · (try dsimp only); (first | (go_split_ands; exact ⟨kc f (by assumption), kc f (by assumption), by assumption⟩) | (go_split_ands; exact ⟨(by assumption), (by assumption), by assumption⟩) | (go_split_ands; exact ⟨kc (fr1 _ _) (by assumption), kc (fr1 _ _) (by assumption), kfa (by assumption)⟩) | (exact ⟨kcB f HLZ.out hHeld.1, kcB f HLZ.out hHeld.2.1, FW⟩) | (exact ⟨kcs (Fr.set1 _ gO _ _) HLG.out hHeld.1, kcs (Fr.set1 _ gO _ _) HLG.out hHeld.2.1, kfT (Fr.set1 _ gO _ _) hHeld.2.2⟩) | (exact hHeld))
                clear hK K
                try simp only [Act.put, List.getElem_toArray, List.getElem_cons_succ, List.getElem_cons_zero, List.setIfInBounds_toArray, List.set_cons_zero, List.set_cons_succ]
                refine wpAnyH_ready (rs := [2, 7]) (by kernel_rfl) (by simp) (AllReadyH.cons rfl (fun K hK => ?_) (AllReadyH.cons rfl (fun K hK => ?_) AllReadyH.nil))
                · go_simp
                  obtain ⟨x2, hx2⟩ : ∃ x, World.alloc x13 (Obj.cells #[] 57) = x := ⟨_, rfl⟩
                  try rw [hx2]
                  have HZ2 := hid (show wz.heap.size ≤ x13.heap.size from (hHeld.2.2).out.size)
                  have f0 : Fr No x13 x2 := by rw [← hx2]; exact fr1 _ _
                  have f : Fr (fun q => wz.heap.size ≤ q) x13 x2 := frB f0
                  have FW := kfB f hHeld.2.2
                  have FN := kfB f FN
                  have O0 := hid (show Out wz.heap.size x2 (.slice (some ⟨x13.heap.size, 0, none⟩) 0 0) [] by rw [← hx2]; exact own0 x13 HZ2.out)
                  have RL := hid (rdS_lo2 RL.out f0 (fun _ _ _ h => h))
                  have HLE := hid (show (wz.drew).heap.size ≠ x13.heap.size by have := HS13.out; omega)
                  clear f0 hx2
                  refine hK.out _ _ ?_ (fun hHeld => ?_)
                  · (try dsimp only); (first | (go_split_ands; exact ⟨kc f (by assumption), kc f (by assumption), by assumption⟩) | (go_split_ands; exact ⟨(by assumption), (by assumption), by assumption⟩) | (go_split_ands; exact ⟨kc (fr1 _ _) (by assumption), kc (fr1 _ _) (by assumption), kfa (by assumption)⟩) | (exact ⟨kcB f HLZ.out hHeld.1, kcB f HLZ.out hHeld.2.1, FW⟩) | (exact ⟨kcs (Fr.set1 _ gO _ _) HLG.out hHeld.1, kcs (Fr.set1 _ gO _ _) HLG.out hHeld.2.1, kfT (Fr.set1 _ gO _ _) hHeld.2.2⟩) | (exact hHeld))
                  clear hK K
                  try simp only [Act.put, List.getElem_toArray, List.getElem_cons_succ, List.getElem_cons_zero, List.setIfInBounds_toArray, List.set_cons_zero, List.set_cons_succ]
                  refine wpAnyH_ready (rs := [7]) (by kernel_rfl) (by simp) (AllReadyH.cons rfl (fun K hK => ?_) AllReadyH.nil)
                  have y7 := (row_at (HRZ.out.fr FN.out).row HVK.out).1
                  dsimp only [SV.v] at y7
                  go_simp
                  have FW := hHeld.2.2
                  refine hK.out _ _ ?_ (fun hHeld => ?_)
                  · (try dsimp only); (first | (go_split_ands; exact ⟨kc f (by assumption), kc f (by assumption), by assumption⟩) | (go_split_ands; exact ⟨(by assumption), (by assumption), by assumption⟩) | (go_split_ands; exact ⟨kc (fr1 _ _) (by assumption), kc (fr1 _ _) (by assumption), kfa (by assumption)⟩) | (exact ⟨kcB f HLZ.out hHeld.1, kcB f HLZ.out hHeld.2.1, FW⟩) | (exact ⟨kcs (Fr.set1 _ gO _ _) HLG.out hHeld.1, kcs (Fr.set1 _ gO _ _) HLG.out hHeld.2.1, kfT (Fr.set1 _ gO _ _) hHeld.2.2⟩) | (exact hHeld))
                  clear hK K
                  try simp only [Act.put, List.getElem_toArray, List.getElem_cons_succ, List.getElem_cons_zero, List.setIfInBounds_toArray, List.set_cons_zero, List.set_cons_succ]
                  refine wpAnyH_ready (rs := [8]) (by kernel_rfl) (by simp) (AllReadyH.cons rfl (fun K hK => ?_) AllReadyH.nil)
                  refine app_st rfl (.tmp 75) (.tmp 80) rfl wz.heap.size (.slice (some ⟨x13.heap.size, 0, none⟩) 0 0) [] rfl O0.out vA vn vc st.2 rfl (rdS_lo2 HRG.out (hHeld.2.2).out HNG.out) (by have := HVN.out; simp; omega) (show wz.heap.size ≤ x2.heap.size from (hHeld.2.2).out.size) ?_
                  intro A8 c8 x8 o8 f8
                  try simp only [List.length_nil, Nat.zero_add, List.nil_append] at o8
                  try simp only [List.length_nil, Nat.zero_add]
                  have f : Fr (fun q => wz.heap.size ≤ q) x2 x8 := frO O0.out f8
                  have FW := kfB f hHeld.2.2
                  have FN := kfB f FN
                  have OX := hid o8
                  have RL := hid (rdS_lo2 RL.out f8 (fun g o h e => by cases h; exact HLE.out (Option.some.inj (show some (x13).heap.size = some (wz.drew).heap.size from e)).symm))
                  clear o8 f8
                  refine hK.out _ _ ?_ (fun hHeld => ?_)
                  · (try dsimp only); (first | (go_split_ands; exact ⟨kc f (by assumption), kc f (by assumption), by assumption⟩) | (go_split_ands; exact ⟨(by assumption), (by assumption), by assumption⟩) | (go_split_ands; exact ⟨kc (fr1 _ _) (by assumption), kc (fr1 _ _) (by assumption), kfa (by assumption)⟩) | (exact ⟨kcB f HLZ.out hHeld.1, kcB f HLZ.out hHeld.2.1, FW⟩) | (exact ⟨kcs (Fr.set1 _ gO _ _) HLG.out hHeld.1, kcs (Fr.set1 _ gO _ _) HLG.out hHeld.2.1, kfT (Fr.set1 _ gO _ _) hHeld.2.2⟩) | (exact hHeld))
                  clear hK K
                  try simp only [Act.put, List.getElem_toArray, List.getElem_cons_succ, List.getElem_cons_zero, List.setIfInBounds_toArray, List.set_cons_zero, List.set_cons_succ]
                  refine wpAnyH_ready (rs := [14]) (by kernel_rfl) (by simp) (AllReadyH.cons rfl (fun K hK => ?_) AllReadyH.nil)
                  refine app_st rfl (.tmp 81) (.tmp 86) rfl wz.heap.size _ st.2 (by first | rfl | (rw [← HVE.out]; rfl)) (by have := OX.out; first | exact this | (rw [← HVE.out]; exact this)) (some ⟨wz.drew.heap.size, 0, none⟩) 1 1 [(p0, p1)] rfl RL.out (by have := HVN.out; have := HVE.out; omega) (show wz.heap.size ≤ x8.heap.size from (hHeld.2.2).out.size) ?_
                  intro A14 c14 x14 o14 f14
                  have f : Fr (fun q => wz.heap.size ≤ q) x8 x14 := frO OX.out f14
                  have FW := kfB f hHeld.2.2
                  have FN := kfB f FN
                  have OY := hid o14
                  clear o14 f14
                  refine hK.out _ _ ?_ (fun hHeld => ?_)
                  · (try dsimp only); (first | (go_split_ands; exact ⟨kc f (by assumption), kc f (by assumption), by assumption⟩) | (go_split_ands; exact ⟨(by assumption), (by assumption), by assumption⟩) | (go_split_ands; exact ⟨kc (fr1 _ _) (by assumption), kc (fr1 _ _) (by assumption), kfa (by assumption)⟩) | (exact ⟨kcB f HLZ.out hHeld.1, kcB f HLZ.out hHeld.2.1, FW⟩) | (exact ⟨kcs (Fr.set1 _ gO _ _) HLG.out hHeld.1, kcs (Fr.set1 _ gO _ _) HLG.out hHeld.2.1, kfT (Fr.set1 _ gO _ _) hHeld.2.2⟩) | (exact hHeld))
                  clear hK K
                  try simp only [Act.put, List.getElem_toArray, List.getElem_cons_succ, List.getElem_cons_zero, List.setIfInBounds_toArray, List.set_cons_zero, List.set_cons_succ]
                  refine wpAnyH_take (i := 15) (v := ?v33) rfl (by kernel_rfl) (by kernel_rfl) (by kernel_rfl) (fun _ _ _ h => h) (Or.inl ⟨by kernel_rfl, ?y33⟩) (by assumption) ?_
                  case y33 => (intro w hSw; (try dsimp only at hSw); go_simp; all_goals with_reducible rfl)
                  try simp only [Act.put, List.getElem_toArray, List.getElem_cons_succ, List.getElem_cons_zero, List.setIfInBounds_toArray, List.set_cons_zero, List.set_cons_succ]
                  refine wpAnyH_take (i := 16) (v := (.pointer (some ⟨gO, K * 3 + 2, none⟩))) rfl (by kernel_rfl) (by kernel_rfl) (by kernel_rfl) (fun _ _ _ h => h) (Or.inl ⟨by kernel_rfl, fun w hSw => by first | (go_simp; done) | (go_simp; with_reducible rfl) | (go_simp; omega)⟩) (by assumption) ?_
                  try simp only [Act.put, List.getElem_toArray, List.getElem_cons_succ, List.getElem_cons_zero, List.setIfInBounds_toArray, List.set_cons_zero, List.set_cons_succ]
                  refine wpAnyH_ready (rs := [17]) (by kernel_rfl) (by simp) (AllReadyH.cons rfl (fun K hK => ?_) AllReadyH.nil)
                  obtain ⟨y9, z9, s9⟩ := row_at (HRZ.out.fr FN.out).row HVK.out
                  dsimp only [SV.v] at y9
                  go_simp
                  refine hK.out _ _ ?_ (fun hHeld => ?_)
                  · (try dsimp only); (first | (go_split_ands; exact ⟨kc f (by assumption), kc f (by assumption), by assumption⟩) | (go_split_ands; exact ⟨(by assumption), (by assumption), by assumption⟩) | (go_split_ands; exact ⟨kc (fr1 _ _) (by assumption), kc (fr1 _ _) (by assumption), kfa (by assumption)⟩) | (exact ⟨kcB f HLZ.out hHeld.1, kcB f HLZ.out hHeld.2.1, FW⟩) | (exact ⟨kcs (Fr.set1 _ gO _ _) HLG.out hHeld.1, kcs (Fr.set1 _ gO _ _) HLG.out hHeld.2.1, kfT (Fr.set1 _ gO _ _) hHeld.2.2⟩) | (exact hHeld))
                  clear hK K
                  try simp only [Act.put, List.getElem_toArray, List.getElem_cons_succ, List.getElem_cons_zero, List.setIfInBounds_toArray, List.set_cons_zero, List.set_cons_succ]
                  refine wpAnyH_done (by kernel_rfl) ?_ _
                  refine NoPanic.normal ?_
                  have FX := hHeld.2.2
                  clear hHeld
                  obtain ⟨s9a, s9b⟩ := s9 ⟨A14, st.2.length + 1, c14⟩
                  dsimp only [SV.v] at s9a s9b
                  have HRE := hid (HR.put (v := ⟨A14, st.2.length + 1, c14⟩) (HRZ.out.fr FN.out) (s9b.mono (fun q _ e => by rw [e]; rfl)) (by rw [HGL.out]; exact s9a) (Out.le OY.out HWZ.out) (by simp))
                  have HOE := hid (own_fr (HOLZ.out.fr FN.out) s9b (fun q hq e => HLG.out (by simp [Value.ownBlock] at hq; have e2 : q = gO := e; omega)))
                  have HFE := hid ((HFZ.out.trans FN.out).step s9b (fun q hq e => by have := HOG.out; have e2 : q = gO := e; omega))
                  go_wp2
                  go_roundw
                  case rel => (try refine ⟨_, _, ?_, rfl, rfl⟩); exact ⟨k + 1, vs2.set K ⟨A14, st.2.length + 1, c14⟩, some ⟨gO, 0, none⟩, cV, by rw [HN.out]; omega, by go_num, by rw [List.length_set, HV2.out], by rw [HNX.out, HGN.out, ← HGL.out]; have h := HRE.out; rw [HGL.out] at h ⊢; exact h, HOE.out, HFE.out⟩
                  case measure => first | exact next_m _ _ hlt hw1 | exact next_p _ _ hlt
                · have y7 := (row_at (HRZ.out.fr FN.out).row HVK.out).1
                  dsimp only [SV.v] at y7
                  go_simp
                  have FW := hHeld.2.2
                  refine hK.out _ _ ?_ (fun hHeld => ?_)
                  · (try dsimp only); (first | (go_split_ands; exact ⟨kc f (by assumption), kc f (by assumption), by assumption⟩) | (go_split_ands; exact ⟨(by assumption), (by assumption), by assumption⟩) | (go_split_ands; exact ⟨kc (fr1 _ _) (by assumption), kc (fr1 _ _) (by assumption), kfa (by assumption)⟩) | (exact ⟨kcB f HLZ.out hHeld.1, kcB f HLZ.out hHeld.2.1, FW⟩) | (exact ⟨kcs (Fr.set1 _ gO _ _) HLG.out hHeld.1, kcs (Fr.set1 _ gO _ _) HLG.out hHeld.2.1, kfT (Fr.set1 _ gO _ _) hHeld.2.2⟩) | (exact hHeld))
                  clear hK K
                  try simp only [Act.put, List.getElem_toArray, List.getElem_cons_succ, List.getElem_cons_zero, List.setIfInBounds_toArray, List.set_cons_zero, List.set_cons_succ]
                  refine wpAnyH_ready (rs := [2]) (by kernel_rfl) (by simp) (AllReadyH.cons rfl (fun K hK => ?_) AllReadyH.nil)
                  go_simp
                  obtain ⟨x2, hx2⟩ : ∃ x, World.alloc x13 (Obj.cells #[] 57) = x := ⟨_, rfl⟩
                  try rw [hx2]
                  have HZ2 := hid (show wz.heap.size ≤ x13.heap.size from (hHeld.2.2).out.size)
                  have f0 : Fr No x13 x2 := by rw [← hx2]; exact fr1 _ _
                  have f : Fr (fun q => wz.heap.size ≤ q) x13 x2 := frB f0
                  have FW := kfB f hHeld.2.2
                  have FN := kfB f FN
                  have O0 := hid (show Out wz.heap.size x2 (.slice (some ⟨x13.heap.size, 0, none⟩) 0 0) [] by rw [← hx2]; exact own0 x13 HZ2.out)
                  have RL := hid (rdS_lo2 RL.out f0 (fun _ _ _ h => h))
                  have HLE := hid (show (wz.drew).heap.size ≠ x13.heap.size by have := HS13.out; omega)
                  clear f0 hx2
                  refine hK.out _ _ ?_ (fun hHeld => ?_)
                  · (try dsimp only); (first | (go_split_ands; exact ⟨kc f (by assumption), kc f (by assumption), by assumption⟩) | (go_split_ands; exact ⟨(by assumption), (by assumption), by assumption⟩) | (go_split_ands; exact ⟨kc (fr1 _ _) (by assumption), kc (fr1 _ _) (by assumption), kfa (by assumption)⟩) | (exact ⟨kcB f HLZ.out hHeld.1, kcB f HLZ.out hHeld.2.1, FW⟩) | (exact ⟨kcs (Fr.set1 _ gO _ _) HLG.out hHeld.1, kcs (Fr.set1 _ gO _ _) HLG.out hHeld.2.1, kfT (Fr.set1 _ gO _ _) hHeld.2.2⟩) | (exact hHeld))
                  clear hK K
                  try simp only [Act.put, List.getElem_toArray, List.getElem_cons_succ, List.getElem_cons_zero, List.setIfInBounds_toArray, List.set_cons_zero, List.set_cons_succ]
                  refine wpAnyH_ready (rs := [8]) (by kernel_rfl) (by simp) (AllReadyH.cons rfl (fun K hK => ?_) AllReadyH.nil)
                  refine app_st rfl (.tmp 75) (.tmp 80) rfl wz.heap.size (.slice (some ⟨x13.heap.size, 0, none⟩) 0 0) [] rfl O0.out vA vn vc st.2 rfl (rdS_lo2 HRG.out (hHeld.2.2).out HNG.out) (by have := HVN.out; simp; omega) (show wz.heap.size ≤ x2.heap.size from (hHeld.2.2).out.size) ?_
                  intro A8 c8 x8 o8 f8
                  try simp only [List.length_nil, Nat.zero_add, List.nil_append] at o8
                  try simp only [List.length_nil, Nat.zero_add]
                  have f : Fr (fun q => wz.heap.size ≤ q) x2 x8 := frO O0.out f8
                  have FW := kfB f hHeld.2.2
                  have FN := kfB f FN
                  have OX := hid o8
                  have RL := hid (rdS_lo2 RL.out f8 (fun g o h e => by cases h; exact HLE.out (Option.some.inj (show some (x13).heap.size = some (wz.drew).heap.size from e)).symm))
                  clear o8 f8
                  refine hK.out _ _ ?_ (fun hHeld => ?_)
                  · (try dsimp only); (first | (go_split_ands; exact ⟨kc f (by assumption), kc f (by assumption), by assumption⟩) | (go_split_ands; exact ⟨(by assumption), (by assumption), by assumption⟩) | (go_split_ands; exact ⟨kc (fr1 _ _) (by assumption), kc (fr1 _ _) (by assumption), kfa (by assumption)⟩) | (exact ⟨kcB f HLZ.out hHeld.1, kcB f HLZ.out hHeld.2.1, FW⟩) | (exact ⟨kcs (Fr.set1 _ gO _ _) HLG.out hHeld.1, kcs (Fr.set1 _ gO _ _) HLG.out hHeld.2.1, kfT (Fr.set1 _ gO _ _) hHeld.2.2⟩) | (exact hHeld))
                  clear hK K
                  try simp only [Act.put, List.getElem_toArray, List.getElem_cons_succ, List.getElem_cons_zero, List.setIfInBounds_toArray, List.set_cons_zero, List.set_cons_succ]
                  refine wpAnyH_ready (rs := [14]) (by kernel_rfl) (by simp) (AllReadyH.cons rfl (fun K hK => ?_) AllReadyH.nil)
                  refine app_st rfl (.tmp 81) (.tmp 86) rfl wz.heap.size _ st.2 (by first | rfl | (rw [← HVE.out]; rfl)) (by have := OX.out; first | exact this | (rw [← HVE.out]; exact this)) (some ⟨wz.drew.heap.size, 0, none⟩) 1 1 [(p0, p1)] rfl RL.out (by have := HVN.out; have := HVE.out; omega) (show wz.heap.size ≤ x8.heap.size from (hHeld.2.2).out.size) ?_
                  intro A14 c14 x14 o14 f14
                  have f : Fr (fun q => wz.heap.size ≤ q) x8 x14 := frO OX.out f14
                  have FW := kfB f hHeld.2.2
                  have FN := kfB f FN
                  have OY := hid o14
                  clear o14 f14
                  refine hK.out _ _ ?_ (fun hHeld => ?_)
                  · (try dsimp only); (first | (go_split_ands; exact ⟨kc f (by assumption), kc f (by assumption), by assumption⟩) | (go_split_ands; exact ⟨(by assumption), (by assumption), by assumption⟩) | (go_split_ands; exact ⟨kc (fr1 _ _) (by assumption), kc (fr1 _ _) (by assumption), kfa (by assumption)⟩) | (exact ⟨kcB f HLZ.out hHeld.1, kcB f HLZ.out hHeld.2.1, FW⟩) | (exact ⟨kcs (Fr.set1 _ gO _ _) HLG.out hHeld.1, kcs (Fr.set1 _ gO _ _) HLG.out hHeld.2.1, kfT (Fr.set1 _ gO _ _) hHeld.2.2⟩) | (exact hHeld))
                  clear hK K
                  try simp only [Act.put, List.getElem_toArray, List.getElem_cons_succ, List.getElem_cons_zero, List.setIfInBounds_toArray, List.set_cons_zero, List.set_cons_succ]
                  refine wpAnyH_take (i := 15) (v := ?v34) rfl (by kernel_rfl) (by kernel_rfl) (by kernel_rfl) (fun _ _ _ h => h) (Or.inl ⟨by kernel_rfl, ?y34⟩) (by assumption) ?_
                  case y34 => (intro w hSw; (try dsimp only at hSw); go_simp; all_goals with_reducible rfl)
                  try simp only [Act.put, List.getElem_toArray, List.getElem_cons_succ, List.getElem_cons_zero, List.setIfInBounds_toArray, List.set_cons_zero, List.set_cons_succ]
                  refine wpAnyH_take (i := 16) (v := (.pointer (some ⟨gO, K * 3 + 2, none⟩))) rfl (by kernel_rfl) (by kernel_rfl) (by kernel_rfl) (fun _ _ _ h => h) (Or.inl ⟨by kernel_rfl, fun w hSw => by first | (go_simp; done) | (go_simp; with_reducible rfl) | (go_simp; omega)⟩) (by assumption) ?_
                  try simp only [Act.put, List.getElem_toArray, List.getElem_cons_succ, List.getElem_cons_zero, List.setIfInBounds_toArray, List.set_cons_zero, List.set_cons_succ]
                  refine wpAnyH_ready (rs := [17]) (by kernel_rfl) (by simp) (AllReadyH.cons rfl (fun K hK => ?_) AllReadyH.nil)
                  obtain ⟨y9, z9, s9⟩ := row_at (HRZ.out.fr FN.out).row HVK.out
                  dsimp only [SV.v] at y9
                  go_simp
                  refine hK.out _ _ ?_ (fun hHeld => ?_)
                  · (try dsimp only); (first | (go_split_ands; exact ⟨kc f (by assumption), kc f (by assumption), by assumption⟩) | (go_split_ands; exact ⟨(by assumption), (by assumption), by assumption⟩) | (go_split_ands; exact ⟨kc (fr1 _ _) (by assumption), kc (fr1 _ _) (by assumption), kfa (by assumption)⟩) | (exact ⟨kcB f HLZ.out hHeld.1, kcB f HLZ.out hHeld.2.1, FW⟩) | (exact ⟨kcs (Fr.set1 _ gO _ _) HLG.out hHeld.1, kcs (Fr.set1 _ gO _ _) HLG.out hHeld.2.1, kfT (Fr.set1 _ gO _ _) hHeld.2.2⟩) | (exact hHeld))
                  clear hK K
                  try simp only [Act.put, List.getElem_toArray, List.getElem_cons_succ, List.getElem_cons_zero, List.setIfInBounds_toArray, List.set_cons_zero, List.set_cons_succ]
                  refine wpAnyH_done (by kernel_rfl) ?_ _
                  refine NoPanic.normal ?_
                  have FX := hHeld.2.2
                  clear hHeld
                  obtain ⟨s9a, s9b⟩ := s9 ⟨A14, st.2.length + 1, c14⟩
                  dsimp only [SV.v] at s9a s9b
                  have HRE := hid (HR.put (v := ⟨A14, st.2.length + 1, c14⟩) (HRZ.out.fr FN.out) (s9b.mono (fun q _ e => by rw [e]; rfl)) (by rw [HGL.out]; exact s9a) (Out.le OY.out HWZ.out) (by simp))
                  have HOE := hid (own_fr (HOLZ.out.fr FN.out) s9b (fun q hq e => HLG.out (by simp [Value.ownBlock] at hq; have e2 : q = gO := e; omega)))
                  have HFE := hid ((HFZ.out.trans FN.out).step s9b (fun q hq e => by have := HOG.out; have e2 : q = gO := e; omega))
                  go_wp2
                  go_roundw
                  case rel => (try refine ⟨_, _, ?_, rfl, rfl⟩); exact ⟨k + 1, vs2.set K ⟨A14, st.2.length + 1, c14⟩, some ⟨gO, 0, none⟩, cV, by rw [HN.out]; omega, by go_num, by rw [List.length_set, HV2.out], by rw [HNX.out, HGN.out, ← HGL.out]; have h := HRE.out; rw [HGL.out] at h ⊢; exact h, HOE.out, HFE.out⟩
                  case measure => first | exact next_m _ _ hlt hw1 | exact next_p _ _ hlt
    · obtain rfl : k = N := by omega
      have HGE := hid (show gclose (gfold ([], []) (P.take k)) = GP by rw [List.take_of_length_le (by rw [HN.out]; exact Nat.le_refl _), HG.out])
      have HML := hid (show m = GP.length by rw [← HM.out, HRW.out.len, HGE.out])
      have hltb : decide ((k : Int) < (k : Int)) = false := decide_eq_false (by omega)
      go_wp2
      go_ret
      refine ⟨AV, cV, vs, by rw [HML.out]; rfl, ?_, HF.out⟩
      have h := HRW.out
      rw [HGE.out] at h
      rw [← HML.out]
      exact h
end Go.Proofs.YtllolilpchmkiaaDoor.BtHo
