/- Contracts: spans as batches of nothing, by the program. Conditions: the slice reads as spans, no more than a hundred; all numbers are 64 bits. -/
import Derived.Test.YtllolilpchmkiaaDoorBtR
import Derived.Test.YtllolilpchmkiaaDoorBtD
namespace Go.Proofs.YtllolilpchmkiaaDoor.BtS
open Go.RowKit MSep MSepC MSpM MGeM Kit BtA SpO BtQ BtR
open BtM (okS_may)
open SpA (wf w64)
open GeA (bg BG ld_geom)

/-- The cells of the i-th batch of nothing; of all from the i-th on. -/
def hb (seq : Int) (i : Nat) (v : SV) : List Value := [.int .i64 (wrap64 (seq + i)), .int .i64 2, v.v]
def hbs (seq : Int) : Nat → List SV → List Value
  | _, [] => []
  | i, v :: vs => hb seq i v ++ hbs seq (i + 1) vs
theorem hbs_snoc (seq : Int) (v : SV) : ∀ (vs : List SV) (i : Nat), hbs seq i (vs ++ [v]) = hbs seq i vs ++ hb seq (i + vs.length) v
  | [], i => by simp [hbs]
  | u :: vs, i => by
    show hb seq i u ++ hbs seq (i + 1) (vs ++ [v]) = hb seq i u ++ hbs seq (i + 1) vs ++ hb seq (i + (vs.length + 1)) v
    rw [hbs_snoc seq v vs (i + 1), List.append_assoc, show i + 1 + vs.length = i + (vs.length + 1) by omega]
theorem hbs_one (seq : Int) : ∀ (vs : List SV) (i : Nat), ∀ u ∈ hbs seq i vs, u.oneCell' = true
  | [], _ => by simp [hbs]
  | v :: vs, i => by
    intro u hu
    rw [hbs, List.mem_append] at hu
    rcases hu with hu | hu
    · simp [hb] at hu
      rcases hu with rfl | rfl | rfl <;> rfl
    · exact hbs_one seq vs (i + 1) u hu
theorem hbs_get (seq : Int) : ∀ (vs : List SV) (i k : Nat) (v : SV), vs[k]? = some v → (hbs seq i vs)[k * 3]? = some (.int .i64 (wrap64 (seq + (i + k : Nat)))) ∧ (hbs seq i vs)[k * 3 + 1]? = some (.int .i64 2) ∧ (hbs seq i vs)[k * 3 + 2]? = some v.v
  | [], _, _, _, h => by simp at h
  | u :: vs, i, 0, v, h => by
    simp at h
    subst h
    simp [hbs, hb]
  | u :: vs, i, k + 1, v, h => by
    have := hbs_get seq vs (i + 1) k v (by simpa using h)
    rw [show i + 1 + k = i + (k + 1) by omega] at this
    rw [show (k + 1) * 3 = k * 3 + 1 + 1 + 1 by omega]
    simpa [hbs, hb] using this
theorem infoBa : (Tryd.prog.info? 26).map (fun i => (i.zero, i.size, i.bytes)) = some (some (.agg #[.int .i64 0, .int .i64 0, .slice none 0 0]), 3, 40) := by kernel_rfl
theorem infoB3 : ∃ i z, Tryd.prog.info? 26 = some i ∧ i.zero = some z ∧ i.size = 3 ∧ i.bytes = 40 ∧ z.cells.size = 3 := by
  have h := infoBa
  cases hi : Tryd.prog.info? 26 with
  | none => rw [hi] at h; cases h
  | some i =>
    rw [hi] at h
    simp only [Option.map_some, Option.some.injEq, Prod.mk.injEq] at h
    exact ⟨i, _, rfl, h.1, h.2.1, h.2.2, rfl⟩
def RowB (B : Nat) (w : World) (va : Value) (seq : Int) (vs : List SV) : Prop := w.ownsRow B 26 3 va vs.length (hbs seq 0 vs)
theorem app_bt {w : World} {ops : Array Oper} {rest : List Oper} {o : Oper} {a : Act} {Q : Exit → Act → World → Prop} (hgd : o.guard = none) (s x : Operand)
    (ho : o.op = .call { callee := .builtin .append, args := #[s, x], argTypes := #[52, 52] })
    (B : Nat) (va : Value) (seq : Int) (vs : List SV) (hs : a.eval s = va) (hown : RowB B w va seq vs)
    (A : Option Addr) (c : Nat) (v : SV) (hx : a.eval x = .slice A 1 c) (hr : Rd w A 3 (hb seq vs.length v))
    (hlim : vs.length + 1 ≤ 1000000) (hbase : B ≤ w.heap.size)
    (h : ∀ A' c' w', RowB B w' (.slice A' (vs.length + 1) c') seq (vs ++ [v]) → Fr (fun q => va.ownBlock = some q) w w' → wpList Tryd.prog ops Q rest (a.put o.dst (.slice A' (vs.length + 1) c')) w') :
    wpList Tryd.prog ops Q (o :: rest) a w := by
  obtain ⟨i0, z0, hi, hz0, hz1, hz2, hz3⟩ := infoB3
  refine wpList_appk 3 (by omega) hgd s x 52 ho B 26 i0 z0 40 Tryd.underlying52 hi hz0 hz1 hz2 hz3 va vs.length (hbs seq 0 vs) hs hown A 1 c (hb seq vs.length v) hx hr (by intro u hu; simp [hb] at hu; rcases hu with rfl | rfl | rfl <;> rfl) (by simp only [maxLen]; omega) (by omega) hbase ?_
  intro A' c' w' o1 f1 _
  refine h A' c' w' ?_ f1
  unfold RowB
  rw [List.length_append, hbs_snoc, Nat.zero_add]
  exact o1
theorem own_rd3 {B : Nat} {w : World} {A : Option Addr} {n c : Nat} {seq : Int} {vs : List SV} (h : RowB B w (.slice A n c) seq vs) (hn : vs.length = n) : Rd w A (n * 3) (hbs seq 0 vs) := by
  subst hn
  refine ⟨by simpa using h.1, fun hn => ?_⟩
  rcases h.2 with ⟨_, h0⟩ | ⟨g, cap, cur, hv, hb, hg, hnc, hcm, hcs, htake⟩
  · rw [h0] at hn
    simp at hn
  · injection hv with h1 h2 h3
    subst h1
    refine ⟨g, 0, rfl, (Array.getElem?_eq_some_iff.1 hg).1, fun j u hu => ?_⟩
    rw [Nat.zero_add, cell_of_row w g j cur 26 (0, 0) hg]
    rw [← htake, List.getElem?_take] at hu
    split at hu
    · simpa using hu
    · cases hu
/-- A number that may not be. -/
def badS (seq : Int) (m : Nat) : Prop := 0 < m ∧ (seq < 1 ∨ 1099511627776 - ((m : Int) - 1) < seq)
def RetHo (w w' : World) (E : Ending) (seq : Int) (gs : List (List Sp)) : Prop := ((badS seq gs.length ∧ E = .returned (.tuple #[.slice none 0 0, .int .i64 1])) ∨ (¬ badS seq gs.length ∧ ∃ (A : Option Addr) (c : Nat) (vs : List SV), E = .returned (.tuple #[.slice A gs.length c, .int .i64 0]) ∧ Rd w' A (gs.length * 3) (hbs seq 0 vs) ∧ vs.length = gs.length ∧ ∀ (i : Nat) v g, vs[i]? = some v → gs[i]? = some g → RdS w' v.A v.n g ∧ v.n = g.length ∧ v.n ≤ v.c)) ∧ Fr No w w'
theorem out_lim {B : Nat} {w : World} {u : SV} {l : List Sp} (h : Out B w u.v l) : RdS w u.A u.n l ∧ u.n ≤ u.c := by
  refine ⟨Out.rd h, ?_⟩
  rcases h.2 with ⟨hv, h0⟩ | ⟨g, cap, cur, hv, hb, hg, hnc, hcm, hcs, htake⟩
  · injection hv with h1 h2 h3
    omega
  · injection hv with h1 h2 h3
    omega
set_option maxRecDepth 100000 in
set_option maxHeartbeats 4000000 in
theorem holes_geom (gc gs gn gl gk seq : Int) (A : Option Addr) (l c : Nat) (w : World) (hs : r64 gs) (hm : ¬ mayG ⟨gc, gs, gn, gl, gk⟩) :
    Calls Tryd.prog 20 #[.agg #[.int .i64 gc, .int .i64 gs, .int .i64 gn, .int .i64 gl, .int .i64 gk], .int .i64 seq, .slice A l c] w fun E w' => E = .returned (.tuple #[.slice none 0 0, .int .i64 70]) ∧ Fr No w w' := by
  obtain ⟨G, hG⟩ : ∃ G, w.heap.size = G := ⟨_, rfl⟩
  obtain ⟨w1, hw1⟩ : ∃ w1, w.alloc (bg gc gs gn gl gk) = w1 := ⟨_, rfl⟩
  have FG := hid (show Fr No w w1 by rw [← hw1]; exact fr1 _ _)
  have P0 := hid (show BG w1 G gc gs gn gl gk by rw [← hw1, ← hG]; exact BG.new w gc gs gn gl gk)
  have HS := hid hs
  have HW1 := hid hw1
  clear hs hw1
  have HM := hid hm
  clear hm
  go_enter Tryd.func20, Tryd.ntmps20
  go_upto_region 1 with fail
  try rw [show w.alloc (Obj.cells #[.int .i64 gc, .int .i64 gs, .int .i64 gn, .int .i64 gl, .int .i64 gk] 23) = w1 from HW1.out]
  try rw [hG]
  go_wp2_with (first | ((with_reducible refine ld_geom rfl (.tmp 3) rfl G ?_ P0.out ?_); · rfl) | (go_at_call 27; refine (GeC.may_ok gc gs gn gl gk _ HS.out).mono ?_; rintro e w2 ⟨rfl, f2⟩; rw [decide_eq_false HM.out]; replace FG := hid (FG.out.trans f2); clear f2))
  go_ret2
  exact ⟨rfl, FG.out⟩
set_option maxRecDepth 100000 in
set_option maxHeartbeats 8000000 in
theorem holes_range (gc gs gn gl gk seq : Int) (A : Option Addr) (l c : Nat) (xs : List Sp) (w : World) (hs : r64 gs) (hm : mayG ⟨gc, gs, gn, gl, gk⟩) (hl : l ≤ 100) (hx : RdS w A l xs) (hw : ∀ s ∈ xs, wf s) (hno : ¬ ∀ s ∈ xs, cko ⟨gc, gs, gn, gl, gk⟩ s.1 s.2 = 0) :
    Calls Tryd.prog 20 #[.agg #[.int .i64 gc, .int .i64 gs, .int .i64 gn, .int .i64 gl, .int .i64 gk], .int .i64 seq, .slice A l c] w fun E w' => E = .returned (.tuple #[.slice none 0 0, .int .i64 71]) ∧ Fr No w w' := by
  obtain ⟨G, hG⟩ : ∃ G, w.heap.size = G := ⟨_, rfl⟩
  obtain ⟨w1, hw1⟩ : ∃ w1, w.alloc (bg gc gs gn gl gk) = w1 := ⟨_, rfl⟩
  have FG := hid (show Fr No w w1 by rw [← hw1]; exact fr1 _ _)
  have P0 := hid (show BG w1 G gc gs gn gl gk by rw [← hw1, ← hG]; exact BG.new w gc gs gn gl gk)
  have HS := hid hs
  have HW1 := hid hw1
  clear hs hw1
  have HM := hid hm
  have HX := hid hx
  have HW := hid hw
  have HL := hid hl
  have HXL := hid hx.1
  have HNO := hid hno
  clear hm hx hw hl hno
  go_enter Tryd.func20, Tryd.ntmps20
  go_upto_region 1 with fail
  try rw [show w.alloc (Obj.cells #[.int .i64 gc, .int .i64 gs, .int .i64 gn, .int .i64 gl, .int .i64 gk] 23) = w1 from HW1.out]
  try rw [hG]
  go_upto_region 4 with (first | ((with_reducible refine ld_geom rfl (.tmp 3) rfl G ?_ P0.out ?_); · rfl) | (go_at_call 27; refine (GeC.may_ok gc gs gn gl gk _ HS.out).mono ?_; rintro e w2 ⟨rfl, f2⟩; rw [decide_eq_true HM.out]; replace FG := hid (FG.out.trans f2); replace P0 := hid (P0.out.fr f2); clear f2))
  go_loopw [19] (fun i wr => ∃ k : Nat, k ≤ l ∧ i = .int .i64 k ∧ (∀ s ∈ xs.take k, cko ⟨gc, gs, gn, gl, gk⟩ s.1 s.2 = 0) ∧ Fr No w2 wr) (fun i _ => l - (intOf i).toNat)
  case atStart => exact ⟨0, by omega, rfl, by simp, Fr.refl _ _⟩
  case round =>
    obtain ⟨k, hk, rfl, hall, hf⟩ := hrel
    by_cases hlt : k < l
    · obtain ⟨⟨a, n⟩, hxk⟩ : ∃ x, xs[k]? = some x := ⟨_, List.getElem?_eq_getElem (by rw [HXL.out]; exact hlt)⟩
      have HXK := hid hxk
      have HWK := hid (HW.out _ (List.mem_of_getElem? hxk))
      obtain ⟨g, o, rfl, hgg, hc⟩ := (HX.out.fr (FG.out.trans hf)).at_ (by omega)
      obtain ⟨e0, e1⟩ := hc k _ hxk
      simp only [] at e0 e1
      have hlt3 : (k : Int) < l := by omega
      have h0k : (0 : Int) ≤ k := by omega
      have hw1 : wrap64 ((k : Int) + 1) = (k : Int) + 1 := by have := HL.out; exact w64 _ (by omega)
      obtain ⟨D, hD⟩ : ∃ D, wr.heap.size = D := ⟨_, rfl⟩
      obtain ⟨w3, hw3⟩ : ∃ w3, wr.alloc (.cells #[.int .i64 a, .int .i64 n] 57) = w3 := ⟨_, rfl⟩
      have HB3 : Blk w3 D 57 #[.int .i64 a, .int .i64 n] := by rw [← hw3, ← hD]; exact Blk.new _ _ _
      have d0 : w3.cell? ⟨D, 0, none⟩ = some (.int .i64 a) := HB3.cell 0
      have d1 : w3.cell? ⟨D, 1, none⟩ = some (.int .i64 n) := HB3.cell 1
      have HF3 := hid (show Fr No w2 w3 by rw [← hw3]; exact hf.alloc _)
      have HP3 := hid (BG.fr P0.out HF3.out)
      have HALL := hid hall
      have HW3 := hid hw3
      obtain ⟨E0, hE0⟩ : ∃ E0, cko ⟨gc, gs, gn, gl, gk⟩ a n = E0 := ⟨_, rfl⟩
      have HCK := hid hE0
      clear hc hgg hxk hw3 hf hall HB3
      go_upto_region 6 with fail
      try rw [HW3.out]
      try rw [hD]
      clear e0 e1
      by_cases hc0 : E0 = 0
      · subst hc0
        clear hE0
        have HNX := hid (show ∀ s ∈ xs.take (k + 1), cko ⟨gc, gs, gn, gl, gk⟩ s.1 s.2 = 0 from fun s hs => by
          rw [BtA.take_snoc HXK.out, List.mem_append] at hs
          rcases hs with hs | hs
          · exact HALL.out s hs
          · simp only [List.mem_singleton] at hs
            subst hs
            exact HCK.out)
        go_wp2_with (first | ((with_reducible refine ld_geom rfl (.tmp 3) rfl G ?_ HP3.out ?_); · rfl) | (go_at_call 49; refine (GeF.check_ok gc gs gn gl gk a n _ HS.out HWK.out).mono ?_; rintro e w4 ⟨rfl, f4⟩; rw [HCK.out]; have HF4 := hid (HF3.out.trans f4); clear f4 d0 d1))
        go_roundw
        case rel => exact ⟨k + 1, by omega, by go_num, HNX.out, HF4.out⟩
        case measure => first | exact next_m _ _ hlt hw1 | exact next_p _ _ hlt
      · have hcb : (E0 == 0) = false := by simpa using hc0
        have hcb2 : (E0 != 0) = true := by rw [bne, hcb]; rfl
        have h71 : E0 = 71 := by
          have h1 := HCK.out
          unfold cko at h1
          rw [if_pos HM.out] at h1
          split at h1 <;> omega
        subst h71
        clear hE0
        go_wp2_with (first | ((with_reducible refine ld_geom rfl (.tmp 3) rfl G ?_ HP3.out ?_); · rfl) | (go_at_call 49; refine (GeF.check_ok gc gs gn gl gk a n _ HS.out HWK.out).mono ?_; rintro e w4 ⟨rfl, f4⟩; rw [HCK.out]; have HF4 := hid (HF3.out.trans f4); clear f4 d0 d1))
        go_ret2
        exact ⟨rfl, FG.out.trans HF4.out⟩
    · obtain rfl : k = l := by omega
      exact absurd (fun s hs => hall s (by rw [List.take_of_length_le (by rw [HXL.out]; exact Nat.le_refl _)]; exact hs)) HNO.out
set_option maxRecDepth 100000 in
set_option maxHeartbeats 8000000 in
theorem holes_ok (gc gs gn gl gk seq : Int) (A : Option Addr) (l c : Nat) (xs : List Sp) (w : World) (hs : r64 gs) (hm : mayG ⟨gc, gs, gn, gl, gk⟩) (hl : l ≤ 100) (hx : RdS w A l xs) (hw : ∀ s ∈ xs, wf s) (hq : r64 seq) (hok : ∀ s ∈ xs, cko ⟨gc, gs, gn, gl, gk⟩ s.1 s.2 = 0) :
    Calls Tryd.prog 20 #[.agg #[.int .i64 gc, .int .i64 gs, .int .i64 gn, .int .i64 gl, .int .i64 gk], .int .i64 seq, .slice A l c] w fun E w' => RetHo w w' E seq (gps xs) := by
  obtain ⟨G, hG⟩ : ∃ G, w.heap.size = G := ⟨_, rfl⟩
  obtain ⟨w1, hw1⟩ : ∃ w1, w.alloc (bg gc gs gn gl gk) = w1 := ⟨_, rfl⟩
  have FG := hid (show Fr No w w1 by rw [← hw1]; exact fr1 _ _)
  have P0 := hid (show BG w1 G gc gs gn gl gk by rw [← hw1, ← hG]; exact BG.new w gc gs gn gl gk)
  have HS := hid hs
  have HW1 := hid hw1
  clear hs hw1
  have HM := hid hm
  have HX := hid hx
  have HW := hid hw
  have HL := hid hl
  have HXL := hid hx.1
  have HNO := hid hok
  have HQ := hid hq
  have HOP := hid (show ∀ s ∈ xs, Okp s from fun s hs => by
    have h1 := hok s hs
    unfold cko at h1
    rw [if_pos hm] at h1
    by_cases hc : (0 ≤ s.1 ∧ 0 ≤ s.2 ∧ s.1 + s.2 ≤ 1099511627776) ∧ s.2 ≠ 0 ∧ s.1 + s.2 ≤ (lay ⟨gc, gs, gn, gl, gk⟩).t
    · have h2 := (good hm.1).t2
      exact ⟨hc.1, by omega, by omega⟩
    · rw [if_neg hc] at h1
      omega)
  have HGPL := hid (show (gps xs).length ≤ 6000 from by
    have h1 := pcs_len HOP.out
    have h2 := gfold_len (pcs xs) ([], [])
    have h3 := HXL.out
    simp only [List.length_nil, Nat.zero_add] at h2
    have h4 : (gps xs).length ≤ (gfold ([], []) (pcs xs)).1.length + 1 := by
      unfold gps gclose
      split <;> simp
    omega)
  obtain ⟨Gs, hgp⟩ : ∃ q, gps xs = q := ⟨_, rfl⟩
  rw [hgp] at HGPL ⊢
  have HGP := hid hgp
  clear hm hx hw hl hok hq hgp
  go_enter Tryd.func20, Tryd.ntmps20
  go_upto_region 1 with fail
  try rw [show w.alloc (Obj.cells #[.int .i64 gc, .int .i64 gs, .int .i64 gn, .int .i64 gl, .int .i64 gk] 23) = w1 from HW1.out]
  try rw [hG]
  go_upto_region 4 with (first | ((with_reducible refine ld_geom rfl (.tmp 3) rfl G ?_ P0.out ?_); · rfl) | (go_at_call 27; refine (GeC.may_ok gc gs gn gl gk _ HS.out).mono ?_; rintro e w2 ⟨rfl, f2⟩; rw [decide_eq_true HM.out]; replace FG := hid (FG.out.trans f2); replace P0 := hid (P0.out.fr f2); clear f2))
  go_loopw [19] (fun i wr => ∃ k : Nat, k ≤ l ∧ i = .int .i64 k ∧ (∀ s ∈ xs.take k, cko ⟨gc, gs, gn, gl, gk⟩ s.1 s.2 = 0) ∧ Fr No w2 wr) (fun i _ => l - (intOf i).toNat)
  case atStart => exact ⟨0, by omega, rfl, by simp, Fr.refl _ _⟩
  case round =>
    obtain ⟨k, hk, rfl, hall, hf⟩ := hrel
    by_cases hlt : k < l
    · obtain ⟨⟨a, n⟩, hxk⟩ : ∃ x, xs[k]? = some x := ⟨_, List.getElem?_eq_getElem (by rw [HXL.out]; exact hlt)⟩
      have HXK := hid hxk
      have HWK := hid (HW.out _ (List.mem_of_getElem? hxk))
      obtain ⟨g, o, rfl, hgg, hc⟩ := (HX.out.fr (FG.out.trans hf)).at_ (by omega)
      obtain ⟨e0, e1⟩ := hc k _ hxk
      simp only [] at e0 e1
      have hlt3 : (k : Int) < l := by omega
      have h0k : (0 : Int) ≤ k := by omega
      have hw1 : wrap64 ((k : Int) + 1) = (k : Int) + 1 := by have := HL.out; exact w64 _ (by omega)
      obtain ⟨D, hD⟩ : ∃ D, wr.heap.size = D := ⟨_, rfl⟩
      obtain ⟨w3, hw3⟩ : ∃ w3, wr.alloc (.cells #[.int .i64 a, .int .i64 n] 57) = w3 := ⟨_, rfl⟩
      have HB3 : Blk w3 D 57 #[.int .i64 a, .int .i64 n] := by rw [← hw3, ← hD]; exact Blk.new _ _ _
      have d0 : w3.cell? ⟨D, 0, none⟩ = some (.int .i64 a) := HB3.cell 0
      have d1 : w3.cell? ⟨D, 1, none⟩ = some (.int .i64 n) := HB3.cell 1
      have HF3 := hid (show Fr No w2 w3 by rw [← hw3]; exact hf.alloc _)
      have HP3 := hid (BG.fr P0.out HF3.out)
      have HALL := hid hall
      have HW3 := hid hw3
      obtain ⟨E0, hE0⟩ : ∃ E0, cko ⟨gc, gs, gn, gl, gk⟩ a n = E0 := ⟨_, rfl⟩
      have HCK := hid hE0
      clear hc hgg hxk hw3 hf hall HB3
      go_upto_region 6 with fail
      try rw [HW3.out]
      try rw [hD]
      clear e0 e1
      by_cases hc0 : E0 = 0
      · subst hc0
        clear hE0
        have HNX := hid (show ∀ s ∈ xs.take (k + 1), cko ⟨gc, gs, gn, gl, gk⟩ s.1 s.2 = 0 from fun s hs => by
          rw [BtA.take_snoc HXK.out, List.mem_append] at hs
          rcases hs with hs | hs
          · exact HALL.out s hs
          · simp only [List.mem_singleton] at hs
            subst hs
            exact HCK.out)
        go_wp2_with (first | ((with_reducible refine ld_geom rfl (.tmp 3) rfl G ?_ HP3.out ?_); · rfl) | (go_at_call 49; refine (GeF.check_ok gc gs gn gl gk a n _ HS.out HWK.out).mono ?_; rintro e w4 ⟨rfl, f4⟩; rw [HCK.out]; have HF4 := hid (HF3.out.trans f4); clear f4 d0 d1))
        go_roundw
        case rel => exact ⟨k + 1, by omega, by go_num, HNX.out, HF4.out⟩
        case measure => first | exact next_m _ _ hlt hw1 | exact next_p _ _ hlt
      · exact absurd (HCK.out.symm.trans (HNO.out _ (List.mem_of_getElem? HXK.out))) hc0
    · obtain rfl : k = l := by omega
      have HFA := hid (FG.out.trans hf)
      have HGC := hid (groups_ok A k c xs wr HL.out (HX.out.fr HFA.out) HOP.out)
      clear hf hall P0
      obtain ⟨wx, hwx⟩ : ∃ wx : World, wx = wr := ⟨_, rfl⟩
      subst hwx
      go_upto_region 12 with (go_at_call 50; go_loud (refine HGC.out.mono ?_; rintro e w4 ⟨Ag, cg, vs, rfl, hrd, hvl, hcl, f4⟩))
      rw [HGP.out] at hrd hvl hcl ⊢
      have HGL := HGPL.out
      obtain ⟨m, hm⟩ : ∃ m, Gs.length = m := ⟨_, rfl⟩
      have HMM := hid hm
      rw [hm] at hrd hvl HGL ⊢
      have HRD := hid hrd
      have HVL := hid hvl
      have HCL := hid hcl
      have HFB := hid (HFA.out.trans f4)
      have HF4 := hid f4
      have HMB := hid HGL
      clear hrd hvl hcl f4 hm HGC HFA HGL
      try simp only [HMM.out]
      go_loopw [11, 33] (fun va i wr => ∃ (k : Nat) (A' : Option Addr) (c' : Nat), k ≤ m ∧ i = .int .i64 k ∧ va = .slice A' k c' ∧ RowB w4.heap.size wr va seq (vs.take k) ∧ Fr No w4 wr) (fun _ i _ => m - (intOf i).toNat)
      case atStart => exact ⟨0, none, 0, by omega, rfl, rfl, World.ownsRow_nil w4 _ _ 3, Fr.refl _ _⟩
      case round =>
        obtain ⟨j, A', c', hj, rfl, rfl, ho, hf⟩ := hrel
        have hkl : (vs.take j).length = j := by rw [List.length_take, HVL.out]; omega
        by_cases hjt : j < m
        · obtain ⟨v, hv⟩ : ∃ v, vs[j]? = some v := ⟨_, List.getElem?_eq_getElem (by rw [HVL.out]; exact hjt)⟩
          obtain ⟨g', o', rfl, _, hc⟩ := (HRD.out.fr hf (fun _ _ _ h => h)).2 (by omega)
          have cv : wr.cell? ⟨g', o' + j, none⟩ = some (.slice v.A v.n v.c) := hc j v.v (by rw [List.getElem?_map, hv]; rfl)
          have hjt3 : (j : Int) < m := by omega
          have h0j : (0 : Int) ≤ j := by omega
          have hw2 : wrap64 ((j : Int) + 1) = (j : Int) + 1 := by have := HMB.out; exact w64 _ (by omega)
          have HSN := hid (BtA.take_snoc hv)
          have HKL := hid hkl
          have HOL := hid (show RowB w4.heap.size (wr.alloc (.cells #[.int .i64 (wrap64 (seq + j)), .int .i64 2, .slice v.A v.n v.c] 26)) (.slice A' j c') seq (vs.take j) from own_fr ho (fr1 _ _) (fun _ _ h => h))
          have HFL := hid (hf.alloc (.cells #[.int .i64 (wrap64 (seq + j)), .int .i64 2, .slice v.A v.n v.c] 26))
          have HLB := hid (show Rd (wr.alloc (.cells #[.int .i64 (wrap64 (seq + j)), .int .i64 2, .slice v.A v.n v.c] 26)) (some ⟨wr.heap.size, 0, none⟩) 3 (hb seq (vs.take j).length v) by rw [hkl]; exact Rd.lit wr [.int .i64 (wrap64 (seq + j)), .int .i64 2, .slice v.A v.n v.c] 26)
          have HLM := hid (show (vs.take j).length + 1 ≤ 1000000 by rw [hkl]; exact Nat.le_trans (Nat.succ_le_of_lt hjt) (Nat.le_trans HMB.out (by decide)))
          clear hc hv ho hf hkl
          go_wp2_with (at_builtin; go_loud (refine app_bt rfl (.tmp 37) (.tmp 44) rfl w4.heap.size (.slice A' j c') seq (vs.take j) rfl HOL.out (some ⟨wr.heap.size, 0, none⟩) 1 v rfl HLB.out HLM.out HFL.out.size ?_; intro A8 c8 w8 ho8 f8; rw [HKL.out] at ho8 ⊢; have HO8 := hid ho8; have HF8 := hid (HFL.out.step f8 (fun i hi h => by have := (own_at HOL.out i h).1.1; omega)); clear ho8 f8))
          go_roundw
          case rel => exact ⟨j + 1, A8, c8, by omega, by go_num, rfl, by rw [HSN.out]; exact HO8.out, HF8.out⟩
          case measure => first | exact next_m _ _ hjt hw2 | exact next_p _ _ hjt
        · obtain rfl : j = m := by omega
          have HO := hid (show RowB w4.heap.size wr (.slice A' j c') seq vs by have := ho; rwa [List.take_of_length_le (by rw [HVL.out]; exact Nat.le_refl _)] at this)
          have HF := hid hf
          clear ho hf hkl
          by_cases h0 : j = 0
          · have h0b : decide ((0 : Int) < (j : Int)) = false := decide_eq_false (by omega)
            have HBD := hid (show ¬ badS seq Gs.length from fun h => by have := h.1; rw [HMM.out] at this; omega)
            have hj0 : ¬ (0 : Int) < (j : Int) := by omega
            subst h0
            go_wp2
            go_ret2
            refine ⟨Or.inr ⟨HBD.out, A', c', vs, by rw [HMM.out]; rfl, by rw [HMM.out]; exact own_rd3 HO.out HVL.out, by rw [HMM.out]; exact HVL.out, fun i v g h1 h2 => ?_⟩, HFB.out.trans HF.out⟩
            obtain ⟨ho, hn⟩ := HCL.out i v g h1 h2
            obtain ⟨h3, h4⟩ := out_lim (own_fr ho HF.out (fun _ _ h => h))
            exact ⟨h3, hn, h4⟩
          · have h0c : (0 : Int) < (j : Int) := by omega
            have h0d : 0 < j := by omega
            have h0b : decide ((0 : Int) < (j : Int)) = true := decide_eq_true h0c
            have hwA : wrap64 ((j : Int) - 1) = (j : Int) - 1 := w64 _ (by have := HMB.out; omega)
            have hwB : wrap64 (1099511627776 - ((j : Int) - 1)) = 1099511627776 - ((j : Int) - 1) := w64 _ (by have := HMB.out; omega)
            by_cases h1 : seq < 1
            · have h1b : decide (seq < 1) = true := decide_eq_true h1
              have HBD := hid (show badS seq Gs.length from ⟨by rw [HMM.out]; exact h0d, Or.inl h1⟩)
              go_wp2
              go_ret2
              exact ⟨Or.inl ⟨HBD.out, rfl⟩, HFB.out.trans HF.out⟩
            · have h1b : decide (seq < 1) = false := decide_eq_false h1
              by_cases h2 : 1099511627776 - ((j : Int) - 1) < seq
              · have h2b : decide (1099511627776 - ((j : Int) - 1) < seq) = true := decide_eq_true h2
                have HBD := hid (show badS seq Gs.length from ⟨by rw [HMM.out]; exact h0d, Or.inr (by rw [HMM.out]; exact h2)⟩)
                go_wp2
                go_ret2
                exact ⟨Or.inl ⟨HBD.out, rfl⟩, HFB.out.trans HF.out⟩
              · have h2b : decide (1099511627776 - ((j : Int) - 1) < seq) = false := decide_eq_false h2
                have HBD := hid (show ¬ badS seq Gs.length from fun h => by rcases h.2 with q | q; exact h1 q; (rw [HMM.out] at q; exact h2 q))
                go_wp2
                go_ret2
                refine ⟨Or.inr ⟨HBD.out, A', c', vs, by rw [HMM.out]; rfl, by rw [HMM.out]; exact own_rd3 HO.out HVL.out, by rw [HMM.out]; exact HVL.out, fun i v g h1 h2 => ?_⟩, HFB.out.trans HF.out⟩
                obtain ⟨ho, hn⟩ := HCL.out i v g h1 h2
                obtain ⟨h3, h4⟩ := out_lim (own_fr ho HF.out (fun _ _ h => h))
                exact ⟨h3, hn, h4⟩
end Go.Proofs.YtllolilpchmkiaaDoor.BtS
