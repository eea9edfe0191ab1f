import Derived.Test.YtkkbgbpmpcoffaaDoorHfB
import Derived.Test.YtkkbgbpmpcoffaaDoorHgA
import Derived.Test.YtkkbgbpmpcoffaaDoorHfC
/- Plain facts: what bytes are as a head, by the document, is what they are by the program. Nothing here walks a program. -/
namespace Go.Proofs.YtkkbgbpmpcoffaaDoor.BtW
open Go.RowKit MSep LeX LeW LeR RcM RdA CrcA CrcM CrcE MSpM MGeM BtH BtK
open BtM (Ba mayB)

/-- A span's eight bytes, by the document: the span, what has to be 0, what is left. -/
def dS (st : Option (List Int)) : Sp × Int × Option (List Int) := (((gt 4 st).1, (gt 2 (gt 4 st).2).1), (gt 2 (gt 2 (gt 4 st).2).2).1, (gt 2 (gt 2 (gt 4 st).2).2).2)
/-- So many rounds of the document's loop: none where it ended early. -/
def dRun : Nat → Option (List Int) → Option (List Sp × Option (List Int))
  | 0, st => some ([], st)
  | n + 1, st => match dRun n st with
    | none => none
    | some (l, none) => some (l, none)
    | some (l, some xs) => if (dS (some xs)).2.1 = 0 then some (l ++ [(dS (some xs)).1], (dS (some xs)).2.2) else none
open Classical in
/-- What bytes behind the mark are as a head, by the document. -/
noncomputable def hdD1 (g : Ge) (st : Option (List Int)) : Option (Ba × Int) :=
  match dRun (min (gt 1 (gt 1 st).2).1.toNat 9) (gt 4 (gi 8 1 1099511627776 (gt 1 (gt 1 st).2).2).2).2 with
  | none => none
  | some r => if dy r.2 = true ∧ (r.1.length : Int) = (gt 1 (gt 1 st).2).1 ∧ mayB g ⟨(gi 8 1 1099511627776 (gt 1 (gt 1 st).2).2).1, (gt 1 st).1, r.1⟩ ∧ ¬ ((gt 1 st).1 = 2 ∧ (gt 4 (gi 8 1 1099511627776 (gt 1 (gt 1 st).2).2).2).1 ≠ 0) then some (⟨(gi 8 1 1099511627776 (gt 1 (gt 1 st).2).2).1, (gt 1 st).1, r.1⟩, (gt 4 (gi 8 1 1099511627776 (gt 1 (gt 1 st).2).2).2).1) else none
noncomputable def hdD (g : Ge) (zs : List Int) : Option (Ba × Int) := if secOk zs then (if (zs.drop 4).take 2 = [66, 84] then hdD1 g (some ((zs.drop 4).drop 2)) else none) else none

theorem gt_none (n : Nat) : gt n none = (0, none) := rfl
theorem giS {n : Nat} {a b : Int} {s : Option (List Int)} {ys : List Int} (h : (gi n a b s).2 = some ys) : gi n a b s = (wrap64 (gt n s).1, (gt n s).2) ∧ a ≤ wrap64 (gt n s).1 ∧ wrap64 (gt n s).1 ≤ b := by
  cases s with
  | none => cases h
  | some xs =>
    unfold gi gt at *
    dsimp only at *
    by_cases hl : xs.length < n
    · rw [if_pos hl] at h
      cases h
    · rw [if_neg hl] at h
      by_cases hc : a ≤ wrap64 (num (xs.take n)) ∧ wrap64 (num (xs.take n)) ≤ b
      · rw [if_neg hl, if_neg hl, if_pos hc]
        exact ⟨rfl, hc.1, hc.2⟩
      · rw [if_neg hc] at h
        cases h
theorem giT {n : Nat} {a b : Int} {s : Option (List Int)} {ys : List Int} (h : (gt n s).2 = some ys) (h1 : a ≤ wrap64 (gt n s).1) (h2 : wrap64 (gt n s).1 ≤ b) : gi n a b s = (wrap64 (gt n s).1, (gt n s).2) := by
  cases s with
  | none => cases h
  | some xs =>
    unfold gi gt at *
    dsimp only at *
    by_cases hl : xs.length < n
    · rw [if_pos hl] at h
      cases h
    · rw [if_neg hl] at h1 h2 ⊢
      rw [if_neg hl, if_pos ⟨h1, h2⟩]
theorem w64s {x : Int} (h0 : 0 ≤ x) (h1 : x < 4294967296) : wrap64 x = x := by
  unfold wrap64
  omega
theorem gz {s : Option (List Int)} (h8 : by8 s) (ys : List Int) : (gi 2 0 0 s).2 = some ys ↔ (gt 2 s).1 = 0 ∧ (gt 2 s).2 = some ys := by
  obtain ⟨b1, b2⟩ := gt_in (n := 2) h8
  rw [show (256 : Int) ^ 2 = 65536 by decide] at b2
  have hw := w64s b1 (by omega)
  constructor
  · intro h
    obtain ⟨h1, h2, h3⟩ := giS h
    rw [h1] at h
    exact ⟨by omega, h⟩
  · rintro ⟨h1, h2⟩
    rw [giT (a := 0) (b := 0) h2 (by omega) (by omega)]
    exact h2
theorem pS_row {xs : List Int} (h8 : by8 (some xs)) (ys : List Int) : (pS (some xs)).2 = some ys ↔ (dS (some xs)).2.1 = 0 ∧ (dS (some xs)).2.2 = some ys :=
  gz (gt_by8 (gt_by8 h8)) ys
theorem pS_fst (st : Option (List Int)) : (pS st).1 = (dS st).1 := rfl
theorem run_iff {st : Option (List Int)} (h8 : by8 st) : ∀ (n : Nat) (l : List Sp) (ys : List Int), dRun n st = some (l, some ys) ↔ pSs n st = (l, some ys)
  | 0, l, ys => by simp [dRun, pSs]
  | n + 1, l, ys => by
    have ih := run_iff h8 n
    have hb := pSs_by8 h8 n
    rw [dRun, pSs]
    constructor
    · intro h
      split at h
      · cases h
      · cases h
      · rename_i l' xs hr
        have hp := (ih l' xs).1 hr
        rw [hp] at hb ⊢
        split at h
        · rename_i hz
          obtain ⟨h1, h2⟩ := Prod.mk.inj (Option.some.inj h)
          exact Prod.ext h1 ((pS_row hb ys).2 ⟨hz, h2⟩)
        · cases h
    · intro h
      obtain ⟨h1, h2⟩ := Prod.mk.inj h
      cases hs : (pSs n st).2 with
      | none => rw [hs] at h2; cases h2
      | some xs =>
        have hp : pSs n st = ((pSs n st).1, some xs) := Prod.ext rfl hs
        have hr := (ih _ _).2 hp
        rw [hr]
        rw [hs] at h1 h2 hb
        obtain ⟨h3, h4⟩ := (pS_row hb ys).1 h2
        dsimp only
        rw [if_pos h3, h4, ← h1, pS_fst]
theorem run_len {st : Option (List Int)} (h8 : by8 st) {n : Nat} {l : List Sp} {ys : List Int} (h : dRun n st = some (l, some ys)) : l.length = n := by
  have := (run_iff h8 n l ys).1 h
  have h2 := pSs_len st n
  rw [this] at h2
  exact h2
theorem pSs_none (n : Nat) : (pSs n none).2 = none := by
  induction n with
  | zero => rfl
  | succ n ih => rw [pSs, ih]; rfl
theorem hh_eq {st : Option (List Int)} (e1 : gi 1 1 8 (gt 1 st).2 = ((gt 1 (gt 1 st).2).1, (gt 1 (gt 1 st).2).2)) (e8 : gi 8 1 1099511627776 (gt 1 (gt 1 st).2).2 = (wrap64 (gt 8 (gt 1 (gt 1 st).2).2).1, (gt 8 (gt 1 (gt 1 st).2).2).2)) :
    hh st = ⟨(gt 1 st).1, (gi 8 1 1099511627776 (gt 1 (gt 1 st).2).2).1, (gt 4 (gi 8 1 1099511627776 (gt 1 (gt 1 st).2).2).2).1, (gt 1 (gt 1 st).2).1.toNat, (gt 4 (gi 8 1 1099511627776 (gt 1 (gt 1 st).2).2).2).2⟩ := by
  unfold hh
  dsimp only
  rw [e1, e8]
open Classical in
theorem hd1_eq {g : Ge} {st : Option (List Int)} (h8 : by8 st) : hdD1 g st = (match hP1 (hh st) with | none => none | some r => if mayB g r.1 then some r else none) := by
  have hb2 : by8 (gt 1 (gt 1 st).2).2 := gt_by8 (gt_by8 h8)
  have hbD : by8 (gt 4 (gi 8 1 1099511627776 (gt 1 (gt 1 st).2).2).2).2 := gt_by8 (gi_by8 hb2)
  obtain ⟨n0, n1⟩ := gt_in (n := 1) (gt_by8 (n := 1) h8)
  rw [show (256 : Int) ^ 1 = 256 by decide] at n1
  have hw := w64s n0 (by omega)
  apply Option.ext
  intro r
  constructor
  · intro h
    unfold hdD1 at h
    split at h
    · cases h
    · rename_i r' hr
      obtain ⟨l, s'⟩ := r'
      split at h
      case isFalse => cases h
      rename_i hc
      obtain ⟨hy, hl, hm, hk⟩ := hc
      cases h
      cases s' with
      | none => cases hy
      | some ys =>
        dsimp only at hy hl hm hk
        have hn0 := run_len hbD hr
        have hp := (run_iff hbD _ _ _).1 hr
        obtain ⟨hq1, hq2⟩ := hm.2.1
        obtain ⟨hl1, hl8, _⟩ := hm.2.2.1
        dsimp only at hl1 hl8
        cases hz4 : (gt 4 (gi 8 1 1099511627776 (gt 1 (gt 1 st).2).2).2).2 with
        | none =>
          have := pSs_none (min (gt 1 (gt 1 st).2).1.toNat 9)
          rw [hz4] at hp
          rw [hp] at this
          cases this
        | some z4 =>
          cases hg : (gi 8 1 1099511627776 (gt 1 (gt 1 st).2).2).2 with
          | none => rw [hg] at hz4; cases hz4
          | some z3 =>
            obtain ⟨e8, _, _⟩ := giS hg
            cases hs2 : (gt 1 (gt 1 st).2).2 with
            | none => rw [hs2] at hg; cases hg
            | some z2 =>
              have e1 := giT (a := 1) (b := 8) hs2 (by rw [hw]; omega) (by rw [hw]; omega)
              rw [hw] at e1
              rw [hh_eq e1 e8]
              unfold hP1
              dsimp only
              rw [show min (gt 1 (gt 1 st).2).1.toNat 9 = (gt 1 (gt 1 st).2).1.toNat by omega] at hp
              rw [hp, if_pos ⟨(dn_zero _).2 hy, hk⟩]
              dsimp only
              rw [if_pos hm]
              try rw [hg, hs2]
  · intro h
    split at h
    · cases h
    · rename_i r' hr
      split at h
      case isFalse => cases h
      rename_i hm
      cases h
      unfold hP1 at hr
      split at hr
      case isFalse => cases hr
      rename_i hc
      obtain ⟨hd, hk⟩ := hc
      cases hr
      have hdy := (dn_zero _).1 hd
      cases hs : (pSs (hh st).n (hh st).st).2 with
      | none => rw [hs] at hdy; cases hdy
      | some ys =>
        cases hz4 : (hh st).st with
        | none =>
          have := pSs_none (hh st).n
          rw [hz4] at hs
          rw [hs] at this
          cases this
        | some z4 =>
          have hz4' : (gt 4 (gt 8 (gi 1 1 8 (gt 1 st).2).2).2).2 = some z4 := hz4
          cases hg8 : (gt 8 (gi 1 1 8 (gt 1 st).2).2).2 with
          | none => rw [hg8] at hz4'; cases hz4'
          | some z8 =>
            cases hg1 : (gi 1 1 8 (gt 1 st).2).2 with
            | none => rw [hg1] at hg8; cases hg8
            | some z1 =>
              obtain ⟨e1, a1, a2⟩ := giS hg1
              rw [hw] at e1 a1 a2
              have hq := hm.2.1
              have hq' : 1 ≤ wrap64 (gt 8 (gi 1 1 8 (gt 1 st).2).2).1 ∧ wrap64 (gt 8 (gi 1 1 8 (gt 1 st).2).2).1 ≤ 1099511627776 := hq
              rw [e1] at hq' hg8
              have e8 := giT hg8 hq'.1 hq'.2
              rw [hh_eq e1 e8] at hm hk hdy hs ⊢
              dsimp only at hm hk hdy hs ⊢
              have hp : pSs (gt 1 (gt 1 st).2).1.toNat (gt 4 (gi 8 1 1099511627776 (gt 1 (gt 1 st).2).2).2).2 = ((pSs (gt 1 (gt 1 st).2).1.toNat (gt 4 (gi 8 1 1099511627776 (gt 1 (gt 1 st).2).2).2).2).1, some ys) := Prod.ext rfl hs
              have hr := (run_iff hbD _ _ _).2 hp
              unfold hdD1
              rw [show min (gt 1 (gt 1 st).2).1.toNat 9 = (gt 1 (gt 1 st).2).1.toNat by omega, hr]
              dsimp only
              rw [hs] at hdy
              rw [if_pos ⟨hdy, by rw [pSs_len]; omega, hm, hk⟩]
              rw [hh_eq e1 e8] at hz4
              dsimp only at hz4
              rw [hz4]
theorem hdD_eq {g : Ge} {zs : List Int} (h8 : ∀ x ∈ zs, 0 ≤ x ∧ x ≤ 255) : hdD g zs = headG g zs := by
  have hb : by8 (some ((zs.drop 4).drop 2)) := fun ys hy x hx => by cases hy; exact h8 x (List.mem_of_mem_drop (List.mem_of_mem_drop hx))
  unfold hdD headG headP
  by_cases h1 : secOk zs = true
  · rw [if_pos h1, if_pos h1]
    unfold hP
    by_cases h2 : (zs.drop 4).take 2 = [66, 84]
    · rw [if_pos h2, if_pos h2]
      exact hd1_eq hb
    · rw [if_neg h2, if_neg h2]
  · rw [if_neg h1, if_neg h1]
end Go.Proofs.YtkkbgbpmpcoffaaDoor.BtW
/- Contract: what any bytes are as the head of a batch, by the document. Conditions: they read as bytes; the geometry's Seq is a whole number of 64 bits. -/
namespace Go.Proofs.YtkkbgbpmpcoffaaDoor.BtHd
open Go.RowKit MSep MSepC MFrame LeW LeR LeX RdA CrcM CrcA CrcE MSpM MGeM BtA Kit SpO BtH BtK BtW
open BtM (Ba mayB)
open SpA (wf w64)
open GeA (bg BG ld_geom)

theorem dRun_none {st : Option (List Int)} {n : Nat} (h : dRun n st = none) : ∀ m, n ≤ m → dRun m st = none
  | 0, hm => by
    obtain rfl : n = 0 := by omega
    exact h
  | m + 1, hm => by
    by_cases he : n = m + 1
    · subst he; exact h
    · rw [dRun, dRun_none h m (by omega)]
theorem dRun_stop {st : Option (List Int)} {n : Nat} {l : List Sp} (h : dRun n st = some (l, none)) : ∀ m, n ≤ m → dRun m st = some (l, none)
  | 0, hm => by
    obtain rfl : n = 0 := by omega
    exact h
  | m + 1, hm => by
    by_cases he : n = m + 1
    · subst he; exact h
    · rw [dRun, dRun_stop h m (by omega)]
theorem dRun_in {st : Option (List Int)} (h8 : by8 st) : ∀ (n : Nat) (l : List Sp) (s : Option (List Int)), dRun n st = some (l, s) → by8 s ∧ ∀ p ∈ l, (0 ≤ p.1 ∧ p.1 < 4294967296) ∧ 0 ≤ p.2 ∧ p.2 < 65536
  | 0, l, s, h => by
    rw [dRun] at h
    cases h
    exact ⟨h8, (fun p hp => by cases hp)⟩
  | n + 1, l, s, h => by
    rw [dRun] at h
    split at h
    · cases h
    · next l' hr =>
      cases h
      exact ⟨(fun ys hy => by cases hy), (dRun_in h8 n _ _ hr).2⟩
    · next l' xs hr =>
      obtain ⟨hb, hl⟩ := dRun_in h8 n _ _ hr
      split at h
      · cases h
        refine ⟨gt_by8 (gt_by8 (gt_by8 hb)), fun p hp => ?_⟩
        rcases List.mem_append.1 hp with hp | hp
        · exact hl p hp
        · rw [List.mem_singleton] at hp
          subst hp
          have b1 := gt_in (n := 4) hb
          have b2 := gt_in (n := 2) (gt_by8 (n := 4) hb)
          rw [show (256 : Int) ^ 4 = 4294967296 by decide] at b1
          rw [show (256 : Int) ^ 2 = 65536 by decide] at b2
          exact ⟨b1, b2⟩
      · cases h
open Classical in
/-- What the document's head is, once its spans are got. -/
noncomputable def pickV (g : Ge) (dv : Bool) (L : List Sp) (j : Int) (n0 q0 k0 m0 : Int) : Option (Ba × Int) :=
  if dv = true ∧ j = n0 ∧ mayB g ⟨q0, k0, L⟩ ∧ ¬ (k0 = 2 ∧ m0 ≠ 0) then some (⟨q0, k0, L⟩, m0) else none
theorem pickV_no {g : Ge} {dv : Bool} {L : List Sp} {j n0 q0 k0 m0 : Int} (h : ¬ (dv = true ∧ j = n0 ∧ mayB g ⟨q0, k0, L⟩ ∧ ¬ (k0 = 2 ∧ m0 ≠ 0))) : pickV g dv L j n0 q0 k0 m0 = none := if_neg h
theorem pickV_yes {g : Ge} {dv : Bool} {L : List Sp} {j n0 q0 k0 m0 : Int} (h : dv = true ∧ j = n0 ∧ mayB g ⟨q0, k0, L⟩ ∧ ¬ (k0 = 2 ∧ m0 ≠ 0)) : pickV g dv L j n0 q0 k0 m0 = some (⟨q0, k0, L⟩, m0) := if_pos h
theorem hd1_run {g : Ge} {L : List Sp} {s : Option (List Int)} {V : Option (Ba × Int)} {n0 q0 k0 m0 : Int} {s4 : Option (List Int)}
    (h : (match dRun (min n0.toNat 9) s4 with
      | none => none
      | some r => pickV g (dy r.2) r.1 r.1.length n0 q0 k0 m0) = V) (hr : dRun (min n0.toNat 9) s4 = some (L, s)) : pickV g (dy s) L L.length n0 q0 k0 m0 = V := by
  rw [hr] at h
  exact h
/-- What stands in memory while the spans are got. -/
def LD (w : World) (gc gs gn gl gk : Int) (G R D g ga : Nat) (n : Int) (q k : Int) (st : Option (List Int)) (i : Value) (wr : World) : Prop := ∃ (j : Nat) (A : Option Addr) (c : Nat) (L : List Sp) (s : Option (List Int)), (j ≤ 9 ∧ (j : Int) ≤ n) ∧ i = .int .i64 j ∧ dRun j st = some (L, s) ∧ L.length = j ∧ YdO wr (fun k => k = g ∨ k = ga) g s ∧ BB wr D q k A j c ∧ Out (D + 1) wr (.slice A j c) L ∧ BB wr R 0 0 none 0 0 ∧ BG wr G gc gs gn gl gk ∧ Fr No w wr
theorem bad_cell {w : World} {U : Nat → Prop} {g : Nat} {s : Option (List Int)} (h : YdO w U g s) : w.cell? ⟨g, 1, none⟩ = some (.bool (s.isNone)) := by
  cases s with
  | none =>
    obtain ⟨A, c, xs, h1, _⟩ := h
    exact h1.blk.cell 1
  | some xs =>
    obtain ⟨A, c, h1, _⟩ := h
    exact h1.blk.cell 1
set_option maxRecDepth 100000 in
set_option maxHeartbeats 8000000 in
theorem rhead_ok (gc gs gn gl gk : Int) (A : Option Addr) (l c : Nat) (zs : List Int) (w : World) (hs : r64 gs) (hb : IsB w A l c zs) :
    Calls Tryd.prog 15 #[.agg #[.int .i64 gc, .int .i64 gs, .int .i64 gn, .int .i64 gl, .int .i64 gk], .slice A l c] w fun E w' => RetH w w' E (headG ⟨gc, gs, gn, gl, gk⟩ zs) := by
  rw [← hdD_eq (g := ⟨gc, gs, gn, gl, gk⟩) hb.2.2.2]
  have hlen : zs.length = l := by simpa using hb.1.1
  obtain ⟨G, hG⟩ : ∃ G, w.heap.size = G := ⟨_, rfl⟩
  obtain ⟨R, hR⟩ : ∃ R, G + 1 = R := ⟨_, rfl⟩
  obtain ⟨w1, hw1⟩ : ∃ w1, (w.alloc (bg gc gs gn gl gk)).alloc (.cells (bcs 0 0 none 0 0) 26) = w1 := ⟨_, rfl⟩
  replace FW := hid (show Fr No w w1 by rw [← hw1]; exact (fr1 _ _).alloc _)
  replace PG := hid (show BG w1 G gc gs gn gl gk by rw [← hw1, ← hG]; exact (BG.new w gc gs gn gl gk : Blk _ _ _ _).alloc _)
  replace HQ := hid (show BB w1 R 0 0 none 0 0 by
    rw [← hw1, ← hR, ← hG]
    have := BB.new (w.alloc (bg gc gs gn gl gk)) 0 0 none 0 0
    rwa [World.size_alloc] at this)
  replace HZ := hid (show R + 1 ≤ w1.heap.size from Blk.lt HQ.out)
  have HW1 := hid hw1
  have HI := hid (hb.fr FW.out)
  have HI0 := hid hb
  have HLEN := hid hlen
  have HSS := hid hs
  have HGR := hid (And.intro hG hR)
  clear hb hw1 hlen hs
  obtain ⟨V, hV⟩ : ∃ V, hdD ⟨gc, gs, gn, gl, gk⟩ zs = V := ⟨_, rfl⟩
  rw [hV]
  go_enter Tryd.func15, Tryd.ntmps15
  go_upto_region 1 with fail
  try rw [show (w.alloc (Obj.cells #[.int .i64 gc, .int .i64 gs, .int .i64 gn, .int .i64 gl, .int .i64 gk] 23)).alloc (Obj.cells #[.int .i64 0, .int .i64 0, .slice none 0 0] 26) = w1 from HW1.out]
  try rw [hG]
  try rw [hR]
  clear hG hR
  by_cases hs : secOk zs = true
  case neg =>
    obtain rfl : V = none := by rw [← hV, hdD, if_neg hs]
    have HC : Hid ((l == 128 && ld zs 4 == onN 0 (zs.drop 4)) = false) := hid (by rw [← HLEN.out]; simpa [secOk] using hs)
    have HO := hid (show w.heap.size = G ∧ G + 1 = R from HGR.out)
    clear hV hs
    go_wp2_with (first | (go_at_call 39; refine (CrcF.refCheck_any _ _ _ zs _ HI.out).mono ?_; rintro e' w2 ⟨rfl, f2⟩; rw [HC.out]; replace FW := hid (FW.out.trans f2); replace HQ := hid (Blk.fr HQ.out f2 (fun h => h)); clear f2) | (refine st_bt rfl (.tmp 4) (.tmp 16) rfl R rfl rfl (by simp [Value.oneCell']) HQ.out rfl ?_; intro w9 HQ9 f9; have HF9 := hid (FW.out.step f9 (fun i hi e => by have := HO.out; have h2 : i = R := e; omega)); clear f9))
    exact bodyPost_ret (v := .tuple #[bv 0 0 none 0 0, .int .u32 0, .bool false]) (resH rfl _ _ R 0 0 none 0 0 (.int .u32 0) (.bool false) rfl rfl rfl HQ9) rfl ⟨rfl, HF9.out⟩
  have HC : Hid ((l == 128 && ld zs 4 == onN 0 (zs.drop 4)) = true) := hid (by rw [← HLEN.out]; exact hs)
  have hl : l = 128 := by have := HC.out; simp only [Bool.and_eq_true, beq_iff_eq] at this; exact this.1
  subst hl
  have hVd : (if (zs.drop 4).take 2 = [66, 84] then hdD1 ⟨gc, gs, gn, gl, gk⟩ (some ((zs.drop 4).drop 2)) else none) = V := by rw [← hV, hdD, if_pos hs]
  have HVD := hid hVd
  clear hV hs hVd
  obtain ⟨ga, oa, rfl, hga, _⟩ := HI0.out.1.2 (by omega)
  have hc4 : ¬ c = 4 := by have := HI.out.2.1; omega
  have HR4 : Hid (Rd w1 (some ⟨ga, oa + 4, none⟩) 124 ((zs.drop 4).map (Value.int .u8))) := hid (by
    have := HI.out.1.cut (k := 4) (c := c) (by omega) HI.out.2.1
    unfold cutA at this
    rw [if_neg hc4] at this
    simpa [add_off, List.map_drop] using this)
  have HU8 := hid (show ∀ x ∈ zs.drop 4, 0 ≤ x ∧ x ≤ 255 from fun x hx => HI.out.2.2.2 x (List.mem_of_mem_drop hx))
  have HCC := hid HI.out.2
  have HD4 := hid (show (zs.drop 4).length = 124 by rw [List.length_drop, HLEN.out])
  have HGA := hid (show ga < w.heap.size from hga)
  obtain ⟨X, hX⟩ : ∃ X, zs.drop 4 = X := ⟨_, rfl⟩
  rw [hX] at HR4 HU8 HVD HD4
  clear hX hga
  have hc4l : (4 : Int) ≤ (128 : Nat) := by decide
  go_upto_region 3 with (go_at_call 39; refine (CrcF.refCheck_any _ _ _ zs _ HI.out).mono ?_; rintro e' w2 ⟨rfl, f2⟩; rw [HC.out]; replace FW := hid (FW.out.trans f2); replace HQ := hid (Blk.fr HQ.out f2 (fun h => h)); replace PG := hid (show BG w2 G gc gs gn gl gk from Blk.fr PG.out f2 (fun h => h)); replace HR4 := hid (HR4.out.fr f2 (fun _ _ _ h => h)); replace HZ := hid (Nat.le_trans HZ.out f2.size); clear f2)
  obtain ⟨g, hg⟩ : ∃ g, w2.heap.size = g := ⟨_, rfl⟩
  have HO := hid (show w.heap.size = G ∧ G + 1 = R ∧ R < g ∧ ga < G by have h1 := HGR.out; have h2 := HZ.out; have h3 := HGA.out; omega)
  replace HY := hid (YdO.new (U := fun k => k = g ∨ k = ga) (g := g) (c := c - 4) (xs := X) (A := some ⟨ga, oa + 4, none⟩) (w := w2.alloc (.cells #[.slice (some ⟨ga, oa + 4, none⟩) 124 (c - 4), .bool false] 87)) (by rw [HD4.out, ← hg]; exact Blk.new w2 _ _) (by rw [HD4.out]; exact HR4.out.fr ((Fr.refl No w2).alloc _) (fun _ _ _ h => h)) (by have := HCC.out.1; have := HD4.out; omega) HU8.out (by have := HD4.out; omega) (fun a h => by cases h; exact ⟨by have := HO.out; simp only []; omega, .inr rfl⟩) (.inl rfl))
  replace FW := hid (FW.out.alloc (.cells #[.slice (some ⟨ga, oa + 4, none⟩) 124 (c - 4), .bool false] 87))
  replace HQ := hid (Blk.alloc HQ.out (.cells #[.slice (some ⟨ga, oa + 4, none⟩) 124 (c - 4), .bool false] 87))
  replace PG := hid (show BG _ G gc gs gn gl gk from Blk.alloc PG.out (.cells #[.slice (some ⟨ga, oa + 4, none⟩) 124 (c - 4), .bool false] 87))
  replace HZ := hid (show g + 1 ≤ (w2.alloc (.cells #[.slice (some ⟨ga, oa + 4, none⟩) 124 (c - 4), .bool false] 87)).heap.size by simp; omega)
  go_upto_region 4 with fail
  try rw [hg]
  generalize w2.alloc (Obj.cells #[Value.slice (some ⟨ga, oa + 4, none⟩) 124 (c - 4), Value.bool false] 87) = w3 at HY FW HQ PG HZ ⊢
  clear HR4 HI HI0 hg
  have hmk := mark_eq (ys := X.take 2) (fun x hx => HU8.out x (List.mem_of_mem_take hx))
  by_cases hm : X.take 2 = [66, 84]
  case neg =>
    rw [decide_eq_false hm] at hmk
    obtain rfl : V = none := by rw [← HVD.out, if_neg hm]
    clear hm HVD
    go_wp2_with (first | (go_at_call 40; refine (bytes_yd g 2 _ X _ (by have := HD4.out; omega) HY.out).mono ?_; rintro e' w4 ⟨A4, c4, rfl, hr4, hy4, f⟩; have hcv := run_str (P := Tryd.prog) w4 27 9 5 Tryd.underlying27 Tryd.underlying5 Tryd.underlying9 A4 2 c4 (X.take 2) (by simpa [List.map_take] using hr4); replace HY := hid hy4; replace FW := hid (FW.out.step f (fun i hi h => by have := HO.out; have h2 : i = g := h; omega)); replace HQ := hid (Blk.fr HQ.out f (fun h => by have := HO.out; have h2 : R = g := h; omega)); replace PG := hid (show BG _ G gc gs gn gl gk from Blk.fr PG.out f (fun h => by have := HO.out; have h2 : G = g := h; omega)); replace HZ := hid (Nat.le_trans HZ.out f.size); clear hy4 f hr4) | (refine st_bt rfl (.tmp 4) (.tmp 25) rfl R rfl rfl (by simp [Value.oneCell']) HQ.out rfl ?_; intro w9 HQ9 f9; have HF9 := hid (FW.out.step f9 (fun i hi e => by have := HO.out; have h2 : i = R := e; omega)); clear f9))
    exact bodyPost_ret (v := .tuple #[bv 0 0 none 0 0, .int .u32 0, .bool false]) (resH rfl _ _ R 0 0 none 0 0 (.int .u32 0) (.bool false) rfl rfl rfl HQ9) rfl ⟨rfl, HF9.out⟩
  rw [decide_eq_true hm] at hmk
  have HVM := hid (show hdD1 ⟨gc, gs, gn, gl, gk⟩ (some (X.drop 2)) = V by rw [← HVD.out, if_pos hm])
  have hby : by8 (some (X.drop 2)) := fun ys hy x hx => by cases hy; exact HU8.out x (List.mem_of_mem_drop hx)
  obtain ⟨s0, hs0⟩ : ∃ s, some (X.drop 2) = s := ⟨_, rfl⟩
  rw [hs0] at HVM hby
  have HS0 := hid hs0
  unfold hdD1 at HVM
  obtain ⟨⟨k0, s1⟩, h1⟩ : ∃ p, gt 1 s0 = p := ⟨_, rfl⟩
  have b1 := gt_in (n := 1) hby
  have hb1 := gt_by8 (n := 1) hby
  rw [h1] at HVM b1 hb1
  dsimp only at HVM b1 hb1
  obtain ⟨⟨n0, s2⟩, h2⟩ : ∃ p, gt 1 s1 = p := ⟨_, rfl⟩
  have b2 := gt_in (n := 1) hb1
  have hb2 := gt_by8 (n := 1) hb1
  rw [h2] at HVM b2 hb2
  dsimp only at HVM b2 hb2
  obtain ⟨⟨q0, s3⟩, h3⟩ : ∃ p, gi 8 1 1099511627776 s2 = p := ⟨_, rfl⟩
  have hb3 := gi_by8 (n := 8) (a := 1) (b := 1099511627776) hb2
  rw [h3] at HVM hb3
  dsimp only at HVM hb3
  obtain ⟨⟨m0, s4⟩, h4⟩ : ∃ p, gt 4 s3 = p := ⟨_, rfl⟩
  have b4 := gt_in (n := 4) hb3
  have hb4 := gt_by8 (n := 4) hb3
  rw [h4] at HVM b4 hb4
  dsimp only at HVM b4 hb4
  rw [show (256 : Int) ^ 1 = 256 by decide] at b1 b2
  rw [show (256 : Int) ^ 4 = 4294967296 by decide] at b4
  have H1 := hid h1
  have H2 := hid h2
  have H3 := hid h3
  have H4 := hid h4
  have HB8 := hid hb4
  have HNB := hid b2
  have hk64 : wrap64 k0 = k0 := w64 _ (by omega)
  have hn64 : wrap64 n0 = n0 := w64 _ (by omega)
  have hm32 : IntKind.u32.wrap m0 = m0 := u32w _ b4
  clear hs0 h1 h2 h3 h4 hby hb1 hb2 hb3 hb4 b1 b2 b4 hm HVD
  go_upto_region 6 with (go_at_call 40; refine (bytes_yd g 2 _ X _ (by have := HD4.out; omega) HY.out).mono ?_; rintro e' w4 ⟨A4, c4, rfl, hr4, hy4, f⟩; have hcv := run_str (P := Tryd.prog) w4 27 9 5 Tryd.underlying27 Tryd.underlying5 Tryd.underlying9 A4 2 c4 (X.take 2) (by simpa [List.map_take] using hr4); replace HY := hid hy4; replace FW := hid (FW.out.step f (fun i hi h => by have := HO.out; have h2 : i = g := h; omega)); replace HQ := hid (Blk.fr HQ.out f (fun h => by have := HO.out; have h2 : R = g := h; omega)); replace PG := hid (show BG _ G gc gs gn gl gk from Blk.fr PG.out f (fun h => by have := HO.out; have h2 : G = g := h; omega)); replace HZ := hid (Nat.le_trans HZ.out f.size); clear hy4 f hr4)
  rw [HS0.out] at HY
  clear hmk hcv
  go_upto_region 7 with (go_at_call 41; go_loud (refine (get_yd g 1 _ s0 _ (by decide) HY.out).mono ?_; rintro e' w6 ⟨rfl, hy6, f⟩; rw [H1.out] at hy6 ⊢; dsimp only at hy6 ⊢; replace HY := hid hy6; replace FW := hid (FW.out.step f (fun i hi h => by have := HO.out; have h2 : i = g := h; omega)); replace HQ := hid (Blk.fr HQ.out f (fun h => by have := HO.out; have h2 : R = g := h; omega)); replace PG := hid (show BG _ G gc gs gn gl gk from Blk.fr PG.out f (fun h => by have := HO.out; have h2 : G = g := h; omega)); replace HZ := hid (Nat.le_trans HZ.out f.size); clear hy6 f))
  obtain ⟨D, hD⟩ : ∃ D, w6.heap.size = D := ⟨_, rfl⟩
  obtain ⟨w7, hw7⟩ : ∃ w7, w6.alloc (.cells (bcs 0 k0 none 0 0) 26) = w7 := ⟨_, rfl⟩
  replace HD := hid (show BB w7 D 0 k0 none 0 0 by rw [← hw7, ← hD]; exact BB.new _ _ _ _ _ _)
  have f7 : Fr No w6 w7 := by rw [← hw7]; exact fr1 _ _
  have HOD := hid (show g < D by have := HZ.out; omega)
  replace FW := hid (FW.out.trans f7)
  replace HQ := hid (Blk.fr HQ.out f7 (fun h => h))
  replace PG := hid (show BG w7 G gc gs gn gl gk from Blk.fr PG.out f7 (fun h => h))
  replace HY := hid (HY.out.fr f7 (fun _ _ h => h))
  replace HZ := hid (show D + 1 ≤ w7.heap.size from Blk.lt HD.out)
  try rw [show w6.alloc (Obj.cells #[.int .i64 0, .int .i64 k0, .slice none 0 0] 26) = w7 from hw7]
  try rw [hD]
  clear hw7 f7 hD
  go_upto_region 8 with (go_at_call 41; go_loud (refine (get_yd g 1 _ s1 _ (by decide) HY.out).mono ?_; rintro e' w6 ⟨rfl, hy6, f⟩; rw [H2.out] at hy6 ⊢; dsimp only at hy6 ⊢; replace HY := hid hy6; replace FW := hid (FW.out.step f (fun i hi h => by have := HO.out; have h2 : i = g := h; omega)); replace HQ := hid (Blk.fr HQ.out f (fun h => by have := HO.out; have h2 : R = g := h; omega)); replace PG := hid (show BG _ G gc gs gn gl gk from Blk.fr PG.out f (fun h => by have := HO.out; have h2 : G = g := h; omega)); replace HZ := hid (Nat.le_trans HZ.out f.size); replace HD := hid (show BB _ D _ _ _ _ _ from Blk.fr HD.out f (fun h => by have := HOD.out; have h2 : D = g := h; omega)); clear hy6 f))
  clear hk64
  go_upto_region 9 with (go_at_call 42; go_loud (refine (int_yd g 8 1 1099511627776 _ s2 _ (by decide) HY.out).mono ?_; rintro e' w6 ⟨rfl, hy6, f⟩; rw [H3.out] at hy6 ⊢; dsimp only at hy6 ⊢; replace HY := hid hy6; replace FW := hid (FW.out.step f (fun i hi h => by have := HO.out; have h2 : i = g := h; omega)); replace HQ := hid (Blk.fr HQ.out f (fun h => by have := HO.out; have h2 : R = g := h; omega)); replace PG := hid (show BG _ G gc gs gn gl gk from Blk.fr PG.out f (fun h => by have := HO.out; have h2 : G = g := h; omega)); replace HZ := hid (Nat.le_trans HZ.out f.size); replace HD := hid (show BB _ D _ _ _ _ _ from Blk.fr HD.out f (fun h => by have := HOD.out; have h2 : D = g := h; omega)); have c0 : w6.cell? ⟨D, 0, none⟩ = some (.int .i64 0) := Blk.cell HD.out 0; have z0 : w6.frozen? ⟨D, 0, none⟩ = false := Blk.frozen HD.out 0; clear hy6 f))
  obtain ⟨w8, hw8⟩ : ∃ w8, w6.setCell ⟨D, 0, none⟩ (.int .i64 q0) = w8 := ⟨_, rfl⟩
  have f8 : Fr (fun k => k = D) w6 w8 := by rw [← hw8]; exact Fr.set1 w6 D 0 _
  replace HD := hid (show BB w8 D q0 k0 none 0 0 by have := Blk.set_ HD.out 0 (.int .i64 q0); rw [hw8] at this; simpa [BB, bcs] using this)
  replace HQ := hid (Blk.fr HQ.out f8 (fun h => by have := HO.out; have := HOD.out; have h2 : R = D := h; omega))
  replace PG := hid (show BG w8 G gc gs gn gl gk from Blk.fr PG.out f8 (fun h => by have := HO.out; have := HOD.out; have h2 : G = D := h; omega))
  replace HY := hid (HY.out.fr f8 (fun k hk h => by have := HO.out; have := HOD.out; have h2 : k = D := h; omega))
  replace FW := hid (FW.out.step f8 (fun i hi h => by have := HO.out; have := HOD.out; have h2 : i = D := h; omega))
  replace HZ := hid (Nat.le_trans HZ.out f8.size)
  rw [hw8]
  clear c0 z0 hw8 f8
  go_upto_region 10 with (go_at_call 41; go_loud (refine (get_yd g 4 _ s3 _ (by decide) HY.out).mono ?_; rintro e' w6 ⟨rfl, hy6, f⟩; rw [H4.out] at hy6 ⊢; dsimp only at hy6 ⊢; replace HY := hid hy6; replace FW := hid (FW.out.step f (fun i hi h => by have := HO.out; have h2 : i = g := h; omega)); replace HQ := hid (Blk.fr HQ.out f (fun h => by have := HO.out; have h2 : R = g := h; omega)); replace PG := hid (show BG _ G gc gs gn gl gk from Blk.fr PG.out f (fun h => by have := HO.out; have h2 : G = g := h; omega)); replace HZ := hid (Nat.le_trans HZ.out f.size); replace HD := hid (show BB _ D _ _ _ _ _ from Blk.fr HD.out f (fun h => by have := HOD.out; have h2 : D = g := h; omega)); clear hy6 f))
  go_wp2
  try simp only [hn64]
  clear hn64 hm32
  have hn0 : 0 ≤ n0 := HNB.out.1
  go_loopw [11] (fun i wr => LD w gc gs gn gl gk G R D g ga n0 q0 k0 s4 i wr) (fun i _ => 10 - (intOf i).toNat)
  case atStart => exact ⟨0, none, 0, [], s4, ⟨by omega, hn0⟩, rfl, rfl, rfl, HY.out, HD.out, Out.nil _ _, HQ.out, PG.out, FW.out⟩
  case round =>
    clear FW HD HQ HY PG HZ
    obtain ⟨j, As, cs, L, s, ⟨hj9, hjn⟩, rfl, hrun, hLl, hy, hd, hout, hq, hpg, hf⟩ := hrel
    obtain ⟨w6, hw6⟩ : ∃ w6 : World, w6 = wr := ⟨_, rfl⟩
    subst hw6
    have hbc := bad_cell hy
    replace HY := hid hy
    replace HD := hid hd
    replace HU := hid hout
    replace HQ := hid hq
    replace PG := hid hpg
    replace FW := hid hf
    have HRUN := hid hrun
    have HLL := hid hLl
    replace HZ := hid (show D + 1 ≤ w6.heap.size from Blk.lt hd)
    have h0j : (0 : Int) ≤ j := by omega
    have hw1 : wrap64 ((j : Int) + 1) = (j : Int) + 1 := w64 _ (by omega)
    clear hy hd hout hq hpg hf hrun hLl
    obtain ⟨bg', hbg⟩ : ∃ b, (decide ((j : Int) < n0) && (decide (j < 9) && s.isSome)) = b := ⟨_, rfl⟩
    have HBG := hid hbg
    clear hbg
    go_upto_region 11 with fail
    go_cut [52] (fun v wx => v = .bool bg' ∧ w6 = wx)
    case first =>
      by_cases c1 : (j : Int) < n0
      · have d1 : decide ((j : Int) < n0) = true := decide_eq_true c1
        by_cases c2 : j < 9
        · have d2 : decide ((j : Int) < 9) = true := decide_eq_true (by omega)
          have c2' : (j : Int) < 9 := by omega
          cases s with
          | none =>
            have HB2 := hid (show false = bg' by rw [← HBG.out, d1, decide_eq_true c2]; rfl)
            go_wp2
            go_meet
            case rel => exact ⟨congrArg Value.bool HB2.out, rfl⟩
          | some xs =>
            have HB2 := hid (show true = bg' by rw [← HBG.out, d1, decide_eq_true c2]; rfl)
            go_wp2
            go_meet
            case rel => exact ⟨congrArg Value.bool HB2.out, rfl⟩
        · have d2 : decide ((j : Int) < 9) = false := decide_eq_false (by omega)
          have c2' : ¬ (j : Int) < 9 := by omega
          have HB2 := hid (show false = bg' by rw [← HBG.out, d1, decide_eq_false c2]; rfl)
          go_wp2
          go_meet
          case rel => exact ⟨congrArg Value.bool HB2.out, rfl⟩
      · have d1 : decide ((j : Int) < n0) = false := decide_eq_false c1
        have HB2 := hid (show false = bg' by rw [← HBG.out, d1]; rfl)
        go_wp2
        go_meet
        case rel => exact ⟨congrArg Value.bool HB2.out, rfl⟩
    case rest =>
      obtain ⟨rfl, rfl⟩ := hcut
      cases bg' with
      | false =>
        have HRX := hid (show dRun (min n0.toNat 9) s4 = some (L, s) from by
          have h1 := HBG.out
          by_cases c1 : (j : Int) < n0
          · by_cases c2 : j < 9
            · cases s with
              | none => exact dRun_stop HRUN.out _ (by omega)
              | some xs => rw [decide_eq_true c1, decide_eq_true c2] at h1; cases h1
            · rw [show min n0.toNat 9 = j by omega]; exact HRUN.out
          · rw [show min n0.toNat 9 = j by omega]; exact HRUN.out)
        have HVX := hid (hd1_run (g := ⟨gc, gs, gn, gl, gk⟩) (by have h := HVM.out; exact h) HRX.out)
        rw [HLL.out] at HVX
        have HIN := hid (dRun_in HB8.out j L s HRUN.out)
        have HWF := hid (show ∀ p ∈ L, wf p from fun p hp => by
          have := HIN.out.2 p hp
          unfold SpA.wf
          omega)
        obtain ⟨dv, hdv⟩ : ∃ b, dy s = b := ⟨_, rfl⟩
        rw [hdv] at HVX
        have HDV := hid hdv
        clear hdv hbc
        obtain ⟨b0_, b1_, d2⟩ := BB.cells HD.out
        obtain ⟨p0_, p1_, p2_, p3_, p4_⟩ := PG.out.cells
        cases dv with
        | false =>
          obtain rfl : V = none := by rw [← HVX.out, pickV_no (fun h => by cases h.1)]
          go_upto_region 19 with (first | (go_at_call 43; refine (done_yd g _ s _ HY.out).mono ?_; rintro e' w9 ⟨rfl, rfl⟩; rw [HDV.out]))
          repeat (first | (refine st_bt rfl (.tmp 4) (.tmp 98) rfl R rfl rfl (by simp [Value.oneCell']) HQ.out rfl ?_; intro w9 HQ9 f9; have HF9 := hid (FW.out.step f9 (fun i hi e => by have := HO.out; have h2 : i = R := e; omega)); clear f9) | go_values | go_skip | go_guarded | go_step | go_upon)
          (try simp only [Exit.inBlock, Exit.then])
          exact bodyPost_ret (v := .tuple #[bv 0 0 none 0 0, .int .u32 0, .bool false]) (resH rfl _ _ R 0 0 none 0 0 (.int .u32 0) (.bool false) rfl rfl rfl HQ9) rfl ⟨rfl, HF9.out⟩
        | true =>
          by_cases hn : (j : Int) = n0
          case neg =>
            have hnb : ((j : Int) == n0) = false := by simpa using hn
            have hnb2 : ((j : Int) != n0) = true := by rw [bne, hnb]; rfl
            obtain rfl : V = none := by rw [← HVX.out, pickV_no (fun h => hn h.2.1)]
            clear hn
            go_upto_region 19 with (first | (go_at_call 43; refine (done_yd g _ s _ HY.out).mono ?_; rintro e' w9 ⟨rfl, rfl⟩; rw [HDV.out]))
            repeat (first | (refine st_bt rfl (.tmp 4) (.tmp 98) rfl R rfl rfl (by simp [Value.oneCell']) HQ.out rfl ?_; intro w9 HQ9 f9; have HF9 := hid (FW.out.step f9 (fun i hi e => by have := HO.out; have h2 : i = R := e; omega)); clear f9) | go_values | go_skip | go_guarded | go_step | go_upon)
            (try simp only [Exit.inBlock, Exit.then])
            exact bodyPost_ret (v := .tuple #[bv 0 0 none 0 0, .int .u32 0, .bool false]) (resH rfl _ _ R 0 0 none 0 0 (.int .u32 0) (.bool false) rfl rfl rfl HQ9) rfl ⟨rfl, HF9.out⟩
          have hnb : ((j : Int) == n0) = true := by simpa using hn
          have hnb2 : ((j : Int) != n0) = false := by rw [bne, hnb]; rfl
          have HNE := hid hn
          clear hn
          by_cases hmb : mayB ⟨gc, gs, gn, gl, gk⟩ ⟨q0, k0, L⟩
          case neg =>
            have HMV := hid (show false = true ↔ mayB ⟨gc, gs, gn, gl, gk⟩ ⟨q0, k0, L⟩ from ⟨(fun h => by cases h), fun h => absurd h hmb⟩)
            have HCM := hid (fun W (h : RdS W As j L) => BtI.rmay_ok gc gs gn gl gk q0 k0 As j cs L false W HSS.out (by omega) h HWF.out HMV.out)
            obtain rfl : V = none := by rw [← HVX.out, pickV_no (fun h => hmb h.2.2.1)]
            clear hmb
            go_upto_region 19 with (first | (go_at_call 43; refine (done_yd g _ s _ HY.out).mono ?_; rintro e' w9 ⟨rfl, rfl⟩; rw [HDV.out]) | (go_at_call 7; refine (HCM.out _ (Out.rd HU.out)).mono ?_; rintro e' w7 ⟨rfl, f⟩; replace FW := hid (FW.out.trans f); replace HQ := hid (Blk.fr HQ.out f (fun h => h)); replace HD := hid (show BB w7 D q0 k0 As j cs from Blk.fr HD.out f (fun h => h)); replace HU := hid (HU.out.fr f); have dk : w7.cell? ⟨D, 1, none⟩ = some (.int .i64 k0) := Blk.cell HD.out 1; clear f))
            repeat (first | (refine st_bt rfl (.tmp 4) (.tmp 98) rfl R rfl rfl (by simp [Value.oneCell']) HQ.out rfl ?_; intro w9 HQ9 f9; have HF9 := hid (FW.out.step f9 (fun i hi e => by have := HO.out; have h2 : i = R := e; omega)); clear f9) | go_values | go_skip | go_guarded | go_step | go_upon)
            (try simp only [Exit.inBlock, Exit.then])
            exact bodyPost_ret (v := .tuple #[bv 0 0 none 0 0, .int .u32 0, .bool false]) (resH rfl _ _ R 0 0 none 0 0 (.int .u32 0) (.bool false) rfl rfl rfl HQ9) rfl ⟨rfl, HF9.out⟩
          have HMV := hid (show true = true ↔ mayB ⟨gc, gs, gn, gl, gk⟩ ⟨q0, k0, L⟩ from ⟨fun _ => hmb, fun _ => rfl⟩)
          have HCM := hid (fun W (h : RdS W As j L) => BtI.rmay_ok gc gs gn gl gk q0 k0 As j cs L true W HSS.out (by omega) h HWF.out HMV.out)
          have HMB := hid hmb
          clear hmb
          by_cases hk2 : k0 = 2
          · have hkb : (k0 == 2) = true := by simpa using hk2
            by_cases hm0 : m0 = 0
            · have hmb : (m0 == 0) = true := by simpa using hm0
              have hmb2 : (m0 != 0) = false := by rw [bne, hmb]; rfl
              obtain rfl : V = some ((⟨q0, k0, L⟩ : Ba), m0) := by rw [← HVX.out, pickV_yes ⟨rfl, HNE.out, HMB.out, fun h => h.2 hm0⟩]
              clear hk2 hm0
              go_upto_region 20 with (first | (go_at_call 43; refine (done_yd g _ s _ HY.out).mono ?_; rintro e' w9 ⟨rfl, rfl⟩; rw [HDV.out]) | (go_at_call 7; refine (HCM.out _ (Out.rd HU.out)).mono ?_; rintro e' w7 ⟨rfl, f⟩; replace FW := hid (FW.out.trans f); replace HQ := hid (Blk.fr HQ.out f (fun h => h)); replace HD := hid (show BB w7 D q0 k0 As j cs from Blk.fr HD.out f (fun h => h)); replace HU := hid (HU.out.fr f); have dk : w7.cell? ⟨D, 1, none⟩ = some (.int .i64 k0) := Blk.cell HD.out 1; clear f))
              repeat (first | ((with_reducible refine ld_bt rfl (.tmp 8) rfl D ?_ HD.out ?_); · rfl) | (refine st_bt rfl (.tmp 4) (.tmp 99) rfl R rfl rfl (by simp [Value.oneCell']) HQ.out rfl ?_; intro wz HQz fz; have HFz := hid (FW.out.step fz (fun i hi e => by have := HO.out; have h2 : i = R := e; omega)); have HRz := hid (rdS_lo2 (HU.out.rd) fz (fun q o h e => by have h1 := (HU.out.ge q (by rw [h]; rfl)).1; have := HO.out; have := HOD.out; have h2 : q = R := e; omega)); clear fz) | go_values | go_skip | go_guarded | go_step | go_upon)
              (try simp only [Exit.inBlock, Exit.then])
              exact bodyPost_ret (v := .tuple #[bv q0 k0 As j cs, .int .u32 m0, .bool true]) (resH rfl _ _ R q0 k0 As j cs (.int .u32 m0) (.bool true) rfl rfl rfl HQz) rfl ⟨⟨As, cs, by dsimp only; rw [HLL.out], by dsimp only; rw [HLL.out]; exact HRz.out, ⟨by dsimp only; rw [HLL.out]; exact (BtH.out_lim HU.out).1, (BtH.out_lim HU.out).2⟩, fun q o h => by have := (HU.out.ge q (by rw [h]; rfl)).1; have := HO.out; have := HOD.out; omega⟩, HFz.out⟩
            · have hmb : (m0 == 0) = false := by simpa using hm0
              have hmb2 : (m0 != 0) = true := by rw [bne, hmb]; rfl
              obtain rfl : V = none := by rw [← HVX.out, pickV_no (fun h => h.2.2.2 ⟨hk2, hm0⟩)]
              clear hk2 hm0
              go_upto_region 19 with (first | (go_at_call 43; refine (done_yd g _ s _ HY.out).mono ?_; rintro e' w9 ⟨rfl, rfl⟩; rw [HDV.out]) | (go_at_call 7; refine (HCM.out _ (Out.rd HU.out)).mono ?_; rintro e' w7 ⟨rfl, f⟩; replace FW := hid (FW.out.trans f); replace HQ := hid (Blk.fr HQ.out f (fun h => h)); replace HD := hid (show BB w7 D q0 k0 As j cs from Blk.fr HD.out f (fun h => h)); replace HU := hid (HU.out.fr f); have dk : w7.cell? ⟨D, 1, none⟩ = some (.int .i64 k0) := Blk.cell HD.out 1; clear f))
              repeat (first | (refine st_bt rfl (.tmp 4) (.tmp 98) rfl R rfl rfl (by simp [Value.oneCell']) HQ.out rfl ?_; intro w9 HQ9 f9; have HF9 := hid (FW.out.step f9 (fun i hi e => by have := HO.out; have h2 : i = R := e; omega)); clear f9) | go_values | go_skip | go_guarded | go_step | go_upon)
              (try simp only [Exit.inBlock, Exit.then])
              exact bodyPost_ret (v := .tuple #[bv 0 0 none 0 0, .int .u32 0, .bool false]) (resH rfl _ _ R 0 0 none 0 0 (.int .u32 0) (.bool false) rfl rfl rfl HQ9) rfl ⟨rfl, HF9.out⟩
          · have hkb : (k0 == 2) = false := by simpa using hk2
            obtain rfl : V = some ((⟨q0, k0, L⟩ : Ba), m0) := by rw [← HVX.out, pickV_yes ⟨rfl, HNE.out, HMB.out, fun h => hk2 h.1⟩]
            clear hk2
            go_upto_region 20 with (first | (go_at_call 43; refine (done_yd g _ s _ HY.out).mono ?_; rintro e' w9 ⟨rfl, rfl⟩; rw [HDV.out]) | (go_at_call 7; refine (HCM.out _ (Out.rd HU.out)).mono ?_; rintro e' w7 ⟨rfl, f⟩; replace FW := hid (FW.out.trans f); replace HQ := hid (Blk.fr HQ.out f (fun h => h)); replace HD := hid (show BB w7 D q0 k0 As j cs from Blk.fr HD.out f (fun h => h)); replace HU := hid (HU.out.fr f); have dk : w7.cell? ⟨D, 1, none⟩ = some (.int .i64 k0) := Blk.cell HD.out 1; clear f))
            repeat (first | ((with_reducible refine ld_bt rfl (.tmp 8) rfl D ?_ HD.out ?_); · rfl) | (refine st_bt rfl (.tmp 4) (.tmp 99) rfl R rfl rfl (by simp [Value.oneCell']) HQ.out rfl ?_; intro wz HQz fz; have HFz := hid (FW.out.step fz (fun i hi e => by have := HO.out; have h2 : i = R := e; omega)); have HRz := hid (rdS_lo2 (HU.out.rd) fz (fun q o h e => by have h1 := (HU.out.ge q (by rw [h]; rfl)).1; have := HO.out; have := HOD.out; have h2 : q = R := e; omega)); clear fz) | go_values | go_skip | go_guarded | go_step | go_upon)
            (try simp only [Exit.inBlock, Exit.then])
            exact bodyPost_ret (v := .tuple #[bv q0 k0 As j cs, .int .u32 m0, .bool true]) (resH rfl _ _ R q0 k0 As j cs (.int .u32 m0) (.bool true) rfl rfl rfl HQz) rfl ⟨⟨As, cs, by dsimp only; rw [HLL.out], by dsimp only; rw [HLL.out]; exact HRz.out, ⟨by dsimp only; rw [HLL.out]; exact (BtH.out_lim HU.out).1, (BtH.out_lim HU.out).2⟩, fun q o h => by have := (HU.out.ge q (by rw [h]; rfl)).1; have := HO.out; have := HOD.out; omega⟩, HFz.out⟩
      | true =>
        cases s with
        | none => exact absurd HBG.out (by simp)
        | some xs =>
        have hj9' : j < 9 := by have h := HBG.out; simp at h; omega
        have hjn' : (j : Int) < n0 := by have h := HBG.out; simp at h; omega
        have HJ := hid (And.intro hj9' hjn')
        have hb8 := (dRun_in HB8.out j L _ HRUN.out).1
        have HS1 := hid (show dRun (j + 1) s4 = if (dS (some xs)).2.1 = 0 then some (L ++ [(dS (some xs)).1], (dS (some xs)).2.2) else none by rw [dRun, HRUN.out])
        unfold dS at HS1
        have ba := gt_in (n := 4) hb8
        have hc1 := gt_by8 (n := 4) hb8
        obtain ⟨⟨a0, t1⟩, g1⟩ : ∃ p, gt 4 (some xs) = p := ⟨_, rfl⟩
        rw [g1] at HS1 ba hc1
        dsimp only at HS1 ba hc1
        have bb := gt_in (n := 2) hc1
        have hc2 := gt_by8 (n := 2) hc1
        obtain ⟨⟨b0, t2⟩, g2⟩ : ∃ p, gt 2 t1 = p := ⟨_, rfl⟩
        rw [g2] at HS1 bb hc2
        dsimp only at HS1 bb hc2
        have bz := gt_in (n := 2) hc2
        obtain ⟨⟨z0, t3⟩, g3⟩ : ∃ p, gt 2 t2 = p := ⟨_, rfl⟩
        rw [g3] at HS1 bz
        dsimp only at HS1 bz
        rw [show (256 : Int) ^ 4 = 4294967296 by decide] at ba
        rw [show (256 : Int) ^ 2 = 65536 by decide] at bb bz
        have G1 := hid g1
        have G2 := hid g2
        have G3 := hid g3
        have hwa : wrap64 a0 = a0 := w64 _ (by omega)
        have hwb : wrap64 b0 = b0 := w64 _ (by omega)
        clear hb8 hc1 hc2 g1 g2 g3 hbc ba bb bz hjn' hj9'
        go_upto_region 14 with (go_at_call 41; go_loud (refine (get_yd g 4 _ (some xs) _ (by decide) HY.out).mono ?_; rintro e' w6 ⟨rfl, hy6, f⟩; rw [G1.out] at hy6 ⊢; dsimp only at hy6 ⊢; replace HY := hid hy6; replace FW := hid (FW.out.step f (fun i hi h => by have := HO.out; have h2 : i = g := h; omega)); replace HQ := hid (Blk.fr HQ.out f (fun h => by have := HO.out; have h2 : R = g := h; omega)); replace PG := hid (show BG _ G gc gs gn gl gk from Blk.fr PG.out f (fun h => by have := HO.out; have h2 : G = g := h; omega)); replace HZ := hid (Nat.le_trans HZ.out f.size); replace HD := hid (show BB _ D _ _ _ _ _ from Blk.fr HD.out f (fun h => by have := HOD.out; have h2 : D = g := h; omega)); replace HU := hid (show Out (D + 1) _ (.slice As j cs) L from own_fr HU.out f (fun q hq h => by have h1 := (HU.out.ge q hq).1; have := HOD.out; have h2 : q = g := h; omega)); clear hy6 f))
        obtain ⟨E, hE⟩ : ∃ E, w6.heap.size = E := ⟨_, rfl⟩
        obtain ⟨w7, hw7⟩ : ∃ w7, w6.alloc (.cells #[.int .i64 a0, .int .i64 0] 51) = w7 := ⟨_, rfl⟩
        replace HE := hid (show Blk w7 E 51 #[.int .i64 a0, .int .i64 0] by rw [← hw7, ← hE]; exact Blk.new _ _ _)
        have f7 : Fr No w6 w7 := by rw [← hw7]; exact fr1 _ _
        have HOE := hid (show D < E ∧ (∀ q, (Value.slice As j cs).ownBlock = some q → q < E) by have h1 := HZ.out; exact ⟨by omega, fun q hq => by have := (HU.out.ge q hq).2; omega⟩)
        replace FW := hid (FW.out.trans f7)
        replace HQ := hid (Blk.fr HQ.out f7 (fun h => h))
        replace HD := hid (show BB w7 D q0 k0 As j cs from Blk.fr HD.out f7 (fun h => h))
        replace PG := hid (show BG w7 G gc gs gn gl gk from Blk.fr PG.out f7 (fun h => h))
        replace HY := hid (HY.out.fr f7 (fun _ _ h => h))
        replace HU := hid (HU.out.fr f7)
        replace HZ := hid (show E + 1 ≤ w7.heap.size from Blk.lt HE.out)
        try rw [show w6.alloc (Obj.cells #[.int .i64 a0, .int .i64 0] 51) = w7 from hw7]
        try rw [hE]
        clear hw7 f7 hE hwa
        go_upto_region 15 with (go_at_call 41; go_loud (refine (get_yd g 2 _ t1 _ (by decide) HY.out).mono ?_; rintro e' w6 ⟨rfl, hy6, f⟩; rw [G2.out] at hy6 ⊢; dsimp only at hy6 ⊢; replace HY := hid hy6; replace FW := hid (FW.out.step f (fun i hi h => by have := HO.out; have h2 : i = g := h; omega)); replace HQ := hid (Blk.fr HQ.out f (fun h => by have := HO.out; have h2 : R = g := h; omega)); replace PG := hid (show BG _ G gc gs gn gl gk from Blk.fr PG.out f (fun h => by have := HO.out; have h2 : G = g := h; omega)); replace HZ := hid (Nat.le_trans HZ.out f.size); replace HD := hid (show BB _ D _ _ _ _ _ from Blk.fr HD.out f (fun h => by have := HOD.out; have h2 : D = g := h; omega)); replace HU := hid (show Out (D + 1) _ (.slice As j cs) L from own_fr HU.out f (fun q hq h => by have h1 := (HU.out.ge q hq).1; have := HOD.out; have h2 : q = g := h; omega)); replace HE := hid (Blk.fr HE.out f (fun h => by have := HOD.out; have := HOE.out; have h2 : E = g := h; omega)); have cE : w6.cell? ⟨E, 1, none⟩ = some (.int .i64 0) := Blk.cell HE.out 1; have zE : w6.frozen? ⟨E, 1, none⟩ = false := Blk.frozen HE.out 1; clear hy6 f))
        obtain ⟨w8, hw8⟩ : ∃ w8, w6.setCell ⟨E, 1, none⟩ (.int .i64 b0) = w8 := ⟨_, rfl⟩
        have f8 : Fr (fun k => k = E) w6 w8 := by rw [← hw8]; exact Fr.set1 w6 E 1 _
        replace HE := hid (show Blk w8 E 51 #[.int .i64 a0, .int .i64 b0] by have := Blk.set_ HE.out 1 (.int .i64 b0); rw [hw8] at this; simpa using this)
        replace HQ := hid (Blk.fr HQ.out f8 (fun h => by have := HO.out; have := HOD.out; have := HOE.out; have h2 : R = E := h; omega))
        replace HD := hid (show BB w8 D q0 k0 As j cs from Blk.fr HD.out f8 (fun h => by have := HOE.out; have h2 : D = E := h; omega))
        replace PG := hid (show BG w8 G gc gs gn gl gk from Blk.fr PG.out f8 (fun h => by have := HO.out; have := HOD.out; have := HOE.out; have h2 : G = E := h; omega))
        replace HY := hid (HY.out.fr f8 (fun k hk h => by have := HO.out; have := HOD.out; have := HOE.out; have h2 : k = E := h; omega))
        replace HU := hid (show Out (D + 1) w8 (.slice As j cs) L from own_fr HU.out f8 (fun q hq h => by have := HOE.out.2 q hq; have h2 : q = E := h; omega))
        replace FW := hid (FW.out.step f8 (fun i hi h => by have := HO.out; have := HOD.out; have := HOE.out; have h2 : i = E := h; omega))
        replace HZ := hid (Nat.le_trans HZ.out f8.size)
        rw [hw8]
        clear cE zE hw8 f8 hwb
        by_cases hz : z0 = 0
        case neg =>
          have hzb : (z0 == 0) = false := by simpa using hz
          have hzb2 : (z0 != 0) = true := by rw [bne, hzb]; rfl
          have HRX := hid (show dRun (min n0.toNat 9) s4 = none from dRun_none (by rw [HS1.out, if_neg hz]) _ (by have := HJ.out; omega))
          obtain rfl : V = none := by
            have h := HVM.out
            rw [HRX.out] at h
            exact h.symm
          clear hz
          go_upto_region 16 with (first | (go_at_call 41; go_loud (refine (get_yd g 2 _ t2 _ (by decide) HY.out).mono ?_; rintro e' w6 ⟨rfl, hy6, f⟩; rw [G3.out] at hy6 ⊢; dsimp only at hy6 ⊢; replace HY := hid hy6; replace FW := hid (FW.out.step f (fun i hi h => by have := HO.out; have h2 : i = g := h; omega)); replace HQ := hid (Blk.fr HQ.out f (fun h => by have := HO.out; have h2 : R = g := h; omega)); replace PG := hid (show BG _ G gc gs gn gl gk from Blk.fr PG.out f (fun h => by have := HO.out; have h2 : G = g := h; omega)); replace HZ := hid (Nat.le_trans HZ.out f.size); replace HD := hid (show BB _ D _ _ _ _ _ from Blk.fr HD.out f (fun h => by have := HOD.out; have h2 : D = g := h; omega)); replace HU := hid (show Out (D + 1) _ (.slice As j cs) L from own_fr HU.out f (fun q hq h => by have h1 := (HU.out.ge q hq).1; have := HOD.out; have h2 : q = g := h; omega)); replace HE := hid (Blk.fr HE.out f (fun h => by have := HOD.out; have := HOE.out; have h2 : E = g := h; omega)); clear hy6 f)))
          repeat (first | (refine st_bt rfl (.tmp 4) (.tmp 66) rfl R rfl rfl (by simp [Value.oneCell']) HQ.out rfl ?_; intro w9 HQ9 f9; have HF9 := hid (FW.out.step f9 (fun i hi e => by have := HO.out; have h2 : i = R := e; omega)); clear f9) | go_values | go_skip | go_guarded | go_step | go_upon)
          (try simp only [Exit.inBlock, Exit.then])
          exact bodyPost_ret (v := .tuple #[bv 0 0 none 0 0, .int .u32 0, .bool false]) (resH rfl _ _ R 0 0 none 0 0 (.int .u32 0) (.bool false) rfl rfl rfl HQ9) rfl ⟨rfl, HF9.out⟩
        have hzb : (z0 == 0) = true := by simpa using hz
        have hzb2 : (z0 != 0) = false := by rw [bne, hzb]; rfl
        have HS2 := hid (show dRun (j + 1) s4 = some (L ++ [(a0, b0)], t3) by rw [HS1.out, if_pos hz])
        clear hz
        go_upto_region 17 with (go_at_call 41; go_loud (refine (get_yd g 2 _ t2 _ (by decide) HY.out).mono ?_; rintro e' w6 ⟨rfl, hy6, f⟩; rw [G3.out] at hy6 ⊢; dsimp only at hy6 ⊢; replace HY := hid hy6; replace FW := hid (FW.out.step f (fun i hi h => by have := HO.out; have h2 : i = g := h; omega)); replace HQ := hid (Blk.fr HQ.out f (fun h => by have := HO.out; have h2 : R = g := h; omega)); replace PG := hid (show BG _ G gc gs gn gl gk from Blk.fr PG.out f (fun h => by have := HO.out; have h2 : G = g := h; omega)); replace HZ := hid (Nat.le_trans HZ.out f.size); replace HD := hid (show BB _ D _ _ _ _ _ from Blk.fr HD.out f (fun h => by have := HOD.out; have h2 : D = g := h; omega)); replace HU := hid (show Out (D + 1) _ (.slice As j cs) L from own_fr HU.out f (fun q hq h => by have h1 := (HU.out.ge q hq).1; have := HOD.out; have h2 : q = g := h; omega)); replace HE := hid (Blk.fr HE.out f (fun h => by have := HOD.out; have := HOE.out; have h2 : E = g := h; omega)); clear hy6 f))
        have HLI := hid (lit_rd w6 a0 b0)
        have HOL := hid (show Out (D + 1) (w6.alloc (.cells #[.int .i64 a0, .int .i64 b0] 51)) (.slice As j cs) L from own_fr HU.out (fr1 _ _) (fun _ _ h => h))
        have HDL := hid (show BB _ D q0 k0 As j cs from Blk.alloc HD.out (.cells #[.int .i64 a0, .int .i64 b0] 51))
        have HQL := hid (Blk.alloc HQ.out (.cells #[.int .i64 a0, .int .i64 b0] 51))
        have HPL := hid (show BG _ G gc gs gn gl gk from Blk.alloc PG.out (.cells #[.int .i64 a0, .int .i64 b0] 51))
        have HSL := hid (HY.out.fr (fr1 w6 (.cells #[.int .i64 a0, .int .i64 b0] 51)) (fun _ _ h => h))
        have FL := hid (FW.out.alloc (.cells #[.int .i64 a0, .int .i64 b0] 51))
        have HDB := hid (show D + 1 ≤ (w6.alloc (.cells #[.int .i64 a0, .int .i64 b0] 51)).heap.size from Blk.lt HDL.out)
        have HLIM := hid (show L.length + 1 ≤ 4000000000000 by rw [HLL.out]; have := HJ.out; omega)
        have HGE := hid (fun q h => (HU.out.ge q h).1)
        have hDne : ¬ (fun q => (Value.slice As j cs).ownBlock = some q) D := fun h => absurd (HGE.out D h) (Nat.not_succ_le_self D)
        have hRne : ¬ (fun q => (Value.slice As j cs).ownBlock = some q) R := fun h => by have := HGE.out R h; have := HO.out; have := HOD.out; omega
        have hGne : ¬ (fun q => (Value.slice As j cs).ownBlock = some q) G := fun h => by have := HGE.out G h; have := HO.out; have := HOD.out; omega
        have hUne : ∀ k, (k = g ∨ k = ga) → ¬ (fun q => (Value.slice As j cs).ownBlock = some q) k := fun k hk h => by have := HGE.out k h; have := HO.out; have := HOD.out; omega
        have hwne : ∀ i, i < w.heap.size → (fun q => (Value.slice As j cs).ownBlock = some q) i → No i := fun i hi h => by have := HGE.out i h; have := HO.out; have := HOD.out; omega
        have HNE := hid (And.intro hDne (And.intro hRne (And.intro hGne (And.intro hUne hwne))))
        have d2 : w6.cell? ⟨D, 2, none⟩ = some (.slice As j cs) := Blk.cell HD.out 2
        have e0 : w6.cell? ⟨E, 0, none⟩ = some (.int .i64 a0) := HE.out.cell 0
        have e1 : w6.cell? ⟨E, 1, none⟩ = some (.int .i64 b0) := HE.out.cell 1
        clear hDne hRne hGne hUne hwne HU HD HQ PG HY FW
        go_wp2_with (at_builtin; go_loud (refine app_sp rfl (.tmp 68) (.tmp 70) rfl (D + 1) (.slice As j cs) L rfl HOL.out (some ⟨w6.heap.size, 0, none⟩) 1 1 [(a0, b0)] rfl HLI.out HLIM.out HDB.out ?_; intro A' c' x5 ho5 k5; rw [HLL.out] at ho5 ⊢; have HO5 := hid ho5; have HD5 := hid (show BB x5 D q0 k0 As j cs from Blk.fr HDL.out k5 HNE.out.1); have HQ5 := hid (Blk.fr HQL.out k5 HNE.out.2.1); have HP5 := hid (show BG x5 G gc gs gn gl gk from Blk.fr HPL.out k5 HNE.out.2.2.1); have HS5 := hid (HSL.out.fr k5 HNE.out.2.2.2.1); have F5 := hid (FL.out.step k5 HNE.out.2.2.2.2); clear ho5 k5 d2 e0 e1; have d2 : x5.cell? ⟨D, 2, none⟩ = some (.slice As j cs) := Blk.cell HD5.out 2; have y2 : x5.frozen? ⟨D, 2, none⟩ = false := Blk.frozen HD5.out 2))
        go_roundw
        case rel =>
          have HO6 := HO5.out
          have hown : ∀ q, (Value.slice A' (j + 1) c').ownBlock = some q → D + 1 ≤ q := fun q h => (HO6.ge q h).1
          have f6 : Fr (fun k => k = D) x5 (x5.setCell ⟨D, 2, none⟩ (.slice A' (j + 1) c')) := Fr.set1 x5 D 2 _
          (try refine ⟨_, ?_, rfl⟩)
          refine ⟨j + 1, A', c', L ++ [(a0, b0)], t3, ⟨by have := HJ.out; omega, by have := HJ.out; omega⟩, by go_num, HS2.out, by rw [List.length_append, HLL.out]; rfl, ?_, ?_, ?_, ?_, ?_, ?_⟩
          · exact HS5.out.fr f6 (fun k hk h => by have := HO.out; have := HOD.out; have h2 : k = D := h; omega)
          · have := Blk.set_ HD5.out 2 (.slice A' (j + 1) c'); simpa [BB, bcs] using this
          · exact own_fr HO6 f6 (fun q h e => by have := hown q h; have e : q = D := e; omega)
          · exact Blk.fr HQ5.out f6 (fun h => by have := HO.out; have := HOD.out; have h2 : R = D := h; omega)
          · exact Blk.fr HP5.out f6 (fun h => by have := HO.out; have := HOD.out; have h2 : G = D := h; omega)
          · exact F5.out.step f6 (fun i hi h => by have := HO.out; have := HOD.out; have h2 : i = D := h; omega)
        case measure => (have := HJ.out; simp [intOf]; omega)
end Go.Proofs.YtkkbgbpmpcoffaaDoor.BtHd
/- Contract: the sectors of a batch, by the document. Conditions: its numbers are within their bounds; its spans and its data read as lists. -/
namespace Go.Proofs.YtkkbgbpmpcoffaaDoor.BtJ
open Go.RowKit MSep MSepC MFrame LeA LeW LeR LeX WrB CrcA CrcM CrcE MSpM BtM BtA Kit BtE BtF BtG

theorem BtE_rdlo {S : Nat → Prop} {w w' : World} {A : Option Addr} {n : Nat} {l : List Value} (h : Rd w A n l) (hf : Fr S w w') (hS : ∀ k, k < w.heap.size → ¬ S k) : Rd w' A n l := by
  refine ⟨h.1, fun hn => ?_⟩
  obtain ⟨g, o, rfl, hg, hc⟩ := h.2 hn
  exact ⟨g, o, rfl, Nat.lt_of_lt_of_le hg hf.size, fun j u hu => hf.cell_some (hc j u hu) (hS g hg)⟩
theorem OBof {B : Nat} {w : World} {v : Value} {n : Nat} {l : List Int} (h : w.ownsRow B 5 1 v n (CrcE.cells l)) (hn : l.length = n) : OB B w v l := by
  subst hn
  exact h
theorem xp_new (T : Nat) (w : World) (hT : T < w.heap.size) : XrP (w.alloc (.cells #[.int .i64 124, .slice none 0 0, .bool false] 76)) w.heap.size T w.heap.size [] := new_xp T w hT
theorem rsumF (A : Option Addr) (l c : Nat) (zs : List Int) (w : World) (hb : IsB w A l c zs) : Calls Tryd.prog 34 #[.slice A l c] w fun e w' => e = .returned (.int .u32 (onN 0 zs : Nat)) ∧ Fr No w w' :=
  (CrcD.refSum_any A l c zs w hb.1 hb.2.2.2 (by have := hb.2.1; have := hb.2.2.1; omega)).mono (by rintro e w' ⟨rfl, rfl⟩; exact ⟨rfl, Fr.refl _ _⟩)
set_option maxRecDepth 100000 in
set_option maxHeartbeats 4000000 in
theorem renc_ok (q k : Int) (A : Option Addr) (c : Nat) (xs : List Sp) (dA : Option Addr) (dl dc : Nat) (zs : List Int) (w : World) (hx : RdS w A xs.length xs) (hh : Hok q k (onN 0 zs : Nat) xs) (hz : IsB w dA dl dc zs) (hzl : dl ≤ 100000000) :
    Calls Tryd.prog 10 #[bv q k A xs.length c, .slice dA dl dc] w fun E w' => (∃ A' c', E = .returned (.slice A' (bts q k xs zs).length c') ∧ Rd w' A' (bts q k xs zs).length ((bts q k xs zs).map (Value.int .u8))) ∧ Fr No w w' := by
  have h6 : xs.length ≤ 8 := hh.n
  have HAll := hid hh.l
  obtain ⟨q0, q1⟩ := hh.q
  obtain ⟨k0, k1⟩ := hh.k
  obtain ⟨s0, s1⟩ := hh.s
  have HZ := hid hz
  have HZL := hid hzl
  have HX := hid hx
  obtain ⟨sum, hsum⟩ : ∃ s : Int, (onN 0 zs : Nat) = s := ⟨_, rfl⟩
  rw [hsum] at s0 s1
  have HSUM := hid hsum
  clear hx hh hz hzl hsum
  have u1 : IntKind.u64.wrap q = q := u64w q (by omega)
  have u2 : IntKind.u64.wrap k = k := u64w k (by omega)
  have u3 : IntKind.u64.wrap sum = sum := u64w sum (by omega)
  have u4 : IntKind.u64.wrap (xs.length : Int) = (xs.length : Int) := u64w _ (by omega)
  have kcv := fun w C n c => Lib.run_convert_bytes_const (P := Tryd.prog) w 27 5 C n c Tryd.underlying27 Tryd.underlying5
  obtain ⟨w2, hw2⟩ : ∃ w2, (w.alloc (.cells (bcs q k A xs.length c) 26)).alloc (.cells #[.int .i64 124, .slice none 0 0, .bool false] 76) = w2 := ⟨_, rfl⟩
  have HF2 := hid (show Fr No w w2 by rw [← hw2]; exact ((Fr.refl No w).alloc _).alloc _)
  have HR2 := hid (show BB w2 w.heap.size q k A xs.length c by rw [← hw2]; exact Blk.alloc (BB.new w q k A xs.length c) _)
  obtain ⟨B, hB⟩ : ∃ B, w.heap.size + 1 = B := ⟨_, rfl⟩
  have hGB : w.heap.size < B := by omega
  have HW : XrP w2 B w.heap.size B [] := by
    have := xp_new w.heap.size (w.alloc (.cells (bcs q k A xs.length c) 26)) (by simp)
    rw [hw2, World.size_alloc, hB] at this
    exact this
  have HS2 := hid hw2
  have HB := hid hB
  clear hw2
  go_enter Tryd.func10, Tryd.ntmps10
  go_upto_region 2 with fail
  rw [show (w.alloc (Obj.cells #[.int .i64 q, .int .i64 k, .slice A xs.length c] 26)).alloc (Obj.cells #[Value.int IntKind.i64 124, Value.slice none 0 0, Value.bool false] 76) = w2 from HS2.out]
  try rw [hB]
  go_upto_region 8 with (first | (go_at_call 32; refine (bytes_xp B _ 2 2 [66, 84] B w.heap.size [] _ (by decide) (CrcG.lit_rd w2 [66, 84] (2, 3)) (HW.fr ((Fr.refl No _).alloc _))).mono ?_; rintro e' w3 ⟨rfl, HW, f3⟩; have FW : Hid (Fr (NP B w.heap.size) w w3) := hid (((HF2.out.alloc _).mono fun _ _ h => h.elim).trans f3); obtain ⟨r0, r1, r2⟩ := BB.cells (Blk.fr (Blk.alloc HR2.out (.cells #[.int .u8 66, .int .u8 84] 5 (2, 3))) f3 (by unfold NP; omega)); clear f3) | (go_at_call 34; refine (rsumF dA dl dc zs _ ⟨BtE_rdlo HZ.out.1 FW.out (fun k hk h => by unfold NP at h; omega), HZ.out.2⟩).mono ?_; rintro e' w3 ⟨rfl, f⟩; rw [HSUM.out]; replace r0 := kc f r0; replace r1 := kc f r1; replace r2 := kc f r2; replace HW := HW.fr f; replace FW := hid (FW.out.trans (f.mono fun _ _ h => h.elim)); clear f) | (go_at_call 33; refine (put_xp B _ _ B w.heap.size _ _ (by decide) (by first | (simp [low_len]; done) | (simp [low_len]; omega) | omega) (by first | decide | omega) HW).mono ?_; rintro e' w3 ⟨rfl, HW, f⟩; replace r0 := kcN f r0; replace r1 := kcN f r1; replace r2 := kcN f r2; replace FW := kfN f FW; clear f))
  go_loopw [6] (fun i wr => ∃ j : Nat, j ≤ xs.length ∧ i = .int .i64 j ∧ XrP wr B w.heap.size B (eH q k sum xs.length ++ (xs.take j).flatMap eS) ∧ Fr (NP B w.heap.size) w wr ∧ wr.cell? ⟨w.heap.size, 2, none⟩ = some (.slice A xs.length c)) (fun i _ => xs.length - (intOf i).toNat)
  case atStart => exact ⟨0, by omega, rfl, by simpa [eH, List.append_assoc] using HW, FW.out, r2⟩
  case round =>
    clear FW HW r0 r1 r2 u1 u2 u3 u4
    obtain ⟨j, hj, rfl, HW, hf, r2⟩ := hrel
    have HXk := rdS_lo HX.out hf (fun k hk h => by unfold NP at h; omega)
    by_cases hlt : j < xs.length
    · obtain ⟨d, hd⟩ : ∃ d, xs[j]? = some d := ⟨_, List.getElem?_eq_getElem hlt⟩
      obtain ⟨g, o, rfl, hg, _⟩ := HX.out.at_ (by omega)
      have hgB : g < B := by omega
      obtain ⟨e0, e1⟩ : wr.cell? ⟨g, o + j * 2, none⟩ = some (.int .i64 d.1) ∧ wr.cell? ⟨g, o + j * 2 + 1, none⟩ = some (.int .i64 d.2) := by
        obtain ⟨g', o', hA, _, hc⟩ := HXk.at_ (by omega)
        cases hA
        exact hc j d hd
      have hmd := HAll.out d (List.mem_of_getElem? hd)
      have hlt3 : (j : Int) < xs.length := by omega
      have h0 : (0 : Int) ≤ j := by omega
      have HD := hid hd
      have FW : Hid (Fr (NP B w.heap.size) w wr) := hid hf
      have hle := len6 (fl_len (xs.take j)) (show (xs.take j).length ≤ 7 by rw [List.length_take]; omega) (eH_len q k sum xs.length)
      obtain ⟨X, hX⟩ : ∃ X, eH q k sum xs.length ++ (xs.take j).flatMap eS = X := ⟨_, rfl⟩
      rw [hX] at HW hle
      have HX2 := hid hX
      obtain ⟨da, dn⟩ := d
      simp only [] at e0 e1 hmd
      obtain ⟨m1, m2⟩ := hmd
      have v1 := u64w da (by omega)
      have v2 := u64w dn (by omega)
      clear hX hd hf HXk
      go_wp2_with ((go_at_call 33; refine (put_xp B _ _ B w.heap.size _ _ (by decide) (by first | (simp [low_len]; done) | (simp [low_len]; omega) | omega) (by first | decide | omega) HW).mono ?_; rintro e' w3 ⟨rfl, HW, f⟩; replace e0 := kcN f e0; replace e1 := kcN f e1; replace r2 := kcN f r2; replace FW := kfN f FW; clear f))
      go_roundw
      case rel =>
        refine ⟨j + 1, by omega, by go_num, ?_, FW.out, r2⟩
        rw [fl_snoc HD.out, ← List.append_assoc, HX2.out]
        simpa [eS, List.append_assoc] using HW
      case measure => simp [intOf]; omega
    · obtain rfl : j = xs.length := by omega
      rw [List.take_length] at HW
      obtain ⟨Y, hY⟩ : ∃ Y, eB q k sum xs = Y := ⟨_, rfl⟩
      have hYl : Y.length ≤ 124 := by rw [← hY, eB_len]; omega
      have hYu : ∀ x ∈ Y, 0 ≤ x ∧ x ≤ 255 := by rw [← hY]; exact eB_u8 _ _ _ _
      rw [show eH q k sum xs.length ++ xs.flatMap eS = Y from hY] at HW
      have HYE := hid hY
      have HFk := hid hf
      obtain ⟨A4, c4, z1, HD4⟩ := HW.rd
      have HD5 := hid HD4
      have HYL := hid hYl
      have HYU := hid hYu
      have HWB := hid HW.le
      have HZr := hid (BtE_rdlo HZ.out.1 hf (fun k hk h => by unfold NP at h; omega))
      clear hf HXk HW HD4 hY hYl hYu
      go_wp2_with (first | (go_at_call 35; refine (CrcF.refSeal_ok _ _ _ Y _ HYL.out HD5.out HYU.out).mono ?_; rintro e' w5 ⟨A6, c6, rfl, hb5, f5⟩; have HB5 := hid (show OB wr.heap.size w5 (.slice A6 128 c6) (seal_ Y) from OBof hb5 (seal_len HYL.out)); have HZ5 := hid (HZr.out.fr f5 (fun _ _ _ h => h)); have HS5 := hid f5.size; have HF5 := hid (HFk.out.trans (f5.mono fun _ _ h => h.elim)); clear f5 hb5) | (at_builtin; go_loud (refine app_b rfl (.tmp 65) (.tmp 66) rfl wr.heap.size (.slice A6 128 c6) (seal_ Y) rfl HB5.out dA dl dc zs rfl HZ5.out (by rw [seal_len HYL.out]; have := HZL.out; omega) HS5.out ?_; intro A7 c7 w7 ho7 f7; have HO7 := hid ho7; have HF7 := hid (HF5.out.step f7 (fun i hi h => by have := HB5.out.ge i h; have := HFk.out.size; omega)); clear ho7 f7)))
      go_ret
      refine ⟨⟨A7, c7, ?_, ?_⟩, HF7.out.mono fun k hk h => by unfold NP at h; omega⟩
      · unfold bts
        rw [HSUM.out, HYE.out, List.length_append, show zs.length = dl by simpa using HZ.out.1.1]
        rfl
      · have := OB.rd (n := (seal_ Y).length + dl) (by rw [List.length_append, show zs.length = dl by simpa using HZ.out.1.1]) HO7.out
        unfold bts
        rw [HSUM.out, HYE.out, List.length_append, show zs.length = dl by simpa using HZ.out.1.1]
        exact this
end Go.Proofs.YtkkbgbpmpcoffaaDoor.BtJ
/- Contract: the batch with which bytes begin, and where its data are, by the document. Conditions: what comes in reads as bytes; the geometry's Seq is a whole number of 64 bits. -/
namespace Go.Proofs.YtkkbgbpmpcoffaaDoor.BtDd
open Go.RowKit MSep MSepC MSpM MGeM MFrame Kit BtA CrcA CrcM BtH BtK BtL BtO BtHd
open BtM (Ba mayB dsec mayB_dsec mayB_tn size_ tn spsOk_may)
open SpA (wf w64)
open GeA (bg BG ld_geom)

def ok_ (o : Option (Ba × Int)) : Bool := match o with | none => false | some _ => true
theorem rhead_u (gc gs gn gl gk : Int) (A : Option Addr) (l c : Nat) (zs : List Int) (w : World) (q k : Int) (xs : List Sp) (s : Int) (e : Bool) (hs : r64 gs) (hb : IsB w A l c zs) (hqe : hq (headG ⟨gc, gs, gn, gl, gk⟩ zs) = q) (hke : hk (headG ⟨gc, gs, gn, gl, gk⟩ zs) = k) (hle : hl (headG ⟨gc, gs, gn, gl, gk⟩ zs) = xs) (hse : hs_ (headG ⟨gc, gs, gn, gl, gk⟩ zs) = s) (hee : ok_ (headG ⟨gc, gs, gn, gl, gk⟩ zs) = e) :
    Calls Tryd.prog 15 #[.agg #[.int .i64 gc, .int .i64 gs, .int .i64 gn, .int .i64 gl, .int .i64 gk], .slice A l c] w fun E w' => ∃ A' c', E = .returned (.tuple #[bv q k A' xs.length c', .int .u32 s, .bool e]) ∧ RdS w' A' xs.length xs ∧ (xs.length ≤ c' ∧ c' ≤ maxLen) ∧ (∀ g o, A' = some ⟨g, o, none⟩ → w.heap.size ≤ g) ∧ Fr No w w' := by
  refine (rhead_ok gc gs gn gl gk A l c zs w hs hb).mono ?_
  rintro E w' ⟨h1, h2⟩
  subst hqe hke hle hse hee
  cases ho : headG ⟨gc, gs, gn, gl, gk⟩ zs with
  | none =>
    rw [ho] at h1
    exact ⟨none, 0, h1, RdS.nil _ _, ⟨Nat.le_refl _, by simp [maxLen]⟩, (fun g o h => by cases h), h2⟩
  | some r =>
    rw [ho] at h1
    obtain ⟨A', c', rfl, h3, h4, h5⟩ := h1
    exact ⟨A', c', rfl, h3, h4, h5, h2⟩
end Go.Proofs.YtkkbgbpmpcoffaaDoor.BtDd
