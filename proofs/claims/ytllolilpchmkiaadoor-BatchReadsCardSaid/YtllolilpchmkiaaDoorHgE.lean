import Derived.Test.YtllolilpchmkiaaDoorHgB
import Derived.Test.YtllolilpchmkiaaDoorHfD
import Derived.Test.YtllolilpchmkiaaDoorHfC
import Derived.Test.YtllolilpchmkiaaDoorCrcA
import Derived.Test.YtllolilpchmkiaaDoorTie
import Derived.Test.YtllolilpchmkiaaDoorCards
import Derived.LaidMore
import Derived.SevenTiedAt
import Derived.Stop.Joined
import Derived.MakeChecks
import Derived.Test.YtllolilpchmkiaaDoorFrameB
import Derived.Test.YtllolilpchmkiaaDoorSpA
/- The law BatchReads. Conditions: what comes in reads as bytes, and is no longer than the form's reach; the geometry's count of zones is 64 bits; the table of sums is as its text lays it. -/
namespace Go.Proofs.YtllolilpchmkiaaDoor.BtRd
open Go.RowKit MSep MSepC MSpM MGeM MFrame Kit BtA BtF CrcA CrcM CrcE BtH BtK BtL BtO BtDd BtT
open BtM (Ba mayB)
open SpA (wf w64)
open GeA (bg BG ld_geom)
open GeE (rlo)

theorem rlay_yes (c s n l k : Int) (w : World) (hs : r64 s) (h : mayG ⟨c, s, n, l, k⟩) : Calls Tryd.prog 10 #[.agg #[.int .i64 c, .int .i64 s, .int .i64 n, .int .i64 l, .int .i64 k]] w fun e w' => ∃ y1 y2 y3 y4 y5 y6 y7 y8 : Int, e = .returned (.tuple #[.agg #[.int .i64 y1, .int .i64 y2, .int .i64 y3, .int .i64 y4, .int .i64 y5, .int .i64 y6, .int .i64 y7, .int .i64 y8], .bool true]) ∧ Fr No w w' := by
  refine (GeEk.rlayout_ok c s n l k w hs).mono ?_
  rintro e w' ⟨rfl, f⟩
  rw [rlo, if_pos h]
  exact ⟨_, _, _, _, _, _, _, _, rfl, f⟩
theorem rlay_no (c s n l k : Int) (w : World) (hs : r64 s) (h : ¬ mayG ⟨c, s, n, l, k⟩) : Calls Tryd.prog 10 #[.agg #[.int .i64 c, .int .i64 s, .int .i64 n, .int .i64 l, .int .i64 k]] w fun e w' => e = .returned (.tuple #[.agg #[.int .i64 0, .int .i64 0, .int .i64 0, .int .i64 0, .int .i64 0, .int .i64 0, .int .i64 0, .int .i64 0], .bool false]) ∧ Fr No w w' := by
  refine (GeEk.rlayout_ok c s n l k w hs).mono ?_
  rintro e w' ⟨rfl, f⟩
  rw [rlo, if_neg h]
  exact ⟨rfl, f⟩
theorem app_bb {w : World} {ops : Array Oper} {rest : List Oper} {o : Oper} {a : Act} {Q : Exit → Act → World → Prop} (hgd : o.guard = none) (s x : Operand)
    (ho : o.op = .call { callee := .builtin .append, args := #[s, x], argTypes := #[27, 27] })
    (B : Nat) (v : Value) (l : List Int) (hs : a.eval s = v) (hown : OB B w v l)
    (A : Option Addr) (m c : Nat) (news : List Int) (hx : a.eval x = .slice A m c) (hr : Rd w A m (news.map (Value.int .u8)))
    (hlim : l.length + m ≤ 140737488355328) (hbase : B ≤ w.heap.size)
    (h : ∀ A' c' w', OB B w' (.slice A' (l.length + m) c') (l ++ news) → Fr (fun q => v.ownBlock = some q) w w' → wpList Tryd.prog ops Q rest (a.put o.dst (.slice A' (l.length + m) c')) w') :
    wpList Tryd.prog ops Q (o :: rest) a w := by
  obtain ⟨i0, hi, hz0, hz1, hz2⟩ := info_parts u8_info
  have hm : news.length = m := by simpa using hr.1
  refine wpList_app hgd s x 27 ho B 5 i0 (.int .u8 0) 1 Tryd.underlying27 hi hz0 hz1 hz2 rfl v l.length (CrcE.cells l) hs hown A m c (CrcE.cells news) hx hr one_u8s (by simp only [maxLen]; omega) (by omega) hbase ?_
  intro A' c' w' o1 f1 _
  refine h A' c' w' ?_ f1
  have e : (l ++ news).length = l.length + m := by rw [List.length_append, hm]
  unfold OB
  rw [e, show CrcE.cells (l ++ news) = CrcE.cells l ++ CrcE.cells news by simp [CrcE.cells]]
  exact o1
def bq (o : Option (Ba × List Int)) : Int := match o with | none => 0 | some r => r.1.q
def bk (o : Option (Ba × List Int)) : Int := match o with | none => 0 | some r => r.1.k
def bl (o : Option (Ba × List Int)) : List Sp := match o with | none => [] | some r => r.1.l
def bd (o : Option (Ba × List Int)) : List Int := match o with | none => [] | some r => r.2
def be (o : Option (Ba × List Int)) : Int := match o with | none => 10 | some _ => 0
def bo (o : Option (Ba × List Int)) : Bool := match o with | none => false | some _ => true
theorem dec_u (gc gs gn gl gk : Int) (A : Option Addr) (l c : Nat) (zs : List Int) (w : World) (q k : Int) (xs : List Sp) (D : List Int) (e : Int) (hs : r64 gs) (hm : mayG ⟨gc, gs, gn, gl, gk⟩) (hb : IsB w A l c zs) (hT : TabAt w) (h1 : bq (beginG ⟨gc, gs, gn, gl, gk⟩ zs) = q) (h2 : bk (beginG ⟨gc, gs, gn, gl, gk⟩ zs) = k) (h3 : bl (beginG ⟨gc, gs, gn, gl, gk⟩ zs) = xs) (h4 : bd (beginG ⟨gc, gs, gn, gl, gk⟩ zs) = D) (h5 : be (beginG ⟨gc, gs, gn, gl, gk⟩ zs) = e) :
    Calls Tryd.prog 14 #[.agg #[.int .i64 gc, .int .i64 gs, .int .i64 gn, .int .i64 gl, .int .i64 gk], .slice A l c] w fun E w' => ∃ A' c' A2 c2, E = .returned (.tuple #[bv q k A' xs.length c', .slice A2 D.length c2, .int .i64 e]) ∧ RdS w' A' xs.length xs ∧ Rd w' A2 D.length (D.map (Value.int .u8)) ∧ Fr No w w' := by
  refine (decode_ok gc gs gn gl gk A l c zs w hs hm hb hT).mono ?_
  rintro E w' ⟨p1, p2⟩
  subst h1 h2 h3 h4 h5
  cases ho : beginG ⟨gc, gs, gn, gl, gk⟩ zs with
  | none =>
    rw [ho] at p1
    exact ⟨none, 0, none, 0, p1, RdS.nil _ _, Rd.nil _ _, p2⟩
  | some r =>
    rw [ho] at p1
    obtain ⟨A', c', A2, c2, rfl, q3, _, q5⟩ := p1
    exact ⟨A', c', A2, c2, rfl, q3, q5, p2⟩
theorem rdec_u (gc gs gn gl gk : Int) (A : Option Addr) (l c : Nat) (zs : List Int) (w : World) (q k : Int) (xs : List Sp) (D : List Int) (e : Bool) (hs : r64 gs) (hb : IsB w A l c zs) (h1 : bq (beginG ⟨gc, gs, gn, gl, gk⟩ zs) = q) (h2 : bk (beginG ⟨gc, gs, gn, gl, gk⟩ zs) = k) (h3 : bl (beginG ⟨gc, gs, gn, gl, gk⟩ zs) = xs) (h4 : bd (beginG ⟨gc, gs, gn, gl, gk⟩ zs) = D) (h5 : bo (beginG ⟨gc, gs, gn, gl, gk⟩ zs) = e) :
    Calls Tryd.prog 19 #[.agg #[.int .i64 gc, .int .i64 gs, .int .i64 gn, .int .i64 gl, .int .i64 gk], .slice A l c] w fun E w' => ∃ A' c' A2 c2, E = .returned (.tuple #[bv q k A' xs.length c', .slice A2 D.length c2, .bool e]) ∧ RdS w' A' xs.length xs ∧ Rd w' A2 D.length (D.map (Value.int .u8)) ∧ Fr No w w' := by
  refine (rdec_ok gc gs gn gl gk A l c zs w hs hb).mono ?_
  rintro E w' ⟨p1, p2⟩
  subst h1 h2 h3 h4 h5
  cases ho : beginG ⟨gc, gs, gn, gl, gk⟩ zs with
  | none =>
    rw [ho] at p1
    exact ⟨none, 0, none, 0, p1, RdS.nil _ _, Rd.nil _ _, p2⟩
  | some r =>
    rw [ho] at p1
    obtain ⟨A', c', A2, c2, rfl, q3, _, _, q5⟩ := p1
    exact ⟨A', c', A2, c2, rfl, q3, q5.1, p2⟩
theorem hl_len (g : Ge) (zs : List Int) : (hl (headG g zs)).length ≤ 8 := by
  cases ho : headG g zs with
  | none => exact Nat.zero_le _
  | some r => exact (headG_some ho).2.2.2.1.2.1
theorem bl_len (g : Ge) (zs : List Int) : (bl (beginG g zs)).length ≤ 8 := by
  unfold beginG
  split
  · exact Nat.zero_le _
  · split
    · exact Nat.zero_le _
    · next r hr =>
      split
      · exact Nat.zero_le _
      · split
        · exact (headG_some hr).2.2.2.1.2.1
        · exact Nat.zero_le _

set_option maxRecDepth 100000 in
set_option maxHeartbeats 8000000 in
theorem reads_no (gc gs gn gl gk : Int) (A : Option Addr) (l c : Nat) (zs : List Int) (w : World) (hs : r64 gs) (hcb : c ≤ 140737488351232) (hb : IsB w A l c zs) (hT : TabAt w) (hm : ¬ mayG ⟨gc, gs, gn, gl, gk⟩) :
    Calls Tryd.prog 4 #[.agg #[.int .i64 gc, .int .i64 gs, .int .i64 gn, .int .i64 gl, .int .i64 gk], .slice A l c] w fun e w' => e = .returned (.bool true) ∧ Fr No w w' := by
  obtain ⟨G, hG⟩ : ∃ G, w.heap.size = G := ⟨_, rfl⟩
  obtain ⟨w1, hw1⟩ : ∃ w1, w.alloc (bg gc gs gn gl gk) = w1 := ⟨_, rfl⟩
  have FG := hid (show Fr No w w1 by rw [← hw1]; exact fr1 _ _)
  have P0 := hid (show BG w1 G gc gs gn gl gk by rw [← hw1, ← hG]; exact BG.new w gc gs gn gl gk)
  have HW1 := hid hw1
  have HLEN := hid (show zs.length = l by simpa using hb.1.1)
  have HB := hid (hb.fr FG.out)
  have HT := hid hT
  have HS := hid hs
  have HM := hid hm
  have HLB := hid hcb
  clear hs hb hT hw1 hm hcb
  go_enter Tryd.func4, Tryd.ntmps4
  go_upto_region 1 with fail
  try rw [show w.alloc (Obj.cells #[.int .i64 gc, .int .i64 gs, .int .i64 gn, .int .i64 gl, .int .i64 gk] 23) = w1 from HW1.out]
  try rw [hG]
  have hown0 : OB w1.heap.size (w1.alloc (.cells #[] 5)) (.slice (some ⟨w1.heap.size, 0, none⟩) 0 0) [] := World.ownsRow_lit w1 #[] 0 (Nat.le_refl _) (by simp [maxLen]) rfl
  have HO := hid hown0
  have HA := hid (HB.out.1.fr (S := No) ((Fr.refl _ w1).alloc (.cells #[] 5)) (fun _ _ _ h => h))
  clear hown0
  go_upto_region 2 with (at_builtin; go_loud (refine app_bb rfl (.tmp 20) (.tmp 21) rfl w1.heap.size (.slice (some ⟨w1.heap.size, 0, none⟩) 0 0) [] rfl HO.out A l c zs rfl HA.out (by have := HLB.out; have := HB.out.2.1; simp; omega) (by simp) ?_; intro A5 c5 w5 own1 f1; have F1 := hid (show Fr No w1 w5 from ((Fr.refl No w1).alloc (.cells #[] 5)).step f1 (fun i hi h => by simp [Value.ownBlock] at h; omega)); try simp only [List.length_nil, Nat.zero_add, List.nil_append] at own1; have HOW := hid own1; clear f1 own1))
  try simp only [List.length_nil, Nat.zero_add]
  have HOB := hid (show IsB w5 A5 l c5 zs from ⟨OB.rd HLEN.out.symm HOW.out, by have := (OB.lim HOW.out).1; have := HLEN.out; omega, (OB.lim HOW.out).2, HB.out.2.2.2⟩)
  clear HO HA HOW
  replace FG := hid (FG.out.trans F1.out)
  replace P0 := hid (BG.fr P0.out F1.out)
  replace HB := hid (HB.out.fr F1.out)
  clear F1
  go_upto_region 3 with (first | ((with_reducible refine ld_geom rfl (.tmp 2) rfl G ?_ P0.out ?_); · rfl) | (go_at_call 14; refine (decode_geom gc gs gn gl gk A5 l c5 _ HS.out HM.out).mono ?_; rintro e' v1 ⟨he, f⟩; replace FG := hid (FG.out.trans f); replace P0 := hid (BG.fr P0.out f); replace HB := hid (HB.out.fr f); replace HOB := hid (HOB.out.fr f); subst he; have HV1 := hid (Eq.refl v1); dsimp only; clear f))
  clear HV1
  obtain ⟨X, hX⟩ : ∃ zz, v1.heap.size = zz := ⟨_, rfl⟩
  obtain ⟨wX, hwX⟩ : ∃ zz, v1.alloc (.cells (bcs 0 0 none 0 0) 26) = zz := ⟨_, rfl⟩
  have fX : Fr No v1 wX := by rw [← hwX]; exact fr1 _ _
  replace FG := hid (FG.out.trans fX); replace P0 := hid (BG.fr P0.out fX); replace HB := hid (HB.out.fr fX); replace HOB := hid (HOB.out.fr fX)
  have HX := hid (show BB wX X 0 0 none 0 0 by rw [← hwX, ← hX]; exact BB.new _ _ _ _ _ _)
  try rw [show v1.alloc (Obj.cells #[.int .i64 0, .int .i64 0, .slice none 0 0] 26) = wX from hwX]
  try rw [hX]
  clear hwX hX fX
  go_upto_region 4 with (first | ((with_reducible refine ld_geom rfl (.tmp 2) rfl G ?_ P0.out ?_); · rfl) | (go_at_call 10; refine (rlay_no gc gs gn gl gk _ HS.out HM.out).mono ?_; rintro e' v1 ⟨rfl, f⟩; replace FG := hid (FG.out.trans f); replace P0 := hid (BG.fr P0.out f); replace HB := hid (HB.out.fr f); replace HOB := hid (HOB.out.fr f); replace HX := hid (BB.fr HX.out f); skip; clear f))
  obtain ⟨wL, hwL⟩ : ∃ q, v1.alloc (.cells #[.int .i64 0, .int .i64 0, .int .i64 0, .int .i64 0, .int .i64 0, .int .i64 0, .int .i64 0, .int .i64 0] 34) = q := ⟨_, rfl⟩
  have fL : Fr No v1 wL := by rw [← hwL]; exact fr1 _ _
  replace FG := hid (FG.out.trans fL); replace P0 := hid (BG.fr P0.out fL); replace HB := hid (HB.out.fr fL); replace HOB := hid (HOB.out.fr fL); replace HX := hid (BB.fr HX.out fL)
  try rw [show v1.alloc (Obj.cells #[.int .i64 0, .int .i64 0, .int .i64 0, .int .i64 0, .int .i64 0, .int .i64 0, .int .i64 0, .int .i64 0] 34) = wL from hwL]
  clear hwL fL
  go_wp2_with (go_at_call 6; refine (lives_ok _ (HT.out.fr FG.out (fun h => h))).mono ?_; rintro e' v1 ⟨rfl, f⟩; replace FG := hid (FG.out.trans f); replace P0 := hid (BG.fr P0.out f); replace HB := hid (HB.out.fr f); replace HOB := hid (HOB.out.fr f); replace HX := hid (BB.fr HX.out f); clear f)
  go_ret
  exact ⟨rfl, FG.out⟩

set_option maxRecDepth 100000 in
set_option maxHeartbeats 8000000 in
theorem reads_nn (gc gs gn gl gk : Int) (A : Option Addr) (l c : Nat) (zs : List Int) (w : World) (hs : r64 gs) (hcb : c ≤ 140737488351232) (hb : IsB w A l c zs) (hT : TabAt w) (hm : mayG ⟨gc, gs, gn, gl, gk⟩) (ho : beginG ⟨gc, gs, gn, gl, gk⟩ zs = none) (hh : headG ⟨gc, gs, gn, gl, gk⟩ zs = none) :
    Calls Tryd.prog 4 #[.agg #[.int .i64 gc, .int .i64 gs, .int .i64 gn, .int .i64 gl, .int .i64 gk], .slice A l c] w fun e w' => e = .returned (.bool true) ∧ Fr No w w' := by
  obtain ⟨G, hG⟩ : ∃ G, w.heap.size = G := ⟨_, rfl⟩
  obtain ⟨w1, hw1⟩ : ∃ w1, w.alloc (bg gc gs gn gl gk) = w1 := ⟨_, rfl⟩
  have FG := hid (show Fr No w w1 by rw [← hw1]; exact fr1 _ _)
  have P0 := hid (show BG w1 G gc gs gn gl gk by rw [← hw1, ← hG]; exact BG.new w gc gs gn gl gk)
  have HW1 := hid hw1
  have HLEN := hid (show zs.length = l by simpa using hb.1.1)
  have HB := hid (hb.fr FG.out)
  have HT := hid hT
  have HS := hid hs
  have HM := hid hm
  have HLB := hid hcb
  obtain ⟨q, h1⟩ : ∃ q, bq (beginG ⟨gc, gs, gn, gl, gk⟩ zs) = q := ⟨_, rfl⟩
  obtain ⟨k, h2⟩ : ∃ q, bk (beginG ⟨gc, gs, gn, gl, gk⟩ zs) = q := ⟨_, rfl⟩
  obtain ⟨xs, h3⟩ : ∃ q, bl (beginG ⟨gc, gs, gn, gl, gk⟩ zs) = q := ⟨_, rfl⟩
  obtain ⟨D, h4⟩ : ∃ q, bd (beginG ⟨gc, gs, gn, gl, gk⟩ zs) = q := ⟨_, rfl⟩
  obtain ⟨q', k1⟩ : ∃ q, hq (headG ⟨gc, gs, gn, gl, gk⟩ zs) = q := ⟨_, rfl⟩
  obtain ⟨k', k2⟩ : ∃ q, hk (headG ⟨gc, gs, gn, gl, gk⟩ zs) = q := ⟨_, rfl⟩
  obtain ⟨ys, k3⟩ : ∃ q, hl (headG ⟨gc, gs, gn, gl, gk⟩ zs) = q := ⟨_, rfl⟩
  obtain ⟨s, k4⟩ : ∃ q, hs_ (headG ⟨gc, gs, gn, gl, gk⟩ zs) = q := ⟨_, rfl⟩
  have HXL := hid (show xs.length ≤ 8 by rw [← h3]; exact bl_len _ _)
  have HYL := hid (show ys.length ≤ 8 by rw [← k3]; exact hl_len _ _)
  have HDU := hid (fun A l c W (hb : IsB W A l c zs) (ht : TabAt W) => dec_u gc gs gn gl gk A l c zs W q k xs D 10 hs hm hb ht h1 h2 h3 h4 (by rw [ho]; rfl))
  have HRU := hid (fun A l c W (hb : IsB W A l c zs) => rdec_u gc gs gn gl gk A l c zs W q k xs D false hs hb h1 h2 h3 h4 (by rw [ho]; rfl))
  have HHU := hid (fun A l c W (hb : IsB W A l c zs) (ht : TabAt W) => head_u gc gs gn gl gk A l c zs W q' k' ys s 10 hs hm hb ht k1 k2 k3 k4 (by rw [hh]; rfl))
  have HIU := hid (fun A l c W (hb : IsB W A l c zs) => rhead_u gc gs gn gl gk A l c zs W q' k' ys s false hs hb k1 k2 k3 k4 (by rw [hh]; rfl))
  clear h1 h2 h3 h4 k1 k2 k3 k4 ho hh
  clear hs hb hT hw1 hm hcb
  go_enter Tryd.func4, Tryd.ntmps4
  go_upto_region 1 with fail
  try rw [show w.alloc (Obj.cells #[.int .i64 gc, .int .i64 gs, .int .i64 gn, .int .i64 gl, .int .i64 gk] 23) = w1 from HW1.out]
  try rw [hG]
  have hown0 : OB w1.heap.size (w1.alloc (.cells #[] 5)) (.slice (some ⟨w1.heap.size, 0, none⟩) 0 0) [] := World.ownsRow_lit w1 #[] 0 (Nat.le_refl _) (by simp [maxLen]) rfl
  have HO := hid hown0
  have HA := hid (HB.out.1.fr (S := No) ((Fr.refl _ w1).alloc (.cells #[] 5)) (fun _ _ _ h => h))
  clear hown0
  go_upto_region 2 with (at_builtin; go_loud (refine app_bb rfl (.tmp 20) (.tmp 21) rfl w1.heap.size (.slice (some ⟨w1.heap.size, 0, none⟩) 0 0) [] rfl HO.out A l c zs rfl HA.out (by have := HLB.out; have := HB.out.2.1; simp; omega) (by simp) ?_; intro A5 c5 w5 own1 f1; have F1 := hid (show Fr No w1 w5 from ((Fr.refl No w1).alloc (.cells #[] 5)).step f1 (fun i hi h => by simp [Value.ownBlock] at h; omega)); try simp only [List.length_nil, Nat.zero_add, List.nil_append] at own1; have HOW := hid own1; clear f1 own1))
  try simp only [List.length_nil, Nat.zero_add]
  have HOB := hid (show IsB w5 A5 l c5 zs from ⟨OB.rd HLEN.out.symm HOW.out, by have := (OB.lim HOW.out).1; have := HLEN.out; omega, (OB.lim HOW.out).2, HB.out.2.2.2⟩)
  clear HO HA HOW
  replace FG := hid (FG.out.trans F1.out)
  replace P0 := hid (BG.fr P0.out F1.out)
  replace HB := hid (HB.out.fr F1.out)
  clear F1
  go_upto_region 3 with (first | ((with_reducible refine ld_geom rfl (.tmp 2) rfl G ?_ P0.out ?_); · rfl) | (go_at_call 14; refine (HDU.out A5 l c5 _ HOB.out (HT.out.fr FG.out (fun h => h))).mono ?_; rintro e' v1 ⟨A6, c6, D6, d6, rfl, hx6, hd6, f⟩; replace FG := hid (FG.out.trans f); replace P0 := hid (BG.fr P0.out f); replace HB := hid (HB.out.fr f); replace HOB := hid (HOB.out.fr f); have HX6 := hid hx6; have HD6 := hid hd6; clear hx6 hd6; dsimp only; clear f))
  obtain ⟨X, hX⟩ : ∃ zz, v1.heap.size = zz := ⟨_, rfl⟩
  obtain ⟨wX, hwX⟩ : ∃ zz, v1.alloc (.cells (bcs q k A6 xs.length c6) 26) = zz := ⟨_, rfl⟩
  have fX : Fr No v1 wX := by rw [← hwX]; exact fr1 _ _
  replace FG := hid (FG.out.trans fX); replace P0 := hid (BG.fr P0.out fX); replace HB := hid (HB.out.fr fX); replace HOB := hid (HOB.out.fr fX); replace HX6 := hid (HX6.out.fr fX); replace HD6 := hid (HD6.out.fr fX (fun _ _ _ h => h))
  have HX := hid (show BB wX X q k A6 xs.length c6 by rw [← hwX, ← hX]; exact BB.new _ _ _ _ _ _)
  try rw [show v1.alloc (Obj.cells #[.int .i64 q, .int .i64 k, .slice A6 xs.length c6] 26) = wX from hwX]
  try rw [hX]
  clear hwX hX fX
  go_upto_region 4 with (first | ((with_reducible refine ld_geom rfl (.tmp 2) rfl G ?_ P0.out ?_); · rfl) | (go_at_call 10; refine (rlay_yes gc gs gn gl gk _ HS.out HM.out).mono ?_; rintro e' v1 ⟨y1, y2, y3, y4, y5, y6, y7, y8, rfl, f⟩; replace FG := hid (FG.out.trans f); replace P0 := hid (BG.fr P0.out f); replace HB := hid (HB.out.fr f); replace HOB := hid (HOB.out.fr f); replace HX6 := hid (HX6.out.fr f); replace HD6 := hid (HD6.out.fr f (fun _ _ _ h => h)); replace HX := hid (BB.fr HX.out f); skip; clear f))
  obtain ⟨wL, hwL⟩ : ∃ q, v1.alloc (.cells #[.int .i64 y1, .int .i64 y2, .int .i64 y3, .int .i64 y4, .int .i64 y5, .int .i64 y6, .int .i64 y7, .int .i64 y8] 34) = q := ⟨_, rfl⟩
  have fL : Fr No v1 wL := by rw [← hwL]; exact fr1 _ _
  replace FG := hid (FG.out.trans fL); replace P0 := hid (BG.fr P0.out fL); replace HB := hid (HB.out.fr fL); replace HOB := hid (HOB.out.fr fL); replace HX6 := hid (HX6.out.fr fL); replace HD6 := hid (HD6.out.fr fL (fun _ _ _ h => h)); replace HX := hid (BB.fr HX.out fL)
  try rw [show v1.alloc (Obj.cells #[.int .i64 y1, .int .i64 y2, .int .i64 y3, .int .i64 y4, .int .i64 y5, .int .i64 y6, .int .i64 y7, .int .i64 y8] 34) = wL from hwL]
  clear hwL fL
  go_upto_region 7 with (first | ((with_reducible refine ld_geom rfl (.tmp 2) rfl G ?_ P0.out ?_); · rfl) | (go_at_call 19; refine (HRU.out A l c _ HB.out).mono ?_; rintro e' v1 ⟨A7, c7, D7, d7, rfl, hx7, hd7, f⟩; replace FG := hid (FG.out.trans f); replace P0 := hid (BG.fr P0.out f); replace HB := hid (HB.out.fr f); replace HOB := hid (HOB.out.fr f); replace HX6 := hid (HX6.out.fr f); replace HD6 := hid (HD6.out.fr f (fun _ _ _ h => h)); replace HX := hid (BB.fr HX.out f); have HX7 := hid hx7; have HD7 := hid hd7; clear hx7 hd7; dsimp only; clear f))
  obtain ⟨Y, hY⟩ : ∃ zz, v1.heap.size = zz := ⟨_, rfl⟩
  obtain ⟨wY, hwY⟩ : ∃ zz, v1.alloc (.cells (bcs q k A7 xs.length c7) 26) = zz := ⟨_, rfl⟩
  have fY : Fr No v1 wY := by rw [← hwY]; exact fr1 _ _
  replace FG := hid (FG.out.trans fY); replace P0 := hid (BG.fr P0.out fY); replace HB := hid (HB.out.fr fY); replace HOB := hid (HOB.out.fr fY); replace HX6 := hid (HX6.out.fr fY); replace HD6 := hid (HD6.out.fr fY (fun _ _ _ h => h)); replace HX := hid (BB.fr HX.out fY); replace HX7 := hid (HX7.out.fr fY); replace HD7 := hid (HD7.out.fr fY (fun _ _ _ h => h))
  have HY := hid (show BB wY Y q k A7 xs.length c7 by rw [← hwY, ← hY]; exact BB.new _ _ _ _ _ _)
  try rw [show v1.alloc (Obj.cells #[.int .i64 q, .int .i64 k, .slice A7 xs.length c7] 26) = wY from hwY]
  try rw [hY]
  clear hwY hY fY
  go_upto_region 8 with (first | ((with_reducible refine ld_geom rfl (.tmp 2) rfl G ?_ P0.out ?_); · rfl) | (go_at_call 16; refine (HHU.out A5 l c5 _ HOB.out (HT.out.fr FG.out (fun h => h))).mono ?_; rintro e' v1 ⟨A8, c8, rfl, hx8, _, _, f⟩; replace FG := hid (FG.out.trans f); replace P0 := hid (BG.fr P0.out f); replace HB := hid (HB.out.fr f); replace HOB := hid (HOB.out.fr f); replace HX6 := hid (HX6.out.fr f); replace HD6 := hid (HD6.out.fr f (fun _ _ _ h => h)); replace HX := hid (BB.fr HX.out f); replace HX7 := hid (HX7.out.fr f); replace HD7 := hid (HD7.out.fr f (fun _ _ _ h => h)); replace HY := hid (BB.fr HY.out f); have HX8 := hid hx8; clear hx8; dsimp only; clear f))
  obtain ⟨Z, hZ⟩ : ∃ zz, v1.heap.size = zz := ⟨_, rfl⟩
  obtain ⟨wZ, hwZ⟩ : ∃ zz, v1.alloc (.cells (bcs q' k' A8 ys.length c8) 26) = zz := ⟨_, rfl⟩
  have fZ : Fr No v1 wZ := by rw [← hwZ]; exact fr1 _ _
  replace FG := hid (FG.out.trans fZ); replace P0 := hid (BG.fr P0.out fZ); replace HB := hid (HB.out.fr fZ); replace HOB := hid (HOB.out.fr fZ); replace HX6 := hid (HX6.out.fr fZ); replace HD6 := hid (HD6.out.fr fZ (fun _ _ _ h => h)); replace HX := hid (BB.fr HX.out fZ); replace HX7 := hid (HX7.out.fr fZ); replace HD7 := hid (HD7.out.fr fZ (fun _ _ _ h => h)); replace HY := hid (BB.fr HY.out fZ); replace HX8 := hid (HX8.out.fr fZ)
  have HZ := hid (show BB wZ Z q' k' A8 ys.length c8 by rw [← hwZ, ← hZ]; exact BB.new _ _ _ _ _ _)
  try rw [show v1.alloc (Obj.cells #[.int .i64 q', .int .i64 k', .slice A8 ys.length c8] 26) = wZ from hwZ]
  try rw [hZ]
  clear hwZ hZ fZ
  go_upto_region 9 with (first | ((with_reducible refine ld_geom rfl (.tmp 2) rfl G ?_ P0.out ?_); · rfl) | (go_at_call 17; refine (HIU.out A l c _ HB.out).mono ?_; rintro e' v1 ⟨A9, c9, rfl, hx9, _, _, f⟩; replace FG := hid (FG.out.trans f); replace P0 := hid (BG.fr P0.out f); replace HB := hid (HB.out.fr f); replace HOB := hid (HOB.out.fr f); replace HX6 := hid (HX6.out.fr f); replace HD6 := hid (HD6.out.fr f (fun _ _ _ h => h)); replace HX := hid (BB.fr HX.out f); replace HX7 := hid (HX7.out.fr f); replace HD7 := hid (HD7.out.fr f (fun _ _ _ h => h)); replace HY := hid (BB.fr HY.out f); replace HX8 := hid (HX8.out.fr f); replace HZ := hid (BB.fr HZ.out f); have HX9 := hid hx9; clear hx9; dsimp only; clear f))
  obtain ⟨I, hI⟩ : ∃ zz, v1.heap.size = zz := ⟨_, rfl⟩
  obtain ⟨wI, hwI⟩ : ∃ zz, v1.alloc (.cells (bcs q' k' A9 ys.length c9) 26) = zz := ⟨_, rfl⟩
  have fI : Fr No v1 wI := by rw [← hwI]; exact fr1 _ _
  replace FG := hid (FG.out.trans fI); replace P0 := hid (BG.fr P0.out fI); replace HB := hid (HB.out.fr fI); replace HOB := hid (HOB.out.fr fI); replace HX6 := hid (HX6.out.fr fI); replace HD6 := hid (HD6.out.fr fI (fun _ _ _ h => h)); replace HX := hid (BB.fr HX.out fI); replace HX7 := hid (HX7.out.fr fI); replace HD7 := hid (HD7.out.fr fI (fun _ _ _ h => h)); replace HY := hid (BB.fr HY.out fI); replace HX8 := hid (HX8.out.fr fI); replace HZ := hid (BB.fr HZ.out fI); replace HX9 := hid (HX9.out.fr fI)
  have HI := hid (show BB wI I q' k' A9 ys.length c9 by rw [← hwI, ← hI]; exact BB.new _ _ _ _ _ _)
  try rw [show v1.alloc (Obj.cells #[.int .i64 q', .int .i64 k', .slice A9 ys.length c9] 26) = wI from hwI]
  try rw [hI]
  clear hwI hI fI
  go_wp2_with fail
  refine (lives_ok _ (HT.out.fr FG.out (fun h => h))).mono ?_
  rintro e' v2 ⟨rfl, f⟩
  replace FG := hid (FG.out.trans f); replace P0 := hid (BG.fr P0.out f); replace HB := hid (HB.out.fr f); replace HOB := hid (HOB.out.fr f); replace HX6 := hid (HX6.out.fr f); replace HD6 := hid (HD6.out.fr f (fun _ _ _ h => h)); replace HX := hid (BB.fr HX.out f); replace HX7 := hid (HX7.out.fr f); replace HD7 := hid (HD7.out.fr f (fun _ _ _ h => h)); replace HY := hid (BB.fr HY.out f); replace HX8 := hid (HX8.out.fr f); replace HZ := hid (BB.fr HZ.out f); replace HX9 := hid (HX9.out.fr f); replace HI := hid (BB.fr HI.out f); clear f
  obtain ⟨x0, x1, x2⟩ := BB.cells HX.out
  obtain ⟨z0, z1, z2⟩ := BB.cells HY.out
  go_wp2_with fail
  refine (BtC.brsame_ok q k A6 xs.length c6 xs q k A7 xs.length c7 xs true _ (by have := HXL.out; omega) (by have := HXL.out; omega) HX6.out HX7.out (by simp)).mono ?_
  rintro e' v3 ⟨rfl, f⟩
  replace FG := hid (FG.out.trans f); replace P0 := hid (BG.fr P0.out f); replace HB := hid (HB.out.fr f); replace HOB := hid (HOB.out.fr f); replace HX6 := hid (HX6.out.fr f); replace HD6 := hid (HD6.out.fr f (fun _ _ _ h => h)); replace HX := hid (BB.fr HX.out f); replace HX7 := hid (HX7.out.fr f); replace HD7 := hid (HD7.out.fr f (fun _ _ _ h => h)); replace HY := hid (BB.fr HY.out f); replace HX8 := hid (HX8.out.fr f); replace HZ := hid (BB.fr HZ.out f); replace HX9 := hid (HX9.out.fr f); replace HI := hid (BB.fr HI.out f); clear f x0 x1 x2 z0 z1 z2
  obtain ⟨x0, x1, x2⟩ := BB.cells HZ.out
  obtain ⟨z0, z1, z2⟩ := BB.cells HI.out
  have cv1 := run_str (P := Tryd.prog) v3 27 9 5 Tryd.underlying27 Tryd.underlying5 Tryd.underlying9 D6 D.length d6 D HD6.out
  have cv2 := run_str (P := Tryd.prog) v3 27 9 5 Tryd.underlying27 Tryd.underlying5 Tryd.underlying9 D7 D.length d7 D HD7.out
  go_wp2_with fail
  refine (BtC.brsame_ok q' k' A8 ys.length c8 ys q' k' A9 ys.length c9 ys true _ (by have := HYL.out; omega) (by have := HYL.out; omega) HX8.out HX9.out (by simp)).mono ?_
  rintro e' v4 ⟨rfl, f⟩
  replace FG := hid (FG.out.trans f); replace P0 := hid (BG.fr P0.out f); replace HB := hid (HB.out.fr f); replace HOB := hid (HOB.out.fr f); replace HX6 := hid (HX6.out.fr f); replace HD6 := hid (HD6.out.fr f (fun _ _ _ h => h)); replace HX := hid (BB.fr HX.out f); replace HX7 := hid (HX7.out.fr f); replace HD7 := hid (HD7.out.fr f (fun _ _ _ h => h)); replace HY := hid (BB.fr HY.out f); replace HX8 := hid (HX8.out.fr f); replace HZ := hid (BB.fr HZ.out f); replace HX9 := hid (HX9.out.fr f); replace HI := hid (BB.fr HI.out f); clear f x0 x1 x2 z0 z1 z2 cv1 cv2
  have cv3 := run_str (P := Tryd.prog) v4 27 9 5 Tryd.underlying27 Tryd.underlying5 Tryd.underlying9 A5 l c5 zs HOB.out.1
  have cv4 := run_str (P := Tryd.prog) v4 27 9 5 Tryd.underlying27 Tryd.underlying5 Tryd.underlying9 A l c zs HB.out.1
  go_wp2
  go_ret
  exact ⟨rfl, FG.out⟩

set_option maxRecDepth 100000 in
set_option maxHeartbeats 8000000 in
theorem reads_ns (gc gs gn gl gk : Int) (A : Option Addr) (l c : Nat) (zs : List Int) (w : World) (hs : r64 gs) (hcb : c ≤ 140737488351232) (hb : IsB w A l c zs) (hT : TabAt w) (hm : mayG ⟨gc, gs, gn, gl, gk⟩) (ho : beginG ⟨gc, gs, gn, gl, gk⟩ zs = none) {r2 : Ba × Int} (hh : headG ⟨gc, gs, gn, gl, gk⟩ zs = some r2) :
    Calls Tryd.prog 4 #[.agg #[.int .i64 gc, .int .i64 gs, .int .i64 gn, .int .i64 gl, .int .i64 gk], .slice A l c] w fun e w' => e = .returned (.bool true) ∧ Fr No w w' := by
  obtain ⟨G, hG⟩ : ∃ G, w.heap.size = G := ⟨_, rfl⟩
  obtain ⟨w1, hw1⟩ : ∃ w1, w.alloc (bg gc gs gn gl gk) = w1 := ⟨_, rfl⟩
  have FG := hid (show Fr No w w1 by rw [← hw1]; exact fr1 _ _)
  have P0 := hid (show BG w1 G gc gs gn gl gk by rw [← hw1, ← hG]; exact BG.new w gc gs gn gl gk)
  have HW1 := hid hw1
  have HLEN := hid (show zs.length = l by simpa using hb.1.1)
  have HB := hid (hb.fr FG.out)
  have HT := hid hT
  have HS := hid hs
  have HM := hid hm
  have HLB := hid hcb
  obtain ⟨q, h1⟩ : ∃ q, bq (beginG ⟨gc, gs, gn, gl, gk⟩ zs) = q := ⟨_, rfl⟩
  obtain ⟨k, h2⟩ : ∃ q, bk (beginG ⟨gc, gs, gn, gl, gk⟩ zs) = q := ⟨_, rfl⟩
  obtain ⟨xs, h3⟩ : ∃ q, bl (beginG ⟨gc, gs, gn, gl, gk⟩ zs) = q := ⟨_, rfl⟩
  obtain ⟨D, h4⟩ : ∃ q, bd (beginG ⟨gc, gs, gn, gl, gk⟩ zs) = q := ⟨_, rfl⟩
  obtain ⟨q', k1⟩ : ∃ q, hq (headG ⟨gc, gs, gn, gl, gk⟩ zs) = q := ⟨_, rfl⟩
  obtain ⟨k', k2⟩ : ∃ q, hk (headG ⟨gc, gs, gn, gl, gk⟩ zs) = q := ⟨_, rfl⟩
  obtain ⟨ys, k3⟩ : ∃ q, hl (headG ⟨gc, gs, gn, gl, gk⟩ zs) = q := ⟨_, rfl⟩
  obtain ⟨s, k4⟩ : ∃ q, hs_ (headG ⟨gc, gs, gn, gl, gk⟩ zs) = q := ⟨_, rfl⟩
  have HXL := hid (show xs.length ≤ 8 by rw [← h3]; exact bl_len _ _)
  have HYL := hid (show ys.length ≤ 8 by rw [← k3]; exact hl_len _ _)
  have HDU := hid (fun A l c W (hb : IsB W A l c zs) (ht : TabAt W) => dec_u gc gs gn gl gk A l c zs W q k xs D 10 hs hm hb ht h1 h2 h3 h4 (by rw [ho]; rfl))
  have HRU := hid (fun A l c W (hb : IsB W A l c zs) => rdec_u gc gs gn gl gk A l c zs W q k xs D false hs hb h1 h2 h3 h4 (by rw [ho]; rfl))
  have HHU := hid (fun A l c W (hb : IsB W A l c zs) (ht : TabAt W) => head_u gc gs gn gl gk A l c zs W q' k' ys s 0 hs hm hb ht k1 k2 k3 k4 (by rw [hh]; rfl))
  have HIU := hid (fun A l c W (hb : IsB W A l c zs) => rhead_u gc gs gn gl gk A l c zs W q' k' ys s true hs hb k1 k2 k3 k4 (by rw [hh]; rfl))
  clear h1 h2 h3 h4 k1 k2 k3 k4 ho hh
  clear hs hb hT hw1 hm hcb
  go_enter Tryd.func4, Tryd.ntmps4
  go_upto_region 1 with fail
  try rw [show w.alloc (Obj.cells #[.int .i64 gc, .int .i64 gs, .int .i64 gn, .int .i64 gl, .int .i64 gk] 23) = w1 from HW1.out]
  try rw [hG]
  have hown0 : OB w1.heap.size (w1.alloc (.cells #[] 5)) (.slice (some ⟨w1.heap.size, 0, none⟩) 0 0) [] := World.ownsRow_lit w1 #[] 0 (Nat.le_refl _) (by simp [maxLen]) rfl
  have HO := hid hown0
  have HA := hid (HB.out.1.fr (S := No) ((Fr.refl _ w1).alloc (.cells #[] 5)) (fun _ _ _ h => h))
  clear hown0
  go_upto_region 2 with (at_builtin; go_loud (refine app_bb rfl (.tmp 20) (.tmp 21) rfl w1.heap.size (.slice (some ⟨w1.heap.size, 0, none⟩) 0 0) [] rfl HO.out A l c zs rfl HA.out (by have := HLB.out; have := HB.out.2.1; simp; omega) (by simp) ?_; intro A5 c5 w5 own1 f1; have F1 := hid (show Fr No w1 w5 from ((Fr.refl No w1).alloc (.cells #[] 5)).step f1 (fun i hi h => by simp [Value.ownBlock] at h; omega)); try simp only [List.length_nil, Nat.zero_add, List.nil_append] at own1; have HOW := hid own1; clear f1 own1))
  try simp only [List.length_nil, Nat.zero_add]
  have HOB := hid (show IsB w5 A5 l c5 zs from ⟨OB.rd HLEN.out.symm HOW.out, by have := (OB.lim HOW.out).1; have := HLEN.out; omega, (OB.lim HOW.out).2, HB.out.2.2.2⟩)
  clear HO HA HOW
  replace FG := hid (FG.out.trans F1.out)
  replace P0 := hid (BG.fr P0.out F1.out)
  replace HB := hid (HB.out.fr F1.out)
  clear F1
  go_upto_region 3 with (first | ((with_reducible refine ld_geom rfl (.tmp 2) rfl G ?_ P0.out ?_); · rfl) | (go_at_call 14; refine (HDU.out A5 l c5 _ HOB.out (HT.out.fr FG.out (fun h => h))).mono ?_; rintro e' v1 ⟨A6, c6, D6, d6, rfl, hx6, hd6, f⟩; replace FG := hid (FG.out.trans f); replace P0 := hid (BG.fr P0.out f); replace HB := hid (HB.out.fr f); replace HOB := hid (HOB.out.fr f); have HX6 := hid hx6; have HD6 := hid hd6; clear hx6 hd6; dsimp only; clear f))
  obtain ⟨X, hX⟩ : ∃ zz, v1.heap.size = zz := ⟨_, rfl⟩
  obtain ⟨wX, hwX⟩ : ∃ zz, v1.alloc (.cells (bcs q k A6 xs.length c6) 26) = zz := ⟨_, rfl⟩
  have fX : Fr No v1 wX := by rw [← hwX]; exact fr1 _ _
  replace FG := hid (FG.out.trans fX); replace P0 := hid (BG.fr P0.out fX); replace HB := hid (HB.out.fr fX); replace HOB := hid (HOB.out.fr fX); replace HX6 := hid (HX6.out.fr fX); replace HD6 := hid (HD6.out.fr fX (fun _ _ _ h => h))
  have HX := hid (show BB wX X q k A6 xs.length c6 by rw [← hwX, ← hX]; exact BB.new _ _ _ _ _ _)
  try rw [show v1.alloc (Obj.cells #[.int .i64 q, .int .i64 k, .slice A6 xs.length c6] 26) = wX from hwX]
  try rw [hX]
  clear hwX hX fX
  go_upto_region 4 with (first | ((with_reducible refine ld_geom rfl (.tmp 2) rfl G ?_ P0.out ?_); · rfl) | (go_at_call 10; refine (rlay_yes gc gs gn gl gk _ HS.out HM.out).mono ?_; rintro e' v1 ⟨y1, y2, y3, y4, y5, y6, y7, y8, rfl, f⟩; replace FG := hid (FG.out.trans f); replace P0 := hid (BG.fr P0.out f); replace HB := hid (HB.out.fr f); replace HOB := hid (HOB.out.fr f); replace HX6 := hid (HX6.out.fr f); replace HD6 := hid (HD6.out.fr f (fun _ _ _ h => h)); replace HX := hid (BB.fr HX.out f); skip; clear f))
  obtain ⟨wL, hwL⟩ : ∃ q, v1.alloc (.cells #[.int .i64 y1, .int .i64 y2, .int .i64 y3, .int .i64 y4, .int .i64 y5, .int .i64 y6, .int .i64 y7, .int .i64 y8] 34) = q := ⟨_, rfl⟩
  have fL : Fr No v1 wL := by rw [← hwL]; exact fr1 _ _
  replace FG := hid (FG.out.trans fL); replace P0 := hid (BG.fr P0.out fL); replace HB := hid (HB.out.fr fL); replace HOB := hid (HOB.out.fr fL); replace HX6 := hid (HX6.out.fr fL); replace HD6 := hid (HD6.out.fr fL (fun _ _ _ h => h)); replace HX := hid (BB.fr HX.out fL)
  try rw [show v1.alloc (Obj.cells #[.int .i64 y1, .int .i64 y2, .int .i64 y3, .int .i64 y4, .int .i64 y5, .int .i64 y6, .int .i64 y7, .int .i64 y8] 34) = wL from hwL]
  clear hwL fL
  go_upto_region 7 with (first | ((with_reducible refine ld_geom rfl (.tmp 2) rfl G ?_ P0.out ?_); · rfl) | (go_at_call 19; refine (HRU.out A l c _ HB.out).mono ?_; rintro e' v1 ⟨A7, c7, D7, d7, rfl, hx7, hd7, f⟩; replace FG := hid (FG.out.trans f); replace P0 := hid (BG.fr P0.out f); replace HB := hid (HB.out.fr f); replace HOB := hid (HOB.out.fr f); replace HX6 := hid (HX6.out.fr f); replace HD6 := hid (HD6.out.fr f (fun _ _ _ h => h)); replace HX := hid (BB.fr HX.out f); have HX7 := hid hx7; have HD7 := hid hd7; clear hx7 hd7; dsimp only; clear f))
  obtain ⟨Y, hY⟩ : ∃ zz, v1.heap.size = zz := ⟨_, rfl⟩
  obtain ⟨wY, hwY⟩ : ∃ zz, v1.alloc (.cells (bcs q k A7 xs.length c7) 26) = zz := ⟨_, rfl⟩
  have fY : Fr No v1 wY := by rw [← hwY]; exact fr1 _ _
  replace FG := hid (FG.out.trans fY); replace P0 := hid (BG.fr P0.out fY); replace HB := hid (HB.out.fr fY); replace HOB := hid (HOB.out.fr fY); replace HX6 := hid (HX6.out.fr fY); replace HD6 := hid (HD6.out.fr fY (fun _ _ _ h => h)); replace HX := hid (BB.fr HX.out fY); replace HX7 := hid (HX7.out.fr fY); replace HD7 := hid (HD7.out.fr fY (fun _ _ _ h => h))
  have HY := hid (show BB wY Y q k A7 xs.length c7 by rw [← hwY, ← hY]; exact BB.new _ _ _ _ _ _)
  try rw [show v1.alloc (Obj.cells #[.int .i64 q, .int .i64 k, .slice A7 xs.length c7] 26) = wY from hwY]
  try rw [hY]
  clear hwY hY fY
  go_upto_region 8 with (first | ((with_reducible refine ld_geom rfl (.tmp 2) rfl G ?_ P0.out ?_); · rfl) | (go_at_call 16; refine (HHU.out A5 l c5 _ HOB.out (HT.out.fr FG.out (fun h => h))).mono ?_; rintro e' v1 ⟨A8, c8, rfl, hx8, _, _, f⟩; replace FG := hid (FG.out.trans f); replace P0 := hid (BG.fr P0.out f); replace HB := hid (HB.out.fr f); replace HOB := hid (HOB.out.fr f); replace HX6 := hid (HX6.out.fr f); replace HD6 := hid (HD6.out.fr f (fun _ _ _ h => h)); replace HX := hid (BB.fr HX.out f); replace HX7 := hid (HX7.out.fr f); replace HD7 := hid (HD7.out.fr f (fun _ _ _ h => h)); replace HY := hid (BB.fr HY.out f); have HX8 := hid hx8; clear hx8; dsimp only; clear f))
  obtain ⟨Z, hZ⟩ : ∃ zz, v1.heap.size = zz := ⟨_, rfl⟩
  obtain ⟨wZ, hwZ⟩ : ∃ zz, v1.alloc (.cells (bcs q' k' A8 ys.length c8) 26) = zz := ⟨_, rfl⟩
  have fZ : Fr No v1 wZ := by rw [← hwZ]; exact fr1 _ _
  replace FG := hid (FG.out.trans fZ); replace P0 := hid (BG.fr P0.out fZ); replace HB := hid (HB.out.fr fZ); replace HOB := hid (HOB.out.fr fZ); replace HX6 := hid (HX6.out.fr fZ); replace HD6 := hid (HD6.out.fr fZ (fun _ _ _ h => h)); replace HX := hid (BB.fr HX.out fZ); replace HX7 := hid (HX7.out.fr fZ); replace HD7 := hid (HD7.out.fr fZ (fun _ _ _ h => h)); replace HY := hid (BB.fr HY.out fZ); replace HX8 := hid (HX8.out.fr fZ)
  have HZ := hid (show BB wZ Z q' k' A8 ys.length c8 by rw [← hwZ, ← hZ]; exact BB.new _ _ _ _ _ _)
  try rw [show v1.alloc (Obj.cells #[.int .i64 q', .int .i64 k', .slice A8 ys.length c8] 26) = wZ from hwZ]
  try rw [hZ]
  clear hwZ hZ fZ
  go_upto_region 9 with (first | ((with_reducible refine ld_geom rfl (.tmp 2) rfl G ?_ P0.out ?_); · rfl) | (go_at_call 17; refine (HIU.out A l c _ HB.out).mono ?_; rintro e' v1 ⟨A9, c9, rfl, hx9, _, _, f⟩; replace FG := hid (FG.out.trans f); replace P0 := hid (BG.fr P0.out f); replace HB := hid (HB.out.fr f); replace HOB := hid (HOB.out.fr f); replace HX6 := hid (HX6.out.fr f); replace HD6 := hid (HD6.out.fr f (fun _ _ _ h => h)); replace HX := hid (BB.fr HX.out f); replace HX7 := hid (HX7.out.fr f); replace HD7 := hid (HD7.out.fr f (fun _ _ _ h => h)); replace HY := hid (BB.fr HY.out f); replace HX8 := hid (HX8.out.fr f); replace HZ := hid (BB.fr HZ.out f); have HX9 := hid hx9; clear hx9; dsimp only; clear f))
  obtain ⟨I, hI⟩ : ∃ zz, v1.heap.size = zz := ⟨_, rfl⟩
  obtain ⟨wI, hwI⟩ : ∃ zz, v1.alloc (.cells (bcs q' k' A9 ys.length c9) 26) = zz := ⟨_, rfl⟩
  have fI : Fr No v1 wI := by rw [← hwI]; exact fr1 _ _
  replace FG := hid (FG.out.trans fI); replace P0 := hid (BG.fr P0.out fI); replace HB := hid (HB.out.fr fI); replace HOB := hid (HOB.out.fr fI); replace HX6 := hid (HX6.out.fr fI); replace HD6 := hid (HD6.out.fr fI (fun _ _ _ h => h)); replace HX := hid (BB.fr HX.out fI); replace HX7 := hid (HX7.out.fr fI); replace HD7 := hid (HD7.out.fr fI (fun _ _ _ h => h)); replace HY := hid (BB.fr HY.out fI); replace HX8 := hid (HX8.out.fr fI); replace HZ := hid (BB.fr HZ.out fI); replace HX9 := hid (HX9.out.fr fI)
  have HI := hid (show BB wI I q' k' A9 ys.length c9 by rw [← hwI, ← hI]; exact BB.new _ _ _ _ _ _)
  try rw [show v1.alloc (Obj.cells #[.int .i64 q', .int .i64 k', .slice A9 ys.length c9] 26) = wI from hwI]
  try rw [hI]
  clear hwI hI fI
  go_wp2_with fail
  refine (lives_ok _ (HT.out.fr FG.out (fun h => h))).mono ?_
  rintro e' v2 ⟨rfl, f⟩
  replace FG := hid (FG.out.trans f); replace P0 := hid (BG.fr P0.out f); replace HB := hid (HB.out.fr f); replace HOB := hid (HOB.out.fr f); replace HX6 := hid (HX6.out.fr f); replace HD6 := hid (HD6.out.fr f (fun _ _ _ h => h)); replace HX := hid (BB.fr HX.out f); replace HX7 := hid (HX7.out.fr f); replace HD7 := hid (HD7.out.fr f (fun _ _ _ h => h)); replace HY := hid (BB.fr HY.out f); replace HX8 := hid (HX8.out.fr f); replace HZ := hid (BB.fr HZ.out f); replace HX9 := hid (HX9.out.fr f); replace HI := hid (BB.fr HI.out f); clear f
  obtain ⟨x0, x1, x2⟩ := BB.cells HX.out
  obtain ⟨z0, z1, z2⟩ := BB.cells HY.out
  go_wp2_with fail
  refine (BtC.brsame_ok q k A6 xs.length c6 xs q k A7 xs.length c7 xs true _ (by have := HXL.out; omega) (by have := HXL.out; omega) HX6.out HX7.out (by simp)).mono ?_
  rintro e' v3 ⟨rfl, f⟩
  replace FG := hid (FG.out.trans f); replace P0 := hid (BG.fr P0.out f); replace HB := hid (HB.out.fr f); replace HOB := hid (HOB.out.fr f); replace HX6 := hid (HX6.out.fr f); replace HD6 := hid (HD6.out.fr f (fun _ _ _ h => h)); replace HX := hid (BB.fr HX.out f); replace HX7 := hid (HX7.out.fr f); replace HD7 := hid (HD7.out.fr f (fun _ _ _ h => h)); replace HY := hid (BB.fr HY.out f); replace HX8 := hid (HX8.out.fr f); replace HZ := hid (BB.fr HZ.out f); replace HX9 := hid (HX9.out.fr f); replace HI := hid (BB.fr HI.out f); clear f x0 x1 x2 z0 z1 z2
  obtain ⟨x0, x1, x2⟩ := BB.cells HZ.out
  obtain ⟨z0, z1, z2⟩ := BB.cells HI.out
  have cv1 := run_str (P := Tryd.prog) v3 27 9 5 Tryd.underlying27 Tryd.underlying5 Tryd.underlying9 D6 D.length d6 D HD6.out
  have cv2 := run_str (P := Tryd.prog) v3 27 9 5 Tryd.underlying27 Tryd.underlying5 Tryd.underlying9 D7 D.length d7 D HD7.out
  go_wp2_with fail
  refine (BtC.brsame_ok q' k' A8 ys.length c8 ys q' k' A9 ys.length c9 ys true _ (by have := HYL.out; omega) (by have := HYL.out; omega) HX8.out HX9.out (by simp)).mono ?_
  rintro e' v4 ⟨rfl, f⟩
  replace FG := hid (FG.out.trans f); replace P0 := hid (BG.fr P0.out f); replace HB := hid (HB.out.fr f); replace HOB := hid (HOB.out.fr f); replace HX6 := hid (HX6.out.fr f); replace HD6 := hid (HD6.out.fr f (fun _ _ _ h => h)); replace HX := hid (BB.fr HX.out f); replace HX7 := hid (HX7.out.fr f); replace HD7 := hid (HD7.out.fr f (fun _ _ _ h => h)); replace HY := hid (BB.fr HY.out f); replace HX8 := hid (HX8.out.fr f); replace HZ := hid (BB.fr HZ.out f); replace HX9 := hid (HX9.out.fr f); replace HI := hid (BB.fr HI.out f); clear f x0 x1 x2 z0 z1 z2 cv1 cv2
  have cv3 := run_str (P := Tryd.prog) v4 27 9 5 Tryd.underlying27 Tryd.underlying5 Tryd.underlying9 A5 l c5 zs HOB.out.1
  have cv4 := run_str (P := Tryd.prog) v4 27 9 5 Tryd.underlying27 Tryd.underlying5 Tryd.underlying9 A l c zs HB.out.1
  go_wp2
  go_ret
  exact ⟨rfl, FG.out⟩

set_option maxRecDepth 100000 in
set_option maxHeartbeats 8000000 in
theorem reads_sn (gc gs gn gl gk : Int) (A : Option Addr) (l c : Nat) (zs : List Int) (w : World) (hs : r64 gs) (hcb : c ≤ 140737488351232) (hb : IsB w A l c zs) (hT : TabAt w) (hm : mayG ⟨gc, gs, gn, gl, gk⟩) {r : Ba × List Int} (ho : beginG ⟨gc, gs, gn, gl, gk⟩ zs = some r) (hh : headG ⟨gc, gs, gn, gl, gk⟩ zs = none) :
    Calls Tryd.prog 4 #[.agg #[.int .i64 gc, .int .i64 gs, .int .i64 gn, .int .i64 gl, .int .i64 gk], .slice A l c] w fun e w' => e = .returned (.bool true) ∧ Fr No w w' := by
  obtain ⟨G, hG⟩ : ∃ G, w.heap.size = G := ⟨_, rfl⟩
  obtain ⟨w1, hw1⟩ : ∃ w1, w.alloc (bg gc gs gn gl gk) = w1 := ⟨_, rfl⟩
  have FG := hid (show Fr No w w1 by rw [← hw1]; exact fr1 _ _)
  have P0 := hid (show BG w1 G gc gs gn gl gk by rw [← hw1, ← hG]; exact BG.new w gc gs gn gl gk)
  have HW1 := hid hw1
  have HLEN := hid (show zs.length = l by simpa using hb.1.1)
  have HB := hid (hb.fr FG.out)
  have HT := hid hT
  have HS := hid hs
  have HM := hid hm
  have HLB := hid hcb
  obtain ⟨q, h1⟩ : ∃ q, bq (beginG ⟨gc, gs, gn, gl, gk⟩ zs) = q := ⟨_, rfl⟩
  obtain ⟨k, h2⟩ : ∃ q, bk (beginG ⟨gc, gs, gn, gl, gk⟩ zs) = q := ⟨_, rfl⟩
  obtain ⟨xs, h3⟩ : ∃ q, bl (beginG ⟨gc, gs, gn, gl, gk⟩ zs) = q := ⟨_, rfl⟩
  obtain ⟨D, h4⟩ : ∃ q, bd (beginG ⟨gc, gs, gn, gl, gk⟩ zs) = q := ⟨_, rfl⟩
  obtain ⟨q', k1⟩ : ∃ q, hq (headG ⟨gc, gs, gn, gl, gk⟩ zs) = q := ⟨_, rfl⟩
  obtain ⟨k', k2⟩ : ∃ q, hk (headG ⟨gc, gs, gn, gl, gk⟩ zs) = q := ⟨_, rfl⟩
  obtain ⟨ys, k3⟩ : ∃ q, hl (headG ⟨gc, gs, gn, gl, gk⟩ zs) = q := ⟨_, rfl⟩
  obtain ⟨s, k4⟩ : ∃ q, hs_ (headG ⟨gc, gs, gn, gl, gk⟩ zs) = q := ⟨_, rfl⟩
  have HXL := hid (show xs.length ≤ 8 by rw [← h3]; exact bl_len _ _)
  have HYL := hid (show ys.length ≤ 8 by rw [← k3]; exact hl_len _ _)
  have HDU := hid (fun A l c W (hb : IsB W A l c zs) (ht : TabAt W) => dec_u gc gs gn gl gk A l c zs W q k xs D 0 hs hm hb ht h1 h2 h3 h4 (by rw [ho]; rfl))
  have HRU := hid (fun A l c W (hb : IsB W A l c zs) => rdec_u gc gs gn gl gk A l c zs W q k xs D true hs hb h1 h2 h3 h4 (by rw [ho]; rfl))
  have HHU := hid (fun A l c W (hb : IsB W A l c zs) (ht : TabAt W) => head_u gc gs gn gl gk A l c zs W q' k' ys s 10 hs hm hb ht k1 k2 k3 k4 (by rw [hh]; rfl))
  have HIU := hid (fun A l c W (hb : IsB W A l c zs) => rhead_u gc gs gn gl gk A l c zs W q' k' ys s false hs hb k1 k2 k3 k4 (by rw [hh]; rfl))
  clear h1 h2 h3 h4 k1 k2 k3 k4 ho hh
  clear hs hb hT hw1 hm hcb
  go_enter Tryd.func4, Tryd.ntmps4
  go_upto_region 1 with fail
  try rw [show w.alloc (Obj.cells #[.int .i64 gc, .int .i64 gs, .int .i64 gn, .int .i64 gl, .int .i64 gk] 23) = w1 from HW1.out]
  try rw [hG]
  have hown0 : OB w1.heap.size (w1.alloc (.cells #[] 5)) (.slice (some ⟨w1.heap.size, 0, none⟩) 0 0) [] := World.ownsRow_lit w1 #[] 0 (Nat.le_refl _) (by simp [maxLen]) rfl
  have HO := hid hown0
  have HA := hid (HB.out.1.fr (S := No) ((Fr.refl _ w1).alloc (.cells #[] 5)) (fun _ _ _ h => h))
  clear hown0
  go_upto_region 2 with (at_builtin; go_loud (refine app_bb rfl (.tmp 20) (.tmp 21) rfl w1.heap.size (.slice (some ⟨w1.heap.size, 0, none⟩) 0 0) [] rfl HO.out A l c zs rfl HA.out (by have := HLB.out; have := HB.out.2.1; simp; omega) (by simp) ?_; intro A5 c5 w5 own1 f1; have F1 := hid (show Fr No w1 w5 from ((Fr.refl No w1).alloc (.cells #[] 5)).step f1 (fun i hi h => by simp [Value.ownBlock] at h; omega)); try simp only [List.length_nil, Nat.zero_add, List.nil_append] at own1; have HOW := hid own1; clear f1 own1))
  try simp only [List.length_nil, Nat.zero_add]
  have HOB := hid (show IsB w5 A5 l c5 zs from ⟨OB.rd HLEN.out.symm HOW.out, by have := (OB.lim HOW.out).1; have := HLEN.out; omega, (OB.lim HOW.out).2, HB.out.2.2.2⟩)
  clear HO HA HOW
  replace FG := hid (FG.out.trans F1.out)
  replace P0 := hid (BG.fr P0.out F1.out)
  replace HB := hid (HB.out.fr F1.out)
  clear F1
  go_upto_region 3 with (first | ((with_reducible refine ld_geom rfl (.tmp 2) rfl G ?_ P0.out ?_); · rfl) | (go_at_call 14; refine (HDU.out A5 l c5 _ HOB.out (HT.out.fr FG.out (fun h => h))).mono ?_; rintro e' v1 ⟨A6, c6, D6, d6, rfl, hx6, hd6, f⟩; replace FG := hid (FG.out.trans f); replace P0 := hid (BG.fr P0.out f); replace HB := hid (HB.out.fr f); replace HOB := hid (HOB.out.fr f); have HX6 := hid hx6; have HD6 := hid hd6; clear hx6 hd6; dsimp only; clear f))
  obtain ⟨X, hX⟩ : ∃ zz, v1.heap.size = zz := ⟨_, rfl⟩
  obtain ⟨wX, hwX⟩ : ∃ zz, v1.alloc (.cells (bcs q k A6 xs.length c6) 26) = zz := ⟨_, rfl⟩
  have fX : Fr No v1 wX := by rw [← hwX]; exact fr1 _ _
  replace FG := hid (FG.out.trans fX); replace P0 := hid (BG.fr P0.out fX); replace HB := hid (HB.out.fr fX); replace HOB := hid (HOB.out.fr fX); replace HX6 := hid (HX6.out.fr fX); replace HD6 := hid (HD6.out.fr fX (fun _ _ _ h => h))
  have HX := hid (show BB wX X q k A6 xs.length c6 by rw [← hwX, ← hX]; exact BB.new _ _ _ _ _ _)
  try rw [show v1.alloc (Obj.cells #[.int .i64 q, .int .i64 k, .slice A6 xs.length c6] 26) = wX from hwX]
  try rw [hX]
  clear hwX hX fX
  go_upto_region 4 with (first | ((with_reducible refine ld_geom rfl (.tmp 2) rfl G ?_ P0.out ?_); · rfl) | (go_at_call 10; refine (rlay_yes gc gs gn gl gk _ HS.out HM.out).mono ?_; rintro e' v1 ⟨y1, y2, y3, y4, y5, y6, y7, y8, rfl, f⟩; replace FG := hid (FG.out.trans f); replace P0 := hid (BG.fr P0.out f); replace HB := hid (HB.out.fr f); replace HOB := hid (HOB.out.fr f); replace HX6 := hid (HX6.out.fr f); replace HD6 := hid (HD6.out.fr f (fun _ _ _ h => h)); replace HX := hid (BB.fr HX.out f); skip; clear f))
  obtain ⟨wL, hwL⟩ : ∃ q, v1.alloc (.cells #[.int .i64 y1, .int .i64 y2, .int .i64 y3, .int .i64 y4, .int .i64 y5, .int .i64 y6, .int .i64 y7, .int .i64 y8] 34) = q := ⟨_, rfl⟩
  have fL : Fr No v1 wL := by rw [← hwL]; exact fr1 _ _
  replace FG := hid (FG.out.trans fL); replace P0 := hid (BG.fr P0.out fL); replace HB := hid (HB.out.fr fL); replace HOB := hid (HOB.out.fr fL); replace HX6 := hid (HX6.out.fr fL); replace HD6 := hid (HD6.out.fr fL (fun _ _ _ h => h)); replace HX := hid (BB.fr HX.out fL)
  try rw [show v1.alloc (Obj.cells #[.int .i64 y1, .int .i64 y2, .int .i64 y3, .int .i64 y4, .int .i64 y5, .int .i64 y6, .int .i64 y7, .int .i64 y8] 34) = wL from hwL]
  clear hwL fL
  go_upto_region 7 with (first | ((with_reducible refine ld_geom rfl (.tmp 2) rfl G ?_ P0.out ?_); · rfl) | (go_at_call 19; refine (HRU.out A l c _ HB.out).mono ?_; rintro e' v1 ⟨A7, c7, D7, d7, rfl, hx7, hd7, f⟩; replace FG := hid (FG.out.trans f); replace P0 := hid (BG.fr P0.out f); replace HB := hid (HB.out.fr f); replace HOB := hid (HOB.out.fr f); replace HX6 := hid (HX6.out.fr f); replace HD6 := hid (HD6.out.fr f (fun _ _ _ h => h)); replace HX := hid (BB.fr HX.out f); have HX7 := hid hx7; have HD7 := hid hd7; clear hx7 hd7; dsimp only; clear f))
  obtain ⟨Y, hY⟩ : ∃ zz, v1.heap.size = zz := ⟨_, rfl⟩
  obtain ⟨wY, hwY⟩ : ∃ zz, v1.alloc (.cells (bcs q k A7 xs.length c7) 26) = zz := ⟨_, rfl⟩
  have fY : Fr No v1 wY := by rw [← hwY]; exact fr1 _ _
  replace FG := hid (FG.out.trans fY); replace P0 := hid (BG.fr P0.out fY); replace HB := hid (HB.out.fr fY); replace HOB := hid (HOB.out.fr fY); replace HX6 := hid (HX6.out.fr fY); replace HD6 := hid (HD6.out.fr fY (fun _ _ _ h => h)); replace HX := hid (BB.fr HX.out fY); replace HX7 := hid (HX7.out.fr fY); replace HD7 := hid (HD7.out.fr fY (fun _ _ _ h => h))
  have HY := hid (show BB wY Y q k A7 xs.length c7 by rw [← hwY, ← hY]; exact BB.new _ _ _ _ _ _)
  try rw [show v1.alloc (Obj.cells #[.int .i64 q, .int .i64 k, .slice A7 xs.length c7] 26) = wY from hwY]
  try rw [hY]
  clear hwY hY fY
  go_upto_region 8 with (first | ((with_reducible refine ld_geom rfl (.tmp 2) rfl G ?_ P0.out ?_); · rfl) | (go_at_call 16; refine (HHU.out A5 l c5 _ HOB.out (HT.out.fr FG.out (fun h => h))).mono ?_; rintro e' v1 ⟨A8, c8, rfl, hx8, _, _, f⟩; replace FG := hid (FG.out.trans f); replace P0 := hid (BG.fr P0.out f); replace HB := hid (HB.out.fr f); replace HOB := hid (HOB.out.fr f); replace HX6 := hid (HX6.out.fr f); replace HD6 := hid (HD6.out.fr f (fun _ _ _ h => h)); replace HX := hid (BB.fr HX.out f); replace HX7 := hid (HX7.out.fr f); replace HD7 := hid (HD7.out.fr f (fun _ _ _ h => h)); replace HY := hid (BB.fr HY.out f); have HX8 := hid hx8; clear hx8; dsimp only; clear f))
  obtain ⟨Z, hZ⟩ : ∃ zz, v1.heap.size = zz := ⟨_, rfl⟩
  obtain ⟨wZ, hwZ⟩ : ∃ zz, v1.alloc (.cells (bcs q' k' A8 ys.length c8) 26) = zz := ⟨_, rfl⟩
  have fZ : Fr No v1 wZ := by rw [← hwZ]; exact fr1 _ _
  replace FG := hid (FG.out.trans fZ); replace P0 := hid (BG.fr P0.out fZ); replace HB := hid (HB.out.fr fZ); replace HOB := hid (HOB.out.fr fZ); replace HX6 := hid (HX6.out.fr fZ); replace HD6 := hid (HD6.out.fr fZ (fun _ _ _ h => h)); replace HX := hid (BB.fr HX.out fZ); replace HX7 := hid (HX7.out.fr fZ); replace HD7 := hid (HD7.out.fr fZ (fun _ _ _ h => h)); replace HY := hid (BB.fr HY.out fZ); replace HX8 := hid (HX8.out.fr fZ)
  have HZ := hid (show BB wZ Z q' k' A8 ys.length c8 by rw [← hwZ, ← hZ]; exact BB.new _ _ _ _ _ _)
  try rw [show v1.alloc (Obj.cells #[.int .i64 q', .int .i64 k', .slice A8 ys.length c8] 26) = wZ from hwZ]
  try rw [hZ]
  clear hwZ hZ fZ
  go_upto_region 9 with (first | ((with_reducible refine ld_geom rfl (.tmp 2) rfl G ?_ P0.out ?_); · rfl) | (go_at_call 17; refine (HIU.out A l c _ HB.out).mono ?_; rintro e' v1 ⟨A9, c9, rfl, hx9, _, _, f⟩; replace FG := hid (FG.out.trans f); replace P0 := hid (BG.fr P0.out f); replace HB := hid (HB.out.fr f); replace HOB := hid (HOB.out.fr f); replace HX6 := hid (HX6.out.fr f); replace HD6 := hid (HD6.out.fr f (fun _ _ _ h => h)); replace HX := hid (BB.fr HX.out f); replace HX7 := hid (HX7.out.fr f); replace HD7 := hid (HD7.out.fr f (fun _ _ _ h => h)); replace HY := hid (BB.fr HY.out f); replace HX8 := hid (HX8.out.fr f); replace HZ := hid (BB.fr HZ.out f); have HX9 := hid hx9; clear hx9; dsimp only; clear f))
  obtain ⟨I, hI⟩ : ∃ zz, v1.heap.size = zz := ⟨_, rfl⟩
  obtain ⟨wI, hwI⟩ : ∃ zz, v1.alloc (.cells (bcs q' k' A9 ys.length c9) 26) = zz := ⟨_, rfl⟩
  have fI : Fr No v1 wI := by rw [← hwI]; exact fr1 _ _
  replace FG := hid (FG.out.trans fI); replace P0 := hid (BG.fr P0.out fI); replace HB := hid (HB.out.fr fI); replace HOB := hid (HOB.out.fr fI); replace HX6 := hid (HX6.out.fr fI); replace HD6 := hid (HD6.out.fr fI (fun _ _ _ h => h)); replace HX := hid (BB.fr HX.out fI); replace HX7 := hid (HX7.out.fr fI); replace HD7 := hid (HD7.out.fr fI (fun _ _ _ h => h)); replace HY := hid (BB.fr HY.out fI); replace HX8 := hid (HX8.out.fr fI); replace HZ := hid (BB.fr HZ.out fI); replace HX9 := hid (HX9.out.fr fI)
  have HI := hid (show BB wI I q' k' A9 ys.length c9 by rw [← hwI, ← hI]; exact BB.new _ _ _ _ _ _)
  try rw [show v1.alloc (Obj.cells #[.int .i64 q', .int .i64 k', .slice A9 ys.length c9] 26) = wI from hwI]
  try rw [hI]
  clear hwI hI fI
  go_wp2_with fail
  refine (lives_ok _ (HT.out.fr FG.out (fun h => h))).mono ?_
  rintro e' v2 ⟨rfl, f⟩
  replace FG := hid (FG.out.trans f); replace P0 := hid (BG.fr P0.out f); replace HB := hid (HB.out.fr f); replace HOB := hid (HOB.out.fr f); replace HX6 := hid (HX6.out.fr f); replace HD6 := hid (HD6.out.fr f (fun _ _ _ h => h)); replace HX := hid (BB.fr HX.out f); replace HX7 := hid (HX7.out.fr f); replace HD7 := hid (HD7.out.fr f (fun _ _ _ h => h)); replace HY := hid (BB.fr HY.out f); replace HX8 := hid (HX8.out.fr f); replace HZ := hid (BB.fr HZ.out f); replace HX9 := hid (HX9.out.fr f); replace HI := hid (BB.fr HI.out f); clear f
  obtain ⟨x0, x1, x2⟩ := BB.cells HX.out
  obtain ⟨z0, z1, z2⟩ := BB.cells HY.out
  go_wp2_with fail
  refine (BtC.brsame_ok q k A6 xs.length c6 xs q k A7 xs.length c7 xs true _ (by have := HXL.out; omega) (by have := HXL.out; omega) HX6.out HX7.out (by simp)).mono ?_
  rintro e' v3 ⟨rfl, f⟩
  replace FG := hid (FG.out.trans f); replace P0 := hid (BG.fr P0.out f); replace HB := hid (HB.out.fr f); replace HOB := hid (HOB.out.fr f); replace HX6 := hid (HX6.out.fr f); replace HD6 := hid (HD6.out.fr f (fun _ _ _ h => h)); replace HX := hid (BB.fr HX.out f); replace HX7 := hid (HX7.out.fr f); replace HD7 := hid (HD7.out.fr f (fun _ _ _ h => h)); replace HY := hid (BB.fr HY.out f); replace HX8 := hid (HX8.out.fr f); replace HZ := hid (BB.fr HZ.out f); replace HX9 := hid (HX9.out.fr f); replace HI := hid (BB.fr HI.out f); clear f x0 x1 x2 z0 z1 z2
  obtain ⟨x0, x1, x2⟩ := BB.cells HZ.out
  obtain ⟨z0, z1, z2⟩ := BB.cells HI.out
  have cv1 := run_str (P := Tryd.prog) v3 27 9 5 Tryd.underlying27 Tryd.underlying5 Tryd.underlying9 D6 D.length d6 D HD6.out
  have cv2 := run_str (P := Tryd.prog) v3 27 9 5 Tryd.underlying27 Tryd.underlying5 Tryd.underlying9 D7 D.length d7 D HD7.out
  go_wp2_with fail
  refine (BtC.brsame_ok q' k' A8 ys.length c8 ys q' k' A9 ys.length c9 ys true _ (by have := HYL.out; omega) (by have := HYL.out; omega) HX8.out HX9.out (by simp)).mono ?_
  rintro e' v4 ⟨rfl, f⟩
  replace FG := hid (FG.out.trans f); replace P0 := hid (BG.fr P0.out f); replace HB := hid (HB.out.fr f); replace HOB := hid (HOB.out.fr f); replace HX6 := hid (HX6.out.fr f); replace HD6 := hid (HD6.out.fr f (fun _ _ _ h => h)); replace HX := hid (BB.fr HX.out f); replace HX7 := hid (HX7.out.fr f); replace HD7 := hid (HD7.out.fr f (fun _ _ _ h => h)); replace HY := hid (BB.fr HY.out f); replace HX8 := hid (HX8.out.fr f); replace HZ := hid (BB.fr HZ.out f); replace HX9 := hid (HX9.out.fr f); replace HI := hid (BB.fr HI.out f); clear f x0 x1 x2 z0 z1 z2 cv1 cv2
  have cv3 := run_str (P := Tryd.prog) v4 27 9 5 Tryd.underlying27 Tryd.underlying5 Tryd.underlying9 A5 l c5 zs HOB.out.1
  have cv4 := run_str (P := Tryd.prog) v4 27 9 5 Tryd.underlying27 Tryd.underlying5 Tryd.underlying9 A l c zs HB.out.1
  go_wp2
  go_ret
  exact ⟨rfl, FG.out⟩

set_option maxRecDepth 100000 in
set_option maxHeartbeats 8000000 in
theorem reads_ss (gc gs gn gl gk : Int) (A : Option Addr) (l c : Nat) (zs : List Int) (w : World) (hs : r64 gs) (hcb : c ≤ 140737488351232) (hb : IsB w A l c zs) (hT : TabAt w) (hm : mayG ⟨gc, gs, gn, gl, gk⟩) {r : Ba × List Int} (ho : beginG ⟨gc, gs, gn, gl, gk⟩ zs = some r) {r2 : Ba × Int} (hh : headG ⟨gc, gs, gn, gl, gk⟩ zs = some r2) :
    Calls Tryd.prog 4 #[.agg #[.int .i64 gc, .int .i64 gs, .int .i64 gn, .int .i64 gl, .int .i64 gk], .slice A l c] w fun e w' => e = .returned (.bool true) ∧ Fr No w w' := by
  obtain ⟨G, hG⟩ : ∃ G, w.heap.size = G := ⟨_, rfl⟩
  obtain ⟨w1, hw1⟩ : ∃ w1, w.alloc (bg gc gs gn gl gk) = w1 := ⟨_, rfl⟩
  have FG := hid (show Fr No w w1 by rw [← hw1]; exact fr1 _ _)
  have P0 := hid (show BG w1 G gc gs gn gl gk by rw [← hw1, ← hG]; exact BG.new w gc gs gn gl gk)
  have HW1 := hid hw1
  have HLEN := hid (show zs.length = l by simpa using hb.1.1)
  have HB := hid (hb.fr FG.out)
  have HT := hid hT
  have HS := hid hs
  have HM := hid hm
  have HLB := hid hcb
  obtain ⟨q, h1⟩ : ∃ q, bq (beginG ⟨gc, gs, gn, gl, gk⟩ zs) = q := ⟨_, rfl⟩
  obtain ⟨k, h2⟩ : ∃ q, bk (beginG ⟨gc, gs, gn, gl, gk⟩ zs) = q := ⟨_, rfl⟩
  obtain ⟨xs, h3⟩ : ∃ q, bl (beginG ⟨gc, gs, gn, gl, gk⟩ zs) = q := ⟨_, rfl⟩
  obtain ⟨D, h4⟩ : ∃ q, bd (beginG ⟨gc, gs, gn, gl, gk⟩ zs) = q := ⟨_, rfl⟩
  obtain ⟨q', k1⟩ : ∃ q, hq (headG ⟨gc, gs, gn, gl, gk⟩ zs) = q := ⟨_, rfl⟩
  obtain ⟨k', k2⟩ : ∃ q, hk (headG ⟨gc, gs, gn, gl, gk⟩ zs) = q := ⟨_, rfl⟩
  obtain ⟨ys, k3⟩ : ∃ q, hl (headG ⟨gc, gs, gn, gl, gk⟩ zs) = q := ⟨_, rfl⟩
  obtain ⟨s, k4⟩ : ∃ q, hs_ (headG ⟨gc, gs, gn, gl, gk⟩ zs) = q := ⟨_, rfl⟩
  have HXL := hid (show xs.length ≤ 8 by rw [← h3]; exact bl_len _ _)
  have HYL := hid (show ys.length ≤ 8 by rw [← k3]; exact hl_len _ _)
  have HDU := hid (fun A l c W (hb : IsB W A l c zs) (ht : TabAt W) => dec_u gc gs gn gl gk A l c zs W q k xs D 0 hs hm hb ht h1 h2 h3 h4 (by rw [ho]; rfl))
  have HRU := hid (fun A l c W (hb : IsB W A l c zs) => rdec_u gc gs gn gl gk A l c zs W q k xs D true hs hb h1 h2 h3 h4 (by rw [ho]; rfl))
  have HHU := hid (fun A l c W (hb : IsB W A l c zs) (ht : TabAt W) => head_u gc gs gn gl gk A l c zs W q' k' ys s 0 hs hm hb ht k1 k2 k3 k4 (by rw [hh]; rfl))
  have HIU := hid (fun A l c W (hb : IsB W A l c zs) => rhead_u gc gs gn gl gk A l c zs W q' k' ys s true hs hb k1 k2 k3 k4 (by rw [hh]; rfl))
  clear h1 h2 h3 h4 k1 k2 k3 k4 ho hh
  clear hs hb hT hw1 hm hcb
  go_enter Tryd.func4, Tryd.ntmps4
  go_upto_region 1 with fail
  try rw [show w.alloc (Obj.cells #[.int .i64 gc, .int .i64 gs, .int .i64 gn, .int .i64 gl, .int .i64 gk] 23) = w1 from HW1.out]
  try rw [hG]
  have hown0 : OB w1.heap.size (w1.alloc (.cells #[] 5)) (.slice (some ⟨w1.heap.size, 0, none⟩) 0 0) [] := World.ownsRow_lit w1 #[] 0 (Nat.le_refl _) (by simp [maxLen]) rfl
  have HO := hid hown0
  have HA := hid (HB.out.1.fr (S := No) ((Fr.refl _ w1).alloc (.cells #[] 5)) (fun _ _ _ h => h))
  clear hown0
  go_upto_region 2 with (at_builtin; go_loud (refine app_bb rfl (.tmp 20) (.tmp 21) rfl w1.heap.size (.slice (some ⟨w1.heap.size, 0, none⟩) 0 0) [] rfl HO.out A l c zs rfl HA.out (by have := HLB.out; have := HB.out.2.1; simp; omega) (by simp) ?_; intro A5 c5 w5 own1 f1; have F1 := hid (show Fr No w1 w5 from ((Fr.refl No w1).alloc (.cells #[] 5)).step f1 (fun i hi h => by simp [Value.ownBlock] at h; omega)); try simp only [List.length_nil, Nat.zero_add, List.nil_append] at own1; have HOW := hid own1; clear f1 own1))
  try simp only [List.length_nil, Nat.zero_add]
  have HOB := hid (show IsB w5 A5 l c5 zs from ⟨OB.rd HLEN.out.symm HOW.out, by have := (OB.lim HOW.out).1; have := HLEN.out; omega, (OB.lim HOW.out).2, HB.out.2.2.2⟩)
  clear HO HA HOW
  replace FG := hid (FG.out.trans F1.out)
  replace P0 := hid (BG.fr P0.out F1.out)
  replace HB := hid (HB.out.fr F1.out)
  clear F1
  go_upto_region 3 with (first | ((with_reducible refine ld_geom rfl (.tmp 2) rfl G ?_ P0.out ?_); · rfl) | (go_at_call 14; refine (HDU.out A5 l c5 _ HOB.out (HT.out.fr FG.out (fun h => h))).mono ?_; rintro e' v1 ⟨A6, c6, D6, d6, rfl, hx6, hd6, f⟩; replace FG := hid (FG.out.trans f); replace P0 := hid (BG.fr P0.out f); replace HB := hid (HB.out.fr f); replace HOB := hid (HOB.out.fr f); have HX6 := hid hx6; have HD6 := hid hd6; clear hx6 hd6; dsimp only; clear f))
  obtain ⟨X, hX⟩ : ∃ zz, v1.heap.size = zz := ⟨_, rfl⟩
  obtain ⟨wX, hwX⟩ : ∃ zz, v1.alloc (.cells (bcs q k A6 xs.length c6) 26) = zz := ⟨_, rfl⟩
  have fX : Fr No v1 wX := by rw [← hwX]; exact fr1 _ _
  replace FG := hid (FG.out.trans fX); replace P0 := hid (BG.fr P0.out fX); replace HB := hid (HB.out.fr fX); replace HOB := hid (HOB.out.fr fX); replace HX6 := hid (HX6.out.fr fX); replace HD6 := hid (HD6.out.fr fX (fun _ _ _ h => h))
  have HX := hid (show BB wX X q k A6 xs.length c6 by rw [← hwX, ← hX]; exact BB.new _ _ _ _ _ _)
  try rw [show v1.alloc (Obj.cells #[.int .i64 q, .int .i64 k, .slice A6 xs.length c6] 26) = wX from hwX]
  try rw [hX]
  clear hwX hX fX
  go_upto_region 4 with (first | ((with_reducible refine ld_geom rfl (.tmp 2) rfl G ?_ P0.out ?_); · rfl) | (go_at_call 10; refine (rlay_yes gc gs gn gl gk _ HS.out HM.out).mono ?_; rintro e' v1 ⟨y1, y2, y3, y4, y5, y6, y7, y8, rfl, f⟩; replace FG := hid (FG.out.trans f); replace P0 := hid (BG.fr P0.out f); replace HB := hid (HB.out.fr f); replace HOB := hid (HOB.out.fr f); replace HX6 := hid (HX6.out.fr f); replace HD6 := hid (HD6.out.fr f (fun _ _ _ h => h)); replace HX := hid (BB.fr HX.out f); skip; clear f))
  obtain ⟨wL, hwL⟩ : ∃ q, v1.alloc (.cells #[.int .i64 y1, .int .i64 y2, .int .i64 y3, .int .i64 y4, .int .i64 y5, .int .i64 y6, .int .i64 y7, .int .i64 y8] 34) = q := ⟨_, rfl⟩
  have fL : Fr No v1 wL := by rw [← hwL]; exact fr1 _ _
  replace FG := hid (FG.out.trans fL); replace P0 := hid (BG.fr P0.out fL); replace HB := hid (HB.out.fr fL); replace HOB := hid (HOB.out.fr fL); replace HX6 := hid (HX6.out.fr fL); replace HD6 := hid (HD6.out.fr fL (fun _ _ _ h => h)); replace HX := hid (BB.fr HX.out fL)
  try rw [show v1.alloc (Obj.cells #[.int .i64 y1, .int .i64 y2, .int .i64 y3, .int .i64 y4, .int .i64 y5, .int .i64 y6, .int .i64 y7, .int .i64 y8] 34) = wL from hwL]
  clear hwL fL
  go_upto_region 7 with (first | ((with_reducible refine ld_geom rfl (.tmp 2) rfl G ?_ P0.out ?_); · rfl) | (go_at_call 19; refine (HRU.out A l c _ HB.out).mono ?_; rintro e' v1 ⟨A7, c7, D7, d7, rfl, hx7, hd7, f⟩; replace FG := hid (FG.out.trans f); replace P0 := hid (BG.fr P0.out f); replace HB := hid (HB.out.fr f); replace HOB := hid (HOB.out.fr f); replace HX6 := hid (HX6.out.fr f); replace HD6 := hid (HD6.out.fr f (fun _ _ _ h => h)); replace HX := hid (BB.fr HX.out f); have HX7 := hid hx7; have HD7 := hid hd7; clear hx7 hd7; dsimp only; clear f))
  obtain ⟨Y, hY⟩ : ∃ zz, v1.heap.size = zz := ⟨_, rfl⟩
  obtain ⟨wY, hwY⟩ : ∃ zz, v1.alloc (.cells (bcs q k A7 xs.length c7) 26) = zz := ⟨_, rfl⟩
  have fY : Fr No v1 wY := by rw [← hwY]; exact fr1 _ _
  replace FG := hid (FG.out.trans fY); replace P0 := hid (BG.fr P0.out fY); replace HB := hid (HB.out.fr fY); replace HOB := hid (HOB.out.fr fY); replace HX6 := hid (HX6.out.fr fY); replace HD6 := hid (HD6.out.fr fY (fun _ _ _ h => h)); replace HX := hid (BB.fr HX.out fY); replace HX7 := hid (HX7.out.fr fY); replace HD7 := hid (HD7.out.fr fY (fun _ _ _ h => h))
  have HY := hid (show BB wY Y q k A7 xs.length c7 by rw [← hwY, ← hY]; exact BB.new _ _ _ _ _ _)
  try rw [show v1.alloc (Obj.cells #[.int .i64 q, .int .i64 k, .slice A7 xs.length c7] 26) = wY from hwY]
  try rw [hY]
  clear hwY hY fY
  go_upto_region 8 with (first | ((with_reducible refine ld_geom rfl (.tmp 2) rfl G ?_ P0.out ?_); · rfl) | (go_at_call 16; refine (HHU.out A5 l c5 _ HOB.out (HT.out.fr FG.out (fun h => h))).mono ?_; rintro e' v1 ⟨A8, c8, rfl, hx8, _, _, f⟩; replace FG := hid (FG.out.trans f); replace P0 := hid (BG.fr P0.out f); replace HB := hid (HB.out.fr f); replace HOB := hid (HOB.out.fr f); replace HX6 := hid (HX6.out.fr f); replace HD6 := hid (HD6.out.fr f (fun _ _ _ h => h)); replace HX := hid (BB.fr HX.out f); replace HX7 := hid (HX7.out.fr f); replace HD7 := hid (HD7.out.fr f (fun _ _ _ h => h)); replace HY := hid (BB.fr HY.out f); have HX8 := hid hx8; clear hx8; dsimp only; clear f))
  obtain ⟨Z, hZ⟩ : ∃ zz, v1.heap.size = zz := ⟨_, rfl⟩
  obtain ⟨wZ, hwZ⟩ : ∃ zz, v1.alloc (.cells (bcs q' k' A8 ys.length c8) 26) = zz := ⟨_, rfl⟩
  have fZ : Fr No v1 wZ := by rw [← hwZ]; exact fr1 _ _
  replace FG := hid (FG.out.trans fZ); replace P0 := hid (BG.fr P0.out fZ); replace HB := hid (HB.out.fr fZ); replace HOB := hid (HOB.out.fr fZ); replace HX6 := hid (HX6.out.fr fZ); replace HD6 := hid (HD6.out.fr fZ (fun _ _ _ h => h)); replace HX := hid (BB.fr HX.out fZ); replace HX7 := hid (HX7.out.fr fZ); replace HD7 := hid (HD7.out.fr fZ (fun _ _ _ h => h)); replace HY := hid (BB.fr HY.out fZ); replace HX8 := hid (HX8.out.fr fZ)
  have HZ := hid (show BB wZ Z q' k' A8 ys.length c8 by rw [← hwZ, ← hZ]; exact BB.new _ _ _ _ _ _)
  try rw [show v1.alloc (Obj.cells #[.int .i64 q', .int .i64 k', .slice A8 ys.length c8] 26) = wZ from hwZ]
  try rw [hZ]
  clear hwZ hZ fZ
  go_upto_region 9 with (first | ((with_reducible refine ld_geom rfl (.tmp 2) rfl G ?_ P0.out ?_); · rfl) | (go_at_call 17; refine (HIU.out A l c _ HB.out).mono ?_; rintro e' v1 ⟨A9, c9, rfl, hx9, _, _, f⟩; replace FG := hid (FG.out.trans f); replace P0 := hid (BG.fr P0.out f); replace HB := hid (HB.out.fr f); replace HOB := hid (HOB.out.fr f); replace HX6 := hid (HX6.out.fr f); replace HD6 := hid (HD6.out.fr f (fun _ _ _ h => h)); replace HX := hid (BB.fr HX.out f); replace HX7 := hid (HX7.out.fr f); replace HD7 := hid (HD7.out.fr f (fun _ _ _ h => h)); replace HY := hid (BB.fr HY.out f); replace HX8 := hid (HX8.out.fr f); replace HZ := hid (BB.fr HZ.out f); have HX9 := hid hx9; clear hx9; dsimp only; clear f))
  obtain ⟨I, hI⟩ : ∃ zz, v1.heap.size = zz := ⟨_, rfl⟩
  obtain ⟨wI, hwI⟩ : ∃ zz, v1.alloc (.cells (bcs q' k' A9 ys.length c9) 26) = zz := ⟨_, rfl⟩
  have fI : Fr No v1 wI := by rw [← hwI]; exact fr1 _ _
  replace FG := hid (FG.out.trans fI); replace P0 := hid (BG.fr P0.out fI); replace HB := hid (HB.out.fr fI); replace HOB := hid (HOB.out.fr fI); replace HX6 := hid (HX6.out.fr fI); replace HD6 := hid (HD6.out.fr fI (fun _ _ _ h => h)); replace HX := hid (BB.fr HX.out fI); replace HX7 := hid (HX7.out.fr fI); replace HD7 := hid (HD7.out.fr fI (fun _ _ _ h => h)); replace HY := hid (BB.fr HY.out fI); replace HX8 := hid (HX8.out.fr fI); replace HZ := hid (BB.fr HZ.out fI); replace HX9 := hid (HX9.out.fr fI)
  have HI := hid (show BB wI I q' k' A9 ys.length c9 by rw [← hwI, ← hI]; exact BB.new _ _ _ _ _ _)
  try rw [show v1.alloc (Obj.cells #[.int .i64 q', .int .i64 k', .slice A9 ys.length c9] 26) = wI from hwI]
  try rw [hI]
  clear hwI hI fI
  go_wp2_with fail
  refine (lives_ok _ (HT.out.fr FG.out (fun h => h))).mono ?_
  rintro e' v2 ⟨rfl, f⟩
  replace FG := hid (FG.out.trans f); replace P0 := hid (BG.fr P0.out f); replace HB := hid (HB.out.fr f); replace HOB := hid (HOB.out.fr f); replace HX6 := hid (HX6.out.fr f); replace HD6 := hid (HD6.out.fr f (fun _ _ _ h => h)); replace HX := hid (BB.fr HX.out f); replace HX7 := hid (HX7.out.fr f); replace HD7 := hid (HD7.out.fr f (fun _ _ _ h => h)); replace HY := hid (BB.fr HY.out f); replace HX8 := hid (HX8.out.fr f); replace HZ := hid (BB.fr HZ.out f); replace HX9 := hid (HX9.out.fr f); replace HI := hid (BB.fr HI.out f); clear f
  obtain ⟨x0, x1, x2⟩ := BB.cells HX.out
  obtain ⟨z0, z1, z2⟩ := BB.cells HY.out
  go_wp2_with fail
  refine (BtC.brsame_ok q k A6 xs.length c6 xs q k A7 xs.length c7 xs true _ (by have := HXL.out; omega) (by have := HXL.out; omega) HX6.out HX7.out (by simp)).mono ?_
  rintro e' v3 ⟨rfl, f⟩
  replace FG := hid (FG.out.trans f); replace P0 := hid (BG.fr P0.out f); replace HB := hid (HB.out.fr f); replace HOB := hid (HOB.out.fr f); replace HX6 := hid (HX6.out.fr f); replace HD6 := hid (HD6.out.fr f (fun _ _ _ h => h)); replace HX := hid (BB.fr HX.out f); replace HX7 := hid (HX7.out.fr f); replace HD7 := hid (HD7.out.fr f (fun _ _ _ h => h)); replace HY := hid (BB.fr HY.out f); replace HX8 := hid (HX8.out.fr f); replace HZ := hid (BB.fr HZ.out f); replace HX9 := hid (HX9.out.fr f); replace HI := hid (BB.fr HI.out f); clear f x0 x1 x2 z0 z1 z2
  obtain ⟨x0, x1, x2⟩ := BB.cells HZ.out
  obtain ⟨z0, z1, z2⟩ := BB.cells HI.out
  have cv1 := run_str (P := Tryd.prog) v3 27 9 5 Tryd.underlying27 Tryd.underlying5 Tryd.underlying9 D6 D.length d6 D HD6.out
  have cv2 := run_str (P := Tryd.prog) v3 27 9 5 Tryd.underlying27 Tryd.underlying5 Tryd.underlying9 D7 D.length d7 D HD7.out
  go_wp2_with fail
  refine (BtC.brsame_ok q' k' A8 ys.length c8 ys q' k' A9 ys.length c9 ys true _ (by have := HYL.out; omega) (by have := HYL.out; omega) HX8.out HX9.out (by simp)).mono ?_
  rintro e' v4 ⟨rfl, f⟩
  replace FG := hid (FG.out.trans f); replace P0 := hid (BG.fr P0.out f); replace HB := hid (HB.out.fr f); replace HOB := hid (HOB.out.fr f); replace HX6 := hid (HX6.out.fr f); replace HD6 := hid (HD6.out.fr f (fun _ _ _ h => h)); replace HX := hid (BB.fr HX.out f); replace HX7 := hid (HX7.out.fr f); replace HD7 := hid (HD7.out.fr f (fun _ _ _ h => h)); replace HY := hid (BB.fr HY.out f); replace HX8 := hid (HX8.out.fr f); replace HZ := hid (BB.fr HZ.out f); replace HX9 := hid (HX9.out.fr f); replace HI := hid (BB.fr HI.out f); clear f x0 x1 x2 z0 z1 z2 cv1 cv2
  have cv3 := run_str (P := Tryd.prog) v4 27 9 5 Tryd.underlying27 Tryd.underlying5 Tryd.underlying9 A5 l c5 zs HOB.out.1
  have cv4 := run_str (P := Tryd.prog) v4 27 9 5 Tryd.underlying27 Tryd.underlying5 Tryd.underlying9 A l c zs HB.out.1
  go_wp2
  go_ret
  exact ⟨rfl, FG.out⟩

theorem reads_card (gc gs gn gl gk : Int) (A : Option Addr) (l c : Nat) (zs : List Int) (w : World) (hs : r64 gs) (hb : IsB w A l c zs) (hcb : c ≤ reachBytes) (hT : TabAt w) :
    Calls Tryd.prog 4 #[.agg #[.int .i64 gc, .int .i64 gs, .int .i64 gn, .int .i64 gl, .int .i64 gk], .slice A l c] w fun e w' => e = .returned (.bool true) ∧ Fr No w w' := by
  have hc : c ≤ 140737488351232 := Nat.le_trans hcb (by decide)
  by_cases hm : mayG ⟨gc, gs, gn, gl, gk⟩
  case neg => exact reads_no gc gs gn gl gk A l c zs w hs hc hb hT hm
  cases ho : beginG ⟨gc, gs, gn, gl, gk⟩ zs with
  | none =>
    cases hh : headG ⟨gc, gs, gn, gl, gk⟩ zs with
    | none => exact reads_nn gc gs gn gl gk A l c zs w hs hc hb hT hm ho hh
    | some r => exact reads_ns gc gs gn gl gk A l c zs w hs hc hb hT hm ho hh
  | some r =>
    cases hh : headG ⟨gc, gs, gn, gl, gk⟩ zs with
    | none => exact reads_sn gc gs gn gl gk A l c zs w hs hc hb hT hm ho hh
    | some r2 => exact reads_ss gc gs gn gl gk A l c zs w hs hc hb hT hm ho hh
end Go.Proofs.YtllolilpchmkiaaDoor.BtRd
/- The frame of the rows of package crc's laws: what the listed table gives. -/
namespace Go.Proofs.YtllolilpchmkiaaDoor.CrcK
open Go.Joins Go.ChangeShapes Go.WideShapes Go.ChangeAt Go.RowKit Go.Deep MSep MFrame CrcM CrcA

def LD : List (String × DataW Unit) := [("thatch/crc.nibbles", Rows.laid_thatch_crc_nibbles)]
theorem gNib : Tryd.prog.globalNamed "thatch/crc.nibbles" = some 0 := by kernel_rfl
theorem tNib : (Tryd.prog.globals[0]?).map (·.type) = some 124 := by kernel_rfl

theorem door_met (os : Os) (args : Array Value) : laidMetH Tryd.prog LD ((World.doorLaid Tryd.prog 400 os).forCall (fun _ _ => 0) ⟨#[], args, []⟩).memory := by
  rw [MakeChecks.laidMetH_plain _ _ _ (by kernel_rfl)]
  exact laidMet_of_run' 8 (by kernel_rfl) (by kernel_rfl)

theorem tab_of_laid {W : World} (h : laidMetH Tryd.prog LD W) : TabAt W := by
  rw [MakeChecks.laidMetH_plain _ _ _ (by kernel_rfl)] at h
  obtain ⟨ps, ⟨g0, t0, cs0, f0, p0, q0, hg0, ht0, hv0, hd0, _⟩, _⟩ := h
  obtain rfl := Option.some.inj (gNib.symm.trans hg0)
  obtain rfl := Option.some.inj (tNib.symm.trans ht0)
  obtain ⟨xs, m1, rfl, hx1, hlen, hn3, hel⟩ := DataW.trod_array Tryd.underlying124 hd0
  have c1 : Tryd.prog.cellsOf 42 = 1 := by kernel_rfl
  intro i x hi
  have hi16 : i < 16 := by
    have := (List.getElem?_eq_some_iff.1 hi).1
    exact this
  have h0 := hel i hi16
  have hxi : xs[i]? = some (xs[i]'(by omega)) := List.getElem?_eq_getElem (by omega)
  rw [hxi] at h0
  obtain ⟨k, e1, e2, _⟩ := DataW.trod_int Tryd.underlying42 h0
  rw [c1, Nat.mul_one] at e1
  have hk : (xs.map (·.1))[i]? = some (.lit (.int .u32 k)) := by rw [List.getElem?_map, hxi, e2]; rfl
  simp only [Prod.mk.injEq] at hx1
  have hl : (.agg (xs.map (·.1)) : DataW _) = Rows.laid_thatch_crc_nibbles := hx1.1.symm
  rw [show Rows.laid_thatch_crc_nibbles = (.agg (tab.map fun (x : Nat) => DataW.lit (.int .u32 x)) : DataW _) from rfl, DataW.agg.injEq] at hl
  rw [hl, List.getElem?_map, hi] at hk
  have hkx : (x : Int) = k := by simpa using hk
  have hc : cs0.toList[i]? = some (.int .u32 x) := by
    have := congrArg (fun l => l[0]?) e1
    rw [hkx]
    simpa using this
  have := World.var?_cell hg0 hv0 i
  rw [this]
  simpa using hc
end Go.Proofs.YtllolilpchmkiaaDoor.CrcK
/- What the rows over geometries take: a geometry, a shape, a span that came in. -/
namespace Go.Proofs.YtllolilpchmkiaaDoor.MGeRow
open Go.Joins Go.ChangeShapes Go.WideShapes Go.RowKit Go.Deep MFrame MSep SpA

section
variable {H : Type} {enc : TypeId × Value → H} {P : Program} {w : World} {base : Nat} {spare : Nat → Bool} {held : Bool}
theorem open_agg5 {r : Reach} {b0 : Nat} {t : TypeId} {f0 f1 f2 f3 f4 : Field} {v : Value} {d : DataW H} {p : List MemPlace} (hs : P.underlying t = some (.struct #[f0, f1, f2, f3, f4])) (hone : oneCellFields P #[f0, f1, f2, f3, f4] = true) (hC : P.cellsOf t = 5)
    (hv : Value.okWide P w r b0 t v) (h : DataW.Trod enc P w base spare held t v d p) :
    ∃ (v0 v1 v2 v3 v4 : Value) (y0 y1 y2 y3 y4 : DataW H × List MemPlace) (n : Nat), v = .agg #[v0, v1, v2, v3, v4] ∧ d = .agg [y0.1, y1.1, y2.1, y3.1, y4.1] ∧ p = y0.2 ++ (y1.2 ++ (y2.2 ++ (y3.2 ++ y4.2))) ∧
      DataW.trod enc P w base spare held n f0.type [v0] = some y0 ∧ DataW.trod enc P w base spare held n f1.type [v1] = some y1 ∧ DataW.trod enc P w base spare held n f2.type [v2] = some y2 ∧ DataW.trod enc P w base spare held n f3.type [v3] = some y3 ∧ DataW.trod enc P w base spare held n f4.type [v4] = some y4 := by
  obtain ⟨cs, rfl, hsz⟩ := okWide_struct hs hv
  obtain ⟨l⟩ := cs
  match l, hsz.trans hC with
  | [c0, c1, c2, c3, c4], _ =>
    obtain ⟨fuel, hf⟩ := h
    obtain ⟨xs, n, _, hx, _, hlen, hg⟩ := DataW.trod_struct hs hf
    obtain ⟨o0, k0⟩ := hone_of hone 0 f0 rfl
    obtain ⟨o1, k1⟩ := hone_of hone 1 f1 rfl
    obtain ⟨o2, k2⟩ := hone_of hone 2 f2 rfl
    obtain ⟨o3, k3⟩ := hone_of hone 3 f3 rfl
    obtain ⟨o4, k4⟩ := hone_of hone 4 f4 rfl
    match xs, hlen with
    | [y0, y1, y2, y3, y4], _ =>
      simp only [Prod.mk.injEq] at hx
      exact ⟨c0, c1, c2, c3, c4, y0, y1, y2, y3, y4, n, rfl, by simpa using hx.1, by simpa using hx.2, by simpa [Value.cells, o0, k0] using hg 0 f0 rfl, by simpa [Value.cells, o1, k1] using hg 1 f1 rfl, by simpa [Value.cells, o2, k2] using hg 2 f2 rfl, by simpa [Value.cells, o3, k3] using hg 3 f3 rfl, by simpa [Value.cells, o4, k4] using hg 4 f4 rfl⟩
end

set_option maxRecDepth 100000 in
theorem span_open {H : Type} {enc : TypeId × Value → H} {w : World} {base b0 : Nat} {r : Reach} {spare : Nat → Bool} {held : Bool} {v : Value} {d : DataW H} {p : List MemPlace}
    (hv : Value.okWide Tryd.prog w r b0 57 v) (h : DataW.Trod enc Tryd.prog w base spare held 57 v d p) : ∃ a n : Int, v = .agg #[.int .i64 a, .int .i64 n] ∧ wf (a, n) := by
  obtain ⟨v0, v1, y0, y1, n, rfl, _, _, h0, h1⟩ := open_agg2 Tryd.underlying57 (by kernel_rfl) (by kernel_rfl) hv h
  obtain ⟨a0, e0, _, w0⟩ := DataW.trod_int Tryd.underlying3 h0
  obtain ⟨a1, e1, _, w1⟩ := DataW.trod_int Tryd.underlying3 h1
  simp at e0 e1
  subst e0 e1
  exact ⟨a0, a1, rfl, bounds_i64 w0, bounds_i64 w1⟩
set_option maxRecDepth 100000 in
theorem geom_open {H : Type} {enc : TypeId × Value → H} {w : World} {base b0 : Nat} {r : Reach} {spare : Nat → Bool} {held : Bool} {v : Value} {d : DataW H} {p : List MemPlace}
    (hv : Value.okWide Tryd.prog w r b0 23 v) (h : DataW.Trod enc Tryd.prog w base spare held 23 v d p) : ∃ c s n l k : Int, v = .agg #[.int .i64 c, .int .i64 s, .int .i64 n, .int .i64 l, .int .i64 k] ∧ (-9223372036854775808 ≤ s ∧ s ≤ 9223372036854775807) := by
  obtain ⟨v0, v1, v2, v3, v4, y0, y1, y2, y3, y4, n, rfl, _, _, h0, h1, h2, h3, h4⟩ := open_agg5 Tryd.underlying23 (by kernel_rfl) (by kernel_rfl) hv h
  obtain ⟨a0, e0, _, _⟩ := DataW.trod_int Tryd.underlying3 h0
  obtain ⟨a1, e1, _, w1⟩ := DataW.trod_int Tryd.underlying3 h1
  obtain ⟨a2, e2, _, _⟩ := DataW.trod_int Tryd.underlying3 h2
  obtain ⟨a3, e3, _, _⟩ := DataW.trod_int Tryd.underlying3 h3
  obtain ⟨a4, e4, _, _⟩ := DataW.trod_int Tryd.underlying3 h4
  simp at e0 e1 e2 e3 e4
  subst e0 e1 e2 e3 e4
  exact ⟨a0, a1, a2, a3, a4, rfl, bounds_i64 w1⟩
set_option maxRecDepth 100000 in
theorem shape_open {H : Type} {enc : TypeId × Value → H} {w : World} {base b0 : Nat} {r : Reach} {spare : Nat → Bool} {held : Bool} {v : Value} {d : DataW H} {p : List MemPlace}
    (hv : Value.okWide Tryd.prog w r b0 78 v) (h : DataW.Trod enc Tryd.prog w base spare held 78 v d p) : ∃ c s n l : Int, v = .agg #[.int .i64 c, .int .i64 s, .int .i64 n, .int .i64 l] := by
  obtain ⟨v0, v1, v2, v3, y0, y1, y2, y3, n, rfl, _, _, h0, h1, h2, h3⟩ := open_agg4 Tryd.underlying78 (by kernel_rfl) (by kernel_rfl) hv h
  obtain ⟨a0, e0, _, _⟩ := DataW.trod_int Tryd.underlying3 h0
  obtain ⟨a1, e1, _, _⟩ := DataW.trod_int Tryd.underlying3 h1
  obtain ⟨a2, e2, _, _⟩ := DataW.trod_int Tryd.underlying3 h2
  obtain ⟨a3, e3, _, _⟩ := DataW.trod_int Tryd.underlying3 h3
  simp at e0 e1 e2 e3
  subst e0 e1 e2 e3
  exact ⟨a0, a1, a2, a3, rfl⟩
end Go.Proofs.YtllolilpchmkiaaDoor.MGeRow
/- What any bytes are as a batch, and as a head, whatever the geometry is. Conditions: what comes in is no longer than the form's reach; else none but the statement's own. -/
namespace Go.Proofs.YtllolilpchmkiaaDoor.BatchReadsP
open Go.Joins Go.ChangeShapes Go.WideShapes Go.ChangeAt Go.RowKit Go.Deep MSep MFrame CrcA CrcK

set_option maxRecDepth 100000 in
set_option maxHeartbeats 2000000 in
theorem lifted (os : Os) (started : os.Started) (H : Type) (enc : TypeId × Value → H) :
    ReturnsInHanded {} Tryd.checked os 4 .any (fun w args => (Rows.batchReadsSpec.pre enc Tryd.prog Tryd.f4 [] false w args ∧ laidMetH Tryd.prog LD w) ∧ sizedMet enc Tryd.prog Tryd.f4 (OpenSpec.ofChange Rows.batchReadsSpec) false w args)
      (Rows.batchReadsSpec.post enc Tryd.prog Tryd.f4 false true false false) := by
  refine returnsInHanded_of_change_and (C := Tryd.checked) (X := fun w _ => laidMetH Tryd.prog LD w) (fun _ _ _ hh h => h.of_heap hh) own started (by kernel_rfl) Tryd.func4
    (ChangeSpec.witness_shaped (enc := enc) (C := Tryd.checked) (os := os) (X := fun w _ => laidMetH Tryd.prog LD w) false (World.doorLaid Tryd.prog 400 os) #[.agg #[.int .i64 0, .int .i64 0, .int .i64 0, .int .i64 0, .int .i64 0], .slice none 0 0] 8 rfl (World.shaped_of_RefB (by kernel_rfl) (by kernel_rfl)) (by kernel_rfl) (by kernel_rfl) (by kernel_rfl) (door_met os _)) ?_
  intro W base args ds gs before hval0 hW _ hsz0 hL _
  have hval : ∀ (j : Nat) t v, Tryd.f4.params[j]? = some t → args[j]? = some v → Value.okWide Tryd.prog W .any base t v := hval0
  have hW' := hW
  obtain ⟨p, q, hA0, hV, rfl, hfz, hnd⟩ := hW
  have hA : DataW.TrodAll enc Tryd.prog W 0 (fun _ => true) true Tryd.f4.params.toList args.toList ds p := hA0
  have hsz : (DataW.weightsEach Tryd.prog (Tryd.f4.params.toList ++ Rows.batchReadsSpec.plain.varTypes Tryd.prog) (ds ++ gs)).all (· ≤ reachBytes) = true := hsz0
  rw [Tryd.params4] at hA hval hsz
  obtain ⟨v0, vs0, d0, ds0, p0, q0, hargs, rfl, rfl, h0, r0⟩ := trodAll_cons hA
  obtain ⟨v1, vs1, d1, ds1, p1, q1, rfl, rfl, rfl, h1, r1⟩ := trodAll_cons r0
  obtain ⟨rfl, rfl, rfl⟩ := trodAll_nil r1
  obtain rfl : args = #[v0, v1] := by cases args; simp_all
  obtain ⟨rfl, rfl⟩ := trodVars_none hV
  have k0 := h0
  have lt0 : ∀ x ∈ p0, x.block < W.heap.size := by obtain ⟨m, hm⟩ := k0; exact DataW.trod_lt m _ _ _ hm
  obtain ⟨gc0, gs0, gn0, gl0, gk0, rfl, f0⟩ := MGeRow.geom_open (hval 0 23 v0 rfl rfl) h0
  have k1 := h1
  have lt1 : ∀ x ∈ p1, x.block < W.heap.size := by obtain ⟨m, hm⟩ := k1; exact DataW.trod_lt m _ _ _ hm
  obtain ⟨A1, l1, c1, rfl⟩ := okWide_slice Tryd.underlying27 (hval 1 27 v1 rfl rfl)
  obtain ⟨z1, b1, s1⟩ := isB_sized (j := 1) Tryd.underlying27 Tryd.underlying5 (by kernel_rfl) (by kernel_rfl) (fun _ => rfl) h1 hsz rfl rfl
  clear hA0 hval0
  refine (BtRd.reads_card gc0 gs0 gn0 gl0 gk0 A1 l1 c1 z1 W f0 b1 s1 (tab_of_laid hL)).mono fun e W' ⟨he, fr⟩ => ?_
  have bel : Below W.heap.size W W' := fr.below (Nat.le_refl _) (fun _ h => h.elim)
  subst he
  exact ⟨_, rfl, _, _, _, [], _, [], hW', trodAll_mk1 (shut_bool Tryd.underlying4 _), (trodAll_cons_mk (Below.trod laidOut (by kernel_rfl) (of_decide_eq_true (by kernel_rfl)) k0 bel lt0) (trodAll_cons_mk (Below.trod laidOut (by kernel_rfl) (of_decide_eq_true (by kernel_rfl)) k1 bel lt1) trodAll_mk0)), rfl, bel.frame _, fun h => by cases h⟩

theorem over : Rows.batchReadsRow.holds Tryd.pinned (OpenSpec.ofChange Rows.batchReadsSpec) :=
  OpenClaim.holds_of_wide 4 Tryd.f4 rfl rfl rfl rfl rfl rfl rfl ⟨rfl, rfl, rfl, rfl, rfl⟩ rfl rfl rfl rfl rfl (by kernel_rfl) Tryd.func4 (by kernel_rfl)
    (of_decide_eq_true (by kernel_rfl)) (by unfold Func.isWrapper; first | (rw [if_pos (by decide +kernel)]; kernel_rfl) | (rw [if_neg (by decide +kernel)]; exact ⟨rfl, rfl⟩))
    (fun os started H enc _ => lifted os started H enc)

theorem proved : Rows.BatchReadsCardSaid :=
  Claim7.holds_tied_plain_at .later [] [.data] true Rows.batchReadsCard.stood.harness false
    over (fun _ h => by cases h) (by kernel_rfl) (fun _ h => by cases h) batchReads_row_tie rfl ⟨rfl, rfl⟩ (by kernel_rfl) rfl
    (fun f fn hf hfn => by
      obtain rfl : f = 4 := Option.some.inj ((show Tryd.prog.funcNamed "thatch/thatchlaw16.BatchReads" = some 4 by kernel_rfl).symm.trans hf) |>.symm
      obtain rfl : fn = Tryd.f4 := (Option.some.inj (Tryd.func4.symm.trans hfn)).symm
      exact ⟨by kernel_rfl, fun j t ht => by
        rw [Tryd.params4] at ht
        have hm : t ∈ [23, 27] := by simpa using Array.mem_of_getElem? ht
        have hall : ([23, 27].all fun u => !Tryd.prog.wantsStandIn u) = true := by kernel_rfl
        exact (show Tryd.prog.wantsStandIn t = false by simpa using List.all_eq_true.1 hall t hm)⟩)
    (by kernel_rfl)
#print axioms proved
end Go.Proofs.YtllolilpchmkiaaDoor.BatchReadsP
