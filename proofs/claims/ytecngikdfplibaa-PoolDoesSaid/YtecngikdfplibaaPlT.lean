/- PoolDoes' walk. Conditions: the geometry's Seq has 64 bits; the roles and the calls read as lists; the roles take up at most 2^47 bytes. -/
import Derived.Test.YtecngikdfplibaaPlQ
import Derived.Test.YtecngikdfplibaaPlS
import Derived.Test.YtecngikdfplibaaPlG
import Derived.Test.YtecngikdfplibaaPlOps
namespace Go.Proofs.Ytecngikdfplibaa.PlT
open Go.RowKit MSep MSepC MGeM GeA PlM PlA PlB PlC PlD PlE PlF PlG PlH PlI PlJ PlK PlN PlO PlQ PlS

/-- A row does not lie in block q. -/
def NQ (A : Option Addr) (n cp q : Nat) : Prop := ∀ g, (Value.slice A n cp).ownBlock = some g → g ≠ q
theorem NQ.step {W : World} {A A' : Option Addr} {n cp cp' q : Nat} (h : Nw W A A' n cp cp') (hq : q < W.heap.size) (h0 : NQ A n cp q) : NQ A' n cp' q := by
  intro g hg
  rcases h g hg with h1 | h1
  · exact h0 g h1
  · omega
theorem NQ.len {A : Option Addr} {n m cp q : Nat} (h : n = m) (h0 : NQ A n cp q) : NQ A m cp q := by subst h; exact h0
theorem kfT {S : Nat → Prop} {a b c : World} (k : Fr S b c) (h : Hid (Fr S a b)) : Hid (Fr S a c) := hid (h.out.trans k)
theorem kdT {S : Nat → Prop} {a b : World} (h : Hid (Fr S a b)) : Hid (Fr S a b.drew) := hid h.out.drew
theorem kcT {S : Nat → Prop} {b c : World} {p : Addr} {v : Value} (k : Fr S b c) (hn : ¬ S p.block) (h : b.cell? p = some v) : c.cell? p = some v := k.cell_some h hn

set_option maxRecDepth 100000 in
set_option maxHeartbeats 4000000 in
theorem does_big (c s n l k : Int) (A : Option Addr) (cp : Nat) (R : List Int) (B : Option Addr) (lo co : Nat) (w : World) (h30 : 30 < s) : Calls Try.prog 7 #[.agg #[.int .i64 c, .int .i64 s, .int .i64 n, .int .i64 l, .int .i64 k], .slice A R.length cp, .slice B lo co] w fun e w' => e = .returned (.bool true) ∧ Fr No w w' := by
  have HF := hid (fr1 w (bg c s n l k))
  have P0 := hid (BG.new w c s n l k)
  obtain ⟨_, g1, _⟩ := P0.out.cells
  go_enter Try.func7, Try.ntmps7
  go_wp2_with (go_at_call 27; refine (lives_ok _).mono ?_; rintro e w3 ⟨rfl, f⟩; replace HF := hid (HF.out.trans f); replace P0 := hid (P0.out.fr f); clear f)
  go_ret
  exact ⟨rfl, HF.out⟩
set_option maxRecDepth 100000 in
set_option maxHeartbeats 4000000 in
theorem does_n (c s n l k : Int) (A : Option Addr) (cp : Nat) (R : List Int) (B : Option Addr) (lo co : Nat) (w : World) (h30 : ¬ 30 < s) (hs : inI s) (hx : RdI w A R.length R) (hb : R.length ≤ 17592186044416) (hm : ¬ mayG ⟨c, s, n, l, k⟩) : Calls Try.prog 7 #[.agg #[.int .i64 c, .int .i64 s, .int .i64 n, .int .i64 l, .int .i64 k], .slice A R.length cp, .slice B lo co] w fun e w' => e = .returned (.bool true) ∧ Fr No w w' := by
  have h30d : decide (30 < s) = false := decide_eq_false h30
  have HL := hid (fun W A c1 (_ : RdI W A R.length R) => load_n c s n l k A R.length c1 W hs hm)
  have HR := hid (fun w => rl_n c s n l k w hs hm)
  clear hs hm h30
  have HFa := hid (fr1 w (bg c s n l k))
  have P0a := hid (BG.new w c s n l k)
  obtain ⟨_, g1, _⟩ := P0a.out.cells
  obtain ⟨W1, hW1⟩ : ∃ W1, w.alloc (bg c s n l k) = W1 := ⟨_, rfl⟩
  rw [hW1] at HFa P0a g1
  have HX := hid hx
  have HB := hid hb
  have HXR := hid ((hx.fr HFa.out).fr ((Fr.refl No W1).alloc (.cells #[] 3)))
  have O0 := hid (own_lit W1)
  have HW1 := hid hW1
  clear hx hb
  go_enter Try.func7, Try.ntmps7
  go_upto_region 3 with fail
  try rw [HW1.out]
  go_wp2_with (at_builtin; refine app_i rfl (.tmp 24) (.tmp 25) rfl W1.heap.size _ [] rfl O0.out _ R.length _ R rfl HXR.out (by have := HB.out; simp; omega) (by simp) ?_)
  intro A1 c1 w1 o1 f1
  try simp only [List.length_nil, Nat.zero_add, List.nil_append] at o1
  try simp only [List.length_nil, Nat.zero_add, List.nil_append]
  have F1 := hid (fr_ownI ((Fr.refl No W1).alloc (.cells #[] 3)) (lit_ge W1) (Nat.le_refl _) f1)
  have HF := hid (HFa.out.trans F1.out)
  have P0 := hid (P0a.out.fr F1.out)
  have O1 := hid o1
  clear o1 f1 HFa P0a F1 O0 HXR g1
  replace HL := hid (fun W => HL.out W A1 c1)
  go_wp2_with (first | ((with_reducible refine ld_geom rfl (.tmp 3) rfl w.heap.size ?_ P0.out ?_); · rfl) | (go_at_call 28; refine (HL.out _ (OutI.rd rfl O1.out)).mono ?_; rintro e w2 ⟨rfl, f⟩; replace HF := hid (HF.out.trans f); replace P0 := hid (P0.out.fr f); replace O1 := hid (O1.out.fr0 f); clear f) | (go_at_call 27; refine (lives_ok _).mono ?_; rintro e w3 ⟨rfl, f⟩; replace HF := hid (HF.out.trans f); replace P0 := hid (P0.out.fr f); replace O1 := hid (O1.out.fr0 f); clear f) | (go_at_call 29; refine (same_ok _ _ _ _ _ _ R _ (OutI.rd rfl O1.out) (HX.out.fr HF.out) (by have := HB.out; omega)).mono ?_; rintro e w4 ⟨rfl, f⟩; replace HF := hid (HF.out.trans f); replace P0 := hid (P0.out.fr f); replace O1 := hid (O1.out.fr0 f); clear f) | (go_at_call 16; refine (HR.out _).mono ?_; rintro e w5 ⟨rfl, f⟩; replace HF := hid (HF.out.trans f); replace P0 := hid (P0.out.fr f); replace O1 := hid (O1.out.fr0 f); clear f))
  go_ret
  exact ⟨rfl, HF.out.alloc _⟩
set_option maxRecDepth 100000 in
set_option maxHeartbeats 4000000 in
theorem does_bad (c s n l k : Int) (A : Option Addr) (cp : Nat) (R : List Int) (B : Option Addr) (lo co : Nat) (w : World) (h30 : ¬ 30 < s) (hx : RdI w A R.length R) (hb : R.length ≤ 17592186044416) (hm : mayG ⟨c, s, n, l, k⟩)
    (hl : ∀ W A c1, RdI W A R.length R → Calls Try.prog 28 #[.agg #[.int .i64 c, .int .i64 s, .int .i64 n, .int .i64 l, .int .i64 k], .slice A R.length c1] W fun e w' => e = .returned (.tuple #[.pointer none, .int .i64 141]) ∧ Fr No W w')
    (hrl : ∀ W, RdI W A R.length R → Calls Try.prog 30 #[.agg #[.int .i64 c, .int .i64 s, .int .i64 n, .int .i64 l, .int .i64 k], .slice A R.length cp] W fun e w' => (∃ v, e = .returned (.tuple #[v, .bool false])) ∧ Fr No W w') : Calls Try.prog 7 #[.agg #[.int .i64 c, .int .i64 s, .int .i64 n, .int .i64 l, .int .i64 k], .slice A R.length cp, .slice B lo co] w fun e w' => e = .returned (.bool true) ∧ Fr No w w' := by
  have h30d : decide (30 < s) = false := decide_eq_false h30
  have HL := hid hl
  have HRL := hid hrl
  have HR := hid (fun w => rl_y c s n l k w hm)
  obtain ⟨b, hbb⟩ : ∃ b, s - k - 1 = b := ⟨_, rfl⟩
  rw [hbb] at HR
  clear hl hrl hm h30 hbb
  have HFa := hid (fr1 w (bg c s n l k))
  have P0a := hid (BG.new w c s n l k)
  obtain ⟨_, g1, _⟩ := P0a.out.cells
  obtain ⟨W1, hW1⟩ : ∃ W1, w.alloc (bg c s n l k) = W1 := ⟨_, rfl⟩
  rw [hW1] at HFa P0a g1
  have HX := hid hx
  have HB := hid hb
  have HXR := hid ((hx.fr HFa.out).fr ((Fr.refl No W1).alloc (.cells #[] 3)))
  have O0 := hid (own_lit W1)
  have HW1 := hid hW1
  clear hx hb
  go_enter Try.func7, Try.ntmps7
  go_upto_region 3 with fail
  try rw [HW1.out]
  go_wp2_with (at_builtin; refine app_i rfl (.tmp 24) (.tmp 25) rfl W1.heap.size _ [] rfl O0.out _ R.length _ R rfl HXR.out (by have := HB.out; simp; omega) (by simp) ?_)
  intro A1 c1 w1 o1 f1
  try simp only [List.length_nil, Nat.zero_add, List.nil_append] at o1
  try simp only [List.length_nil, Nat.zero_add, List.nil_append]
  have F1 := hid (fr_ownI ((Fr.refl No W1).alloc (.cells #[] 3)) (lit_ge W1) (Nat.le_refl _) f1)
  have HF := hid (HFa.out.trans F1.out)
  have P0 := hid (P0a.out.fr F1.out)
  have O1 := hid o1
  clear o1 f1 HFa P0a F1 O0 HXR g1
  replace HL := hid (fun W => HL.out W A1 c1)
  go_upto_region 10 with (first | ((with_reducible refine ld_geom rfl (.tmp 3) rfl w.heap.size ?_ P0.out ?_); · rfl) | (go_at_call 28; refine (HL.out _ (OutI.rd rfl O1.out)).mono ?_; rintro e w2 ⟨rfl, f⟩; replace HF := hid (HF.out.trans f); replace P0 := hid (P0.out.fr f); replace O1 := hid (O1.out.fr0 f); clear f) | (go_at_call 27; refine (lives_ok _).mono ?_; rintro e w3 ⟨rfl, f⟩; replace HF := hid (HF.out.trans f); replace P0 := hid (P0.out.fr f); replace O1 := hid (O1.out.fr0 f); clear f) | (go_at_call 29; refine (same_ok _ _ _ _ _ _ R _ (OutI.rd rfl O1.out) (HX.out.fr HF.out) (by have := HB.out; omega)).mono ?_; rintro e w4 ⟨rfl, f⟩; replace HF := hid (HF.out.trans f); replace P0 := hid (P0.out.fr f); replace O1 := hid (O1.out.fr0 f); clear f) | (go_at_call 16; refine (HR.out _).mono ?_; rintro e w5 ⟨⟨la, lr, lq, ld, lt, lx, lu, rfl⟩, f⟩; replace HF := hid (HF.out.trans f); replace P0 := hid (P0.out.fr f); replace O1 := hid (O1.out.fr0 f); clear f))
  have P1 := hid (P0.out.fr ((Fr.refl No w5).alloc (by_ la lr lq b ld lt lx lu)))
  go_wp2_with (first | ((with_reducible refine ld_geom rfl (.tmp 3) rfl w.heap.size ?_ P1.out ?_); · rfl) | (go_at_call 30; refine (HRL.out _ (HX.out.fr (HF.out.alloc _))).mono ?_; rintro e w6 ⟨⟨v, rfl⟩, f⟩; replace HF := hid ((HF.out.alloc _).trans f); clear f))
  go_ret
  exact ⟨rfl, HF.out⟩
set_option maxRecDepth 100000 in
set_option maxHeartbeats 4000000 in
theorem does_y (c s n l k : Int) (A : Option Addr) (cp : Nat) (R : List Int) (B : Option Addr) (lo co : Nat) (os : List (Int × Int × Int)) (w : World) (h30 : ¬ 30 < s) (hx : RdI w A R.length R) (hb : R.length ≤ 17592186044416) (hm : mayG ⟨c, s, n, l, k⟩) (hl : (R.length : Int) = s) (ho : ok R) (hs : sound k (s - k - 1) R)
    (hO : PlOps.RdO w B lo os) (hI : ∀ t ∈ os, inI t.2.1) (hlc : lo ≤ co) (hcm : co ≤ maxLen) : Calls Try.prog 7 #[.agg #[.int .i64 c, .int .i64 s, .int .i64 n, .int .i64 l, .int .i64 k], .slice A R.length cp, .slice B lo co] w fun e w' => e = .returned (.bool true) ∧ Fr No w w' := by
  have h30d : decide (30 < s) = false := decide_eq_false h30
  have HR := hid (fun w => rl_y c s n l k w hm)
  obtain ⟨⟨m1, m2⟩, ⟨m3, m4⟩, m5, m6⟩ := may_in hm
  obtain ⟨b, hbb⟩ : ∃ b, s - k - 1 = b := ⟨_, rfl⟩
  have HL := hid (show ∀ W A c1, RdI W A R.length R → Calls Try.prog 28 #[.agg #[.int .i64 c, .int .i64 s, .int .i64 n, .int .i64 l, .int .i64 k], .slice A R.length c1] W fun e w' => (∃ p q, e = .returned (.tuple #[.pointer (some ⟨p, 0, none⟩), .int .i64 0]) ∧ PA w' p q c s n l k (s - k - 1) R ∧ W.heap.size ≤ p ∧ W.heap.size ≤ q) ∧ Fr No W w' from fun W A c1 h => (load_s c s n l k A c1 R true W hm hl h ho ⟨fun _ => hs, fun _ => rfl⟩).mono fun e w' h => ⟨h.1.1 rfl, h.2⟩)
  have HRL := hid (fun W h => rload_s A cp c s n l k R ho true hm ⟨fun _ => hs, fun _ => rfl⟩ W hl (by omega) h)
  rw [hbb] at HR HL hs
  have HBB := hid hbb
  have HD := hid (And.intro m1 (And.intro m2 (And.intro m3 (And.intro m4 (And.intro m5 m6)))))
  have HM := hid hm
  have HO := hid ho
  have HS := hid hs
  have HLEN := hid hl
  have HOO := hid hO
  have HI := hid hI
  have HLC := hid (And.intro hlc hcm)
  clear hl hm h30 hbb ho hs hO hI hlc hcm m1 m2 m3 m4 m5 m6
  have HFa := hid (fr1 w (bg c s n l k))
  have P0a := hid (BG.new w c s n l k)
  obtain ⟨_, g1, _⟩ := P0a.out.cells
  obtain ⟨W1, hW1⟩ : ∃ W1, w.alloc (bg c s n l k) = W1 := ⟨_, rfl⟩
  rw [hW1] at HFa P0a g1
  have HX := hid hx
  have HB := hid hb
  have HXR := hid ((hx.fr HFa.out).fr ((Fr.refl No W1).alloc (.cells #[] 3)))
  have O0 := hid (own_lit W1)
  have HW1 := hid hW1
  clear hx hb
  go_enter Try.func7, Try.ntmps7
  go_upto_region 3 with fail
  try rw [HW1.out]
  go_wp2_with (at_builtin; refine app_i rfl (.tmp 24) (.tmp 25) rfl W1.heap.size _ [] rfl O0.out _ R.length _ R rfl HXR.out (by have := HB.out; simp; omega) (by simp) ?_)
  intro A1 c1 w1 o1 f1
  try simp only [List.length_nil, Nat.zero_add, List.nil_append] at o1
  try simp only [List.length_nil, Nat.zero_add, List.nil_append]
  have F1 := hid (fr_ownI ((Fr.refl No W1).alloc (.cells #[] 3)) (lit_ge W1) (Nat.le_refl _) f1)
  have HF := hid (HFa.out.trans F1.out)
  have P0 := hid (P0a.out.fr F1.out)
  have O1 := hid o1
  clear o1 f1 HFa P0a F1 O0 HXR g1
  replace HL := hid (fun W => HL.out W A1 c1)
  go_upto_region 10 with (first | ((with_reducible refine ld_geom rfl (.tmp 3) rfl w.heap.size ?_ P0.out ?_); · rfl) | (go_at_call 28; refine (HL.out _ (OutI.rd rfl O1.out)).mono ?_; rintro e w2 ⟨⟨p, q, rfl, hp, hpw, hqw⟩, f⟩; have HP := hid hp; have HQW := hid (show w.heap.size ≤ q by have := HF.out.size; omega); have HQL0 := hid hp.hq.lt; clear hp hpw hqw; replace HF := hid (HF.out.trans f); replace P0 := hid (P0.out.fr f); replace O1 := hid (O1.out.fr0 f); clear f) | (go_at_call 27; refine (lives_ok _).mono ?_; rintro e w3 ⟨rfl, f⟩; replace HF := hid (HF.out.trans f); replace P0 := hid (P0.out.fr f); replace O1 := hid (O1.out.fr0 f); replace HP := hid (HP.out.fr0 f); clear f) | (go_at_call 29; refine (same_ok _ _ _ _ _ _ R _ (OutI.rd rfl O1.out) (HX.out.fr HF.out) (by have := HB.out; omega)).mono ?_; rintro e w4 ⟨rfl, f⟩; replace HF := hid (HF.out.trans f); replace P0 := hid (P0.out.fr f); replace O1 := hid (O1.out.fr0 f); replace HP := hid (HP.out.fr0 f); clear f) | (go_at_call 16; refine (HR.out _).mono ?_; rintro e w5 ⟨⟨la, lr, lq, ld, lt, lx, lu, rfl⟩, f⟩; replace HF := hid (HF.out.trans f); replace P0 := hid (P0.out.fr f); replace O1 := hid (O1.out.fr0 f); replace HP := hid (HP.out.fr0 f); have HQL := hid HP.out.hq.lt; clear f))
  have P1 := hid (P0.out.fr ((Fr.refl No w5).alloc (by_ la lr lq b ld lt lx lu)))
  replace HP := hid (HP.out.fr0 ((Fr.refl No w5).alloc (by_ la lr lq b ld lt lx lu)))
  go_upto_region 13 with (first | ((with_reducible refine ld_geom rfl (.tmp 3) rfl w.heap.size ?_ P1.out ?_); · rfl) | (go_at_call 30; refine (HRL.out _ (HX.out.fr (HF.out.alloc _))).mono ?_; rintro e w6 ⟨x, A2, cp2, rfl, hq, hxx, hgg, f⟩; try simp only [World.size_alloc] at hxx hgg; have hxw := hid (show w.heap.size ≤ x by have := HF.out.size; omega); have HNQ := hid (show NQ A2 R.length cp2 q from fun g hg => by have h1 := hgg g hg; have h2 := HQL.out; omega); replace HF := hid ((HF.out.alloc _).trans f); replace HP := hid (HP.out.fr0 f); have HQ := hid hq; clear f hq hxx hgg))
  go_upto_region 15 with (go_at_call 31; refine (looks_ok p q x A2 cp2 c s n l k b R _ HP.out HQ.out HS.out).mono ?_; rintro e w7 ⟨rfl, f⟩; replace HF := hid (HF.out.trans f); replace HP := hid (HP.out.fr0 f); replace HQ := hid (HQ.out.fr0 f); clear f)
  go_wp2
  go_loopw [14] (fun i wr => ∃ j : Nat, i = .int .i64 j ∧ j ≤ lo ∧ ∃ R A2 cp2, PA wr p q c s n l k b R ∧ QA wr x A2 cp2 c s n l k R ∧ ok R ∧ sound k b R ∧ NQ A2 R.length cp2 q ∧ Fr No w wr) (fun i _ => lo - (intOf i).toNat)
  case atStart => exact ⟨0, rfl, by omega, R, A2, cp2, HP.out, HQ.out, HO.out, HS.out, HNQ.out, HF.out⟩
  case round =>
    clear HP HQ HO HS HNQ HF P0 P1 HL HRL HX O1
    obtain ⟨j, rfl, hj, R2, A3, cp3, hp, hqq, ho, hso, hnq, hf⟩ := hrel
    by_cases hj1 : j < lo
    case neg =>
      obtain rfl : j = lo := by omega
      go_wp2
      go_ret
      exact ⟨rfl, hf⟩
    have hj1z : (j : Int) < (lo : Int) := by omega
    by_cases hj3 : (j : Int) < 100
    case neg =>
      have hd3 : decide ((j : Int) < 100) = false := decide_eq_false hj3
      go_wp2
      go_ret
      exact ⟨rfl, hf⟩
    have hO := HOO.out.fr hf
    obtain ⟨⟨op, z, r⟩, hget⟩ : ∃ t, os[j]? = some t := ⟨os[j]'(by rw [hO.1]; exact hj1), List.getElem?_eq_getElem _⟩
    obtain ⟨g, oo, hA, _, hc⟩ := hO.2 (by omega)
    have hz : inI z := HI.out _ (List.mem_of_getElem? hget)
    obtain ⟨x0, x1, x2⟩ := hc j _ hget
    dsimp only at x0 x1 x2 hz
    have hw1 : wrap64 ((j : Int) + 1) = (j : Int) + 1 := w64 _ (by omega)
    subst hA
    have HP := hid hp
    have HQ := hid hqq
    have HO := hid ho
    have HS := hid hso
    have HNQ := hid hnq
    have HF := hid hf
    have HZ := hid hz
    have HLEN := hid hp.len
    have HXL := hid (show x < wr.heap.size from hqq.hx.lt)
    have hql := hid hp.hq.lt
    have hxq := hid (show x ≠ q from Blk.ne_ hqq.hx hp.hq (by decide))
    have hpx := hid (show p ≠ x from Blk.ne_ hp.hp hqq.hx (by decide))
    clear hp hqq ho hso hnq hf hO hget hc hz
    have HSZ := hid HF.out.size
    have HDD := HD.out
    by_cases h1 : op = 1
    · subst h1
      obtain ⟨R', hR'⟩ : ∃ R', tkR k R2 r = R' := ⟨_, rfl⟩
      have HL9 := hid (show R'.length = R2.length by rw [← hR', tk_len])
      have HO2 := hid (show ok R' by rw [← hR']; exact tk_ok HO.out)
      have HS2 := hid (show sound k b R' by rw [← hR']; exact tk_sound HS.out)
      have HT := hid (fun W (h : PA W p q c s n l k b R2) => take_ok p q c s n l k b R2 r W h)
      have HTR := hid (fun W A cp (h : QA W x A cp c s n l k R2) => rtake_ok x A cp c s n l k R2 r W h (by have := HLEN.out; omega) (by omega))
      rw [hR'] at HT HTR
      clear hR' HDD
      go_upto_region 20 with fail
      obtain ⟨V, hV⟩ : ∃ V, wr.alloc (.cells #[.int .i64 1, .int .i64 z, .int .i64 r] 59) = V := ⟨_, rfl⟩
      have fV : Fr No wr V := by rw [← hV]; exact (Fr.refl No wr).alloc _
      have PO := hid (show Blk V wr.heap.size 59 #[.int .i64 1, .int .i64 z, .int .i64 r] by rw [← hV]; exact Blk.new wr _ _)
      replace HP := hid (HP.out.fr0 fV)
      replace HQ := hid (HQ.out.fr0 fV)
      replace HF := hid (HF.out.trans fV)
      have HFV := hid fV.size
      obtain ⟨M, hM⟩ : ∃ M, wr.heap.size = M := ⟨_, rfl⟩
      rw [hV]
      rw [hM] at PO hql HSZ ⊢
      have y2 := PO.out.cell 2
      clear fV hV
      go_upto_region 21 with (go_at_call 32; refine (HT.out _ HP.out).mono ?_; rintro e w8 ⟨rfl, hp8, f⟩; replace HP := hid hp8; replace HQ := hid (HQ.out.fr f hxq.out HNQ.out); replace PO := hid (PO.out.fr f (by have := hql.out; omega)); replace HF := hid (HF.out.step f (fun i hi e => by have := HQW.out; omega)); have hql8 := hid (Nat.lt_of_lt_of_le hp8.hq.lt (Nat.le_refl _)); clear f hp8 y2)
      have y2 := PO.out.cell 2
      go_upto_region 22 with (go_at_call 33; refine (HTR.out _ _ _ HQ.out).mono ?_; rintro e w9 ⟨A4, cp4, rfl, hq9, hn9, f⟩; replace HQ := hid hq9; replace HNQ := hid (NQ.len HL9.out.symm (NQ.step hn9 hql8.out HNQ.out)); replace HP := hid (HP.out.fr f hpx.out (fun h => hxq.out h.symm)); replace HF := hid (HF.out.step f (fun i hi e => by have := hxw.out; omega)); clear f hq9 hn9 y2)
      go_wp2_with (first | (go_at_call 31; refine (looks_ok p q x A4 cp4 c s n l k b R' _ HP.out HQ.out HS2.out).mono ?_; rintro e w7 ⟨rfl, f⟩; replace HF := hid (HF.out.trans f); replace HP := hid (HP.out.fr0 f); replace HQ := hid (HQ.out.fr0 f); clear f) | (go_at_call 36; refine (sound_ok p q c s n l k b R' true _ HP.out (by simp [HS2.out])).mono ?_; rintro e w7 ⟨rfl, f⟩; replace HF := hid (HF.out.trans f); replace HP := hid (HP.out.fr0 f); replace HQ := hid (HQ.out.fr0 f); clear f))
      go_roundw
      case rel => exact ⟨j + 1, by go_num, by omega, R', A4, cp4, HP.out, HQ.out, HO2.out, HS2.out, HNQ.out, HF.out⟩
      case measure => first | exact next_m _ _ hj1 hw1 | (simp only [intOf]; omega)
    · have e1 : (op == 1) = false := by simpa using h1
      obtain ⟨R', hR'⟩ : ∃ R', stR c s b R2 z r = R' := ⟨_, rfl⟩
      have HL9 := hid (show R'.length = R2.length by rw [← hR', st_len])
      have HO2 := hid (show ok R' by rw [← hR']; exact st_ok HO.out)
      have HS2 := hid (show sound k b R' by rw [← hR']; exact st_sound HLEN.out HS.out)
      have HT := hid (show ∀ W, PA W p q c s n l k b R2 → Calls Try.prog 34 #[.pointer (some ⟨p, 0, none⟩), .int .i64 z, .int .i64 r] W fun e w' => e = .returned (.int .i64 (stE c s b R2 z r)) ∧ PA w' p q c s n l k b (stR c s b R2 z r) ∧ Fr (fun g => g = q ∨ g = x) W w' ∧ Fr (fun g => g = q) W w' from fun W h => (set_ok p q c s n l k b R2 z r W h HZ.out HO.out).mono fun e w' h => ⟨h.1, h.2.1, h.2.2.mono fun _ _ h => Or.inl h, h.2.2⟩)
      have HTR := hid (show ∀ W A cp, QA W x A cp c s n l k R2 → Calls Try.prog 35 #[.pointer (some ⟨x, 0, none⟩), .int .i64 z, .int .i64 r] W fun e w' => ∃ A' cp', e = .returned (.int .i64 (stE c s b R2 z r)) ∧ QA w' x A' cp' c s n l k (stR c s b R2 z r) ∧ Nw W A A' R2.length cp cp' ∧ Fr (fun g => g = q ∨ g = x) W w' ∧ Fr (fun g => g = x) W w' from fun W A cp h => (rset_ok x A cp c s n l k R2 b z r W h HM.out HBB.out HLEN.out).mono fun e w' h => match h with | ⟨A', cp', h1, h2, h3, h4⟩ => ⟨A', cp', h1, h2, h3, h4.mono fun _ _ h => Or.inr h, h4⟩)
      rw [hR'] at HT HTR
      clear hR' HDD
      go_upto_region 24 with fail
      obtain ⟨V, hV⟩ : ∃ V, wr.alloc (.cells #[.int .i64 op, .int .i64 z, .int .i64 r] 59) = V := ⟨_, rfl⟩
      have fV : Fr No wr V := by rw [← hV]; exact (Fr.refl No wr).alloc _
      have PO := hid (show Blk V wr.heap.size 59 #[.int .i64 op, .int .i64 z, .int .i64 r] by rw [← hV]; exact Blk.new wr _ _)
      replace HP := hid (HP.out.fr0 (fV.trans ((Fr.refl No V).drew)))
      replace HQ := hid (HQ.out.fr0 (fV.trans ((Fr.refl No V).drew)))
      replace HF := hid (HF.out.trans fV)
      obtain ⟨M, hM⟩ : ∃ M, wr.heap.size = M := ⟨_, rfl⟩
      have hxM : x < M := by rw [← hM]; exact HXL.out
      rw [hV]
      rw [hM] at PO hql HSZ ⊢
      have y1 := PO.out.cell 1
      have y2 := PO.out.cell 2
      have hn : ¬ (M = q ∨ M = x) := by have := hql.out; omega
      clear fV hV
      go_cut [131] (fun v wx => v = .bool false ∧ ∃ A4 cp4, PA wx p q c s n l k b R' ∧ QA wx x A4 cp4 c s n l k R' ∧ NQ A4 R'.length cp4 q ∧ Fr (fun g => g = q ∨ g = x) V wx)
      case first =>
        have FW : Hid (Fr (fun g => g = q ∨ g = x) V V) := hid (Fr.refl _ _)
        have FW := kdT FW
        refine wp_region_noPanic ?_
        refine wp_region_held_drew (S := (fun W' => W'.cell? ⟨M, 1, none⟩ = some (.int .i64 z) ∧ W'.cell? ⟨M, 2, none⟩ = some (.int .i64 r) ∧ Hid (Fr (fun g => g = q ∨ g = x) V W'))) (by kernel_rfl) ?_ (fun hHeld => ?_)
        · (try dsimp only); (first | (go_split_ands; exact ⟨kc f (by assumption), kc f (by assumption), by assumption⟩) | (go_split_ands; exact ⟨(by assumption), (by assumption), by assumption⟩) | (go_split_ands; exact ⟨kc (fr1 _ _) (by assumption), kc (fr1 _ _) (by assumption), kfa (by assumption)⟩) | (go_split_ands; exact ⟨kc (fr1d _ _) (by assumption), kc (fr1d _ _) (by assumption), kfae (by assumption)⟩) | (exact ⟨y1, y2, FW⟩) | (exact ⟨kcT f (by first | exact hn | exact hn) hHeld.1, kcT f (by first | exact hn | exact hn) hHeld.2.1, FW⟩))
        refine wpAnyH_take (i := 0) (v := ?v1) rfl (by kernel_rfl) (by kernel_rfl) (by kernel_rfl) (fun _ _ _ h => h) (Or.inl ⟨by kernel_rfl, ?y1⟩) (by assumption) ?_
        case y1 => (intro w hSw; (try dsimp only at hSw); go_simp; all_goals with_reducible rfl)
        try simp only [Act.put, List.getElem_toArray, List.getElem_cons_zero, List.setIfInBounds_toArray, List.set_cons_zero, List.set_cons_succ]
        refine wpAnyH_take (i := 1) (v := ?v2) rfl (by kernel_rfl) (by kernel_rfl) (by kernel_rfl) (fun _ _ _ h => h) (Or.inl ⟨by kernel_rfl, ?y2⟩) (by assumption) ?_
        case y2 => (intro w hSw; (try dsimp only at hSw); go_simp; all_goals with_reducible rfl)
        try simp only [Act.put, List.getElem_toArray, List.getElem_cons_succ, List.getElem_cons_zero, List.setIfInBounds_toArray, List.set_cons_zero, List.set_cons_succ]
        refine wpAnyH_take (i := 2) (v := ?v3) rfl (by kernel_rfl) (by kernel_rfl) (by kernel_rfl) (fun _ _ _ h => h) (Or.inl ⟨by kernel_rfl, ?y3⟩) (by assumption) ?_
        case y3 => (intro w hSw; (try dsimp only at hSw); go_simp; all_goals with_reducible rfl)
        try simp only [Act.put, List.getElem_toArray, List.getElem_cons_succ, List.getElem_cons_zero, List.setIfInBounds_toArray, List.set_cons_zero, List.set_cons_succ]
        refine wpAnyH_take (i := 3) (v := ?v4) rfl (by kernel_rfl) (by kernel_rfl) (by kernel_rfl) (fun _ _ _ h => h) (Or.inl ⟨by kernel_rfl, ?y4⟩) (by assumption) ?_
        case y4 => (intro w hSw; (try dsimp only at hSw); go_simp; all_goals with_reducible rfl)
        try simp only [Act.put, List.getElem_toArray, List.getElem_cons_succ, List.getElem_cons_zero, List.setIfInBounds_toArray, List.set_cons_zero, List.set_cons_succ]
        refine wpAnyH_take (i := 4) (v := ?v5) rfl (by kernel_rfl) (by kernel_rfl) (by kernel_rfl) (fun _ _ _ h => h) (Or.inl ⟨by kernel_rfl, ?y5⟩) (by assumption) ?_
        case y5 => (intro w hSw; (try dsimp only at hSw); go_simp; all_goals with_reducible rfl)
        try simp only [Act.put, List.getElem_toArray, List.getElem_cons_succ, List.getElem_cons_zero, List.setIfInBounds_toArray, List.set_cons_zero, List.set_cons_succ]
        refine wpAnyH_take (i := 6) (v := ?v6) rfl (by kernel_rfl) (by kernel_rfl) (by kernel_rfl) (fun _ _ _ h => h) (Or.inl ⟨by kernel_rfl, ?y6⟩) (by assumption) ?_
        case y6 => (intro w hSw; (try dsimp only at hSw); go_simp; all_goals with_reducible rfl)
        try simp only [Act.put, List.getElem_toArray, List.getElem_cons_succ, List.getElem_cons_zero, List.setIfInBounds_toArray, List.set_cons_zero, List.set_cons_succ]
        refine wpAnyH_take (i := 7) (v := ?v7) rfl (by kernel_rfl) (by kernel_rfl) (by kernel_rfl) (fun _ _ _ h => h) (Or.inl ⟨by kernel_rfl, ?y7⟩) (by assumption) ?_
        case y7 => (intro w hSw; (try dsimp only at hSw); go_simp; all_goals with_reducible rfl)
        try simp only [Act.put, List.getElem_toArray, List.getElem_cons_succ, List.getElem_cons_zero, List.setIfInBounds_toArray, List.set_cons_zero, List.set_cons_succ]
        refine wpAnyH_take (i := 8) (v := ?v8) rfl (by kernel_rfl) (by kernel_rfl) (by kernel_rfl) (fun _ _ _ h => h) (Or.inl ⟨by kernel_rfl, ?y8⟩) (by assumption) ?_
        case y8 => (intro w hSw; (try dsimp only at hSw); go_simp; all_goals with_reducible rfl)
        try simp only [Act.put, List.getElem_toArray, List.getElem_cons_succ, List.getElem_cons_zero, List.setIfInBounds_toArray, List.set_cons_zero, List.set_cons_succ]
        refine wpAnyH_take (i := 9) (v := ?v9) rfl (by kernel_rfl) (by kernel_rfl) (by kernel_rfl) (fun _ _ _ h => h) (Or.inl ⟨by kernel_rfl, ?y9⟩) (by assumption) ?_
        case y9 => (intro w hSw; (try dsimp only at hSw); go_simp; all_goals with_reducible rfl)
        try simp only [Act.put, List.getElem_toArray, List.getElem_cons_succ, List.getElem_cons_zero, List.setIfInBounds_toArray, List.set_cons_zero, List.set_cons_succ]
        refine wpAnyH_take (i := 10) (v := ?v10) rfl (by kernel_rfl) (by kernel_rfl) (by kernel_rfl) (fun _ _ _ h => h) (Or.inl ⟨by kernel_rfl, ?y10⟩) (by assumption) ?_
        case y10 => (intro w hSw; (try dsimp only at hSw); go_simp; all_goals with_reducible rfl)
        try simp only [Act.put, List.getElem_toArray, List.getElem_cons_succ, List.getElem_cons_zero, List.setIfInBounds_toArray, List.set_cons_zero, List.set_cons_succ]
        refine wpAnyH_ready (rs := [5]) (by kernel_rfl) (by simp) (AllReadyH.cons rfl (fun K hK => ?_) AllReadyH.nil)
        go_simp
        go_at_call 34
        refine (HT.out _ HP.out).mono ?_
        rintro e W1 ⟨he, hp8, f, f8⟩
        have FW := kfT f hHeld.2.2
        subst he
        have hp8lt := hp8.hq.lt
        have HQ := hid (HQ.out.fr f8 hxq.out HNQ.out)
        have HP := hid hp8
        clear hp8
        dsimp only
        refine hK.out _ _ ?_ (fun hHeld => ?_)
        · (try dsimp only); (first | (go_split_ands; exact ⟨kc f (by assumption), kc f (by assumption), by assumption⟩) | (go_split_ands; exact ⟨(by assumption), (by assumption), by assumption⟩) | (go_split_ands; exact ⟨kc (fr1 _ _) (by assumption), kc (fr1 _ _) (by assumption), kfa (by assumption)⟩) | (go_split_ands; exact ⟨kc (fr1d _ _) (by assumption), kc (fr1d _ _) (by assumption), kfae (by assumption)⟩) | (exact ⟨y1, y2, FW⟩) | (exact ⟨kcT f (by first | exact hn | exact hn) hHeld.1, kcT f (by first | exact hn | exact hn) hHeld.2.1, FW⟩))
        clear hK K
        try simp only [Act.put, List.getElem_toArray, List.getElem_cons_succ, List.getElem_cons_zero, List.setIfInBounds_toArray, List.set_cons_zero, List.set_cons_succ]
        refine wpAnyH_ready (rs := [11]) (by kernel_rfl) (by simp) (AllReadyH.cons rfl (fun K hK => ?_) AllReadyH.nil)
        go_simp
        go_at_call 35
        refine (HTR.out _ _ _ HQ.out).mono ?_
        rintro e W1 ⟨A4, cp4, he, hq9, hn9, f, f9⟩
        have FW := kfT f hHeld.2.2
        subst he
        have HNQ := hid (NQ.len HL9.out.symm (NQ.step hn9 HP.out.hq.lt HNQ.out))
        have HP := hid (HP.out.fr f9 hpx.out (fun h => hxq.out h.symm))
        have HQ := hid hq9
        clear hq9 hn9
        dsimp only
        refine hK.out _ _ ?_ (fun hHeld => ?_)
        · (try dsimp only); (first | (go_split_ands; exact ⟨kc f (by assumption), kc f (by assumption), by assumption⟩) | (go_split_ands; exact ⟨(by assumption), (by assumption), by assumption⟩) | (go_split_ands; exact ⟨kc (fr1 _ _) (by assumption), kc (fr1 _ _) (by assumption), kfa (by assumption)⟩) | (go_split_ands; exact ⟨kc (fr1d _ _) (by assumption), kc (fr1d _ _) (by assumption), kfae (by assumption)⟩) | (exact ⟨y1, y2, FW⟩) | (exact ⟨kcT f (by first | exact hn | exact hn) hHeld.1, kcT f (by first | exact hn | exact hn) hHeld.2.1, FW⟩))
        clear hK K
        try simp only [Act.put, List.getElem_toArray, List.getElem_cons_succ, List.getElem_cons_zero, List.setIfInBounds_toArray, List.set_cons_zero, List.set_cons_succ]
        refine wpAnyH_take (i := 12) (v := (.bool false)) rfl (by kernel_rfl) (by kernel_rfl) (by kernel_rfl) (fun _ _ _ h => h) (Or.inl ⟨by kernel_rfl, fun w hSw => by first | (go_simp; done) | (go_simp; with_reducible rfl) | (go_simp; omega)⟩) (by assumption) ?_
        try simp only [Act.put, List.getElem_toArray, List.getElem_cons_succ, List.getElem_cons_zero, List.setIfInBounds_toArray, List.set_cons_zero, List.set_cons_succ]
        refine wpAnyH_done (by kernel_rfl) ?_ _
        refine NoPanic.normal ?_
        go_wp2_with fail
        go_meet
        case rel => exact ⟨rfl, A4, cp4, HP.out, HQ.out, HNQ.out, FW.out⟩
      case rest =>
        obtain ⟨rfl, A4, cp4, hp4, hq4, hn4, f⟩ := hcut
        replace HP := hid hp4
        replace HQ := hid hq4
        replace HNQ := hid hn4
        replace HF := hid (HF.out.step f (fun i hi e => by have := HQW.out; have := hxw.out; omega))
        clear f hp4 hq4 hn4
        go_wp2_with (first | (go_at_call 31; refine (looks_ok p q x A4 cp4 c s n l k b R' _ HP.out HQ.out HS2.out).mono ?_; rintro e w7 ⟨rfl, f⟩; replace HF := hid (HF.out.trans f); replace HP := hid (HP.out.fr0 f); replace HQ := hid (HQ.out.fr0 f); clear f) | (go_at_call 36; refine (sound_ok p q c s n l k b R' true _ HP.out (by simp [HS2.out])).mono ?_; rintro e w7 ⟨rfl, f⟩; replace HF := hid (HF.out.trans f); replace HP := hid (HP.out.fr0 f); replace HQ := hid (HQ.out.fr0 f); clear f))
        go_roundw
        case rel => exact ⟨j + 1, by go_num, by omega, R', A4, cp4, HP.out, HQ.out, HO2.out, HS2.out, HNQ.out, HF.out⟩
        case measure => first | exact next_m _ _ hj1 hw1 | (simp only [intOf]; omega)
theorem does_ok (c s n l k : Int) (A : Option Addr) (cp : Nat) (R : List Int) (B : Option Addr) (lo co : Nat) (os : List (Int × Int × Int)) (w : World) (hs : inI s) (hx : RdI w A R.length R) (hb : R.length ≤ 17592186044416) (hO : PlOps.RdO w B lo os) (hI : ∀ t ∈ os, inI t.2.1) (hlc : lo ≤ co) (hcm : co ≤ maxLen) : Calls Try.prog 7 #[.agg #[.int .i64 c, .int .i64 s, .int .i64 n, .int .i64 l, .int .i64 k], .slice A R.length cp, .slice B lo co] w fun e w' => e = .returned (.bool true) ∧ Fr No w w' := by
  by_cases h30 : 30 < s
  · exact does_big c s n l k A cp R B lo co w h30
  by_cases hm : mayG ⟨c, s, n, l, k⟩
  · by_cases hl : (R.length : Int) = s
    · have hln : R.length ≤ 1000000 := by omega
      by_cases ho : ok R
      · by_cases hso : sound k (s - k - 1) R
        · exact does_y c s n l k A cp R B lo co os w h30 hx hb hm hl ho hso hO hI hlc hcm
        · exact does_bad c s n l k A cp R B lo co w h30 hx hb hm (fun W A c1 h => (load_s c s n l k A c1 R false W hm hl h ho (by simp [hso])).mono fun e w' h => ⟨h.1.2 rfl, h.2⟩) (fun W h => (rload_s A cp c s n l k R ho false hm (by simp [hso]) W hl hln h).mono fun e w' h => match h with | ⟨_, _, _, h1, _, _, _, h2⟩ => ⟨⟨_, h1⟩, h2⟩)
      · exact does_bad c s n l k A cp R B lo co w h30 hx hb hm (fun W A c1 h => load_role c s n l k A c1 R W hm hl h ho) (fun W h => (rload_role A cp c s n l k R ho W hl hln h).mono fun e w' h => ⟨⟨_, h.1⟩, h.2⟩)
    · exact does_bad c s n l k A cp R B lo co w h30 hx hb hm (fun W A c1 _ => load_len c s n l k A c1 R W hm hl) (fun W _ => (rload_len A cp c s n l k R W hl).mono fun e w' h => ⟨⟨_, h.1⟩, h.2⟩)
  · exact does_n c s n l k A cp R B lo co w h30 hs hx hb hm
theorem does_row (c s n l k : Int) (A : Option Addr) (ln cp : Nat) (R : List Int) (B : Option Addr) (lo co : Nat) (os : List (Int × Int × Int)) (w : World) (hs : inI s) (hx : RdI w A ln R) (hb : ln * 8 ≤ 140737488355328) (hO : PlOps.RdO w B lo os) (hI : ∀ t ∈ os, inI t.2.1) (hlc : lo ≤ co) (hcm : co ≤ maxLen) : Calls Try.prog 7 #[.agg #[.int .i64 c, .int .i64 s, .int .i64 n, .int .i64 l, .int .i64 k], .slice A ln cp, .slice B lo co] w fun e w' => e = .returned (.bool true) ∧ Fr No w w' := by
  obtain rfl : R.length = ln := hx.1
  exact does_ok c s n l k A cp R B lo co os w hs hx (by omega) hO hI hlc hcm
end Go.Proofs.Ytecngikdfplibaa.PlT
