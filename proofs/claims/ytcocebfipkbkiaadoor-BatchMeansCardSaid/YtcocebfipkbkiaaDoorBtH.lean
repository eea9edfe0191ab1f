/- Contract: what any bytes are as the head of a batch, by the program, whatever batch it is. Conditions: they read as bytes; the table of sums is as its text lays it. -/
import Derived.Test.YtcocebfipkbkiaaDoorBtE
import Derived.Test.YtcocebfipkbkiaaDoorRdA
import Derived.Test.YtcocebfipkbkiaaDoorCrcF
import Derived.Test.YtcocebfipkbkiaaDoorSpO
namespace Go.Proofs.YtcocebfipkbkiaaDoor.BtH
open Go.RowKit MSep MSepC MFrame LeW LeR LeX RdA CrcM CrcA CrcE MSpM BtA Kit SpO
open BtM (Ba)
open BtE (rdS_lo)
open SpA (w64)

def by8 (st : Option (List Int)) : Prop := ∀ ys, st = some ys → ∀ x ∈ ys, 0 ≤ x ∧ x ≤ 255
theorem gt_by8 {n : Nat} {st : Option (List Int)} (h : by8 st) : by8 (gt n st).2 := by
  intro ys hy
  cases st with
  | none => cases hy
  | some xs =>
    by_cases hl : xs.length < n
    · rw [gt, if_pos hl] at hy; cases hy
    · rw [gt, if_neg hl] at hy
      cases hy
      exact fun x hx => h _ rfl x (List.mem_of_mem_drop hx)
theorem gi_by8 {n : Nat} {a b : Int} {st : Option (List Int)} (h : by8 st) : by8 (gi n a b st).2 := by
  intro ys hy
  cases st with
  | none => cases hy
  | some xs =>
    by_cases hl : xs.length < n
    · rw [gi, if_pos hl] at hy; cases hy
    · rw [gi, if_neg hl] at hy
      split at hy
      · cases hy
        exact fun x hx => h _ rfl x (List.mem_of_mem_drop hx)
      · cases hy
theorem gt_in {n : Nat} {st : Option (List Int)} (h : by8 st) : 0 ≤ (gt n st).1 ∧ (gt n st).1 < 256 ^ n := by
  have hp : (0 : Int) < 256 ^ n := Int.pow_pos (by decide)
  cases st with
  | none => exact ⟨Int.le_refl 0, hp⟩
  | some xs =>
    by_cases hl : xs.length < n
    · rw [gt, if_pos hl]; exact ⟨Int.le_refl 0, hp⟩
    · rw [gt, if_neg hl]; exact RcM.num_take (h _ rfl) n (by omega)
theorem gi_in (n : Nat) (a b : Int) (st : Option (List Int)) : (gi n a b st).1 = 0 ∨ (a ≤ (gi n a b st).1 ∧ (gi n a b st).1 ≤ b) := by
  cases st with
  | none => exact Or.inl rfl
  | some xs =>
    by_cases hl : xs.length < n
    · rw [gi, if_pos hl]; exact Or.inl rfl
    · by_cases hb : a ≤ wrap64 (num (xs.take n)) ∧ wrap64 (num (xs.take n)) ≤ b
      · rw [gi, if_neg hl, if_pos hb]; exact Or.inr hb
      · rw [gi, if_neg hl, if_neg hb]; exact Or.inl rfl
theorem get_rd (g n : Nat) (B : Nat) (U : Nat → Prop) (st : Option (List Int)) (w : World) (hs : n = 1 ∨ n = 2 ∨ n = 4 ∨ n = 8) (h : RdO w B U g st) :
    Calls Tryd.prog 75 #[.pointer (some ⟨g, 0, none⟩), .int .i64 n] w fun e w' => e = .returned (.int .u64 (gt n st).1) ∧ RdO w' B U g (gt n st).2 ∧ Fr (fun k => k = g) w w' := by
  have hu := h.own
  cases st with
  | none =>
    refine (get_bad g n B true none 0 [] w (.inr (by simp; omega)) h.1).mono ?_
    rintro e w' ⟨rfl, h1, h2⟩
    exact ⟨rfl, ⟨h1, hu⟩, h2⟩
  | some xs =>
    obtain ⟨A, c, h1, h2⟩ := h
    by_cases hl : xs.length < n
    · simp only [gt, if_pos hl]
      refine (get_bad g n B false A c xs w (.inr (by omega)) h1).mono ?_
      rintro e w' ⟨rfl, h3, h4⟩
      exact ⟨rfl, ⟨h3, hu⟩, h4⟩
    · simp only [gt, if_neg hl]
      refine (get_ok g n B false A c xs w hs (by omega) h1).mono ?_
      rintro e w' ⟨rfl, h3, h4⟩
      exact ⟨rfl, ⟨_, _, h3, fun k hk => h2 k (RF.cut hk)⟩, h4⟩

/-- What is got of a head behind its mark, ahead of its spans; of a span; of so many spans. -/
structure Hh where
  k : Int
  q : Int
  s : Int
  n : Nat
  st : Option (List Int)
def hh (st : Option (List Int)) : Hh :=
  let a := gt 1 st
  let b := gi 1 1 8 a.2
  let c := gt 8 b.2
  let d := gt 4 c.2
  ⟨a.1, wrap64 c.1, d.1, b.1.toNat, d.2⟩
def pS (st : Option (List Int)) : Sp × Option (List Int) :=
  let a := gt 4 st
  let b := gt 2 a.2
  ((a.1, b.1), (gi 2 0 0 b.2).2)
def pSs : Nat → Option (List Int) → List Sp × Option (List Int)
  | 0, st => ([], st)
  | n + 1, st => ((pSs n st).1 ++ [(pS (pSs n st).2).1], (pS (pSs n st).2).2)
theorem pSs_len (st : Option (List Int)) : ∀ n, (pSs n st).1.length = n
  | 0 => rfl
  | n + 1 => by rw [pSs, List.length_append, pSs_len st n]; rfl
theorem pS_by8 {st : Option (List Int)} (h : by8 st) : by8 (pS st).2 := gi_by8 (gt_by8 (gt_by8 h))
theorem pSs_by8 {st : Option (List Int)} (h : by8 st) : ∀ n, by8 (pSs n st).2
  | 0 => h
  | n + 1 => pS_by8 (pSs_by8 h n)
def hP1 (h : Hh) : Option (Ba × Int) := if RdA.dn (pSs h.n h.st).2 = 0 ∧ ¬ (h.k = 2 ∧ h.s ≠ 0) then some (⟨h.q, h.k, (pSs h.n h.st).1⟩, h.s) else none
def hP (xs : List Int) : Option (Ba × Int) := if xs.take 2 = [66, 84] then hP1 (hh (some (xs.drop 2))) else none
def secOk (zs : List Int) : Bool := zs.length == 128 && ld zs 4 == onN 0 (zs.drop 4)
/-- What bytes are as a head. -/
def headP (zs : List Int) : Option (Ba × Int) := if secOk zs then hP (zs.drop 4) else none
theorem mark_eq {ys : List Int} (h : ∀ x ∈ ys, 0 ≤ x ∧ x ≤ 255) : ((strOfNums ys).toList == ([66, 84] : List UInt8)) = decide (ys = [66, 84]) := by
  rw [CrcF.str_list]
  by_cases e : ys = [66, 84]
  · subst e; rfl
  · rw [decide_eq_false e, beq_eq_false_iff_ne]
    intro h2
    exact e (CrcF.str_inj h (by decide) (h2.trans rfl))
theorem resH {fn : Func} {p q r : Tmp} (h : fn.results = #[.cell p 26, .tmp q, .tmp r]) (tmps : Array Value) (w : World) (g : Nat) (a b : Int) (A : Option Addr) (l c : Nat) (y z : Value) (hp : tmps.getD p undef = .pointer (some ⟨g, 0, none⟩)) (hq : tmps.getD q undef = y) (hr : tmps.getD r undef = z) (hg : BB w g a b A l c) :
    (results fn tmps).run Tryd.prog w = .ok (.tuple #[bv a b A l c, y, z]) w := by
  have hp' : tmps[p]?.getD undef = .pointer (some ⟨g, 0, none⟩) := by simpa using hp
  have hq' : tmps[q]?.getD undef = y := by simpa using hq
  have hr' : tmps[r]?.getD undef = z := by simpa using hr
  have hl := run_loadVar_row (P := Tryd.prog) w g 26 26 _ (0, 0) _ hg Tryd.underlying26 rfl (by kernel_rfl)
  simp [results, h, hp', hq', hr', asAddr, hl, bv]
theorem st_bt {ops : Array Oper} {rest : List Oper} {o : Oper} {ac : Act} {w : World} {Q : Exit → Act → World → Prop} (hgd : o.guard = none) (p y : Operand) (ho : o.op = .store 26 p y) (g : Nat) (hx : ac.eval p = .pointer (some ⟨g, 0, none⟩)) {a0 a1 a2 : Value}
    (hy : ac.eval y = .agg #[a0, a1, a2]) (h1 : (#[a0, a1, a2] : Array Value).all (·.oneCell') = true) {cs : Array Value} (hg : Blk w g 26 cs) (hsz : cs.size = 3)
    (h : ∀ W', Blk W' g 26 #[a0, a1, a2] → Fr (fun q => q = g) w W' → wpList Tryd.prog ops Q rest (ac.put o.dst undef) W') : wpList Tryd.prog ops Q (o :: rest) ac w :=
  wpList_store_row hgd 26 p y ho g _ hx hy 26 _ hg infoBt (hsz.trans rfl) h1 (h _ (Blk.setRow hg _) (Fr.setRow (S := fun q => q = g) (Fr.refl _ _) (fun _ => rfl) _))
theorem rdS_lo2 {S : Nat → Prop} {w w' : World} {A : Option Addr} {n : Nat} {l : List Sp} (h : RdS w A n l) (hf : Fr S w w') (hS : ∀ g o, A = some ⟨g, o, none⟩ → ¬ S g) : RdS w' A n l := ⟨h.1, h.2.fr hf hS⟩
theorem out_lim {B : Nat} {w : World} {A : Option Addr} {n c : Nat} {l : List Sp} (h : Out B w (.slice A n c) l) : n ≤ c ∧ c ≤ maxLen := by
  rcases h.2 with ⟨hv, h0⟩ | ⟨g, cap, cur, hv, hb, hg, hnc, hcm, hcs, htake⟩
  · injection hv with h1 h2 h3
    subst h2 h3
    exact ⟨Nat.le_refl _, by simp [maxLen]⟩
  · injection hv with h1 h2 h3
    subst h2 h3
    exact ⟨hnc, hcm⟩
def RetH (w w' : World) (E : Ending) (o : Option (Ba × Int)) : Prop := (match o with
  | none => E = .returned (.tuple #[bv 0 0 none 0 0, .int .u32 0, .bool false])
  | some r => ∃ A c, E = .returned (.tuple #[bv r.1.q r.1.k A r.1.l.length c, .int .u32 r.2, .bool true]) ∧ RdS w' A r.1.l.length r.1.l ∧ (r.1.l.length ≤ c ∧ c ≤ maxLen) ∧ ∀ g o, A = some ⟨g, o, none⟩ → w.heap.size ≤ g) ∧ Fr No w w'
/-- What stands in memory while the spans are got. -/
def LI (w : World) (R D B g : Nat) (U : Nat → Prop) (h : Hh) (j : Nat) (wr : World) : Prop := ∃ A c, RdO wr B U g (pSs j h.st).2 ∧ BB wr D h.q h.k A j c ∧ Out (D + 1) wr (.slice A j c) (pSs j h.st).1 ∧ BB wr R 0 0 none 0 0 ∧ Fr No w wr
theorem u32w (n : Int) (h : 0 ≤ n ∧ n < 4294967296) : IntKind.u32.wrap n = n := by rw [IntKind.wrap_u32]; omega
set_option maxRecDepth 100000 in
set_option maxHeartbeats 8000000 in
theorem headOf_ok (A : Option Addr) (l c : Nat) (zs : List Int) (w : World) (hb : IsB w A l c zs) (hT : TabAt w) :
    Calls Tryd.prog 46 #[.slice A l c] w fun E w' => RetH w w' E (headP zs) := by
  have hlen : zs.length = l := by simpa using hb.1.1
  obtain ⟨R, hR⟩ : ∃ R, w.heap.size = R := ⟨_, rfl⟩
  obtain ⟨w1, hw1⟩ : ∃ w1, w.alloc (.cells (bcs 0 0 none 0 0) 26) = w1 := ⟨_, rfl⟩
  have FW := hid (show Fr No w w1 by rw [← hw1]; exact fr1 _ _)
  have HQ : BB w1 R 0 0 none 0 0 := by rw [← hw1, ← hR]; exact BB.new _ _ _ _ _ _
  have hs1 : w1.heap.size = R + 1 := by rw [← hw1, ← hR]; simp
  have HS1 := hid hs1
  have HW1 := hid hw1
  have HI := hid (hb.fr FW.out)
  have HT1 := hid (hT.fr FW.out (fun h => h))
  have HLEN := hid hlen
  have HR := hid hR
  clear hb hT hw1 hs1 hlen hR
  obtain ⟨V, hV⟩ : ∃ V, headP zs = V := ⟨_, rfl⟩
  rw [hV]
  go_enter Tryd.func46, Tryd.ntmps46
  go_upto_region 1 with fail
  try rw [show w.alloc (Obj.cells #[.int .i64 0, .int .i64 0, .slice none 0 0] 26) = w1 from HW1.out]
  try rw [HR.out]
  by_cases hs : secOk zs = true
  case neg =>
    obtain rfl : V = none := by rw [← hV, headP, if_neg hs]
    have HC : Hid ((l == 128 && ld zs 4 == onN 0 (zs.drop 4)) = false) := hid (by rw [← HLEN.out]; simpa [secOk] using hs)
    clear hV hs
    go_wp2_with (first | (go_at_call 72; refine (check_any _ _ _ zs _ HI.out HT1.out).mono ?_; rintro e' w2 ⟨rfl, rfl⟩; rw [HC.out]) | (refine st_bt rfl (.tmp 2) (.tmp 13) rfl R rfl rfl (by simp [Value.oneCell']) HQ rfl ?_; intro w9 HQ9 f9; have HF9 := hid (FW.out.step f9 (fun i hi e => by have := HR.out; omega)); clear f9))
    exact bodyPost_ret (v := .tuple #[bv 0 0 none 0 0, .int .u32 0, .bool false]) (resH rfl _ _ R 0 0 none 0 0 (.int .u32 0) (.bool false) rfl rfl rfl HQ9) rfl ⟨rfl, HF9.out⟩
  have HC : Hid ((l == 128 && ld zs 4 == onN 0 (zs.drop 4)) = true) := hid (by rw [← HLEN.out]; exact hs)
  have hl : l = 128 := by have := HC.out; simp only [Bool.and_eq_true, beq_iff_eq] at this; exact this.1
  subst hl
  have hVd : hP (zs.drop 4) = V := by rw [← hV, headP, if_pos hs]
  have HVD := hid hVd
  clear hV hs hVd
  obtain ⟨ga, oa, rfl, hga, _⟩ := HI.out.1.2 (by omega)
  have hc4 : ¬ c = 4 := by have := HI.out.2.1; omega
  have HR4 : Hid (Rd w1 (some ⟨ga, oa + 4, none⟩) 124 ((zs.drop 4).map (Value.int .u8))) := hid (by
    have := HI.out.1.cut (k := 4) (c := c) (by omega) HI.out.2.1
    unfold cutA at this
    rw [if_neg hc4] at this
    simpa [add_off, List.map_drop] using this)
  have HU8 := hid (show ∀ x ∈ zs.drop 4, 0 ≤ x ∧ x ≤ 255 from fun x hx => HI.out.2.2.2 x (List.mem_of_mem_drop hx))
  have HCC := hid HI.out.2
  have HD4 := hid (show (zs.drop 4).length = 124 by rw [List.length_drop, HLEN.out])
  obtain ⟨X, hX⟩ : ∃ X, zs.drop 4 = X := ⟨_, rfl⟩
  rw [hX] at HR4 HU8 HVD HD4
  clear hX
  have hc4l : (4 : Int) ≤ (128 : Nat) := by decide
  go_upto_region 4 with (first | (go_at_call 72; refine (check_any _ _ _ zs _ HI.out HT1.out).mono ?_; rintro e' w2 ⟨rfl, rfl⟩; rw [HC.out]) | (go_at_call 73; refine (take_rd (some ⟨ga, oa + 4, none⟩) 124 (c - 4) X w1 HR4.out HU8.out (by decide)).mono ?_; rintro e' w3 ⟨g, rfl, HS, f3⟩; rw [HS1.out] at HS; replace FW := hid (FW.out.trans f3); replace HQ := Blk.fr HQ f3 (fun h => h); have HG := hid (HS.own); have HLT := hid (HS.lt); have HB3 := hid (show R + 1 ≤ w3.heap.size by have := f3.size; have := HS1.out; omega); clear f3))
  have hmk := mark_eq (ys := X.take 2) (fun x hx => HU8.out x (List.mem_of_mem_take hx))
  have hUg : ∀ k, R + 1 ≤ k ∧ k < w3.heap.size → R < k ∧ k < w3.heap.size := fun k h => ⟨by omega, h.2⟩
  have HUG := hid hUg
  clear hUg
  by_cases hm : X.take 2 = [66, 84]
  case neg =>
    rw [decide_eq_false hm] at hmk
    obtain rfl : V = none := by rw [← HVD.out, hP, if_neg hm]
    clear hm
    go_wp2_with (first | (go_at_call 74; refine (bytes_rd g 2 (R + 1) _ X _ (by have := HD4.out; omega) HB3.out HS).mono ?_; rintro e' w4 ⟨A4, c4, rfl, hr4, HS, f4⟩; have hcv := run_str (P := Tryd.prog) w4 27 9 5 Tryd.underlying27 Tryd.underlying5 Tryd.underlying9 A4 2 c4 (X.take 2) (by simpa [List.map_take] using hr4); replace FW := hid (FW.out.step f4 (fun i hi h => by have := HUG.out g HG.out; have := HR.out; omega)); replace HQ := Blk.fr HQ f4 (fun h => by have := HUG.out g HG.out; omega); have hsz4 := hid f4.size; clear f4 hr4) | (refine st_bt rfl (.tmp 2) (.tmp 21) rfl R rfl rfl (by simp [Value.oneCell']) HQ rfl ?_; intro w9 HQ9 f9; have HF9 := hid (FW.out.step f9 (fun i hi e => by have := HR.out; omega)); clear f9))
    exact bodyPost_ret (v := .tuple #[bv 0 0 none 0 0, .int .u32 0, .bool false]) (resH rfl _ _ R 0 0 none 0 0 (.int .u32 0) (.bool false) rfl rfl rfl HQ9) rfl ⟨rfl, HF9.out⟩
  rw [decide_eq_true hm] at hmk
  have HVM : Hid (hP1 (hh (some (X.drop 2))) = V) := hid (by rw [← HVD.out, hP, if_pos hm])
  obtain ⟨H, hH⟩ : ∃ H, hh (some (X.drop 2)) = H := ⟨_, rfl⟩
  have h8 : by8 (some (X.drop 2)) := fun ys hy x hx => by cases hy; exact HU8.out x (List.mem_of_mem_drop hx)
  have hN8 : H.n ≤ 8 := by
    rw [← hH]
    have := gi_in 1 1 8 (gt 1 (some (X.drop 2))).2
    show (gi 1 1 8 (gt 1 (some (X.drop 2))).2).1.toNat ≤ 8
    omega
  have hHs : by8 H.st := by rw [← hH]; exact gt_by8 (gt_by8 (gi_by8 (gt_by8 h8)))
  have e1 : H.k = (gt 1 (some (X.drop 2))).1 := by rw [← hH]; rfl
  have e2 : (H.n : Int) = (gi 1 1 8 (gt 1 (some (X.drop 2))).2).1 := by
    rw [← hH]
    have := gi_in 1 1 8 (gt 1 (some (X.drop 2))).2
    show ((gi 1 1 8 (gt 1 (some (X.drop 2))).2).1.toNat : Int) = _
    omega
  have e3 : H.q = wrap64 (gt 8 (gi 1 1 8 (gt 1 (some (X.drop 2))).2).2).1 := by rw [← hH]; rfl
  have e4 : H.s = (gt 4 (gt 8 (gi 1 1 8 (gt 1 (some (X.drop 2))).2).2).2).1 := by rw [← hH]; rfl
  have e5 : H.st = (gt 4 (gt 8 (gi 1 1 8 (gt 1 (some (X.drop 2))).2).2).2).2 := by rw [← hH]; rfl
  have b1 := gt_in (n := 1) h8
  have b4 := gt_in (n := 4) (gt_by8 (n := 8) (gi_by8 (n := 1) (a := 1) (b := 8) (gt_by8 (n := 1) h8)))
  rw [show (256 : Int) ^ 1 = 256 by decide] at b1
  rw [show (256 : Int) ^ 4 = 4294967296 by decide] at b4
  rw [← e1] at b1
  rw [← e4] at b4
  have HH8 := hid (And.intro hN8 hHs)
  rw [hH] at HVM
  obtain ⟨s1, hs1⟩ : ∃ s, (gt 1 (some (X.drop 2))).2 = s := ⟨_, rfl⟩
  rw [hs1] at e2 e3 e4 e5
  obtain ⟨s2, hs2⟩ : ∃ s, (gi 1 1 8 s1).2 = s := ⟨_, rfl⟩
  rw [hs2] at e3 e4 e5
  obtain ⟨s3, hs3⟩ : ∃ s, (gt 8 s2).2 = s := ⟨_, rfl⟩
  rw [hs3] at e4 e5
  obtain ⟨q0, hq0⟩ : ∃ q, (gt 8 s2).1 = q := ⟨_, rfl⟩
  rw [hq0] at e3
  have HE1 := hid (show gt 1 (some (X.drop 2)) = (H.k, s1) from Prod.ext e1.symm hs1)
  have HE2 := hid (show gi 1 1 8 s1 = ((H.n : Int), s2) from Prod.ext e2.symm hs2)
  have HE3 := hid (show gt 8 s2 = (q0, s3) from Prod.ext hq0 hs3)
  have HE4 := hid (show gt 4 s3 = (H.s, H.st) from Prod.ext e4.symm e5.symm)
  obtain ⟨Hk, Hq, Hs, Hn, Hst⟩ := H
  dsimp only at e3 b1 b4 HH8 HE1 HE2 HE4
  have HE5 := hid e3.symm
  have hk64 : wrap64 Hk = Hk := w64 _ (by omega)
  have hs32 : IntKind.u32.wrap Hs = Hs := u32w _ b4
  have hwq : wrap64 q0 = Hq := e3.symm
  clear hs1 hs2 hs3 hq0 e1 e2 e3 e4 e5 hH h8 hN8 hHs hm HVD
  go_upto_region 7 with ((go_at_call 74; refine (bytes_rd g 2 (R + 1) _ X _ (by have := HD4.out; omega) HB3.out HS).mono ?_; rintro e' w4 ⟨A4, c4, rfl, hr4, HS, f4⟩; have hcv := run_str (P := Tryd.prog) w4 27 9 5 Tryd.underlying27 Tryd.underlying5 Tryd.underlying9 A4 2 c4 (X.take 2) (by simpa [List.map_take] using hr4); replace FW := hid (FW.out.step f4 (fun i hi h => by have := HUG.out g HG.out; have := HR.out; omega)); replace HQ := Blk.fr HQ f4 (fun h => by have := HUG.out g HG.out; omega); have hsz4 := hid f4.size; clear f4 hr4))
  obtain ⟨D, hD⟩ : ∃ D, w4.heap.size = D := ⟨_, rfl⟩
  obtain ⟨w5, hw5⟩ : ∃ w5, w4.alloc (.cells (bcs 0 0 none 0 0) 26) = w5 := ⟨_, rfl⟩
  have HD : BB w5 D 0 0 none 0 0 := by rw [← hw5, ← hD]; exact BB.new _ _ _ _ _ _
  have f5 : Fr No w4 w5 := by rw [← hw5]; exact fr1 _ _
  have HSD := hid (show w3.heap.size ≤ D by rw [← hD]; exact hsz4.out)
  replace FW := hid (FW.out.trans f5)
  replace HQ := Blk.fr HQ f5 (fun h => h)
  replace HS := HS.fr f5 (fun _ _ h => h)
  have HS5 := hid (show w5.heap.size = D + 1 by rw [← hw5, ← hD]; simp)
  try rw [show w4.alloc (Obj.cells #[.int .i64 0, .int .i64 0, .slice none 0 0] 26) = w5 from hw5]
  try rw [hD]
  have HGN := hid (show g ≠ R ∧ g ≠ D ∧ g < D by have := HUG.out g HG.out; have := HSD.out; omega)
  have HUD := hid (show ∀ k, (R + 1 ≤ k ∧ k < w3.heap.size) → k ≠ D ∧ k ≠ R from fun k h => by have := HSD.out; omega)
  clear hw5 hD f5 hmk
  have hgd : (fun k => k = g) D → False := fun h => HGN.out.2.1 h.symm
  have hgr : (fun k => k = g) R → False := fun h => HGN.out.1 h.symm
  go_upto_region 8 with (go_at_call 75; go_loud (refine (get_rd g 1 (R + 1) _ _ _ (by decide) HS).mono ?_; rintro e' w6 ⟨rfl, hr6, f6⟩; rw [HE1.out] at hr6 ⊢; dsimp only at hr6 ⊢; have HD6 := hid (Blk.fr HD f6 hgd); have HQ6 := hid (Blk.fr HQ f6 hgr); have HS6 := hid hr6; replace FW := hid (FW.out.step f6 (fun i hi h => by have := HUG.out g HG.out; have := HR.out; omega)); have c1 : w6.cell? ⟨D, 1, none⟩ = some (.int .i64 0) := Blk.cell HD6.out 1; have z1 : w6.frozen? ⟨D, 1, none⟩ = false := Blk.frozen HD6.out 1; clear hr6 f6 HD HQ HS))
  obtain ⟨w7, hw7⟩ : ∃ w7, w6.setCell ⟨D, 1, none⟩ (.int .i64 Hk) = w7 := ⟨_, rfl⟩
  have f7 : Fr (fun k => k = D) w6 w7 := by rw [← hw7]; exact Fr.set1 w6 D 1 _
  have HD7 : BB w7 D 0 Hk none 0 0 := by have := Blk.set_ HD6.out 1 (.int .i64 Hk); rw [hw7] at this; simpa [BB, bcs] using this
  have HQ7 := Blk.fr HQ6.out f7 (fun h => by have := HSD.out; have := HB3.out; omega)
  have HS7 := HS6.out.fr f7 (fun k hk h => (HUD.out k hk).1 h)
  replace FW := hid (FW.out.step f7 (fun i hi h => by have := HSD.out; have := HB3.out; have := HR.out; omega))
  rw [hw7]
  clear c1 z1 hw7 f7 HD6 HQ6 HS6
  go_upto_region 9 with (go_at_call 76; go_loud (refine (int_rd g 1 1 8 (R + 1) _ _ _ (by decide) HS7).mono ?_; rintro e' w8 ⟨rfl, hr8, f8⟩; rw [HE2.out] at hr8 ⊢; dsimp only at hr8 ⊢; have HD8 := hid (Blk.fr HD7 f8 hgd); have HQ8 := hid (Blk.fr HQ7 f8 hgr); have HS8 := hid hr8; replace FW := hid (FW.out.step f8 (fun i hi h => by have := HUG.out g HG.out; have := HR.out; omega)); clear hr8 f8 HD7 HQ7 HS7))
  go_upto_region 10 with (go_at_call 75; go_loud (refine (get_rd g 8 (R + 1) _ _ _ (by decide) HS8.out).mono ?_; rintro e' w9 ⟨rfl, hr9, f9⟩; rw [HE3.out] at hr9 ⊢; dsimp only at hr9 ⊢; have HD9 := hid (Blk.fr HD8.out f9 hgd); have HQ9 := hid (Blk.fr HQ8.out f9 hgr); have HS9 := hid hr9; replace FW := hid (FW.out.step f9 (fun i hi h => by have := HUG.out g HG.out; have := HR.out; omega)); have c0 : w9.cell? ⟨D, 0, none⟩ = some (.int .i64 0) := Blk.cell HD9.out 0; have z0 : w9.frozen? ⟨D, 0, none⟩ = false := Blk.frozen HD9.out 0; clear hr9 f9 HD8 HQ8 HS8))
  obtain ⟨wa, hwa⟩ : ∃ wa, w9.setCell ⟨D, 0, none⟩ (.int .i64 Hq) = wa := ⟨_, rfl⟩
  have fa : Fr (fun k => k = D) w9 wa := by rw [← hwa]; exact Fr.set1 w9 D 0 _
  have HDa : BB wa D Hq Hk none 0 0 := by have := Blk.set_ HD9.out 0 (.int .i64 Hq); rw [hwa] at this; simpa [BB, bcs] using this
  have HQa := Blk.fr HQ9.out fa (fun h => by have := HSD.out; have := HB3.out; omega)
  have HSa := HS9.out.fr fa (fun k hk h => (HUD.out k hk).1 h)
  replace FW := hid (FW.out.step fa (fun i hi h => by have := HSD.out; have := HB3.out; have := HR.out; omega))
  rw [hwa]
  clear c0 z0 hwa fa HD9 HQ9 HS9
  go_upto_region 11 with (go_at_call 75; go_loud (refine (get_rd g 4 (R + 1) _ _ _ (by decide) HSa).mono ?_; rintro e' wb ⟨rfl, hrb, fb⟩; rw [HE4.out] at hrb ⊢; dsimp only at hrb ⊢; have HDb := hid (Blk.fr HDa fb hgd); have HQb := hid (Blk.fr HQa fb hgr); have HSb := hid hrb; replace FW := hid (FW.out.step fb (fun i hi h => by have := HUG.out g HG.out; have := HR.out; omega)); clear hrb fb HDa HQa HSa))
  go_wp2
  clear hk64 hs32 hwq
  have HLW := hid (show Hn ≤ 8 from HH8.out.1)
  go_loopw [36] (fun i wr => ∃ j : Nat, j ≤ Hn ∧ i = .int .i64 j ∧ LI w R D (R + 1) g (fun k => R + 1 ≤ k ∧ k < w3.heap.size) ⟨Hk, Hq, Hs, Hn, Hst⟩ j wr) (fun i _ => Hn - (intOf i).toNat)
  case atStart => exact ⟨0, by omega, rfl, none, 0, HSb.out, HDb.out, Out.nil _ _, HQb.out, FW.out⟩
  case round =>
    clear FW HDb HQb HSb
    obtain ⟨j, hj, rfl, As, cs, hrs, hd, hout, hq, hf⟩ := hrel
    dsimp only at hrs hd hout
    by_cases hlt : j < Hn
    · have hlt3 : (j : Int) < Hn := by omega
      have h0j : (0 : Int) ≤ j := by omega
      have hw1 : wrap64 ((j : Int) + 1) = (j : Int) + 1 := w64 _ (by have := HLW.out; omega)
      have hpl := pSs_len Hst j
      have hb8 := pSs_by8 HH8.out.2 j
      have hE : pSs (j + 1) Hst = ((pSs j Hst).1 ++ [(pS (pSs j Hst).2).1], (pS (pSs j Hst).2).2) := rfl
      obtain ⟨⟨L, st⟩, hL⟩ : ∃ p, pSs j Hst = p := ⟨_, rfl⟩
      rw [hL] at hrs hout hpl hb8 hE
      dsimp only at hrs hout hpl hb8 hE
      obtain ⟨a0, ha0⟩ : ∃ a, (gt 4 st).1 = a := ⟨_, rfl⟩
      obtain ⟨t1, ht1⟩ : ∃ a, (gt 4 st).2 = a := ⟨_, rfl⟩
      obtain ⟨n0, hn0⟩ : ∃ a, (gt 2 t1).1 = a := ⟨_, rfl⟩
      obtain ⟨t2, ht2⟩ : ∃ a, (gt 2 t1).2 = a := ⟨_, rfl⟩
      obtain ⟨t3, ht3⟩ : ∃ a, (gi 2 0 0 t2).2 = a := ⟨_, rfl⟩
      have hpS : pS st = ((a0, n0), t3) := by
        show ((_, _), _) = _
        rw [ht1, ht2, ha0, hn0, ht3]
      rw [hpS] at hE
      have ba := gt_in (n := 4) hb8
      have bn := gt_in (n := 2) (gt_by8 (n := 4) hb8)
      rw [show (256 : Int) ^ 4 = 4294967296 by decide, ha0] at ba
      rw [show (256 : Int) ^ 2 = 65536 by decide, ht1, hn0] at bn
      have G1 := hid (show gt 4 st = (a0, t1) from Prod.ext ha0 ht1)
      have G2 := hid (show gt 2 t1 = (n0, t2) from Prod.ext hn0 ht2)
      have G3 := hid ht3
      have HE := hid hE
      have HPL := hid hpl
      have hwa : wrap64 a0 = a0 := w64 _ (by omega)
      have hwn : wrap64 n0 = n0 := w64 _ (by omega)
      have HDr := hid hd
      have HQr := hid hq
      have HOr := hid hout
      have HSr := hid hrs
      have FR := hid hf
      have HGE := hid (show ∀ q, (Value.slice As j cs).ownBlock = some q → D + 1 ≤ q ∧ q < wr.heap.size from fun q h => hout.ge q h)
      clear hE hpl hb8 ha0 ht1 hn0 ht2 ht3 hpS hd hq hout hrs hf hL
      have hog : ∀ q, (Value.slice As j cs).ownBlock = some q → ¬ (fun k => k = g) q := fun q h e => by have := (HGE.out q h).1; have := HGN.out; have e : q = g := e; omega
      have HOG := hid hog
      clear hog
      go_wp2_with fail
      refine (get_rd g 4 (R + 1) _ _ _ (by decide) HSr.out).mono ?_
      rintro e' x1 ⟨rfl, hr1, k1⟩
      rw [G1.out] at hr1 ⊢
      dsimp only at hr1 ⊢
      replace HDr := hid (Blk.fr HDr.out k1 hgd)
      replace HQr := hid (Blk.fr HQr.out k1 hgr)
      replace HSr := hid hr1
      replace HOr := hid (show Out (D + 1) x1 (.slice As j cs) L from own_fr HOr.out k1 HOG.out)
      replace FR := hid (FR.out.step k1 (fun i hi h => by have := HUG.out g HG.out; have := HR.out; omega))
      have HZ1 := hid k1.size
      clear hr1 k1
      go_wp2_with fail
      refine (get_rd g 2 (R + 1) _ _ _ (by decide) HSr.out).mono ?_
      rintro e' x2 ⟨rfl, hr2, k2⟩
      rw [G2.out] at hr2 ⊢
      dsimp only at hr2 ⊢
      replace HDr := hid (Blk.fr HDr.out k2 hgd)
      replace HQr := hid (Blk.fr HQr.out k2 hgr)
      replace HSr := hid hr2
      replace HOr := hid (show Out (D + 1) x2 (.slice As j cs) L from own_fr HOr.out k2 HOG.out)
      replace FR := hid (FR.out.step k2 (fun i hi h => by have := HUG.out g HG.out; have := HR.out; omega))
      have HZ2 := hid k2.size
      clear hr2 k2
      obtain ⟨x3, hx3⟩ : ∃ x3, x2.alloc (.cells #[.int .i64 a0, .int .i64 n0] 53) = x3 := ⟨_, rfl⟩
      obtain ⟨E, hEE⟩ : ∃ E, x2.heap.size = E := ⟨_, rfl⟩
      have k3 : Fr No x2 x3 := by rw [← hx3]; exact fr1 _ _
      have HDE := hid (show D < E by rw [← hEE]; exact Blk.lt HDr.out)
      have HBE : Blk x3 E 53 #[.int .i64 a0, .int .i64 n0] := by rw [← hx3, ← hEE]; exact Blk.new _ _ _
      replace HDr := hid (Blk.fr HDr.out k3 (fun h => h))
      replace HQr := hid (Blk.fr HQr.out k3 (fun h => h))
      replace HSr := hid (HSr.out.fr k3 (fun _ _ h => h))
      replace HOr := hid (show Out (D + 1) x3 (.slice As j cs) L from own_fr HOr.out k3 (fun _ _ h => h))
      replace FR := hid (FR.out.trans k3)
      have HEW := hid (show wr.heap.size ≤ E by have := HZ1.out; have := HZ2.out; omega)
      have HEG := hid (show E ≠ g ∧ E ≠ D ∧ E ≠ R by have := HDE.out; have := HGN.out; have := HSD.out; have := HB3.out; omega)
      have HX3 := hid hx3
      have HEE := hid hEE
      clear k3 hx3 hEE
      go_upto_region 14 with fail
      try rw [HX3.out]
      try rw [HEE.out]
      have hge : (fun k => k = g) E → False := fun h => HEG.out.1 h
      go_upto_region 15 with (go_at_call 76; go_loud (refine (int_rd g 2 0 0 (R + 1) _ _ _ (by decide) HSr.out).mono ?_; rintro e' x4 ⟨rfl, hr4, k4⟩; rw [G3.out] at hr4; replace HDr := hid (Blk.fr HDr.out k4 hgd); replace HQr := hid (Blk.fr HQr.out k4 hgr); replace HSr := hid hr4; replace HOr := hid (show Out (D + 1) x4 (.slice As j cs) L from own_fr HOr.out k4 HOG.out); replace FR := hid (FR.out.step k4 (fun i hi h => by have := HUG.out g HG.out; have := HR.out; omega)); have HBE4 := hid (Blk.fr HBE k4 hge); clear hr4 k4 HBE))
      have d2 : x4.cell? ⟨D, 2, none⟩ = some (.slice As j cs) := Blk.cell HDr.out 2
      have e0 : x4.cell? ⟨E, 0, none⟩ = some (.int .i64 a0) := HBE4.out.cell 0
      have e1 : x4.cell? ⟨E, 1, none⟩ = some (.int .i64 n0) := HBE4.out.cell 1
      have HLI := hid (lit_rd x4 a0 n0)
      have HOL := hid (show Out (D + 1) (x4.alloc (.cells #[.int .i64 a0, .int .i64 n0] 53)) (.slice As j cs) L from own_fr HOr.out (fr1 _ _) (fun _ _ h => h))
      have HDL := hid (Blk.alloc HDr.out (.cells #[.int .i64 a0, .int .i64 n0] 53))
      have HQL := hid (Blk.alloc HQr.out (.cells #[.int .i64 a0, .int .i64 n0] 53))
      have HSL := hid (HSr.out.fr (fr1 x4 (.cells #[.int .i64 a0, .int .i64 n0] 53)) (fun _ _ h => h))
      have FL := hid (FR.out.alloc (.cells #[.int .i64 a0, .int .i64 n0] 53))
      have HDB := hid (show D + 1 ≤ (x4.alloc (.cells #[.int .i64 a0, .int .i64 n0] 53)).heap.size from Blk.lt HDL.out)
      have HLIM := hid (show L.length + 1 ≤ 4000000000000 by rw [HPL.out]; exact Nat.le_trans (Nat.succ_le_of_lt (Nat.lt_of_lt_of_le hlt HLW.out)) (by decide))
      have hDne : ¬ (fun q => (Value.slice As j cs).ownBlock = some q) D := fun h => absurd (HGE.out D h).1 (Nat.not_succ_le_self D)
      have hRne : ¬ (fun q => (Value.slice As j cs).ownBlock = some q) R := fun h => by have := (HGE.out R h).1; have := HSD.out; have := HB3.out; omega
      have hUne : ∀ k, (R + 1 ≤ k ∧ k < w3.heap.size) → ¬ (fun q => (Value.slice As j cs).ownBlock = some q) k := fun k hk h => by have := (HGE.out k h).1; have := HSD.out; omega
      have hwne : ∀ i, i < w.heap.size → (fun q => (Value.slice As j cs).ownBlock = some q) i → No i := fun i hi h => by have := (HGE.out i h).1; have := HSD.out; have := HB3.out; have := HR.out; omega
      have HNE := hid (And.intro hDne (And.intro hRne (And.intro hUne hwne)))
      clear hDne hRne hUne hwne
      clear HOr HDr HQr HSr FR hwa hwn
      go_wp2_with (first | (at_builtin; go_loud (refine app_sp rfl (.tmp 48) (.tmp 50) rfl (D + 1) (.slice As j cs) L rfl HOL.out (some ⟨x4.heap.size, 0, none⟩) 1 1 [(a0, n0)] rfl HLI.out HLIM.out HDB.out ?_; intro A' c' x5 ho5 k5; rw [HPL.out] at ho5 ⊢; have HO5 := hid ho5; have HD5 := hid (Blk.fr HDL.out k5 HNE.out.1); have HQ5 := hid (Blk.fr HQL.out k5 HNE.out.2.1); have HS5 := hid (HSL.out.fr k5 HNE.out.2.2.1); have F5 := hid (FL.out.step k5 HNE.out.2.2.2); clear ho5 k5 d2 e0 e1; have d2 : x5.cell? ⟨D, 2, none⟩ = some (.slice As j cs) := Blk.cell HD5.out 2; have y2 : x5.frozen? ⟨D, 2, none⟩ = false := Blk.frozen HD5.out 2)))
      go_roundw
      case rel =>
        have HO6 := HO5.out
        have hown : ∀ q, (Value.slice A' (j + 1) c').ownBlock = some q → D + 1 ≤ q := fun q h => (HO6.ge q h).1
        have f6 : Fr (fun k => k = D) x5 (x5.setCell ⟨D, 2, none⟩ (.slice A' (j + 1) c')) := Fr.set1 x5 D 2 _
        refine ⟨j + 1, by omega, by go_num, A', c', ?_, ?_, ?_, ?_, ?_⟩
        · rw [HE.out]; exact HS5.out.fr f6 (fun k hk h => (HUD.out k hk).1 h)
        · have := Blk.set_ HD5.out 2 (.slice A' (j + 1) c'); simpa [BB, bcs] using this
        · rw [HE.out]; exact own_fr HO6 f6 (fun q h e => by have := hown q h; have e : q = D := e; omega)
        · exact Blk.fr HQ5.out f6 (fun h => by have := HSD.out; have := HB3.out; omega)
        · exact F5.out.step f6 (fun i hi h => by have := HSD.out; have := HB3.out; have := HR.out; omega)
      case measure => first | exact next_m _ _ hlt hw1 | (simp [intOf]; omega)
    · obtain rfl : j = Hn := by omega
      have HDr := hid hd
      have HQr := hid hq
      have HOr := hid hout
      have HSr := hid hrs
      have FR := hid hf
      have HVM2 : Hid ((if RdA.dn (pSs j Hst).2 = 0 ∧ ¬ (Hk = 2 ∧ Hs ≠ 0) then some ((⟨Hq, Hk, (pSs j Hst).1⟩ : Ba), Hs) else none) = V) := HVM
      have hpl := pSs_len Hst j
      obtain ⟨⟨L, st⟩, hL⟩ : ∃ p, pSs j Hst = p := ⟨_, rfl⟩
      rw [hL] at HSr HOr HVM2 hpl
      dsimp only at HSr HOr HVM2 hpl
      obtain ⟨d9, hd9⟩ : ∃ d, RdA.dn st = d := ⟨_, rfl⟩
      rw [hd9] at HVM2
      have HD9 := hid hd9
      have HPL := hid hpl
      clear hd9 HVM hd hq hout hrs hf hpl hL
      have HQs := HQr.out
      have dk : wr.cell? ⟨D, 1, none⟩ = some (.int .i64 Hk) := Blk.cell HDr.out 1
      by_cases h0 : d9 = 0
      · subst h0
        by_cases hk2 : Hk = 2
        · subst hk2
          by_cases hs0 : Hs = 0
          · subst hs0
            obtain rfl : V = some ((⟨Hq, 2, L⟩ : Ba), 0) := by rw [← HVM2.out, if_pos ⟨rfl, fun h => h.2 rfl⟩]
            clear HVM2
            go_upto_region 19 with ((go_at_call 77; refine (done_rd g (R + 1) _ st _ HSr.out).mono ?_; rintro e' w7 ⟨rfl, rfl⟩; rw [HD9.out]))
            obtain ⟨b0, b1, b2⟩ := BB.cells HDr.out
            go_wp2_with (refine st_bt rfl (.tmp 2) (.tmp 67) rfl R rfl rfl (by simp [Value.oneCell']) HQs rfl ?_; intro wz HQz fz; have HFz := hid (FR.out.step fz (fun i hi e => by have := HR.out; omega)); have HRz := hid (rdS_lo2 (HOr.out.rd) fz (fun q o h => by have := (HOr.out.ge q (by rw [h]; rfl)).1; have := HSD.out; have := HB3.out; omega)); clear fz)
            exact bodyPost_ret (v := .tuple #[bv Hq 2 As j cs, .int .u32 0, .bool true]) (resH rfl _ _ R Hq 2 As j cs (.int .u32 0) (.bool true) rfl rfl rfl HQz) rfl ⟨⟨As, cs, by dsimp only; rw [HPL.out], by dsimp only; rw [HPL.out]; exact HRz.out, ⟨by dsimp only; rw [HPL.out]; exact (out_lim HOr.out).1, (out_lim HOr.out).2⟩, fun q o h => by have := (HOr.out.ge q (by rw [h]; rfl)).1; have := HSD.out; have := HB3.out; have := HR.out; omega⟩, HFz.out⟩
          · have hsb : (Hs == 0) = false := by simpa using hs0
            have hsb2 : (Hs != 0) = true := by rw [bne, hsb]; rfl
            obtain rfl : V = none := by rw [← HVM2.out, if_neg (fun h => h.2 ⟨rfl, hs0⟩)]
            clear HVM2
            go_wp2_with (first | (go_at_call 77; refine (done_rd g (R + 1) _ st _ HSr.out).mono ?_; rintro e' w7 ⟨rfl, rfl⟩; rw [HD9.out]) | (refine st_bt rfl (.tmp 2) (.tmp 66) rfl R rfl rfl (by simp [Value.oneCell']) HQs rfl ?_; intro w9 HQ9 f9; have HF9 := hid (FR.out.step f9 (fun i hi e => by have := HR.out; omega)); clear f9))
            exact bodyPost_ret (v := .tuple #[bv 0 0 none 0 0, .int .u32 0, .bool false]) (resH rfl _ _ R 0 0 none 0 0 (.int .u32 0) (.bool false) rfl rfl rfl HQ9) rfl ⟨rfl, HF9.out⟩
        · have hkb : (Hk == 2) = false := by simpa using hk2
          obtain rfl : V = some ((⟨Hq, Hk, L⟩ : Ba), Hs) := by rw [← HVM2.out, if_pos ⟨rfl, fun h => hk2 h.1⟩]
          clear HVM2
          go_upto_region 19 with ((go_at_call 77; refine (done_rd g (R + 1) _ st _ HSr.out).mono ?_; rintro e' w7 ⟨rfl, rfl⟩; rw [HD9.out]))
          obtain ⟨b0, b1, b2⟩ := BB.cells HDr.out
          go_wp2_with (refine st_bt rfl (.tmp 2) (.tmp 67) rfl R rfl rfl (by simp [Value.oneCell']) HQs rfl ?_; intro wz HQz fz; have HFz := hid (FR.out.step fz (fun i hi e => by have := HR.out; omega)); have HRz := hid (rdS_lo2 (HOr.out.rd) fz (fun q o h => by have := (HOr.out.ge q (by rw [h]; rfl)).1; have := HSD.out; have := HB3.out; omega)); clear fz)
          exact bodyPost_ret (v := .tuple #[bv Hq Hk As j cs, .int .u32 Hs, .bool true]) (resH rfl _ _ R Hq Hk As j cs (.int .u32 Hs) (.bool true) rfl rfl rfl HQz) rfl ⟨⟨As, cs, by dsimp only; rw [HPL.out], by dsimp only; rw [HPL.out]; exact HRz.out, ⟨by dsimp only; rw [HPL.out]; exact (out_lim HOr.out).1, (out_lim HOr.out).2⟩, fun q o h => by have := (HOr.out.ge q (by rw [h]; rfl)).1; have := HSD.out; have := HB3.out; have := HR.out; omega⟩, HFz.out⟩
      · have h0b : (d9 == 0) = false := by simpa using h0
        have h0b2 : (d9 != 0) = true := by rw [bne, h0b]; rfl
        obtain rfl : V = none := by rw [← HVM2.out, if_neg (fun h => h0 h.1)]
        clear HVM2
        go_wp2_with (first | (go_at_call 77; refine (done_rd g (R + 1) _ st _ HSr.out).mono ?_; rintro e' w7 ⟨rfl, rfl⟩; rw [HD9.out]) | (refine st_bt rfl (.tmp 2) (.tmp 66) rfl R rfl rfl (by simp [Value.oneCell']) HQs rfl ?_; intro w9 HQ9 f9; have HF9 := hid (FR.out.step f9 (fun i hi e => by have := HR.out; omega)); clear f9))
        exact bodyPost_ret (v := .tuple #[bv 0 0 none 0 0, .int .u32 0, .bool false]) (resH rfl _ _ R 0 0 none 0 0 (.int .u32 0) (.bool false) rfl rfl rfl HQ9) rfl ⟨rfl, HF9.out⟩
end Go.Proofs.YtcocebfipkbkiaaDoor.BtH
