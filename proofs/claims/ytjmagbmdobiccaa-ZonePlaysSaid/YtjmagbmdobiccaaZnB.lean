/- Contracts: why a zone's state can't be changed; what a result that is a zone and a number reads as. No condition. -/
import Derived.Test.YtjmagbmdobiccaaZnA
import Derived.Test.YtjmagbmdobiccaaSepB
namespace Go.Proofs.Ytjmagbmdobiccaa.ZnB
open Go.RowKit MSep MZnM ZnA

theorem hard_ok (n k s a l u : Int) (w : World) : Calls Try.prog 109 #[.agg #[.int .i64 n, .int .i64 k, .int .i64 s, .int .i64 a, .int .i64 l, .int .i64 u]] w fun e w' => e = .returned (.bool (decide (hurtP s))) ∧ Fr No w w' := by
  have HF := hid ((Fr.refl No w).alloc (bz n k s a l u))
  by_cases h1 : s = 6
  · rw [decide_eq_true (show hurtP s from .inl h1)]
    subst h1
    go_enter Try.func109, Try.ntmps109
    go_wp2
    go_ret
    exact ⟨rfl, HF.out⟩
  · by_cases h2 : s = 7
    · rw [decide_eq_true (show hurtP s from .inr h2)]
      subst h2
      go_enter Try.func109, Try.ntmps109
      go_wp2
      go_ret
      exact ⟨rfl, HF.out⟩
    · rw [decide_eq_false (show ¬ hurtP s by unfold hurtP; omega)]
      have h2' : (s == 7) = false := by simpa using h2
      have h1' : (s == 6) = false := by simpa using h1
      go_enter Try.func109, Try.ntmps109
      go_wp2
      go_ret
      exact ⟨rfl, HF.out⟩
theorem risOpen_ok (n k s a l u : Int) (w : World) : Calls Try.prog 110 #[.agg #[.int .i64 n, .int .i64 k, .int .i64 s, .int .i64 a, .int .i64 l, .int .i64 u]] w fun e w' => e = .returned (.bool (decide (openP s))) ∧ Fr No w w' := by
  have HF := hid ((Fr.refl No w).alloc (bz n k s a l u))
  by_cases h1 : s = 2
  · rw [decide_eq_true (show openP s from .inl h1)]
    subst h1
    go_enter Try.func110, Try.ntmps110
    go_wp2
    go_ret
    exact ⟨rfl, HF.out⟩
  · by_cases h2 : s = 3
    · rw [decide_eq_true (show openP s from .inr h2)]
      subst h2
      go_enter Try.func110, Try.ntmps110
      go_wp2
      go_ret
      exact ⟨rfl, HF.out⟩
    · rw [decide_eq_false (show ¬ openP s by unfold openP; omega)]
      have h2' : (s == 3) = false := by simpa using h2
      have h1' : (s == 2) = false := by simpa using h1
      go_enter Try.func110, Try.ntmps110
      go_wp2
      go_ret
      exact ⟨rfl, HF.out⟩
theorem isOpen_ok (n k s a l u : Int) (w : World) : Calls Try.prog 64 #[.agg #[.int .i64 n, .int .i64 k, .int .i64 s, .int .i64 a, .int .i64 l, .int .i64 u]] w fun e w' => e = .returned (.bool (decide (openP s))) ∧ Fr No w w' := by
  have HF := hid ((Fr.refl No w).alloc (bz n k s a l u))
  by_cases h1 : s = 2
  · rw [decide_eq_true (show openP s from .inl h1)]
    subst h1
    go_enter Try.func64, Try.ntmps64
    go_wp2
    go_ret
    exact ⟨rfl, HF.out⟩
  · by_cases h2 : s = 3
    · rw [decide_eq_true (show openP s from .inr h2)]
      subst h2
      go_enter Try.func64, Try.ntmps64
      go_wp2
      go_ret
      exact ⟨rfl, HF.out⟩
    · rw [decide_eq_false (show ¬ openP s by unfold openP; omega)]
      have h2' : (s == 3) = false := by simpa using h2
      have h1' : (s == 2) = false := by simpa using h1
      go_enter Try.func64, Try.ntmps64
      go_wp2
      go_ret
      exact ⟨rfl, HF.out⟩
theorem refused_ok (n k s a l u : Int) (w : World) : Calls Try.prog 70 #[.agg #[.int .i64 n, .int .i64 k, .int .i64 s, .int .i64 a, .int .i64 l, .int .i64 u]] w fun e w' => e = .returned (.int .i64 (refd ⟨n, k, s, a, l, u⟩)) ∧ Fr No w w' := by
  have HF := hid ((Fr.refl No w).alloc (bz n k s a l u))
  have HM := hid (may_ok n k s a l u (w.alloc (bz n k s a l u)))
  have B0 := hid (BZ.new w n k s a l u)
  by_cases hm : mayP ⟨n, k, s, a, l, u⟩
  · rw [decide_eq_true hm] at HM
    by_cases hk : k = 1
    · rw [show refd ⟨n, k, s, a, l, u⟩ = 53 by unfold refd; rw [if_neg (by simpa using hm), if_pos hk]]
      subst hk
      clear hm
      go_enter Try.func70, Try.ntmps70
      go_wp2_with fail
      refine HM.out.mono ?_
      rintro e w1 ⟨rfl, f1⟩
      obtain ⟨c0, c1, c2, c3, c4, c5⟩ := (B0.out.fr f1).cells
      have HF := kf f1 HF
      clear f1
      go_wp2_with fail
      go_ret
      exact ⟨rfl, HF.out⟩
    · have e : refd ⟨n, k, s, a, l, u⟩ = if hurtP s then 52 else 0 := by unfold refd; rw [if_neg (by simpa using hm), if_neg hk]
      rw [e]
      clear e hm
      have HH := hid (fun w => isHurt_ok n k s a l u w)
      by_cases hh : hurtP s
      · rw [decide_eq_true hh] at HH
        rw [if_pos hh]
        clear hh
        go_enter Try.func70, Try.ntmps70
        go_wp2_with fail
        refine HM.out.mono ?_
        rintro e w1 ⟨rfl, f1⟩
        obtain ⟨c0, c1, c2, c3, c4, c5⟩ := (B0.out.fr f1).cells
        have HF := kf f1 HF
        clear f1
        go_wp2_with fail
        refine (HH.out _).mono ?_
        rintro e w2 ⟨rfl, f1⟩
        have HF := kf f1 HF
        clear f1
        go_wp2_with fail
        go_ret
        exact ⟨rfl, HF.out⟩
      · rw [decide_eq_false hh] at HH
        rw [if_neg hh]
        clear hh
        go_enter Try.func70, Try.ntmps70
        go_wp2_with fail
        refine HM.out.mono ?_
        rintro e w1 ⟨rfl, f1⟩
        obtain ⟨c0, c1, c2, c3, c4, c5⟩ := (B0.out.fr f1).cells
        have HF := kf f1 HF
        clear f1
        go_wp2_with fail
        refine (HH.out _).mono ?_
        rintro e w2 ⟨rfl, f1⟩
        have HF := kf f1 HF
        clear f1
        go_wp2_with fail
        go_ret
        exact ⟨rfl, HF.out⟩
  · rw [decide_eq_false hm] at HM
    rw [show refd ⟨n, k, s, a, l, u⟩ = 1 by unfold refd; rw [if_pos hm]]
    clear hm
    go_enter Try.func70, Try.ntmps70
    go_wp2_with fail
    refine HM.out.mono ?_
    rintro e w1 ⟨rfl, f1⟩
    have HF := kf f1 HF
    clear f1
    go_wp2_with fail
    go_ret
    exact ⟨rfl, HF.out⟩

/-- A zone and a number, as values. -/
def zv (z : Zn) : Value := .agg #[.int .i64 z.n, .int .i64 z.k, .int .i64 z.s, .int .i64 z.a, .int .i64 z.l, .int .i64 z.u]
def zr (r : Zn × Int) : Value := .tuple #[zv r.1, .int .i64 r.2]
theorem resZ {fn : Func} {p q : Tmp} (h : fn.results = #[.cell p 23, .tmp q]) (tmps : Array Value) (w : World) (g : Nat) (n k s a l u e : Int) (hp : tmps.getD p undef = .pointer (some ⟨g, 0, none⟩)) (hq : tmps.getD q undef = .int .i64 e) (hg : BZ w g n k s a l u) :
    (results fn tmps).run Try.prog w = .ok (zr (⟨n, k, s, a, l, u⟩, e)) w := by
  have hp' : tmps[p]?.getD undef = .pointer (some ⟨g, 0, none⟩) := by simpa using hp
  have hq' : tmps[q]?.getD undef = .int .i64 e := by simpa using hq
  have hl := run_loadVar_row (P := Try.prog) w g 23 23 _ (0, 0) _ hg Try.underlying23 rfl (by kernel_rfl)
  simp [results, h, hp', hq', asAddr, hl, zr, zv]
theorem infoZ : (Try.prog.info? 23).map (·.size) = some 6 := by kernel_rfl
theorem ld_zone {ops : Array Oper} {rest : List Oper} {o : Oper} {ac : Act} {w : World} {Q : Exit → Act → World → Prop} (hgd : o.guard = none) (x : Operand) (ho : o.op = .load 23 x) (g : Nat) (hx : ac.eval x = .pointer (some ⟨g, 0, none⟩)) {n k s a l u : Int} (hg : BZ w g n k s a l u)
    (h : wpList Try.prog ops Q rest (ac.put o.dst (.agg #[.int .i64 n, .int .i64 k, .int .i64 s, .int .i64 a, .int .i64 l, .int .i64 u])) w) : wpList Try.prog ops Q (o :: rest) ac w :=
  wpList_load_row hgd 23 x ho g hx 23 _ (0, 0) _ hg Try.underlying23 rfl infoZ h
theorem st_zone {ops : Array Oper} {rest : List Oper} {o : Oper} {ac : Act} {w : World} {Q : Exit → Act → World → Prop} (hgd : o.guard = none) (x y : Operand) (ho : o.op = .store 23 x y) (g : Nat) (hx : ac.eval x = .pointer (some ⟨g, 0, none⟩)) {n k s a l u n' k' s' a' l' u' : Int}
    (hy : ac.eval y = .agg #[.int .i64 n', .int .i64 k', .int .i64 s', .int .i64 a', .int .i64 l', .int .i64 u']) (hg : BZ w g n k s a l u)
    (h : ∀ W', BZ W' g n' k' s' a' l' u' → Fr (fun q => q = g) w W' → wpList Try.prog ops Q rest (ac.put o.dst undef) W') : wpList Try.prog ops Q (o :: rest) ac w :=
  wpList_store_row hgd 23 x y ho g _ hx hy 23 _ hg infoZ rfl (by simp [Value.oneCell']) (h _ (Blk.setRow hg _) (Fr.setRow (S := fun q => q = g) (Fr.refl _ _) (fun _ => rfl) _))
theorem kfg {w W W' : World} {g : Nat} (hg : w.heap.size ≤ g) (h : Hid (Fr No w W)) (f : Fr (fun q => q = g) W W') : Hid (Fr No w W') := hid (h.out.step f (fun _ hi e => absurd hi (Nat.not_lt.2 (e ▸ hg))))
theorem kfz {w W : World} {g : Nat} {a b c d e f : Value} (hg : w.heap.size ≤ g) (h : Hid (Fr No w W)) : Hid (Fr No w ((((((W.setCell ⟨g, 0, none⟩ a).setCell ⟨g, 1, none⟩ b).setCell ⟨g, 2, none⟩ c).setCell ⟨g, 3, none⟩ d).setCell ⟨g, 4, none⟩ e).setCell ⟨g, 5, none⟩ f)) :=
  hid ((((((h.out.setCell (fun h => absurd h (Nat.not_lt.2 hg)) _).setCell (fun h => absurd h (Nat.not_lt.2 hg)) _).setCell (fun h => absurd h (Nat.not_lt.2 hg)) _).setCell (fun h => absurd h (Nat.not_lt.2 hg)) _).setCell (fun h => absurd h (Nat.not_lt.2 hg)) _).setCell (fun h => absurd h (Nat.not_lt.2 hg)) _)
theorem kf1 {w W : World} {p : Addr} {a : Value} (hg : w.heap.size ≤ p.block) (h : Hid (Fr No w W)) : Hid (Fr No w (W.setCell p a)) := hid (h.out.setCell (fun h => absurd h (Nat.not_lt.2 hg)) _)

end Go.Proofs.Ytjmagbmdobiccaa.ZnB
