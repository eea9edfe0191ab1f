/- Contracts: whether a label may be, by the program and by the document. Condition: the geometry's count of zones is 64 bits. -/
import Derived.Test.YtpiplcakefcaaaaDoorBdM
import Derived.Test.YtpiplcakefcaaaaDoorGeEk
import Derived.Test.YtpiplcakefcaaaaDoorKit
import Derived.Deep.DeepCutAuto
namespace Go.Proofs.YtpiplcakefcaaaaDoor.BdA
open Go.RowKit MSep MFrame Kit MGeM BdM
open GeA (bg BG BL ld_geom by_)
open GeC (layout_ok)
open GeE (rlo)

def r64 (n : Int) : Prop := -9223372036854775808 ≤ n ∧ n ≤ 9223372036854775807
abbrev lv (b u s : Int) : Value := .agg #[.int .i64 b, .int .i64 u, .int .i64 s]
abbrev lcs (b u s : Int) : Array Value := #[.int .i64 b, .int .i64 u, .int .i64 s]
/-- Block g holds a label. -/
def LB (w : World) (g : Nat) (b u s : Int) : Prop := Blk w g 76 (lcs b u s)
section
variable {w w' : World} {g : Nat} {b u s : Int}
theorem LB.new (w : World) (b u s : Int) : LB (w.alloc (.cells (lcs b u s) 76)) w.heap.size b u s := Blk.new w _ _
theorem LB.fr (h : LB w g b u s) (f : Fr No w w') : LB w' g b u s := Blk.fr h f (fun h => h)
theorem LB.cells (h : LB w g b u s) : w.cell? ⟨g, 0, none⟩ = some (.int .i64 b) ∧ w.cell? ⟨g, 1, none⟩ = some (.int .i64 u) ∧ w.cell? ⟨g, 2, none⟩ = some (.int .i64 s) := ⟨Blk.cell h 0, Blk.cell h 1, Blk.cell h 2⟩
end
theorem infoLb : (Tryd.prog.info? 76).map (·.size) = some 3 := by kernel_rfl
section
variable {ops : Array Oper} {rest : List Oper} {o : Oper} {ac : Act} {w : World} {Q : Exit → Act → World → Prop}
theorem ld_lb (hgd : o.guard = none) (p : Operand) (ho : o.op = .load 76 p) (g : Nat) (hx : ac.eval p = .pointer (some ⟨g, 0, none⟩)) {b u s : Int} (hg : LB w g b u s)
    (h : wpList Tryd.prog ops Q rest (ac.put o.dst (lv b u s)) w) : wpList Tryd.prog ops Q (o :: rest) ac w :=
  wpList_load_row hgd 76 p ho g hx 76 _ (0, 0) _ hg Tryd.underlying76 rfl infoLb h
theorem st_lb (hgd : o.guard = none) (p y : Operand) (ho : o.op = .store 76 p y) (g : Nat) (hx : ac.eval p = .pointer (some ⟨g, 0, none⟩)) {a0 a1 a2 : Value}
    (hy : ac.eval y = .agg #[a0, a1, a2]) (h1 : (#[a0, a1, a2] : Array Value).all (·.oneCell') = true) {cs : Array Value} (hg : Blk w g 76 cs) (hsz : cs.size = 3)
    (h : ∀ W', Blk W' g 76 #[a0, a1, a2] → Fr (fun q => q = g) w W' → wpList Tryd.prog ops Q rest (ac.put o.dst undef) W') : wpList Tryd.prog ops Q (o :: rest) ac w :=
  wpList_store_row hgd 76 p y ho g _ hx hy 76 _ hg infoLb (hsz.trans rfl) h1 (h _ (Blk.setRow hg _) (Fr.setRow (S := fun q => q = g) (Fr.refl _ _) (fun _ => rfl) _))
end
theorem resLb {fn : Func} {p q : Tmp} (h : fn.results = #[.cell p 76, .tmp q]) (tmps : Array Value) (w : World) (g : Nat) (b u s : Int) (y : Value) (hp : tmps.getD p undef = .pointer (some ⟨g, 0, none⟩)) (hq : tmps.getD q undef = y) (hg : LB w g b u s) :
    (results fn tmps).run Tryd.prog w = .ok (.tuple #[lv b u s, y]) w := by
  have hp' : tmps[p]?.getD undef = .pointer (some ⟨g, 0, none⟩) := by simpa using hp
  have hq' : tmps[q]?.getD undef = y := by simpa using hq
  have hl := run_loadVar_row (P := Tryd.prog) w g 76 76 _ (0, 0) _ hg Tryd.underlying76 rfl (by kernel_rfl)
  simp [results, h, hp', hq', asAddr, hl, lv]
theorem may_iff {g : Ge} {b u s yb : Int} (hm : mayG g) (hy : (lay g).b = yb) : mayLb g ⟨b, u, s⟩ ↔ (0 ≤ b ∧ b < yb) ∧ (0 ≤ u ∧ u ≤ 1099511627776) ∧ 0 ≤ s ∧ s ≤ 4294967295 := by
  subst hy
  exact ⟨fun h => h.2, fun h => ⟨hm, h⟩⟩
set_option maxRecDepth 100000 in
set_option maxHeartbeats 4000000 in
theorem maylb_ok (gc gs gn gl gk b u s : Int) (v : Bool) (w : World) (hs : r64 gs) (hv : v = true ↔ mayLb ⟨gc, gs, gn, gl, gk⟩ ⟨b, u, s⟩) :
    Calls Tryd.prog 43 #[.agg #[.int .i64 gc, .int .i64 gs, .int .i64 gn, .int .i64 gl, .int .i64 gk], lv b u s] w fun e w' => e = .returned (.bool v) ∧ Fr No w w' := by
  obtain ⟨G, hG⟩ : ∃ G, w.heap.size = G := ⟨_, rfl⟩
  obtain ⟨w1, hw1⟩ : ∃ w1, (w.alloc (bg gc gs gn gl gk)).alloc (.cells (lcs b u s) 76) = w1 := ⟨_, rfl⟩
  have FG := hid (show Fr No w w1 by rw [← hw1]; exact (fr1 _ _).alloc _)
  have P0 := hid (show BG w1 G gc gs gn gl gk by rw [← hw1, ← hG]; exact (BG.new w gc gs gn gl gk : Blk _ _ _ _).alloc _)
  have P1 := hid (show LB w1 (G + 1) b u s by
    rw [← hw1, ← hG]
    have := LB.new (w.alloc (bg gc gs gn gl gk)) b u s
    rwa [World.size_alloc] at this)
  have HV := hid hv
  have HW1 := hid hw1
  have HLY := hid (fun W => layout_ok gc gs gn gl gk W hs)
  clear hs hv hw1
  go_enter Tryd.func43, Tryd.ntmps43
  go_upto_region 1 with fail
  try rw [show (w.alloc (Obj.cells #[.int .i64 gc, .int .i64 gs, .int .i64 gn, .int .i64 gl, .int .i64 gk] 23)).alloc (Obj.cells #[.int .i64 b, .int .i64 u, .int .i64 s] 76) = w1 from HW1.out]
  try rw [hG]
  by_cases hm : mayG ⟨gc, gs, gn, gl, gk⟩
  case neg =>
    have HVF := hid (show v = false by cases v with
      | false => rfl
      | true => exact absurd (HV.out.1 rfl).1 hm)
    rw [show lyo ⟨gc, gs, gn, gl, gk⟩ = (z8, 70) by unfold lyo; rw [if_neg hm]] at HLY
    unfold z8 at HLY
    dsimp only at HLY
    go_wp2_with (first | ((with_reducible refine ld_geom rfl (.tmp 2) rfl G ?_ P0.out ?_); · rfl) | (go_at_call 58; refine (HLY.out _).mono ?_; rintro e w2 ⟨rfl, f2⟩; replace FG := hid (FG.out.trans f2); clear f2))
    go_ret
    exact ⟨congrArg (fun b => Ending.returned (.bool b)) HVF.out.symm, FG.out.alloc _⟩
  rw [show lyo ⟨gc, gs, gn, gl, gk⟩ = (lay ⟨gc, gs, gn, gl, gk⟩, 0) by unfold lyo; rw [if_pos hm]] at HLY
  obtain ⟨y, hy⟩ : ∃ y, lay ⟨gc, gs, gn, gl, gk⟩ = y := ⟨_, rfl⟩
  rw [hy] at HLY
  have HVV := hid (HV.out.trans (may_iff (b := b) (u := u) (s := s) hm (show (lay ⟨gc, gs, gn, gl, gk⟩).b = y.b by rw [hy])))
  clear hy hm HV
  obtain ⟨ya, yr, yq, yb, yd, yt, yx, yu⟩ := y
  dsimp only at HLY HVV
  go_upto_region 2 with (first | ((with_reducible refine ld_geom rfl (.tmp 2) rfl G ?_ P0.out ?_); · rfl) | (go_at_call 58; refine (HLY.out _).mono ?_; rintro e w2 ⟨rfl, f2⟩))
  obtain ⟨Y, hYY⟩ : ∃ Y, w2.heap.size = Y := ⟨_, rfl⟩
  obtain ⟨w3, hw3⟩ : ∃ w3, w2.alloc (by_ ya yr yq yb yd yt yx yu) = w3 := ⟨_, rfl⟩
  have f3 : Fr No w1 w3 := by rw [← hw3]; exact f2.alloc _
  have y3 : w3.cell? ⟨Y, 3, none⟩ = some (.int .i64 yb) := (BL.cells (show BL w3 Y ya yr yq yb yd yt yx yu by rw [← hw3, ← hYY]; exact BL.new _ _ _ _ _ _ _ _ _)).2.2.2.1
  obtain ⟨c0, c1, c2⟩ := (P1.out.fr f3).cells
  replace FG := hid (FG.out.trans f3)
  rw [show w2.alloc (Obj.cells #[.int .i64 ya, .int .i64 yr, .int .i64 yq, .int .i64 yb, .int .i64 yd, .int .i64 yt, .int .i64 yx, .int .i64 yu] 34) = w3 from hw3]
  try rw [hYY]
  clear hw3 hYY f2 f3 HLY P0 P1 HW1
  go_wp2
  all_goals
    go_ret
    exact ⟨retb (by have h := HVV.out; cases v <;> simp at h ⊢ <;> omega), FG.out⟩
set_option maxRecDepth 100000 in
set_option maxHeartbeats 4000000 in
theorem rmaylb_ok (gc gs gn gl gk b u s : Int) (v : Bool) (w : World) (hs : r64 gs) (hv : v = true ↔ mayLb ⟨gc, gs, gn, gl, gk⟩ ⟨b, u, s⟩) :
    Calls Tryd.prog 44 #[.agg #[.int .i64 gc, .int .i64 gs, .int .i64 gn, .int .i64 gl, .int .i64 gk], lv b u s] w fun e w' => e = .returned (.bool v) ∧ Fr No w w' := by
  obtain ⟨G, hG⟩ : ∃ G, w.heap.size = G := ⟨_, rfl⟩
  obtain ⟨w1, hw1⟩ : ∃ w1, (w.alloc (bg gc gs gn gl gk)).alloc (.cells (lcs b u s) 76) = w1 := ⟨_, rfl⟩
  have FG := hid (show Fr No w w1 by rw [← hw1]; exact (fr1 _ _).alloc _)
  have P0 := hid (show BG w1 G gc gs gn gl gk by rw [← hw1, ← hG]; exact (BG.new w gc gs gn gl gk : Blk _ _ _ _).alloc _)
  have P1 := hid (show LB w1 (G + 1) b u s by
    rw [← hw1, ← hG]
    have := LB.new (w.alloc (bg gc gs gn gl gk)) b u s
    rwa [World.size_alloc] at this)
  have HV := hid hv
  have HW1 := hid hw1
  have HLY := hid (fun W => GeEk.rlayout_ok gc gs gn gl gk W hs)
  clear hs hv hw1
  go_enter Tryd.func44, Tryd.ntmps44
  go_upto_region 1 with fail
  try rw [show (w.alloc (Obj.cells #[.int .i64 gc, .int .i64 gs, .int .i64 gn, .int .i64 gl, .int .i64 gk] 23)).alloc (Obj.cells #[.int .i64 b, .int .i64 u, .int .i64 s] 76) = w1 from HW1.out]
  try rw [hG]
  by_cases hm : mayG ⟨gc, gs, gn, gl, gk⟩
  case neg =>
    have HVF := hid (show v = false by cases v with
      | false => rfl
      | true => exact absurd (HV.out.1 rfl).1 hm)
    rw [show rlo ⟨gc, gs, gn, gl, gk⟩ = (z8, false) by unfold rlo; rw [if_neg hm]] at HLY
    unfold z8 at HLY
    dsimp only at HLY
    go_wp2_with (first | ((with_reducible refine ld_geom rfl (.tmp 2) rfl G ?_ P0.out ?_); · rfl) | (go_at_call 18; refine (HLY.out _).mono ?_; rintro e w2 ⟨rfl, f2⟩; replace FG := hid (FG.out.trans f2); clear f2))
    go_ret
    exact ⟨congrArg (fun b => Ending.returned (.bool b)) HVF.out.symm, FG.out.alloc _⟩
  rw [show rlo ⟨gc, gs, gn, gl, gk⟩ = (lay ⟨gc, gs, gn, gl, gk⟩, true) by unfold rlo; rw [if_pos hm]] at HLY
  obtain ⟨y, hy⟩ : ∃ y, lay ⟨gc, gs, gn, gl, gk⟩ = y := ⟨_, rfl⟩
  rw [hy] at HLY
  have HVV := hid (HV.out.trans (may_iff (b := b) (u := u) (s := s) hm (show (lay ⟨gc, gs, gn, gl, gk⟩).b = y.b by rw [hy])))
  clear hy hm HV
  obtain ⟨ya, yr, yq, yb, yd, yt, yx, yu⟩ := y
  dsimp only at HLY HVV
  go_upto_region 2 with (first | ((with_reducible refine ld_geom rfl (.tmp 2) rfl G ?_ P0.out ?_); · rfl) | (go_at_call 18; refine (HLY.out _).mono ?_; rintro e w2 ⟨rfl, f2⟩))
  obtain ⟨Y, hYY⟩ : ∃ Y, w2.heap.size = Y := ⟨_, rfl⟩
  obtain ⟨w3, hw3⟩ : ∃ w3, w2.alloc (by_ ya yr yq yb yd yt yx yu) = w3 := ⟨_, rfl⟩
  have f3 : Fr No w1 w3 := by rw [← hw3]; exact f2.alloc _
  have y3 : w3.cell? ⟨Y, 3, none⟩ = some (.int .i64 yb) := (BL.cells (show BL w3 Y ya yr yq yb yd yt yx yu by rw [← hw3, ← hYY]; exact BL.new _ _ _ _ _ _ _ _ _)).2.2.2.1
  obtain ⟨c0, c1, c2⟩ := (P1.out.fr f3).cells
  replace FG := hid (FG.out.trans f3)
  rw [show w2.alloc (Obj.cells #[.int .i64 ya, .int .i64 yr, .int .i64 yq, .int .i64 yb, .int .i64 yd, .int .i64 yt, .int .i64 yx, .int .i64 yu] 34) = w3 from hw3]
  try rw [hYY]
  clear hw3 hYY f2 f3 HLY P0 P1 HW1
  go_wp2
  all_goals
    go_ret
    exact ⟨retb (by have h := HVV.out; cases v <;> simp at h ⊢ <;> omega), FG.out⟩
end Go.Proofs.YtpiplcakefcaaaaDoor.BdA
