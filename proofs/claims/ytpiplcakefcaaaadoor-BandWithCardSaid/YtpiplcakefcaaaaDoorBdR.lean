/- Contract: whether a label is that of a content, by the program. Conditions: the geometry's count of zones is 64 bits; the content reads as bytes; the table of sums is as its text lays it. -/
import Derived.Test.YtpiplcakefcaaaaDoorBdE
namespace Go.Proofs.YtpiplcakefcaaaaDoor.BdR
open Go.RowKit MSep MFrame Kit MGeM CrcA CrcM CrcE BdM BdA BdB BdF BdC BdD BdE
open GeA (bg BG BL ld_geom ld_lay by_)
open GeC (layout_ok)

def rightP (g : Ge) (b u s : Int) (zs : List Int) : Prop := (ofF g b u zs).2 = 0 ∧ s = (onN 0 zs : Nat)
theorem ofF_ok {g : Ge} {b u : Int} {zs : List Int} (h : (ofF g b u zs).2 = 0) : ofF g b u zs = (⟨b, u, (onN 0 zs : Nat)⟩, 0) := by
  unfold ofF at h ⊢
  split at h
  case isFalse => cases h
  split at h
  case isFalse => cases h
  rename_i h1 h2
  rw [if_pos h1, if_pos h2]
set_option maxRecDepth 100000 in
set_option maxHeartbeats 4000000 in
theorem right_ok (gc gs gn gl gk b u s : Int) (A : Option Addr) (l c : Nat) (zs : List Int) (v : Bool) (w : World) (hs : r64 gs) (hb : IsB w A l c zs) (hT : TabAt w) (hv : v = true ↔ rightP ⟨gc, gs, gn, gl, gk⟩ b u s zs) :
    Calls Tryd.prog 50 #[.agg #[.int .i64 gc, .int .i64 gs, .int .i64 gn, .int .i64 gl, .int .i64 gk], lv b u s, .slice A l c] w fun e w' => e = .returned (.bool v) ∧ Fr No w w' := by
  obtain ⟨G, hG⟩ : ∃ G, w.heap.size = G := ⟨_, rfl⟩
  obtain ⟨w1, hw1⟩ : ∃ w1, (w.alloc (bg gc gs gn gl gk)).alloc (.cells (lcs b u s) 76) = w1 := ⟨_, rfl⟩
  have FG := hid (show Fr No w w1 by rw [← hw1]; exact (fr1 _ _).alloc _)
  have P0 := hid (show BG w1 G gc gs gn gl gk by rw [← hw1, ← hG]; exact (BG.new w gc gs gn gl gk : Blk _ _ _ _).alloc _)
  have P1 := hid (show LB w1 (G + 1) b u s by
    rw [← hw1, ← hG]
    have := LB.new (w.alloc (bg gc gs gn gl gk)) b u s
    rwa [World.size_alloc] at this)
  have HW1 := hid hw1
  have HO := hid (fun W (h1 : IsB W A l c zs) (h2 : TabAt W) => of_ok gc gs gn gl gk b u A l c zs W hs h1 h2)
  have HB := hid hb
  have HT := hid hT
  have HV := hid hv
  clear hs hb hT hv hw1
  obtain ⟨l0, l1, l2⟩ := P1.out.cells
  go_enter Tryd.func50, Tryd.ntmps50
  go_upto_region 1 with fail
  try rw [show (w.alloc (Obj.cells #[.int .i64 gc, .int .i64 gs, .int .i64 gn, .int .i64 gl, .int .i64 gk] 23)).alloc (Obj.cells #[.int .i64 b, .int .i64 u, .int .i64 s] 76) = w1 from HW1.out]
  try rw [hG]
  by_cases h0 : (ofF ⟨gc, gs, gn, gl, gk⟩ b u zs).2 = 0
  case neg =>
    have HVF := hid (show v = false by cases v with
      | false => rfl
      | true => exact absurd (HV.out.1 rfl).1 h0)
    obtain ⟨⟨⟨p, q, r⟩, e⟩, hO⟩ : ∃ o, ofF ⟨gc, gs, gn, gl, gk⟩ b u zs = o := ⟨_, rfl⟩
    rw [hO] at h0
    have he : (e == 0) = false := by simpa using h0
    have HOO := hid hO
    clear h0 hO
    go_wp2_with (first | ((with_reducible refine ld_geom rfl (.tmp 3) rfl G ?_ P0.out ?_); · rfl) | (go_at_call 48; refine (HO.out _ (HB.out.fr FG.out) (HT.out.fr FG.out (fun h => h))).mono ?_; rintro e' w2 ⟨he2, f2⟩; rw [HOO.out] at he2; subst he2; replace FG := hid (FG.out.trans f2); dsimp only; clear f2))
    go_ret
    exact ⟨congrArg (fun b => Ending.returned (.bool b)) HVF.out.symm, FG.out.alloc _⟩
  have hO := ofF_ok h0
  have HVT := hid (show v = true ↔ s = (onN 0 zs : Nat) from HV.out.trans ⟨fun h => h.2, fun h => ⟨h0, h⟩⟩)
  obtain ⟨sum, hsum⟩ : ∃ z : Int, ((onN 0 zs : Nat) : Int) = z := ⟨_, rfl⟩
  rw [hsum] at hO HVT
  have HOO := hid hO
  clear h0 hO hsum HV
  go_upto_region 2 with (first | ((with_reducible refine ld_geom rfl (.tmp 3) rfl G ?_ P0.out ?_); · rfl) | (go_at_call 48; refine (HO.out _ (HB.out.fr FG.out) (HT.out.fr FG.out (fun h => h))).mono ?_; rintro e' w2 ⟨he2, f2⟩; rw [HOO.out] at he2; subst he2; dsimp only))
  obtain ⟨X, hX⟩ : ∃ X, w2.heap.size = X := ⟨_, rfl⟩
  obtain ⟨w5, hw5⟩ : ∃ w5, w2.alloc (.cells (lcs b u sum) 76) = w5 := ⟨_, rfl⟩
  obtain ⟨x0, x1, x2⟩ := (show LB w5 X b u sum by rw [← hw5, ← hX]; exact LB.new _ _ _ _).cells
  have f5 : Fr No w1 w5 := by rw [← hw5]; exact f2.alloc _
  replace FG := hid (FG.out.trans f5)
  clear l0 l1 l2
  obtain ⟨l0, l1, l2⟩ := (P1.out.fr f5).cells
  rw [show w2.alloc (Obj.cells #[.int .i64 b, .int .i64 u, .int .i64 sum] 76) = w5 from hw5]
  try rw [hX]
  clear hw5 hX f5 f2 P0 P1 HO HOO HB HT HW1
  go_wp2
  all_goals
    go_ret
    exact ⟨retb (by have h := HVT.out; cases v <;> simp at h ⊢ <;> omega), FG.out⟩
end Go.Proofs.YtpiplcakefcaaaaDoor.BdR
