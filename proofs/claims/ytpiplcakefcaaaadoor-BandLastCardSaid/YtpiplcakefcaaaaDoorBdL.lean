/- Contract: are pieces too large to be looked at: it answers. Conditions: the pieces read as such. -/
import Derived.Test.YtpiplcakefcaaaaDoorBdD
namespace Go.Proofs.YtpiplcakefcaaaaDoor.BdL
open Go.RowKit MSep MFrame Kit MGeM CrcA CrcM CrcE BdM BdA BdB BdC BdD
open GeA (bg BG BL ld_geom)

def SomeB (w w' : World) (e : Ending) : Prop := ∃ v, e = .returned (.bool v) ∧ Fr No w w'
set_option maxRecDepth 100000 in
set_option maxHeartbeats 4000000 in
theorem large_ok (gc gs gn gl gk : Int) (PA : Option Addr) (pn pc : Nat) (L : List Pc) (w : World) (hp : RdP w PA pn L) (hpn : pn ≤ maxLen) :
    Calls Tryd.prog 35 #[.agg #[.int .i64 gc, .int .i64 gs, .int .i64 gn, .int .i64 gl, .int .i64 gk], .slice PA pn pc] w fun e w' => SomeB w w' e := by
  obtain ⟨G, hG⟩ : ∃ G, w.heap.size = G := ⟨_, rfl⟩
  obtain ⟨w1, hw1⟩ : ∃ w1, w.alloc (bg gc gs gn gl gk) = w1 := ⟨_, rfl⟩
  have FG := hid (show Fr No w w1 by rw [← hw1]; exact fr1 _ _)
  have P0 := hid (show BG w1 G gc gs gn gl gk by rw [← hw1, ← hG]; exact BG.new w gc gs gn gl gk)
  have HW1 := hid hw1
  have HP := hid (hp.fr FG.out)
  have HPN := hid (show (pn : Int) ≤ 9223372036854775807 by unfold maxLen at hpn; omega)
  clear hp hpn hw1
  go_enter Tryd.func35, Tryd.ntmps35
  go_upto_region 1 with fail
  try rw [show w.alloc (Obj.cells #[.int .i64 gc, .int .i64 gs, .int .i64 gn, .int .i64 gl, .int .i64 gk] 23) = w1 from HW1.out]
  try rw [hG]
  clear hG
  go_wp2
  go_loopw [5, 6] (fun s i wr => ∃ k : Nat, k ≤ pn ∧ i = .int .i64 k ∧ (∃ m : Int, s = .int .i64 m) ∧ Fr No w1 wr) (fun _ i _ => pn - (intOf i).toNat)
  case atStart => exact ⟨0, by omega, rfl, ⟨0, rfl⟩, Fr.refl _ _⟩
  case round =>
    obtain ⟨k, hk, rfl, ⟨m, rfl⟩, hf⟩ := hrel
    have HF := hid hf
    have HRP := hid (HP.out.fr hf)
    obtain ⟨g0, g1, g2, g3, g4⟩ := (P0.out.fr hf).cells
    have HN := hid hk
    clear hf
    have h0k : (0 : Int) ≤ k := by omega
    have hkp := HPN.out
    by_cases hlt : k < pn
    · have hlt3 : (k : Int) < pn := by omega
      by_cases h50 : k < 50
      · have h503 : (k : Int) < 50 := by omega
        obtain ⟨p, hpk⟩ : ∃ p, L[k]? = some p := ⟨_, List.getElem?_eq_getElem (by rw [HRP.out.1]; exact hlt)⟩
        obtain ⟨g, o, rfl, hg, hc⟩ := HRP.out.2.1 (by omega)
        obtain ⟨e0, e1, e2, e3⟩ := hc k p hpk
        have hw1 : wrap64 ((k : Int) + 1) = (k : Int) + 1 := w64 _ (by omega)
        have HK := hid hlt
        clear hc hg hpk e0 e1 e2 hk
        go_wp2
        go_roundw
        case rel => exact ⟨k + 1, HK.out, by go_num, ⟨_, rfl⟩, HF.out⟩
        case measure => first | exact next_m _ _ HK.out hw1 | (have := HK.out; simp [intOf]; omega)
      · have h503 : ¬ (k : Int) < 50 := by omega
        go_wp2
        all_goals
          go_ret
          exact ⟨_, rfl, FG.out.trans HF.out⟩
    · have hlt3 : ¬ (k : Int) < pn := by omega
      go_wp2
      all_goals
        go_ret
        exact ⟨_, rfl, FG.out.trans HF.out⟩
end Go.Proofs.YtpiplcakefcaaaaDoor.BdL
