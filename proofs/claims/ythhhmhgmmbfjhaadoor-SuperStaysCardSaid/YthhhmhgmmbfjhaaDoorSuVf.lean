/- SuperStays' walk, from its ways. Conditions: the table of sums is as its text lays it; the geometry's Seq and the generation are whole numbers of 64 bits; the torn sector reads as bytes. -/
import Derived.Test.YthhhmhgmmbfjhaaDoorSuV
namespace Go.Proofs.YthhhmhgmmbfjhaaDoor.SuVf
open Go.RowKit MSep MFrame SuA SuB SuD SuF SuG SuH SuJ SuK SuL SuM SuMd SuN SuP SuQ SuT SuV CrcA CrcM CrcE Kit

theorem pk_1 {x y : Sp} (hx : 1 ≤ x.g) (h : y.g = x.g + 1) (hp : y.g % 2 = 1) : pkP (some x) none = some x ∧ pkP (some x) (some y) = some y := by
  have z : rz.g = 0 := rfl
  have h0 : x.g % 2 = 0 := by omega
  have e1 : pk1 0 rz (some x) = x := if_pos ⟨h0, by omega⟩
  have e2 : pk1 1 x (some y) = y := if_pos ⟨hp, by omega⟩
  constructor
  · unfold pkP
    rw [e1]
    exact if_neg (show ¬ x.g = 0 by omega)
  · unfold pkP
    rw [e1, e2]
    exact if_neg (show ¬ y.g = 0 by omega)
theorem pk_0 {x y : Sp} (hx : 1 ≤ x.g) (h : y.g = x.g + 1) (hp : y.g % 2 = 0) : pkP none (some x) = some x ∧ pkP (some y) (some x) = some y := by
  have z : rz.g = 0 := rfl
  have h1 : x.g % 2 = 1 := by omega
  have e1 : pk1 1 rz (some x) = x := if_pos ⟨h1, by omega⟩
  have e2 : pk1 0 rz (some y) = y := if_pos ⟨hp, by omega⟩
  have e3 : pk1 1 y (some x) = y := if_neg (fun q => by have := q.2; omega)
  constructor
  · unfold pkP
    rw [show pk1 0 rz none = rz from rfl, e1]
    exact if_neg (show ¬ x.g = 0 by omega)
  · unfold pkP
    rw [e2, e3]
    exact if_neg (show ¬ y.g = 0 by omega)
theorem stays_walk (g c s n l k t ep fi : Int) (b : Bool) (A : Option Addr) (ln cp : Nat) (zt : List Int) (w : World) (hs : -9223372036854775808 ≤ s ∧ s ≤ 9223372036854775807) (_ : -9223372036854775808 ≤ g ∧ g ≤ 9223372036854775807) (ht : IsB w A ln cp zt) (hT : TabAt w) : Calls Tryd.prog 7 #[sv g c s n l k t ep fi b, .slice A ln cp] w fun e' w' => e' = .returned (.bool true) ∧ Fr No w w' := by
  by_cases hm : mayP ⟨g, c, s, n, l, k, t, ep, fi, b⟩ ∧ mayP (nxS ⟨g, c, s, n, l, k, t, ep, fi, b⟩ (wrap64 (1 - t)) ep fi b)
  · have hnx : SuL.nx ⟨g, c, s, n, l, k, t, ep, fi, b⟩ (wrap64 (1 - t)) ep fi b = some (nxS ⟨g, c, s, n, l, k, t, ep, fi, b⟩ (wrap64 (1 - t)) ep fi b) := if_pos hm
    obtain ⟨hms, hmn⟩ := hm
    have hms : mayS g c s n l k t ep fi := hms
    obtain ⟨gn, hgn⟩ : ∃ gn, wrap64 (g + 1) = gn := ⟨_, rfl⟩
    obtain ⟨tn, htn⟩ : ∃ tn, wrap64 (1 - t) = tn := ⟨_, rfl⟩
    have hnc_ : nxS ⟨g, c, s, n, l, k, t, ep, fi, b⟩ (wrap64 (1 - t)) ep fi b = ⟨gn, c, s, n, l, k, tn, ep, fi, b⟩ := by
      show (⟨wrap64 (g + 1), c, s, n, l, k, wrap64 (1 - t), ep, fi, b⟩ : Sp) = _
      rw [hgn, htn]
    rw [hnc_] at hnx hmn
    have hmn : mayS gn c s n l k tn ep fi := hmn
    have hg := may_g hms
    have hgg : gn = g + 1 := by rw [← hgn]; unfold wrap64; omega
    have dS := rtS b hms
    have dN := rtS b hmn
    have hdd := dec_decR zt ht.2.2.2
    obtain ⟨Zs, hzs⟩ : ∃ Z, seal_ (eTo g c s n l k t ep fi 1 (if b then 1 else 0) 11) = Z := ⟨_, rfl⟩
    obtain ⟨Zn, hzn⟩ : ∃ Z, seal_ (eTo gn c s n l k tn ep fi 1 (if b then 1 else 0) 11) = Z := ⟨_, rfl⟩
    rw [hzs] at dS
    rw [hzn] at dN
    by_cases hp : gn % 2 = 1
    · obtain ⟨p1, p2⟩ := pk_1 (x := ⟨g, c, s, n, l, k, t, ep, fi, b⟩) (y := ⟨gn, c, s, n, l, k, tn, ep, fi, b⟩) hg.1 hgg hp
      cases hd : decR zt with
      | none => exact stays_1n g c s n l k t ep fi b gn tn A ln cp zt w ⟨hgn, htn⟩ hnx hms hmn hp hzs hzn ht hd (by rw [dS, hdd, hd]; exact p1) (by rw [dS, dN]; exact p2) hT
      | some y => exact stays_1t g c s n l k t ep fi b gn tn A ln cp zt w ⟨hgn, htn⟩ hnx hms hmn hp hzs hzn ht (y0 := y.g) (y1 := y.c) (y2 := y.s) (y3 := y.n) (y4 := y.l) (y5 := y.k) (y6 := y.t) (y7 := y.e) (y8 := y.f) (yb := y.b) hd rfl (by rw [dS, dN]; exact p2) hT
    · have hp0 : gn % 2 = 0 := by omega
      obtain ⟨p1, p2⟩ := pk_0 (x := ⟨g, c, s, n, l, k, t, ep, fi, b⟩) (y := ⟨gn, c, s, n, l, k, tn, ep, fi, b⟩) hg.1 hgg hp0
      cases hd : decR zt with
      | none => exact stays_0n g c s n l k t ep fi b gn tn A ln cp zt w ⟨hgn, htn⟩ hnx hms hmn hp0 hzs hzn ht hd (by rw [dS, hdd, hd]; exact p1) (by rw [dS, dN]; exact p2) hT
      | some y => exact stays_0t g c s n l k t ep fi b gn tn A ln cp zt w ⟨hgn, htn⟩ hnx hms hmn hp0 hzs hzn ht (y0 := y.g) (y1 := y.c) (y2 := y.s) (y3 := y.n) (y4 := y.l) (y5 := y.k) (y6 := y.t) (y7 := y.e) (y8 := y.f) (yb := y.b) hd rfl (by rw [dS, dN]; exact p2) hT
  · exact stays_no g c s n l k t ep fi b A ln cp w hs (if_neg hm) hT
end Go.Proofs.YthhhmhgmmbfjhaaDoor.SuVf
