/- RecordNeeds' walk. Condition: the table of sums is as its text lays it. -/
import Derived.Test.YtdepkpdolkipcaaDoorRcP
namespace Go.Proofs.YtdepkpdolkipcaaDoor.RcQ
open Go.RowKit MSep MFrame MSepC RcA RcB RcC Kit CrcA RcP

set_option maxRecDepth 100000 in
theorem needs_walk (n : Int) (w : World) (hn : -9223372036854775808 ≤ n ∧ n ≤ 9223372036854775807) (hT : TabAt w) : Calls Tryd.prog 12 #[.int .i64 n] w fun e w' => e = .returned (.bool true) ∧ Fr No w w' := by
  have HN := hid hn
  have HT := hid hT
  clear hn hT
  go_enter Tryd.func12, Tryd.ntmps12
  go_wp2_with (first | (go_at_call 24; refine (lives_ok _ HT.out).mono ?_; rintro e' w1 ⟨rfl, f1⟩; have HF1 := hid f1; clear f1) | (go_at_call 36; refine (needs_fr _ _ HN.out).mono ?_; rintro e' w2 ⟨rfl, f2⟩; have HF2 := hid (HF1.out.trans f2); clear f2) | (go_at_call 37; refine (rneeds_fr _ _ HN.out).mono ?_; rintro e' w3 ⟨rfl, f3⟩; have HF3 := hid (HF2.out.trans f3); clear f3))
  go_ret
  exact ⟨rfl, HF3.out⟩
end Go.Proofs.YtdepkpdolkipcaaDoor.RcQ
