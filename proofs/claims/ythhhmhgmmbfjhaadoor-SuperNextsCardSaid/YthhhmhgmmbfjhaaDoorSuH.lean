/- Contracts: the sector of a superblock that may not be; a superblock's place. Condition: the geometry's Seq and the generation are whole numbers of 64 bits. -/
import Derived.Test.YthhhmhgmmbfjhaaDoorSuG
namespace Go.Proofs.YthhhmhgmmbfjhaaDoor.SuH
open Go.RowKit MSep SuA SuB SuD

set_option maxRecDepth 100000 in
theorem encS_no (g c s n l k t e f : Int) (b : Bool) (w : World) (hs : -9223372036854775808 ≤ s ∧ s ≤ 9223372036854775807) (hm : ¬ mayS g c s n l k t e f) : Calls Tryd.prog 14 #[sv g c s n l k t e f b] w fun E w' => E = .returned (.tuple #[.slice none 0 0, .int .i64 1]) ∧ Fr No w w' := by
  have HFW := hid ((Fr.refl No w).alloc (sbx g c s n l k t e f b))
  have HS := hid hs
  have HM := hid hm
  clear hs hm
  go_enter Tryd.func14, Tryd.ntmps14
  go_wp2_with (go_at_call 16; refine (mayS_ok g c s n l k t e f b _ HS.out).mono ?_; rintro e' w1 ⟨rfl, f1⟩; rw [decide_eq_false HM.out]; have HF1 := hid (HFW.out.trans f1); clear f1)
  go_ret2
  exact ⟨rfl, HF1.out⟩
set_option maxRecDepth 100000 in
theorem copy_no (g c s n l k t e f : Int) (b : Bool) (w : World) (hs : -9223372036854775808 ≤ s ∧ s ≤ 9223372036854775807) (hm : ¬ mayS g c s n l k t e f) : Calls Tryd.prog 18 #[sv g c s n l k t e f b] w fun E w' => E = .returned (.int .i64 (-1)) ∧ Fr No w w' := by
  have HFW := hid ((Fr.refl No w).alloc (sbx g c s n l k t e f b))
  have HS := hid hs
  have HM := hid hm
  clear hs hm
  go_enter Tryd.func18, Tryd.ntmps18
  go_wp2_with (go_at_call 16; refine (mayS_ok g c s n l k t e f b _ HS.out).mono ?_; rintro e' w1 ⟨rfl, f1⟩; rw [decide_eq_false HM.out]; have HF1 := hid (HFW.out.trans f1); clear f1)
  go_ret
  exact ⟨rfl, HF1.out⟩
set_option maxRecDepth 100000 in
theorem copy_yes (g c s n l k t e f : Int) (b : Bool) (w : World) (hs : -9223372036854775808 ≤ s ∧ s ≤ 9223372036854775807) (hm : mayS g c s n l k t e f) : Calls Tryd.prog 18 #[sv g c s n l k t e f b] w fun E w' => E = .returned (.int .i64 (g % 2)) ∧ Fr No w w' := by
  have HFW := hid ((Fr.refl No w).alloc (sbx g c s n l k t e f b))
  have HS := hid hs
  have HM := hid hm
  have hg1 : 1 ≤ g := hm.2.1.1
  have hg2 : g ≤ 1099511627776 := hm.2.1.2
  have x0 : ∀ w1, Fr No (w.alloc (sbx g c s n l k t e f b)) w1 → w1.cell? ⟨w.heap.size, 0, none⟩ = some (.int .i64 g) := fun w1 f1 => Blk.cell (Blk.fr (Blk.new w 25 #[.int .i64 g, .int .i64 c, .int .i64 s, .int .i64 n, .int .i64 l, .int .i64 k, .int .i64 t, .int .i64 e, .int .i64 f, .bool b]) f1 (fun h => h)) 0
  have HX0 := hid x0
  clear hs hm x0
  go_enter Tryd.func18, Tryd.ntmps18
  go_wp2_with (go_at_call 16; refine (mayS_ok g c s n l k t e f b _ HS.out).mono ?_; rintro e' w1 ⟨rfl, f1⟩; rw [decide_eq_true HM.out]; have HF1 := hid (HFW.out.trans f1); have y0 := HX0.out w1 f1; clear f1)
  go_ret
  exact ⟨by first | rfl | (congr 2; omega) | (rw [Int.tmod_eq_emod_of_nonneg (by omega)]), HF1.out⟩
end Go.Proofs.YthhhmhgmmbfjhaaDoor.SuH
