/- Contracts of package le's small functions, and of calls on nil writers, readers and bits. No conditions. -/
import Derived.Test.YtllolilpchmkiaaDoorRows
import Derived.WalkKit
import Derived.ProofKit
import Derived.OpenShut
import Derived.WalkLawsBesides
import Derived.WalkSpells
import Derived.Handy
import Derived.Deep.QuietTactic
import Derived.BigQuiet
namespace Go.Proofs.YtllolilpchmkiaaDoor.LeA
open Go.RowKit

set_option maxRecDepth 100000 in
theorem isSize_any (n : Int) (w : World) : Calls Tryd.prog 79 #[.int .i64 n] w fun e w' => e = .returned (.bool (n == 1 || n == 2 || n == 4 || n == 8)) ∧ w = w' := by
  go_enter Tryd.func79, Tryd.ntmps79
  go_wp2
  all_goals
    go_ret
    simp_all

set_option maxRecDepth 100000 in
theorem new_in (n : Int) (w : World) (h0 : 0 ≤ n) (h1 : n ≤ 65536) :
    Calls Tryd.prog 58 #[.int .i64 n] w fun e w' => e = .returned (.pointer (some ⟨w.heap.size, 0, none⟩)) ∧ w.alloc (.cells #[.int .i64 n, .slice none 0 0, .bool false] 123) = w' := by
  go_enter Tryd.func58, Tryd.ntmps58
  go_wp2
  go_ret
  exact ⟨rfl, rfl⟩

set_option maxRecDepth 100000 in
theorem new_out (n : Int) (w : World) (h : n < 0 ∨ 65536 < n) :
    Calls Tryd.prog 58 #[.int .i64 n] w fun e w' => e = .returned (.pointer none) ∧ w = w' := by
  rcases h with h | h
  · go_enter Tryd.func58, Tryd.ntmps58
    go_wp2
    go_ret
    exact ⟨rfl, rfl⟩
  · have h0 : ¬ n < 0 := by omega
    go_enter Tryd.func58, Tryd.ntmps58
    go_wp2
    go_ret
    exact ⟨rfl, rfl⟩

set_option maxRecDepth 100000 in
theorem fits_ok (g : Nat) (n : Int) (room : Int) (A : Option Addr) (len cap : Nat) (w : World) (h0 : 0 ≤ room) (h1 : room ≤ 65536) (hl : len ≤ 65536)
    (c0 : w.cell? ⟨g, 0, none⟩ = some (.int .i64 room)) (c1 : w.cell? ⟨g, 1, none⟩ = some (.slice A len cap)) (c2 : w.cell? ⟨g, 2, none⟩ = some (.bool false)) :
    Calls Tryd.prog 78 #[.pointer (some ⟨g, 0, none⟩), .int .i64 n] w fun e w' => e = .returned (.bool (decide (n ≤ room - len))) ∧ ∃ k, w' = w.drewN k := by
  go_enter Tryd.func78, Tryd.ntmps78
  go_wp2
  go_quiet (fail)
  go_wp2
  go_ret
  exact ⟨rfl, _, rfl⟩

set_option maxRecDepth 100000 in
theorem fits_bad (g : Nat) (n : Int) (w : World)
    (c2 : w.cell? ⟨g, 2, none⟩ = some (.bool true)) :
    Calls Tryd.prog 78 #[.pointer (some ⟨g, 0, none⟩), .int .i64 n] w fun e w' => e = .returned (.bool false) ∧ ∃ k, w' = w.drewN k := by
  go_enter Tryd.func78, Tryd.ntmps78
  go_wp2
  go_quiet (fail)
  go_wp2
  go_ret
  exact ⟨rfl, _, rfl⟩
end Go.Proofs.YtllolilpchmkiaaDoor.LeA
