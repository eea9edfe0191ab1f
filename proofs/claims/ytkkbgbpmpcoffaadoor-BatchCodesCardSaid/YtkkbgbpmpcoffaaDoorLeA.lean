/- Contracts of package le's small functions, and of calls on nil writers, readers and bits. No conditions. -/
import Derived.Test.YtkkbgbpmpcoffaaDoorRows
import Derived.WalkKit
import Derived.ProofKit
import Derived.OpenShut
import Derived.WalkLawsBesides
import Derived.WalkSpells
import Derived.Handy
import Derived.Deep.QuietTactic
import Derived.BigQuiet
namespace Go.Proofs.YtkkbgbpmpcoffaaDoor.LeA
open Go.RowKit

set_option maxRecDepth 100000 in
theorem isSize_any (n : Int) (w : World) : Calls Tryd.prog 74 #[.int .i64 n] w fun e w' => e = .returned (.bool (n == 1 || n == 2 || n == 4 || n == 8)) ∧ w = w' := by
  go_enter Tryd.func74, Tryd.ntmps74
  go_wp2
  all_goals
    go_ret
    simp_all

set_option maxRecDepth 100000 in
theorem new_in (n : Int) (w : World) (h0 : 0 ≤ n) (h1 : n ≤ 65536) :
    Calls Tryd.prog 52 #[.int .i64 n] w fun e w' => e = .returned (.pointer (some ⟨w.heap.size, 0, none⟩)) ∧ w.alloc (.cells #[.int .i64 n, .slice none 0 0, .bool false] 119) = w' := by
  go_enter Tryd.func52, Tryd.ntmps52
  go_wp2
  go_ret
  exact ⟨rfl, rfl⟩

set_option maxRecDepth 100000 in
theorem new_out (n : Int) (w : World) (h : n < 0 ∨ 65536 < n) :
    Calls Tryd.prog 52 #[.int .i64 n] w fun e w' => e = .returned (.pointer none) ∧ w = w' := by
  rcases h with h | h
  · go_enter Tryd.func52, Tryd.ntmps52
    go_wp2
    go_ret
    exact ⟨rfl, rfl⟩
  · have h0 : ¬ n < 0 := by omega
    go_enter Tryd.func52, Tryd.ntmps52
    go_wp2
    go_ret
    exact ⟨rfl, rfl⟩

set_option maxRecDepth 100000 in
theorem fits_ok (g : Nat) (n : Int) (room : Int) (A : Option Addr) (len cap : Nat) (w : World) (h0 : 0 ≤ room) (h1 : room ≤ 65536) (hl : len ≤ 65536)
    (c0 : w.cell? ⟨g, 0, none⟩ = some (.int .i64 room)) (c1 : w.cell? ⟨g, 1, none⟩ = some (.slice A len cap)) (c2 : w.cell? ⟨g, 2, none⟩ = some (.bool false)) :
    Calls Tryd.prog 73 #[.pointer (some ⟨g, 0, none⟩), .int .i64 n] w fun e w' => e = .returned (.bool (decide (n ≤ room - len))) ∧ ∃ k, w' = w.drewN k := by
  go_enter Tryd.func73, Tryd.ntmps73
  go_wp2
  go_quiet (fail)
  go_wp2
  go_ret
  exact ⟨rfl, _, rfl⟩

set_option maxRecDepth 100000 in
theorem fits_bad (g : Nat) (n : Int) (w : World)
    (c2 : w.cell? ⟨g, 2, none⟩ = some (.bool true)) :
    Calls Tryd.prog 73 #[.pointer (some ⟨g, 0, none⟩), .int .i64 n] w fun e w' => e = .returned (.bool false) ∧ ∃ k, w' = w.drewN k := by
  go_enter Tryd.func73, Tryd.ntmps73
  go_wp2
  go_quiet (fail)
  go_wp2
  go_ret
  exact ⟨rfl, _, rfl⟩
end Go.Proofs.YtkkbgbpmpcoffaaDoor.LeA
