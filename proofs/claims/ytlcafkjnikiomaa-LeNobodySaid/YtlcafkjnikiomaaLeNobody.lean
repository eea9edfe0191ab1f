/- LeNobody: the walk. -/
import Derived.Test.YtlcafkjnikiomaaLeL
namespace Go.Proofs.Ytlcafkjnikiomaa.LeNobody
open Go.RowKit MSep LeA LeW LeR LeB LeL

set_option maxHeartbeats 1600000 in
theorem walk (k sz n a b : Int) (A : Option Addr) (l c : Nat) (w : World) :
    Calls Try.prog 8 #[.agg #[.int .i64 k, .int .i64 sz, .int .u64 n, .slice A l c, .int .i64 a, .int .i64 b]] w fun e w' => e = .returned (.bool true) ∧ Below w.heap.size w w' := by
  go_enter Try.func8, Try.ntmps8
  go_wp2_with fail
  refine (LeW.done_nil _).mono ?_
  rintro e w' ⟨rfl, rfl⟩
  go_wp2_with fail
  refine (lives_any _).mono ?_
  rintro e w2 ⟨rfl, F2⟩
  have B2 := (Blk.new w 32 #[.int .i64 k, .int .i64 sz, .int .u64 n, .slice A l c, .int .i64 a, .int .i64 b]).fr F2 (fun h => h)
  have c1 := B2.cell 1
  have c2 := B2.cell 2
  have c3 := B2.cell 3
  have c4 := B2.cell 4
  have c5 := B2.cell 5
  have G : Fr No w w2 := ((Fr.refl _ _).alloc _).trans F2
  clear F2 B2
  go_wp2_with (first
    | (go_at_call 11; refine (put_nil _ _ _).mono ?_; rintro e w' ⟨rfl, rfl⟩)
    | (go_at_call 13; refine (LeW.bytes_nil _ _ _ _).mono ?_; rintro e w' ⟨rfl, rfl⟩)
    | (go_at_call 15; refine (len_nil _).mono ?_; rintro e w' ⟨rfl, rfl⟩)
    | (go_at_call 19; refine (get_nil _ _).mono ?_; rintro e w' ⟨rfl, rfl⟩)
    | (go_at_call 21; refine (int_nil _ _ _ _).mono ?_; rintro e w' ⟨rfl, rfl⟩)
    | (go_at_call 23; refine (LeR.bytes_nil _ _).mono ?_; rintro e w' ⟨rfl, rfl⟩)
    | (go_at_call 25; refine (left_nil _).mono ?_; rintro e w' ⟨rfl, rfl⟩)
    | (go_at_call 27; refine (LeR.done_nil _).mono ?_; rintro e w' ⟨rfl, rfl⟩)
    | (go_at_call 31; refine (set_nil _ _ _).mono ?_; rintro e w' ⟨rfl, rfl⟩)
    | (go_at_call 32; refine (has_nil _ _).mono ?_; rintro e w' ⟨rfl, rfl⟩)
    | (go_at_call 30; refine (count_nil _).mono ?_; rintro e w' ⟨rfl, rfl⟩)
    | (go_at_call 38; refine (first_nil _ _ _).mono ?_; rintro e w' ⟨rfl, rfl⟩)
    | (go_at_call 35; refine (pack_nil _).mono ?_; rintro e w' ⟨rfl, rfl⟩))
  go_ret
  exact ⟨rfl, G.below (Nat.le_refl _) (fun _ h => h.elim)⟩
end Go.Proofs.Ytlcafkjnikiomaa.LeNobody
