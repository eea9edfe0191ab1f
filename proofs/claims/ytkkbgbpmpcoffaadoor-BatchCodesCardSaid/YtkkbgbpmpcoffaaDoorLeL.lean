/- The contract of 'lives' in the statements of layer 1: it answers true, and leaves all that was there as it was. No conditions. -/
import Derived.Test.YtkkbgbpmpcoffaaDoorLeB
namespace Go.Proofs.YtkkbgbpmpcoffaaDoor.LeL
open Go.RowKit MSep LeA LeW LeR LeB

theorem WOk.new (w : World) (n : Int) (h0 : 0 ≤ n) (h1 : n ≤ 65536) : WOk (w.alloc (.cells #[.int .i64 n, .slice none 0 0, .bool false] 119)) w.heap.size w.heap.size n false (.slice none 0 0) [] :=
  ⟨Blk.new _ _ _, World.ownsRow_nil _ _ _ _, Nat.le_refl _, h0, h1, by simpa using h0⟩
theorem WOk.lt {w : World} {B g : Nat} {room : Int} {bad : Bool} {sv : Value} {xs : List Int} (h : WOk w B g room bad sv xs) : ∀ k, WF g sv k → k < w.heap.size := by
  rintro k (rfl | hk)
  · exact h.blk.lt
  · exact (h.own.lt k hk).2

end Go.Proofs.YtkkbgbpmpcoffaaDoor.LeL
