/- Contracts: what is left of a span without another one, as the document's answer and as the program reckon it. Condition: both may be (the program's: 64 bits). -/
import Derived.Test.YtoboialfaifbgaaSpO
namespace Go.Proofs.Ytoboialfaifbgaa.SpE
open Go.RowKit MSep MSepC MSpM SpA SpB SpO

theorem lit_rd2 (W : World) (x y : Int) (g : Nat) (hg : g = W.heap.size) : RdS (W.alloc (.cells #[.int .i64 x, .int .i64 y] 68)) (some ⟨g, 0, none⟩) 1 [(x, y)] := by
  subst hg
  exact lit_rd W x y
theorem Out.nilb {B : Nat} {w : World} : Out B w (.slice none 0 0) [] := Out.nil B w

end Go.Proofs.Ytoboialfaifbgaa.SpE
