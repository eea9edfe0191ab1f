/- Contracts: what follows from any geometry, by the document. Condition: all numbers are 64 bits. -/
import Derived.Test.YtoboialfaifbgaaGeEi
import Derived.Test.YtoboialfaifbgaaGeEj
namespace Go.Proofs.Ytoboialfaifbgaa.GeEk
open Go.RowKit MSep MGeM GeA GeB GeC GeD GeE GeEi GeEj

theorem rlayout_ok (c s n l k : Int) (w : World) (hs : -9223372036854775808 ≤ s ∧ s ≤ 9223372036854775807) : Calls Try.prog 22 #[.agg #[.int .i64 c, .int .i64 s, .int .i64 n, .int .i64 l, .int .i64 k]] w fun e w' => e = .returned (.tuple #[yv (rlo ⟨c, s, n, l, k⟩).1, .bool (rlo ⟨c, s, n, l, k⟩).2]) ∧ Fr No w w' := by
  by_cases hB : inB ⟨c, s, n, l, k⟩
  · by_cases h1 : 0 < ((lay ⟨c, s, n, l, k⟩).a * 96 - 40 - 2 * (s - k - 1) - (s + 7) / 8)
    · by_cases h2 : 8 ≤ ((lay ⟨c, s, n, l, k⟩).a * 96 - 40 - 2 * (s - k - 1) - (s + 7) / 8) / 16
      · by_cases h3 : ((lay ⟨c, s, n, l, k⟩).a * 96 - 40 - 2 * (s - k - 1) - (s + 7) / 8) / 16 ≤ 2048
        · exact rlayout_b c s n l k w hs hB ⟨h2, h3⟩
        · exact rlayout_a c s n l k w hs hB (by omega)
      · exact rlayout_c c s n l k w hs hB ⟨h1, by omega⟩
    · exact rlayout_d c s n l k w hs hB h1
  · exact rlayout_out c s n l k w hs hB
end Go.Proofs.Ytoboialfaifbgaa.GeEk
