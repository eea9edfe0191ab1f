/- CleanEnds' walk, all ways. Conditions: numbers of 64 bits; a list that reads as a list. -/
import Derived.Test.YtgjcpepfggkieaaClZc
namespace Go.Proofs.Ytgjcpepfggkieaa.ClZ
open Go.RowKit MSep MGeM GeA GeC GeD GeE GeEk PlA PlB ClM ClA ClZa ClZc

theorem row (gc gs gn gl gk : Int) (ch zone : Int) (A : Option Addr) (l c : Nat) (bs : List Int) (spare : Int) (w : World) (hs : -9223372036854775808 ≤ gs ∧ gs ≤ 9223372036854775807) (hzi : inI zone) (hi : InI w A l c bs) :
    Calls Try.prog 10 #[.agg #[.int .i64 gc, .int .i64 gs, .int .i64 gn, .int .i64 gl, .int .i64 gk], .int .i64 ch, .int .i64 zone, .slice A l c, .int .i64 spare] w fun r w' => r = .returned (.bool true) ∧ Fr No w w' := by
  by_cases hm : mayG ⟨gc, gs, gn, gl, gk⟩
  case neg => exact ends_geom gc gs gn gl gk ch zone A l c spare bs w hs hi hm
  cases hc : chB ch
  · exact ends_chunk gc gs gn gl gk ch zone A l c spare bs w hs hi hm hc
  by_cases hl : l ≤ 100
  case neg => exact ends_len gc gs gn gl gk ch zone A l c spare bs w hs hi hm hc (by omega)
  by_cases hb : (lay ⟨gc, gs, gn, gl, gk⟩).b * (lay ⟨gc, gs, gn, gl, gk⟩).d ≤ 5000
  case neg => exact ends_big gc gs gn gl gk ch zone A l c spare bs w hs hi hm hc hl (by omega)
  by_cases hz : spare = zone
  · exact ends_same gc gs gn gl gk ch zone A l c spare bs w hs hi hm hc hl hb hz
  by_cases hq : gc ≤ spare
  case neg => exact ends_low gc gs gn gl gk ch zone A l c spare bs w hs hi hm hc hl hb hz (by omega)
  by_cases hq2 : spare < gc + gs
  case neg => exact ends_high gc gs gn gl gk ch zone A l c spare bs w hs hi hm hc hl hb hz hq (by omega)
  exact ends_yes gc gs gn gl gk ch zone A l c spare bs w hs hi hm hc hl hb hz hq hq2 hzi
end Go.Proofs.Ytgjcpepfggkieaa.ClZ
