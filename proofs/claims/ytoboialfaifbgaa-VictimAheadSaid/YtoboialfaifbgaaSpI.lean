/- Contract: a set without a span, as the document's answer reckons it. Condition: the slice reads as a set's spans. -/
import Derived.Test.YtoboialfaifbgaaSpH
namespace Go.Proofs.Ytoboialfaifbgaa.SpI
open Go.RowKit MSep MSepC MSpM SpA SpB SpO SpE SpF SpG SpH

end Go.Proofs.Ytoboialfaifbgaa.SpI
