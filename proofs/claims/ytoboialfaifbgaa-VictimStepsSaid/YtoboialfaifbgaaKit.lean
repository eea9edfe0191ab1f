/- Plain facts on worlds in the forms that drawn regions, walked by hand, ask for. Nothing here speaks of one program's functions. -/
import Derived.Test.YtoboialfaifbgaaChecked
import Derived.Test.YtoboialfaifbgaaSepB
import Derived.WalkLawsBesides
import Derived.Deep.RegionHeld3
import Derived.Deep.QuietTactic
import Derived.BigQuiet
namespace Go.Proofs.Ytoboialfaifbgaa.Kit
open Go.RowKit MSep
theorem retb {b R : Bool} (h : b = R) : Ending.returned (.bool b) = Ending.returned (.bool R) := by rw [h]
theorem kf {a b c : World} (k : Fr No b c) (h : Hid (Fr No a b)) : Hid (Fr No a c) := hid (h.out.trans k)
theorem kc {b c : World} {p : Addr} {v : Value} (k : Fr No b c) (h : b.cell? p = some v) : c.cell? p = some v := k.cell_some h (fun h => h)
theorem kd {a b : World} (h : Hid (Fr No a b)) : Hid (Fr No a b.drew) := hid h.out.drew
theorem kfa {a b : World} {o : Obj} (h : Hid (Fr No a b)) : Hid (Fr No a (b.alloc o)) := hid (h.out.alloc o)
theorem fr1 (w : World) (A : Obj) : Fr No w (w.alloc A) := (Fr.refl No w).alloc A
end Go.Proofs.Ytoboialfaifbgaa.Kit
