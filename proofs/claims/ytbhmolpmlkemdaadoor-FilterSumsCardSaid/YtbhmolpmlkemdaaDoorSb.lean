/- The number of some bytes, the lowest first. -/
import Derived.Test.YtbhmolpmlkemdaaDoorNm
import Derived.Deep.LoopGhost
set_option linter.unusedSimpArgs false
set_option maxRecDepth 100000
namespace Go.Proofs.YtbhmolpmlkemdaaDoor
open Go.RowKit Go.Lib

theorem ret_of {k : IntKind} {a b : Int} (h : a = b) : Ending.returned (.int k a) = .returned (.int k b) := by rw [h]

end Go.Proofs.YtbhmolpmlkemdaaDoor

