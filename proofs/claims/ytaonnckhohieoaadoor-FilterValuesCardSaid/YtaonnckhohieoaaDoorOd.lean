/- What an argument of type Do, or of type []Do, is. -/
import Derived.Test.YtaonnckhohieoaaDoorOp
import Derived.Test.YtaonnckhohieoaaDoorVr
import Derived.Lib.SmallJoins
set_option linter.unusedSimpArgs false
set_option linter.unusedVariables false
set_option maxRecDepth 100000
namespace Go.Proofs.YtaonnckhohieoaaDoor
open Go.ChangeShapes Go.WideShapes Go.ChangeAt Go.RowKit Go.Lib

/-- A call to be done: its kind, its count, its number. -/
structure DoOk (a b c : Int) : Prop where
  ha : -9223372036854775808 ≤ a ∧ a ≤ 9223372036854775807
  hb : -9223372036854775808 ≤ b ∧ b ≤ 9223372036854775807
  hc : 0 ≤ c ∧ c ≤ 18446744073709551615
end Go.Proofs.YtaonnckhohieoaaDoor

