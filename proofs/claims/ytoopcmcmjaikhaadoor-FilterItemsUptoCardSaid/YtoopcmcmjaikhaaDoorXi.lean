/- The document's reader of bits: the next code. -/
import Derived.Test.YtoopcmcmjaikhaaDoorXh
set_option linter.unusedSimpArgs false
set_option linter.unusedVariables false
set_option maxRecDepth 100000
namespace Go.Proofs.YtoopcmcmjaikhaaDoor
open Go.RowKit Go.Lib Go.Sort

theorem exec_gtu {o : Oper} {ev : Operand → Value} {W : World} {x y : Operand} {a b : Int} {q : Bool} (ho : o.op = .binOp .gtr 59 x y 59) (hx : ev x = .int .u64 a) (hy : ev y = .int .u64 b) (hq : decide (b < a) = q) : (execOp ev o).run Tryd.prog W = .ok (.value (.bool q)) W := by
  subst hq
  unfold execOp
  by_cases h : b < a
  · simp [ho, hx, hy, go_sem, Tryd.underlying59, h]
  · simp [ho, hx, hy, go_sem, Tryd.underlying59, h]
section
variable {D w : World} {b : Nat} {p : Option Addr} {g c : Nat} {xs : List Nat} {t : Nat}
end
end Go.Proofs.YtoopcmcmjaikhaaDoor

