/- The document's reader of bits: some bits; the next code; a new one. -/
import Derived.Test.YtoopcmcmjaikhaaDoorXg
import Derived.Test.YtoopcmcmjaikhaaDoorWo
import Derived.Test.YtoopcmcmjaikhaaDoorZA
set_option linter.unusedSimpArgs false
set_option linter.unusedVariables false
set_option maxRecDepth 100000
namespace Go.Proofs.YtoopcmcmjaikhaaDoor
open Go.RowKit Go.Lib Go.Sort

section
variable {D w : World} {b : Nat} {p : Option Addr} {g c : Nat} {xs : List Nat} {t : Nat}
theorem exec_lsn {o : Oper} {ev : Operand → Value} {W : World} {x y : Operand} {a b : Int} {q : Bool} (ho : o.op = .binOp .lss 3 x y 3) (hx : ev x = .int .i64 a) (hy : ev y = .int .i64 b) (hq : decide (a < b) = q) : (execOp ev o).run Tryd.prog W = .ok (.value (.bool q)) W := by
  subst hq
  unfold execOp
  by_cases h : a < b
  · simp [ho, hx, hy, go_sem, Tryd.underlying3, h]
  · simp [ho, hx, hy, go_sem, Tryd.underlying3, h]
end
end Go.Proofs.YtoopcmcmjaikhaaDoor

