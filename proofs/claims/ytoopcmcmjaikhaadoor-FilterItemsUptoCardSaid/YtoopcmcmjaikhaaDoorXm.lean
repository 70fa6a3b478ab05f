/- The numbers in a filter, the document's. -/
import Derived.Test.YtoopcmcmjaikhaaDoorXl
set_option linter.unusedSimpArgs false
set_option linter.unusedVariables false
set_option maxRecDepth 100000
namespace Go.Proofs.YtoopcmcmjaikhaaDoor
open Go.RowKit Go.Lib Go.Sort

theorem exec_neu {o : Oper} {ev : Operand → Value} {W : World} {x y : Operand} {a b : Int} {q : Bool} (ho : o.op = .binOp .neq 59 x y 59) (hx : ev x = .int .u64 a) (hy : ev y = .int .u64 b) (hq : decide (a = b) = !q) : (execOp ev o).run Tryd.prog W = .ok (.value (.bool q)) W := by
  obtain rfl : q = !decide (a = b) := by rw [hq]; simp
  unfold execOp
  by_cases h : a = b
  · subst h
    simp [ho, hx, hy, go_sem, Tryd.underlying59]
  · simp [ho, hx, hy, go_sem, Tryd.underlying59, h]
theorem run_nothing (w : World) : (Instr.buildSlice 32 0 #[]).run Tryd.prog w = .ok (.slice (some ⟨w.heap.size, 0, none⟩) 0 0) (w.alloc (.cells #[] 5)) := run_bs0 Tryd.underlying32 infoB w
theorem Wb.fresh0 (w : World) : Wb w [] (some ⟨w.heap.size, 0, Option.none⟩) w.heap.size 0 [] (w.alloc (.cells #[] 5)) :=
  ⟨(Mem.nil w).call (below_new w _), own_start w (lf []) (lf_lt isB_nil), fun q hq => by cases hq⟩
theorem wpList_bsx {ops : Array Oper} {rest : List Oper} {Q : Exit → Act → World → Prop} {op : Oper} {a : Act} {w : World} (hw : Region.wanted op (yielded ops a.tmps) = true) (parts : Array (Nat × Operand)) (ho : op.op = .buildSlice 32 0 parts) (hp : (parts.map fun (i, y) => (i, a.eval y)) = #[]) (k : ∀ p g c w', Hid (Wb w [] p g c [] w') → wpList Tryd.prog ops Q rest (a.put op.dst (.slice p 0 c)) w') : wpList Tryd.prog ops Q (op :: rest) a w :=
  BigFrame.wpList_want hw fun _ hK => by
    refine mo_known _ _ ?_ (hK _ _ (k _ _ _ _ (Lib.hid (Wb.fresh0 w))))
    unfold execOp
    simp only [ho, hp, Sem.run_bind, run_nothing w, Result.andThen_ok]
    rfl
end Go.Proofs.YtoopcmcmjaikhaaDoor

