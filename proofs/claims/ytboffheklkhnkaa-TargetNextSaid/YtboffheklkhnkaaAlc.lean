/- A new block of four noughts, laid by a walk whose world stays a variable. -/
import Derived.Test.YtboffheklkhnkaaEnv2
section
set_option linter.unusedSimpArgs false
namespace Go.Proofs.Ytboffheklkhnkaa
open Go.RowKit Go.Lib Go.Sort

theorem run_alloc24 (w : World) : (Instr.alloc 24 true (.tuple #[])).run Try.prog w = .ok (.pointer (some ⟨w.heap.size, 0, none⟩)) (w.alloc (.cells z4 24)) := by kernel_rfl
/-- An operation whose run is known, as the walk meets it. -/
theorem wpList_known {P : Program} {ops : Array Oper} {rest : List Oper} {o : Oper} {a : Act} {w : World} {Q : Exit → Act → World → Prop} (hg : o.guard = none)
    (v : Value) (w' : World) (hrun : (execOp a.eval o).run P w = .ok (.value v) w')
    (h : wpList P ops Q rest (a.put o.dst v) w') : wpList P ops Q (o :: rest) a w := by
  refine wpList_plain hg fun K hK => ?_
  unfold Oper.wp
  rw [hrun, Oper.upon_value]
  exact hK _ _ h
theorem envn_alloc {ops : Array Oper} {Q : Exit → Act → World → Prop} {rest : List Oper} {op : Oper} {a : Act} {w w0 : World} {l : List (Nat × (Nat → Value))} (E : Hid (EnvN w0 l w)) (hgd : op.guard = none) (ho : op.op = .alloc 24)
    (h : ∀ b w', Hid (EnvN w0 ((b, wl 0) :: l) w') → wpList Try.prog ops Q rest (a.put op.dst (.pointer (some ⟨b, 0, none⟩))) w') : wpList Try.prog ops Q (op :: rest) a w := by
  refine wpList_known hgd (.pointer (some ⟨w.heap.size, 0, none⟩)) (w.alloc (.cells z4 24)) ?_ (h _ _ (Lib.hid (E.out.nextz rfl)))
  unfold execOp
  simp only [ho, Sem.run_bind, run_alloc24, Result.andThen_ok]
  rfl
end Go.Proofs.Ytboffheklkhnkaa
end
section
set_option linter.unusedSimpArgs false
namespace Go.Proofs.Ytboffheklkhnkaa
open Go.RowKit Go.Lib Go.Sort

/-- The call returns v, whatever lay in memory stays. -/
abbrev Gives (f : Nat) (args : Array Value) (v : Value) : Prop := ∀ W : World, Calls Try.prog f args W fun e w' => e = .returned v ∧ Below W.heap.size W w'
theorem run_box24 (n : Nat) (w : World) : (Instr.box 24 (wide n)).run Try.prog w = .ok (.pointer (some ⟨w.heap.size, 0, none⟩)) (w.alloc (.cells (arr 4 (wl n)) 24)) := by kernel_rfl
theorem envn_box {ops : Array Oper} {Q : Exit → Act → World → Prop} {rest : List Oper} {op : Oper} {a : Act} {w w0 : World} {l : List (Nat × (Nat → Value))} (E : Hid (EnvN w0 l w)) (hgd : op.guard = none) (x : Operand) (ho : op.op = .box 24 x) {n : Nat} (hx : a.eval x = wide n)
    (h : ∀ b w', Hid (EnvN w0 ((b, wl n) :: l) w') → wpList Try.prog ops Q rest (a.put op.dst (.pointer (some ⟨b, 0, none⟩))) w') : wpList Try.prog ops Q (op :: rest) a w := by
  refine wpList_known hgd (.pointer (some ⟨w.heap.size, 0, none⟩)) (w.alloc (.cells (arr 4 (wl n)) 24)) ?_ (h _ _ (Lib.hid (E.out.next rfl _)))
  unfold execOp
  simp only [ho, hx, Sem.run_bind, run_box24, Result.andThen_ok]
  rfl
end Go.Proofs.Ytboffheklkhnkaa
end
section
set_option linter.unusedSimpArgs false
namespace Go.Proofs.Ytboffheklkhnkaa
open Go.RowKit Go.Lib Go.Sort

theorem run_load22 (w : World) (p j : Nat) (v : Value) (hc : w.cell? ⟨p, j, none⟩ = some v) : (Instr.loadAt 22 (.pointer (some ⟨p, j, none⟩))).run Try.prog w = .ok v w := by
  simp [go_sem, Instr.loadAt, Instr.sureAddr, hc, Try.underlying22]
theorem envn_cell {ops : Array Oper} {Q : Exit → Act → World → Prop} {rest : List Oper} {op : Oper} {a : Act} {w w0 : World} {l : List (Nat × (Nat → Value))} (E : Hid (EnvN w0 l w)) (hgd : op.guard = none) (x : Operand) (ho : op.op = .load 22 x) {p j : Nat} (hx : a.eval x = .pointer (some ⟨p, j, none⟩)) {f : Nat → Value} (hm : (p, f) ∈ l) (hj : j < 4)
    (h : wpList Try.prog ops Q rest (a.put op.dst (f j)) w) : wpList Try.prog ops Q (op :: rest) a w := by
  refine wpList_known hgd (f j) w ?_ h
  unfold execOp
  simp only [ho, hx, Sem.run_bind, run_load22 w p j (f j) ((E.out.get hm).cell j hj), Result.andThen_ok]
  rfl
end Go.Proofs.Ytboffheklkhnkaa
end
