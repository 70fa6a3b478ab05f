/- A slice of two written pointers, in memory of the call's own. -/
import Derived.Test.YtaonnckhohieoaaDoorRia
import Derived.Test.YtaonnckhohieoaaDoorBs
set_option linter.unusedSimpArgs false
set_option linter.unusedVariables false
set_option maxRecDepth 100000
namespace Go.Proofs.YtaonnckhohieoaaDoor
open Go.RowKit Go.Lib Go.Sort

theorem exec_bs {o : Oper} {ev : Operand → Value} {W W' : World} {T : TypeId} {m : Nat} {parts : Array (Nat × Operand)} (ho : o.op = .buildSlice T m parts) {ps : Array (Nat × Value)} (hp : (parts.map fun (i, y) => (i, ev y)) = ps) {v : Value} (h : (Instr.buildSlice T m ps).run Tryd.prog W = .ok v W') : (execOp ev o).run Tryd.prog W = .ok (.value v) W' := by
  unfold execOp
  simp only [ho, hp, Sem.run_bind, h, Result.andThen_ok]
  rfl
section
variable {ops : Array Oper} {rest : List Oper} {Q : Exit → Act → World → Prop} {op : Oper} {a : Act} {w w0 : World} {l : List (Nat × TypeId × Array Value)}
theorem mem_bs2 (E : Hid (Mem w0 l w)) (hw : Region.wanted op (yielded ops a.tmps) = true) {S T bytes : Nat} {z : Value} (hS : Tryd.prog.underlying S = some (.slice T)) (hT : (Tryd.prog.info? T).map (fun i => (i.zero, i.size, i.bytes)) = some (some z, 1, bytes)) (parts : Array (Nat × Operand)) (ho : op.op = .buildSlice S 2 parts) {x y : Value} (hp : (parts.map fun (i, y) => (i, a.eval y)) = #[(0, x), (1, y)]) (hx : x.cells = #[x]) (hy : y.cells = #[y])
    (k : ∀ b w', Hid (Mem w0 ((b, T, #[x, y]) :: l) w') → wpList Tryd.prog ops Q rest (a.put op.dst (.slice (some ⟨b, 0, none⟩) 2 2)) w') : wpList Tryd.prog ops Q (op :: rest) a w :=
  wpList_known hw _ _ (exec_bs ho hp (run_bs2v hS hT x y hx hy w)) (k _ _ (Lib.hid (E.out.new T _)))
end
end Go.Proofs.YtaonnckhohieoaaDoor

