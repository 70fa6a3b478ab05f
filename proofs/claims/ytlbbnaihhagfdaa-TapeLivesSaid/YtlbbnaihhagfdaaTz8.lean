/- Small laws that several statements on tapes use. -/
import Derived.Test.YtlbbnaihhagfdaaTx8
import Derived.Test.YtlbbnaihhagfdaaOp
set_option linter.unusedSimpArgs false
set_option linter.unusedVariables false
set_option maxRecDepth 100000
namespace Go.Proofs.Ytlbbnaihhagfdaa
open Go.RowKit Go.Lib Go.Sort
theorem exec_eqli {o : Oper} {ev : Operand → Value} {W : World} {x y : Operand} {a b : Int} {q : Bool} (ho : o.op = .binOp .eql 3 x y 3) (hx : ev x = .int .i64 a) (hy : ev y = .int .i64 b) (hq : decide (a = b) = q) : (execOp ev o).run Try.prog W = .ok (.value (.bool q)) W := by
  subst hq
  unfold execOp
  by_cases h : a = b
  · subst h
    simp [ho, hx, hy, go_sem, Try.underlying3]
  · simp [ho, hx, hy, go_sem, Try.underlying3, h]
theorem below_drew0 (w : World) : Below w.heap.size w w.drew := ⟨rfl, rfl, rfl, Nat.le_refl _, fun _ _ => rfl⟩
theorem tl_take (x : Nat → Nat) {m n : Nat} (h : m ≤ n) : (tl x n).take m = tl x m := by
  unfold tl
  rw [← List.map_take, List.take_range, Nat.min_eq_left h]
theorem bok_no : bok false 0 = true := rfl
theorem bk_no : bk false 0 = 0 := rfl

theorem exec_muli {o : Oper} {ev : Operand → Value} {W : World} {x y : Operand} {a b r : Int} (ho : o.op = .binOp .mul 3 x y 3) (hx : ev x = .int .i64 a) (hy : ev y = .int .i64 b) (hr : IntKind.i64.wrap (a * b) = r) : (execOp ev o).run Try.prog W = .ok (.value (.int .i64 r)) W := by
  subst hr
  unfold execOp
  simp [ho, hx, hy, go_sem, binOp]
theorem run_one (w : World) : (Instr.buildSlice 22 1 #[(0, .int .u8 1)]).run Try.prog w = .ok (.slice (some ⟨w.heap.size, 0, none⟩) 1 1) (w.alloc (.cells (fbs (lf [1]) 1).toArray 5)) := by kernel_rfl
section
variable {ops : Array Oper} {rest : List Oper} {Q : Exit → Act → World → Prop} {op : Oper} {a : Act} {w w0 : World}
/-- A slice of written bytes in a new block. -/
theorem wpList_bsy (hw : Region.wanted op (yielded ops a.tmps) = true) (m : Nat) (parts : Array (Nat × Operand)) (ho : op.op = .buildSlice 22 m parts) {ps : Array (Nat × Value)} (hp : (parts.map fun (i, y) => (i, a.eval y)) = ps) (ys : List Nat) (hy : IsB ys) (hm : m ≤ maxLen)
    (hr : ∀ w : World, (Instr.buildSlice 22 m ps).run Try.prog w = .ok (.slice (some ⟨w.heap.size, 0, none⟩) m m) (w.alloc (.cells (fbs (lf ys) m).toArray 5)))
    (k : ∀ b w', Hid (Row w' (some ⟨b, 0, none⟩) b 0 m m (lf ys)) → Hid (Below w.heap.size w w') → Hid (w.heap.size ≤ b) → wpList Try.prog ops Q rest (a.put op.dst (.slice (some ⟨b, 0, none⟩) m m)) w') : wpList Try.prog ops Q (op :: rest) a w := by
  refine wpList_known4 hw (.slice (some ⟨w.heap.size, 0, none⟩) m m) (w.alloc (.cells (fbs (lf ys) m).toArray 5)) ?_ (k _ _ (Lib.hid (own_new w (lf ys) m hm (lf_lt hy)).row) (Lib.hid (below_new w _)) (Lib.hid (Nat.le_refl _)))
  unfold execOp
  simp only [ho, hp, Sem.run_bind, hr w, Result.andThen_ok]
  rfl
end
theorem Tq.apart2 {D w : World} {bt bs : Nat} {v : Value} {s r k : Int} {f : Bool} {p : Option Addr} {g c : Nat} {xs : List Nat} (T : Tq D bt bs v s r f k p g c xs w) {h : Nat} (hh : w.heap.size ≤ h) : some h ≠ ob p ∧ h ≠ bs := by
  refine ⟨fun e => ?_, fun e => ?_⟩
  · have := (T.lies h e.symm).2; omega
  · have := heap_lt T.cS; omega
theorem bok_yes {k : Int} (h : k ≠ 0) : bok true k = true := by simp [bok, h]
theorem bk_yes {k : Int} (h : k ≠ 0) : bk true k = k - 1 := by simp [bk, h]
theorem bok_end : bok true 0 = false := rfl
theorem bk_end : bk true 0 = 0 := rfl
end Go.Proofs.Ytlbbnaihhagfdaa
