/- The document's reader of bits. -/
import Derived.Test.YtoopcmcmjaikhaaDoorWq
import Derived.Test.YtoopcmcmjaikhaaDoorZA
set_option linter.unusedSimpArgs false
set_option linter.unusedVariables false
set_option maxRecDepth 100000
namespace Go.Proofs.YtoopcmcmjaikhaaDoor
open Go.RowKit Go.Lib Go.Sort

theorem exec_8mul {o : Oper} {ev : Operand → Value} {W : World} {x y : Operand} {n : Nat} (ho : o.op = .binOp .mul 3 x y 3) (hx : ev x = .int .i64 8) (hy : ev y = .int .i64 (n : Int)) (hn : n ≤ 2000000000000000) : (execOp ev o).run Tryd.prog W = .ok (.value (.int .i64 ((8 * n : Nat) : Int))) W := by
  unfold execOp
  simp [ho, hx, hy, go_sem]
  all_goals (try (simp only [IntKind.wrap_i64, wrap64] at *))
  all_goals omega
theorem exec_pre1 {o : Oper} {ev : Operand → Value} {W : World} {x y : Operand} {n : Nat} (ho : o.op = .binOp .sub 3 x y 3) (hx : ev x = .int .i64 ((n + 1 : Nat) : Int)) (hy : ev y = .int .i64 1) (hn : n ≤ 2000000000000000) : (execOp ev o).run Tryd.prog W = .ok (.value (.int .i64 (n : Int))) W := by
  unfold execOp
  simp [ho, hx, hy, go_sem]
  all_goals (try (simp only [IntKind.wrap_i64, wrap64] at *))
  all_goals omega
theorem exec_succ3 {o : Oper} {ev : Operand → Value} {W : World} {x y : Operand} {n : Nat} (ho : o.op = .binOp .add 3 x y 3) (hx : ev x = .int .i64 (n : Int)) (hy : ev y = .int .i64 1) (hn : n ≤ 2000000000000000) : (execOp ev o).run Tryd.prog W = .ok (.value (.int .i64 ((n + 1 : Nat) : Int))) W := by
  unfold execOp
  simp [ho, hx, hy, go_sem]
  all_goals (try (simp only [IntKind.wrap_i64, wrap64] at *))
  all_goals omega
theorem exec_7sub {o : Oper} {ev : Operand → Value} {W : World} {x y : Operand} {m : Nat} (ho : o.op = .binOp .sub 3 x y 3) (hx : ev x = .int .i64 7) (hy : ev y = .int .i64 (m : Int)) (hm : m < 8) : (execOp ev o).run Tryd.prog W = .ok (.value (.int .i64 ((7 - m : Nat) : Int))) W := by
  unfold execOp
  simp [ho, hx, hy, go_sem]
  all_goals (try (simp only [IntKind.wrap_i64, wrap64] at *))
  all_goals omega
theorem exec_shr8v {o : Oper} {ev : Operand → Value} {W : World} {x y : Operand} {n k : Nat} (ho : o.op = .binOp .shr 5 x y 3) (hx : ev x = .int .u8 (n : Int)) (hy : ev y = .int .i64 (k : Int)) (hk : k < 8) : (execOp ev o).run Tryd.prog W = .ok (.value (.int .u8 ((n / 2 ^ k : Nat) : Int))) W := by
  have h1 : min k 8 = k := by omega
  unfold execOp
  simp [ho, hx, hy, go_sem, IntKind.bits, h1]
theorem exec_and8 {o : Oper} {ev : Operand → Value} {W : World} {x y : Operand} {n : Nat} (ho : o.op = .binOp .and 5 x y 5) (hx : ev x = .int .u8 (n : Int)) (hy : ev y = .int .u8 1) (hn : n < 256) : (execOp ev o).run Tryd.prog W = .ok (.value (.int .u8 ((n % 2 : Nat) : Int))) W := by
  have h : bits .and .u8 (n : Int) 1 = ((n &&& 1 : Nat) : Int) := u8_and_nat n 1 hn (by omega)
  have h2 : n &&& 1 = n % 2 := Nat.and_one_is_mod n
  rw [h2] at h
  unfold execOp
  simp [ho, hx, hy, go_sem, h]
theorem exec_eq8 {o : Oper} {ev : Operand → Value} {W : World} {x y : Operand} {n : Nat} {r : Bool} (ho : o.op = .binOp .eql 5 x y 5) (hx : ev x = .int .u8 (n : Int)) (hy : ev y = .int .u8 1) (hr : decide (n = 1) = r) : (execOp ev o).run Tryd.prog W = .ok (.value (.bool r)) W := by
  subst hr
  unfold execOp
  by_cases h : n = 1
  · subst h
    simp [ho, hx, hy, go_sem, Tryd.underlying5]
  · have h2 : ¬ ((n : Int) = 1) := by omega
    simp [ho, hx, hy, go_sem, Tryd.underlying5, h, h2]
theorem exec_ne0 {o : Oper} {ev : Operand → Value} {W : World} {x y : Operand} {a : Int} (ho : o.op = .binOp .eql 3 x y 3) (hx : ev x = .int .i64 a) (hy : ev y = .int .i64 0) (ha : (a == 0) = false) : (execOp ev o).run Tryd.prog W = .ok (.value (.bool false)) W := by
  have h : ¬ a = 0 := by simpa using ha
  unfold execOp
  simp [ho, hx, hy, go_sem, Tryd.underlying3, h]
section
variable {ops : Array Oper} {rest : List Oper} {Q : Exit → Act → World → Prop} {op : Oper} {a : Act} {w : World}
theorem wpL_at {P : Program} (t : Nat) (hd : op.dst = some t) (h : wpList P ops Q (op :: rest) a w) : wpList P ops Q (op :: rest) a w := h
theorem wpL_atn {P : Program} (hd : op.dst = none) (h : wpList P ops Q (op :: rest) a w) : wpList P ops Q (op :: rest) a w := h
end
theorem bit_low (n k : Nat) : decide (n / 2 ^ k % 2 = 1) = n.testBit k := by
  rw [Nat.testBit_eq_decide_div_mod_eq]
theorem xd_store {ops : Array Oper} {rest : List Oper} {Q : Exit → Act → World → Prop} {op : Oper} {a : Act} {w : World} {b T : Nat} {u z : Value} (S0 : Hid (w.heap[b]? = some (.cells #[u, z] T (0, 0)))) (hg : op.guard = none) (x y : Operand) (ho : op.op = .store 3 x y) (hx : a.eval x = .pointer (some ⟨b, 1, none⟩)) {k : Int} (hy : a.eval y = .int .i64 k)
    (h : ∀ w', Hid (w'.heap[b]? = some (.cells #[u, .int .i64 k] T (0, 0)) ∧ Only b w w') → wpList Tryd.prog ops Q rest (a.put op.dst undef) w') : wpList Tryd.prog ops Q (op :: rest) a w := by
  have hb := S0.out
  have hH : Holds b T #[u, .int .i64 k] w (w.setCell ⟨b, 1, none⟩ (.int .i64 k)) := (Holds.start hb).set rfl
  refine wpList_plain hg fun K hK => ?_
  unfold Oper.wp execOp
  simp only [ho, hx, hy, Sem.run_bind, Sem.run_pure, run_store_one (P := Tryd.prog) (ty := 3) (v := .int .i64 k) (by kernel_rfl) rfl rfl (cell_of_here hb 1 rfl) (free_of_here hb 1), Result.andThen_ok]
  exact hK _ _ (h _ (Lib.hid ⟨hH.here, hH.only⟩))
section
variable {D w : World} {b : Nat} {p : Option Addr} {g c : Nat} {xs : List Nat} {t : Nat}
end
end Go.Proofs.YtoopcmcmjaikhaaDoor

