/- A writer and a reader that no call made. -/
import Derived.Test.YtaonnckhohieoaaDoorOd
import Derived.Test.YtaonnckhohieoaaDoorHm
import Derived.WalkMore
import Derived.Scope
import Derived.ScopeJumps
set_option linter.unusedSimpArgs false
set_option linter.unusedVariables false
set_option maxRecDepth 100000
namespace Go.Proofs.YtaonnckhohieoaaDoor
open Go.RowKit Go.Lib Go.Sort

theorem wpList_known {P : Program} {ops : Array Oper} {rest : List Oper} {Q : Exit → Act → World → Prop} {op : Oper} {a : Act} {w : World} (hw : Region.wanted op (yielded ops a.tmps) = true) (v : Value) (w' : World) (hrun : (execOp a.eval op).run P w = .ok (.value v) w') (h : wpList P ops Q rest (a.put op.dst v) w') : wpList P ops Q (op :: rest) a w :=
  BigFrame.wpList_want hw fun _ hK => mo_known v w' hrun (hK _ _ h)
theorem run_eq_nilf (w : World) (d : Nat) : (Op.equalIn (d + 1) 80 .nilFunc .nilFunc).run Tryd.prog w = .ok true w := by
  simp [Op.equalIn, run_underlying Tryd.underlying80]
theorem run_eq_func (w : World) (d : Nat) (f : Fn) (a b : Array Value) : (Op.equalIn (d + 1) 80 (.func f a b) .nilFunc).run Tryd.prog w = .ok false w := by
  simp [Op.equalIn, run_underlying Tryd.underlying80]
theorem run_nq_nilf (w : World) : (binOp .neq 80 .nilFunc .nilFunc).run Tryd.prog w = .ok (.bool false) w := by
  simp only [binOp]
  simp [Op.equal, Op.maxDepth, run_eq_nilf w 9999]
theorem run_nq_func (w : World) (f : Fn) (a b : Array Value) : (binOp .neq 80 (.func f a b) .nilFunc).run Tryd.prog w = .ok (.bool true) w := by
  simp only [binOp]
  simp [Op.equal, Op.maxDepth, run_eq_func w 9999]
/-- The nil writer, and a plain one. -/
def UnW (w : World) (v : Value) : Prop := v = .pointer none ∨ ∃ b, v = .pointer (some ⟨b, 0, none⟩) ∧ w.heap[b]? = some (.cells #[.nilFunc, .nilFunc] 82 (0, 0))
/-- The nil reader, and a plain one. -/
def UnR (w : World) (v : Value) : Prop := v = .pointer none ∨ ∃ b, v = .pointer (some ⟨b, 0, none⟩) ∧ w.heap[b]? = some (.cells #[.bool false, .slice none 0 0, .int .i64 0] 50 (0, 0))
theorem wmade_un {w : World} {v : Value} (h : UnW w v) : Calls Tryd.prog 49 #[v] w fun e w' => e = .returned (.bool false) ∧ w = w' := by
  rcases h with rfl | ⟨b, rfl, hb⟩
  · go_enter Tryd.func49, Tryd.ntmps49
    go_wp2
    go_ret
    exact ⟨rfl, rfl⟩
  · have c0 := cell_of_here hb 0 (v := .nilFunc) rfl
    clear hb
    go_enter Tryd.func49, Tryd.ntmps49
    have q0 := run_nq_nilf
    go_wp2
    go_ret
    exact ⟨rfl, rfl⟩
theorem rmade_un {w : World} {v : Value} (h : UnR w v) : Calls Tryd.prog 21 #[v] w fun e w' => e = .returned (.bool false) ∧ w = w' := by
  rcases h with rfl | ⟨b, rfl, hb⟩
  · go_enter Tryd.func21, Tryd.ntmps21
    go_wp2
    go_ret
    exact ⟨rfl, rfl⟩
  · have c0 := cell_of_here hb 0 (v := .bool false) rfl
    clear hb
    go_enter Tryd.func21, Tryd.ntmps21
    go_wp2
    go_ret
    exact ⟨rfl, rfl⟩
set_option maxHeartbeats 2000000
section
variable {w : World} {v : Value}
theorem wbytes_un (h : UnW w v) : Calls Tryd.prog 35 #[v] w fun e w' => e = .returned (.slice none 0 0) ∧ w = w' := by
  have M := Lib.hid (wmade_un h)
  clear h
  go_enter Tryd.func35, Tryd.ntmps35
  go_wp2_with (go_at_call 49; refine M.out.mono ?_; rintro e w2 ⟨rfl, rfl⟩)
  go_ret
  exact ⟨rfl, rfl⟩
theorem rbit_un (h : UnR w v) : Calls Tryd.prog 23 #[v] w fun e w' => e = .returned (.tuple #[.bool false, .int .i64 2]) ∧ w = w' := by
  have M := Lib.hid (rmade_un h)
  clear h
  go_enter Tryd.func23, Tryd.ntmps23
  go_wp2_with (go_at_call 21; refine M.out.mono ?_; rintro e w2 ⟨rfl, rfl⟩)
  go_ret2
  exact ⟨rfl, rfl⟩
theorem wrice_un (h : UnW w v) (x y : Value) : Calls Tryd.prog 33 #[v, x, y] w fun e w' => e = .returned (.int .i64 2) ∧ w = w' := by
  have M := Lib.hid (wmade_un h)
  clear h
  go_enter Tryd.func33, Tryd.ntmps33
  go_wp2
  go_step3
  go_wp2_with (go_at_call 49; refine M.out.mono ?_; rintro e w2 ⟨rfl, rfl⟩)
  try rw [Exit.noGoto_ret]
  go_ret
  exact ⟨rfl, rfl⟩
theorem rrice_un (h : UnR w v) (x y : Value) : Calls Tryd.prog 12 #[v, x, y] w fun e w' => e = .returned (.tuple #[.int .u64 0, .int .i64 2]) ∧ w = w' := by
  have M := Lib.hid (rmade_un h)
  clear h
  go_enter Tryd.func12, Tryd.ntmps12
  go_wp2
  go_step3
  go_wp2_with (go_at_call 21; refine M.out.mono ?_; rintro e w2 ⟨rfl, rfl⟩)
  try rw [Exit.noGoto_ret]
  go_ret2
  exact ⟨rfl, rfl⟩
theorem rbits_un (h : UnR w v) (x : Value) : Calls Tryd.prog 24 #[v, x] w fun e w' => e = .returned (.tuple #[.int .u64 0, .int .i64 2]) ∧ w = w' := by
  have M := Lib.hid (rmade_un h)
  clear h
  go_enter Tryd.func24, Tryd.ntmps24
  go_wp2
  go_step3
  go_wp2_with (go_at_call 21; refine M.out.mono ?_; rintro e w2 ⟨rfl, rfl⟩)
  try rw [Exit.noGoto_ret]
  go_ret2
  exact ⟨rfl, rfl⟩
theorem rleft_un (h : UnR w v) : Calls Tryd.prog 25 #[v] w fun e w' => e = .returned (.int .i64 0) ∧ w = w' := by
  have M := Lib.hid (rmade_un h)
  clear h
  go_enter Tryd.func25, Tryd.ntmps25
  go_wp2_with (go_at_call 21; refine M.out.mono ?_; rintro e w2 ⟨rfl, rfl⟩)
  go_ret
  exact ⟨rfl, rfl⟩
end
end Go.Proofs.YtaonnckhohieoaaDoor

