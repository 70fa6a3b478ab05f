/- Arrays of whole numbers are equal to themselves; a sum is equal to itself. -/
import Derived.Test.YtoopcmcmjaikhaaDoorSTwo
import Derived.ChangeKeysEq
set_option maxRecDepth 100000
namespace Go.Proofs.YtoopcmcmjaikhaaDoor.S
open Go.RowKit Go.Lib

theorem run_eqItems_same {P : Program} (d : Nat) {e : TypeId} {k : IntKind} (he : P.underlying e = some (.int k)) (hc : P.cellsOf e = 1) (n : Nat) (f : Nat → Int) (w : World) : ∀ (is : List Nat), (∀ i, i ∈ is → i < n) →
    (Op.eqItems (d + 1) e (P.cellsOf e) (arr n fun i => .int k (f i)) (arr n fun i => .int k (f i)) is).run P w = .ok true w
  | [], _ => by simp [Op.eqItems]
  | i :: is, h => by
    have hp : P.plainKey e = true := by unfold Program.plainKey; rw [he]
    have hx : (arr n fun i => Value.int k (f i))[i * P.cellsOf e]? = some (.int k (f i)) := by
      rw [hc, Nat.mul_one]
      exact arr_get n _ i (h i (by simp))
    simp only [Op.eqItems, Sem.run_bind, run_part_plain w hp hx, Result.andThen_ok, run_equalIn_int w d e k k _ _ he]
    simp only [beq_self_eq_true, Bool.not_true, Bool.false_eq_true, if_false]
    exact run_eqItems_same d he hc n f w is (fun j hj => h j (by simp [hj]))
theorem run_equal_arr {P : Program} (d : Nat) {T e : TypeId} {n : Nat} {k : IntKind} {i : TypeInfo} (hu : P.underlying T = some (.array n e)) (he : P.underlying e = some (.int k)) (hi : P.info? e = some i) (hc : P.cellsOf e = 1) (f : Nat → Int) (w : World) :
    (Op.equalIn (d + 2) T (.agg (arr n fun i => .int k (f i))) (.agg (arr n fun i => .int k (f i)))).run P w = .ok true w := by
  rw [run_equalIn_array w (d + 1) _ _ hu hi]
  exact run_eqItems_same d he hc n f w _ (fun i hi => by simpa using hi)
theorem cells5 : Tryd.prog.cellsOf 5 = 1 := by kernel_rfl
theorem bytes_same (f : Nat → Int) (w : World) : (Op.equalIn 10000 23 (.agg (arr 32 fun i => .int .u8 (f i))) (.agg (arr 32 fun i => .int .u8 (f i)))).run Tryd.prog w = .ok true w := by
  obtain ⟨i, hi, _⟩ := info_parts info5
  exact run_equal_arr 9998 Tryd.underlying23 Tryd.underlying5 hi cells5 f w
theorem sum_same (x : Nat → Int) (n : Nat) (w : World) : (Op.equalIn 10000 23 (.agg (arr 32 (sha x n))) (.agg (arr 32 (sha x n)))).run Tryd.prog w = .ok true w := bytes_same (shaI x n) w
theorem sum2_same (x : Nat → Int) (n : Nat) (w : World) : (Op.equalIn 10000 23 (.agg (arr 32 (sha2 x n))) (.agg (arr 32 (sha2 x n)))).run Tryd.prog w = .ok true w := sum_same (shaI x n) 32 w
theorem zb_same (w : World) : (Op.equalIn 10000 23 (.agg (arr 32 zb)) (.agg (arr 32 zb))).run Tryd.prog w = .ok true w := bytes_same (fun _ => 0) w
end Go.Proofs.YtoopcmcmjaikhaaDoor.S

