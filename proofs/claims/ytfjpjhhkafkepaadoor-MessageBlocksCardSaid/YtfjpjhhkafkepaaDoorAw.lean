/- A small transaction is written. -/
import Derived.Test.YtfjpjhhkafkepaaDoorTg
import Derived.Test.YtfjpjhhkafkepaaDoorZC
set_option linter.unusedSimpArgs false
set_option linter.unusedVariables false
set_option maxRecDepth 100000
namespace Go.Proofs.YtfjpjhhkafkepaaDoor
open Go.RowKit Go.Lib Go.Sort

theorem txB_le {W : World} {V : Nat → Value} {t : TTx} (A : TxCells W V t) (hc : canB t = true) (m : Bool) : (txB m t).length ≤ 2100000000 := by
  have h := parts_le (can_facts hc) A.idlen
  unfold txB
  cases m
  · simp only [List.length_append, low_length, List.length_nil, Bool.false_eq_true, if_false]
    omega
  · simp only [List.length_append, low_length, List.length_cons, List.length_nil, if_true]
    omega

theorem inz_one (i : Nat) : (inz i).oneCell' = true := by
  unfold inz
  split
  · rfl
  · split
    · rfl
    · rfl
theorem arr36 (V : Nat → Value) : (arr 36 V).toList = vs V (1 * 36) := by
  rw [← vs_arr]
/-- A small transaction. -/
def tx0 : TTx := ⟨0, [⟨tl (fun _ => 0) 32, 0, [], 0, []⟩], [], 0⟩
theorem can_tx0 : canB tx0 = true := by decide
theorem has_tx0 : tx0.ins.any hasB = false := by decide
theorem len_tx0 : (txB false tx0).length = 51 := by
  have e1 : (inB ⟨tl (fun _ => 0) 32, 0, [], 0, []⟩).length = 41 := by
    unfold inB text
    simp only [List.length_append, low_length, tl_length, cnt_length, List.length_nil]
    rfl
  unfold txB tx0 listB
  simp only [List.length_append, low_length, cnt_length, List.map_cons, List.map_nil, List.flatten_cons, List.flatten_nil, List.length_cons, List.length_nil, e1, Bool.false_eq_true, if_false]
  rfl
def tx0v (a : Value) : Nat → Value := fun i => if i = 1 then a else if i = 2 then .slice none 0 0 else .int .u32 0
theorem built_in0 : Tryd.prog.built 75 (#[] : Array (Nat × Value)).toList = some (arr 36 inz) := by kernel_rfl
theorem built_tx0 (p : Option Addr) : Tryd.prog.built 58 (#[(1, .slice p 1 1)] : Array (Nat × Value)).toList = some (arr 4 (tx0v (.slice p 1 1))) := by kernel_rfl
theorem tx0_at {w : World} {B : Nat} {p : Option Addr} {g : Nat} (N : VOwn 75 36 B w p g 1 1 inz) : TxAt w (.agg (arr 4 (tx0v (.slice p 1 1)))) tx0 := by
  have nl : TextAt w (.slice none 0 0) [] := ⟨none, 0, 0, 0, rfl, by simp, Row.nothing _ _ (lf_lt isB_nil)⟩
  refine ⟨_, rfl, rfl, by decide, ⟨p, g, 0, 1, inz, rfl, by decide, N.row, fun i hi => ?_⟩, ⟨none, 0, 0, 0, fun _ => undef, rfl, by decide, VRow.nothing _ _ _, fun i hi => absurd hi (by simp [tx0])⟩, rfl, by decide⟩
  obtain rfl : i = 0 := by
    have : i < 1 := hi
    omega
  have z : ∀ j, j < 32 → lf (tl (fun _ => 0) 32) j = 0 := fun j hj => lf_tl _ hj
  refine ⟨tl_length _ _, isB_tl (x := fun _ => 0) (fun _ => by omega) 32, fun j hj => ?_, rfl, (by show (0 : Nat) < 4294967296; decide), nl, rfl, (by show (0 : Nat) < 4294967296; decide), ⟨none, 0, 0, 0, fun _ => undef, rfl, (by show (0 : Nat) * 24 ≤ 140737488351232; decide), VRow.nothing _ _ _, fun i hi => absurd hi (by simp [tx0])⟩⟩
  show inz (0 * 36 + j) = byv (lf (tl (fun _ => 0) 32) j)
  rw [z j hj, Nat.zero_mul, Nat.zero_add]
  unfold inz byv
  rw [if_pos hj]
  rfl
end Go.Proofs.YtfjpjhhkafkepaaDoor

