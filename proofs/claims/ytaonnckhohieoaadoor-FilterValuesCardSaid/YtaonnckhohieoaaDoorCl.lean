/- bytes.Clone and bytes.Equal: a copy of any slice lies in memory of its own; slices of the same bytes are equal. -/
import Derived.Test.YtaonnckhohieoaaDoorRow
set_option linter.unusedSimpArgs false
set_option maxRecDepth 100000
namespace Go.Proofs.YtaonnckhohieoaaDoor
open Go.RowKit Go.Lib

theorem own_start (w : World) (x : Nat → Nat) (hx : ∀ i, x i < 256) : Own w.heap.size (w.alloc (.cells #[] 5)) (some ⟨w.heap.size, 0, none⟩) w.heap.size 0 0 x := own_new w x 0 (by unfold maxLen; omega) hx
theorem cat_zero (x y : Nat → Nat) (i : Nat) : cat x 0 y i = y i := by unfold cat; rw [if_neg (by omega)]; rfl

set_option maxHeartbeats 1000000 in
theorem clone_none (w : World) : Calls Tryd.prog 4 #[.slice none 0 0] w fun e w' => e = .returned (.slice none 0 0) ∧ w = w' := by
  have he : ∀ w : World, (binOp .eql 22 (.slice none 0 0) (.slice none 0 0)).run Tryd.prog w = .ok (.bool true) w := fun _ => rfl
  go_enter Tryd.func4, Tryd.ntmps4
  go_wp2
  go_ret
  exact ⟨rfl, rfl⟩
set_option maxHeartbeats 1000000 in
theorem clone_any {w : World} {p : Option Addr} {g o n c : Nat} {x : Nat → Nat} (R : Hid (Row w p g o n c x)) (hn : n ≤ 140737488355328) : Calls Tryd.prog 4 #[.slice p n c] w (Gets w n x) := by
  cases p with
  | none =>
    obtain ⟨rfl, rfl⟩ := R.out.nil rfl
    refine (clone_none w).mono ?_
    rintro e w' ⟨rfl, rfl⟩
    exact ⟨none, 0, 0, rfl, own_nothing _ _ _ R.out.byte (Nat.le_refl _), Below.refl _ _⟩
  | some a =>
    have he : ∀ w : World, (binOp .eql 22 (.slice (some a) n c) (.slice none 0 0)).run Tryd.prog w = .ok (.bool false) w := fun _ => rfl
    have N := Lib.hid (own_start w x R.out.byte)
    have R1 := Lib.hid (R.out.below (below_new w (.cells #[] 5)))
    go_enter Tryd.func4, Tryd.ntmps4
    go_wp2_with (at_builtin; refine wpList_app (.inl rfl) (.tmp 5) (.tmp 6) rfl rfl N rfl R1 (by omega) ?_)
    intro p' g' c' w' N' hb
    have B' := Lib.hid ((below_new w (.cells #[] 5)).trans hb.out)
    clear hb
    go_wp2
    go_ret
    refine ⟨_, g', c', rfl, ?_, B'.out⟩
    have := N'.out.to (fun i _ => cat_zero x x i) R.out.byte
    simpa using this

theorem row_string {w : World} {p : Option Addr} {g o n c : Nat} {x : Nat → Nat} (h : Row w p g o n c x) : (convert 22 9 (.slice p n c)).run Tryd.prog w = .ok (.string (strOfNums ((List.range n).map fun i => ((x i : Nat) : Int)))) w := by
  rcases Nat.eq_zero_or_pos n with h0 | h0
  · subst h0
    rw [run_convert_bytes_string w 22 9 5 p 0 c Tryd.underlying22 Tryd.underlying5 Tryd.underlying9]
    cases p <;> rfl
  · obtain rfl := h.head h0
    refine run_convert_bytes_arg (P := Tryd.prog) w 22 5 Tryd.underlying22 Tryd.underlying5 g o n c _ (by simp) ?_ 9 Tryd.underlying9
    intro i hi
    rw [h.cell i hi]
    simp [hi]
set_option maxHeartbeats 1000000 in
theorem equal_any {w : World} {p p' : Option Addr} {g g' o o' n n' c c' : Nat} {x x' : Nat → Nat} (h : Hid (Row w p g o n c x)) (h' : Hid (Row w p' g' o' n' c' x')) (hn : n = n') (he : Hid (∀ i, i < n → x i = x' i)) :
    Calls Tryd.prog 8 #[.slice p n c, .slice p' n' c'] w fun e w' => e = .returned (.bool true) ∧ w = w' := by
  subst hn
  have e1 := row_string h.out
  have e2 := row_string (h'.out.to (y := x) (fun i hi => (he.out i hi).symm) h.out.byte)
  go_enter Tryd.func8, Tryd.ntmps8
  go_wp2
  go_ret
  exact ⟨rfl, rfl⟩
end Go.Proofs.YtaonnckhohieoaaDoor

