/- bytes.Clone and bytes.Equal: a copy of any slice lies in memory of its own; slices of the same bytes are equal. -/
import Derived.Test.YtoopcmcmjaikhaaRow
set_option linter.unusedSimpArgs false
set_option maxRecDepth 100000
namespace Go.Proofs.Ytoopcmcmjaikhaa
open Go.RowKit Go.Lib

theorem own_start (w : World) (x : Nat → Nat) (hx : ∀ i, x i < 256) : Own w.heap.size (w.alloc (.cells #[] 5)) (some ⟨w.heap.size, 0, none⟩) w.heap.size 0 0 x := own_new w x 0 (by unfold maxLen; omega) hx
theorem cat_zero (x y : Nat → Nat) (i : Nat) : cat x 0 y i = y i := by unfold cat; rw [if_neg (by omega)]; rfl

theorem row_string {w : World} {p : Option Addr} {g o n c : Nat} {x : Nat → Nat} (h : Row w p g o n c x) : (convert 31 9 (.slice p n c)).run Try.prog w = .ok (.string (strOfNums ((List.range n).map fun i => ((x i : Nat) : Int)))) w := by
  rcases Nat.eq_zero_or_pos n with h0 | h0
  · subst h0
    rw [run_convert_bytes_string w 31 9 5 p 0 c Try.underlying31 Try.underlying5 Try.underlying9]
    cases p <;> rfl
  · obtain rfl := h.head h0
    refine run_convert_bytes_arg (P := Try.prog) w 31 5 Try.underlying31 Try.underlying5 g o n c _ (by simp) ?_ 9 Try.underlying9
    intro i hi
    rw [h.cell i hi]
    simp [hi]
end Go.Proofs.Ytoopcmcmjaikhaa

