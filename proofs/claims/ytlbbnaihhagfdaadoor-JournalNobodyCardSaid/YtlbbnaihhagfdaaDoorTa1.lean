/- A tape of the program: what lies in memory; each call of one that no call made. -/
import Derived.Test.YtlbbnaihhagfdaaDoorTb
import Derived.Test.YtlbbnaihhagfdaaDoorGd
import Derived.BigQuiet
import Derived.StillTailTactics
set_option linter.unusedSimpArgs false
set_option linter.unusedVariables false
set_option maxRecDepth 100000
namespace Go.Proofs.YtlbbnaihhagfdaaDoor
open Go.RowKit Go.Lib Go.Sort

/-- The nil tape, and a plain one. -/
def UnT (w : World) (v : Value) : Prop := v = .pointer none ∨ ∃ b, v = .pointer (some ⟨b, 0, none⟩) ∧ w.heap[b]? = some (.cells #[.pointer none] 58 (0, 0))
theorem UnT.below {w w' : World} {v : Value} (h : UnT w v) (hb : Below w.heap.size w w') : UnT w' v := by
  rcases h with h | ⟨b, h, hq⟩
  · exact .inl h
  · exact .inr ⟨b, h, by rw [hb.block b (heap_lt hq)]; exact hq⟩
theorem made_un {w : World} {v : Value} (h : UnT w v) : Calls Tryd.prog 31 #[v] w fun e w' => e = .returned (.bool false) ∧ w = w' := by
  rcases h with rfl | ⟨b, rfl, hb⟩
  · go_enter Tryd.func31, Tryd.ntmps31
    go_wp2
    go_ret
    exact ⟨rfl, rfl⟩
  · have c0 := cell_of_here hb 0 (v := .pointer none) rfl
    clear hb
    go_enter Tryd.func31, Tryd.ntmps31
    go_wp2
    go_ret
    exact ⟨rfl, rfl⟩
set_option maxHeartbeats 2000000
section
variable {w : World} {v : Value}
theorem cut_un (h : UnT w v) (x : Value) : Calls Tryd.prog 24 #[v, x] w fun e w' => e = .returned (.int .i64 2) ∧ w = w' := by
  have M := Lib.hid (made_un h)
  clear h
  go_enter Tryd.func24, Tryd.ntmps24
  go_wp2_with (go_at_call 31; refine M.out.mono ?_; rintro e w2 ⟨rfl, rfl⟩)
  go_ret
  exact ⟨rfl, rfl⟩
end
end Go.Proofs.YtlbbnaihhagfdaaDoor
