/- A tape of the program: what lies in memory; each call of one that no call made. -/
import Derived.Test.YtlbbnaihhagfdaaTb
import Derived.Test.YtlbbnaihhagfdaaGd
import Derived.BigQuiet
import Derived.StillTailTactics
set_option linter.unusedSimpArgs false
set_option linter.unusedVariables false
set_option maxRecDepth 100000
namespace Go.Proofs.Ytlbbnaihhagfdaa
open Go.RowKit Go.Lib Go.Sort

/-- The nil tape, and a plain one. -/
def UnT (w : World) (v : Value) : Prop := v = .pointer none ∨ ∃ b, v = .pointer (some ⟨b, 0, none⟩) ∧ w.heap[b]? = some (.cells #[.pointer none] 53 (0, 0))
theorem UnT.below {w w' : World} {v : Value} (h : UnT w v) (hb : Below w.heap.size w w') : UnT w' v := by
  rcases h with h | ⟨b, h, hq⟩
  · exact .inl h
  · exact .inr ⟨b, h, by rw [hb.block b (heap_lt hq)]; exact hq⟩
theorem made_un {w : World} {v : Value} (h : UnT w v) : Calls Try.prog 27 #[v] w fun e w' => e = .returned (.bool false) ∧ w = w' := by
  rcases h with rfl | ⟨b, rfl, hb⟩
  · go_enter Try.func27, Try.ntmps27
    go_wp2
    go_ret
    exact ⟨rfl, rfl⟩
  · have c0 := cell_of_here hb 0 (v := .pointer none) rfl
    clear hb
    go_enter Try.func27, Try.ntmps27
    go_wp2
    go_ret
    exact ⟨rfl, rfl⟩
set_option maxHeartbeats 2000000
section
variable {w : World} {v : Value}
theorem app_un (h : UnT w v) (x : Value) : Calls Try.prog 14 #[v, x] w fun e w' => e = .returned (.int .i64 2) ∧ w = w' := by
  have M := Lib.hid (made_un h)
  clear h
  go_enter Try.func14, Try.ntmps14
  go_wp2_with (go_at_call 27; refine M.out.mono ?_; rintro e w2 ⟨rfl, rfl⟩)
  go_ret
  exact ⟨rfl, rfl⟩
theorem sync_un (h : UnT w v) : Calls Try.prog 17 #[v] w fun e w' => e = .returned (.int .i64 2) ∧ w = w' := by
  have M := Lib.hid (made_un h)
  clear h
  go_enter Try.func17, Try.ntmps17
  go_wp2_with (go_at_call 27; refine M.out.mono ?_; rintro e w2 ⟨rfl, rfl⟩)
  go_ret
  exact ⟨rfl, rfl⟩
theorem cut_un (h : UnT w v) (x : Value) : Calls Try.prog 24 #[v, x] w fun e w' => e = .returned (.int .i64 2) ∧ w = w' := by
  have M := Lib.hid (made_un h)
  clear h
  go_enter Try.func24, Try.ntmps24
  go_wp2_with (go_at_call 27; refine M.out.mono ?_; rintro e w2 ⟨rfl, rfl⟩)
  go_ret
  exact ⟨rfl, rfl⟩
theorem fuse_un (h : UnT w v) (x : Value) : Calls Try.prog 23 #[v, x] w fun e w' => e = .returned (.int .i64 2) ∧ w = w' := by
  have M := Lib.hid (made_un h)
  clear h
  go_enter Try.func23, Try.ntmps23
  go_wp2_with (go_at_call 27; refine M.out.mono ?_; rintro e w2 ⟨rfl, rfl⟩)
  go_ret
  exact ⟨rfl, rfl⟩
theorem room_un (h : UnT w v) (x : Value) : Calls Try.prog 25 #[v, x] w fun e w' => e = .returned (.int .i64 2) ∧ w = w' := by
  have M := Lib.hid (made_un h)
  clear h
  go_enter Try.func25, Try.ntmps25
  go_wp2_with (go_at_call 27; refine M.out.mono ?_; rintro e w2 ⟨rfl, rfl⟩)
  go_ret
  exact ⟨rfl, rfl⟩
theorem crash_un (h : UnT w v) (x : Value) : Calls Try.prog 19 #[v, x] w fun e w' => e = .returned (.int .i64 2) ∧ w = w' := by
  have M := Lib.hid (made_un h)
  clear h
  go_enter Try.func19, Try.ntmps19
  go_wp2_with (go_at_call 27; refine M.out.mono ?_; rintro e w2 ⟨rfl, rfl⟩)
  go_ret
  exact ⟨rfl, rfl⟩
theorem bytes_un (h : UnT w v) : Calls Try.prog 21 #[v] w fun e w' => e = .returned (.slice none 0 0) ∧ w = w' := by
  have M := Lib.hid (made_un h)
  clear h
  go_enter Try.func21, Try.ntmps21
  go_wp2_with (go_at_call 27; refine M.out.mono ?_; rintro e w2 ⟨rfl, rfl⟩)
  go_ret
  exact ⟨rfl, rfl⟩
theorem synced_un (h : UnT w v) : Calls Try.prog 18 #[v] w fun e w' => e = .returned (.int .i64 0) ∧ w = w' := by
  have M := Lib.hid (made_un h)
  clear h
  go_enter Try.func18, Try.ntmps18
  go_wp2_with (go_at_call 27; refine M.out.mono ?_; rintro e w2 ⟨rfl, rfl⟩)
  go_ret
  exact ⟨rfl, rfl⟩
theorem copy_un (h : UnT w v) : Calls Try.prog 10 #[v] w fun e w' => e = .returned (.pointer none) ∧ w = w' := by
  have M := Lib.hid (made_un h)
  clear h
  go_enter Try.func10, Try.ntmps10
  go_wp2_with (go_at_call 27; refine M.out.mono ?_; rintro e w2 ⟨rfl, rfl⟩)
  go_ret
  exact ⟨rfl, rfl⟩
end
end Go.Proofs.Ytlbbnaihhagfdaa
