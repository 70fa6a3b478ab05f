/- The rotations of SipHash: bits.RotateLeft64 and the document's left return the same word, for every word and each of the counts 13, 16, 17, 21 and 32. -/
import Derived.Test.YtbiobejfjhmccaaDoorSpec
import Derived.WalkKit
import Derived.WalkSpells
import Derived.Lib.Hide
import Derived.Deep.QuietTactic
import Derived.BigQuiet
namespace Go.Proofs.YtbiobejfjhmccaaDoor
open Go.RowKit Go.Lib

set_option maxHeartbeats 1000000 in
theorem rot13 (x : Int) (w : World) : Calls Tryd.prog 37 #[.int .u64 x, .int .i64 13] w fun e w' => e = .returned (.int .u64 (rotl x 13)) ∧ w = w' := by
  have e : bits .and .u64 13 63 = 13 := by decide
  go_enter Tryd.func37, Tryd.ntmps37
  go_wp2
  go_ret
  exact ⟨rfl, rfl⟩
set_option maxHeartbeats 1000000 in
theorem left13 (x : Int) (w : World) : Calls Tryd.prog 38 #[.int .u64 x, .int .i64 13] w fun e w' => e = .returned (.int .u64 (rotl x 13)) ∧ ∃ n, w' = w.drewN n := by
  go_enter Tryd.func38, Tryd.ntmps38
  go_wp2
  go_quiet (fail)
  go_wp2
  go_ret
  exact ⟨rfl, _, rfl⟩
set_option maxHeartbeats 1000000 in
theorem rot16 (x : Int) (w : World) : Calls Tryd.prog 37 #[.int .u64 x, .int .i64 16] w fun e w' => e = .returned (.int .u64 (rotl x 16)) ∧ w = w' := by
  have e : bits .and .u64 16 63 = 16 := by decide
  go_enter Tryd.func37, Tryd.ntmps37
  go_wp2
  go_ret
  exact ⟨rfl, rfl⟩
set_option maxHeartbeats 1000000 in
theorem left16 (x : Int) (w : World) : Calls Tryd.prog 38 #[.int .u64 x, .int .i64 16] w fun e w' => e = .returned (.int .u64 (rotl x 16)) ∧ ∃ n, w' = w.drewN n := by
  go_enter Tryd.func38, Tryd.ntmps38
  go_wp2
  go_quiet (fail)
  go_wp2
  go_ret
  exact ⟨rfl, _, rfl⟩
set_option maxHeartbeats 1000000 in
theorem rot17 (x : Int) (w : World) : Calls Tryd.prog 37 #[.int .u64 x, .int .i64 17] w fun e w' => e = .returned (.int .u64 (rotl x 17)) ∧ w = w' := by
  have e : bits .and .u64 17 63 = 17 := by decide
  go_enter Tryd.func37, Tryd.ntmps37
  go_wp2
  go_ret
  exact ⟨rfl, rfl⟩
set_option maxHeartbeats 1000000 in
theorem left17 (x : Int) (w : World) : Calls Tryd.prog 38 #[.int .u64 x, .int .i64 17] w fun e w' => e = .returned (.int .u64 (rotl x 17)) ∧ ∃ n, w' = w.drewN n := by
  go_enter Tryd.func38, Tryd.ntmps38
  go_wp2
  go_quiet (fail)
  go_wp2
  go_ret
  exact ⟨rfl, _, rfl⟩
set_option maxHeartbeats 1000000 in
theorem rot21 (x : Int) (w : World) : Calls Tryd.prog 37 #[.int .u64 x, .int .i64 21] w fun e w' => e = .returned (.int .u64 (rotl x 21)) ∧ w = w' := by
  have e : bits .and .u64 21 63 = 21 := by decide
  go_enter Tryd.func37, Tryd.ntmps37
  go_wp2
  go_ret
  exact ⟨rfl, rfl⟩
set_option maxHeartbeats 1000000 in
theorem left21 (x : Int) (w : World) : Calls Tryd.prog 38 #[.int .u64 x, .int .i64 21] w fun e w' => e = .returned (.int .u64 (rotl x 21)) ∧ ∃ n, w' = w.drewN n := by
  go_enter Tryd.func38, Tryd.ntmps38
  go_wp2
  go_quiet (fail)
  go_wp2
  go_ret
  exact ⟨rfl, _, rfl⟩
set_option maxHeartbeats 1000000 in
theorem rot32 (x : Int) (w : World) : Calls Tryd.prog 37 #[.int .u64 x, .int .i64 32] w fun e w' => e = .returned (.int .u64 (rotl x 32)) ∧ w = w' := by
  have e : bits .and .u64 32 63 = 32 := by decide
  go_enter Tryd.func37, Tryd.ntmps37
  go_wp2
  go_ret
  exact ⟨rfl, rfl⟩
set_option maxHeartbeats 1000000 in
theorem left32 (x : Int) (w : World) : Calls Tryd.prog 38 #[.int .u64 x, .int .i64 32] w fun e w' => e = .returned (.int .u64 (rotl x 32)) ∧ ∃ n, w' = w.drewN n := by
  go_enter Tryd.func38, Tryd.ntmps38
  go_wp2
  go_quiet (fail)
  go_wp2
  go_ret
  exact ⟨rfl, _, rfl⟩
end Go.Proofs.YtbiobejfjhmccaaDoor
