/- The document's constant: the word of a round; what lay in memory stays. -/
import Derived.Test.YtghjgkgfpblijaaDoorSRefSpread
namespace Go.Proofs.YtghjgkgfpblijaaDoor.S
open Go.RowKit Go.Lib
attribute [local go_sem ↓] Go.wp_at_zero Go.wp_at_succ

/-- The words of the rounds as cells. -/
def kv : Nat → Value := fun i => .int .u32 (kWord i)
set_option maxRecDepth 100000 in
set_option maxHeartbeats 1000000 in
theorem constant_any (i : Nat) (hi : i < 64) (w : World) : Calls Tryd.prog 70 #[.int .i64 i] w fun e w' => e = .returned (.int .u32 (kWord i)) ∧ Below w.heap.size w w' := by
  go_enter Tryd.func70, Tryd.ntmps70
  go_upto_region 1 with fail
  go_cut [3] (fun s3 wx => s3 = .slice (some ⟨w.heap.size, 0, none⟩) 64 64 ∧ Below w.heap.size w wx ∧ HasAt w.heap.size 59 64 kv wx)
  case first =>
    go_wp2_with fail
    go_meet
    exact ⟨rfl, below_new _ _, HasAt.new w kv 64 59⟩
  case rest =>
    obtain ⟨rfl, hb, hh⟩ := hcut
    have c : wc.cell? ⟨w.heap.size, i, none⟩ = some (.int .u32 (kWord i)) := hh.cell i hi
    have HB := Lib.hid hb
    clear hb hh
    go_wp2
    go_ret
    exact ⟨rfl, HB.out⟩

end Go.Proofs.YtghjgkgfpblijaaDoor.S
