/- The laws' own question whether one and one are two: it returns true; what lay in memory stays. -/
import Derived.Test.YtboffheklkhnkaaEnv
namespace Go.Proofs.Ytboffheklkhnkaa
open Go.RowKit Go.Lib

set_option maxRecDepth 100000 in
set_option maxHeartbeats 2000000 in
theorem awake_any (w : World) : Calls Try.prog 24 #[] w fun e w' => e = .returned (.bool true) ∧ Below w.heap.size w w' := by
  have A : Hid (∀ W, Calls Try.prog 20 #[wide 1, wide 1] W fun e w' => e = .returned (.tuple #[wide 2, .bool false]) ∧ Below W.heap.size W w') := Lib.hid fun W => add_any 1 1 (by decide) (by decide) W
  have sm := same_wide 2
  have E := Lib.hid (Env.nil w)
  go_enter Try.func24, Try.ntmps24
  go_wp2_with (first
    | (go_at_call 20; refine (A.out _).mono ?_; rintro e w1 ⟨rfl, hb⟩; replace E := Lib.hid (E.out.call hb); clear hb)
    | (with_reducible refine env_build 1 #[(0, .const (.int .u64 1))] #[(0, .int .u64 1)] built_1 (by kernel_rfl) rfl (by kernel_rfl) ?_)
    | (with_reducible refine env_build 2 #[(0, .const (.int .u64 2))] #[(0, .int .u64 2)] built_2 (by kernel_rfl) rfl (by kernel_rfl) ?_)
    | (with_reducible refine env_store_new E _ _ rfl rfl rfl rfl ?_; clear E; intro w2 E)
    | (with_reducible refine env_load E _ (by kernel_rfl) rfl rfl (by first | exact List.mem_cons_self | exact List.mem_cons_of_mem _ List.mem_cons_self) ?_))
  go_ret
  exact ⟨rfl, E.out.below⟩
end Go.Proofs.Ytboffheklkhnkaa
