/- Whether a hash meets bits: the walks. -/
import Derived.Test.YtboffheklkhnkaaBytes
import Derived.Test.YtboffheklkhnkaaMem
import Derived.Test.YtboffheklkhnkaaRexpand
import Derived.Test.YtboffheklkhnkaaRefComp
import Derived.Test.YtboffheklkhnkaaComp
set_option linter.unusedSimpArgs false
set_option linter.unusedVariables false
namespace Go.Proofs.Ytboffheklkhnkaa
open Go.RowKit Go.Lib Go.Sort
attribute [local go_sem ↓] Go.wp_at_zero Go.wp_at_succ


theorem info24 : (Try.prog.info? 24).map (fun i => (i.zero, i.size)) = some (some (wide 0), 4) := by kernel_rfl
theorem all_wl (n : Nat) : (arr 4 (wl n)).all (·.oneCell') = true := by kernel_rfl
set_option maxRecDepth 100000 in
set_option maxHeartbeats 2000000 in
theorem meets_off (f : Nat → Nat) (b : Nat)
    (C : Hid (Gives 43 #[.int .u32 (b : Int)] (.tuple #[wide 0, .int .i64 40]))) :
    Gives 50 #[.agg (arr 32 (bl f)), .int .u32 (b : Int)] (.bool false) := by
  intro w
  have E := Lib.hid (Mem.nil w)
  go_enter Try.func50, Try.ntmps50
  go_upto_region 2 with (first
    | (go_at_call 43; refine (C.out _).mono ?_; rintro e w1 ⟨rfl, hb⟩; replace E := Lib.hid (E.out.call hb); clear hb)
    | (with_reducible refine mem_box E 36 rfl _ rfl rfl rfl ?_; clear E; intro b w2 E)
    | (with_reducible refine mem_alloc E 24 rfl rfl info24 ?_; clear E; intro b w2 E; simp only [Value.cells] at E)
    | (refine mem_store_row 0 E 24 rfl _ _ rfl rfl rfl rfl (by kernel_rfl) rfl (all_wl _) ?_; clear E; intro w2 E; simp only [List.set_cons_zero, List.set_cons_succ] at E)
    | (refine mem_store_row 1 E 24 rfl _ _ rfl rfl rfl rfl (by kernel_rfl) rfl (all_wl _) ?_; clear E; intro w2 E; simp only [List.set_cons_zero, List.set_cons_succ] at E))
  try simp only [Act.put]
  refine wp_region_quiet_below (by kernel_rfl) (by kernel_rfl) ?_
  quiet_step (fail)
  quiet_step (fail)
  quiet_step (fail)
  quiet_step (fail)
  quiet_step (fail)
  quiet_step (fail)
  quiet_step (fail)
  quiet_step (fail)
  quiet_step (fail)
  quiet_step (fail)
  refine wpQuiet_nil ?_
  intro _ hw'
  obtain ⟨⟨dq, osq⟩, hw''⟩ := hw'
  subst hw''
  replace E := Lib.hid (E.out.call (below_regrown _ dq osq))
  go_wp2_with fail
  go_ret
  exact ⟨rfl, E.out.below⟩
set_option maxRecDepth 100000 in
set_option maxHeartbeats 2000000 in
theorem meets_on (f : Nat → Nat) (b t n : Nat) (c : Int) (r : Bool) (hc : decide (c ≤ 0) = r)
    (C : Hid (Gives 43 #[.int .u32 (b : Int)] (.tuple #[wide t, .int .i64 0])))
    (O : Hid (Gives 39 #[.agg (arr 32 (bl f))] (wide n)))
    (M : Hid (Gives 29 #[wide n, wide t] (.int .i64 c))) :
    Gives 50 #[.agg (arr 32 (bl f)), .int .u32 (b : Int)] (.bool r) := by
  intro w
  have E := Lib.hid (Mem.nil w)
  go_enter Try.func50, Try.ntmps50
  go_upto_region 2 with (first
    | (go_at_call 43; refine (C.out _).mono ?_; rintro e w1 ⟨rfl, hb⟩; replace E := Lib.hid (E.out.call hb); clear hb)
    | (with_reducible refine mem_box E 36 rfl _ rfl rfl rfl ?_; clear E; intro b w2 E)
    | (with_reducible refine mem_alloc E 24 rfl rfl info24 ?_; clear E; intro b w2 E; simp only [Value.cells] at E)
    | (refine mem_store_row 0 E 24 rfl _ _ rfl rfl rfl rfl (by kernel_rfl) rfl (all_wl _) ?_; clear E; intro w2 E; simp only [List.set_cons_zero, List.set_cons_succ] at E)
    | (refine mem_store_row 1 E 24 rfl _ _ rfl rfl rfl rfl (by kernel_rfl) rfl (all_wl _) ?_; clear E; intro w2 E; simp only [List.set_cons_zero, List.set_cons_succ] at E))
  try simp only [Act.put]
  refine wp_region_quiet_below (by kernel_rfl) (by kernel_rfl) ?_
  quiet_step (fail)
  quiet_step (fail)
  quiet_step (fail)
  refine memq_load_row E 36 (by kernel_rfl) _ rfl rfl (by first | exact List.mem_cons_self | exact (List.mem_cons_of_mem _ List.mem_cons_self) | exact (List.mem_cons_of_mem _ (List.mem_cons_of_mem _ List.mem_cons_self))) Try.underlying36 rfl (by kernel_rfl) ?_
  quiet_step (exact Calls.regrown_of (O.out _))
  refine memq_load_row E 24 (by kernel_rfl) _ rfl rfl (by first | exact List.mem_cons_self | exact (List.mem_cons_of_mem _ List.mem_cons_self) | exact (List.mem_cons_of_mem _ (List.mem_cons_of_mem _ List.mem_cons_self))) Try.underlying24 rfl (by kernel_rfl) ?_
  quiet_step (exact Calls.regrown_of (M.out _))
  quiet_step (fail)
  quiet_step (fail)
  quiet_step (fail)
  refine wpQuiet_nil ?_
  intro _ hw'
  obtain ⟨⟨dq, osq⟩, hw''⟩ := hw'
  subst hw''
  replace E := Lib.hid (E.out.call (below_regrown _ dq osq))
  go_wp2_with fail
  go_ret
  exact ⟨rfl, E.out.below⟩
set_option maxRecDepth 100000 in
set_option maxHeartbeats 2000000 in
theorem rmeets_off (f : Nat → Nat) (b : Nat)
    (C : Hid (Gives 44 #[.int .u32 (b : Int)] (.tuple #[wide 0, .int .i64 40]))) :
    Gives 51 #[.agg (arr 32 (bl f)), .int .u32 (b : Int)] (.bool false) := by
  intro w
  have E := Lib.hid (Mem.nil w)
  go_enter Try.func51, Try.ntmps51
  go_upto_region 2 with (first
    | (go_at_call 44; refine (C.out _).mono ?_; rintro e w1 ⟨rfl, hb⟩; replace E := Lib.hid (E.out.call hb); clear hb)
    | (with_reducible refine mem_box E 36 rfl _ rfl rfl rfl ?_; clear E; intro b w2 E)
    | (with_reducible refine mem_alloc E 24 rfl rfl info24 ?_; clear E; intro b w2 E; simp only [Value.cells] at E)
    | (refine mem_store_row 0 E 24 rfl _ _ rfl rfl rfl rfl (by kernel_rfl) rfl (all_wl _) ?_; clear E; intro w2 E; simp only [List.set_cons_zero, List.set_cons_succ] at E)
    | (refine mem_store_row 1 E 24 rfl _ _ rfl rfl rfl rfl (by kernel_rfl) rfl (all_wl _) ?_; clear E; intro w2 E; simp only [List.set_cons_zero, List.set_cons_succ] at E))
  try simp only [Act.put]
  refine wp_region_quiet_below (by kernel_rfl) (by kernel_rfl) ?_
  quiet_step (fail)
  quiet_step (fail)
  quiet_step (fail)
  quiet_step (fail)
  quiet_step (fail)
  quiet_step (fail)
  quiet_step (fail)
  quiet_step (fail)
  quiet_step (fail)
  quiet_step (fail)
  refine wpQuiet_nil ?_
  intro _ hw'
  obtain ⟨⟨dq, osq⟩, hw''⟩ := hw'
  subst hw''
  replace E := Lib.hid (E.out.call (below_regrown _ dq osq))
  go_wp2_with fail
  go_ret
  exact ⟨rfl, E.out.below⟩
set_option maxRecDepth 100000 in
set_option maxHeartbeats 2000000 in
theorem rmeets_on (f : Nat → Nat) (b t n : Nat) (c : Int) (r : Bool) (hc : decide (c ≤ 0) = r)
    (C : Hid (Gives 44 #[.int .u32 (b : Int)] (.tuple #[wide t, .int .i64 0])))
    (O : Hid (Gives 40 #[.agg (arr 32 (bl f))] (wide n)))
    (M : Hid (Gives 30 #[wide n, wide t] (.int .i64 c))) :
    Gives 51 #[.agg (arr 32 (bl f)), .int .u32 (b : Int)] (.bool r) := by
  intro w
  have E := Lib.hid (Mem.nil w)
  go_enter Try.func51, Try.ntmps51
  go_upto_region 2 with (first
    | (go_at_call 44; refine (C.out _).mono ?_; rintro e w1 ⟨rfl, hb⟩; replace E := Lib.hid (E.out.call hb); clear hb)
    | (with_reducible refine mem_box E 36 rfl _ rfl rfl rfl ?_; clear E; intro b w2 E)
    | (with_reducible refine mem_alloc E 24 rfl rfl info24 ?_; clear E; intro b w2 E; simp only [Value.cells] at E)
    | (refine mem_store_row 0 E 24 rfl _ _ rfl rfl rfl rfl (by kernel_rfl) rfl (all_wl _) ?_; clear E; intro w2 E; simp only [List.set_cons_zero, List.set_cons_succ] at E)
    | (refine mem_store_row 1 E 24 rfl _ _ rfl rfl rfl rfl (by kernel_rfl) rfl (all_wl _) ?_; clear E; intro w2 E; simp only [List.set_cons_zero, List.set_cons_succ] at E))
  try simp only [Act.put]
  refine wp_region_quiet_below (by kernel_rfl) (by kernel_rfl) ?_
  quiet_step (fail)
  quiet_step (fail)
  quiet_step (fail)
  refine memq_load_row E 36 (by kernel_rfl) _ rfl rfl (by first | exact List.mem_cons_self | exact (List.mem_cons_of_mem _ List.mem_cons_self) | exact (List.mem_cons_of_mem _ (List.mem_cons_of_mem _ List.mem_cons_self))) Try.underlying36 rfl (by kernel_rfl) ?_
  quiet_step (exact Calls.regrown_of (O.out _))
  refine memq_load_row E 24 (by kernel_rfl) _ rfl rfl (by first | exact List.mem_cons_self | exact (List.mem_cons_of_mem _ List.mem_cons_self) | exact (List.mem_cons_of_mem _ (List.mem_cons_of_mem _ List.mem_cons_self))) Try.underlying24 rfl (by kernel_rfl) ?_
  quiet_step (exact Calls.regrown_of (M.out _))
  quiet_step (fail)
  quiet_step (fail)
  quiet_step (fail)
  refine wpQuiet_nil ?_
  intro _ hw'
  obtain ⟨⟨dq, osq⟩, hw''⟩ := hw'
  subst hw''
  replace E := Lib.hid (E.out.call (below_regrown _ dq osq))
  go_wp2_with fail
  go_ret
  exact ⟨rfl, E.out.below⟩
end Go.Proofs.Ytboffheklkhnkaa
