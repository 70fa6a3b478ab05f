/- For every three numbers: the order is one of three, turned when they are, nought just for the same, below nought just where the difference goes under, and what is not above what is not above a third is not above it; the call returns true; no condition. -/
import Derived.Test.YtboffheklkhnkaaOpen
import Derived.Test.YtboffheklkhnkaaComp
import Derived.Test.YtboffheklkhnkaaSub
import Derived.Test.YtboffheklkhnkaaAwake
import Derived.Test.YtboffheklkhnkaaHeld
import Derived.Below
namespace Go.Proofs.Ytboffheklkhnkaa.wideOrders
open Go.RowKit Go.Lib Go.Sort Go.ChangeShapes Go.WideShapes Go.ChangeAt
set_option linter.unusedVariables false

theorem own : ownKnob Try.prog.godebug = none := by kernel_rfl

set_option maxRecDepth 100000 in
set_option maxHeartbeats 8000000 in
theorem lt_le (a b c d : Nat) (Y Z : Int) (w : World) (hy : Y ≤ 0) (hz : Z ≤ 0)
    (C1 : Hid (∀ W, Calls Try.prog 29 #[wide a, wide b] W fun e w' => e = .returned (.int .i64 (-1)) ∧ Below W.heap.size W w'))
    (C2 : Hid (∀ W, Calls Try.prog 29 #[wide b, wide c] W fun e w' => e = .returned (.int .i64 (Y)) ∧ Below W.heap.size W w'))
    (C3 : Hid (∀ W, Calls Try.prog 29 #[wide a, wide c] W fun e w' => e = .returned (.int .i64 (Z)) ∧ Below W.heap.size W w'))
    (C4 : Hid (∀ W, Calls Try.prog 29 #[wide b, wide a] W fun e w' => e = .returned (.int .i64 (1)) ∧ Below W.heap.size W w'))
    (S : Hid (∀ W, Calls Try.prog 22 #[wide a, wide b] W fun e w' => e = .returned (.tuple #[wide d, .bool true]) ∧ Below W.heap.size W w'))
    (ev : ∀ w, (Op.equalIn 10000 24 (.agg (arr 4 (wl a))) (.agg (arr 4 (wl b)))).run Try.prog w = .ok false w)
    : Calls Try.prog 12 #[wide a, wide b, wide c] w fun e w' => e = .returned (.bool true) ∧ Below w.heap.size w w' := by
  have YA : Hid (∀ W, Calls Try.prog 24 #[] W fun e w' => e = .returned (.bool true) ∧ Below W.heap.size W w') := Lib.hid fun W => awake_any W
  have E := Lib.hid (((Env.box1 w (wl a)).next (b := w.heap.size + 1) (by simp) (wl b)).next (b := w.heap.size + 1 + 1) (by simp) (wl c))
  go_enter Try.func12, Try.ntmps12
  go_upto_region 1 with fail
  refine wp_region_quiet_below (by kernel_rfl) (by kernel_rfl) ?_
  refine envq_load E _ (by kernel_rfl) rfl rfl (List.mem_cons_of_mem _ (List.mem_cons_of_mem _ List.mem_cons_self)) ?_
  refine envq_load E _ (by kernel_rfl) rfl rfl (List.mem_cons_of_mem _ List.mem_cons_self) ?_
  quiet_step (exact Calls.regrown_of (C1.out _))
  refine envq_load E _ (by kernel_rfl) rfl rfl (List.mem_cons_of_mem _ List.mem_cons_self) ?_
  refine envq_load E _ (by kernel_rfl) rfl rfl List.mem_cons_self ?_
  quiet_step (exact Calls.regrown_of (C2.out _))
  refine envq_load E _ (by kernel_rfl) rfl rfl (List.mem_cons_of_mem _ (List.mem_cons_of_mem _ List.mem_cons_self)) ?_
  refine envq_load E _ (by kernel_rfl) rfl rfl List.mem_cons_self ?_
  quiet_step (exact Calls.regrown_of (C3.out _))
  quiet_step (fail)
  quiet_step (fail)
  quiet_step (fail)
  refine wpQuiet_nil ?_
  intro _ hw'
  obtain ⟨⟨dq, osq⟩, hw''⟩ := hw'
  subst hw''
  replace E := Lib.hid (E.out.call (below_regrown _ dq osq))
  generalize grow (redrawn _ dq) osq = wq at *
  go_wp2_with (first
    | (go_at_call 22; refine (S.out _).mono ?_; rintro e w1 ⟨rfl, hb⟩; replace E := Lib.hid (E.out.call hb); clear hb)
    | (go_at_call 29; refine (C4.out _).mono ?_; rintro e w1 ⟨rfl, hb⟩; replace E := Lib.hid (E.out.call hb); clear hb)
    | (go_at_call 24; refine (YA.out _).mono ?_; rintro e w1 ⟨rfl, hb⟩; replace E := Lib.hid (E.out.call hb); clear hb)
    | (with_reducible refine env_store_new E _ _ rfl rfl rfl rfl ?_; clear E; intro w2 E)
    | (with_reducible refine env_load E _ (by kernel_rfl) rfl rfl (by first | exact List.mem_cons_self | exact (List.mem_cons_of_mem _ List.mem_cons_self) | exact (List.mem_cons_of_mem _ (List.mem_cons_of_mem _ List.mem_cons_self)) | exact (List.mem_cons_of_mem _ (List.mem_cons_of_mem _ (List.mem_cons_of_mem _ List.mem_cons_self)))) ?_))
  go_ret
  exact ⟨rfl, E.out.below⟩
set_option maxRecDepth 100000 in
set_option maxHeartbeats 8000000 in
theorem lt_gt (a b c d : Nat) (Y Z : Int) (w : World) (hy : 0 < Y)
    (C1 : Hid (∀ W, Calls Try.prog 29 #[wide a, wide b] W fun e w' => e = .returned (.int .i64 (-1)) ∧ Below W.heap.size W w'))
    (C2 : Hid (∀ W, Calls Try.prog 29 #[wide b, wide c] W fun e w' => e = .returned (.int .i64 (Y)) ∧ Below W.heap.size W w'))
    (C3 : Hid (∀ W, Calls Try.prog 29 #[wide a, wide c] W fun e w' => e = .returned (.int .i64 (Z)) ∧ Below W.heap.size W w'))
    (C4 : Hid (∀ W, Calls Try.prog 29 #[wide b, wide a] W fun e w' => e = .returned (.int .i64 (1)) ∧ Below W.heap.size W w'))
    (S : Hid (∀ W, Calls Try.prog 22 #[wide a, wide b] W fun e w' => e = .returned (.tuple #[wide d, .bool true]) ∧ Below W.heap.size W w'))
    (ev : ∀ w, (Op.equalIn 10000 24 (.agg (arr 4 (wl a))) (.agg (arr 4 (wl b)))).run Try.prog w = .ok false w)
    : Calls Try.prog 12 #[wide a, wide b, wide c] w fun e w' => e = .returned (.bool true) ∧ Below w.heap.size w w' := by
  have YA : Hid (∀ W, Calls Try.prog 24 #[] W fun e w' => e = .returned (.bool true) ∧ Below W.heap.size W w') := Lib.hid fun W => awake_any W
  have E := Lib.hid (((Env.box1 w (wl a)).next (b := w.heap.size + 1) (by simp) (wl b)).next (b := w.heap.size + 1 + 1) (by simp) (wl c))
  go_enter Try.func12, Try.ntmps12
  go_upto_region 1 with fail
  refine wp_region_quiet_below (by kernel_rfl) (by kernel_rfl) ?_
  refine envq_load E _ (by kernel_rfl) rfl rfl (List.mem_cons_of_mem _ (List.mem_cons_of_mem _ List.mem_cons_self)) ?_
  refine envq_load E _ (by kernel_rfl) rfl rfl (List.mem_cons_of_mem _ List.mem_cons_self) ?_
  quiet_step (exact Calls.regrown_of (C1.out _))
  refine envq_load E _ (by kernel_rfl) rfl rfl (List.mem_cons_of_mem _ List.mem_cons_self) ?_
  refine envq_load E _ (by kernel_rfl) rfl rfl List.mem_cons_self ?_
  quiet_step (exact Calls.regrown_of (C2.out _))
  refine envq_load E _ (by kernel_rfl) rfl rfl (List.mem_cons_of_mem _ (List.mem_cons_of_mem _ List.mem_cons_self)) ?_
  refine envq_load E _ (by kernel_rfl) rfl rfl List.mem_cons_self ?_
  quiet_step (exact Calls.regrown_of (C3.out _))
  quiet_step (fail)
  quiet_step (fail)
  quiet_step (fail)
  refine wpQuiet_nil ?_
  intro _ hw'
  obtain ⟨⟨dq, osq⟩, hw''⟩ := hw'
  subst hw''
  replace E := Lib.hid (E.out.call (below_regrown _ dq osq))
  generalize grow (redrawn _ dq) osq = wq at *
  go_wp2_with (first
    | (go_at_call 22; refine (S.out _).mono ?_; rintro e w1 ⟨rfl, hb⟩; replace E := Lib.hid (E.out.call hb); clear hb)
    | (go_at_call 29; refine (C4.out _).mono ?_; rintro e w1 ⟨rfl, hb⟩; replace E := Lib.hid (E.out.call hb); clear hb)
    | (go_at_call 24; refine (YA.out _).mono ?_; rintro e w1 ⟨rfl, hb⟩; replace E := Lib.hid (E.out.call hb); clear hb)
    | (with_reducible refine env_store_new E _ _ rfl rfl rfl rfl ?_; clear E; intro w2 E)
    | (with_reducible refine env_load E _ (by kernel_rfl) rfl rfl (by first | exact List.mem_cons_self | exact (List.mem_cons_of_mem _ List.mem_cons_self) | exact (List.mem_cons_of_mem _ (List.mem_cons_of_mem _ List.mem_cons_self)) | exact (List.mem_cons_of_mem _ (List.mem_cons_of_mem _ (List.mem_cons_of_mem _ List.mem_cons_self)))) ?_))
  go_ret
  exact ⟨rfl, E.out.below⟩
set_option maxRecDepth 100000 in
set_option maxHeartbeats 8000000 in
theorem eq_le (a b c d : Nat) (Y Z : Int) (w : World) (hy : Y ≤ 0) (hz : Z ≤ 0)
    (C1 : Hid (∀ W, Calls Try.prog 29 #[wide a, wide b] W fun e w' => e = .returned (.int .i64 (0)) ∧ Below W.heap.size W w'))
    (C2 : Hid (∀ W, Calls Try.prog 29 #[wide b, wide c] W fun e w' => e = .returned (.int .i64 (Y)) ∧ Below W.heap.size W w'))
    (C3 : Hid (∀ W, Calls Try.prog 29 #[wide a, wide c] W fun e w' => e = .returned (.int .i64 (Z)) ∧ Below W.heap.size W w'))
    (C4 : Hid (∀ W, Calls Try.prog 29 #[wide b, wide a] W fun e w' => e = .returned (.int .i64 (0)) ∧ Below W.heap.size W w'))
    (S : Hid (∀ W, Calls Try.prog 22 #[wide a, wide b] W fun e w' => e = .returned (.tuple #[wide d, .bool false]) ∧ Below W.heap.size W w'))
    (ev : ∀ w, (Op.equalIn 10000 24 (.agg (arr 4 (wl a))) (.agg (arr 4 (wl b)))).run Try.prog w = .ok true w)
    : Calls Try.prog 12 #[wide a, wide b, wide c] w fun e w' => e = .returned (.bool true) ∧ Below w.heap.size w w' := by
  have YA : Hid (∀ W, Calls Try.prog 24 #[] W fun e w' => e = .returned (.bool true) ∧ Below W.heap.size W w') := Lib.hid fun W => awake_any W
  have E := Lib.hid (((Env.box1 w (wl a)).next (b := w.heap.size + 1) (by simp) (wl b)).next (b := w.heap.size + 1 + 1) (by simp) (wl c))
  go_enter Try.func12, Try.ntmps12
  go_upto_region 1 with fail
  refine wp_region_quiet_below (by kernel_rfl) (by kernel_rfl) ?_
  refine envq_load E _ (by kernel_rfl) rfl rfl (List.mem_cons_of_mem _ (List.mem_cons_of_mem _ List.mem_cons_self)) ?_
  refine envq_load E _ (by kernel_rfl) rfl rfl (List.mem_cons_of_mem _ List.mem_cons_self) ?_
  quiet_step (exact Calls.regrown_of (C1.out _))
  refine envq_load E _ (by kernel_rfl) rfl rfl (List.mem_cons_of_mem _ List.mem_cons_self) ?_
  refine envq_load E _ (by kernel_rfl) rfl rfl List.mem_cons_self ?_
  quiet_step (exact Calls.regrown_of (C2.out _))
  refine envq_load E _ (by kernel_rfl) rfl rfl (List.mem_cons_of_mem _ (List.mem_cons_of_mem _ List.mem_cons_self)) ?_
  refine envq_load E _ (by kernel_rfl) rfl rfl List.mem_cons_self ?_
  quiet_step (exact Calls.regrown_of (C3.out _))
  quiet_step (fail)
  quiet_step (fail)
  quiet_step (fail)
  refine wpQuiet_nil ?_
  intro _ hw'
  obtain ⟨⟨dq, osq⟩, hw''⟩ := hw'
  subst hw''
  replace E := Lib.hid (E.out.call (below_regrown _ dq osq))
  generalize grow (redrawn _ dq) osq = wq at *
  go_wp2_with (first
    | (go_at_call 22; refine (S.out _).mono ?_; rintro e w1 ⟨rfl, hb⟩; replace E := Lib.hid (E.out.call hb); clear hb)
    | (go_at_call 29; refine (C4.out _).mono ?_; rintro e w1 ⟨rfl, hb⟩; replace E := Lib.hid (E.out.call hb); clear hb)
    | (go_at_call 24; refine (YA.out _).mono ?_; rintro e w1 ⟨rfl, hb⟩; replace E := Lib.hid (E.out.call hb); clear hb)
    | (with_reducible refine env_store_new E _ _ rfl rfl rfl rfl ?_; clear E; intro w2 E)
    | (with_reducible refine env_load E _ (by kernel_rfl) rfl rfl (by first | exact List.mem_cons_self | exact (List.mem_cons_of_mem _ List.mem_cons_self) | exact (List.mem_cons_of_mem _ (List.mem_cons_of_mem _ List.mem_cons_self)) | exact (List.mem_cons_of_mem _ (List.mem_cons_of_mem _ (List.mem_cons_of_mem _ List.mem_cons_self)))) ?_))
  go_ret
  exact ⟨rfl, E.out.below⟩
set_option maxRecDepth 100000 in
set_option maxHeartbeats 8000000 in
theorem eq_gt (a b c d : Nat) (Y Z : Int) (w : World) (hy : 0 < Y)
    (C1 : Hid (∀ W, Calls Try.prog 29 #[wide a, wide b] W fun e w' => e = .returned (.int .i64 (0)) ∧ Below W.heap.size W w'))
    (C2 : Hid (∀ W, Calls Try.prog 29 #[wide b, wide c] W fun e w' => e = .returned (.int .i64 (Y)) ∧ Below W.heap.size W w'))
    (C3 : Hid (∀ W, Calls Try.prog 29 #[wide a, wide c] W fun e w' => e = .returned (.int .i64 (Z)) ∧ Below W.heap.size W w'))
    (C4 : Hid (∀ W, Calls Try.prog 29 #[wide b, wide a] W fun e w' => e = .returned (.int .i64 (0)) ∧ Below W.heap.size W w'))
    (S : Hid (∀ W, Calls Try.prog 22 #[wide a, wide b] W fun e w' => e = .returned (.tuple #[wide d, .bool false]) ∧ Below W.heap.size W w'))
    (ev : ∀ w, (Op.equalIn 10000 24 (.agg (arr 4 (wl a))) (.agg (arr 4 (wl b)))).run Try.prog w = .ok true w)
    : Calls Try.prog 12 #[wide a, wide b, wide c] w fun e w' => e = .returned (.bool true) ∧ Below w.heap.size w w' := by
  have YA : Hid (∀ W, Calls Try.prog 24 #[] W fun e w' => e = .returned (.bool true) ∧ Below W.heap.size W w') := Lib.hid fun W => awake_any W
  have E := Lib.hid (((Env.box1 w (wl a)).next (b := w.heap.size + 1) (by simp) (wl b)).next (b := w.heap.size + 1 + 1) (by simp) (wl c))
  go_enter Try.func12, Try.ntmps12
  go_upto_region 1 with fail
  refine wp_region_quiet_below (by kernel_rfl) (by kernel_rfl) ?_
  refine envq_load E _ (by kernel_rfl) rfl rfl (List.mem_cons_of_mem _ (List.mem_cons_of_mem _ List.mem_cons_self)) ?_
  refine envq_load E _ (by kernel_rfl) rfl rfl (List.mem_cons_of_mem _ List.mem_cons_self) ?_
  quiet_step (exact Calls.regrown_of (C1.out _))
  refine envq_load E _ (by kernel_rfl) rfl rfl (List.mem_cons_of_mem _ List.mem_cons_self) ?_
  refine envq_load E _ (by kernel_rfl) rfl rfl List.mem_cons_self ?_
  quiet_step (exact Calls.regrown_of (C2.out _))
  refine envq_load E _ (by kernel_rfl) rfl rfl (List.mem_cons_of_mem _ (List.mem_cons_of_mem _ List.mem_cons_self)) ?_
  refine envq_load E _ (by kernel_rfl) rfl rfl List.mem_cons_self ?_
  quiet_step (exact Calls.regrown_of (C3.out _))
  quiet_step (fail)
  quiet_step (fail)
  quiet_step (fail)
  refine wpQuiet_nil ?_
  intro _ hw'
  obtain ⟨⟨dq, osq⟩, hw''⟩ := hw'
  subst hw''
  replace E := Lib.hid (E.out.call (below_regrown _ dq osq))
  generalize grow (redrawn _ dq) osq = wq at *
  go_wp2_with (first
    | (go_at_call 22; refine (S.out _).mono ?_; rintro e w1 ⟨rfl, hb⟩; replace E := Lib.hid (E.out.call hb); clear hb)
    | (go_at_call 29; refine (C4.out _).mono ?_; rintro e w1 ⟨rfl, hb⟩; replace E := Lib.hid (E.out.call hb); clear hb)
    | (go_at_call 24; refine (YA.out _).mono ?_; rintro e w1 ⟨rfl, hb⟩; replace E := Lib.hid (E.out.call hb); clear hb)
    | (with_reducible refine env_store_new E _ _ rfl rfl rfl rfl ?_; clear E; intro w2 E)
    | (with_reducible refine env_load E _ (by kernel_rfl) rfl rfl (by first | exact List.mem_cons_self | exact (List.mem_cons_of_mem _ List.mem_cons_self) | exact (List.mem_cons_of_mem _ (List.mem_cons_of_mem _ List.mem_cons_self)) | exact (List.mem_cons_of_mem _ (List.mem_cons_of_mem _ (List.mem_cons_of_mem _ List.mem_cons_self)))) ?_))
  go_ret
  exact ⟨rfl, E.out.below⟩
set_option maxRecDepth 100000 in
set_option maxHeartbeats 8000000 in
theorem gt_any (a b c d : Nat) (Y Z : Int) (w : World) 
    (C1 : Hid (∀ W, Calls Try.prog 29 #[wide a, wide b] W fun e w' => e = .returned (.int .i64 (1)) ∧ Below W.heap.size W w'))
    (C2 : Hid (∀ W, Calls Try.prog 29 #[wide b, wide c] W fun e w' => e = .returned (.int .i64 (Y)) ∧ Below W.heap.size W w'))
    (C3 : Hid (∀ W, Calls Try.prog 29 #[wide a, wide c] W fun e w' => e = .returned (.int .i64 (Z)) ∧ Below W.heap.size W w'))
    (C4 : Hid (∀ W, Calls Try.prog 29 #[wide b, wide a] W fun e w' => e = .returned (.int .i64 (-1)) ∧ Below W.heap.size W w'))
    (S : Hid (∀ W, Calls Try.prog 22 #[wide a, wide b] W fun e w' => e = .returned (.tuple #[wide d, .bool false]) ∧ Below W.heap.size W w'))
    (ev : ∀ w, (Op.equalIn 10000 24 (.agg (arr 4 (wl a))) (.agg (arr 4 (wl b)))).run Try.prog w = .ok false w)
    : Calls Try.prog 12 #[wide a, wide b, wide c] w fun e w' => e = .returned (.bool true) ∧ Below w.heap.size w w' := by
  have YA : Hid (∀ W, Calls Try.prog 24 #[] W fun e w' => e = .returned (.bool true) ∧ Below W.heap.size W w') := Lib.hid fun W => awake_any W
  have E := Lib.hid (((Env.box1 w (wl a)).next (b := w.heap.size + 1) (by simp) (wl b)).next (b := w.heap.size + 1 + 1) (by simp) (wl c))
  go_enter Try.func12, Try.ntmps12
  go_upto_region 1 with fail
  refine wp_region_quiet_below (by kernel_rfl) (by kernel_rfl) ?_
  refine envq_load E _ (by kernel_rfl) rfl rfl (List.mem_cons_of_mem _ (List.mem_cons_of_mem _ List.mem_cons_self)) ?_
  refine envq_load E _ (by kernel_rfl) rfl rfl (List.mem_cons_of_mem _ List.mem_cons_self) ?_
  quiet_step (exact Calls.regrown_of (C1.out _))
  refine envq_load E _ (by kernel_rfl) rfl rfl (List.mem_cons_of_mem _ List.mem_cons_self) ?_
  refine envq_load E _ (by kernel_rfl) rfl rfl List.mem_cons_self ?_
  quiet_step (exact Calls.regrown_of (C2.out _))
  refine envq_load E _ (by kernel_rfl) rfl rfl (List.mem_cons_of_mem _ (List.mem_cons_of_mem _ List.mem_cons_self)) ?_
  refine envq_load E _ (by kernel_rfl) rfl rfl List.mem_cons_self ?_
  quiet_step (exact Calls.regrown_of (C3.out _))
  quiet_step (fail)
  quiet_step (fail)
  quiet_step (fail)
  refine wpQuiet_nil ?_
  intro _ hw'
  obtain ⟨⟨dq, osq⟩, hw''⟩ := hw'
  subst hw''
  replace E := Lib.hid (E.out.call (below_regrown _ dq osq))
  generalize grow (redrawn _ dq) osq = wq at *
  go_wp2_with (first
    | (go_at_call 22; refine (S.out _).mono ?_; rintro e w1 ⟨rfl, hb⟩; replace E := Lib.hid (E.out.call hb); clear hb)
    | (go_at_call 29; refine (C4.out _).mono ?_; rintro e w1 ⟨rfl, hb⟩; replace E := Lib.hid (E.out.call hb); clear hb)
    | (go_at_call 24; refine (YA.out _).mono ?_; rintro e w1 ⟨rfl, hb⟩; replace E := Lib.hid (E.out.call hb); clear hb)
    | (with_reducible refine env_store_new E _ _ rfl rfl rfl rfl ?_; clear E; intro w2 E)
    | (with_reducible refine env_load E _ (by kernel_rfl) rfl rfl (by first | exact List.mem_cons_self | exact (List.mem_cons_of_mem _ List.mem_cons_self) | exact (List.mem_cons_of_mem _ (List.mem_cons_of_mem _ List.mem_cons_self)) | exact (List.mem_cons_of_mem _ (List.mem_cons_of_mem _ (List.mem_cons_of_mem _ List.mem_cons_self)))) ?_))
  go_ret
  exact ⟨rfl, E.out.below⟩
theorem walk_any (a b c : Nat) (ha : a < P256) (hb : b < P256) (hc : c < P256) (w : World) :
    Calls Try.prog 12 #[wide a, wide b, wide c] w fun e w' => e = .returned (.bool true) ∧ Below w.heap.size w w' := by
  rcases Nat.lt_trichotomy a b with h | h | h
  · have e1 : ¬ a = b := by omega
    by_cases hy : cmp3 b c ≤ 0
    · have hz : cmp3 a c ≤ 0 := (cmp3_le_iff a c).2 (by have := (cmp3_le_iff b c).1 hy; omega)
      exact lt_le a b c (a + P256 - b) (cmp3 b c) (cmp3 a c) w hy hz (Lib.hid fun W => by have hw := compare_any a b ha hb W; rw [cmp3_lt h] at hw; exact hw) (Lib.hid (compare_any b c hb hc)) (Lib.hid (compare_any a c ha hc)) (Lib.hid fun W => by have hw := compare_any b a hb ha W; rw [cmp3_gt h] at hw; exact hw) (Lib.hid fun W => by have hw := sub_any a b ha hb W; rw [decide_eq_true h] at hw; exact hw) (fun w => by rw [eq_wide a b ha hb, decide_eq_false e1])
    · exact lt_gt a b c (a + P256 - b) (cmp3 b c) (cmp3 a c) w (by omega) (Lib.hid fun W => by have hw := compare_any a b ha hb W; rw [cmp3_lt h] at hw; exact hw) (Lib.hid (compare_any b c hb hc)) (Lib.hid (compare_any a c ha hc)) (Lib.hid fun W => by have hw := compare_any b a hb ha W; rw [cmp3_gt h] at hw; exact hw) (Lib.hid fun W => by have hw := sub_any a b ha hb W; rw [decide_eq_true h] at hw; exact hw) (fun w => by rw [eq_wide a b ha hb, decide_eq_false e1])
  · have e1 : ¬ a < b := by omega
    have e2 : cmp3 a b = 0 := (cmp3_zero_iff a b).2 h
    have e3 : cmp3 b a = 0 := (cmp3_zero_iff b a).2 h.symm
    by_cases hy : cmp3 b c ≤ 0
    · have hz : cmp3 a c ≤ 0 := (cmp3_le_iff a c).2 (by have := (cmp3_le_iff b c).1 hy; omega)
      exact eq_le a b c (a + P256 - b) (cmp3 b c) (cmp3 a c) w hy hz (Lib.hid fun W => by have hw := compare_any a b ha hb W; rw [e2] at hw; exact hw) (Lib.hid (compare_any b c hb hc)) (Lib.hid (compare_any a c ha hc)) (Lib.hid fun W => by have hw := compare_any b a hb ha W; rw [e3] at hw; exact hw) (Lib.hid fun W => by have hw := sub_any a b ha hb W; rw [decide_eq_false e1] at hw; exact hw) (fun w => by rw [eq_wide a b ha hb, decide_eq_true h])
    · exact eq_gt a b c (a + P256 - b) (cmp3 b c) (cmp3 a c) w (by omega) (Lib.hid fun W => by have hw := compare_any a b ha hb W; rw [e2] at hw; exact hw) (Lib.hid (compare_any b c hb hc)) (Lib.hid (compare_any a c ha hc)) (Lib.hid fun W => by have hw := compare_any b a hb ha W; rw [e3] at hw; exact hw) (Lib.hid fun W => by have hw := sub_any a b ha hb W; rw [decide_eq_false e1] at hw; exact hw) (fun w => by rw [eq_wide a b ha hb, decide_eq_true h])
  · have e1 : ¬ a < b := by omega
    have e2 : ¬ a = b := by omega
    exact gt_any a b c (a + P256 - b) (cmp3 b c) (cmp3 a c) w  (Lib.hid fun W => by have hw := compare_any a b ha hb W; rw [cmp3_gt h] at hw; exact hw) (Lib.hid (compare_any b c hb hc)) (Lib.hid (compare_any a c ha hc)) (Lib.hid fun W => by have hw := compare_any b a hb ha W; rw [cmp3_lt h] at hw; exact hw) (Lib.hid fun W => by have hw := sub_any a b ha hb W; rw [decide_eq_false e1] at hw; exact hw) (fun w => by rw [eq_wide a b ha hb, decide_eq_false e2])

theorem walk (a0 : Nat → Int) (w0 : ∀ i, i < 4 → (Lit.int .u64 (a0 i)).wf = true) (a1 : Nat → Int) (w1 : ∀ i, i < 4 → (Lit.int .u64 (a1 i)).wf = true) (a2 : Nat → Int) (w2 : ∀ i, i < 4 → (Lit.int .u64 (a2 i)).wf = true) (w : World) :
    Calls Try.prog 12 #[.agg (arr 4 fun i => .int .u64 (a0 i)), .agg (arr 4 fun i => .int .u64 (a1 i)), .agg (arr 4 fun i => .int .u64 (a2 i))] w fun e w' => e = .returned (.bool true) ∧ Below w.heap.size w w' := by
  obtain ⟨a, ha, e0⟩ := words_wide a0 w0
  obtain ⟨b, hb, e1⟩ := words_wide a1 w1
  obtain ⟨c, hc, e2⟩ := words_wide a2 w2
  rw [e0, e1, e2]
  exact walk_any a b c ha hb hc w


set_option maxRecDepth 100000 in
theorem lifted (os : Os) (started : os.Started) (H : Type) (enc : TypeId × Value → H) :
    ReturnsInHanded {} Try.checked os 12 .any (Rows.wideOrdersSpec.pre6 enc Try.prog Try.f12 Rows.wideOrdersRow.domain false) (Rows.wideOrdersSpec.post enc Try.prog Try.f12 false true false false) := by
  refine returnsInHanded_of_change (C := Try.checked) own started (by kernel_rfl) Try.func12
    (ChangeSpec.witness6 (enc := enc) (C := Try.checked) false ⟨#[], #[.agg #[.int .u64 0, .int .u64 0, .int .u64 0, .int .u64 0], .agg #[.int .u64 0, .int .u64 0, .int .u64 0, .int .u64 0], .agg #[.int .u64 0, .int .u64 0, .int .u64 0, .int .u64 0]], []⟩ 8 (by kernel_rfl) (by kernel_rfl) (by kernel_rfl) (by kernel_rfl)) ?_
  intro W base args ds gs before hval0 hW hcnd _
  have hval : ∀ (j : Nat) t v, Try.f12.params[j]? = some t → args[j]? = some v → Value.okWide Try.prog W .any base t v := hval0
  have hW' := hW
  obtain ⟨p, q, hA0, hV, rfl, hfz, hnd⟩ := hW
  have hA : DataW.TrodAll enc Try.prog W 0 (fun _ => true) true Try.f12.params.toList args.toList ds p := hA0
  rw [Try.params12] at hA hval
  obtain ⟨v0, vs0, d0, ds0, p0, q0, hargs, rfl, rfl, h0, r0⟩ := trodAll_cons hA
  obtain ⟨v1, vs1, d1, ds1, p1, q1, rfl, rfl, rfl, h1, r1⟩ := trodAll_cons r0
  obtain ⟨v2, vs2, d2, ds2, p2, q2, rfl, rfl, rfl, h2, r2⟩ := trodAll_cons r1
  obtain ⟨rfl, rfl, rfl⟩ := trodAll_nil r2
  obtain rfl : args = #[v0, v1, v2] := by cases args; simp_all
  obtain ⟨rfl, rfl⟩ := trodVars_none hV
  obtain ⟨a0, rfl, rfl, rfl, w0⟩ := open_ints_arr Try.underlying24 Try.underlying22 (by kernel_rfl) (by kernel_rfl) (hval 0 24 v0 rfl rfl) h0
  obtain ⟨a1, rfl, rfl, rfl, w1⟩ := open_ints_arr Try.underlying24 Try.underlying22 (by kernel_rfl) (by kernel_rfl) (hval 1 24 v1 rfl rfl) h1
  obtain ⟨a2, rfl, rfl, rfl, w2⟩ := open_ints_arr Try.underlying24 Try.underlying22 (by kernel_rfl) (by kernel_rfl) (hval 2 24 v2 rfl rfl) h2
  clear hA0 hval0
  simp only [List.append_nil] at hW'
  refine (walk a0 w0 a1 w1 a2 w2 W).mono fun e W' ⟨he, bel⟩ => ?_
  subst he
  exact ⟨_, rfl, _, _, _, [], _, [], hW', trodAll_mk1 (shut_bool Try.underlying4 _), (trodAll_cons_mk (shut_ints_arr Try.underlying24 Try.underlying22 (by kernel_rfl) (by kernel_rfl) w0) (trodAll_cons_mk (shut_ints_arr Try.underlying24 Try.underlying22 (by kernel_rfl) (by kernel_rfl) w1) (trodAll_cons_mk (shut_ints_arr Try.underlying24 Try.underlying22 (by kernel_rfl) (by kernel_rfl) w2) trodAll_mk0))), rfl, bel.frame _, fun h => by cases h⟩

theorem over : Rows.wideOrdersRow.holds Try.pinned (OpenSpec.ofChange Rows.wideOrdersSpec) :=
  OpenClaim.holds_of_wide 12 Try.f12 rfl rfl rfl rfl rfl rfl rfl ⟨rfl, rfl, rfl, rfl, rfl⟩ rfl rfl rfl rfl rfl (by kernel_rfl) Try.func12 (by kernel_rfl)
    (of_decide_eq_true (by kernel_rfl)) (by unfold Func.isWrapper; first | (rw [if_pos (by decide +kernel)]; kernel_rfl) | (rw [if_neg (by decide +kernel)]; exact ⟨rfl, rfl⟩))
    (fun os started H enc _ => lifted os started H enc)

/-- The statement. -/
theorem proved : Rows.WideOrdersSaid :=
  over
#print axioms proved
end Go.Proofs.Ytboffheklkhnkaa.wideOrders
