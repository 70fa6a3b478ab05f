/- The bits behind a span of seconds: the program's walks. -/
import Derived.Test.YtboffheklkhnkaaMem
import Derived.Test.YtboffheklkhnkaaMeets
import Derived.Test.YtboffheklkhnkaaCompact
set_option linter.unusedSimpArgs false
set_option linter.unusedVariables false
namespace Go.Proofs.Ytboffheklkhnkaa
open Go.RowKit Go.Lib Go.Sort
attribute [local go_sem ↓] Go.wp_at_zero Go.wp_at_succ

set_option maxRecDepth 100000 in
set_option maxHeartbeats 4000000 in
theorem next_off1 (b m : Nat) (s k : Int)
    (X1 : Hid (Gives 43 #[.int .u32 (b : Int)] (.tuple #[wide 0, .int .i64 40]))) :
    Gives 52 #[.int .u32 (b : Int), .int .u32 (m : Int), .int .i64 s, .int .i64 k] (.tuple #[.int .u32 0, .int .i64 40]) := by
  intro w
  have E := Lib.hid (Mem.nil w)
  go_enter Try.func52, Try.ntmps52
  go_wp2_with (first
    | (go_at_call 43; refine (X1.out _).mono ?_; rintro e w1 ⟨rfl, hb⟩; replace E := Lib.hid (E.out.call hb); clear hb)
    | (with_reducible refine mem_alloc E 24 rfl rfl info24 ?_; clear E; intro b w2 E; simp only [Value.cells] at E)
    | (with_reducible refine mem_load_row E 24 (by kernel_rfl) _ rfl rfl (by first | exact List.mem_cons_self | exact (List.mem_cons_of_mem _ List.mem_cons_self) | exact (List.mem_cons_of_mem _ (List.mem_cons_of_mem _ List.mem_cons_self)) | exact (List.mem_cons_of_mem _ (List.mem_cons_of_mem _ (List.mem_cons_of_mem _ List.mem_cons_self))) | exact (List.mem_cons_of_mem _ (List.mem_cons_of_mem _ (List.mem_cons_of_mem _ (List.mem_cons_of_mem _ List.mem_cons_self)))) | exact (List.mem_cons_of_mem _ (List.mem_cons_of_mem _ (List.mem_cons_of_mem _ (List.mem_cons_of_mem _ (List.mem_cons_of_mem _ List.mem_cons_self)))))) Try.underlying24 rfl (by kernel_rfl) ?_)
    | (refine mem_store_row 0 E 24 rfl _ _ rfl rfl rfl rfl (by kernel_rfl) rfl (all_wl _) ?_; clear E; intro w2 E; simp only [List.set_cons_zero, List.set_cons_succ] at E)
    | (refine mem_store_row 1 E 24 rfl _ _ rfl rfl rfl rfl (by kernel_rfl) rfl (all_wl _) ?_; clear E; intro w2 E; simp only [List.set_cons_zero, List.set_cons_succ] at E)
    | (refine mem_store_row 2 E 24 rfl _ _ rfl rfl rfl rfl (by kernel_rfl) rfl (all_wl _) ?_; clear E; intro w2 E; simp only [List.set_cons_zero, List.set_cons_succ] at E)
    | (refine mem_store_row 3 E 24 rfl _ _ rfl rfl rfl rfl (by kernel_rfl) rfl (all_wl _) ?_; clear E; intro w2 E; simp only [List.set_cons_zero, List.set_cons_succ] at E)
    | (refine mem_store_row 4 E 24 rfl _ _ rfl rfl rfl rfl (by kernel_rfl) rfl (all_wl _) ?_; clear E; intro w2 E; simp only [List.set_cons_zero, List.set_cons_succ] at E)
    | (refine mem_store_row 5 E 24 rfl _ _ rfl rfl rfl rfl (by kernel_rfl) rfl (all_wl _) ?_; clear E; intro w2 E; simp only [List.set_cons_zero, List.set_cons_succ] at E))
  go_ret2
  exact ⟨rfl, E.out.below⟩
set_option maxRecDepth 100000 in
set_option maxHeartbeats 4000000 in
theorem next_off2 (b m t : Nat) (s k : Int)
    (X1 : Hid (Gives 43 #[.int .u32 (b : Int)] (.tuple #[wide t, .int .i64 0])))
    (X2 : Hid (Gives 43 #[.int .u32 (m : Int)] (.tuple #[wide 0, .int .i64 40]))) :
    Gives 52 #[.int .u32 (b : Int), .int .u32 (m : Int), .int .i64 s, .int .i64 k] (.tuple #[.int .u32 0, .int .i64 40]) := by
  intro w
  have E := Lib.hid (Mem.nil w)
  go_enter Try.func52, Try.ntmps52
  go_wp2_with (first
    | (go_at_call 43; first | ((with_reducible refine (X1.out _).mono ?_); rintro e w1 ⟨rfl, hb⟩; replace E := Lib.hid (E.out.call hb); clear hb) | ((with_reducible refine (X2.out _).mono ?_); rintro e w1 ⟨rfl, hb⟩; replace E := Lib.hid (E.out.call hb); clear hb))
    | (with_reducible refine mem_alloc E 24 rfl rfl info24 ?_; clear E; intro b w2 E; simp only [Value.cells] at E)
    | (with_reducible refine mem_load_row E 24 (by kernel_rfl) _ rfl rfl (by first | exact List.mem_cons_self | exact (List.mem_cons_of_mem _ List.mem_cons_self) | exact (List.mem_cons_of_mem _ (List.mem_cons_of_mem _ List.mem_cons_self)) | exact (List.mem_cons_of_mem _ (List.mem_cons_of_mem _ (List.mem_cons_of_mem _ List.mem_cons_self))) | exact (List.mem_cons_of_mem _ (List.mem_cons_of_mem _ (List.mem_cons_of_mem _ (List.mem_cons_of_mem _ List.mem_cons_self)))) | exact (List.mem_cons_of_mem _ (List.mem_cons_of_mem _ (List.mem_cons_of_mem _ (List.mem_cons_of_mem _ (List.mem_cons_of_mem _ List.mem_cons_self)))))) Try.underlying24 rfl (by kernel_rfl) ?_)
    | (refine mem_store_row 0 E 24 rfl _ _ rfl rfl rfl rfl (by kernel_rfl) rfl (all_wl _) ?_; clear E; intro w2 E; simp only [List.set_cons_zero, List.set_cons_succ] at E)
    | (refine mem_store_row 1 E 24 rfl _ _ rfl rfl rfl rfl (by kernel_rfl) rfl (all_wl _) ?_; clear E; intro w2 E; simp only [List.set_cons_zero, List.set_cons_succ] at E)
    | (refine mem_store_row 2 E 24 rfl _ _ rfl rfl rfl rfl (by kernel_rfl) rfl (all_wl _) ?_; clear E; intro w2 E; simp only [List.set_cons_zero, List.set_cons_succ] at E)
    | (refine mem_store_row 3 E 24 rfl _ _ rfl rfl rfl rfl (by kernel_rfl) rfl (all_wl _) ?_; clear E; intro w2 E; simp only [List.set_cons_zero, List.set_cons_succ] at E)
    | (refine mem_store_row 4 E 24 rfl _ _ rfl rfl rfl rfl (by kernel_rfl) rfl (all_wl _) ?_; clear E; intro w2 E; simp only [List.set_cons_zero, List.set_cons_succ] at E)
    | (refine mem_store_row 5 E 24 rfl _ _ rfl rfl rfl rfl (by kernel_rfl) rfl (all_wl _) ?_; clear E; intro w2 E; simp only [List.set_cons_zero, List.set_cons_succ] at E))
  go_ret2
  exact ⟨rfl, E.out.below⟩
set_option maxRecDepth 100000 in
set_option maxHeartbeats 4000000 in
theorem next_low (b m t l : Nat) (s k : Int) (g : decide (k < 4) = true)
    (X1 : Hid (Gives 43 #[.int .u32 (b : Int)] (.tuple #[wide t, .int .i64 0])))
    (X2 : Hid (Gives 43 #[.int .u32 (m : Int)] (.tuple #[wide l, .int .i64 0]))) :
    Gives 52 #[.int .u32 (b : Int), .int .u32 (m : Int), .int .i64 s, .int .i64 k] (.tuple #[.int .u32 0, .int .i64 1]) := by
  intro w
  have E := Lib.hid (Mem.nil w)
  go_enter Try.func52, Try.ntmps52
  go_wp2_with (first
    | (go_at_call 43; first | ((with_reducible refine (X1.out _).mono ?_); rintro e w1 ⟨rfl, hb⟩; replace E := Lib.hid (E.out.call hb); clear hb) | ((with_reducible refine (X2.out _).mono ?_); rintro e w1 ⟨rfl, hb⟩; replace E := Lib.hid (E.out.call hb); clear hb))
    | (with_reducible refine mem_alloc E 24 rfl rfl info24 ?_; clear E; intro b w2 E; simp only [Value.cells] at E)
    | (with_reducible refine mem_load_row E 24 (by kernel_rfl) _ rfl rfl (by first | exact List.mem_cons_self | exact (List.mem_cons_of_mem _ List.mem_cons_self) | exact (List.mem_cons_of_mem _ (List.mem_cons_of_mem _ List.mem_cons_self)) | exact (List.mem_cons_of_mem _ (List.mem_cons_of_mem _ (List.mem_cons_of_mem _ List.mem_cons_self))) | exact (List.mem_cons_of_mem _ (List.mem_cons_of_mem _ (List.mem_cons_of_mem _ (List.mem_cons_of_mem _ List.mem_cons_self)))) | exact (List.mem_cons_of_mem _ (List.mem_cons_of_mem _ (List.mem_cons_of_mem _ (List.mem_cons_of_mem _ (List.mem_cons_of_mem _ List.mem_cons_self)))))) Try.underlying24 rfl (by kernel_rfl) ?_)
    | (refine mem_store_row 0 E 24 rfl _ _ rfl rfl rfl rfl (by kernel_rfl) rfl (all_wl _) ?_; clear E; intro w2 E; simp only [List.set_cons_zero, List.set_cons_succ] at E)
    | (refine mem_store_row 1 E 24 rfl _ _ rfl rfl rfl rfl (by kernel_rfl) rfl (all_wl _) ?_; clear E; intro w2 E; simp only [List.set_cons_zero, List.set_cons_succ] at E)
    | (refine mem_store_row 2 E 24 rfl _ _ rfl rfl rfl rfl (by kernel_rfl) rfl (all_wl _) ?_; clear E; intro w2 E; simp only [List.set_cons_zero, List.set_cons_succ] at E)
    | (refine mem_store_row 3 E 24 rfl _ _ rfl rfl rfl rfl (by kernel_rfl) rfl (all_wl _) ?_; clear E; intro w2 E; simp only [List.set_cons_zero, List.set_cons_succ] at E)
    | (refine mem_store_row 4 E 24 rfl _ _ rfl rfl rfl rfl (by kernel_rfl) rfl (all_wl _) ?_; clear E; intro w2 E; simp only [List.set_cons_zero, List.set_cons_succ] at E)
    | (refine mem_store_row 5 E 24 rfl _ _ rfl rfl rfl rfl (by kernel_rfl) rfl (all_wl _) ?_; clear E; intro w2 E; simp only [List.set_cons_zero, List.set_cons_succ] at E))
  go_ret2
  exact ⟨rfl, E.out.below⟩
set_option maxRecDepth 100000 in
set_option maxHeartbeats 4000000 in
theorem next_high (b m t l : Nat) (s k : Int) (g : decide (k < 4) = false) (g2 : decide (1073741824 < k) = true)
    (X1 : Hid (Gives 43 #[.int .u32 (b : Int)] (.tuple #[wide t, .int .i64 0])))
    (X2 : Hid (Gives 43 #[.int .u32 (m : Int)] (.tuple #[wide l, .int .i64 0]))) :
    Gives 52 #[.int .u32 (b : Int), .int .u32 (m : Int), .int .i64 s, .int .i64 k] (.tuple #[.int .u32 0, .int .i64 1]) := by
  intro w
  have E := Lib.hid (Mem.nil w)
  go_enter Try.func52, Try.ntmps52
  go_wp2_with (first
    | (go_at_call 43; first | ((with_reducible refine (X1.out _).mono ?_); rintro e w1 ⟨rfl, hb⟩; replace E := Lib.hid (E.out.call hb); clear hb) | ((with_reducible refine (X2.out _).mono ?_); rintro e w1 ⟨rfl, hb⟩; replace E := Lib.hid (E.out.call hb); clear hb))
    | (with_reducible refine mem_alloc E 24 rfl rfl info24 ?_; clear E; intro b w2 E; simp only [Value.cells] at E)
    | (with_reducible refine mem_load_row E 24 (by kernel_rfl) _ rfl rfl (by first | exact List.mem_cons_self | exact (List.mem_cons_of_mem _ List.mem_cons_self) | exact (List.mem_cons_of_mem _ (List.mem_cons_of_mem _ List.mem_cons_self)) | exact (List.mem_cons_of_mem _ (List.mem_cons_of_mem _ (List.mem_cons_of_mem _ List.mem_cons_self))) | exact (List.mem_cons_of_mem _ (List.mem_cons_of_mem _ (List.mem_cons_of_mem _ (List.mem_cons_of_mem _ List.mem_cons_self)))) | exact (List.mem_cons_of_mem _ (List.mem_cons_of_mem _ (List.mem_cons_of_mem _ (List.mem_cons_of_mem _ (List.mem_cons_of_mem _ List.mem_cons_self)))))) Try.underlying24 rfl (by kernel_rfl) ?_)
    | (refine mem_store_row 0 E 24 rfl _ _ rfl rfl rfl rfl (by kernel_rfl) rfl (all_wl _) ?_; clear E; intro w2 E; simp only [List.set_cons_zero, List.set_cons_succ] at E)
    | (refine mem_store_row 1 E 24 rfl _ _ rfl rfl rfl rfl (by kernel_rfl) rfl (all_wl _) ?_; clear E; intro w2 E; simp only [List.set_cons_zero, List.set_cons_succ] at E)
    | (refine mem_store_row 2 E 24 rfl _ _ rfl rfl rfl rfl (by kernel_rfl) rfl (all_wl _) ?_; clear E; intro w2 E; simp only [List.set_cons_zero, List.set_cons_succ] at E)
    | (refine mem_store_row 3 E 24 rfl _ _ rfl rfl rfl rfl (by kernel_rfl) rfl (all_wl _) ?_; clear E; intro w2 E; simp only [List.set_cons_zero, List.set_cons_succ] at E)
    | (refine mem_store_row 4 E 24 rfl _ _ rfl rfl rfl rfl (by kernel_rfl) rfl (all_wl _) ?_; clear E; intro w2 E; simp only [List.set_cons_zero, List.set_cons_succ] at E)
    | (refine mem_store_row 5 E 24 rfl _ _ rfl rfl rfl rfl (by kernel_rfl) rfl (all_wl _) ?_; clear E; intro w2 E; simp only [List.set_cons_zero, List.set_cons_succ] at E))
  go_ret2
  exact ⟨rfl, E.out.below⟩
set_option maxRecDepth 100000 in
set_option maxHeartbeats 4000000 in
theorem next_on (b m t l u q z c : Nat) (s k : Int) (hk : 4 ≤ k) (hk2 : k ≤ 1073741824)
    (X1 : Hid (Gives 43 #[.int .u32 (b : Int)] (.tuple #[wide t, .int .i64 0])))
    (X2 : Hid (Gives 43 #[.int .u32 (m : Int)] (.tuple #[wide l, .int .i64 0])))
    (SP : Hid (Gives 63 #[.int .i64 s, .int .i64 k] (.int .u64 (u : Int))))
    (SC : Hid (Gives 62 #[wide t, .int .u64 (u : Int), .int .u64 k] (wide q)))
    (WI : Hid (Gives 64 #[wide q, wide 1, wide l] (wide z)))
    (CP : Hid (Gives 47 #[wide z] (.int .u32 (c : Int)))) :
    Gives 52 #[.int .u32 (b : Int), .int .u32 (m : Int), .int .i64 s, .int .i64 k] (.tuple #[.int .u32 (c : Int), .int .i64 0]) := by
  intro w
  have g : decide (k < 4) = false := decide_eq_false (by omega)
  have g2 : decide (1073741824 < k) = false := decide_eq_false (by omega)
  have E := Lib.hid (Mem.nil w)
  go_enter Try.func52, Try.ntmps52
  go_upto_region 9 with (first
    | (go_at_call 43; first | ((with_reducible refine (X1.out _).mono ?_); rintro e w1 ⟨rfl, hb⟩; replace E := Lib.hid (E.out.call hb); clear hb) | ((with_reducible refine (X2.out _).mono ?_); rintro e w1 ⟨rfl, hb⟩; replace E := Lib.hid (E.out.call hb); clear hb))
    | (with_reducible refine mem_alloc E 24 rfl rfl info24 ?_; clear E; intro b w2 E; simp only [Value.cells] at E)
    | (with_reducible refine mem_load_row E 24 (by kernel_rfl) _ rfl rfl (by first | exact List.mem_cons_self | exact (List.mem_cons_of_mem _ List.mem_cons_self) | exact (List.mem_cons_of_mem _ (List.mem_cons_of_mem _ List.mem_cons_self)) | exact (List.mem_cons_of_mem _ (List.mem_cons_of_mem _ (List.mem_cons_of_mem _ List.mem_cons_self))) | exact (List.mem_cons_of_mem _ (List.mem_cons_of_mem _ (List.mem_cons_of_mem _ (List.mem_cons_of_mem _ List.mem_cons_self)))) | exact (List.mem_cons_of_mem _ (List.mem_cons_of_mem _ (List.mem_cons_of_mem _ (List.mem_cons_of_mem _ (List.mem_cons_of_mem _ List.mem_cons_self)))))) Try.underlying24 rfl (by kernel_rfl) ?_)
    | (refine mem_store_row 0 E 24 rfl _ _ rfl rfl rfl rfl (by kernel_rfl) rfl (all_wl _) ?_; clear E; intro w2 E; simp only [List.set_cons_zero, List.set_cons_succ] at E)
    | (refine mem_store_row 1 E 24 rfl _ _ rfl rfl rfl rfl (by kernel_rfl) rfl (all_wl _) ?_; clear E; intro w2 E; simp only [List.set_cons_zero, List.set_cons_succ] at E)
    | (refine mem_store_row 2 E 24 rfl _ _ rfl rfl rfl rfl (by kernel_rfl) rfl (all_wl _) ?_; clear E; intro w2 E; simp only [List.set_cons_zero, List.set_cons_succ] at E)
    | (refine mem_store_row 3 E 24 rfl _ _ rfl rfl rfl rfl (by kernel_rfl) rfl (all_wl _) ?_; clear E; intro w2 E; simp only [List.set_cons_zero, List.set_cons_succ] at E)
    | (refine mem_store_row 4 E 24 rfl _ _ rfl rfl rfl rfl (by kernel_rfl) rfl (all_wl _) ?_; clear E; intro w2 E; simp only [List.set_cons_zero, List.set_cons_succ] at E)
    | (refine mem_store_row 5 E 24 rfl _ _ rfl rfl rfl rfl (by kernel_rfl) rfl (all_wl _) ?_; clear E; intro w2 E; simp only [List.set_cons_zero, List.set_cons_succ] at E))
  try simp only [Act.put]
  refine wp_region_mem E (by kernel_rfl) ?_
  clear E
  intro wx E0
  refine hm_load_row 0 36 24 (.tmp 10) rfl rfl (by kernel_rfl) (by kernel_rfl) (by kernel_rfl) (fun _ _ _ h => h) rfl rfl rfl (fun W hW => hW.get (by first | exact List.mem_cons_self | exact (List.mem_cons_of_mem _ List.mem_cons_self) | exact (List.mem_cons_of_mem _ (List.mem_cons_of_mem _ List.mem_cons_self)) | exact (List.mem_cons_of_mem _ (List.mem_cons_of_mem _ (List.mem_cons_of_mem _ List.mem_cons_self))) | exact (List.mem_cons_of_mem _ (List.mem_cons_of_mem _ (List.mem_cons_of_mem _ (List.mem_cons_of_mem _ List.mem_cons_self)))) | exact (List.mem_cons_of_mem _ (List.mem_cons_of_mem _ (List.mem_cons_of_mem _ (List.mem_cons_of_mem _ (List.mem_cons_of_mem _ List.mem_cons_self))))))) Try.underlying24 rfl (by kernel_rfl) (E0.out) ?_
  try simp only [Act.put, List.setIfInBounds_toArray, List.set_cons_zero, List.set_cons_succ]
  refine hm_pure 1 37 _ rfl rfl (by kernel_rfl) (by kernel_rfl) (by kernel_rfl) (fun _ _ _ h => h) rfl (fun _ => rfl) (E0.out) ?_
  try simp only [Act.put, List.setIfInBounds_toArray, List.set_cons_zero, List.set_cons_succ]
  refine hm_pure 2 38 _ rfl rfl (by kernel_rfl) (by kernel_rfl) (by kernel_rfl) (fun _ _ _ h => h) rfl (fun _ => rfl) (E0.out) ?_
  try simp only [Act.put, List.setIfInBounds_toArray, List.set_cons_zero, List.set_cons_succ]
  refine hm_pure 4 40 _ rfl rfl (by kernel_rfl) (by kernel_rfl) (by kernel_rfl) (fun _ _ _ h => h) rfl (fun _ => rfl) (E0.out) ?_
  try simp only [Act.put, List.setIfInBounds_toArray, List.set_cons_zero, List.set_cons_succ]
  refine hm_pure 5 41 (.int .u64 k) rfl rfl (by kernel_rfl) (by kernel_rfl) (by kernel_rfl) (fun _ _ _ h => h) rfl (fun _ => by go_simp; rw [IntKind.wrap_u64]; exact Int.emod_eq_of_lt (by omega) (by omega)) (E0.out) ?_
  try simp only [Act.put, List.setIfInBounds_toArray, List.set_cons_zero, List.set_cons_succ]
  refine hm_two (i := 3) (j := 7) (by kernel_rfl) ?_ ?_
  · refine hm_step 3 rfl (by kernel_rfl) fun K hK => ?_
    go_simp
    go_at_call 63
    refine (SP.out _).mono ?_
    rintro e wn ⟨rfl, hb⟩
    have E1 := Lib.hid (E0.out.call hb)
    clear hb
    refine hK _ _ (E1.out) ?_
    clear hK K
    try simp only [Act.put, List.setIfInBounds_toArray, List.set_cons_zero, List.set_cons_succ]
    refine hm_two (i := 6) (j := 7) (by kernel_rfl) ?_ ?_
    · refine hm_step 6 rfl (by kernel_rfl) fun K hK => ?_
      go_simp
      go_at_call 62
      refine (SC.out _).mono ?_
      rintro e wn ⟨rfl, hb⟩
      have E2 := Lib.hid (E1.out.call hb)
      clear hb
      refine hK _ _ (E2.out) ?_
      clear hK K
      try simp only [Act.put, List.setIfInBounds_toArray, List.set_cons_zero, List.set_cons_succ]
      refine hm_one (i := 7) (by kernel_rfl) ?_
      refine hm_step 7 rfl (by kernel_rfl) fun K hK => ?_
      refine mo_alloc E2 24 rfl info24 ?_
      intro bn wn E3
      simp only [Value.cells] at E3
      refine hK _ _ (E3.out.tail) ?_
      clear hK K
      try simp only [Act.put, List.setIfInBounds_toArray, List.set_cons_zero, List.set_cons_succ]
      refine hm_one (i := 8) (by kernel_rfl) ?_
      refine hm_step 8 rfl (by kernel_rfl) fun K hK => ?_
      refine mo_store_row 0 E3 24 (.tmp 13) (.tmp 42) rfl rfl rfl rfl (by kernel_rfl) rfl (all_wl _) ?_
      intro wn E4
      simp only [List.set_cons_zero, List.set_cons_succ] at E4
      refine hK _ _ (E4.out.tail) ?_
      clear hK K
      try simp only [Act.put, List.setIfInBounds_toArray, List.set_cons_zero, List.set_cons_succ]
      refine wpAnyH_done (by kernel_rfl) ?_ _
      have E := E4
      go_wp2_with (first
            | (go_at_call 64; refine (WI.out _).mono ?_; rintro e w1 ⟨rfl, hb⟩; replace E := Lib.hid (E.out.call hb); clear hb)
            | (go_at_call 47; refine (CP.out _).mono ?_; rintro e w1 ⟨rfl, hb⟩; replace E := Lib.hid (E.out.call hb); clear hb)
            | (with_reducible refine env_build 1 #[(0, .const (.int .u64 1))] #[(0, .int .u64 1)] built_1 (by kernel_rfl) rfl (by kernel_rfl) ?_)
            | (with_reducible refine mem_alloc E 24 rfl rfl info24 ?_; clear E; intro b w2 E; simp only [Value.cells] at E)
            | (with_reducible refine mem_load_row E 24 (by kernel_rfl) _ rfl rfl (by first | exact List.mem_cons_self | exact (List.mem_cons_of_mem _ List.mem_cons_self) | exact (List.mem_cons_of_mem _ (List.mem_cons_of_mem _ List.mem_cons_self)) | exact (List.mem_cons_of_mem _ (List.mem_cons_of_mem _ (List.mem_cons_of_mem _ List.mem_cons_self))) | exact (List.mem_cons_of_mem _ (List.mem_cons_of_mem _ (List.mem_cons_of_mem _ (List.mem_cons_of_mem _ List.mem_cons_self)))) | exact (List.mem_cons_of_mem _ (List.mem_cons_of_mem _ (List.mem_cons_of_mem _ (List.mem_cons_of_mem _ (List.mem_cons_of_mem _ List.mem_cons_self)))))) Try.underlying24 rfl (by kernel_rfl) ?_)
            | (refine mem_store_row 0 E 24 rfl _ _ rfl rfl rfl rfl (by kernel_rfl) rfl (all_wl _) ?_; clear E; intro w2 E; simp only [List.set_cons_zero, List.set_cons_succ] at E)
            | (refine mem_store_row 1 E 24 rfl _ _ rfl rfl rfl rfl (by kernel_rfl) rfl (all_wl _) ?_; clear E; intro w2 E; simp only [List.set_cons_zero, List.set_cons_succ] at E)
            | (refine mem_store_row 2 E 24 rfl _ _ rfl rfl rfl rfl (by kernel_rfl) rfl (all_wl _) ?_; clear E; intro w2 E; simp only [List.set_cons_zero, List.set_cons_succ] at E)
            | (refine mem_store_row 3 E 24 rfl _ _ rfl rfl rfl rfl (by kernel_rfl) rfl (all_wl _) ?_; clear E; intro w2 E; simp only [List.set_cons_zero, List.set_cons_succ] at E)
            | (refine mem_store_row 4 E 24 rfl _ _ rfl rfl rfl rfl (by kernel_rfl) rfl (all_wl _) ?_; clear E; intro w2 E; simp only [List.set_cons_zero, List.set_cons_succ] at E)
            | (refine mem_store_row 5 E 24 rfl _ _ rfl rfl rfl rfl (by kernel_rfl) rfl (all_wl _) ?_; clear E; intro w2 E; simp only [List.set_cons_zero, List.set_cons_succ] at E))
      go_ret2
      exact ⟨rfl, E.out.below⟩
    · refine hm_step 7 rfl (by kernel_rfl) fun K hK => ?_
      refine mo_alloc E1 24 rfl info24 ?_
      intro bn wn E5
      simp only [Value.cells] at E5
      refine hK _ _ (E5.out.tail) ?_
      clear hK K
      try simp only [Act.put, List.setIfInBounds_toArray, List.set_cons_zero, List.set_cons_succ]
      refine hm_one (i := 6) (by kernel_rfl) ?_
      refine hm_step 6 rfl (by kernel_rfl) fun K hK => ?_
      go_simp
      go_at_call 62
      refine (SC.out _).mono ?_
      rintro e wn ⟨rfl, hb⟩
      have E6 := Lib.hid (E5.out.call hb)
      clear hb
      refine hK _ _ (E6.out.tail) ?_
      clear hK K
      try simp only [Act.put, List.setIfInBounds_toArray, List.set_cons_zero, List.set_cons_succ]
      refine hm_one (i := 8) (by kernel_rfl) ?_
      refine hm_step 8 rfl (by kernel_rfl) fun K hK => ?_
      refine mo_store_row 0 E6 24 (.tmp 13) (.tmp 42) rfl rfl rfl rfl (by kernel_rfl) rfl (all_wl _) ?_
      intro wn E7
      simp only [List.set_cons_zero, List.set_cons_succ] at E7
      refine hK _ _ (E7.out.tail) ?_
      clear hK K
      try simp only [Act.put, List.setIfInBounds_toArray, List.set_cons_zero, List.set_cons_succ]
      refine wpAnyH_done (by kernel_rfl) ?_ _
      have E := E7
      go_wp2_with (first
            | (go_at_call 64; refine (WI.out _).mono ?_; rintro e w1 ⟨rfl, hb⟩; replace E := Lib.hid (E.out.call hb); clear hb)
            | (go_at_call 47; refine (CP.out _).mono ?_; rintro e w1 ⟨rfl, hb⟩; replace E := Lib.hid (E.out.call hb); clear hb)
            | (with_reducible refine env_build 1 #[(0, .const (.int .u64 1))] #[(0, .int .u64 1)] built_1 (by kernel_rfl) rfl (by kernel_rfl) ?_)
            | (with_reducible refine mem_alloc E 24 rfl rfl info24 ?_; clear E; intro b w2 E; simp only [Value.cells] at E)
            | (with_reducible refine mem_load_row E 24 (by kernel_rfl) _ rfl rfl (by first | exact List.mem_cons_self | exact (List.mem_cons_of_mem _ List.mem_cons_self) | exact (List.mem_cons_of_mem _ (List.mem_cons_of_mem _ List.mem_cons_self)) | exact (List.mem_cons_of_mem _ (List.mem_cons_of_mem _ (List.mem_cons_of_mem _ List.mem_cons_self))) | exact (List.mem_cons_of_mem _ (List.mem_cons_of_mem _ (List.mem_cons_of_mem _ (List.mem_cons_of_mem _ List.mem_cons_self)))) | exact (List.mem_cons_of_mem _ (List.mem_cons_of_mem _ (List.mem_cons_of_mem _ (List.mem_cons_of_mem _ (List.mem_cons_of_mem _ List.mem_cons_self)))))) Try.underlying24 rfl (by kernel_rfl) ?_)
            | (refine mem_store_row 0 E 24 rfl _ _ rfl rfl rfl rfl (by kernel_rfl) rfl (all_wl _) ?_; clear E; intro w2 E; simp only [List.set_cons_zero, List.set_cons_succ] at E)
            | (refine mem_store_row 1 E 24 rfl _ _ rfl rfl rfl rfl (by kernel_rfl) rfl (all_wl _) ?_; clear E; intro w2 E; simp only [List.set_cons_zero, List.set_cons_succ] at E)
            | (refine mem_store_row 2 E 24 rfl _ _ rfl rfl rfl rfl (by kernel_rfl) rfl (all_wl _) ?_; clear E; intro w2 E; simp only [List.set_cons_zero, List.set_cons_succ] at E)
            | (refine mem_store_row 3 E 24 rfl _ _ rfl rfl rfl rfl (by kernel_rfl) rfl (all_wl _) ?_; clear E; intro w2 E; simp only [List.set_cons_zero, List.set_cons_succ] at E)
            | (refine mem_store_row 4 E 24 rfl _ _ rfl rfl rfl rfl (by kernel_rfl) rfl (all_wl _) ?_; clear E; intro w2 E; simp only [List.set_cons_zero, List.set_cons_succ] at E)
            | (refine mem_store_row 5 E 24 rfl _ _ rfl rfl rfl rfl (by kernel_rfl) rfl (all_wl _) ?_; clear E; intro w2 E; simp only [List.set_cons_zero, List.set_cons_succ] at E))
      go_ret2
      exact ⟨rfl, E.out.below⟩
  · refine hm_step 7 rfl (by kernel_rfl) fun K hK => ?_
    refine mo_alloc E0 24 rfl info24 ?_
    intro bn wn E8
    simp only [Value.cells] at E8
    refine hK _ _ (E8.out.tail) ?_
    clear hK K
    try simp only [Act.put, List.setIfInBounds_toArray, List.set_cons_zero, List.set_cons_succ]
    refine hm_one (i := 3) (by kernel_rfl) ?_
    refine hm_step 3 rfl (by kernel_rfl) fun K hK => ?_
    go_simp
    go_at_call 63
    refine (SP.out _).mono ?_
    rintro e wn ⟨rfl, hb⟩
    have E9 := Lib.hid (E8.out.call hb)
    clear hb
    refine hK _ _ (E9.out.tail) ?_
    clear hK K
    try simp only [Act.put, List.setIfInBounds_toArray, List.set_cons_zero, List.set_cons_succ]
    refine hm_one (i := 6) (by kernel_rfl) ?_
    refine hm_step 6 rfl (by kernel_rfl) fun K hK => ?_
    go_simp
    go_at_call 62
    refine (SC.out _).mono ?_
    rintro e wn ⟨rfl, hb⟩
    have E10 := Lib.hid (E9.out.call hb)
    clear hb
    refine hK _ _ (E10.out.tail) ?_
    clear hK K
    try simp only [Act.put, List.setIfInBounds_toArray, List.set_cons_zero, List.set_cons_succ]
    refine hm_one (i := 8) (by kernel_rfl) ?_
    refine hm_step 8 rfl (by kernel_rfl) fun K hK => ?_
    refine mo_store_row 0 E10 24 (.tmp 13) (.tmp 42) rfl rfl rfl rfl (by kernel_rfl) rfl (all_wl _) ?_
    intro wn E11
    simp only [List.set_cons_zero, List.set_cons_succ] at E11
    refine hK _ _ (E11.out.tail) ?_
    clear hK K
    try simp only [Act.put, List.setIfInBounds_toArray, List.set_cons_zero, List.set_cons_succ]
    refine wpAnyH_done (by kernel_rfl) ?_ _
    have E := E11
    go_wp2_with (first
            | (go_at_call 64; refine (WI.out _).mono ?_; rintro e w1 ⟨rfl, hb⟩; replace E := Lib.hid (E.out.call hb); clear hb)
            | (go_at_call 47; refine (CP.out _).mono ?_; rintro e w1 ⟨rfl, hb⟩; replace E := Lib.hid (E.out.call hb); clear hb)
            | (with_reducible refine env_build 1 #[(0, .const (.int .u64 1))] #[(0, .int .u64 1)] built_1 (by kernel_rfl) rfl (by kernel_rfl) ?_)
            | (with_reducible refine mem_alloc E 24 rfl rfl info24 ?_; clear E; intro b w2 E; simp only [Value.cells] at E)
            | (with_reducible refine mem_load_row E 24 (by kernel_rfl) _ rfl rfl (by first | exact List.mem_cons_self | exact (List.mem_cons_of_mem _ List.mem_cons_self) | exact (List.mem_cons_of_mem _ (List.mem_cons_of_mem _ List.mem_cons_self)) | exact (List.mem_cons_of_mem _ (List.mem_cons_of_mem _ (List.mem_cons_of_mem _ List.mem_cons_self))) | exact (List.mem_cons_of_mem _ (List.mem_cons_of_mem _ (List.mem_cons_of_mem _ (List.mem_cons_of_mem _ List.mem_cons_self)))) | exact (List.mem_cons_of_mem _ (List.mem_cons_of_mem _ (List.mem_cons_of_mem _ (List.mem_cons_of_mem _ (List.mem_cons_of_mem _ List.mem_cons_self)))))) Try.underlying24 rfl (by kernel_rfl) ?_)
            | (refine mem_store_row 0 E 24 rfl _ _ rfl rfl rfl rfl (by kernel_rfl) rfl (all_wl _) ?_; clear E; intro w2 E; simp only [List.set_cons_zero, List.set_cons_succ] at E)
            | (refine mem_store_row 1 E 24 rfl _ _ rfl rfl rfl rfl (by kernel_rfl) rfl (all_wl _) ?_; clear E; intro w2 E; simp only [List.set_cons_zero, List.set_cons_succ] at E)
            | (refine mem_store_row 2 E 24 rfl _ _ rfl rfl rfl rfl (by kernel_rfl) rfl (all_wl _) ?_; clear E; intro w2 E; simp only [List.set_cons_zero, List.set_cons_succ] at E)
            | (refine mem_store_row 3 E 24 rfl _ _ rfl rfl rfl rfl (by kernel_rfl) rfl (all_wl _) ?_; clear E; intro w2 E; simp only [List.set_cons_zero, List.set_cons_succ] at E)
            | (refine mem_store_row 4 E 24 rfl _ _ rfl rfl rfl rfl (by kernel_rfl) rfl (all_wl _) ?_; clear E; intro w2 E; simp only [List.set_cons_zero, List.set_cons_succ] at E)
            | (refine mem_store_row 5 E 24 rfl _ _ rfl rfl rfl rfl (by kernel_rfl) rfl (all_wl _) ?_; clear E; intro w2 E; simp only [List.set_cons_zero, List.set_cons_succ] at E))
    go_ret2
    exact ⟨rfl, E.out.below⟩
end Go.Proofs.Ytboffheklkhnkaa
