/- For all bits and all others: a harder target has no less work, and work is never nought; where one of them is no target the document says so too; the call returns true; no condition. -/
import Derived.Test.YtboffheklkhnkaaTgtAll
import Derived.Test.YtboffheklkhnkaaOpen
import Derived.Below
set_option linter.unusedSimpArgs false
namespace Go.Proofs.Ytboffheklkhnkaa.targetWorks
open Go.RowKit Go.Lib Go.Sort Go.ChangeShapes Go.WideShapes Go.ChangeAt
set_option linter.unusedVariables false
attribute [local go_sem ↓] Go.wp_at_zero Go.wp_at_succ

theorem own : ownKnob Try.prog.godebug = none := by kernel_rfl

set_option maxRecDepth 100000 in
set_option maxHeartbeats 8000000 in
theorem walk_off1 (a b t u : Nat) (f : Int)
    (X : Hid (Gives 43 #[.int .u32 (a : Int)] (.tuple #[wide t, .int .i64 40])))
    (Y : Hid (Gives 43 #[.int .u32 (b : Int)] (.tuple #[wide u, .int .i64 f])))
    (X2 : Hid (Gives 44 #[.int .u32 (a : Int)] (.tuple #[wide t, .int .i64 40])))
    (Y2 : Hid (Gives 44 #[.int .u32 (b : Int)] (.tuple #[wide u, .int .i64 f])))
    (AW : Hid (Gives 49 #[] (.bool true))) :
    Gives 18 #[.int .u32 (a : Int), .int .u32 (b : Int)] (.bool true) := by
  intro w
  have E := Lib.hid (Mem.nil w)
  go_enter Try.func18, Try.ntmps18
  go_wp2_with (first
    | (go_at_call 43; first | ((with_reducible refine (X.out _).mono ?_); rintro e w1 ⟨rfl, hb⟩; replace E := Lib.hid (E.out.call hb); clear hb) | ((with_reducible refine (Y.out _).mono ?_); rintro e w1 ⟨rfl, hb⟩; replace E := Lib.hid (E.out.call hb); clear hb))
    | (go_at_call 44; first | ((with_reducible refine (X2.out _).mono ?_); rintro e w1 ⟨rfl, hb⟩; replace E := Lib.hid (E.out.call hb); clear hb) | ((with_reducible refine (Y2.out _).mono ?_); rintro e w1 ⟨rfl, hb⟩; replace E := Lib.hid (E.out.call hb); clear hb))
    | (go_at_call 49; refine (AW.out _).mono ?_; rintro e w1 ⟨rfl, hb⟩; replace E := Lib.hid (E.out.call hb); clear hb)
    | (with_reducible refine mem_alloc E 24 rfl rfl info24 ?_; clear E; intro b w2 E; simp only [Value.cells] at E)
    | (with_reducible refine mem_load_row E 24 (by kernel_rfl) _ rfl rfl (by first | exact List.mem_cons_self | exact (List.mem_cons_of_mem _ List.mem_cons_self) | exact (List.mem_cons_of_mem _ (List.mem_cons_of_mem _ List.mem_cons_self)) | exact (List.mem_cons_of_mem _ (List.mem_cons_of_mem _ (List.mem_cons_of_mem _ List.mem_cons_self))) | exact (List.mem_cons_of_mem _ (List.mem_cons_of_mem _ (List.mem_cons_of_mem _ (List.mem_cons_of_mem _ List.mem_cons_self)))) | exact (List.mem_cons_of_mem _ (List.mem_cons_of_mem _ (List.mem_cons_of_mem _ (List.mem_cons_of_mem _ (List.mem_cons_of_mem _ List.mem_cons_self))))) | exact (List.mem_cons_of_mem _ (List.mem_cons_of_mem _ (List.mem_cons_of_mem _ (List.mem_cons_of_mem _ (List.mem_cons_of_mem _ (List.mem_cons_of_mem _ List.mem_cons_self)))))) | exact (List.mem_cons_of_mem _ (List.mem_cons_of_mem _ (List.mem_cons_of_mem _ (List.mem_cons_of_mem _ (List.mem_cons_of_mem _ (List.mem_cons_of_mem _ (List.mem_cons_of_mem _ List.mem_cons_self)))))))) Try.underlying24 rfl (by kernel_rfl) ?_)
    | (refine mem_store_row 0 E 24 rfl _ _ rfl rfl rfl rfl (by kernel_rfl) rfl (all_wl _) ?_; clear E; intro w2 E; simp only [List.set_cons_zero, List.set_cons_succ] at E)
    | (refine mem_store_row 1 E 24 rfl _ _ rfl rfl rfl rfl (by kernel_rfl) rfl (all_wl _) ?_; clear E; intro w2 E; simp only [List.set_cons_zero, List.set_cons_succ] at E)
    | (refine mem_store_row 2 E 24 rfl _ _ rfl rfl rfl rfl (by kernel_rfl) rfl (all_wl _) ?_; clear E; intro w2 E; simp only [List.set_cons_zero, List.set_cons_succ] at E)
    | (refine mem_store_row 3 E 24 rfl _ _ rfl rfl rfl rfl (by kernel_rfl) rfl (all_wl _) ?_; clear E; intro w2 E; simp only [List.set_cons_zero, List.set_cons_succ] at E)
    | (refine mem_store_row 4 E 24 rfl _ _ rfl rfl rfl rfl (by kernel_rfl) rfl (all_wl _) ?_; clear E; intro w2 E; simp only [List.set_cons_zero, List.set_cons_succ] at E)
    | (refine mem_store_row 5 E 24 rfl _ _ rfl rfl rfl rfl (by kernel_rfl) rfl (all_wl _) ?_; clear E; intro w2 E; simp only [List.set_cons_zero, List.set_cons_succ] at E))
  go_ret
  exact ⟨rfl, E.out.below⟩
set_option maxRecDepth 100000 in
set_option maxHeartbeats 8000000 in
theorem walk_off2 (a b t u : Nat)
    (X : Hid (Gives 43 #[.int .u32 (a : Int)] (.tuple #[wide t, .int .i64 0])))
    (Y : Hid (Gives 43 #[.int .u32 (b : Int)] (.tuple #[wide u, .int .i64 40])))
    (X2 : Hid (Gives 44 #[.int .u32 (a : Int)] (.tuple #[wide t, .int .i64 0])))
    (Y2 : Hid (Gives 44 #[.int .u32 (b : Int)] (.tuple #[wide u, .int .i64 40])))
    (AW : Hid (Gives 49 #[] (.bool true))) :
    Gives 18 #[.int .u32 (a : Int), .int .u32 (b : Int)] (.bool true) := by
  intro w
  have E := Lib.hid (Mem.nil w)
  go_enter Try.func18, Try.ntmps18
  go_wp2_with (first
    | (go_at_call 43; first | ((with_reducible refine (X.out _).mono ?_); rintro e w1 ⟨rfl, hb⟩; replace E := Lib.hid (E.out.call hb); clear hb) | ((with_reducible refine (Y.out _).mono ?_); rintro e w1 ⟨rfl, hb⟩; replace E := Lib.hid (E.out.call hb); clear hb))
    | (go_at_call 44; first | ((with_reducible refine (X2.out _).mono ?_); rintro e w1 ⟨rfl, hb⟩; replace E := Lib.hid (E.out.call hb); clear hb) | ((with_reducible refine (Y2.out _).mono ?_); rintro e w1 ⟨rfl, hb⟩; replace E := Lib.hid (E.out.call hb); clear hb))
    | (go_at_call 49; refine (AW.out _).mono ?_; rintro e w1 ⟨rfl, hb⟩; replace E := Lib.hid (E.out.call hb); clear hb)
    | (with_reducible refine mem_alloc E 24 rfl rfl info24 ?_; clear E; intro b w2 E; simp only [Value.cells] at E)
    | (with_reducible refine mem_load_row E 24 (by kernel_rfl) _ rfl rfl (by first | exact List.mem_cons_self | exact (List.mem_cons_of_mem _ List.mem_cons_self) | exact (List.mem_cons_of_mem _ (List.mem_cons_of_mem _ List.mem_cons_self)) | exact (List.mem_cons_of_mem _ (List.mem_cons_of_mem _ (List.mem_cons_of_mem _ List.mem_cons_self))) | exact (List.mem_cons_of_mem _ (List.mem_cons_of_mem _ (List.mem_cons_of_mem _ (List.mem_cons_of_mem _ List.mem_cons_self)))) | exact (List.mem_cons_of_mem _ (List.mem_cons_of_mem _ (List.mem_cons_of_mem _ (List.mem_cons_of_mem _ (List.mem_cons_of_mem _ List.mem_cons_self))))) | exact (List.mem_cons_of_mem _ (List.mem_cons_of_mem _ (List.mem_cons_of_mem _ (List.mem_cons_of_mem _ (List.mem_cons_of_mem _ (List.mem_cons_of_mem _ List.mem_cons_self)))))) | exact (List.mem_cons_of_mem _ (List.mem_cons_of_mem _ (List.mem_cons_of_mem _ (List.mem_cons_of_mem _ (List.mem_cons_of_mem _ (List.mem_cons_of_mem _ (List.mem_cons_of_mem _ List.mem_cons_self)))))))) Try.underlying24 rfl (by kernel_rfl) ?_)
    | (refine mem_store_row 0 E 24 rfl _ _ rfl rfl rfl rfl (by kernel_rfl) rfl (all_wl _) ?_; clear E; intro w2 E; simp only [List.set_cons_zero, List.set_cons_succ] at E)
    | (refine mem_store_row 1 E 24 rfl _ _ rfl rfl rfl rfl (by kernel_rfl) rfl (all_wl _) ?_; clear E; intro w2 E; simp only [List.set_cons_zero, List.set_cons_succ] at E)
    | (refine mem_store_row 2 E 24 rfl _ _ rfl rfl rfl rfl (by kernel_rfl) rfl (all_wl _) ?_; clear E; intro w2 E; simp only [List.set_cons_zero, List.set_cons_succ] at E)
    | (refine mem_store_row 3 E 24 rfl _ _ rfl rfl rfl rfl (by kernel_rfl) rfl (all_wl _) ?_; clear E; intro w2 E; simp only [List.set_cons_zero, List.set_cons_succ] at E)
    | (refine mem_store_row 4 E 24 rfl _ _ rfl rfl rfl rfl (by kernel_rfl) rfl (all_wl _) ?_; clear E; intro w2 E; simp only [List.set_cons_zero, List.set_cons_succ] at E)
    | (refine mem_store_row 5 E 24 rfl _ _ rfl rfl rfl rfl (by kernel_rfl) rfl (all_wl _) ?_; clear E; intro w2 E; simp only [List.set_cons_zero, List.set_cons_succ] at E))
  go_ret
  exact ⟨rfl, E.out.below⟩
set_option maxRecDepth 100000 in
set_option maxHeartbeats 8000000 in
theorem walk_gt (a b t u x y : Nat) (p : Int) (sm : ∀ w, (Op.equalIn 10000 24 (.agg (arr 4 (wl x))) (.agg (arr 4 (wl 0)))).run Try.prog w = .ok false w) (hp : decide (0 < p) = true)
    (X : Hid (Gives 43 #[.int .u32 (a : Int)] (.tuple #[wide t, .int .i64 0])))
    (Y : Hid (Gives 43 #[.int .u32 (b : Int)] (.tuple #[wide u, .int .i64 0])))
    (V : Hid (Gives 45 #[.int .u32 (a : Int)] (.tuple #[wide x, .int .i64 0])))
    (Z : Hid (Gives 45 #[.int .u32 (b : Int)] (.tuple #[wide y, .int .i64 0])))
    (C1 : Hid (Gives 30 #[wide t, wide u] (.int .i64 p))) :
    Gives 18 #[.int .u32 (a : Int), .int .u32 (b : Int)] (.bool true) := by
  intro w
  have E := Lib.hid (Mem.nil w)
  go_enter Try.func18, Try.ntmps18
  go_upto_region 11 with (first
    | (go_at_call 43; first | ((with_reducible refine (X.out _).mono ?_); rintro e w1 ⟨rfl, hb⟩; replace E := Lib.hid (E.out.call hb); clear hb) | ((with_reducible refine (Y.out _).mono ?_); rintro e w1 ⟨rfl, hb⟩; replace E := Lib.hid (E.out.call hb); clear hb))
    | (go_at_call 45; first | ((with_reducible refine (V.out _).mono ?_); rintro e w1 ⟨rfl, hb⟩; replace E := Lib.hid (E.out.call hb); clear hb) | ((with_reducible refine (Z.out _).mono ?_); rintro e w1 ⟨rfl, hb⟩; replace E := Lib.hid (E.out.call hb); clear hb))
    | (with_reducible refine env_build 0 #[] #[] built_0 (by kernel_rfl) rfl (by kernel_rfl) ?_)
    | (with_reducible refine mem_alloc E 24 rfl rfl info24 ?_; clear E; intro b w2 E; simp only [Value.cells] at E)
    | (with_reducible refine mem_load_row E 24 (by kernel_rfl) _ rfl rfl (by first | exact List.mem_cons_self | exact (List.mem_cons_of_mem _ List.mem_cons_self) | exact (List.mem_cons_of_mem _ (List.mem_cons_of_mem _ List.mem_cons_self)) | exact (List.mem_cons_of_mem _ (List.mem_cons_of_mem _ (List.mem_cons_of_mem _ List.mem_cons_self))) | exact (List.mem_cons_of_mem _ (List.mem_cons_of_mem _ (List.mem_cons_of_mem _ (List.mem_cons_of_mem _ List.mem_cons_self)))) | exact (List.mem_cons_of_mem _ (List.mem_cons_of_mem _ (List.mem_cons_of_mem _ (List.mem_cons_of_mem _ (List.mem_cons_of_mem _ List.mem_cons_self))))) | exact (List.mem_cons_of_mem _ (List.mem_cons_of_mem _ (List.mem_cons_of_mem _ (List.mem_cons_of_mem _ (List.mem_cons_of_mem _ (List.mem_cons_of_mem _ List.mem_cons_self)))))) | exact (List.mem_cons_of_mem _ (List.mem_cons_of_mem _ (List.mem_cons_of_mem _ (List.mem_cons_of_mem _ (List.mem_cons_of_mem _ (List.mem_cons_of_mem _ (List.mem_cons_of_mem _ List.mem_cons_self)))))))) Try.underlying24 rfl (by kernel_rfl) ?_)
    | (refine mem_store_row 0 E 24 rfl _ _ rfl rfl rfl rfl (by kernel_rfl) rfl (all_wl _) ?_; clear E; intro w2 E; simp only [List.set_cons_zero, List.set_cons_succ] at E)
    | (refine mem_store_row 1 E 24 rfl _ _ rfl rfl rfl rfl (by kernel_rfl) rfl (all_wl _) ?_; clear E; intro w2 E; simp only [List.set_cons_zero, List.set_cons_succ] at E)
    | (refine mem_store_row 2 E 24 rfl _ _ rfl rfl rfl rfl (by kernel_rfl) rfl (all_wl _) ?_; clear E; intro w2 E; simp only [List.set_cons_zero, List.set_cons_succ] at E)
    | (refine mem_store_row 3 E 24 rfl _ _ rfl rfl rfl rfl (by kernel_rfl) rfl (all_wl _) ?_; clear E; intro w2 E; simp only [List.set_cons_zero, List.set_cons_succ] at E)
    | (refine mem_store_row 4 E 24 rfl _ _ rfl rfl rfl rfl (by kernel_rfl) rfl (all_wl _) ?_; clear E; intro w2 E; simp only [List.set_cons_zero, List.set_cons_succ] at E)
    | (refine mem_store_row 5 E 24 rfl _ _ rfl rfl rfl rfl (by kernel_rfl) rfl (all_wl _) ?_; clear E; intro w2 E; simp only [List.set_cons_zero, List.set_cons_succ] at E))
  try simp only [Act.put]
  go_wp2_with (first | (go_at_call 30; refine (C1.out _).mono ?_; rintro e w1 ⟨rfl, hb⟩; replace E := Lib.hid (E.out.call hb); clear hb) | (with_reducible refine mem_load_row E 24 (by kernel_rfl) _ rfl rfl (by first | exact (List.mem_cons_of_mem _ (List.mem_cons_of_mem _ List.mem_cons_self)) | exact (List.mem_cons_of_mem _ (List.mem_cons_of_mem _ (List.mem_cons_of_mem _ List.mem_cons_self)))) Try.underlying24 rfl (by kernel_rfl) ?_))
  go_ret
  exact ⟨rfl, E.out.below⟩
set_option maxRecDepth 100000 in
set_option maxHeartbeats 8000000 in
theorem walk_le (a b t u x y : Nat) (p q : Int) (sm : ∀ w, (Op.equalIn 10000 24 (.agg (arr 4 (wl x))) (.agg (arr 4 (wl 0)))).run Try.prog w = .ok false w) (hp : decide (0 < p) = false) (hq : decide (0 ≤ q) = true)
    (X : Hid (Gives 43 #[.int .u32 (a : Int)] (.tuple #[wide t, .int .i64 0])))
    (Y : Hid (Gives 43 #[.int .u32 (b : Int)] (.tuple #[wide u, .int .i64 0])))
    (V : Hid (Gives 45 #[.int .u32 (a : Int)] (.tuple #[wide x, .int .i64 0])))
    (Z : Hid (Gives 45 #[.int .u32 (b : Int)] (.tuple #[wide y, .int .i64 0])))
    (C1 : Hid (Gives 30 #[wide t, wide u] (.int .i64 p)))
    (C2 : Hid (Gives 30 #[wide x, wide y] (.int .i64 q))) :
    Gives 18 #[.int .u32 (a : Int), .int .u32 (b : Int)] (.bool true) := by
  intro w
  have E := Lib.hid (Mem.nil w)
  go_enter Try.func18, Try.ntmps18
  go_wp2_with (first
    | (go_at_call 43; first | ((with_reducible refine (X.out _).mono ?_); rintro e w1 ⟨rfl, hb⟩; replace E := Lib.hid (E.out.call hb); clear hb) | ((with_reducible refine (Y.out _).mono ?_); rintro e w1 ⟨rfl, hb⟩; replace E := Lib.hid (E.out.call hb); clear hb))
    | (go_at_call 45; first | ((with_reducible refine (V.out _).mono ?_); rintro e w1 ⟨rfl, hb⟩; replace E := Lib.hid (E.out.call hb); clear hb) | ((with_reducible refine (Z.out _).mono ?_); rintro e w1 ⟨rfl, hb⟩; replace E := Lib.hid (E.out.call hb); clear hb))
    | (go_at_call 30; first | ((with_reducible refine (C1.out _).mono ?_); rintro e w1 ⟨rfl, hb⟩; replace E := Lib.hid (E.out.call hb); clear hb) | ((with_reducible refine (C2.out _).mono ?_); rintro e w1 ⟨rfl, hb⟩; replace E := Lib.hid (E.out.call hb); clear hb))
    | (with_reducible refine env_build 0 #[] #[] built_0 (by kernel_rfl) rfl (by kernel_rfl) ?_)
    | (with_reducible refine mem_alloc E 24 rfl rfl info24 ?_; clear E; intro b w2 E; simp only [Value.cells] at E)
    | (with_reducible refine mem_load_row E 24 (by kernel_rfl) _ rfl rfl (by first | exact List.mem_cons_self | exact (List.mem_cons_of_mem _ List.mem_cons_self) | exact (List.mem_cons_of_mem _ (List.mem_cons_of_mem _ List.mem_cons_self)) | exact (List.mem_cons_of_mem _ (List.mem_cons_of_mem _ (List.mem_cons_of_mem _ List.mem_cons_self))) | exact (List.mem_cons_of_mem _ (List.mem_cons_of_mem _ (List.mem_cons_of_mem _ (List.mem_cons_of_mem _ List.mem_cons_self)))) | exact (List.mem_cons_of_mem _ (List.mem_cons_of_mem _ (List.mem_cons_of_mem _ (List.mem_cons_of_mem _ (List.mem_cons_of_mem _ List.mem_cons_self))))) | exact (List.mem_cons_of_mem _ (List.mem_cons_of_mem _ (List.mem_cons_of_mem _ (List.mem_cons_of_mem _ (List.mem_cons_of_mem _ (List.mem_cons_of_mem _ List.mem_cons_self)))))) | exact (List.mem_cons_of_mem _ (List.mem_cons_of_mem _ (List.mem_cons_of_mem _ (List.mem_cons_of_mem _ (List.mem_cons_of_mem _ (List.mem_cons_of_mem _ (List.mem_cons_of_mem _ List.mem_cons_self)))))))) Try.underlying24 rfl (by kernel_rfl) ?_)
    | (refine mem_store_row 0 E 24 rfl _ _ rfl rfl rfl rfl (by kernel_rfl) rfl (all_wl _) ?_; clear E; intro w2 E; simp only [List.set_cons_zero, List.set_cons_succ] at E)
    | (refine mem_store_row 1 E 24 rfl _ _ rfl rfl rfl rfl (by kernel_rfl) rfl (all_wl _) ?_; clear E; intro w2 E; simp only [List.set_cons_zero, List.set_cons_succ] at E)
    | (refine mem_store_row 2 E 24 rfl _ _ rfl rfl rfl rfl (by kernel_rfl) rfl (all_wl _) ?_; clear E; intro w2 E; simp only [List.set_cons_zero, List.set_cons_succ] at E)
    | (refine mem_store_row 3 E 24 rfl _ _ rfl rfl rfl rfl (by kernel_rfl) rfl (all_wl _) ?_; clear E; intro w2 E; simp only [List.set_cons_zero, List.set_cons_succ] at E)
    | (refine mem_store_row 4 E 24 rfl _ _ rfl rfl rfl rfl (by kernel_rfl) rfl (all_wl _) ?_; clear E; intro w2 E; simp only [List.set_cons_zero, List.set_cons_succ] at E)
    | (refine mem_store_row 5 E 24 rfl _ _ rfl rfl rfl rfl (by kernel_rfl) rfl (all_wl _) ?_; clear E; intro w2 E; simp only [List.set_cons_zero, List.set_cons_succ] at E))
  go_ret
  exact ⟨rfl, E.out.below⟩

theorem work_lt {t : Nat} (h : 0 < t) (ht : t < P256) : workOf t < P256 := by
  unfold workOf
  have h1 : (P256 - (t + 1)) / (t + 1) ≤ (P256 - (t + 1)) / 2 := Nat.div_le_div_left (by omega) (by omega)
  rw [P256_num] at *
  omega

theorem walk (a0 : Int) (w0 : (Lit.int .u32 a0).wf = true) (a1 : Int) (w1 : (Lit.int .u32 a1).wf = true) (w : World) :
    Calls Try.prog 18 #[.int .u32 a0, .int .u32 a1] w fun e w' => e = .returned (.bool true) ∧ Below w.heap.size w w' := by
  obtain ⟨a, rfl⟩ : ∃ n : Nat, a0 = (n : Int) := ⟨a0.toNat, by have := bounds_u32 w0; omega⟩
  have ha : a < 4294967296 := by have := bounds_u32 w0; omega
  obtain ⟨b, rfl⟩ : ∃ n : Nat, a1 = (n : Int) := ⟨a1.toNat, by have := bounds_u32 w1; omega⟩
  have hb : b < 4294967296 := by have := bounds_u32 w1; omega
  by_cases hA : ¬ isT a
  · exact walk_off1 a b 0 (tE b) (eE b) (Lib.hid (expand_off a ha hA)) (Lib.hid (expand_any b hb)) (Lib.hid (ref_expand_off a ha hA)) (Lib.hid (ref_expand_any b hb)) (Lib.hid awake4_any) w
  by_cases hB : ¬ isT b
  · exact walk_off2 a b (tOf a) 0 (Lib.hid (expand_on a ha (Decidable.not_not.1 hA))) (Lib.hid (expand_off b hb hB)) (Lib.hid (ref_expand_on a ha (Decidable.not_not.1 hA))) (Lib.hid (ref_expand_off b hb hB)) (Lib.hid awake4_any) w
  replace hA := Decidable.not_not.1 hA
  replace hB := Decidable.not_not.1 hB
  have tA := tOf_lt hA
  have tB := tOf_lt hB
  have wA := work_lt (tOf_pos hA) tA
  have wB := work_lt (tOf_pos hB) tB
  have sm := ne_zero_eq (workOf (tOf a)) wA (by unfold workOf; exact Nat.succ_ne_zero _)
  by_cases hc : tOf b < tOf a
  · exact walk_gt a b (tOf a) (tOf b) (workOf (tOf a)) (workOf (tOf b)) (cmp3 (tOf a) (tOf b)) sm (by rw [cmp3_gt hc]; rfl) (Lib.hid (expand_on a ha hA)) (Lib.hid (expand_on b hb hB)) (Lib.hid (work_on a ha hA)) (Lib.hid (work_on b hb hB)) (Lib.hid (ref_compare_any _ _ tA tB)) w
  · have hp : decide (0 < cmp3 (tOf a) (tOf b)) = false := by unfold cmp3; split <;> (try split) <;> first | rfl | omega
    have ha2 := workOf_anti (by omega : tOf a ≤ tOf b) tB
    have hq : decide (0 ≤ cmp3 (workOf (tOf a)) (workOf (tOf b))) = true := by
      unfold cmp3
      rw [if_neg (by omega)]
      split <;> rfl
    exact walk_le a b (tOf a) (tOf b) (workOf (tOf a)) (workOf (tOf b)) _ _ sm hp hq (Lib.hid (expand_on a ha hA)) (Lib.hid (expand_on b hb hB)) (Lib.hid (work_on a ha hA)) (Lib.hid (work_on b hb hB)) (Lib.hid (ref_compare_any _ _ tA tB)) (Lib.hid (ref_compare_any _ _ wA wB)) w


set_option maxRecDepth 100000 in
theorem lifted (os : Os) (started : os.Started) (H : Type) (enc : TypeId × Value → H) :
    ReturnsInHanded {} Try.checked os 18 .any (Rows.targetWorksSpec.pre6 enc Try.prog Try.f18 Rows.targetWorksRow.domain false) (Rows.targetWorksSpec.post enc Try.prog Try.f18 false true false false) := by
  refine returnsInHanded_of_change (C := Try.checked) own started (by kernel_rfl) Try.func18
    (ChangeSpec.witness6 (enc := enc) (C := Try.checked) false ⟨#[], #[.int .u32 0, .int .u32 0], []⟩ 8 (by kernel_rfl) (by kernel_rfl) (by kernel_rfl) (by kernel_rfl)) ?_
  intro W base args ds gs before hval0 hW hcnd _
  have hval : ∀ (j : Nat) t v, Try.f18.params[j]? = some t → args[j]? = some v → Value.okWide Try.prog W .any base t v := hval0
  have hW' := hW
  obtain ⟨p, q, hA0, hV, rfl, hfz, hnd⟩ := hW
  have hA : DataW.TrodAll enc Try.prog W 0 (fun _ => true) true Try.f18.params.toList args.toList ds p := hA0
  rw [Try.params18] at hA hval
  obtain ⟨v0, vs0, d0, ds0, p0, q0, hargs, rfl, rfl, h0, r0⟩ := trodAll_cons hA
  obtain ⟨v1, vs1, d1, ds1, p1, q1, rfl, rfl, rfl, h1, r1⟩ := trodAll_cons r0
  obtain ⟨rfl, rfl, rfl⟩ := trodAll_nil r1
  obtain rfl : args = #[v0, v1] := by cases args; simp_all
  obtain ⟨rfl, rfl⟩ := trodVars_none hV
  obtain ⟨a0, rfl, rfl, rfl, w0⟩ := open_int Try.underlying45 (hval 0 45 v0 rfl rfl) h0
  obtain ⟨a1, rfl, rfl, rfl, w1⟩ := open_int Try.underlying45 (hval 1 45 v1 rfl rfl) h1
  clear hA0 hval0
  simp only [List.append_nil] at hW'
  refine (walk a0 w0 a1 w1 W).mono fun e W' ⟨he, bel⟩ => ?_
  subst he
  exact ⟨_, rfl, _, _, _, [], _, [], hW', trodAll_mk1 (shut_bool Try.underlying4 _), (trodAll_cons_mk (shut_int Try.underlying45 w0) (trodAll_cons_mk (shut_int Try.underlying45 w1) trodAll_mk0)), rfl, bel.frame _, fun h => by cases h⟩

theorem over : Rows.targetWorksRow.holds Try.pinned (OpenSpec.ofChange Rows.targetWorksSpec) :=
  OpenClaim.holds_of_wide 18 Try.f18 rfl rfl rfl rfl rfl rfl rfl ⟨rfl, rfl, rfl, rfl, rfl⟩ rfl rfl rfl rfl rfl (by kernel_rfl) Try.func18 (by kernel_rfl)
    (of_decide_eq_true (by kernel_rfl)) (by unfold Func.isWrapper; first | (rw [if_pos (by decide +kernel)]; kernel_rfl) | (rw [if_neg (by decide +kernel)]; exact ⟨rfl, rfl⟩))
    (fun os started H enc _ => lifted os started H enc)

/-- The statement. -/
theorem proved : Rows.TargetWorksSaid :=
  over
#print axioms proved
end Go.Proofs.Ytboffheklkhnkaa.targetWorks
