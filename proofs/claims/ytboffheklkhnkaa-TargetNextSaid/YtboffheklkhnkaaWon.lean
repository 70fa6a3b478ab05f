/- The program's work of bits that are a target. -/
import Derived.Test.YtboffheklkhnkaaExpand
import Derived.Test.YtboffheklkhnkaaDiv
import Derived.Test.YtboffheklkhnkaaAlc
set_option linter.unusedSimpArgs false
set_option linter.unusedVariables false
namespace Go.Proofs.Ytboffheklkhnkaa
open Go.RowKit Go.Lib Go.Sort
attribute [local go_sem ↓] Go.wp_at_zero Go.wp_at_succ


theorem tOf_succ_lt {b : Nat} (h : isT b) : tOf b + 1 < P256 := by
  have h1 := tOf_lt h
  have h2 : tOf b ≠ P256 - 1 := by
    intro e
    have lp := exP_lt b
    unfold tOf at e
    by_cases hu : exU b = 0
    · rw [hu, Nat.pow_zero, Nat.mul_one, P256_num] at e
      omega
    · obtain ⟨k, hk⟩ : ∃ k, exU b = k + 1 := ⟨exU b - 1, by omega⟩
      rw [hk, Nat.pow_succ, ← Nat.mul_assoc, P256_num] at e
      omega
  rw [P256_num] at *
  omega
set_option maxRecDepth 100000 in
set_option maxHeartbeats 2000000 in
theorem work_walk (b t d s q r z : Nat) (o o2 o3 : Bool)
    (C : Hid (Gives 43 #[.int .u32 (b : Int)] (.tuple #[wide t, .int .i64 0])))
    (A1 : Hid (Gives 20 #[wide t, wide 1] (.tuple #[wide d, .bool o])))
    (S1 : Hid (Gives 22 #[wide 0, wide d] (.tuple #[wide s, .bool o2])))
    (V1 : Hid (Gives 27 #[wide s, wide d] (.tuple #[wide q, wide r, .int .i64 0])))
    (A2 : Hid (Gives 20 #[wide q, wide 1] (.tuple #[wide z, .bool o3]))) :
    Gives 45 #[.int .u32 (b : Int)] (.tuple #[wide z, .int .i64 0]) := by
  intro w
  have E := Lib.hid (EnvN.nil w)
  go_enter Try.func45, Try.ntmps45
  go_wp2_with (first
    | (go_at_call 43; refine (C.out _).mono ?_; rintro e w1 ⟨rfl, hb⟩; replace E := Lib.hid (E.out.call hb); clear hb)
    | (go_at_call 20; first | ((with_reducible refine (A1.out _).mono ?_); rintro e w1 ⟨rfl, hb⟩; replace E := Lib.hid (E.out.call hb); clear hb) | ((with_reducible refine (A2.out _).mono ?_); rintro e w1 ⟨rfl, hb⟩; replace E := Lib.hid (E.out.call hb); clear hb))
    | (go_at_call 22; refine (S1.out _).mono ?_; rintro e w1 ⟨rfl, hb⟩; replace E := Lib.hid (E.out.call hb); clear hb)
    | (go_at_call 27; refine (V1.out _).mono ?_; rintro e w1 ⟨rfl, hb⟩; replace E := Lib.hid (E.out.call hb); clear hb)
    | (with_reducible refine env_build 0 #[] #[] built_0 (by kernel_rfl) rfl (by kernel_rfl) ?_)
    | (with_reducible refine env_build 1 #[(0, .const (.int .u64 1))] #[(0, .int .u64 1)] built_1 (by kernel_rfl) rfl (by kernel_rfl) ?_)
    | (with_reducible refine envn_alloc E rfl rfl ?_; clear E; intro b w2 E)
    | (with_reducible refine envn_load E _ (by kernel_rfl) rfl rfl (by first | exact List.mem_cons_self | exact (List.mem_cons_of_mem _ List.mem_cons_self) | exact (List.mem_cons_of_mem _ (List.mem_cons_of_mem _ List.mem_cons_self)) | exact (List.mem_cons_of_mem _ (List.mem_cons_of_mem _ (List.mem_cons_of_mem _ List.mem_cons_self))) | exact (List.mem_cons_of_mem _ (List.mem_cons_of_mem _ (List.mem_cons_of_mem _ (List.mem_cons_of_mem _ List.mem_cons_self)))) | exact (List.mem_cons_of_mem _ (List.mem_cons_of_mem _ (List.mem_cons_of_mem _ (List.mem_cons_of_mem _ (List.mem_cons_of_mem _ List.mem_cons_self))))) | exact (List.mem_cons_of_mem _ (List.mem_cons_of_mem _ (List.mem_cons_of_mem _ (List.mem_cons_of_mem _ (List.mem_cons_of_mem _ (List.mem_cons_of_mem _ List.mem_cons_self)))))) | exact (List.mem_cons_of_mem _ (List.mem_cons_of_mem _ (List.mem_cons_of_mem _ (List.mem_cons_of_mem _ (List.mem_cons_of_mem _ (List.mem_cons_of_mem _ (List.mem_cons_of_mem _ List.mem_cons_self))))))) | exact (List.mem_cons_of_mem _ (List.mem_cons_of_mem _ (List.mem_cons_of_mem _ (List.mem_cons_of_mem _ (List.mem_cons_of_mem _ (List.mem_cons_of_mem _ (List.mem_cons_of_mem _ (List.mem_cons_of_mem _ List.mem_cons_self))))))))) ?_)
    | (refine envn_store 0 E _ _ rfl rfl rfl rfl rfl ?_; clear E; intro w2 E; simp only [List.set_cons_zero, List.set_cons_succ] at E)
    | (refine envn_store 1 E _ _ rfl rfl rfl rfl rfl ?_; clear E; intro w2 E; simp only [List.set_cons_zero, List.set_cons_succ] at E)
    | (refine envn_store 2 E _ _ rfl rfl rfl rfl rfl ?_; clear E; intro w2 E; simp only [List.set_cons_zero, List.set_cons_succ] at E)
    | (refine envn_store 3 E _ _ rfl rfl rfl rfl rfl ?_; clear E; intro w2 E; simp only [List.set_cons_zero, List.set_cons_succ] at E)
    | (refine envn_store 4 E _ _ rfl rfl rfl rfl rfl ?_; clear E; intro w2 E; simp only [List.set_cons_zero, List.set_cons_succ] at E)
    | (refine envn_store 5 E _ _ rfl rfl rfl rfl rfl ?_; clear E; intro w2 E; simp only [List.set_cons_zero, List.set_cons_succ] at E)
    | (refine envn_store 6 E _ _ rfl rfl rfl rfl rfl ?_; clear E; intro w2 E; simp only [List.set_cons_zero, List.set_cons_succ] at E)
    | (refine envn_store 7 E _ _ rfl rfl rfl rfl rfl ?_; clear E; intro w2 E; simp only [List.set_cons_zero, List.set_cons_succ] at E))
  exact bodyPost_ret (res_row_tmp (fn := Try.f45) rfl _ _ _ 4 24 _ _ rfl (E.out.get (by first | exact List.mem_cons_self | exact (List.mem_cons_of_mem _ List.mem_cons_self) | exact (List.mem_cons_of_mem _ (List.mem_cons_of_mem _ List.mem_cons_self)) | exact (List.mem_cons_of_mem _ (List.mem_cons_of_mem _ (List.mem_cons_of_mem _ List.mem_cons_self))) | exact (List.mem_cons_of_mem _ (List.mem_cons_of_mem _ (List.mem_cons_of_mem _ (List.mem_cons_of_mem _ List.mem_cons_self)))) | exact (List.mem_cons_of_mem _ (List.mem_cons_of_mem _ (List.mem_cons_of_mem _ (List.mem_cons_of_mem _ (List.mem_cons_of_mem _ List.mem_cons_self))))) | exact (List.mem_cons_of_mem _ (List.mem_cons_of_mem _ (List.mem_cons_of_mem _ (List.mem_cons_of_mem _ (List.mem_cons_of_mem _ (List.mem_cons_of_mem _ List.mem_cons_self)))))) | exact (List.mem_cons_of_mem _ (List.mem_cons_of_mem _ (List.mem_cons_of_mem _ (List.mem_cons_of_mem _ (List.mem_cons_of_mem _ (List.mem_cons_of_mem _ (List.mem_cons_of_mem _ List.mem_cons_self))))))) | exact (List.mem_cons_of_mem _ (List.mem_cons_of_mem _ (List.mem_cons_of_mem _ (List.mem_cons_of_mem _ (List.mem_cons_of_mem _ (List.mem_cons_of_mem _ (List.mem_cons_of_mem _ (List.mem_cons_of_mem _ List.mem_cons_self)))))))))) Try.underlying24 rfl (by kernel_rfl)) rfl ⟨rfl, E.out.env.below⟩

theorem work_on (b : Nat) (hb : b < 4294967296) (hT : isT b) : Gives 45 #[.int .u32 (b : Int)] (.tuple #[wide (workOf (tOf b)), .int .i64 0]) := by
  have lt := tOf_succ_lt hT
  have lq : (0 + P256 - (tOf b + 1)) / (tOf b + 1) < P256 := Nat.lt_of_le_of_lt (Nat.div_le_self _ _) (by omega)
  have hw : workOf (tOf b) = (0 + P256 - (tOf b + 1)) / (tOf b + 1) + 1 := by unfold workOf; rw [Nat.zero_add]
  rw [hw]
  exact work_walk b (tOf b) (tOf b + 1) (0 + P256 - (tOf b + 1)) _ _ _ _ _ _ (Lib.hid (expand_on b hb hT)) (Lib.hid (add_any (tOf b) 1 (by omega) (by decide))) (Lib.hid (sub_any 0 (tOf b + 1) (by decide) lt)) (Lib.hid (div_any _ _ (by omega) lt (by omega))) (Lib.hid (add_any _ 1 lq (by decide)))
end Go.Proofs.Ytboffheklkhnkaa
