/- The document's target that bits say. -/
import Derived.Test.YtboffheklkhnkaaExpand
import Derived.Test.YtboffheklkhnkaaRefComp
import Derived.Test.YtboffheklkhnkaaRefShift
import Derived.Test.YtboffheklkhnkaaDiv
import Derived.Test.YtboffheklkhnkaaAlc
section
set_option linter.unusedSimpArgs false
set_option linter.unusedVariables false
namespace Go.Proofs.Ytboffheklkhnkaa
open Go.RowKit Go.Lib Go.Sort
attribute [local go_sem ↓] Go.wp_at_zero Go.wp_at_succ

set_option maxRecDepth 100000 in
set_option maxHeartbeats 2000000 in
theorem rexp_signed (b : Nat) (hb : b < 4294967296) (hs : signed b) :
    Gives 44 #[.int .u32 (b : Int)] (.tuple #[wide 0, .int .i64 40]) := by
  intro w
  have hm := and_sign b hb
  unfold signed at hs
  rw [hs] at hm
  clear hs
  have E := Lib.hid (EnvN.nil w)
  go_enter Try.func44, Try.ntmps44
  go_wp2_with (first
    | (with_reducible refine env_build 0 #[] #[] built_0 (by kernel_rfl) rfl (by kernel_rfl) ?_)
    | (with_reducible refine envn_alloc E rfl rfl ?_; clear E; intro b w2 E)
    | (with_reducible refine envn_load E _ (by kernel_rfl) rfl rfl (by first | exact List.mem_cons_self | exact (List.mem_cons_of_mem _ List.mem_cons_self) | exact (List.mem_cons_of_mem _ (List.mem_cons_of_mem _ List.mem_cons_self)) | exact (List.mem_cons_of_mem _ (List.mem_cons_of_mem _ (List.mem_cons_of_mem _ List.mem_cons_self))) | exact (List.mem_cons_of_mem _ (List.mem_cons_of_mem _ (List.mem_cons_of_mem _ (List.mem_cons_of_mem _ List.mem_cons_self)))) | exact (List.mem_cons_of_mem _ (List.mem_cons_of_mem _ (List.mem_cons_of_mem _ (List.mem_cons_of_mem _ (List.mem_cons_of_mem _ List.mem_cons_self))))) | exact (List.mem_cons_of_mem _ (List.mem_cons_of_mem _ (List.mem_cons_of_mem _ (List.mem_cons_of_mem _ (List.mem_cons_of_mem _ (List.mem_cons_of_mem _ List.mem_cons_self)))))) | exact (List.mem_cons_of_mem _ (List.mem_cons_of_mem _ (List.mem_cons_of_mem _ (List.mem_cons_of_mem _ (List.mem_cons_of_mem _ (List.mem_cons_of_mem _ (List.mem_cons_of_mem _ List.mem_cons_self))))))) | exact (List.mem_cons_of_mem _ (List.mem_cons_of_mem _ (List.mem_cons_of_mem _ (List.mem_cons_of_mem _ (List.mem_cons_of_mem _ (List.mem_cons_of_mem _ (List.mem_cons_of_mem _ (List.mem_cons_of_mem _ List.mem_cons_self))))))))) ?_)
    | (refine envn_store 0 E _ _ rfl rfl rfl rfl rfl ?_; clear E; intro w2 E; simp only [List.set_cons_zero, List.set_cons_succ] at E)
    | (refine envn_store 1 E _ _ rfl rfl rfl rfl rfl ?_; clear E; intro w2 E; simp only [List.set_cons_zero, List.set_cons_succ] at E)
    | (refine envn_store 2 E _ _ rfl rfl rfl rfl rfl ?_; clear E; intro w2 E; simp only [List.set_cons_zero, List.set_cons_succ] at E)
    | (refine envn_store 3 E _ _ rfl rfl rfl rfl rfl ?_; clear E; intro w2 E; simp only [List.set_cons_zero, List.set_cons_succ] at E)
    | (refine envn_store 4 E _ _ rfl rfl rfl rfl rfl ?_; clear E; intro w2 E; simp only [List.set_cons_zero, List.set_cons_succ] at E)
    | (refine envn_store 5 E _ _ rfl rfl rfl rfl rfl ?_; clear E; intro w2 E; simp only [List.set_cons_zero, List.set_cons_succ] at E)
    | (refine envn_store 6 E _ _ rfl rfl rfl rfl rfl ?_; clear E; intro w2 E; simp only [List.set_cons_zero, List.set_cons_succ] at E)
    | (refine envn_store 7 E _ _ rfl rfl rfl rfl rfl ?_; clear E; intro w2 E; simp only [List.set_cons_zero, List.set_cons_succ] at E))
  exact bodyPost_ret (res_row_tmp (fn := Try.f44) rfl _ _ _ 4 24 _ _ rfl (E.out.get (by first | exact List.mem_cons_self | exact (List.mem_cons_of_mem _ List.mem_cons_self) | exact (List.mem_cons_of_mem _ (List.mem_cons_of_mem _ List.mem_cons_self)) | exact (List.mem_cons_of_mem _ (List.mem_cons_of_mem _ (List.mem_cons_of_mem _ List.mem_cons_self))) | exact (List.mem_cons_of_mem _ (List.mem_cons_of_mem _ (List.mem_cons_of_mem _ (List.mem_cons_of_mem _ List.mem_cons_self)))) | exact (List.mem_cons_of_mem _ (List.mem_cons_of_mem _ (List.mem_cons_of_mem _ (List.mem_cons_of_mem _ (List.mem_cons_of_mem _ List.mem_cons_self))))) | exact (List.mem_cons_of_mem _ (List.mem_cons_of_mem _ (List.mem_cons_of_mem _ (List.mem_cons_of_mem _ (List.mem_cons_of_mem _ (List.mem_cons_of_mem _ List.mem_cons_self)))))) | exact (List.mem_cons_of_mem _ (List.mem_cons_of_mem _ (List.mem_cons_of_mem _ (List.mem_cons_of_mem _ (List.mem_cons_of_mem _ (List.mem_cons_of_mem _ (List.mem_cons_of_mem _ List.mem_cons_self))))))) | exact (List.mem_cons_of_mem _ (List.mem_cons_of_mem _ (List.mem_cons_of_mem _ (List.mem_cons_of_mem _ (List.mem_cons_of_mem _ (List.mem_cons_of_mem _ (List.mem_cons_of_mem _ (List.mem_cons_of_mem _ List.mem_cons_self)))))))))) Try.underlying24 rfl (by kernel_rfl)) rfl ⟨rfl, E.out.env.below⟩
set_option maxRecDepth 100000 in
set_option maxHeartbeats 2000000 in
theorem rexp_low (b e m : Nat) (hb : b < 4294967296) (hs : ¬ signed b) (hM : m = exM b) (hX : e = exE b) (p : Nat) (he : (e : Int) < 3) (sm : ∀ w, (Op.equalIn 10000 24 (.agg (arr 4 (wl p))) (.agg (arr 4 (wl 0)))).run Try.prog w = .ok false w)
    (R : Hid (Gives 34 #[wide m, .int .i64 (8 * (3 - (e : Int)))] (wide p))) :
    Gives 44 #[.int .u32 (b : Int)] (.tuple #[wide p, .int .i64 0]) := by
  intro w
  have hs' : bits .and .u32 (b : Int) 8388608 = 0 := by have h := and_sign b hb; unfold signed at hs; rw [show b / 8388608 % 2 = 0 by omega] at h; exact h
  have hm : bits .and .u32 (b : Int) 8388607 = (m : Int) := by rw [hM]; exact and_part b hb
  have hE : (b : Int) / 16777216 = (e : Int) := by rw [hX]; unfold exE; omega
  have hml : m < 8388608 := by rw [hM]; exact exM_lt b
  have hel : e < 256 := by rw [hX]; unfold exE; omega
  clear hM hX hs hb
  have bn := built_n m (by omega)
  have E := Lib.hid (EnvN.nil w)
  go_enter Try.func44, Try.ntmps44
  go_wp2_with (first
    | (go_at_call 34; refine (R.out _).mono ?_; rintro e w1 ⟨rfl, hb⟩; replace E := Lib.hid (E.out.call hb); clear hb)
    | (with_reducible refine env_build 0 #[] #[] built_0 (by kernel_rfl) rfl (by kernel_rfl) ?_)
    | (with_reducible refine env_build m #[(0, .tmp 19)] #[(0, .int .u64 (m : Int))] bn (by kernel_rfl) rfl (by kernel_rfl) ?_)
    | (with_reducible refine envn_alloc E rfl rfl ?_; clear E; intro b w2 E)
    | (with_reducible refine envn_load E _ (by kernel_rfl) rfl rfl (by first | exact List.mem_cons_self | exact (List.mem_cons_of_mem _ List.mem_cons_self) | exact (List.mem_cons_of_mem _ (List.mem_cons_of_mem _ List.mem_cons_self)) | exact (List.mem_cons_of_mem _ (List.mem_cons_of_mem _ (List.mem_cons_of_mem _ List.mem_cons_self))) | exact (List.mem_cons_of_mem _ (List.mem_cons_of_mem _ (List.mem_cons_of_mem _ (List.mem_cons_of_mem _ List.mem_cons_self)))) | exact (List.mem_cons_of_mem _ (List.mem_cons_of_mem _ (List.mem_cons_of_mem _ (List.mem_cons_of_mem _ (List.mem_cons_of_mem _ List.mem_cons_self))))) | exact (List.mem_cons_of_mem _ (List.mem_cons_of_mem _ (List.mem_cons_of_mem _ (List.mem_cons_of_mem _ (List.mem_cons_of_mem _ (List.mem_cons_of_mem _ List.mem_cons_self)))))) | exact (List.mem_cons_of_mem _ (List.mem_cons_of_mem _ (List.mem_cons_of_mem _ (List.mem_cons_of_mem _ (List.mem_cons_of_mem _ (List.mem_cons_of_mem _ (List.mem_cons_of_mem _ List.mem_cons_self))))))) | exact (List.mem_cons_of_mem _ (List.mem_cons_of_mem _ (List.mem_cons_of_mem _ (List.mem_cons_of_mem _ (List.mem_cons_of_mem _ (List.mem_cons_of_mem _ (List.mem_cons_of_mem _ (List.mem_cons_of_mem _ List.mem_cons_self))))))))) ?_)
    | (refine envn_store 0 E _ _ rfl rfl rfl rfl rfl ?_; clear E; intro w2 E; simp only [List.set_cons_zero, List.set_cons_succ] at E)
    | (refine envn_store 1 E _ _ rfl rfl rfl rfl rfl ?_; clear E; intro w2 E; simp only [List.set_cons_zero, List.set_cons_succ] at E)
    | (refine envn_store 2 E _ _ rfl rfl rfl rfl rfl ?_; clear E; intro w2 E; simp only [List.set_cons_zero, List.set_cons_succ] at E)
    | (refine envn_store 3 E _ _ rfl rfl rfl rfl rfl ?_; clear E; intro w2 E; simp only [List.set_cons_zero, List.set_cons_succ] at E)
    | (refine envn_store 4 E _ _ rfl rfl rfl rfl rfl ?_; clear E; intro w2 E; simp only [List.set_cons_zero, List.set_cons_succ] at E)
    | (refine envn_store 5 E _ _ rfl rfl rfl rfl rfl ?_; clear E; intro w2 E; simp only [List.set_cons_zero, List.set_cons_succ] at E)
    | (refine envn_store 6 E _ _ rfl rfl rfl rfl rfl ?_; clear E; intro w2 E; simp only [List.set_cons_zero, List.set_cons_succ] at E)
    | (refine envn_store 7 E _ _ rfl rfl rfl rfl rfl ?_; clear E; intro w2 E; simp only [List.set_cons_zero, List.set_cons_succ] at E))
  exact bodyPost_ret (res_row_tmp (fn := Try.f44) rfl _ _ _ 4 24 _ _ rfl (E.out.get (by first | exact List.mem_cons_self | exact (List.mem_cons_of_mem _ List.mem_cons_self) | exact (List.mem_cons_of_mem _ (List.mem_cons_of_mem _ List.mem_cons_self)) | exact (List.mem_cons_of_mem _ (List.mem_cons_of_mem _ (List.mem_cons_of_mem _ List.mem_cons_self))) | exact (List.mem_cons_of_mem _ (List.mem_cons_of_mem _ (List.mem_cons_of_mem _ (List.mem_cons_of_mem _ List.mem_cons_self)))) | exact (List.mem_cons_of_mem _ (List.mem_cons_of_mem _ (List.mem_cons_of_mem _ (List.mem_cons_of_mem _ (List.mem_cons_of_mem _ List.mem_cons_self))))) | exact (List.mem_cons_of_mem _ (List.mem_cons_of_mem _ (List.mem_cons_of_mem _ (List.mem_cons_of_mem _ (List.mem_cons_of_mem _ (List.mem_cons_of_mem _ List.mem_cons_self)))))) | exact (List.mem_cons_of_mem _ (List.mem_cons_of_mem _ (List.mem_cons_of_mem _ (List.mem_cons_of_mem _ (List.mem_cons_of_mem _ (List.mem_cons_of_mem _ (List.mem_cons_of_mem _ List.mem_cons_self))))))) | exact (List.mem_cons_of_mem _ (List.mem_cons_of_mem _ (List.mem_cons_of_mem _ (List.mem_cons_of_mem _ (List.mem_cons_of_mem _ (List.mem_cons_of_mem _ (List.mem_cons_of_mem _ (List.mem_cons_of_mem _ List.mem_cons_self)))))))))) Try.underlying24 rfl (by kernel_rfl)) rfl ⟨rfl, E.out.env.below⟩
set_option maxRecDepth 100000 in
set_option maxHeartbeats 2000000 in
theorem rexp_low0 (b e m : Nat) (hb : b < 4294967296) (hs : ¬ signed b) (hM : m = exM b) (hX : e = exE b) (he : (e : Int) < 3)
    (R : Hid (Gives 34 #[wide m, .int .i64 (8 * (3 - (e : Int)))] (wide 0))) :
    Gives 44 #[.int .u32 (b : Int)] (.tuple #[wide 0, .int .i64 40]) := by
  intro w
  have hs' : bits .and .u32 (b : Int) 8388608 = 0 := by have h := and_sign b hb; unfold signed at hs; rw [show b / 8388608 % 2 = 0 by omega] at h; exact h
  have hm : bits .and .u32 (b : Int) 8388607 = (m : Int) := by rw [hM]; exact and_part b hb
  have hE : (b : Int) / 16777216 = (e : Int) := by rw [hX]; unfold exE; omega
  have hml : m < 8388608 := by rw [hM]; exact exM_lt b
  have hel : e < 256 := by rw [hX]; unfold exE; omega
  clear hM hX hs hb
  have bn := built_n m (by omega)
  have sm := same_wide 0
  have E := Lib.hid (EnvN.nil w)
  go_enter Try.func44, Try.ntmps44
  go_wp2_with (first
    | (go_at_call 34; refine (R.out _).mono ?_; rintro e w1 ⟨rfl, hb⟩; replace E := Lib.hid (E.out.call hb); clear hb)
    | (with_reducible refine env_build 0 #[] #[] built_0 (by kernel_rfl) rfl (by kernel_rfl) ?_)
    | (with_reducible refine env_build m #[(0, .tmp 19)] #[(0, .int .u64 (m : Int))] bn (by kernel_rfl) rfl (by kernel_rfl) ?_)
    | (with_reducible refine envn_alloc E rfl rfl ?_; clear E; intro b w2 E)
    | (with_reducible refine envn_load E _ (by kernel_rfl) rfl rfl (by first | exact List.mem_cons_self | exact (List.mem_cons_of_mem _ List.mem_cons_self) | exact (List.mem_cons_of_mem _ (List.mem_cons_of_mem _ List.mem_cons_self)) | exact (List.mem_cons_of_mem _ (List.mem_cons_of_mem _ (List.mem_cons_of_mem _ List.mem_cons_self))) | exact (List.mem_cons_of_mem _ (List.mem_cons_of_mem _ (List.mem_cons_of_mem _ (List.mem_cons_of_mem _ List.mem_cons_self)))) | exact (List.mem_cons_of_mem _ (List.mem_cons_of_mem _ (List.mem_cons_of_mem _ (List.mem_cons_of_mem _ (List.mem_cons_of_mem _ List.mem_cons_self))))) | exact (List.mem_cons_of_mem _ (List.mem_cons_of_mem _ (List.mem_cons_of_mem _ (List.mem_cons_of_mem _ (List.mem_cons_of_mem _ (List.mem_cons_of_mem _ List.mem_cons_self)))))) | exact (List.mem_cons_of_mem _ (List.mem_cons_of_mem _ (List.mem_cons_of_mem _ (List.mem_cons_of_mem _ (List.mem_cons_of_mem _ (List.mem_cons_of_mem _ (List.mem_cons_of_mem _ List.mem_cons_self))))))) | exact (List.mem_cons_of_mem _ (List.mem_cons_of_mem _ (List.mem_cons_of_mem _ (List.mem_cons_of_mem _ (List.mem_cons_of_mem _ (List.mem_cons_of_mem _ (List.mem_cons_of_mem _ (List.mem_cons_of_mem _ List.mem_cons_self))))))))) ?_)
    | (refine envn_store 0 E _ _ rfl rfl rfl rfl rfl ?_; clear E; intro w2 E; simp only [List.set_cons_zero, List.set_cons_succ] at E)
    | (refine envn_store 1 E _ _ rfl rfl rfl rfl rfl ?_; clear E; intro w2 E; simp only [List.set_cons_zero, List.set_cons_succ] at E)
    | (refine envn_store 2 E _ _ rfl rfl rfl rfl rfl ?_; clear E; intro w2 E; simp only [List.set_cons_zero, List.set_cons_succ] at E)
    | (refine envn_store 3 E _ _ rfl rfl rfl rfl rfl ?_; clear E; intro w2 E; simp only [List.set_cons_zero, List.set_cons_succ] at E)
    | (refine envn_store 4 E _ _ rfl rfl rfl rfl rfl ?_; clear E; intro w2 E; simp only [List.set_cons_zero, List.set_cons_succ] at E)
    | (refine envn_store 5 E _ _ rfl rfl rfl rfl rfl ?_; clear E; intro w2 E; simp only [List.set_cons_zero, List.set_cons_succ] at E)
    | (refine envn_store 6 E _ _ rfl rfl rfl rfl rfl ?_; clear E; intro w2 E; simp only [List.set_cons_zero, List.set_cons_succ] at E)
    | (refine envn_store 7 E _ _ rfl rfl rfl rfl rfl ?_; clear E; intro w2 E; simp only [List.set_cons_zero, List.set_cons_succ] at E))
  exact bodyPost_ret (res_row_tmp (fn := Try.f44) rfl _ _ _ 4 24 _ _ rfl (E.out.get (by first | exact List.mem_cons_self | exact (List.mem_cons_of_mem _ List.mem_cons_self) | exact (List.mem_cons_of_mem _ (List.mem_cons_of_mem _ List.mem_cons_self)) | exact (List.mem_cons_of_mem _ (List.mem_cons_of_mem _ (List.mem_cons_of_mem _ List.mem_cons_self))) | exact (List.mem_cons_of_mem _ (List.mem_cons_of_mem _ (List.mem_cons_of_mem _ (List.mem_cons_of_mem _ List.mem_cons_self)))) | exact (List.mem_cons_of_mem _ (List.mem_cons_of_mem _ (List.mem_cons_of_mem _ (List.mem_cons_of_mem _ (List.mem_cons_of_mem _ List.mem_cons_self))))) | exact (List.mem_cons_of_mem _ (List.mem_cons_of_mem _ (List.mem_cons_of_mem _ (List.mem_cons_of_mem _ (List.mem_cons_of_mem _ (List.mem_cons_of_mem _ List.mem_cons_self)))))) | exact (List.mem_cons_of_mem _ (List.mem_cons_of_mem _ (List.mem_cons_of_mem _ (List.mem_cons_of_mem _ (List.mem_cons_of_mem _ (List.mem_cons_of_mem _ (List.mem_cons_of_mem _ List.mem_cons_self))))))) | exact (List.mem_cons_of_mem _ (List.mem_cons_of_mem _ (List.mem_cons_of_mem _ (List.mem_cons_of_mem _ (List.mem_cons_of_mem _ (List.mem_cons_of_mem _ (List.mem_cons_of_mem _ (List.mem_cons_of_mem _ List.mem_cons_self)))))))))) Try.underlying24 rfl (by kernel_rfl)) rfl ⟨rfl, E.out.env.below⟩
set_option maxRecDepth 100000 in
set_option maxHeartbeats 2000000 in
theorem rexp_zero (b e m : Nat) (hb : b < 4294967296) (hs : ¬ signed b) (hM : m = exM b) (hX : e = exE b) (he : ¬ (e : Int) < 3) (hz : m = 0)
    (L : Hid (Gives 32 #[wide 0, .int .i64 (8 * ((e : Int) - 3))] (wide 0))) :
    Gives 44 #[.int .u32 (b : Int)] (.tuple #[wide 0, .int .i64 40]) := by
  intro w
  have hs' : bits .and .u32 (b : Int) 8388608 = 0 := by have h := and_sign b hb; unfold signed at hs; rw [show b / 8388608 % 2 = 0 by omega] at h; exact h
  have hm : bits .and .u32 (b : Int) 8388607 = (m : Int) := by rw [hM]; exact and_part b hb
  have hE : (b : Int) / 16777216 = (e : Int) := by rw [hX]; unfold exE; omega
  have hml : m < 8388608 := by rw [hM]; exact exM_lt b
  have hel : e < 256 := by rw [hX]; unfold exE; omega
  clear hM hX hs hb
  have sm := same_wide 0
  subst hz
  have E := Lib.hid (EnvN.nil w)
  go_enter Try.func44, Try.ntmps44
  go_wp2_with (first
    | (go_at_call 32; refine (L.out _).mono ?_; rintro e w1 ⟨rfl, hb⟩; replace E := Lib.hid (E.out.call hb); clear hb)
    | (with_reducible refine env_build 0 #[] #[] built_0 (by kernel_rfl) rfl (by kernel_rfl) ?_)
    | (with_reducible refine env_build 0 #[(0, .tmp 38)] #[(0, .int .u64 0)] built_n0 (by kernel_rfl) rfl (by kernel_rfl) ?_)
    | (with_reducible refine envn_alloc E rfl rfl ?_; clear E; intro b w2 E)
    | (with_reducible refine envn_load E _ (by kernel_rfl) rfl rfl (by first | exact List.mem_cons_self | exact (List.mem_cons_of_mem _ List.mem_cons_self) | exact (List.mem_cons_of_mem _ (List.mem_cons_of_mem _ List.mem_cons_self)) | exact (List.mem_cons_of_mem _ (List.mem_cons_of_mem _ (List.mem_cons_of_mem _ List.mem_cons_self))) | exact (List.mem_cons_of_mem _ (List.mem_cons_of_mem _ (List.mem_cons_of_mem _ (List.mem_cons_of_mem _ List.mem_cons_self)))) | exact (List.mem_cons_of_mem _ (List.mem_cons_of_mem _ (List.mem_cons_of_mem _ (List.mem_cons_of_mem _ (List.mem_cons_of_mem _ List.mem_cons_self))))) | exact (List.mem_cons_of_mem _ (List.mem_cons_of_mem _ (List.mem_cons_of_mem _ (List.mem_cons_of_mem _ (List.mem_cons_of_mem _ (List.mem_cons_of_mem _ List.mem_cons_self)))))) | exact (List.mem_cons_of_mem _ (List.mem_cons_of_mem _ (List.mem_cons_of_mem _ (List.mem_cons_of_mem _ (List.mem_cons_of_mem _ (List.mem_cons_of_mem _ (List.mem_cons_of_mem _ List.mem_cons_self))))))) | exact (List.mem_cons_of_mem _ (List.mem_cons_of_mem _ (List.mem_cons_of_mem _ (List.mem_cons_of_mem _ (List.mem_cons_of_mem _ (List.mem_cons_of_mem _ (List.mem_cons_of_mem _ (List.mem_cons_of_mem _ List.mem_cons_self))))))))) ?_)
    | (refine envn_store 0 E _ _ rfl rfl rfl rfl rfl ?_; clear E; intro w2 E; simp only [List.set_cons_zero, List.set_cons_succ] at E)
    | (refine envn_store 1 E _ _ rfl rfl rfl rfl rfl ?_; clear E; intro w2 E; simp only [List.set_cons_zero, List.set_cons_succ] at E)
    | (refine envn_store 2 E _ _ rfl rfl rfl rfl rfl ?_; clear E; intro w2 E; simp only [List.set_cons_zero, List.set_cons_succ] at E)
    | (refine envn_store 3 E _ _ rfl rfl rfl rfl rfl ?_; clear E; intro w2 E; simp only [List.set_cons_zero, List.set_cons_succ] at E)
    | (refine envn_store 4 E _ _ rfl rfl rfl rfl rfl ?_; clear E; intro w2 E; simp only [List.set_cons_zero, List.set_cons_succ] at E)
    | (refine envn_store 5 E _ _ rfl rfl rfl rfl rfl ?_; clear E; intro w2 E; simp only [List.set_cons_zero, List.set_cons_succ] at E)
    | (refine envn_store 6 E _ _ rfl rfl rfl rfl rfl ?_; clear E; intro w2 E; simp only [List.set_cons_zero, List.set_cons_succ] at E)
    | (refine envn_store 7 E _ _ rfl rfl rfl rfl rfl ?_; clear E; intro w2 E; simp only [List.set_cons_zero, List.set_cons_succ] at E))
  exact bodyPost_ret (res_row_tmp (fn := Try.f44) rfl _ _ _ 4 24 _ _ rfl (E.out.get (by first | exact List.mem_cons_self | exact (List.mem_cons_of_mem _ List.mem_cons_self) | exact (List.mem_cons_of_mem _ (List.mem_cons_of_mem _ List.mem_cons_self)) | exact (List.mem_cons_of_mem _ (List.mem_cons_of_mem _ (List.mem_cons_of_mem _ List.mem_cons_self))) | exact (List.mem_cons_of_mem _ (List.mem_cons_of_mem _ (List.mem_cons_of_mem _ (List.mem_cons_of_mem _ List.mem_cons_self)))) | exact (List.mem_cons_of_mem _ (List.mem_cons_of_mem _ (List.mem_cons_of_mem _ (List.mem_cons_of_mem _ (List.mem_cons_of_mem _ List.mem_cons_self))))) | exact (List.mem_cons_of_mem _ (List.mem_cons_of_mem _ (List.mem_cons_of_mem _ (List.mem_cons_of_mem _ (List.mem_cons_of_mem _ (List.mem_cons_of_mem _ List.mem_cons_self)))))) | exact (List.mem_cons_of_mem _ (List.mem_cons_of_mem _ (List.mem_cons_of_mem _ (List.mem_cons_of_mem _ (List.mem_cons_of_mem _ (List.mem_cons_of_mem _ (List.mem_cons_of_mem _ List.mem_cons_self))))))) | exact (List.mem_cons_of_mem _ (List.mem_cons_of_mem _ (List.mem_cons_of_mem _ (List.mem_cons_of_mem _ (List.mem_cons_of_mem _ (List.mem_cons_of_mem _ (List.mem_cons_of_mem _ (List.mem_cons_of_mem _ List.mem_cons_self)))))))))) Try.underlying24 rfl (by kernel_rfl)) rfl ⟨rfl, E.out.env.below⟩
set_option maxRecDepth 100000 in
set_option maxHeartbeats 2000000 in
theorem rexp_over (b e m : Nat) (hb : b < 4294967296) (hs : ¬ signed b) (hM : m = exM b) (hX : e = exE b) (he : ¬ (e : Int) < 3) (hz : m ≠ 0) (n : Nat) (hn : n ≤ 256) (ho : 256 < n + 8 * (e - 3))
    (B : Hid (Gives 36 #[wide m] (.int .i64 (n : Int)))) :
    Gives 44 #[.int .u32 (b : Int)] (.tuple #[wide 0, .int .i64 40]) := by
  intro w
  have hs' : bits .and .u32 (b : Int) 8388608 = 0 := by have h := and_sign b hb; unfold signed at hs; rw [show b / 8388608 % 2 = 0 by omega] at h; exact h
  have hm : bits .and .u32 (b : Int) 8388607 = (m : Int) := by rw [hM]; exact and_part b hb
  have hE : (b : Int) / 16777216 = (e : Int) := by rw [hX]; unfold exE; omega
  have hml : m < 8388608 := by rw [hM]; exact exM_lt b
  have hel : e < 256 := by rw [hX]; unfold exE; omega
  clear hM hX hs hb
  have g0 : ((m : Int) != 0) = true := by simp; omega
  have bn := built_n m (by omega)
  have g1 : decide ((256 : Int) < (n : Int) + 8 * ((e : Int) - 3)) = true := decide_eq_true (by omega)
  clear ho
  have E := Lib.hid (EnvN.nil w)
  go_enter Try.func44, Try.ntmps44
  go_wp2_with (first
    | (go_at_call 36; refine (B.out _).mono ?_; rintro e w1 ⟨rfl, hb⟩; replace E := Lib.hid (E.out.call hb); clear hb)
    | (with_reducible refine env_build 0 #[] #[] built_0 (by kernel_rfl) rfl (by kernel_rfl) ?_)
    | (with_reducible refine env_build m #[(0, .tmp 28)] #[(0, .int .u64 (m : Int))] bn (by kernel_rfl) rfl (by kernel_rfl) ?_)
    | (with_reducible refine envn_alloc E rfl rfl ?_; clear E; intro b w2 E)
    | (with_reducible refine envn_load E _ (by kernel_rfl) rfl rfl (by first | exact List.mem_cons_self | exact (List.mem_cons_of_mem _ List.mem_cons_self) | exact (List.mem_cons_of_mem _ (List.mem_cons_of_mem _ List.mem_cons_self)) | exact (List.mem_cons_of_mem _ (List.mem_cons_of_mem _ (List.mem_cons_of_mem _ List.mem_cons_self))) | exact (List.mem_cons_of_mem _ (List.mem_cons_of_mem _ (List.mem_cons_of_mem _ (List.mem_cons_of_mem _ List.mem_cons_self)))) | exact (List.mem_cons_of_mem _ (List.mem_cons_of_mem _ (List.mem_cons_of_mem _ (List.mem_cons_of_mem _ (List.mem_cons_of_mem _ List.mem_cons_self))))) | exact (List.mem_cons_of_mem _ (List.mem_cons_of_mem _ (List.mem_cons_of_mem _ (List.mem_cons_of_mem _ (List.mem_cons_of_mem _ (List.mem_cons_of_mem _ List.mem_cons_self)))))) | exact (List.mem_cons_of_mem _ (List.mem_cons_of_mem _ (List.mem_cons_of_mem _ (List.mem_cons_of_mem _ (List.mem_cons_of_mem _ (List.mem_cons_of_mem _ (List.mem_cons_of_mem _ List.mem_cons_self))))))) | exact (List.mem_cons_of_mem _ (List.mem_cons_of_mem _ (List.mem_cons_of_mem _ (List.mem_cons_of_mem _ (List.mem_cons_of_mem _ (List.mem_cons_of_mem _ (List.mem_cons_of_mem _ (List.mem_cons_of_mem _ List.mem_cons_self))))))))) ?_)
    | (refine envn_store 0 E _ _ rfl rfl rfl rfl rfl ?_; clear E; intro w2 E; simp only [List.set_cons_zero, List.set_cons_succ] at E)
    | (refine envn_store 1 E _ _ rfl rfl rfl rfl rfl ?_; clear E; intro w2 E; simp only [List.set_cons_zero, List.set_cons_succ] at E)
    | (refine envn_store 2 E _ _ rfl rfl rfl rfl rfl ?_; clear E; intro w2 E; simp only [List.set_cons_zero, List.set_cons_succ] at E)
    | (refine envn_store 3 E _ _ rfl rfl rfl rfl rfl ?_; clear E; intro w2 E; simp only [List.set_cons_zero, List.set_cons_succ] at E)
    | (refine envn_store 4 E _ _ rfl rfl rfl rfl rfl ?_; clear E; intro w2 E; simp only [List.set_cons_zero, List.set_cons_succ] at E)
    | (refine envn_store 5 E _ _ rfl rfl rfl rfl rfl ?_; clear E; intro w2 E; simp only [List.set_cons_zero, List.set_cons_succ] at E)
    | (refine envn_store 6 E _ _ rfl rfl rfl rfl rfl ?_; clear E; intro w2 E; simp only [List.set_cons_zero, List.set_cons_succ] at E)
    | (refine envn_store 7 E _ _ rfl rfl rfl rfl rfl ?_; clear E; intro w2 E; simp only [List.set_cons_zero, List.set_cons_succ] at E))
  exact bodyPost_ret (res_row_tmp (fn := Try.f44) rfl _ _ _ 4 24 _ _ rfl (E.out.get (by first | exact List.mem_cons_self | exact (List.mem_cons_of_mem _ List.mem_cons_self) | exact (List.mem_cons_of_mem _ (List.mem_cons_of_mem _ List.mem_cons_self)) | exact (List.mem_cons_of_mem _ (List.mem_cons_of_mem _ (List.mem_cons_of_mem _ List.mem_cons_self))) | exact (List.mem_cons_of_mem _ (List.mem_cons_of_mem _ (List.mem_cons_of_mem _ (List.mem_cons_of_mem _ List.mem_cons_self)))) | exact (List.mem_cons_of_mem _ (List.mem_cons_of_mem _ (List.mem_cons_of_mem _ (List.mem_cons_of_mem _ (List.mem_cons_of_mem _ List.mem_cons_self))))) | exact (List.mem_cons_of_mem _ (List.mem_cons_of_mem _ (List.mem_cons_of_mem _ (List.mem_cons_of_mem _ (List.mem_cons_of_mem _ (List.mem_cons_of_mem _ List.mem_cons_self)))))) | exact (List.mem_cons_of_mem _ (List.mem_cons_of_mem _ (List.mem_cons_of_mem _ (List.mem_cons_of_mem _ (List.mem_cons_of_mem _ (List.mem_cons_of_mem _ (List.mem_cons_of_mem _ List.mem_cons_self))))))) | exact (List.mem_cons_of_mem _ (List.mem_cons_of_mem _ (List.mem_cons_of_mem _ (List.mem_cons_of_mem _ (List.mem_cons_of_mem _ (List.mem_cons_of_mem _ (List.mem_cons_of_mem _ (List.mem_cons_of_mem _ List.mem_cons_self)))))))))) Try.underlying24 rfl (by kernel_rfl)) rfl ⟨rfl, E.out.env.below⟩
set_option maxRecDepth 100000 in
set_option maxHeartbeats 2000000 in
theorem rexp_high (b e m : Nat) (hb : b < 4294967296) (hs : ¬ signed b) (hM : m = exM b) (hX : e = exE b) (he : ¬ (e : Int) < 3) (hz : m ≠ 0) (n p : Nat) (hn : n ≤ 256) (ho : ¬ 256 < n + 8 * (e - 3)) (sm : ∀ w, (Op.equalIn 10000 24 (.agg (arr 4 (wl p))) (.agg (arr 4 (wl 0)))).run Try.prog w = .ok false w)
    (B : Hid (Gives 36 #[wide m] (.int .i64 (n : Int))))
    (L : Hid (Gives 32 #[wide m, .int .i64 (8 * ((e : Int) - 3))] (wide p))) :
    Gives 44 #[.int .u32 (b : Int)] (.tuple #[wide p, .int .i64 0]) := by
  intro w
  have hs' : bits .and .u32 (b : Int) 8388608 = 0 := by have h := and_sign b hb; unfold signed at hs; rw [show b / 8388608 % 2 = 0 by omega] at h; exact h
  have hm : bits .and .u32 (b : Int) 8388607 = (m : Int) := by rw [hM]; exact and_part b hb
  have hE : (b : Int) / 16777216 = (e : Int) := by rw [hX]; unfold exE; omega
  have hml : m < 8388608 := by rw [hM]; exact exM_lt b
  have hel : e < 256 := by rw [hX]; unfold exE; omega
  clear hM hX hs hb
  have g0 : ((m : Int) != 0) = true := by simp; omega
  have bn := built_n m (by omega)
  have g1 : decide ((256 : Int) < (n : Int) + 8 * ((e : Int) - 3)) = false := decide_eq_false (by omega)
  clear ho
  have E := Lib.hid (EnvN.nil w)
  go_enter Try.func44, Try.ntmps44
  go_wp2_with (first
    | (go_at_call 36; refine (B.out _).mono ?_; rintro e w1 ⟨rfl, hb⟩; replace E := Lib.hid (E.out.call hb); clear hb)
    | (go_at_call 32; refine (L.out _).mono ?_; rintro e w1 ⟨rfl, hb⟩; replace E := Lib.hid (E.out.call hb); clear hb)
    | (with_reducible refine env_build 0 #[] #[] built_0 (by kernel_rfl) rfl (by kernel_rfl) ?_)
    | (with_reducible refine env_build m #[(0, .tmp 28)] #[(0, .int .u64 (m : Int))] bn (by kernel_rfl) rfl (by kernel_rfl) ?_)
    | (with_reducible refine env_build m #[(0, .tmp 38)] #[(0, .int .u64 (m : Int))] bn (by kernel_rfl) rfl (by kernel_rfl) ?_)
    | (with_reducible refine envn_alloc E rfl rfl ?_; clear E; intro b w2 E)
    | (with_reducible refine envn_load E _ (by kernel_rfl) rfl rfl (by first | exact List.mem_cons_self | exact (List.mem_cons_of_mem _ List.mem_cons_self) | exact (List.mem_cons_of_mem _ (List.mem_cons_of_mem _ List.mem_cons_self)) | exact (List.mem_cons_of_mem _ (List.mem_cons_of_mem _ (List.mem_cons_of_mem _ List.mem_cons_self))) | exact (List.mem_cons_of_mem _ (List.mem_cons_of_mem _ (List.mem_cons_of_mem _ (List.mem_cons_of_mem _ List.mem_cons_self)))) | exact (List.mem_cons_of_mem _ (List.mem_cons_of_mem _ (List.mem_cons_of_mem _ (List.mem_cons_of_mem _ (List.mem_cons_of_mem _ List.mem_cons_self))))) | exact (List.mem_cons_of_mem _ (List.mem_cons_of_mem _ (List.mem_cons_of_mem _ (List.mem_cons_of_mem _ (List.mem_cons_of_mem _ (List.mem_cons_of_mem _ List.mem_cons_self)))))) | exact (List.mem_cons_of_mem _ (List.mem_cons_of_mem _ (List.mem_cons_of_mem _ (List.mem_cons_of_mem _ (List.mem_cons_of_mem _ (List.mem_cons_of_mem _ (List.mem_cons_of_mem _ List.mem_cons_self))))))) | exact (List.mem_cons_of_mem _ (List.mem_cons_of_mem _ (List.mem_cons_of_mem _ (List.mem_cons_of_mem _ (List.mem_cons_of_mem _ (List.mem_cons_of_mem _ (List.mem_cons_of_mem _ (List.mem_cons_of_mem _ List.mem_cons_self))))))))) ?_)
    | (refine envn_store 0 E _ _ rfl rfl rfl rfl rfl ?_; clear E; intro w2 E; simp only [List.set_cons_zero, List.set_cons_succ] at E)
    | (refine envn_store 1 E _ _ rfl rfl rfl rfl rfl ?_; clear E; intro w2 E; simp only [List.set_cons_zero, List.set_cons_succ] at E)
    | (refine envn_store 2 E _ _ rfl rfl rfl rfl rfl ?_; clear E; intro w2 E; simp only [List.set_cons_zero, List.set_cons_succ] at E)
    | (refine envn_store 3 E _ _ rfl rfl rfl rfl rfl ?_; clear E; intro w2 E; simp only [List.set_cons_zero, List.set_cons_succ] at E)
    | (refine envn_store 4 E _ _ rfl rfl rfl rfl rfl ?_; clear E; intro w2 E; simp only [List.set_cons_zero, List.set_cons_succ] at E)
    | (refine envn_store 5 E _ _ rfl rfl rfl rfl rfl ?_; clear E; intro w2 E; simp only [List.set_cons_zero, List.set_cons_succ] at E)
    | (refine envn_store 6 E _ _ rfl rfl rfl rfl rfl ?_; clear E; intro w2 E; simp only [List.set_cons_zero, List.set_cons_succ] at E)
    | (refine envn_store 7 E _ _ rfl rfl rfl rfl rfl ?_; clear E; intro w2 E; simp only [List.set_cons_zero, List.set_cons_succ] at E))
  exact bodyPost_ret (res_row_tmp (fn := Try.f44) rfl _ _ _ 4 24 _ _ rfl (E.out.get (by first | exact List.mem_cons_self | exact (List.mem_cons_of_mem _ List.mem_cons_self) | exact (List.mem_cons_of_mem _ (List.mem_cons_of_mem _ List.mem_cons_self)) | exact (List.mem_cons_of_mem _ (List.mem_cons_of_mem _ (List.mem_cons_of_mem _ List.mem_cons_self))) | exact (List.mem_cons_of_mem _ (List.mem_cons_of_mem _ (List.mem_cons_of_mem _ (List.mem_cons_of_mem _ List.mem_cons_self)))) | exact (List.mem_cons_of_mem _ (List.mem_cons_of_mem _ (List.mem_cons_of_mem _ (List.mem_cons_of_mem _ (List.mem_cons_of_mem _ List.mem_cons_self))))) | exact (List.mem_cons_of_mem _ (List.mem_cons_of_mem _ (List.mem_cons_of_mem _ (List.mem_cons_of_mem _ (List.mem_cons_of_mem _ (List.mem_cons_of_mem _ List.mem_cons_self)))))) | exact (List.mem_cons_of_mem _ (List.mem_cons_of_mem _ (List.mem_cons_of_mem _ (List.mem_cons_of_mem _ (List.mem_cons_of_mem _ (List.mem_cons_of_mem _ (List.mem_cons_of_mem _ List.mem_cons_self))))))) | exact (List.mem_cons_of_mem _ (List.mem_cons_of_mem _ (List.mem_cons_of_mem _ (List.mem_cons_of_mem _ (List.mem_cons_of_mem _ (List.mem_cons_of_mem _ (List.mem_cons_of_mem _ (List.mem_cons_of_mem _ List.mem_cons_self)))))))))) Try.underlying24 rfl (by kernel_rfl)) rfl ⟨rfl, E.out.env.below⟩
end Go.Proofs.Ytboffheklkhnkaa
end
section
set_option linter.unusedSimpArgs false
set_option linter.unusedVariables false
namespace Go.Proofs.Ytboffheklkhnkaa
open Go.RowKit Go.Lib Go.Sort
attribute [local go_sem ↓] Go.wp_at_zero Go.wp_at_succ


theorem held_of {n : Nat} {i : Int} (h : i = (n : Int)) (hn : n ≤ 256) : held i = n := by unfold held; omega
theorem ref_expand_on (b : Nat) (hb : b < 4294967296) (hT : isT b) : Gives 44 #[.int .u32 (b : Int)] (.tuple #[wide (tOf b), .int .i64 0]) := by
  obtain ⟨hs, h0, h1⟩ := hT
  have hlt : tOf b < P256 := tOf_lt ⟨hs, h0, h1⟩
  have hne : tOf b ≠ 0 := by have := tOf_pos ⟨hs, h0, h1⟩; omega
  have sm : ∀ w, (Op.equalIn 10000 24 (.agg (arr 4 (wl (tOf b)))) (.agg (arr 4 (wl 0)))).run Try.prog w = .ok false w := fun w => ne_zero_eq (tOf b) hlt hne w
  have hml := exM_lt b
  have hmP : exM b < P256 := Nat.lt_trans hml (by decide)
  by_cases he : exE b < 3
  · have hr := ref_right_any (exM b) (8 * (3 - (exE b : Int))) hmP
    rw [held_of (n := 8 * (3 - exE b)) (by omega) (by omega)] at hr
    have ht : exM b / 2 ^ (8 * (3 - exE b)) = tOf b := by unfold tOf exP exU; rw [if_pos he, if_pos he, Nat.pow_zero, Nat.mul_one]
    rw [ht] at hr
    exact rexp_low b (exE b) (exM b) hb hs rfl rfl (tOf b) (by omega) sm (Lib.hid hr)
  · have hp : exP b = exM b := by unfold exP; rw [if_neg he]
    have hu : exU b = 8 * (exE b - 3) := by unfold exU; rw [if_neg he]
    rw [hp, hu] at h1
    rw [hp] at h0
    have hbp := blen_pos h0
    have hl := ref_left_any (exM b) (8 * ((exE b : Int) - 3))
    rw [held_of (n := 8 * (exE b - 3)) (by omega) (by omega)] at hl
    have ht : exM b * 2 ^ (8 * (exE b - 3)) = tOf b := by unfold tOf; rw [hp, hu]
    rw [ht] at hl
    exact rexp_high b (exE b) (exM b) hb hs rfl rfl (by omega) h0 (blen (exM b)) (tOf b) (blen_le_of hmP) (by omega) sm (Lib.hid (ref_bits_any (exM b) hmP)) (Lib.hid hl)
theorem ref_expand_off (b : Nat) (hb : b < 4294967296) (hT : ¬ isT b) : Gives 44 #[.int .u32 (b : Int)] (.tuple #[wide 0, .int .i64 40]) := by
  by_cases hs : signed b
  · exact rexp_signed b hb hs
  have hml := exM_lt b
  have hmP : exM b < P256 := Nat.lt_trans hml (by decide)
  by_cases he : exE b < 3
  · have hr := ref_right_any (exM b) (8 * (3 - (exE b : Int))) hmP
    rw [held_of (n := 8 * (3 - exE b)) (by omega) (by omega)] at hr
    have hp : exP b = exM b / 2 ^ (8 * (3 - exE b)) := by unfold exP; rw [if_pos he]
    have hu : exU b = 0 := by unfold exU; rw [if_pos he]
    have h0 : exM b / 2 ^ (8 * (3 - exE b)) = 0 := by
      rw [← hp]
      rcases Nat.eq_zero_or_pos (exP b) with h | h
      · exact h
      · exact absurd ⟨hs, by omega, by rw [hu]; have := blen_le_of (k := 23) (exP_lt b); omega⟩ hT
    rw [h0] at hr
    exact rexp_low0 b (exE b) (exM b) hb hs rfl rfl (by omega) (Lib.hid hr)
  · have hp : exP b = exM b := by unfold exP; rw [if_neg he]
    have hu : exU b = 8 * (exE b - 3) := by unfold exU; rw [if_neg he]
    by_cases hz : exM b = 0
    · have hl := ref_left_any 0 (8 * ((exE b : Int) - 3))
      rw [Nat.zero_mul] at hl
      exact rexp_zero b (exE b) (exM b) hb hs rfl rfl (by omega) hz (Lib.hid hl)
    · refine rexp_over b (exE b) (exM b) hb hs rfl rfl (by omega) hz (blen (exM b)) (blen_le_of hmP) ?_ (Lib.hid (ref_bits_any (exM b) hmP))
      have h : ¬ (blen (exP b) + exU b ≤ 256) := fun h => hT ⟨hs, by rw [hp]; exact hz, h⟩
      rw [hp, hu] at h
      omega
end Go.Proofs.Ytboffheklkhnkaa
end
