/- The bits behind a span of seconds: the document's walks. -/
import Derived.Test.YtboffheklkhnkaaMem
import Derived.Test.YtboffheklkhnkaaMeets
import Derived.Test.YtboffheklkhnkaaRcompact
import Derived.Test.YtboffheklkhnkaaRefMul
import Derived.Test.YtboffheklkhnkaaRefDiv
section
set_option linter.unusedSimpArgs false
set_option linter.unusedVariables false
namespace Go.Proofs.Ytboffheklkhnkaa
open Go.RowKit Go.Lib Go.Sort
attribute [local go_sem ↓] Go.wp_at_zero Go.wp_at_succ


theorem built_ones : Try.prog.built 24 (#[(0, .int .u64 18446744073709551615), (1, .int .u64 18446744073709551615), (2, .int .u64 18446744073709551615), (3, .int .u64 18446744073709551615)] : Array (Nat × Value)).toList = some (arr 4 (wl (P256 - 1))) := by kernel_rfl
set_option maxRecDepth 100000 in
set_option maxHeartbeats 4000000 in
theorem rnext_off1 (b m l k : Nat) (s e : Int)
    (X1 : Hid (Gives 44 #[.int .u32 (b : Int)] (.tuple #[wide 0, .int .i64 40])))
    (X2 : Hid (Gives 44 #[.int .u32 (m : Int)] (.tuple #[wide l, .int .i64 e]))) :
    Gives 53 #[.int .u32 (b : Int), .int .u32 (m : Int), .int .i64 s, .int .i64 (k : Int)] (.tuple #[.int .u32 0, .int .i64 40]) := by
  intro w
  have E := Lib.hid (Mem.nil w)
  go_enter Try.func53, Try.ntmps53
  go_wp2_with (first
    | (go_at_call 44; first | ((with_reducible refine (X1.out _).mono ?_); rintro e w1 ⟨rfl, hb⟩; replace E := Lib.hid (E.out.call hb); clear hb) | ((with_reducible refine (X2.out _).mono ?_); rintro e w1 ⟨rfl, hb⟩; replace E := Lib.hid (E.out.call hb); clear hb))
    | (with_reducible refine mem_alloc E 24 rfl rfl info24 ?_; clear E; intro b w2 E; simp only [Value.cells] at E)
    | (with_reducible refine mem_load_row E 24 (by kernel_rfl) _ rfl rfl (by first | exact List.mem_cons_self | exact (List.mem_cons_of_mem _ List.mem_cons_self) | exact (List.mem_cons_of_mem _ (List.mem_cons_of_mem _ List.mem_cons_self)) | exact (List.mem_cons_of_mem _ (List.mem_cons_of_mem _ (List.mem_cons_of_mem _ List.mem_cons_self))) | exact (List.mem_cons_of_mem _ (List.mem_cons_of_mem _ (List.mem_cons_of_mem _ (List.mem_cons_of_mem _ List.mem_cons_self)))) | exact (List.mem_cons_of_mem _ (List.mem_cons_of_mem _ (List.mem_cons_of_mem _ (List.mem_cons_of_mem _ (List.mem_cons_of_mem _ List.mem_cons_self)))))) Try.underlying24 rfl (by kernel_rfl) ?_)
    | (refine mem_store_row 0 E 24 rfl _ _ rfl rfl rfl rfl (by kernel_rfl) rfl (all_wl _) ?_; clear E; intro w2 E; simp only [List.set_cons_zero, List.set_cons_succ] at E)
    | (refine mem_store_row 1 E 24 rfl _ _ rfl rfl rfl rfl (by kernel_rfl) rfl (all_wl _) ?_; clear E; intro w2 E; simp only [List.set_cons_zero, List.set_cons_succ] at E)
    | (refine mem_store_row 2 E 24 rfl _ _ rfl rfl rfl rfl (by kernel_rfl) rfl (all_wl _) ?_; clear E; intro w2 E; simp only [List.set_cons_zero, List.set_cons_succ] at E)
    | (refine mem_store_row 3 E 24 rfl _ _ rfl rfl rfl rfl (by kernel_rfl) rfl (all_wl _) ?_; clear E; intro w2 E; simp only [List.set_cons_zero, List.set_cons_succ] at E)
    | (refine mem_store_row 4 E 24 rfl _ _ rfl rfl rfl rfl (by kernel_rfl) rfl (all_wl _) ?_; clear E; intro w2 E; simp only [List.set_cons_zero, List.set_cons_succ] at E)
    | (refine mem_store_row 5 E 24 rfl _ _ rfl rfl rfl rfl (by kernel_rfl) rfl (all_wl _) ?_; clear E; intro w2 E; simp only [List.set_cons_zero, List.set_cons_succ] at E))
  go_ret2
  exact ⟨rfl, E.out.below⟩
set_option maxRecDepth 100000 in
set_option maxHeartbeats 4000000 in
theorem rnext_off2 (b m t k : Nat) (s : Int)
    (X1 : Hid (Gives 44 #[.int .u32 (b : Int)] (.tuple #[wide t, .int .i64 0])))
    (X2 : Hid (Gives 44 #[.int .u32 (m : Int)] (.tuple #[wide 0, .int .i64 40]))) :
    Gives 53 #[.int .u32 (b : Int), .int .u32 (m : Int), .int .i64 s, .int .i64 (k : Int)] (.tuple #[.int .u32 0, .int .i64 40]) := by
  intro w
  have E := Lib.hid (Mem.nil w)
  go_enter Try.func53, Try.ntmps53
  go_wp2_with (first
    | (go_at_call 44; first | ((with_reducible refine (X1.out _).mono ?_); rintro e w1 ⟨rfl, hb⟩; replace E := Lib.hid (E.out.call hb); clear hb) | ((with_reducible refine (X2.out _).mono ?_); rintro e w1 ⟨rfl, hb⟩; replace E := Lib.hid (E.out.call hb); clear hb))
    | (with_reducible refine mem_alloc E 24 rfl rfl info24 ?_; clear E; intro b w2 E; simp only [Value.cells] at E)
    | (with_reducible refine mem_load_row E 24 (by kernel_rfl) _ rfl rfl (by first | exact List.mem_cons_self | exact (List.mem_cons_of_mem _ List.mem_cons_self) | exact (List.mem_cons_of_mem _ (List.mem_cons_of_mem _ List.mem_cons_self)) | exact (List.mem_cons_of_mem _ (List.mem_cons_of_mem _ (List.mem_cons_of_mem _ List.mem_cons_self))) | exact (List.mem_cons_of_mem _ (List.mem_cons_of_mem _ (List.mem_cons_of_mem _ (List.mem_cons_of_mem _ List.mem_cons_self)))) | exact (List.mem_cons_of_mem _ (List.mem_cons_of_mem _ (List.mem_cons_of_mem _ (List.mem_cons_of_mem _ (List.mem_cons_of_mem _ List.mem_cons_self)))))) Try.underlying24 rfl (by kernel_rfl) ?_)
    | (refine mem_store_row 0 E 24 rfl _ _ rfl rfl rfl rfl (by kernel_rfl) rfl (all_wl _) ?_; clear E; intro w2 E; simp only [List.set_cons_zero, List.set_cons_succ] at E)
    | (refine mem_store_row 1 E 24 rfl _ _ rfl rfl rfl rfl (by kernel_rfl) rfl (all_wl _) ?_; clear E; intro w2 E; simp only [List.set_cons_zero, List.set_cons_succ] at E)
    | (refine mem_store_row 2 E 24 rfl _ _ rfl rfl rfl rfl (by kernel_rfl) rfl (all_wl _) ?_; clear E; intro w2 E; simp only [List.set_cons_zero, List.set_cons_succ] at E)
    | (refine mem_store_row 3 E 24 rfl _ _ rfl rfl rfl rfl (by kernel_rfl) rfl (all_wl _) ?_; clear E; intro w2 E; simp only [List.set_cons_zero, List.set_cons_succ] at E)
    | (refine mem_store_row 4 E 24 rfl _ _ rfl rfl rfl rfl (by kernel_rfl) rfl (all_wl _) ?_; clear E; intro w2 E; simp only [List.set_cons_zero, List.set_cons_succ] at E)
    | (refine mem_store_row 5 E 24 rfl _ _ rfl rfl rfl rfl (by kernel_rfl) rfl (all_wl _) ?_; clear E; intro w2 E; simp only [List.set_cons_zero, List.set_cons_succ] at E))
  go_ret2
  exact ⟨rfl, E.out.below⟩
set_option maxRecDepth 100000 in
set_option maxHeartbeats 4000000 in
theorem rnext_low (b m t l k : Nat) (s : Int) (g : decide ((k : Int) < 4) = true)
    (X1 : Hid (Gives 44 #[.int .u32 (b : Int)] (.tuple #[wide t, .int .i64 0])))
    (X2 : Hid (Gives 44 #[.int .u32 (m : Int)] (.tuple #[wide l, .int .i64 0]))) :
    Gives 53 #[.int .u32 (b : Int), .int .u32 (m : Int), .int .i64 s, .int .i64 (k : Int)] (.tuple #[.int .u32 0, .int .i64 1]) := by
  intro w
  have E := Lib.hid (Mem.nil w)
  go_enter Try.func53, Try.ntmps53
  go_wp2_with (first
    | (go_at_call 44; first | ((with_reducible refine (X1.out _).mono ?_); rintro e w1 ⟨rfl, hb⟩; replace E := Lib.hid (E.out.call hb); clear hb) | ((with_reducible refine (X2.out _).mono ?_); rintro e w1 ⟨rfl, hb⟩; replace E := Lib.hid (E.out.call hb); clear hb))
    | (with_reducible refine mem_alloc E 24 rfl rfl info24 ?_; clear E; intro b w2 E; simp only [Value.cells] at E)
    | (with_reducible refine mem_load_row E 24 (by kernel_rfl) _ rfl rfl (by first | exact List.mem_cons_self | exact (List.mem_cons_of_mem _ List.mem_cons_self) | exact (List.mem_cons_of_mem _ (List.mem_cons_of_mem _ List.mem_cons_self)) | exact (List.mem_cons_of_mem _ (List.mem_cons_of_mem _ (List.mem_cons_of_mem _ List.mem_cons_self))) | exact (List.mem_cons_of_mem _ (List.mem_cons_of_mem _ (List.mem_cons_of_mem _ (List.mem_cons_of_mem _ List.mem_cons_self)))) | exact (List.mem_cons_of_mem _ (List.mem_cons_of_mem _ (List.mem_cons_of_mem _ (List.mem_cons_of_mem _ (List.mem_cons_of_mem _ List.mem_cons_self)))))) Try.underlying24 rfl (by kernel_rfl) ?_)
    | (refine mem_store_row 0 E 24 rfl _ _ rfl rfl rfl rfl (by kernel_rfl) rfl (all_wl _) ?_; clear E; intro w2 E; simp only [List.set_cons_zero, List.set_cons_succ] at E)
    | (refine mem_store_row 1 E 24 rfl _ _ rfl rfl rfl rfl (by kernel_rfl) rfl (all_wl _) ?_; clear E; intro w2 E; simp only [List.set_cons_zero, List.set_cons_succ] at E)
    | (refine mem_store_row 2 E 24 rfl _ _ rfl rfl rfl rfl (by kernel_rfl) rfl (all_wl _) ?_; clear E; intro w2 E; simp only [List.set_cons_zero, List.set_cons_succ] at E)
    | (refine mem_store_row 3 E 24 rfl _ _ rfl rfl rfl rfl (by kernel_rfl) rfl (all_wl _) ?_; clear E; intro w2 E; simp only [List.set_cons_zero, List.set_cons_succ] at E)
    | (refine mem_store_row 4 E 24 rfl _ _ rfl rfl rfl rfl (by kernel_rfl) rfl (all_wl _) ?_; clear E; intro w2 E; simp only [List.set_cons_zero, List.set_cons_succ] at E)
    | (refine mem_store_row 5 E 24 rfl _ _ rfl rfl rfl rfl (by kernel_rfl) rfl (all_wl _) ?_; clear E; intro w2 E; simp only [List.set_cons_zero, List.set_cons_succ] at E))
  go_ret2
  exact ⟨rfl, E.out.below⟩
set_option maxRecDepth 100000 in
set_option maxHeartbeats 4000000 in
theorem rnext_high (b m t l k : Nat) (s : Int) (g : decide ((k : Int) < 4) = false) (g2 : decide (1073741824 < (k : Int)) = true)
    (X1 : Hid (Gives 44 #[.int .u32 (b : Int)] (.tuple #[wide t, .int .i64 0])))
    (X2 : Hid (Gives 44 #[.int .u32 (m : Int)] (.tuple #[wide l, .int .i64 0]))) :
    Gives 53 #[.int .u32 (b : Int), .int .u32 (m : Int), .int .i64 s, .int .i64 (k : Int)] (.tuple #[.int .u32 0, .int .i64 1]) := by
  intro w
  have E := Lib.hid (Mem.nil w)
  go_enter Try.func53, Try.ntmps53
  go_wp2_with (first
    | (go_at_call 44; first | ((with_reducible refine (X1.out _).mono ?_); rintro e w1 ⟨rfl, hb⟩; replace E := Lib.hid (E.out.call hb); clear hb) | ((with_reducible refine (X2.out _).mono ?_); rintro e w1 ⟨rfl, hb⟩; replace E := Lib.hid (E.out.call hb); clear hb))
    | (with_reducible refine mem_alloc E 24 rfl rfl info24 ?_; clear E; intro b w2 E; simp only [Value.cells] at E)
    | (with_reducible refine mem_load_row E 24 (by kernel_rfl) _ rfl rfl (by first | exact List.mem_cons_self | exact (List.mem_cons_of_mem _ List.mem_cons_self) | exact (List.mem_cons_of_mem _ (List.mem_cons_of_mem _ List.mem_cons_self)) | exact (List.mem_cons_of_mem _ (List.mem_cons_of_mem _ (List.mem_cons_of_mem _ List.mem_cons_self))) | exact (List.mem_cons_of_mem _ (List.mem_cons_of_mem _ (List.mem_cons_of_mem _ (List.mem_cons_of_mem _ List.mem_cons_self)))) | exact (List.mem_cons_of_mem _ (List.mem_cons_of_mem _ (List.mem_cons_of_mem _ (List.mem_cons_of_mem _ (List.mem_cons_of_mem _ List.mem_cons_self)))))) Try.underlying24 rfl (by kernel_rfl) ?_)
    | (refine mem_store_row 0 E 24 rfl _ _ rfl rfl rfl rfl (by kernel_rfl) rfl (all_wl _) ?_; clear E; intro w2 E; simp only [List.set_cons_zero, List.set_cons_succ] at E)
    | (refine mem_store_row 1 E 24 rfl _ _ rfl rfl rfl rfl (by kernel_rfl) rfl (all_wl _) ?_; clear E; intro w2 E; simp only [List.set_cons_zero, List.set_cons_succ] at E)
    | (refine mem_store_row 2 E 24 rfl _ _ rfl rfl rfl rfl (by kernel_rfl) rfl (all_wl _) ?_; clear E; intro w2 E; simp only [List.set_cons_zero, List.set_cons_succ] at E)
    | (refine mem_store_row 3 E 24 rfl _ _ rfl rfl rfl rfl (by kernel_rfl) rfl (all_wl _) ?_; clear E; intro w2 E; simp only [List.set_cons_zero, List.set_cons_succ] at E)
    | (refine mem_store_row 4 E 24 rfl _ _ rfl rfl rfl rfl (by kernel_rfl) rfl (all_wl _) ?_; clear E; intro w2 E; simp only [List.set_cons_zero, List.set_cons_succ] at E)
    | (refine mem_store_row 5 E 24 rfl _ _ rfl rfl rfl rfl (by kernel_rfl) rfl (all_wl _) ?_; clear E; intro w2 E; simp only [List.set_cons_zero, List.set_cons_succ] at E))
  go_ret2
  exact ⟨rfl, E.out.below⟩
set_option maxRecDepth 100000 in
set_option maxHeartbeats 4000000 in
theorem rnext_on000 (b m t l u k p n q r c : Nat) (s x : Int) (hs1 : -9223372036854775808 ≤ s) (hs2 : s ≤ 9223372036854775807) (hk : 4 ≤ (k : Int)) (hk2 : (k : Int) ≤ 1073741824) (hu : min (max s ((k : Int) / 4)) ((k : Int) * 4) = (u : Int)) (hx : decide (0 < x) = false) (sm : ∀ w, (Op.equalIn 10000 24 (.agg (arr 4 (wl q))) (.agg (arr 4 (wl 0)))).run Try.prog w = .ok false w)
    (X1 : Hid (Gives 44 #[.int .u32 (b : Int)] (.tuple #[wide t, .int .i64 0])))
    (X2 : Hid (Gives 44 #[.int .u32 (m : Int)] (.tuple #[wide l, .int .i64 0])))
    (MU : Hid (Gives 26 #[wide t, wide u] (.tuple #[wide p, .bool false])))
    (DV : Hid (Gives 28 #[wide p, wide k] (.tuple #[wide q, wide r, .int .i64 0])))
    (CM : Hid (Gives 30 #[wide q, wide l] (.int .i64 x)))
    (CP : Hid (Gives 48 #[wide q] (.int .u32 (c : Int)))) :
    Gives 53 #[.int .u32 (b : Int), .int .u32 (m : Int), .int .i64 s, .int .i64 (k : Int)] (.tuple #[.int .u32 (c : Int), .int .i64 0]) := by
  intro w
  have g : decide ((k : Int) < 4) = false := decide_eq_false (by omega)
  have g2 : decide (1073741824 < (k : Int)) = false := decide_eq_false (by omega)
  have bu := built_n u (by omega)
  have bk := built_n k (by omega)
  have E := Lib.hid (Mem.nil w)
  go_enter Try.func53, Try.ntmps53
  go_wp2_with (first
    | (go_at_call 44; first | ((with_reducible refine (X1.out _).mono ?_); rintro e w1 ⟨rfl, hb⟩; replace E := Lib.hid (E.out.call hb); clear hb) | ((with_reducible refine (X2.out _).mono ?_); rintro e w1 ⟨rfl, hb⟩; replace E := Lib.hid (E.out.call hb); clear hb))
    | (go_at_call 26; refine (MU.out _).mono ?_; rintro e w1 ⟨rfl, hb⟩; replace E := Lib.hid (E.out.call hb); clear hb)
    | (go_at_call 28; refine (DV.out _).mono ?_; rintro e w1 ⟨rfl, hb⟩; replace E := Lib.hid (E.out.call hb); clear hb)
    | (go_at_call 30; refine (CM.out _).mono ?_; rintro e w1 ⟨rfl, hb⟩; replace E := Lib.hid (E.out.call hb); clear hb)
    | (go_at_call 48; refine (CP.out _).mono ?_; rintro e w1 ⟨rfl, hb⟩; replace E := Lib.hid (E.out.call hb); clear hb)
    | (with_reducible refine env_build 0 #[] #[] built_0 (by kernel_rfl) rfl (by kernel_rfl) ?_)
    | (with_reducible refine env_build 1 #[(0, .const (.int .u64 1))] #[(0, .int .u64 1)] built_1 (by kernel_rfl) rfl (by kernel_rfl) ?_)
    | (with_reducible refine env_build u #[(0, .tmp 51)] #[(0, .int .u64 (u : Int))] bu (by kernel_rfl) rfl (by kernel_rfl) ?_)
    | (with_reducible refine env_build k #[(0, .tmp 61)] #[(0, .int .u64 (k : Int))] bk (by kernel_rfl) rfl (by kernel_rfl) ?_)
    | (with_reducible refine mem_alloc E 24 rfl rfl info24 ?_; clear E; intro b w2 E; simp only [Value.cells] at E)
    | (with_reducible refine mem_load_row E 24 (by kernel_rfl) _ rfl rfl (by first | exact List.mem_cons_self | exact (List.mem_cons_of_mem _ List.mem_cons_self) | exact (List.mem_cons_of_mem _ (List.mem_cons_of_mem _ List.mem_cons_self)) | exact (List.mem_cons_of_mem _ (List.mem_cons_of_mem _ (List.mem_cons_of_mem _ List.mem_cons_self))) | exact (List.mem_cons_of_mem _ (List.mem_cons_of_mem _ (List.mem_cons_of_mem _ (List.mem_cons_of_mem _ List.mem_cons_self)))) | exact (List.mem_cons_of_mem _ (List.mem_cons_of_mem _ (List.mem_cons_of_mem _ (List.mem_cons_of_mem _ (List.mem_cons_of_mem _ List.mem_cons_self)))))) Try.underlying24 rfl (by kernel_rfl) ?_)
    | (refine mem_store_row 0 E 24 rfl _ _ rfl rfl rfl rfl (by kernel_rfl) rfl (all_wl _) ?_; clear E; intro w2 E; simp only [List.set_cons_zero, List.set_cons_succ] at E)
    | (refine mem_store_row 1 E 24 rfl _ _ rfl rfl rfl rfl (by kernel_rfl) rfl (all_wl _) ?_; clear E; intro w2 E; simp only [List.set_cons_zero, List.set_cons_succ] at E)
    | (refine mem_store_row 2 E 24 rfl _ _ rfl rfl rfl rfl (by kernel_rfl) rfl (all_wl _) ?_; clear E; intro w2 E; simp only [List.set_cons_zero, List.set_cons_succ] at E)
    | (refine mem_store_row 3 E 24 rfl _ _ rfl rfl rfl rfl (by kernel_rfl) rfl (all_wl _) ?_; clear E; intro w2 E; simp only [List.set_cons_zero, List.set_cons_succ] at E)
    | (refine mem_store_row 4 E 24 rfl _ _ rfl rfl rfl rfl (by kernel_rfl) rfl (all_wl _) ?_; clear E; intro w2 E; simp only [List.set_cons_zero, List.set_cons_succ] at E)
    | (refine mem_store_row 5 E 24 rfl _ _ rfl rfl rfl rfl (by kernel_rfl) rfl (all_wl _) ?_; clear E; intro w2 E; simp only [List.set_cons_zero, List.set_cons_succ] at E))
  go_ret2
  exact ⟨rfl, E.out.below⟩
set_option maxRecDepth 100000 in
set_option maxHeartbeats 4000000 in
theorem rnext_on001 (b m t l u k p n q r c : Nat) (s x : Int) (hs1 : -9223372036854775808 ≤ s) (hs2 : s ≤ 9223372036854775807) (hk : 4 ≤ (k : Int)) (hk2 : (k : Int) ≤ 1073741824) (hu : min (max s ((k : Int) / 4)) ((k : Int) * 4) = (u : Int)) (hx : decide (0 < x) = true) (sm : ∀ w, (Op.equalIn 10000 24 (.agg (arr 4 (wl q))) (.agg (arr 4 (wl 0)))).run Try.prog w = .ok false w)
    (X1 : Hid (Gives 44 #[.int .u32 (b : Int)] (.tuple #[wide t, .int .i64 0])))
    (X2 : Hid (Gives 44 #[.int .u32 (m : Int)] (.tuple #[wide l, .int .i64 0])))
    (MU : Hid (Gives 26 #[wide t, wide u] (.tuple #[wide p, .bool false])))
    (DV : Hid (Gives 28 #[wide p, wide k] (.tuple #[wide q, wide r, .int .i64 0])))
    (CM : Hid (Gives 30 #[wide q, wide l] (.int .i64 x)))
    (CP : Hid (Gives 48 #[wide l] (.int .u32 (c : Int)))) :
    Gives 53 #[.int .u32 (b : Int), .int .u32 (m : Int), .int .i64 s, .int .i64 (k : Int)] (.tuple #[.int .u32 (c : Int), .int .i64 0]) := by
  intro w
  have g : decide ((k : Int) < 4) = false := decide_eq_false (by omega)
  have g2 : decide (1073741824 < (k : Int)) = false := decide_eq_false (by omega)
  have bu := built_n u (by omega)
  have bk := built_n k (by omega)
  have E := Lib.hid (Mem.nil w)
  go_enter Try.func53, Try.ntmps53
  go_wp2_with (first
    | (go_at_call 44; first | ((with_reducible refine (X1.out _).mono ?_); rintro e w1 ⟨rfl, hb⟩; replace E := Lib.hid (E.out.call hb); clear hb) | ((with_reducible refine (X2.out _).mono ?_); rintro e w1 ⟨rfl, hb⟩; replace E := Lib.hid (E.out.call hb); clear hb))
    | (go_at_call 26; refine (MU.out _).mono ?_; rintro e w1 ⟨rfl, hb⟩; replace E := Lib.hid (E.out.call hb); clear hb)
    | (go_at_call 28; refine (DV.out _).mono ?_; rintro e w1 ⟨rfl, hb⟩; replace E := Lib.hid (E.out.call hb); clear hb)
    | (go_at_call 30; refine (CM.out _).mono ?_; rintro e w1 ⟨rfl, hb⟩; replace E := Lib.hid (E.out.call hb); clear hb)
    | (go_at_call 48; refine (CP.out _).mono ?_; rintro e w1 ⟨rfl, hb⟩; replace E := Lib.hid (E.out.call hb); clear hb)
    | (with_reducible refine env_build 0 #[] #[] built_0 (by kernel_rfl) rfl (by kernel_rfl) ?_)
    | (with_reducible refine env_build 1 #[(0, .const (.int .u64 1))] #[(0, .int .u64 1)] built_1 (by kernel_rfl) rfl (by kernel_rfl) ?_)
    | (with_reducible refine env_build u #[(0, .tmp 51)] #[(0, .int .u64 (u : Int))] bu (by kernel_rfl) rfl (by kernel_rfl) ?_)
    | (with_reducible refine env_build k #[(0, .tmp 61)] #[(0, .int .u64 (k : Int))] bk (by kernel_rfl) rfl (by kernel_rfl) ?_)
    | (with_reducible refine mem_alloc E 24 rfl rfl info24 ?_; clear E; intro b w2 E; simp only [Value.cells] at E)
    | (with_reducible refine mem_load_row E 24 (by kernel_rfl) _ rfl rfl (by first | exact List.mem_cons_self | exact (List.mem_cons_of_mem _ List.mem_cons_self) | exact (List.mem_cons_of_mem _ (List.mem_cons_of_mem _ List.mem_cons_self)) | exact (List.mem_cons_of_mem _ (List.mem_cons_of_mem _ (List.mem_cons_of_mem _ List.mem_cons_self))) | exact (List.mem_cons_of_mem _ (List.mem_cons_of_mem _ (List.mem_cons_of_mem _ (List.mem_cons_of_mem _ List.mem_cons_self)))) | exact (List.mem_cons_of_mem _ (List.mem_cons_of_mem _ (List.mem_cons_of_mem _ (List.mem_cons_of_mem _ (List.mem_cons_of_mem _ List.mem_cons_self)))))) Try.underlying24 rfl (by kernel_rfl) ?_)
    | (refine mem_store_row 0 E 24 rfl _ _ rfl rfl rfl rfl (by kernel_rfl) rfl (all_wl _) ?_; clear E; intro w2 E; simp only [List.set_cons_zero, List.set_cons_succ] at E)
    | (refine mem_store_row 1 E 24 rfl _ _ rfl rfl rfl rfl (by kernel_rfl) rfl (all_wl _) ?_; clear E; intro w2 E; simp only [List.set_cons_zero, List.set_cons_succ] at E)
    | (refine mem_store_row 2 E 24 rfl _ _ rfl rfl rfl rfl (by kernel_rfl) rfl (all_wl _) ?_; clear E; intro w2 E; simp only [List.set_cons_zero, List.set_cons_succ] at E)
    | (refine mem_store_row 3 E 24 rfl _ _ rfl rfl rfl rfl (by kernel_rfl) rfl (all_wl _) ?_; clear E; intro w2 E; simp only [List.set_cons_zero, List.set_cons_succ] at E)
    | (refine mem_store_row 4 E 24 rfl _ _ rfl rfl rfl rfl (by kernel_rfl) rfl (all_wl _) ?_; clear E; intro w2 E; simp only [List.set_cons_zero, List.set_cons_succ] at E)
    | (refine mem_store_row 5 E 24 rfl _ _ rfl rfl rfl rfl (by kernel_rfl) rfl (all_wl _) ?_; clear E; intro w2 E; simp only [List.set_cons_zero, List.set_cons_succ] at E))
  go_ret2
  exact ⟨rfl, E.out.below⟩
set_option maxRecDepth 100000 in
set_option maxHeartbeats 4000000 in
theorem rnext_on010 (b m t l u k p n q r c : Nat) (s x : Int) (hs1 : -9223372036854775808 ≤ s) (hs2 : s ≤ 9223372036854775807) (hk : 4 ≤ (k : Int)) (hk2 : (k : Int) ≤ 1073741824) (hu : min (max s ((k : Int) / 4)) ((k : Int) * 4) = (u : Int)) (hx : decide (0 < x) = false)
    (X1 : Hid (Gives 44 #[.int .u32 (b : Int)] (.tuple #[wide t, .int .i64 0])))
    (X2 : Hid (Gives 44 #[.int .u32 (m : Int)] (.tuple #[wide l, .int .i64 0])))
    (MU : Hid (Gives 26 #[wide t, wide u] (.tuple #[wide p, .bool false])))
    (DV : Hid (Gives 28 #[wide p, wide k] (.tuple #[wide 0, wide r, .int .i64 0])))
    (CM : Hid (Gives 30 #[wide 1, wide l] (.int .i64 x)))
    (CP : Hid (Gives 48 #[wide 1] (.int .u32 (c : Int)))) :
    Gives 53 #[.int .u32 (b : Int), .int .u32 (m : Int), .int .i64 s, .int .i64 (k : Int)] (.tuple #[.int .u32 (c : Int), .int .i64 0]) := by
  intro w
  have g : decide ((k : Int) < 4) = false := decide_eq_false (by omega)
  have g2 : decide (1073741824 < (k : Int)) = false := decide_eq_false (by omega)
  have bu := built_n u (by omega)
  have bk := built_n k (by omega)
  have sm := same_wide 0
  have E := Lib.hid (Mem.nil w)
  go_enter Try.func53, Try.ntmps53
  go_wp2_with (first
    | (go_at_call 44; first | ((with_reducible refine (X1.out _).mono ?_); rintro e w1 ⟨rfl, hb⟩; replace E := Lib.hid (E.out.call hb); clear hb) | ((with_reducible refine (X2.out _).mono ?_); rintro e w1 ⟨rfl, hb⟩; replace E := Lib.hid (E.out.call hb); clear hb))
    | (go_at_call 26; refine (MU.out _).mono ?_; rintro e w1 ⟨rfl, hb⟩; replace E := Lib.hid (E.out.call hb); clear hb)
    | (go_at_call 28; refine (DV.out _).mono ?_; rintro e w1 ⟨rfl, hb⟩; replace E := Lib.hid (E.out.call hb); clear hb)
    | (go_at_call 30; refine (CM.out _).mono ?_; rintro e w1 ⟨rfl, hb⟩; replace E := Lib.hid (E.out.call hb); clear hb)
    | (go_at_call 48; refine (CP.out _).mono ?_; rintro e w1 ⟨rfl, hb⟩; replace E := Lib.hid (E.out.call hb); clear hb)
    | (with_reducible refine env_build 0 #[] #[] built_0 (by kernel_rfl) rfl (by kernel_rfl) ?_)
    | (with_reducible refine env_build 1 #[(0, .const (.int .u64 1))] #[(0, .int .u64 1)] built_1 (by kernel_rfl) rfl (by kernel_rfl) ?_)
    | (with_reducible refine env_build u #[(0, .tmp 51)] #[(0, .int .u64 (u : Int))] bu (by kernel_rfl) rfl (by kernel_rfl) ?_)
    | (with_reducible refine env_build k #[(0, .tmp 61)] #[(0, .int .u64 (k : Int))] bk (by kernel_rfl) rfl (by kernel_rfl) ?_)
    | (with_reducible refine mem_alloc E 24 rfl rfl info24 ?_; clear E; intro b w2 E; simp only [Value.cells] at E)
    | (with_reducible refine mem_load_row E 24 (by kernel_rfl) _ rfl rfl (by first | exact List.mem_cons_self | exact (List.mem_cons_of_mem _ List.mem_cons_self) | exact (List.mem_cons_of_mem _ (List.mem_cons_of_mem _ List.mem_cons_self)) | exact (List.mem_cons_of_mem _ (List.mem_cons_of_mem _ (List.mem_cons_of_mem _ List.mem_cons_self))) | exact (List.mem_cons_of_mem _ (List.mem_cons_of_mem _ (List.mem_cons_of_mem _ (List.mem_cons_of_mem _ List.mem_cons_self)))) | exact (List.mem_cons_of_mem _ (List.mem_cons_of_mem _ (List.mem_cons_of_mem _ (List.mem_cons_of_mem _ (List.mem_cons_of_mem _ List.mem_cons_self)))))) Try.underlying24 rfl (by kernel_rfl) ?_)
    | (refine mem_store_row 0 E 24 rfl _ _ rfl rfl rfl rfl (by kernel_rfl) rfl (all_wl _) ?_; clear E; intro w2 E; simp only [List.set_cons_zero, List.set_cons_succ] at E)
    | (refine mem_store_row 1 E 24 rfl _ _ rfl rfl rfl rfl (by kernel_rfl) rfl (all_wl _) ?_; clear E; intro w2 E; simp only [List.set_cons_zero, List.set_cons_succ] at E)
    | (refine mem_store_row 2 E 24 rfl _ _ rfl rfl rfl rfl (by kernel_rfl) rfl (all_wl _) ?_; clear E; intro w2 E; simp only [List.set_cons_zero, List.set_cons_succ] at E)
    | (refine mem_store_row 3 E 24 rfl _ _ rfl rfl rfl rfl (by kernel_rfl) rfl (all_wl _) ?_; clear E; intro w2 E; simp only [List.set_cons_zero, List.set_cons_succ] at E)
    | (refine mem_store_row 4 E 24 rfl _ _ rfl rfl rfl rfl (by kernel_rfl) rfl (all_wl _) ?_; clear E; intro w2 E; simp only [List.set_cons_zero, List.set_cons_succ] at E)
    | (refine mem_store_row 5 E 24 rfl _ _ rfl rfl rfl rfl (by kernel_rfl) rfl (all_wl _) ?_; clear E; intro w2 E; simp only [List.set_cons_zero, List.set_cons_succ] at E))
  go_ret2
  exact ⟨rfl, E.out.below⟩
set_option maxRecDepth 100000 in
set_option maxHeartbeats 4000000 in
theorem rnext_on011 (b m t l u k p n q r c : Nat) (s x : Int) (hs1 : -9223372036854775808 ≤ s) (hs2 : s ≤ 9223372036854775807) (hk : 4 ≤ (k : Int)) (hk2 : (k : Int) ≤ 1073741824) (hu : min (max s ((k : Int) / 4)) ((k : Int) * 4) = (u : Int)) (hx : decide (0 < x) = true)
    (X1 : Hid (Gives 44 #[.int .u32 (b : Int)] (.tuple #[wide t, .int .i64 0])))
    (X2 : Hid (Gives 44 #[.int .u32 (m : Int)] (.tuple #[wide l, .int .i64 0])))
    (MU : Hid (Gives 26 #[wide t, wide u] (.tuple #[wide p, .bool false])))
    (DV : Hid (Gives 28 #[wide p, wide k] (.tuple #[wide 0, wide r, .int .i64 0])))
    (CM : Hid (Gives 30 #[wide 1, wide l] (.int .i64 x)))
    (CP : Hid (Gives 48 #[wide l] (.int .u32 (c : Int)))) :
    Gives 53 #[.int .u32 (b : Int), .int .u32 (m : Int), .int .i64 s, .int .i64 (k : Int)] (.tuple #[.int .u32 (c : Int), .int .i64 0]) := by
  intro w
  have g : decide ((k : Int) < 4) = false := decide_eq_false (by omega)
  have g2 : decide (1073741824 < (k : Int)) = false := decide_eq_false (by omega)
  have bu := built_n u (by omega)
  have bk := built_n k (by omega)
  have sm := same_wide 0
  have E := Lib.hid (Mem.nil w)
  go_enter Try.func53, Try.ntmps53
  go_wp2_with (first
    | (go_at_call 44; first | ((with_reducible refine (X1.out _).mono ?_); rintro e w1 ⟨rfl, hb⟩; replace E := Lib.hid (E.out.call hb); clear hb) | ((with_reducible refine (X2.out _).mono ?_); rintro e w1 ⟨rfl, hb⟩; replace E := Lib.hid (E.out.call hb); clear hb))
    | (go_at_call 26; refine (MU.out _).mono ?_; rintro e w1 ⟨rfl, hb⟩; replace E := Lib.hid (E.out.call hb); clear hb)
    | (go_at_call 28; refine (DV.out _).mono ?_; rintro e w1 ⟨rfl, hb⟩; replace E := Lib.hid (E.out.call hb); clear hb)
    | (go_at_call 30; refine (CM.out _).mono ?_; rintro e w1 ⟨rfl, hb⟩; replace E := Lib.hid (E.out.call hb); clear hb)
    | (go_at_call 48; refine (CP.out _).mono ?_; rintro e w1 ⟨rfl, hb⟩; replace E := Lib.hid (E.out.call hb); clear hb)
    | (with_reducible refine env_build 0 #[] #[] built_0 (by kernel_rfl) rfl (by kernel_rfl) ?_)
    | (with_reducible refine env_build 1 #[(0, .const (.int .u64 1))] #[(0, .int .u64 1)] built_1 (by kernel_rfl) rfl (by kernel_rfl) ?_)
    | (with_reducible refine env_build u #[(0, .tmp 51)] #[(0, .int .u64 (u : Int))] bu (by kernel_rfl) rfl (by kernel_rfl) ?_)
    | (with_reducible refine env_build k #[(0, .tmp 61)] #[(0, .int .u64 (k : Int))] bk (by kernel_rfl) rfl (by kernel_rfl) ?_)
    | (with_reducible refine mem_alloc E 24 rfl rfl info24 ?_; clear E; intro b w2 E; simp only [Value.cells] at E)
    | (with_reducible refine mem_load_row E 24 (by kernel_rfl) _ rfl rfl (by first | exact List.mem_cons_self | exact (List.mem_cons_of_mem _ List.mem_cons_self) | exact (List.mem_cons_of_mem _ (List.mem_cons_of_mem _ List.mem_cons_self)) | exact (List.mem_cons_of_mem _ (List.mem_cons_of_mem _ (List.mem_cons_of_mem _ List.mem_cons_self))) | exact (List.mem_cons_of_mem _ (List.mem_cons_of_mem _ (List.mem_cons_of_mem _ (List.mem_cons_of_mem _ List.mem_cons_self)))) | exact (List.mem_cons_of_mem _ (List.mem_cons_of_mem _ (List.mem_cons_of_mem _ (List.mem_cons_of_mem _ (List.mem_cons_of_mem _ List.mem_cons_self)))))) Try.underlying24 rfl (by kernel_rfl) ?_)
    | (refine mem_store_row 0 E 24 rfl _ _ rfl rfl rfl rfl (by kernel_rfl) rfl (all_wl _) ?_; clear E; intro w2 E; simp only [List.set_cons_zero, List.set_cons_succ] at E)
    | (refine mem_store_row 1 E 24 rfl _ _ rfl rfl rfl rfl (by kernel_rfl) rfl (all_wl _) ?_; clear E; intro w2 E; simp only [List.set_cons_zero, List.set_cons_succ] at E)
    | (refine mem_store_row 2 E 24 rfl _ _ rfl rfl rfl rfl (by kernel_rfl) rfl (all_wl _) ?_; clear E; intro w2 E; simp only [List.set_cons_zero, List.set_cons_succ] at E)
    | (refine mem_store_row 3 E 24 rfl _ _ rfl rfl rfl rfl (by kernel_rfl) rfl (all_wl _) ?_; clear E; intro w2 E; simp only [List.set_cons_zero, List.set_cons_succ] at E)
    | (refine mem_store_row 4 E 24 rfl _ _ rfl rfl rfl rfl (by kernel_rfl) rfl (all_wl _) ?_; clear E; intro w2 E; simp only [List.set_cons_zero, List.set_cons_succ] at E)
    | (refine mem_store_row 5 E 24 rfl _ _ rfl rfl rfl rfl (by kernel_rfl) rfl (all_wl _) ?_; clear E; intro w2 E; simp only [List.set_cons_zero, List.set_cons_succ] at E))
  go_ret2
  exact ⟨rfl, E.out.below⟩
set_option maxRecDepth 100000 in
set_option maxHeartbeats 4000000 in
theorem rnext_on100 (b m t l u k p n q r c : Nat) (s x : Int) (hs1 : -9223372036854775808 ≤ s) (hs2 : s ≤ 9223372036854775807) (hk : 4 ≤ (k : Int)) (hk2 : (k : Int) ≤ 1073741824) (hu : min (max s ((k : Int) / 4)) ((k : Int) * 4) = (u : Int)) (hn : Try.prog.built 24 (#[(0, .int .u64 18446744073709551615), (1, .int .u64 18446744073709551615), (2, .int .u64 18446744073709551615), (3, .int .u64 18446744073709551615)] : Array (Nat × Value)).toList = some (arr 4 (wl n))) (hx : decide (0 < x) = false) (sm : ∀ w, (Op.equalIn 10000 24 (.agg (arr 4 (wl q))) (.agg (arr 4 (wl 0)))).run Try.prog w = .ok false w)
    (X1 : Hid (Gives 44 #[.int .u32 (b : Int)] (.tuple #[wide t, .int .i64 0])))
    (X2 : Hid (Gives 44 #[.int .u32 (m : Int)] (.tuple #[wide l, .int .i64 0])))
    (MU : Hid (Gives 26 #[wide t, wide u] (.tuple #[wide p, .bool true])))
    (DV : Hid (Gives 28 #[wide n, wide k] (.tuple #[wide q, wide r, .int .i64 0])))
    (CM : Hid (Gives 30 #[wide q, wide l] (.int .i64 x)))
    (CP : Hid (Gives 48 #[wide q] (.int .u32 (c : Int)))) :
    Gives 53 #[.int .u32 (b : Int), .int .u32 (m : Int), .int .i64 s, .int .i64 (k : Int)] (.tuple #[.int .u32 (c : Int), .int .i64 0]) := by
  intro w
  have g : decide ((k : Int) < 4) = false := decide_eq_false (by omega)
  have g2 : decide (1073741824 < (k : Int)) = false := decide_eq_false (by omega)
  have bu := built_n u (by omega)
  have bk := built_n k (by omega)
  have E := Lib.hid (Mem.nil w)
  go_enter Try.func53, Try.ntmps53
  go_wp2_with (first
    | (go_at_call 44; first | ((with_reducible refine (X1.out _).mono ?_); rintro e w1 ⟨rfl, hb⟩; replace E := Lib.hid (E.out.call hb); clear hb) | ((with_reducible refine (X2.out _).mono ?_); rintro e w1 ⟨rfl, hb⟩; replace E := Lib.hid (E.out.call hb); clear hb))
    | (go_at_call 26; refine (MU.out _).mono ?_; rintro e w1 ⟨rfl, hb⟩; replace E := Lib.hid (E.out.call hb); clear hb)
    | (go_at_call 28; refine (DV.out _).mono ?_; rintro e w1 ⟨rfl, hb⟩; replace E := Lib.hid (E.out.call hb); clear hb)
    | (go_at_call 30; refine (CM.out _).mono ?_; rintro e w1 ⟨rfl, hb⟩; replace E := Lib.hid (E.out.call hb); clear hb)
    | (go_at_call 48; refine (CP.out _).mono ?_; rintro e w1 ⟨rfl, hb⟩; replace E := Lib.hid (E.out.call hb); clear hb)
    | (with_reducible refine env_build 0 #[] #[] built_0 (by kernel_rfl) rfl (by kernel_rfl) ?_)
    | (with_reducible refine env_build 1 #[(0, .const (.int .u64 1))] #[(0, .int .u64 1)] built_1 (by kernel_rfl) rfl (by kernel_rfl) ?_)
    | (with_reducible refine env_build u #[(0, .tmp 51)] #[(0, .int .u64 (u : Int))] bu (by kernel_rfl) rfl (by kernel_rfl) ?_)
    | (with_reducible refine env_build k #[(0, .tmp 61)] #[(0, .int .u64 (k : Int))] bk (by kernel_rfl) rfl (by kernel_rfl) ?_)
    | (with_reducible refine env_build n #[(0, .const (.int .u64 18446744073709551615)), (1, .const (.int .u64 18446744073709551615)), (2, .const (.int .u64 18446744073709551615)), (3, .const (.int .u64 18446744073709551615))] #[(0, .int .u64 18446744073709551615), (1, .int .u64 18446744073709551615), (2, .int .u64 18446744073709551615), (3, .int .u64 18446744073709551615)] hn (by kernel_rfl) rfl (by kernel_rfl) ?_)
    | (with_reducible refine mem_alloc E 24 rfl rfl info24 ?_; clear E; intro b w2 E; simp only [Value.cells] at E)
    | (with_reducible refine mem_load_row E 24 (by kernel_rfl) _ rfl rfl (by first | exact List.mem_cons_self | exact (List.mem_cons_of_mem _ List.mem_cons_self) | exact (List.mem_cons_of_mem _ (List.mem_cons_of_mem _ List.mem_cons_self)) | exact (List.mem_cons_of_mem _ (List.mem_cons_of_mem _ (List.mem_cons_of_mem _ List.mem_cons_self))) | exact (List.mem_cons_of_mem _ (List.mem_cons_of_mem _ (List.mem_cons_of_mem _ (List.mem_cons_of_mem _ List.mem_cons_self)))) | exact (List.mem_cons_of_mem _ (List.mem_cons_of_mem _ (List.mem_cons_of_mem _ (List.mem_cons_of_mem _ (List.mem_cons_of_mem _ List.mem_cons_self)))))) Try.underlying24 rfl (by kernel_rfl) ?_)
    | (refine mem_store_row 0 E 24 rfl _ _ rfl rfl rfl rfl (by kernel_rfl) rfl (all_wl _) ?_; clear E; intro w2 E; simp only [List.set_cons_zero, List.set_cons_succ] at E)
    | (refine mem_store_row 1 E 24 rfl _ _ rfl rfl rfl rfl (by kernel_rfl) rfl (all_wl _) ?_; clear E; intro w2 E; simp only [List.set_cons_zero, List.set_cons_succ] at E)
    | (refine mem_store_row 2 E 24 rfl _ _ rfl rfl rfl rfl (by kernel_rfl) rfl (all_wl _) ?_; clear E; intro w2 E; simp only [List.set_cons_zero, List.set_cons_succ] at E)
    | (refine mem_store_row 3 E 24 rfl _ _ rfl rfl rfl rfl (by kernel_rfl) rfl (all_wl _) ?_; clear E; intro w2 E; simp only [List.set_cons_zero, List.set_cons_succ] at E)
    | (refine mem_store_row 4 E 24 rfl _ _ rfl rfl rfl rfl (by kernel_rfl) rfl (all_wl _) ?_; clear E; intro w2 E; simp only [List.set_cons_zero, List.set_cons_succ] at E)
    | (refine mem_store_row 5 E 24 rfl _ _ rfl rfl rfl rfl (by kernel_rfl) rfl (all_wl _) ?_; clear E; intro w2 E; simp only [List.set_cons_zero, List.set_cons_succ] at E))
  go_ret2
  exact ⟨rfl, E.out.below⟩
set_option maxRecDepth 100000 in
set_option maxHeartbeats 4000000 in
theorem rnext_on101 (b m t l u k p n q r c : Nat) (s x : Int) (hs1 : -9223372036854775808 ≤ s) (hs2 : s ≤ 9223372036854775807) (hk : 4 ≤ (k : Int)) (hk2 : (k : Int) ≤ 1073741824) (hu : min (max s ((k : Int) / 4)) ((k : Int) * 4) = (u : Int)) (hn : Try.prog.built 24 (#[(0, .int .u64 18446744073709551615), (1, .int .u64 18446744073709551615), (2, .int .u64 18446744073709551615), (3, .int .u64 18446744073709551615)] : Array (Nat × Value)).toList = some (arr 4 (wl n))) (hx : decide (0 < x) = true) (sm : ∀ w, (Op.equalIn 10000 24 (.agg (arr 4 (wl q))) (.agg (arr 4 (wl 0)))).run Try.prog w = .ok false w)
    (X1 : Hid (Gives 44 #[.int .u32 (b : Int)] (.tuple #[wide t, .int .i64 0])))
    (X2 : Hid (Gives 44 #[.int .u32 (m : Int)] (.tuple #[wide l, .int .i64 0])))
    (MU : Hid (Gives 26 #[wide t, wide u] (.tuple #[wide p, .bool true])))
    (DV : Hid (Gives 28 #[wide n, wide k] (.tuple #[wide q, wide r, .int .i64 0])))
    (CM : Hid (Gives 30 #[wide q, wide l] (.int .i64 x)))
    (CP : Hid (Gives 48 #[wide l] (.int .u32 (c : Int)))) :
    Gives 53 #[.int .u32 (b : Int), .int .u32 (m : Int), .int .i64 s, .int .i64 (k : Int)] (.tuple #[.int .u32 (c : Int), .int .i64 0]) := by
  intro w
  have g : decide ((k : Int) < 4) = false := decide_eq_false (by omega)
  have g2 : decide (1073741824 < (k : Int)) = false := decide_eq_false (by omega)
  have bu := built_n u (by omega)
  have bk := built_n k (by omega)
  have E := Lib.hid (Mem.nil w)
  go_enter Try.func53, Try.ntmps53
  go_wp2_with (first
    | (go_at_call 44; first | ((with_reducible refine (X1.out _).mono ?_); rintro e w1 ⟨rfl, hb⟩; replace E := Lib.hid (E.out.call hb); clear hb) | ((with_reducible refine (X2.out _).mono ?_); rintro e w1 ⟨rfl, hb⟩; replace E := Lib.hid (E.out.call hb); clear hb))
    | (go_at_call 26; refine (MU.out _).mono ?_; rintro e w1 ⟨rfl, hb⟩; replace E := Lib.hid (E.out.call hb); clear hb)
    | (go_at_call 28; refine (DV.out _).mono ?_; rintro e w1 ⟨rfl, hb⟩; replace E := Lib.hid (E.out.call hb); clear hb)
    | (go_at_call 30; refine (CM.out _).mono ?_; rintro e w1 ⟨rfl, hb⟩; replace E := Lib.hid (E.out.call hb); clear hb)
    | (go_at_call 48; refine (CP.out _).mono ?_; rintro e w1 ⟨rfl, hb⟩; replace E := Lib.hid (E.out.call hb); clear hb)
    | (with_reducible refine env_build 0 #[] #[] built_0 (by kernel_rfl) rfl (by kernel_rfl) ?_)
    | (with_reducible refine env_build 1 #[(0, .const (.int .u64 1))] #[(0, .int .u64 1)] built_1 (by kernel_rfl) rfl (by kernel_rfl) ?_)
    | (with_reducible refine env_build u #[(0, .tmp 51)] #[(0, .int .u64 (u : Int))] bu (by kernel_rfl) rfl (by kernel_rfl) ?_)
    | (with_reducible refine env_build k #[(0, .tmp 61)] #[(0, .int .u64 (k : Int))] bk (by kernel_rfl) rfl (by kernel_rfl) ?_)
    | (with_reducible refine env_build n #[(0, .const (.int .u64 18446744073709551615)), (1, .const (.int .u64 18446744073709551615)), (2, .const (.int .u64 18446744073709551615)), (3, .const (.int .u64 18446744073709551615))] #[(0, .int .u64 18446744073709551615), (1, .int .u64 18446744073709551615), (2, .int .u64 18446744073709551615), (3, .int .u64 18446744073709551615)] hn (by kernel_rfl) rfl (by kernel_rfl) ?_)
    | (with_reducible refine mem_alloc E 24 rfl rfl info24 ?_; clear E; intro b w2 E; simp only [Value.cells] at E)
    | (with_reducible refine mem_load_row E 24 (by kernel_rfl) _ rfl rfl (by first | exact List.mem_cons_self | exact (List.mem_cons_of_mem _ List.mem_cons_self) | exact (List.mem_cons_of_mem _ (List.mem_cons_of_mem _ List.mem_cons_self)) | exact (List.mem_cons_of_mem _ (List.mem_cons_of_mem _ (List.mem_cons_of_mem _ List.mem_cons_self))) | exact (List.mem_cons_of_mem _ (List.mem_cons_of_mem _ (List.mem_cons_of_mem _ (List.mem_cons_of_mem _ List.mem_cons_self)))) | exact (List.mem_cons_of_mem _ (List.mem_cons_of_mem _ (List.mem_cons_of_mem _ (List.mem_cons_of_mem _ (List.mem_cons_of_mem _ List.mem_cons_self)))))) Try.underlying24 rfl (by kernel_rfl) ?_)
    | (refine mem_store_row 0 E 24 rfl _ _ rfl rfl rfl rfl (by kernel_rfl) rfl (all_wl _) ?_; clear E; intro w2 E; simp only [List.set_cons_zero, List.set_cons_succ] at E)
    | (refine mem_store_row 1 E 24 rfl _ _ rfl rfl rfl rfl (by kernel_rfl) rfl (all_wl _) ?_; clear E; intro w2 E; simp only [List.set_cons_zero, List.set_cons_succ] at E)
    | (refine mem_store_row 2 E 24 rfl _ _ rfl rfl rfl rfl (by kernel_rfl) rfl (all_wl _) ?_; clear E; intro w2 E; simp only [List.set_cons_zero, List.set_cons_succ] at E)
    | (refine mem_store_row 3 E 24 rfl _ _ rfl rfl rfl rfl (by kernel_rfl) rfl (all_wl _) ?_; clear E; intro w2 E; simp only [List.set_cons_zero, List.set_cons_succ] at E)
    | (refine mem_store_row 4 E 24 rfl _ _ rfl rfl rfl rfl (by kernel_rfl) rfl (all_wl _) ?_; clear E; intro w2 E; simp only [List.set_cons_zero, List.set_cons_succ] at E)
    | (refine mem_store_row 5 E 24 rfl _ _ rfl rfl rfl rfl (by kernel_rfl) rfl (all_wl _) ?_; clear E; intro w2 E; simp only [List.set_cons_zero, List.set_cons_succ] at E))
  go_ret2
  exact ⟨rfl, E.out.below⟩
set_option maxRecDepth 100000 in
set_option maxHeartbeats 4000000 in
theorem rnext_on110 (b m t l u k p n q r c : Nat) (s x : Int) (hs1 : -9223372036854775808 ≤ s) (hs2 : s ≤ 9223372036854775807) (hk : 4 ≤ (k : Int)) (hk2 : (k : Int) ≤ 1073741824) (hu : min (max s ((k : Int) / 4)) ((k : Int) * 4) = (u : Int)) (hn : Try.prog.built 24 (#[(0, .int .u64 18446744073709551615), (1, .int .u64 18446744073709551615), (2, .int .u64 18446744073709551615), (3, .int .u64 18446744073709551615)] : Array (Nat × Value)).toList = some (arr 4 (wl n))) (hx : decide (0 < x) = false)
    (X1 : Hid (Gives 44 #[.int .u32 (b : Int)] (.tuple #[wide t, .int .i64 0])))
    (X2 : Hid (Gives 44 #[.int .u32 (m : Int)] (.tuple #[wide l, .int .i64 0])))
    (MU : Hid (Gives 26 #[wide t, wide u] (.tuple #[wide p, .bool true])))
    (DV : Hid (Gives 28 #[wide n, wide k] (.tuple #[wide 0, wide r, .int .i64 0])))
    (CM : Hid (Gives 30 #[wide 1, wide l] (.int .i64 x)))
    (CP : Hid (Gives 48 #[wide 1] (.int .u32 (c : Int)))) :
    Gives 53 #[.int .u32 (b : Int), .int .u32 (m : Int), .int .i64 s, .int .i64 (k : Int)] (.tuple #[.int .u32 (c : Int), .int .i64 0]) := by
  intro w
  have g : decide ((k : Int) < 4) = false := decide_eq_false (by omega)
  have g2 : decide (1073741824 < (k : Int)) = false := decide_eq_false (by omega)
  have bu := built_n u (by omega)
  have bk := built_n k (by omega)
  have sm := same_wide 0
  have E := Lib.hid (Mem.nil w)
  go_enter Try.func53, Try.ntmps53
  go_wp2_with (first
    | (go_at_call 44; first | ((with_reducible refine (X1.out _).mono ?_); rintro e w1 ⟨rfl, hb⟩; replace E := Lib.hid (E.out.call hb); clear hb) | ((with_reducible refine (X2.out _).mono ?_); rintro e w1 ⟨rfl, hb⟩; replace E := Lib.hid (E.out.call hb); clear hb))
    | (go_at_call 26; refine (MU.out _).mono ?_; rintro e w1 ⟨rfl, hb⟩; replace E := Lib.hid (E.out.call hb); clear hb)
    | (go_at_call 28; refine (DV.out _).mono ?_; rintro e w1 ⟨rfl, hb⟩; replace E := Lib.hid (E.out.call hb); clear hb)
    | (go_at_call 30; refine (CM.out _).mono ?_; rintro e w1 ⟨rfl, hb⟩; replace E := Lib.hid (E.out.call hb); clear hb)
    | (go_at_call 48; refine (CP.out _).mono ?_; rintro e w1 ⟨rfl, hb⟩; replace E := Lib.hid (E.out.call hb); clear hb)
    | (with_reducible refine env_build 0 #[] #[] built_0 (by kernel_rfl) rfl (by kernel_rfl) ?_)
    | (with_reducible refine env_build 1 #[(0, .const (.int .u64 1))] #[(0, .int .u64 1)] built_1 (by kernel_rfl) rfl (by kernel_rfl) ?_)
    | (with_reducible refine env_build u #[(0, .tmp 51)] #[(0, .int .u64 (u : Int))] bu (by kernel_rfl) rfl (by kernel_rfl) ?_)
    | (with_reducible refine env_build k #[(0, .tmp 61)] #[(0, .int .u64 (k : Int))] bk (by kernel_rfl) rfl (by kernel_rfl) ?_)
    | (with_reducible refine env_build n #[(0, .const (.int .u64 18446744073709551615)), (1, .const (.int .u64 18446744073709551615)), (2, .const (.int .u64 18446744073709551615)), (3, .const (.int .u64 18446744073709551615))] #[(0, .int .u64 18446744073709551615), (1, .int .u64 18446744073709551615), (2, .int .u64 18446744073709551615), (3, .int .u64 18446744073709551615)] hn (by kernel_rfl) rfl (by kernel_rfl) ?_)
    | (with_reducible refine mem_alloc E 24 rfl rfl info24 ?_; clear E; intro b w2 E; simp only [Value.cells] at E)
    | (with_reducible refine mem_load_row E 24 (by kernel_rfl) _ rfl rfl (by first | exact List.mem_cons_self | exact (List.mem_cons_of_mem _ List.mem_cons_self) | exact (List.mem_cons_of_mem _ (List.mem_cons_of_mem _ List.mem_cons_self)) | exact (List.mem_cons_of_mem _ (List.mem_cons_of_mem _ (List.mem_cons_of_mem _ List.mem_cons_self))) | exact (List.mem_cons_of_mem _ (List.mem_cons_of_mem _ (List.mem_cons_of_mem _ (List.mem_cons_of_mem _ List.mem_cons_self)))) | exact (List.mem_cons_of_mem _ (List.mem_cons_of_mem _ (List.mem_cons_of_mem _ (List.mem_cons_of_mem _ (List.mem_cons_of_mem _ List.mem_cons_self)))))) Try.underlying24 rfl (by kernel_rfl) ?_)
    | (refine mem_store_row 0 E 24 rfl _ _ rfl rfl rfl rfl (by kernel_rfl) rfl (all_wl _) ?_; clear E; intro w2 E; simp only [List.set_cons_zero, List.set_cons_succ] at E)
    | (refine mem_store_row 1 E 24 rfl _ _ rfl rfl rfl rfl (by kernel_rfl) rfl (all_wl _) ?_; clear E; intro w2 E; simp only [List.set_cons_zero, List.set_cons_succ] at E)
    | (refine mem_store_row 2 E 24 rfl _ _ rfl rfl rfl rfl (by kernel_rfl) rfl (all_wl _) ?_; clear E; intro w2 E; simp only [List.set_cons_zero, List.set_cons_succ] at E)
    | (refine mem_store_row 3 E 24 rfl _ _ rfl rfl rfl rfl (by kernel_rfl) rfl (all_wl _) ?_; clear E; intro w2 E; simp only [List.set_cons_zero, List.set_cons_succ] at E)
    | (refine mem_store_row 4 E 24 rfl _ _ rfl rfl rfl rfl (by kernel_rfl) rfl (all_wl _) ?_; clear E; intro w2 E; simp only [List.set_cons_zero, List.set_cons_succ] at E)
    | (refine mem_store_row 5 E 24 rfl _ _ rfl rfl rfl rfl (by kernel_rfl) rfl (all_wl _) ?_; clear E; intro w2 E; simp only [List.set_cons_zero, List.set_cons_succ] at E))
  go_ret2
  exact ⟨rfl, E.out.below⟩
set_option maxRecDepth 100000 in
set_option maxHeartbeats 4000000 in
theorem rnext_on111 (b m t l u k p n q r c : Nat) (s x : Int) (hs1 : -9223372036854775808 ≤ s) (hs2 : s ≤ 9223372036854775807) (hk : 4 ≤ (k : Int)) (hk2 : (k : Int) ≤ 1073741824) (hu : min (max s ((k : Int) / 4)) ((k : Int) * 4) = (u : Int)) (hn : Try.prog.built 24 (#[(0, .int .u64 18446744073709551615), (1, .int .u64 18446744073709551615), (2, .int .u64 18446744073709551615), (3, .int .u64 18446744073709551615)] : Array (Nat × Value)).toList = some (arr 4 (wl n))) (hx : decide (0 < x) = true)
    (X1 : Hid (Gives 44 #[.int .u32 (b : Int)] (.tuple #[wide t, .int .i64 0])))
    (X2 : Hid (Gives 44 #[.int .u32 (m : Int)] (.tuple #[wide l, .int .i64 0])))
    (MU : Hid (Gives 26 #[wide t, wide u] (.tuple #[wide p, .bool true])))
    (DV : Hid (Gives 28 #[wide n, wide k] (.tuple #[wide 0, wide r, .int .i64 0])))
    (CM : Hid (Gives 30 #[wide 1, wide l] (.int .i64 x)))
    (CP : Hid (Gives 48 #[wide l] (.int .u32 (c : Int)))) :
    Gives 53 #[.int .u32 (b : Int), .int .u32 (m : Int), .int .i64 s, .int .i64 (k : Int)] (.tuple #[.int .u32 (c : Int), .int .i64 0]) := by
  intro w
  have g : decide ((k : Int) < 4) = false := decide_eq_false (by omega)
  have g2 : decide (1073741824 < (k : Int)) = false := decide_eq_false (by omega)
  have bu := built_n u (by omega)
  have bk := built_n k (by omega)
  have sm := same_wide 0
  have E := Lib.hid (Mem.nil w)
  go_enter Try.func53, Try.ntmps53
  go_wp2_with (first
    | (go_at_call 44; first | ((with_reducible refine (X1.out _).mono ?_); rintro e w1 ⟨rfl, hb⟩; replace E := Lib.hid (E.out.call hb); clear hb) | ((with_reducible refine (X2.out _).mono ?_); rintro e w1 ⟨rfl, hb⟩; replace E := Lib.hid (E.out.call hb); clear hb))
    | (go_at_call 26; refine (MU.out _).mono ?_; rintro e w1 ⟨rfl, hb⟩; replace E := Lib.hid (E.out.call hb); clear hb)
    | (go_at_call 28; refine (DV.out _).mono ?_; rintro e w1 ⟨rfl, hb⟩; replace E := Lib.hid (E.out.call hb); clear hb)
    | (go_at_call 30; refine (CM.out _).mono ?_; rintro e w1 ⟨rfl, hb⟩; replace E := Lib.hid (E.out.call hb); clear hb)
    | (go_at_call 48; refine (CP.out _).mono ?_; rintro e w1 ⟨rfl, hb⟩; replace E := Lib.hid (E.out.call hb); clear hb)
    | (with_reducible refine env_build 0 #[] #[] built_0 (by kernel_rfl) rfl (by kernel_rfl) ?_)
    | (with_reducible refine env_build 1 #[(0, .const (.int .u64 1))] #[(0, .int .u64 1)] built_1 (by kernel_rfl) rfl (by kernel_rfl) ?_)
    | (with_reducible refine env_build u #[(0, .tmp 51)] #[(0, .int .u64 (u : Int))] bu (by kernel_rfl) rfl (by kernel_rfl) ?_)
    | (with_reducible refine env_build k #[(0, .tmp 61)] #[(0, .int .u64 (k : Int))] bk (by kernel_rfl) rfl (by kernel_rfl) ?_)
    | (with_reducible refine env_build n #[(0, .const (.int .u64 18446744073709551615)), (1, .const (.int .u64 18446744073709551615)), (2, .const (.int .u64 18446744073709551615)), (3, .const (.int .u64 18446744073709551615))] #[(0, .int .u64 18446744073709551615), (1, .int .u64 18446744073709551615), (2, .int .u64 18446744073709551615), (3, .int .u64 18446744073709551615)] hn (by kernel_rfl) rfl (by kernel_rfl) ?_)
    | (with_reducible refine mem_alloc E 24 rfl rfl info24 ?_; clear E; intro b w2 E; simp only [Value.cells] at E)
    | (with_reducible refine mem_load_row E 24 (by kernel_rfl) _ rfl rfl (by first | exact List.mem_cons_self | exact (List.mem_cons_of_mem _ List.mem_cons_self) | exact (List.mem_cons_of_mem _ (List.mem_cons_of_mem _ List.mem_cons_self)) | exact (List.mem_cons_of_mem _ (List.mem_cons_of_mem _ (List.mem_cons_of_mem _ List.mem_cons_self))) | exact (List.mem_cons_of_mem _ (List.mem_cons_of_mem _ (List.mem_cons_of_mem _ (List.mem_cons_of_mem _ List.mem_cons_self)))) | exact (List.mem_cons_of_mem _ (List.mem_cons_of_mem _ (List.mem_cons_of_mem _ (List.mem_cons_of_mem _ (List.mem_cons_of_mem _ List.mem_cons_self)))))) Try.underlying24 rfl (by kernel_rfl) ?_)
    | (refine mem_store_row 0 E 24 rfl _ _ rfl rfl rfl rfl (by kernel_rfl) rfl (all_wl _) ?_; clear E; intro w2 E; simp only [List.set_cons_zero, List.set_cons_succ] at E)
    | (refine mem_store_row 1 E 24 rfl _ _ rfl rfl rfl rfl (by kernel_rfl) rfl (all_wl _) ?_; clear E; intro w2 E; simp only [List.set_cons_zero, List.set_cons_succ] at E)
    | (refine mem_store_row 2 E 24 rfl _ _ rfl rfl rfl rfl (by kernel_rfl) rfl (all_wl _) ?_; clear E; intro w2 E; simp only [List.set_cons_zero, List.set_cons_succ] at E)
    | (refine mem_store_row 3 E 24 rfl _ _ rfl rfl rfl rfl (by kernel_rfl) rfl (all_wl _) ?_; clear E; intro w2 E; simp only [List.set_cons_zero, List.set_cons_succ] at E)
    | (refine mem_store_row 4 E 24 rfl _ _ rfl rfl rfl rfl (by kernel_rfl) rfl (all_wl _) ?_; clear E; intro w2 E; simp only [List.set_cons_zero, List.set_cons_succ] at E)
    | (refine mem_store_row 5 E 24 rfl _ _ rfl rfl rfl rfl (by kernel_rfl) rfl (all_wl _) ?_; clear E; intro w2 E; simp only [List.set_cons_zero, List.set_cons_succ] at E))
  go_ret2
  exact ⟨rfl, E.out.below⟩
end Go.Proofs.Ytboffheklkhnkaa
end
section
set_option linter.unusedSimpArgs false
set_option linter.unusedVariables false
namespace Go.Proofs.Ytboffheklkhnkaa
open Go.RowKit Go.Lib Go.Sort
attribute [local go_sem ↓] Go.wp_at_zero Go.wp_at_succ

set_option maxRecDepth 100000 in
set_option maxHeartbeats 4000000 in
theorem rnexti_off1 (b m l : Nat) (s k e : Int)
    (X1 : Hid (Gives 44 #[.int .u32 (b : Int)] (.tuple #[wide 0, .int .i64 40])))
    (X2 : Hid (Gives 44 #[.int .u32 (m : Int)] (.tuple #[wide l, .int .i64 e]))) :
    Gives 53 #[.int .u32 (b : Int), .int .u32 (m : Int), .int .i64 s, .int .i64 k] (.tuple #[.int .u32 0, .int .i64 40]) := by
  intro w
  have E := Lib.hid (Mem.nil w)
  go_enter Try.func53, Try.ntmps53
  go_wp2_with (first
    | (go_at_call 44; first | ((with_reducible refine (X1.out _).mono ?_); rintro e w1 ⟨rfl, hb⟩; replace E := Lib.hid (E.out.call hb); clear hb) | ((with_reducible refine (X2.out _).mono ?_); rintro e w1 ⟨rfl, hb⟩; replace E := Lib.hid (E.out.call hb); clear hb))
    | (with_reducible refine mem_alloc E 24 rfl rfl info24 ?_; clear E; intro b w2 E; simp only [Value.cells] at E)
    | (with_reducible refine mem_load_row E 24 (by kernel_rfl) _ rfl rfl (by first | exact List.mem_cons_self | exact (List.mem_cons_of_mem _ List.mem_cons_self) | exact (List.mem_cons_of_mem _ (List.mem_cons_of_mem _ List.mem_cons_self)) | exact (List.mem_cons_of_mem _ (List.mem_cons_of_mem _ (List.mem_cons_of_mem _ List.mem_cons_self))) | exact (List.mem_cons_of_mem _ (List.mem_cons_of_mem _ (List.mem_cons_of_mem _ (List.mem_cons_of_mem _ List.mem_cons_self)))) | exact (List.mem_cons_of_mem _ (List.mem_cons_of_mem _ (List.mem_cons_of_mem _ (List.mem_cons_of_mem _ (List.mem_cons_of_mem _ List.mem_cons_self)))))) Try.underlying24 rfl (by kernel_rfl) ?_)
    | (refine mem_store_row 0 E 24 rfl _ _ rfl rfl rfl rfl (by kernel_rfl) rfl (all_wl _) ?_; clear E; intro w2 E; simp only [List.set_cons_zero, List.set_cons_succ] at E)
    | (refine mem_store_row 1 E 24 rfl _ _ rfl rfl rfl rfl (by kernel_rfl) rfl (all_wl _) ?_; clear E; intro w2 E; simp only [List.set_cons_zero, List.set_cons_succ] at E)
    | (refine mem_store_row 2 E 24 rfl _ _ rfl rfl rfl rfl (by kernel_rfl) rfl (all_wl _) ?_; clear E; intro w2 E; simp only [List.set_cons_zero, List.set_cons_succ] at E)
    | (refine mem_store_row 3 E 24 rfl _ _ rfl rfl rfl rfl (by kernel_rfl) rfl (all_wl _) ?_; clear E; intro w2 E; simp only [List.set_cons_zero, List.set_cons_succ] at E)
    | (refine mem_store_row 4 E 24 rfl _ _ rfl rfl rfl rfl (by kernel_rfl) rfl (all_wl _) ?_; clear E; intro w2 E; simp only [List.set_cons_zero, List.set_cons_succ] at E)
    | (refine mem_store_row 5 E 24 rfl _ _ rfl rfl rfl rfl (by kernel_rfl) rfl (all_wl _) ?_; clear E; intro w2 E; simp only [List.set_cons_zero, List.set_cons_succ] at E))
  go_ret2
  exact ⟨rfl, E.out.below⟩
set_option maxRecDepth 100000 in
set_option maxHeartbeats 4000000 in
theorem rnexti_off2 (b m t : Nat) (s k : Int)
    (X1 : Hid (Gives 44 #[.int .u32 (b : Int)] (.tuple #[wide t, .int .i64 0])))
    (X2 : Hid (Gives 44 #[.int .u32 (m : Int)] (.tuple #[wide 0, .int .i64 40]))) :
    Gives 53 #[.int .u32 (b : Int), .int .u32 (m : Int), .int .i64 s, .int .i64 k] (.tuple #[.int .u32 0, .int .i64 40]) := by
  intro w
  have E := Lib.hid (Mem.nil w)
  go_enter Try.func53, Try.ntmps53
  go_wp2_with (first
    | (go_at_call 44; first | ((with_reducible refine (X1.out _).mono ?_); rintro e w1 ⟨rfl, hb⟩; replace E := Lib.hid (E.out.call hb); clear hb) | ((with_reducible refine (X2.out _).mono ?_); rintro e w1 ⟨rfl, hb⟩; replace E := Lib.hid (E.out.call hb); clear hb))
    | (with_reducible refine mem_alloc E 24 rfl rfl info24 ?_; clear E; intro b w2 E; simp only [Value.cells] at E)
    | (with_reducible refine mem_load_row E 24 (by kernel_rfl) _ rfl rfl (by first | exact List.mem_cons_self | exact (List.mem_cons_of_mem _ List.mem_cons_self) | exact (List.mem_cons_of_mem _ (List.mem_cons_of_mem _ List.mem_cons_self)) | exact (List.mem_cons_of_mem _ (List.mem_cons_of_mem _ (List.mem_cons_of_mem _ List.mem_cons_self))) | exact (List.mem_cons_of_mem _ (List.mem_cons_of_mem _ (List.mem_cons_of_mem _ (List.mem_cons_of_mem _ List.mem_cons_self)))) | exact (List.mem_cons_of_mem _ (List.mem_cons_of_mem _ (List.mem_cons_of_mem _ (List.mem_cons_of_mem _ (List.mem_cons_of_mem _ List.mem_cons_self)))))) Try.underlying24 rfl (by kernel_rfl) ?_)
    | (refine mem_store_row 0 E 24 rfl _ _ rfl rfl rfl rfl (by kernel_rfl) rfl (all_wl _) ?_; clear E; intro w2 E; simp only [List.set_cons_zero, List.set_cons_succ] at E)
    | (refine mem_store_row 1 E 24 rfl _ _ rfl rfl rfl rfl (by kernel_rfl) rfl (all_wl _) ?_; clear E; intro w2 E; simp only [List.set_cons_zero, List.set_cons_succ] at E)
    | (refine mem_store_row 2 E 24 rfl _ _ rfl rfl rfl rfl (by kernel_rfl) rfl (all_wl _) ?_; clear E; intro w2 E; simp only [List.set_cons_zero, List.set_cons_succ] at E)
    | (refine mem_store_row 3 E 24 rfl _ _ rfl rfl rfl rfl (by kernel_rfl) rfl (all_wl _) ?_; clear E; intro w2 E; simp only [List.set_cons_zero, List.set_cons_succ] at E)
    | (refine mem_store_row 4 E 24 rfl _ _ rfl rfl rfl rfl (by kernel_rfl) rfl (all_wl _) ?_; clear E; intro w2 E; simp only [List.set_cons_zero, List.set_cons_succ] at E)
    | (refine mem_store_row 5 E 24 rfl _ _ rfl rfl rfl rfl (by kernel_rfl) rfl (all_wl _) ?_; clear E; intro w2 E; simp only [List.set_cons_zero, List.set_cons_succ] at E))
  go_ret2
  exact ⟨rfl, E.out.below⟩
set_option maxRecDepth 100000 in
set_option maxHeartbeats 4000000 in
theorem rnexti_low (b m t l : Nat) (s k : Int) (g : decide (k < 4) = true)
    (X1 : Hid (Gives 44 #[.int .u32 (b : Int)] (.tuple #[wide t, .int .i64 0])))
    (X2 : Hid (Gives 44 #[.int .u32 (m : Int)] (.tuple #[wide l, .int .i64 0]))) :
    Gives 53 #[.int .u32 (b : Int), .int .u32 (m : Int), .int .i64 s, .int .i64 k] (.tuple #[.int .u32 0, .int .i64 1]) := by
  intro w
  have E := Lib.hid (Mem.nil w)
  go_enter Try.func53, Try.ntmps53
  go_wp2_with (first
    | (go_at_call 44; first | ((with_reducible refine (X1.out _).mono ?_); rintro e w1 ⟨rfl, hb⟩; replace E := Lib.hid (E.out.call hb); clear hb) | ((with_reducible refine (X2.out _).mono ?_); rintro e w1 ⟨rfl, hb⟩; replace E := Lib.hid (E.out.call hb); clear hb))
    | (with_reducible refine mem_alloc E 24 rfl rfl info24 ?_; clear E; intro b w2 E; simp only [Value.cells] at E)
    | (with_reducible refine mem_load_row E 24 (by kernel_rfl) _ rfl rfl (by first | exact List.mem_cons_self | exact (List.mem_cons_of_mem _ List.mem_cons_self) | exact (List.mem_cons_of_mem _ (List.mem_cons_of_mem _ List.mem_cons_self)) | exact (List.mem_cons_of_mem _ (List.mem_cons_of_mem _ (List.mem_cons_of_mem _ List.mem_cons_self))) | exact (List.mem_cons_of_mem _ (List.mem_cons_of_mem _ (List.mem_cons_of_mem _ (List.mem_cons_of_mem _ List.mem_cons_self)))) | exact (List.mem_cons_of_mem _ (List.mem_cons_of_mem _ (List.mem_cons_of_mem _ (List.mem_cons_of_mem _ (List.mem_cons_of_mem _ List.mem_cons_self)))))) Try.underlying24 rfl (by kernel_rfl) ?_)
    | (refine mem_store_row 0 E 24 rfl _ _ rfl rfl rfl rfl (by kernel_rfl) rfl (all_wl _) ?_; clear E; intro w2 E; simp only [List.set_cons_zero, List.set_cons_succ] at E)
    | (refine mem_store_row 1 E 24 rfl _ _ rfl rfl rfl rfl (by kernel_rfl) rfl (all_wl _) ?_; clear E; intro w2 E; simp only [List.set_cons_zero, List.set_cons_succ] at E)
    | (refine mem_store_row 2 E 24 rfl _ _ rfl rfl rfl rfl (by kernel_rfl) rfl (all_wl _) ?_; clear E; intro w2 E; simp only [List.set_cons_zero, List.set_cons_succ] at E)
    | (refine mem_store_row 3 E 24 rfl _ _ rfl rfl rfl rfl (by kernel_rfl) rfl (all_wl _) ?_; clear E; intro w2 E; simp only [List.set_cons_zero, List.set_cons_succ] at E)
    | (refine mem_store_row 4 E 24 rfl _ _ rfl rfl rfl rfl (by kernel_rfl) rfl (all_wl _) ?_; clear E; intro w2 E; simp only [List.set_cons_zero, List.set_cons_succ] at E)
    | (refine mem_store_row 5 E 24 rfl _ _ rfl rfl rfl rfl (by kernel_rfl) rfl (all_wl _) ?_; clear E; intro w2 E; simp only [List.set_cons_zero, List.set_cons_succ] at E))
  go_ret2
  exact ⟨rfl, E.out.below⟩
set_option maxRecDepth 100000 in
set_option maxHeartbeats 4000000 in
theorem rnexti_high (b m t l : Nat) (s k : Int) (g : decide (k < 4) = false) (g2 : decide (1073741824 < k) = true)
    (X1 : Hid (Gives 44 #[.int .u32 (b : Int)] (.tuple #[wide t, .int .i64 0])))
    (X2 : Hid (Gives 44 #[.int .u32 (m : Int)] (.tuple #[wide l, .int .i64 0]))) :
    Gives 53 #[.int .u32 (b : Int), .int .u32 (m : Int), .int .i64 s, .int .i64 k] (.tuple #[.int .u32 0, .int .i64 1]) := by
  intro w
  have E := Lib.hid (Mem.nil w)
  go_enter Try.func53, Try.ntmps53
  go_wp2_with (first
    | (go_at_call 44; first | ((with_reducible refine (X1.out _).mono ?_); rintro e w1 ⟨rfl, hb⟩; replace E := Lib.hid (E.out.call hb); clear hb) | ((with_reducible refine (X2.out _).mono ?_); rintro e w1 ⟨rfl, hb⟩; replace E := Lib.hid (E.out.call hb); clear hb))
    | (with_reducible refine mem_alloc E 24 rfl rfl info24 ?_; clear E; intro b w2 E; simp only [Value.cells] at E)
    | (with_reducible refine mem_load_row E 24 (by kernel_rfl) _ rfl rfl (by first | exact List.mem_cons_self | exact (List.mem_cons_of_mem _ List.mem_cons_self) | exact (List.mem_cons_of_mem _ (List.mem_cons_of_mem _ List.mem_cons_self)) | exact (List.mem_cons_of_mem _ (List.mem_cons_of_mem _ (List.mem_cons_of_mem _ List.mem_cons_self))) | exact (List.mem_cons_of_mem _ (List.mem_cons_of_mem _ (List.mem_cons_of_mem _ (List.mem_cons_of_mem _ List.mem_cons_self)))) | exact (List.mem_cons_of_mem _ (List.mem_cons_of_mem _ (List.mem_cons_of_mem _ (List.mem_cons_of_mem _ (List.mem_cons_of_mem _ List.mem_cons_self)))))) Try.underlying24 rfl (by kernel_rfl) ?_)
    | (refine mem_store_row 0 E 24 rfl _ _ rfl rfl rfl rfl (by kernel_rfl) rfl (all_wl _) ?_; clear E; intro w2 E; simp only [List.set_cons_zero, List.set_cons_succ] at E)
    | (refine mem_store_row 1 E 24 rfl _ _ rfl rfl rfl rfl (by kernel_rfl) rfl (all_wl _) ?_; clear E; intro w2 E; simp only [List.set_cons_zero, List.set_cons_succ] at E)
    | (refine mem_store_row 2 E 24 rfl _ _ rfl rfl rfl rfl (by kernel_rfl) rfl (all_wl _) ?_; clear E; intro w2 E; simp only [List.set_cons_zero, List.set_cons_succ] at E)
    | (refine mem_store_row 3 E 24 rfl _ _ rfl rfl rfl rfl (by kernel_rfl) rfl (all_wl _) ?_; clear E; intro w2 E; simp only [List.set_cons_zero, List.set_cons_succ] at E)
    | (refine mem_store_row 4 E 24 rfl _ _ rfl rfl rfl rfl (by kernel_rfl) rfl (all_wl _) ?_; clear E; intro w2 E; simp only [List.set_cons_zero, List.set_cons_succ] at E)
    | (refine mem_store_row 5 E 24 rfl _ _ rfl rfl rfl rfl (by kernel_rfl) rfl (all_wl _) ?_; clear E; intro w2 E; simp only [List.set_cons_zero, List.set_cons_succ] at E))
  go_ret2
  exact ⟨rfl, E.out.below⟩
end Go.Proofs.Ytboffheklkhnkaa
end
