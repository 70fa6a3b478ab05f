/- The bits of a number: the document's. -/
import Derived.Test.YtboffheklkhnkaaCompact
import Derived.Test.YtboffheklkhnkaaRefComp
import Derived.Test.YtboffheklkhnkaaRefShift
import Derived.Test.YtboffheklkhnkaaRexpand
section
set_option linter.unusedSimpArgs false
set_option linter.unusedVariables false
namespace Go.Proofs.Ytboffheklkhnkaa
open Go.RowKit Go.Lib Go.Sort
attribute [local go_sem ↓] Go.wp_at_zero Go.wp_at_succ


theorem sign64_yes {x : Int} {M : Nat} (hx : x = (M : Int)) (hM : M < 16777216) (h : (bits .and .u64 x 8388608 != 0) = true) : M / 8388608 % 2 = 1 := by
  have k := Go.u64_and_nat M 8388608 (by omega) (by omega)
  have e : M &&& 8388608 = M / 8388608 % 2 * 8388608 := Go.nat_bit 23 M
  rw [e] at k
  rw [hx] at h
  have h' : (bits .and .u64 (M : Int) ((8388608 : Nat) : Int) != 0) = true := h
  rw [k] at h'
  rcases (by omega : M / 8388608 % 2 = 0 ∨ M / 8388608 % 2 = 1) with h0 | h0
  · rw [h0] at h'; simp at h'
  · exact h0
theorem sign64_no {x : Int} {M : Nat} (hx : x = (M : Int)) (hM : M < 16777216) (h : (bits .and .u64 x 8388608 != 0) = false) : ¬ M / 8388608 % 2 = 1 := by
  have k := Go.u64_and_nat M 8388608 (by omega) (by omega)
  have e : M &&& 8388608 = M / 8388608 % 2 * 8388608 := Go.nat_bit 23 M
  rw [e] at k
  rw [hx] at h
  have h' : (bits .and .u64 (M : Int) ((8388608 : Nat) : Int) != 0) = false := h
  rw [k] at h'
  intro h0
  rw [h0] at h'; simp at h'
theorem part_or (E M : Nat) (hE : E < 256) (hM : M < 16777216) : bits .or .u32 (M : Int) ((E : Int) * 16777216) = ((E * 16777216 + M : Nat) : Int) := by
  have e : ((E : Int) * 16777216) = ((E * 16777216 : Nat) : Int) := by omega
  rw [e, Go.u32_or_nat _ _ (by omega) (by omega)]
  have h := Nat.two_pow_add_eq_or_of_lt (i := 24) (show M < 2 ^ 24 from hM) E
  rw [Nat.mul_comm E, Nat.or_comm]
  exact congrArg _ h.symm
theorem rcpt_yes {e M : Nat} (he : e ≤ 32) (hM : M < 16777216) {x y : Int} (hx : x = (M : Int)) (hy : y = ((M / 256 : Nat) : Int)) (h : (bits .and .u64 x 8388608 != 0) = true) :
    Ending.returned (.int .u32 (bits .or .u32 y (((e : Int) + 1) * 16777216))) = .returned (.int .u32 ((cptOf e M : Nat) : Int)) := by
  have h1 := sign64_yes hx hM h
  unfold cptOf
  rw [if_pos h1, hy, ← part_or (e + 1) (M / 256) (by omega) (by omega)]
  rfl
theorem rcpt_no {e M : Nat} (he : e ≤ 32) (hM : M < 16777216) {x y : Int} (hx : x = (M : Int)) (hy : y = (M : Int)) (h : (bits .and .u64 x 8388608 != 0) = false) :
    Ending.returned (.int .u32 (bits .or .u32 y ((e : Int) * 16777216))) = .returned (.int .u32 ((cptOf e M : Nat) : Int)) := by
  have h1 := sign64_no hx hM h
  unfold cptOf
  rw [if_neg h1, hy, ← part_or e M (by omega) (by omega)]
set_option maxRecDepth 100000 in
set_option maxHeartbeats 2000000 in
theorem rc0 (n : Nat) (t : Nat) (hn : n ≤ 256) (hm : t * 16777216 < 16777216) (hE : ((n : Int) + 7) / 8 = 0)
    (B : Hid (Gives 36 #[wide t] (.int .i64 (n : Int)))) :
    Gives 48 #[wide t] (.int .u32 ((cptOf 0 (t * 16777216) : Nat) : Int)) := by
  intro w
  have he : 0 ≤ 32 := by decide
  have hw : wl t 0 = .int .u64 (t : Int) := by unfold wl; congr 1; unfold limb; omega
  have E := Lib.hid (EnvN.nil w)
  go_enter Try.func48, Try.ntmps48
  go_wp2_with (first
    | (go_at_call 36; refine (B.out _).mono ?_; rintro e w1 ⟨rfl, hb⟩; replace E := Lib.hid (E.out.call hb); clear hb)
    | (with_reducible refine envn_alloc E rfl rfl ?_; clear E; intro b w2 E)
    | (with_reducible refine envn_load E _ (by kernel_rfl) rfl rfl (by first | exact List.mem_cons_self | exact (List.mem_cons_of_mem _ List.mem_cons_self) | exact (List.mem_cons_of_mem _ (List.mem_cons_of_mem _ List.mem_cons_self)) | exact (List.mem_cons_of_mem _ (List.mem_cons_of_mem _ (List.mem_cons_of_mem _ List.mem_cons_self))) | exact (List.mem_cons_of_mem _ (List.mem_cons_of_mem _ (List.mem_cons_of_mem _ (List.mem_cons_of_mem _ List.mem_cons_self)))) | exact (List.mem_cons_of_mem _ (List.mem_cons_of_mem _ (List.mem_cons_of_mem _ (List.mem_cons_of_mem _ (List.mem_cons_of_mem _ List.mem_cons_self))))) | exact (List.mem_cons_of_mem _ (List.mem_cons_of_mem _ (List.mem_cons_of_mem _ (List.mem_cons_of_mem _ (List.mem_cons_of_mem _ (List.mem_cons_of_mem _ List.mem_cons_self)))))) | exact (List.mem_cons_of_mem _ (List.mem_cons_of_mem _ (List.mem_cons_of_mem _ (List.mem_cons_of_mem _ (List.mem_cons_of_mem _ (List.mem_cons_of_mem _ (List.mem_cons_of_mem _ List.mem_cons_self))))))) | exact (List.mem_cons_of_mem _ (List.mem_cons_of_mem _ (List.mem_cons_of_mem _ (List.mem_cons_of_mem _ (List.mem_cons_of_mem _ (List.mem_cons_of_mem _ (List.mem_cons_of_mem _ (List.mem_cons_of_mem _ List.mem_cons_self))))))))) ?_)
    | (refine envn_store 0 E _ _ rfl rfl rfl rfl rfl ?_; clear E; intro w2 E; simp only [List.set_cons_zero, List.set_cons_succ] at E)
    | (refine envn_store 1 E _ _ rfl rfl rfl rfl rfl ?_; clear E; intro w2 E; simp only [List.set_cons_zero, List.set_cons_succ] at E)
    | (refine envn_store 2 E _ _ rfl rfl rfl rfl rfl ?_; clear E; intro w2 E; simp only [List.set_cons_zero, List.set_cons_succ] at E)
    | (refine envn_store 3 E _ _ rfl rfl rfl rfl rfl ?_; clear E; intro w2 E; simp only [List.set_cons_zero, List.set_cons_succ] at E)
    | (refine envn_store 4 E _ _ rfl rfl rfl rfl rfl ?_; clear E; intro w2 E; simp only [List.set_cons_zero, List.set_cons_succ] at E)
    | (refine envn_store 5 E _ _ rfl rfl rfl rfl rfl ?_; clear E; intro w2 E; simp only [List.set_cons_zero, List.set_cons_succ] at E)
    | (refine envn_store 6 E _ _ rfl rfl rfl rfl rfl ?_; clear E; intro w2 E; simp only [List.set_cons_zero, List.set_cons_succ] at E)
    | (refine envn_store 7 E _ _ rfl rfl rfl rfl rfl ?_; clear E; intro w2 E; simp only [List.set_cons_zero, List.set_cons_succ] at E)
    | (with_reducible refine envn_box E rfl _ rfl rfl ?_; clear E; intro b w2 E)
    | (with_reducible refine envn_cell E rfl _ rfl rfl (by first | exact List.mem_cons_self | exact (List.mem_cons_of_mem _ List.mem_cons_self) | exact (List.mem_cons_of_mem _ (List.mem_cons_of_mem _ List.mem_cons_self))) (by decide) ?_))
  all_goals
    rename_i h
    go_ret
    refine ⟨?_, E.out.env.below⟩
  · exact rcpt_yes (e := 0) he (by omega) (by omega) (by omega) h
  · exact rcpt_no (e := 0) he (by omega) (by omega) (by omega) h
set_option maxRecDepth 100000 in
set_option maxHeartbeats 2000000 in
theorem rc1 (n : Nat) (t : Nat) (hn : n ≤ 256) (hm : t * 65536 < 16777216) (hE : ((n : Int) + 7) / 8 = 1)
    (B : Hid (Gives 36 #[wide t] (.int .i64 (n : Int)))) :
    Gives 48 #[wide t] (.int .u32 ((cptOf 1 (t * 65536) : Nat) : Int)) := by
  intro w
  have he : 1 ≤ 32 := by decide
  have hw : wl t 0 = .int .u64 (t : Int) := by unfold wl; congr 1; unfold limb; omega
  have E := Lib.hid (EnvN.nil w)
  go_enter Try.func48, Try.ntmps48
  go_wp2_with (first
    | (go_at_call 36; refine (B.out _).mono ?_; rintro e w1 ⟨rfl, hb⟩; replace E := Lib.hid (E.out.call hb); clear hb)
    | (with_reducible refine envn_alloc E rfl rfl ?_; clear E; intro b w2 E)
    | (with_reducible refine envn_load E _ (by kernel_rfl) rfl rfl (by first | exact List.mem_cons_self | exact (List.mem_cons_of_mem _ List.mem_cons_self) | exact (List.mem_cons_of_mem _ (List.mem_cons_of_mem _ List.mem_cons_self)) | exact (List.mem_cons_of_mem _ (List.mem_cons_of_mem _ (List.mem_cons_of_mem _ List.mem_cons_self))) | exact (List.mem_cons_of_mem _ (List.mem_cons_of_mem _ (List.mem_cons_of_mem _ (List.mem_cons_of_mem _ List.mem_cons_self)))) | exact (List.mem_cons_of_mem _ (List.mem_cons_of_mem _ (List.mem_cons_of_mem _ (List.mem_cons_of_mem _ (List.mem_cons_of_mem _ List.mem_cons_self))))) | exact (List.mem_cons_of_mem _ (List.mem_cons_of_mem _ (List.mem_cons_of_mem _ (List.mem_cons_of_mem _ (List.mem_cons_of_mem _ (List.mem_cons_of_mem _ List.mem_cons_self)))))) | exact (List.mem_cons_of_mem _ (List.mem_cons_of_mem _ (List.mem_cons_of_mem _ (List.mem_cons_of_mem _ (List.mem_cons_of_mem _ (List.mem_cons_of_mem _ (List.mem_cons_of_mem _ List.mem_cons_self))))))) | exact (List.mem_cons_of_mem _ (List.mem_cons_of_mem _ (List.mem_cons_of_mem _ (List.mem_cons_of_mem _ (List.mem_cons_of_mem _ (List.mem_cons_of_mem _ (List.mem_cons_of_mem _ (List.mem_cons_of_mem _ List.mem_cons_self))))))))) ?_)
    | (refine envn_store 0 E _ _ rfl rfl rfl rfl rfl ?_; clear E; intro w2 E; simp only [List.set_cons_zero, List.set_cons_succ] at E)
    | (refine envn_store 1 E _ _ rfl rfl rfl rfl rfl ?_; clear E; intro w2 E; simp only [List.set_cons_zero, List.set_cons_succ] at E)
    | (refine envn_store 2 E _ _ rfl rfl rfl rfl rfl ?_; clear E; intro w2 E; simp only [List.set_cons_zero, List.set_cons_succ] at E)
    | (refine envn_store 3 E _ _ rfl rfl rfl rfl rfl ?_; clear E; intro w2 E; simp only [List.set_cons_zero, List.set_cons_succ] at E)
    | (refine envn_store 4 E _ _ rfl rfl rfl rfl rfl ?_; clear E; intro w2 E; simp only [List.set_cons_zero, List.set_cons_succ] at E)
    | (refine envn_store 5 E _ _ rfl rfl rfl rfl rfl ?_; clear E; intro w2 E; simp only [List.set_cons_zero, List.set_cons_succ] at E)
    | (refine envn_store 6 E _ _ rfl rfl rfl rfl rfl ?_; clear E; intro w2 E; simp only [List.set_cons_zero, List.set_cons_succ] at E)
    | (refine envn_store 7 E _ _ rfl rfl rfl rfl rfl ?_; clear E; intro w2 E; simp only [List.set_cons_zero, List.set_cons_succ] at E)
    | (with_reducible refine envn_box E rfl _ rfl rfl ?_; clear E; intro b w2 E)
    | (with_reducible refine envn_cell E rfl _ rfl rfl (by first | exact List.mem_cons_self | exact (List.mem_cons_of_mem _ List.mem_cons_self) | exact (List.mem_cons_of_mem _ (List.mem_cons_of_mem _ List.mem_cons_self))) (by decide) ?_))
  all_goals
    rename_i h
    go_ret
    refine ⟨?_, E.out.env.below⟩
  · exact rcpt_yes (e := 1) he (by omega) (by omega) (by omega) h
  · exact rcpt_no (e := 1) he (by omega) (by omega) (by omega) h
set_option maxRecDepth 100000 in
set_option maxHeartbeats 2000000 in
theorem rc2 (n : Nat) (t : Nat) (hn : n ≤ 256) (hm : t * 256 < 16777216) (hE : ((n : Int) + 7) / 8 = 2)
    (B : Hid (Gives 36 #[wide t] (.int .i64 (n : Int)))) :
    Gives 48 #[wide t] (.int .u32 ((cptOf 2 (t * 256) : Nat) : Int)) := by
  intro w
  have he : 2 ≤ 32 := by decide
  have hw : wl t 0 = .int .u64 (t : Int) := by unfold wl; congr 1; unfold limb; omega
  have E := Lib.hid (EnvN.nil w)
  go_enter Try.func48, Try.ntmps48
  go_wp2_with (first
    | (go_at_call 36; refine (B.out _).mono ?_; rintro e w1 ⟨rfl, hb⟩; replace E := Lib.hid (E.out.call hb); clear hb)
    | (with_reducible refine envn_alloc E rfl rfl ?_; clear E; intro b w2 E)
    | (with_reducible refine envn_load E _ (by kernel_rfl) rfl rfl (by first | exact List.mem_cons_self | exact (List.mem_cons_of_mem _ List.mem_cons_self) | exact (List.mem_cons_of_mem _ (List.mem_cons_of_mem _ List.mem_cons_self)) | exact (List.mem_cons_of_mem _ (List.mem_cons_of_mem _ (List.mem_cons_of_mem _ List.mem_cons_self))) | exact (List.mem_cons_of_mem _ (List.mem_cons_of_mem _ (List.mem_cons_of_mem _ (List.mem_cons_of_mem _ List.mem_cons_self)))) | exact (List.mem_cons_of_mem _ (List.mem_cons_of_mem _ (List.mem_cons_of_mem _ (List.mem_cons_of_mem _ (List.mem_cons_of_mem _ List.mem_cons_self))))) | exact (List.mem_cons_of_mem _ (List.mem_cons_of_mem _ (List.mem_cons_of_mem _ (List.mem_cons_of_mem _ (List.mem_cons_of_mem _ (List.mem_cons_of_mem _ List.mem_cons_self)))))) | exact (List.mem_cons_of_mem _ (List.mem_cons_of_mem _ (List.mem_cons_of_mem _ (List.mem_cons_of_mem _ (List.mem_cons_of_mem _ (List.mem_cons_of_mem _ (List.mem_cons_of_mem _ List.mem_cons_self))))))) | exact (List.mem_cons_of_mem _ (List.mem_cons_of_mem _ (List.mem_cons_of_mem _ (List.mem_cons_of_mem _ (List.mem_cons_of_mem _ (List.mem_cons_of_mem _ (List.mem_cons_of_mem _ (List.mem_cons_of_mem _ List.mem_cons_self))))))))) ?_)
    | (refine envn_store 0 E _ _ rfl rfl rfl rfl rfl ?_; clear E; intro w2 E; simp only [List.set_cons_zero, List.set_cons_succ] at E)
    | (refine envn_store 1 E _ _ rfl rfl rfl rfl rfl ?_; clear E; intro w2 E; simp only [List.set_cons_zero, List.set_cons_succ] at E)
    | (refine envn_store 2 E _ _ rfl rfl rfl rfl rfl ?_; clear E; intro w2 E; simp only [List.set_cons_zero, List.set_cons_succ] at E)
    | (refine envn_store 3 E _ _ rfl rfl rfl rfl rfl ?_; clear E; intro w2 E; simp only [List.set_cons_zero, List.set_cons_succ] at E)
    | (refine envn_store 4 E _ _ rfl rfl rfl rfl rfl ?_; clear E; intro w2 E; simp only [List.set_cons_zero, List.set_cons_succ] at E)
    | (refine envn_store 5 E _ _ rfl rfl rfl rfl rfl ?_; clear E; intro w2 E; simp only [List.set_cons_zero, List.set_cons_succ] at E)
    | (refine envn_store 6 E _ _ rfl rfl rfl rfl rfl ?_; clear E; intro w2 E; simp only [List.set_cons_zero, List.set_cons_succ] at E)
    | (refine envn_store 7 E _ _ rfl rfl rfl rfl rfl ?_; clear E; intro w2 E; simp only [List.set_cons_zero, List.set_cons_succ] at E)
    | (with_reducible refine envn_box E rfl _ rfl rfl ?_; clear E; intro b w2 E)
    | (with_reducible refine envn_cell E rfl _ rfl rfl (by first | exact List.mem_cons_self | exact (List.mem_cons_of_mem _ List.mem_cons_self) | exact (List.mem_cons_of_mem _ (List.mem_cons_of_mem _ List.mem_cons_self))) (by decide) ?_))
  all_goals
    rename_i h
    go_ret
    refine ⟨?_, E.out.env.below⟩
  · exact rcpt_yes (e := 2) he (by omega) (by omega) (by omega) h
  · exact rcpt_no (e := 2) he (by omega) (by omega) (by omega) h
set_option maxRecDepth 100000 in
set_option maxHeartbeats 2000000 in
theorem rc3 (n : Nat) (t : Nat) (hn : n ≤ 256) (hm : t * 1 < 16777216) (hE : ((n : Int) + 7) / 8 = 3)
    (B : Hid (Gives 36 #[wide t] (.int .i64 (n : Int)))) :
    Gives 48 #[wide t] (.int .u32 ((cptOf 3 (t * 1) : Nat) : Int)) := by
  intro w
  have he : 3 ≤ 32 := by decide
  have hw : wl t 0 = .int .u64 (t : Int) := by unfold wl; congr 1; unfold limb; omega
  have E := Lib.hid (EnvN.nil w)
  go_enter Try.func48, Try.ntmps48
  go_wp2_with (first
    | (go_at_call 36; refine (B.out _).mono ?_; rintro e w1 ⟨rfl, hb⟩; replace E := Lib.hid (E.out.call hb); clear hb)
    | (with_reducible refine envn_alloc E rfl rfl ?_; clear E; intro b w2 E)
    | (with_reducible refine envn_load E _ (by kernel_rfl) rfl rfl (by first | exact List.mem_cons_self | exact (List.mem_cons_of_mem _ List.mem_cons_self) | exact (List.mem_cons_of_mem _ (List.mem_cons_of_mem _ List.mem_cons_self)) | exact (List.mem_cons_of_mem _ (List.mem_cons_of_mem _ (List.mem_cons_of_mem _ List.mem_cons_self))) | exact (List.mem_cons_of_mem _ (List.mem_cons_of_mem _ (List.mem_cons_of_mem _ (List.mem_cons_of_mem _ List.mem_cons_self)))) | exact (List.mem_cons_of_mem _ (List.mem_cons_of_mem _ (List.mem_cons_of_mem _ (List.mem_cons_of_mem _ (List.mem_cons_of_mem _ List.mem_cons_self))))) | exact (List.mem_cons_of_mem _ (List.mem_cons_of_mem _ (List.mem_cons_of_mem _ (List.mem_cons_of_mem _ (List.mem_cons_of_mem _ (List.mem_cons_of_mem _ List.mem_cons_self)))))) | exact (List.mem_cons_of_mem _ (List.mem_cons_of_mem _ (List.mem_cons_of_mem _ (List.mem_cons_of_mem _ (List.mem_cons_of_mem _ (List.mem_cons_of_mem _ (List.mem_cons_of_mem _ List.mem_cons_self))))))) | exact (List.mem_cons_of_mem _ (List.mem_cons_of_mem _ (List.mem_cons_of_mem _ (List.mem_cons_of_mem _ (List.mem_cons_of_mem _ (List.mem_cons_of_mem _ (List.mem_cons_of_mem _ (List.mem_cons_of_mem _ List.mem_cons_self))))))))) ?_)
    | (refine envn_store 0 E _ _ rfl rfl rfl rfl rfl ?_; clear E; intro w2 E; simp only [List.set_cons_zero, List.set_cons_succ] at E)
    | (refine envn_store 1 E _ _ rfl rfl rfl rfl rfl ?_; clear E; intro w2 E; simp only [List.set_cons_zero, List.set_cons_succ] at E)
    | (refine envn_store 2 E _ _ rfl rfl rfl rfl rfl ?_; clear E; intro w2 E; simp only [List.set_cons_zero, List.set_cons_succ] at E)
    | (refine envn_store 3 E _ _ rfl rfl rfl rfl rfl ?_; clear E; intro w2 E; simp only [List.set_cons_zero, List.set_cons_succ] at E)
    | (refine envn_store 4 E _ _ rfl rfl rfl rfl rfl ?_; clear E; intro w2 E; simp only [List.set_cons_zero, List.set_cons_succ] at E)
    | (refine envn_store 5 E _ _ rfl rfl rfl rfl rfl ?_; clear E; intro w2 E; simp only [List.set_cons_zero, List.set_cons_succ] at E)
    | (refine envn_store 6 E _ _ rfl rfl rfl rfl rfl ?_; clear E; intro w2 E; simp only [List.set_cons_zero, List.set_cons_succ] at E)
    | (refine envn_store 7 E _ _ rfl rfl rfl rfl rfl ?_; clear E; intro w2 E; simp only [List.set_cons_zero, List.set_cons_succ] at E)
    | (with_reducible refine envn_box E rfl _ rfl rfl ?_; clear E; intro b w2 E)
    | (with_reducible refine envn_cell E rfl _ rfl rfl (by first | exact List.mem_cons_self | exact (List.mem_cons_of_mem _ List.mem_cons_self) | exact (List.mem_cons_of_mem _ (List.mem_cons_of_mem _ List.mem_cons_self))) (by decide) ?_))
  all_goals
    rename_i h
    go_ret
    refine ⟨?_, E.out.env.below⟩
  · exact rcpt_yes (e := 3) he (by omega) (by omega) (by omega) h
  · exact rcpt_no (e := 3) he (by omega) (by omega) (by omega) h
set_option maxRecDepth 100000 in
set_option maxHeartbeats 2000000 in
theorem rc_high (n e m : Nat) (t : Nat) (hn : n ≤ 256) (he : e ≤ 32) (hm : m < 16777216) (hE : ((n : Int) + 7) / 8 = (e : Int)) (hc : ¬ (e : Int) ≤ 3)
    (B : Hid (Gives 36 #[wide t] (.int .i64 (n : Int))))
    (R : Hid (Gives 34 #[wide t, .int .i64 (8 * ((e : Int) - 3))] (wide m))) :
    Gives 48 #[wide t] (.int .u32 ((cptOf e m : Nat) : Int)) := by
  intro w
  have idx := index_low m (by omega)
  have E := Lib.hid (EnvN.nil w)
  go_enter Try.func48, Try.ntmps48
  go_wp2_with (first
    | (go_at_call 36; refine (B.out _).mono ?_; rintro e w1 ⟨rfl, hb⟩; replace E := Lib.hid (E.out.call hb); clear hb)
    | (go_at_call 34; refine (R.out _).mono ?_; rintro e w1 ⟨rfl, hb⟩; replace E := Lib.hid (E.out.call hb); clear hb)
    | (with_reducible refine envn_alloc E rfl rfl ?_; clear E; intro b w2 E)
    | (with_reducible refine envn_load E _ (by kernel_rfl) rfl rfl (by first | exact List.mem_cons_self | exact (List.mem_cons_of_mem _ List.mem_cons_self) | exact (List.mem_cons_of_mem _ (List.mem_cons_of_mem _ List.mem_cons_self)) | exact (List.mem_cons_of_mem _ (List.mem_cons_of_mem _ (List.mem_cons_of_mem _ List.mem_cons_self))) | exact (List.mem_cons_of_mem _ (List.mem_cons_of_mem _ (List.mem_cons_of_mem _ (List.mem_cons_of_mem _ List.mem_cons_self)))) | exact (List.mem_cons_of_mem _ (List.mem_cons_of_mem _ (List.mem_cons_of_mem _ (List.mem_cons_of_mem _ (List.mem_cons_of_mem _ List.mem_cons_self))))) | exact (List.mem_cons_of_mem _ (List.mem_cons_of_mem _ (List.mem_cons_of_mem _ (List.mem_cons_of_mem _ (List.mem_cons_of_mem _ (List.mem_cons_of_mem _ List.mem_cons_self)))))) | exact (List.mem_cons_of_mem _ (List.mem_cons_of_mem _ (List.mem_cons_of_mem _ (List.mem_cons_of_mem _ (List.mem_cons_of_mem _ (List.mem_cons_of_mem _ (List.mem_cons_of_mem _ List.mem_cons_self))))))) | exact (List.mem_cons_of_mem _ (List.mem_cons_of_mem _ (List.mem_cons_of_mem _ (List.mem_cons_of_mem _ (List.mem_cons_of_mem _ (List.mem_cons_of_mem _ (List.mem_cons_of_mem _ (List.mem_cons_of_mem _ List.mem_cons_self))))))))) ?_)
    | (refine envn_store 0 E _ _ rfl rfl rfl rfl rfl ?_; clear E; intro w2 E; simp only [List.set_cons_zero, List.set_cons_succ] at E)
    | (refine envn_store 1 E _ _ rfl rfl rfl rfl rfl ?_; clear E; intro w2 E; simp only [List.set_cons_zero, List.set_cons_succ] at E)
    | (refine envn_store 2 E _ _ rfl rfl rfl rfl rfl ?_; clear E; intro w2 E; simp only [List.set_cons_zero, List.set_cons_succ] at E)
    | (refine envn_store 3 E _ _ rfl rfl rfl rfl rfl ?_; clear E; intro w2 E; simp only [List.set_cons_zero, List.set_cons_succ] at E)
    | (refine envn_store 4 E _ _ rfl rfl rfl rfl rfl ?_; clear E; intro w2 E; simp only [List.set_cons_zero, List.set_cons_succ] at E)
    | (refine envn_store 5 E _ _ rfl rfl rfl rfl rfl ?_; clear E; intro w2 E; simp only [List.set_cons_zero, List.set_cons_succ] at E)
    | (refine envn_store 6 E _ _ rfl rfl rfl rfl rfl ?_; clear E; intro w2 E; simp only [List.set_cons_zero, List.set_cons_succ] at E)
    | (refine envn_store 7 E _ _ rfl rfl rfl rfl rfl ?_; clear E; intro w2 E; simp only [List.set_cons_zero, List.set_cons_succ] at E)
    | (with_reducible refine envn_box E rfl _ rfl rfl ?_; clear E; intro b w2 E)
    | (with_reducible refine envn_cell E rfl _ rfl rfl (by first | exact List.mem_cons_self | exact (List.mem_cons_of_mem _ List.mem_cons_self) | exact (List.mem_cons_of_mem _ (List.mem_cons_of_mem _ List.mem_cons_self))) (by decide) ?_))
  all_goals
    rename_i h
    go_ret
    refine ⟨?_, E.out.env.below⟩
  · exact rcpt_yes he (by omega) (by omega) (by omega) h
  · exact rcpt_no he (by omega) (by omega) (by omega) h
end Go.Proofs.Ytboffheklkhnkaa
end
section
set_option linter.unusedSimpArgs false
set_option linter.unusedVariables false
namespace Go.Proofs.Ytboffheklkhnkaa
open Go.RowKit Go.Lib Go.Sort
attribute [local go_sem ↓] Go.wp_at_zero Go.wp_at_succ


theorem ref_compact_any (t : Nat) (ht : t < P256) : Gives 48 #[wide t] (.int .u32 ((cpt t : Nat) : Int)) := by
  have hb := ref_bits_any t ht
  have hn : blen t ≤ 256 := blen_le_of ht
  have he := cpE_le ht
  have hM := cpM_lt t
  have hq : ((blen t : Int) + 7) / 8 = (cpE t : Int) := by unfold cpE; omega
  rw [← cptOf_is]
  by_cases h3 : cpE t ≤ 3
  · have e := cpM_low h3
    rw [e] at hM ⊢
    rcases (by omega : cpE t = 0 ∨ cpE t = 1 ∨ cpE t = 2 ∨ cpE t = 3) with h | h | h | h
    all_goals rw [h] at hM hq ⊢
    · exact rc0 (blen t) t hn hM hq (Lib.hid hb)
    · exact rc1 (blen t) t hn hM hq (Lib.hid hb)
    · exact rc2 (blen t) t hn hM hq (Lib.hid hb)
    · exact rc3 (blen t) t hn hM hq (Lib.hid hb)
  · have hr := ref_right_any t (8 * ((cpE t : Int) - 3)) ht
    rw [held_of (n := 8 * (cpE t - 3)) (by omega) (by omega), ← cpM_high h3] at hr
    exact rc_high (blen t) (cpE t) (cpM t) t hn he hM hq (by omega) (Lib.hid hb) (Lib.hid hr)
end Go.Proofs.Ytboffheklkhnkaa
end
