/- The bits of a number: the program's. -/
import Derived.Test.YtboffheklkhnkaaExpand
import Derived.Test.YtboffheklkhnkaaShiftR
import Derived.Test.YtboffheklkhnkaaDiv
import Derived.Test.YtboffheklkhnkaaTgt
import Derived.Test.YtboffheklkhnkaaAlc
set_option linter.unusedSimpArgs false
set_option linter.unusedVariables false
namespace Go.Proofs.Ytboffheklkhnkaa
open Go.RowKit Go.Lib Go.Sort
attribute [local go_sem ↓] Go.wp_at_zero Go.wp_at_succ


def cptOf (e M : Nat) : Nat := if M / 8388608 % 2 = 1 then (e + 1) * 16777216 + M / 256 else e * 16777216 + M
theorem cptOf_is (t : Nat) : cptOf (cpE t) (cpM t) = cpt t := rfl
theorem index_low (r : Nat) (hr : r < 18446744073709551616) (w : World) : (Instr.index 24 (wide r) (.int .i64 0)).run Try.prog w = .ok (.int .u64 (r : Int)) w := by
  have h : limb r 0 = r := by unfold limb; omega
  have k : (Instr.index 24 (wide r) (.int .i64 0)).run Try.prog w = .ok (.int .u64 ((limb r 0 : Nat) : Int)) w := by kernel_rfl
  rw [h] at k
  exact k
theorem or_part (E M : Nat) (hE : E < 256) (hM : M < 16777216) : bits .or .u32 ((E : Int) * 16777216) (M : Int) = ((E * 16777216 + M : Nat) : Int) := by
  have e : ((E : Int) * 16777216) = ((E * 16777216 : Nat) : Int) := by omega
  rw [e, Go.u32_or_nat _ _ (by omega) (by omega)]
  have h := Nat.two_pow_add_eq_or_of_lt (i := 24) (show M < 2 ^ 24 from hM) E
  rw [Nat.mul_comm E]
  exact congrArg _ h.symm
theorem sign_yes {x : Int} {M : Nat} (hx : x = (M : Int)) (hM : M < 16777216) (h : (bits .and .u32 x 8388608 != 0) = true) : M / 8388608 % 2 = 1 := by
  rw [hx, and_sign M (by omega)] at h
  rcases (by omega : M / 8388608 % 2 = 0 ∨ M / 8388608 % 2 = 1) with h0 | h0
  · rw [h0] at h; simp at h
  · exact h0
theorem sign_no {x : Int} {M : Nat} (hx : x = (M : Int)) (hM : M < 16777216) (h : (bits .and .u32 x 8388608 != 0) = false) : ¬ M / 8388608 % 2 = 1 := by
  rw [hx, and_sign M (by omega)] at h
  intro h0
  rw [h0] at h; simp at h
theorem cpt_yes {e M : Nat} (he : e ≤ 32) (hM : M < 16777216) {x y : Int} (hx : x = (M : Int)) (hy : y = ((M / 256 : Nat) : Int)) (h : (bits .and .u32 x 8388608 != 0) = true) :
    Ending.returned (.int .u32 (bits .or .u32 (((e : Int) + 1) * 16777216) y)) = .returned (.int .u32 ((cptOf e M : Nat) : Int)) := by
  have h1 := sign_yes hx hM h
  unfold cptOf
  rw [if_pos h1, hy, ← or_part (e + 1) (M / 256) (by omega) (by omega)]
  rfl
theorem cpt_no {e M : Nat} (he : e ≤ 32) (hM : M < 16777216) {x y : Int} (hx : x = (M : Int)) (hy : y = (M : Int)) (h : (bits .and .u32 x 8388608 != 0) = false) :
    Ending.returned (.int .u32 (bits .or .u32 ((e : Int) * 16777216) y)) = .returned (.int .u32 ((cptOf e M : Nat) : Int)) := by
  have h1 := sign_no hx hM h
  unfold cptOf
  rw [if_neg h1, hy, ← or_part e M (by omega) (by omega)]
set_option maxRecDepth 100000 in
set_option maxHeartbeats 2000000 in
theorem c1 (n e r : Nat) (t : Nat) (hn : n ≤ 256) (he : e ≤ 32) (hr : r < 16777216) (hE : ((n : Int) + 7) / 8 = (e : Int)) (hc : e = 1) (hr2 : r < 256)
    (B : Hid (Gives 35 #[wide t] (.int .i64 (n : Int))))
    (R : Hid (Gives 33 #[wide t, .int .i64 (8 * ((e : Int) - 3))] (wide r))) :
    Gives 47 #[wide t] (.int .u32 ((cptOf e (r * 65536) : Nat) : Int)) := by
  intro w
  have idx := index_low r (by omega)
  have g1 : ((e : Int) == 1) = true := by rw [hc]; rfl
  clear hc
  have E := Lib.hid (EnvN.nil w)
  go_enter Try.func47, Try.ntmps47
  go_wp2_with (first
    | (go_at_call 35; refine (B.out _).mono ?_; rintro e w1 ⟨rfl, hb⟩; replace E := Lib.hid (E.out.call hb); clear hb)
    | (go_at_call 33; refine (R.out _).mono ?_; rintro e w1 ⟨rfl, hb⟩; replace E := Lib.hid (E.out.call hb); clear hb)
    | (with_reducible refine envn_alloc E rfl rfl ?_; clear E; intro b w2 E)
    | (with_reducible refine envn_load E _ (by kernel_rfl) rfl rfl (by first | exact List.mem_cons_self | exact (List.mem_cons_of_mem _ List.mem_cons_self) | exact (List.mem_cons_of_mem _ (List.mem_cons_of_mem _ List.mem_cons_self)) | exact (List.mem_cons_of_mem _ (List.mem_cons_of_mem _ (List.mem_cons_of_mem _ List.mem_cons_self))) | exact (List.mem_cons_of_mem _ (List.mem_cons_of_mem _ (List.mem_cons_of_mem _ (List.mem_cons_of_mem _ List.mem_cons_self)))) | exact (List.mem_cons_of_mem _ (List.mem_cons_of_mem _ (List.mem_cons_of_mem _ (List.mem_cons_of_mem _ (List.mem_cons_of_mem _ List.mem_cons_self))))) | exact (List.mem_cons_of_mem _ (List.mem_cons_of_mem _ (List.mem_cons_of_mem _ (List.mem_cons_of_mem _ (List.mem_cons_of_mem _ (List.mem_cons_of_mem _ List.mem_cons_self)))))) | exact (List.mem_cons_of_mem _ (List.mem_cons_of_mem _ (List.mem_cons_of_mem _ (List.mem_cons_of_mem _ (List.mem_cons_of_mem _ (List.mem_cons_of_mem _ (List.mem_cons_of_mem _ List.mem_cons_self))))))) | exact (List.mem_cons_of_mem _ (List.mem_cons_of_mem _ (List.mem_cons_of_mem _ (List.mem_cons_of_mem _ (List.mem_cons_of_mem _ (List.mem_cons_of_mem _ (List.mem_cons_of_mem _ (List.mem_cons_of_mem _ List.mem_cons_self))))))))) ?_)
    | (refine envn_store 0 E _ _ rfl rfl rfl rfl rfl ?_; clear E; intro w2 E; simp only [List.set_cons_zero, List.set_cons_succ] at E)
    | (refine envn_store 1 E _ _ rfl rfl rfl rfl rfl ?_; clear E; intro w2 E; simp only [List.set_cons_zero, List.set_cons_succ] at E)
    | (refine envn_store 2 E _ _ rfl rfl rfl rfl rfl ?_; clear E; intro w2 E; simp only [List.set_cons_zero, List.set_cons_succ] at E)
    | (refine envn_store 3 E _ _ rfl rfl rfl rfl rfl ?_; clear E; intro w2 E; simp only [List.set_cons_zero, List.set_cons_succ] at E)
    | (refine envn_store 4 E _ _ rfl rfl rfl rfl rfl ?_; clear E; intro w2 E; simp only [List.set_cons_zero, List.set_cons_succ] at E)
    | (refine envn_store 5 E _ _ rfl rfl rfl rfl rfl ?_; clear E; intro w2 E; simp only [List.set_cons_zero, List.set_cons_succ] at E)
    | (refine envn_store 6 E _ _ rfl rfl rfl rfl rfl ?_; clear E; intro w2 E; simp only [List.set_cons_zero, List.set_cons_succ] at E)
    | (refine envn_store 7 E _ _ rfl rfl rfl rfl rfl ?_; clear E; intro w2 E; simp only [List.set_cons_zero, List.set_cons_succ] at E)
    | (with_reducible refine envn_box E rfl _ rfl rfl ?_; clear E; intro b w2 E))
  all_goals
    rename_i h
    go_ret
    refine ⟨?_, E.out.env.below⟩
  · exact cpt_yes he (by omega) (by omega) (by omega) h
  · exact cpt_no he (by omega) (by omega) (by omega) h
set_option maxRecDepth 100000 in
set_option maxHeartbeats 2000000 in
theorem c2 (n e r : Nat) (t : Nat) (hn : n ≤ 256) (he : e ≤ 32) (hr : r < 16777216) (hE : ((n : Int) + 7) / 8 = (e : Int)) (hc : e = 2) (hr2 : r < 65536)
    (B : Hid (Gives 35 #[wide t] (.int .i64 (n : Int))))
    (R : Hid (Gives 33 #[wide t, .int .i64 (8 * ((e : Int) - 3))] (wide r))) :
    Gives 47 #[wide t] (.int .u32 ((cptOf e (r * 256) : Nat) : Int)) := by
  intro w
  have idx := index_low r (by omega)
  have g1 : ((e : Int) == 1) = false := by rw [hc]; rfl
  have g2 : ((e : Int) == 2) = true := by rw [hc]; rfl
  clear hc
  have E := Lib.hid (EnvN.nil w)
  go_enter Try.func47, Try.ntmps47
  go_wp2_with (first
    | (go_at_call 35; refine (B.out _).mono ?_; rintro e w1 ⟨rfl, hb⟩; replace E := Lib.hid (E.out.call hb); clear hb)
    | (go_at_call 33; refine (R.out _).mono ?_; rintro e w1 ⟨rfl, hb⟩; replace E := Lib.hid (E.out.call hb); clear hb)
    | (with_reducible refine envn_alloc E rfl rfl ?_; clear E; intro b w2 E)
    | (with_reducible refine envn_load E _ (by kernel_rfl) rfl rfl (by first | exact List.mem_cons_self | exact (List.mem_cons_of_mem _ List.mem_cons_self) | exact (List.mem_cons_of_mem _ (List.mem_cons_of_mem _ List.mem_cons_self)) | exact (List.mem_cons_of_mem _ (List.mem_cons_of_mem _ (List.mem_cons_of_mem _ List.mem_cons_self))) | exact (List.mem_cons_of_mem _ (List.mem_cons_of_mem _ (List.mem_cons_of_mem _ (List.mem_cons_of_mem _ List.mem_cons_self)))) | exact (List.mem_cons_of_mem _ (List.mem_cons_of_mem _ (List.mem_cons_of_mem _ (List.mem_cons_of_mem _ (List.mem_cons_of_mem _ List.mem_cons_self))))) | exact (List.mem_cons_of_mem _ (List.mem_cons_of_mem _ (List.mem_cons_of_mem _ (List.mem_cons_of_mem _ (List.mem_cons_of_mem _ (List.mem_cons_of_mem _ List.mem_cons_self)))))) | exact (List.mem_cons_of_mem _ (List.mem_cons_of_mem _ (List.mem_cons_of_mem _ (List.mem_cons_of_mem _ (List.mem_cons_of_mem _ (List.mem_cons_of_mem _ (List.mem_cons_of_mem _ List.mem_cons_self))))))) | exact (List.mem_cons_of_mem _ (List.mem_cons_of_mem _ (List.mem_cons_of_mem _ (List.mem_cons_of_mem _ (List.mem_cons_of_mem _ (List.mem_cons_of_mem _ (List.mem_cons_of_mem _ (List.mem_cons_of_mem _ List.mem_cons_self))))))))) ?_)
    | (refine envn_store 0 E _ _ rfl rfl rfl rfl rfl ?_; clear E; intro w2 E; simp only [List.set_cons_zero, List.set_cons_succ] at E)
    | (refine envn_store 1 E _ _ rfl rfl rfl rfl rfl ?_; clear E; intro w2 E; simp only [List.set_cons_zero, List.set_cons_succ] at E)
    | (refine envn_store 2 E _ _ rfl rfl rfl rfl rfl ?_; clear E; intro w2 E; simp only [List.set_cons_zero, List.set_cons_succ] at E)
    | (refine envn_store 3 E _ _ rfl rfl rfl rfl rfl ?_; clear E; intro w2 E; simp only [List.set_cons_zero, List.set_cons_succ] at E)
    | (refine envn_store 4 E _ _ rfl rfl rfl rfl rfl ?_; clear E; intro w2 E; simp only [List.set_cons_zero, List.set_cons_succ] at E)
    | (refine envn_store 5 E _ _ rfl rfl rfl rfl rfl ?_; clear E; intro w2 E; simp only [List.set_cons_zero, List.set_cons_succ] at E)
    | (refine envn_store 6 E _ _ rfl rfl rfl rfl rfl ?_; clear E; intro w2 E; simp only [List.set_cons_zero, List.set_cons_succ] at E)
    | (refine envn_store 7 E _ _ rfl rfl rfl rfl rfl ?_; clear E; intro w2 E; simp only [List.set_cons_zero, List.set_cons_succ] at E)
    | (with_reducible refine envn_box E rfl _ rfl rfl ?_; clear E; intro b w2 E))
  all_goals
    rename_i h
    go_ret
    refine ⟨?_, E.out.env.below⟩
  · exact cpt_yes he (by omega) (by omega) (by omega) h
  · exact cpt_no he (by omega) (by omega) (by omega) h
set_option maxRecDepth 100000 in
set_option maxHeartbeats 2000000 in
theorem c3 (n e r : Nat) (t : Nat) (hn : n ≤ 256) (he : e ≤ 32) (hr : r < 16777216) (hE : ((n : Int) + 7) / 8 = (e : Int)) (hc : e ≠ 1 ∧ e ≠ 2)
    (B : Hid (Gives 35 #[wide t] (.int .i64 (n : Int))))
    (R : Hid (Gives 33 #[wide t, .int .i64 (8 * ((e : Int) - 3))] (wide r))) :
    Gives 47 #[wide t] (.int .u32 ((cptOf e (r) : Nat) : Int)) := by
  intro w
  have idx := index_low r (by omega)
  have g1 : ((e : Int) == 1) = false := by simp; omega
  have g2 : ((e : Int) == 2) = false := by simp; omega
  clear hc
  have E := Lib.hid (EnvN.nil w)
  go_enter Try.func47, Try.ntmps47
  go_wp2_with (first
    | (go_at_call 35; refine (B.out _).mono ?_; rintro e w1 ⟨rfl, hb⟩; replace E := Lib.hid (E.out.call hb); clear hb)
    | (go_at_call 33; refine (R.out _).mono ?_; rintro e w1 ⟨rfl, hb⟩; replace E := Lib.hid (E.out.call hb); clear hb)
    | (with_reducible refine envn_alloc E rfl rfl ?_; clear E; intro b w2 E)
    | (with_reducible refine envn_load E _ (by kernel_rfl) rfl rfl (by first | exact List.mem_cons_self | exact (List.mem_cons_of_mem _ List.mem_cons_self) | exact (List.mem_cons_of_mem _ (List.mem_cons_of_mem _ List.mem_cons_self)) | exact (List.mem_cons_of_mem _ (List.mem_cons_of_mem _ (List.mem_cons_of_mem _ List.mem_cons_self))) | exact (List.mem_cons_of_mem _ (List.mem_cons_of_mem _ (List.mem_cons_of_mem _ (List.mem_cons_of_mem _ List.mem_cons_self)))) | exact (List.mem_cons_of_mem _ (List.mem_cons_of_mem _ (List.mem_cons_of_mem _ (List.mem_cons_of_mem _ (List.mem_cons_of_mem _ List.mem_cons_self))))) | exact (List.mem_cons_of_mem _ (List.mem_cons_of_mem _ (List.mem_cons_of_mem _ (List.mem_cons_of_mem _ (List.mem_cons_of_mem _ (List.mem_cons_of_mem _ List.mem_cons_self)))))) | exact (List.mem_cons_of_mem _ (List.mem_cons_of_mem _ (List.mem_cons_of_mem _ (List.mem_cons_of_mem _ (List.mem_cons_of_mem _ (List.mem_cons_of_mem _ (List.mem_cons_of_mem _ List.mem_cons_self))))))) | exact (List.mem_cons_of_mem _ (List.mem_cons_of_mem _ (List.mem_cons_of_mem _ (List.mem_cons_of_mem _ (List.mem_cons_of_mem _ (List.mem_cons_of_mem _ (List.mem_cons_of_mem _ (List.mem_cons_of_mem _ List.mem_cons_self))))))))) ?_)
    | (refine envn_store 0 E _ _ rfl rfl rfl rfl rfl ?_; clear E; intro w2 E; simp only [List.set_cons_zero, List.set_cons_succ] at E)
    | (refine envn_store 1 E _ _ rfl rfl rfl rfl rfl ?_; clear E; intro w2 E; simp only [List.set_cons_zero, List.set_cons_succ] at E)
    | (refine envn_store 2 E _ _ rfl rfl rfl rfl rfl ?_; clear E; intro w2 E; simp only [List.set_cons_zero, List.set_cons_succ] at E)
    | (refine envn_store 3 E _ _ rfl rfl rfl rfl rfl ?_; clear E; intro w2 E; simp only [List.set_cons_zero, List.set_cons_succ] at E)
    | (refine envn_store 4 E _ _ rfl rfl rfl rfl rfl ?_; clear E; intro w2 E; simp only [List.set_cons_zero, List.set_cons_succ] at E)
    | (refine envn_store 5 E _ _ rfl rfl rfl rfl rfl ?_; clear E; intro w2 E; simp only [List.set_cons_zero, List.set_cons_succ] at E)
    | (refine envn_store 6 E _ _ rfl rfl rfl rfl rfl ?_; clear E; intro w2 E; simp only [List.set_cons_zero, List.set_cons_succ] at E)
    | (refine envn_store 7 E _ _ rfl rfl rfl rfl rfl ?_; clear E; intro w2 E; simp only [List.set_cons_zero, List.set_cons_succ] at E)
    | (with_reducible refine envn_box E rfl _ rfl rfl ?_; clear E; intro b w2 E))
  all_goals
    rename_i h
    go_ret
    refine ⟨?_, E.out.env.below⟩
  · exact cpt_yes he (by omega) (by omega) (by omega) h
  · exact cpt_no he (by omega) (by omega) (by omega) h

theorem cpM_low {t : Nat} (h : cpE t ≤ 3) : cpM t = t * 2 ^ (8 * (3 - cpE t)) := by unfold cpM; rw [if_pos h]
theorem cpM_high {t : Nat} (h : ¬ cpE t ≤ 3) : cpM t = t / 2 ^ (8 * (cpE t - 3)) := by unfold cpM; rw [if_neg h]
theorem lt_cpE (t : Nat) : t < 2 ^ (8 * cpE t) := Nat.lt_of_lt_of_le (blen_lt t) (Nat.pow_le_pow_right (by decide) (by unfold cpE; omega))
theorem compact_any (t : Nat) (ht : t < P256) : Gives 47 #[wide t] (.int .u32 ((cpt t : Nat) : Int)) := by
  have hb := bits_any t ht
  have hn : blen t ≤ 256 := blen_le_of ht
  have hE : ((blen t : Nat) : Int) + 7 = ((blen t + 7 : Nat) : Int) := by omega
  have he := cpE_le ht
  have hr := right_any t (8 * ((cpE t : Int) - 3)) ht (by omega)
  have hM := cpM_lt t
  have hl := lt_cpE t
  have hq : ((blen t : Int) + 7) / 8 = (cpE t : Int) := by unfold cpE; omega
  rw [← cptOf_is]
  by_cases h1 : cpE t = 1
  · rw [show (8 * ((cpE t : Int) - 3)).toNat = 0 by omega, Nat.pow_zero, Nat.div_one] at hr
    rw [h1] at hl
    have e : cpM t = t * 65536 := by rw [cpM_low (by omega), h1]
    rw [e]
    exact c1 (blen t) (cpE t) t t hn he (by omega) hq h1 (by omega) (Lib.hid hb) (Lib.hid hr)
  by_cases h2 : cpE t = 2
  · rw [show (8 * ((cpE t : Int) - 3)).toNat = 0 by omega, Nat.pow_zero, Nat.div_one] at hr
    rw [h2] at hl
    have e : cpM t = t * 256 := by rw [cpM_low (by omega), h2]
    rw [e]
    exact c2 (blen t) (cpE t) t t hn he (by omega) hq h2 (by omega) (Lib.hid hb) (Lib.hid hr)
  have e : t / 2 ^ (8 * ((cpE t : Int) - 3)).toNat = cpM t := by
    by_cases h3 : cpE t ≤ 3
    · rw [show (8 * ((cpE t : Int) - 3)).toNat = 0 by omega, Nat.pow_zero, Nat.div_one, cpM_low h3]
      rcases (by omega : cpE t = 0 ∨ cpE t = 3) with h | h
      · rw [h] at hl
        have : t = 0 := by omega
        rw [this, Nat.zero_mul]
      · rw [h]; exact (Nat.mul_one t).symm
    · rw [cpM_high h3, show (8 * ((cpE t : Int) - 3)).toNat = 8 * (cpE t - 3) by omega]
  rw [e] at hr
  exact c3 (blen t) (cpE t) (cpM t) t hn he hM hq ⟨h1, h2⟩ (Lib.hid hb) (Lib.hid hr)
end Go.Proofs.Ytboffheklkhnkaa
