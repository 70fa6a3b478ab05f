/- What bits' m leaves, and by how many bits it goes up: the program's cut. -/
import Derived.Test.YtboffheklkhnkaaTgt
import Derived.Test.YtboffheklkhnkaaSub
import Derived.Shelf.Spec.TrailingZeros
import Derived.Test.YtboffheklkhnkaaEnvN
import Derived.Test.YtboffheklkhnkaaShift
import Derived.Test.YtboffheklkhnkaaLen
import Derived.Test.YtboffheklkhnkaaEnv2
import Derived.Laws.BitsAllLaws
namespace Go.Proofs.Ytboffheklkhnkaa
open Go.RowKit Go.Lib
attribute [local go_sem ↓] Go.wp_at_zero Go.wp_at_succ

theorem and_part (b : Nat) (hb : b < 4294967296) : bits .and .u32 (b : Int) 8388607 = ((exM b : Nat) : Int) := by
  have h := bits_and_u32_nat b 8388607 hb (by omega)
  have e : b &&& 8388607 = b % 8388608 := Nat.and_two_pow_sub_one_eq_mod b 23
  rw [e] at h
  exact h
set_option maxRecDepth 100000 in
set_option maxHeartbeats 1000000 in
theorem cut_any (b : Nat) (hb : b < 4294967296) (w : World) :
    Calls Try.prog 61 #[.int .u32 (b : Int)] w fun e w' => e = .returned (.tuple #[.int .u32 ((exP b : Nat) : Int), .int .i64 ((exU b : Nat) : Int)]) ∧ Below w.heap.size w w' := by
  have hm := and_part b hb
  have hE : (b : Int) / 16777216 = ((exE b : Nat) : Int) := by unfold exE; omega
  have hl := exM_lt b
  go_enter Try.func61, Try.ntmps61
  go_wp2
  all_goals
    rename_i h
    rw [hE] at *
    simp only [beq_iff_eq, beq_eq_false_iff_ne, ne_eq] at *
    go_ret2
  all_goals
    refine ⟨?_, Below.refl _ _⟩
    refine congrArg Ending.returned ?_
    refine congrArg Value.tuple ?_
  · have e0 : exE b = 0 := by omega
    have h1 : ((exM b : Nat) : Int) / 256 / 256 / 256 = ((exP b : Nat) : Int) := by unfold exP; rw [if_pos (by omega), e0]; omega
    have h2 : exU b = 0 := by unfold exU; rw [if_pos (by omega)]
    rw [← h1, h2]; rfl
  · have e0 : exE b = 1 := by omega
    have h1 : ((exM b : Nat) : Int) / 256 / 256 = ((exP b : Nat) : Int) := by unfold exP; rw [if_pos (by omega), e0]; omega
    have h2 : exU b = 0 := by unfold exU; rw [if_pos (by omega)]
    rw [← h1, h2]; rfl
  · have e0 : exE b = 2 := by omega
    have h1 : ((exM b : Nat) : Int) / 256 = ((exP b : Nat) : Int) := by unfold exP; rw [if_pos (by omega), e0]; omega
    have h2 : exU b = 0 := by unfold exU; rw [if_pos (by omega)]
    rw [← h1, h2]; rfl
  · have h1 : exP b = exM b := by unfold exP; rw [if_neg (by omega)]
    have h2 : ((exU b : Nat) : Int) = 8 * (((exE b : Nat) : Int) - 3) := by unfold exU; rw [if_neg (by omega)]; omega
    rw [h1, h2]; rfl
end Go.Proofs.Ytboffheklkhnkaa
section
set_option linter.unusedSimpArgs false
namespace Go.Proofs.Ytboffheklkhnkaa
open Go.RowKit Go.Lib
attribute [local go_sem ↓] Go.wp_at_zero Go.wp_at_succ

theorem and_sign (b : Nat) (hb : b < 4294967296) : bits .and .u32 (b : Int) 8388608 = ((b / 8388608 % 2 * 8388608 : Nat) : Int) := by
  have h := bits_and_u32_nat b 8388608 hb (by omega)
  have e : b &&& 8388608 = b / 8388608 % 2 * 8388608 := Go.nat_bit 23 b
  rw [e] at h
  exact h
set_option maxRecDepth 100000 in
set_option maxHeartbeats 1000000 in
theorem expand_signed (b : Nat) (hb : b < 4294967296) (hs : signed b) (w : World) :
    Calls Try.prog 43 #[.int .u32 (b : Int)] w fun e w' => e = .returned (.tuple #[wide 0, .int .i64 40]) ∧ Below w.heap.size w w' := by
  have hm := and_sign b hb
  unfold signed at hs
  rw [hs] at hm
  have E := Lib.hid ((EnvN.nil w).nextz (b := w.heap.size) rfl)
  go_enter Try.func43, Try.ntmps43
  go_wp2_with (first
    | (with_reducible refine env_build 0 #[] #[] built_0 (by kernel_rfl) rfl (by kernel_rfl) ?_)
    | (refine envn_store 0 E _ _ rfl rfl rfl rfl rfl ?_; clear E; intro w2 E; simp only [List.set_cons_zero, List.set_cons_succ] at E))
  exact bodyPost_ret (res_row_tmp (fn := Try.f43) rfl _ _ (w.heap.size) 4 24 _ _ rfl (E.out.get List.mem_cons_self) Try.underlying24 rfl (by kernel_rfl)) rfl ⟨rfl, E.out.env.below⟩
end Go.Proofs.Ytboffheklkhnkaa
end
section
set_option linter.unusedSimpArgs false
namespace Go.Proofs.Ytboffheklkhnkaa
open Go.RowKit Go.Lib
attribute [local go_sem ↓] Go.wp_at_zero Go.wp_at_succ

theorem built_n (p : Nat) (hp : p < 18446744073709551616) : Try.prog.built 24 (#[(0, .int .u64 (p : Int))] : Array (Nat × Value)).toList = some (arr 4 (wl p)) := by
  have h0 : limb p 0 = p := by unfold limb; omega
  have h1 : limb p 1 = 0 := by unfold limb; omega
  have h2 : limb p 2 = 0 := by unfold limb; omega
  have h3 : limb p 3 = 0 := by unfold limb; omega
  have e : arr 4 (wl p) = #[.int .u64 (p : Int), .int .u64 0, .int .u64 0, .int .u64 0] := by
    rw [show arr 4 (wl p) = #[wl p 0, wl p 1, wl p 2, wl p 3] from rfl]
    unfold wl
    rw [h0, h1, h2, h3]
    rfl
  rw [e]
  rfl
theorem built_n0 : Try.prog.built 24 (#[(0, .int .u64 0)] : Array (Nat × Value)).toList = some (arr 4 (wl 0)) := by kernel_rfl
set_option maxRecDepth 100000 in
set_option maxHeartbeats 1000000 in
theorem expand_zero (b : Nat) (hb : b < 4294967296) (hs : ¬ signed b) (h0 : exP b = 0) (w : World) :
    Calls Try.prog 43 #[.int .u32 (b : Int)] w fun e w' => e = .returned (.tuple #[wide 0, .int .i64 40]) ∧ Below w.heap.size w w' := by
  have hm := and_sign b hb
  unfold signed at hs
  rw [show b / 8388608 % 2 = 0 by omega] at hm
  have c := cut_any b hb
  rw [h0] at c
  obtain ⟨u, hu⟩ : ∃ u, u = exU b := ⟨_, rfl⟩
  rw [← hu] at c
  clear hu
  have C := Lib.hid c
  have E := Lib.hid ((EnvN.nil w).nextz (b := w.heap.size) rfl)
  clear c
  go_enter Try.func43, Try.ntmps43
  go_wp2_with (first
    | (go_at_call 61; refine (C.out _).mono ?_; rintro e w1 ⟨rfl, hb⟩; replace E := Lib.hid (E.out.call hb); clear hb)
    | (with_reducible refine env_build 0 #[] #[] built_0 (by kernel_rfl) rfl (by kernel_rfl) ?_)
    | (with_reducible refine env_build 0 #[(0, .tmp 17)] #[(0, .int .u64 0)] built_n0 (by kernel_rfl) rfl (by kernel_rfl) ?_)
    | (with_reducible refine envn_store_new E _ _ rfl rfl rfl rfl ?_; clear E; intro w2 E)
    | (refine envn_store 1 E _ _ rfl rfl rfl rfl rfl ?_; clear E; intro w2 E; simp only [List.set_cons_zero, List.set_cons_succ] at E))
  exact bodyPost_ret (res_row_tmp (fn := Try.f43) rfl _ _ (w.heap.size) 4 24 _ _ rfl (E.out.get (List.mem_cons_of_mem _ List.mem_cons_self)) Try.underlying24 rfl (by kernel_rfl)) rfl ⟨rfl, E.out.env.below⟩
end Go.Proofs.Ytboffheklkhnkaa
end
section
set_option linter.unusedSimpArgs false
namespace Go.Proofs.Ytboffheklkhnkaa
open Go.RowKit Go.Lib
attribute [local go_sem ↓] Go.wp_at_zero Go.wp_at_succ

set_option maxRecDepth 100000 in
set_option maxHeartbeats 1000000 in
theorem expand_over (b : Nat) (hb : b < 4294967296) (hs : ¬ signed b) (h0 : exP b ≠ 0) (h1 : 256 < blen (exP b) + exU b) (w : World) :
    Calls Try.prog 43 #[.int .u32 (b : Int)] w fun e w' => e = .returned (.tuple #[wide 0, .int .i64 40]) ∧ Below w.heap.size w w' := by
  have hm := and_sign b hb
  unfold signed at hs
  rw [show b / 8388608 % 2 = 0 by omega] at hm
  have c := cut_any b hb
  have lp := exP_lt b
  have lu : exU b ≤ 2040 := by unfold exU exE; split <;> omega
  obtain ⟨u, hu⟩ : ∃ u, u = exU b := ⟨_, rfl⟩
  obtain ⟨p, hp⟩ : ∃ p, p = exP b := ⟨_, rfl⟩
  rw [← hu, ← hp] at c
  rw [← hp] at h0 lp
  rw [← hu, ← hp] at h1
  rw [← hu] at lu
  clear hu hp
  have C := Lib.hid c
  have cb := bits_any p (Nat.lt_trans lp (by decide))
  have lb : blen p ≤ 256 := blen_le_of (Nat.lt_trans lp (by decide))
  obtain ⟨n, hn⟩ : ∃ n, n = blen p := ⟨_, rfl⟩
  rw [← hn] at cb lb h1
  clear hn
  have B := Lib.hid cb
  have bn := built_n p (by omega)
  have g0 : ((p : Int) == 0) = false := by simp [h0]
  have g1 : (decide ((256 : Int) < (n : Int) + (u : Int))) = true := decide_eq_true (by omega)
  have E := Lib.hid ((EnvN.nil w).nextz (b := w.heap.size) rfl)
  clear c cb
  go_enter Try.func43, Try.ntmps43
  go_wp2_with (first
    | (go_at_call 61; refine (C.out _).mono ?_; rintro e w1 ⟨rfl, hb⟩; replace E := Lib.hid (E.out.call hb); clear hb)
    | (go_at_call 35; refine (B.out _).mono ?_; rintro e w1 ⟨rfl, hb⟩; replace E := Lib.hid (E.out.call hb); clear hb)
    | (with_reducible refine env_build 0 #[] #[] built_0 (by kernel_rfl) rfl (by kernel_rfl) ?_)
    | (with_reducible refine env_build p #[(0, .tmp 17)] #[(0, .int .u64 (p : Int))] bn (by kernel_rfl) rfl (by kernel_rfl) ?_)
    | (with_reducible refine envn_store_new E _ _ rfl rfl rfl rfl ?_; clear E; intro w2 E)
    | (with_reducible refine envn_load E _ (by kernel_rfl) rfl rfl List.mem_cons_self ?_)
    | (refine envn_store 1 E _ _ rfl rfl rfl rfl rfl ?_; clear E; intro w2 E; simp only [List.set_cons_zero, List.set_cons_succ] at E))
  exact bodyPost_ret (res_row_tmp (fn := Try.f43) rfl _ _ (w.heap.size) 4 24 _ _ rfl (E.out.get (List.mem_cons_of_mem _ List.mem_cons_self)) Try.underlying24 rfl (by kernel_rfl)) rfl ⟨rfl, E.out.env.below⟩
end Go.Proofs.Ytboffheklkhnkaa
end
section
set_option linter.unusedSimpArgs false
namespace Go.Proofs.Ytboffheklkhnkaa
open Go.RowKit Go.Lib
attribute [local go_sem ↓] Go.wp_at_zero Go.wp_at_succ

set_option maxRecDepth 100000 in
set_option maxHeartbeats 1000000 in
theorem expand_on (b : Nat) (hb : b < 4294967296) (hT : isT b) (w : World) :
    Calls Try.prog 43 #[.int .u32 (b : Int)] w fun e w' => e = .returned (.tuple #[wide (tOf b), .int .i64 0]) ∧ Below w.heap.size w w' := by
  have hm := and_sign b hb
  obtain ⟨hs, h0, h1⟩ := hT
  unfold signed at hs
  rw [show b / 8388608 % 2 = 0 by omega] at hm
  have c := cut_any b hb
  have lp := exP_lt b
  have lu : exU b ≤ 2040 := by unfold exU exE; split <;> omega
  obtain ⟨u, hu⟩ : ∃ u, u = exU b := ⟨_, rfl⟩
  obtain ⟨p, hp⟩ : ∃ p, p = exP b := ⟨_, rfl⟩
  rw [← hu, ← hp] at c
  have lf := left_any p (u : Int) (by rw [hu]; omega)
  have ht : p * 2 ^ (u : Int).toNat = tOf b := by unfold tOf; rw [hp, hu]; rfl
  obtain ⟨t, et⟩ : ∃ t, t = tOf b := ⟨_, rfl⟩
  rw [ht, ← et] at lf
  rw [← et]
  clear ht et
  have L := Lib.hid lf
  clear lf
  rw [← hp] at h0 lp
  rw [← hu, ← hp] at h1
  rw [← hu] at lu
  clear hu hp
  have C := Lib.hid c
  have cb := bits_any p (Nat.lt_trans lp (by decide))
  have lb : blen p ≤ 256 := blen_le_of (Nat.lt_trans lp (by decide))
  obtain ⟨n, hn⟩ : ∃ n, n = blen p := ⟨_, rfl⟩
  rw [← hn] at cb lb h1
  clear hn
  have B := Lib.hid cb
  have bn := built_n p (by omega)
  have g0 : ((p : Int) == 0) = false := by simp [h0]
  have g1 : (decide ((256 : Int) < (n : Int) + (u : Int))) = false := decide_eq_false (by omega)
  have E := Lib.hid ((EnvN.nil w).nextz (b := w.heap.size) rfl)
  clear c cb
  go_enter Try.func43, Try.ntmps43
  go_wp2_with (first
    | (go_at_call 61; refine (C.out _).mono ?_; rintro e w1 ⟨rfl, hb⟩; replace E := Lib.hid (E.out.call hb); clear hb)
    | (go_at_call 35; refine (B.out _).mono ?_; rintro e w1 ⟨rfl, hb⟩; replace E := Lib.hid (E.out.call hb); clear hb)
    | (go_at_call 31; refine (L.out _).mono ?_; rintro e w1 ⟨rfl, hb⟩; replace E := Lib.hid (E.out.call hb); clear hb)
    | (with_reducible refine env_build 0 #[] #[] built_0 (by kernel_rfl) rfl (by kernel_rfl) ?_)
    | (with_reducible refine env_build p #[(0, .tmp 17)] #[(0, .int .u64 (p : Int))] bn (by kernel_rfl) rfl (by kernel_rfl) ?_)
    | (with_reducible refine envn_store_new E _ _ rfl rfl rfl rfl ?_; clear E; intro w2 E)
    | (with_reducible refine envn_load E _ (by kernel_rfl) rfl rfl List.mem_cons_self ?_)
    | (refine envn_store 1 E _ _ rfl rfl rfl rfl rfl ?_; clear E; intro w2 E; simp only [List.set_cons_zero, List.set_cons_succ] at E))
  exact bodyPost_ret (res_row_tmp (fn := Try.f43) rfl _ _ (w.heap.size) 4 24 _ _ rfl (E.out.get (List.mem_cons_of_mem _ List.mem_cons_self)) Try.underlying24 rfl (by kernel_rfl)) rfl ⟨rfl, E.out.env.below⟩

/-- What Expand returns. -/
theorem expand_off (b : Nat) (hb : b < 4294967296) (hT : ¬ isT b) (w : World) :
    Calls Try.prog 43 #[.int .u32 (b : Int)] w fun e w' => e = .returned (.tuple #[wide 0, .int .i64 40]) ∧ Below w.heap.size w w' := by
  by_cases hs : signed b
  · exact expand_signed b hb hs w
  by_cases h0 : exP b = 0
  · exact expand_zero b hb hs h0 w
  · exact expand_over b hb hs h0 (by have h : ¬ (blen (exP b) + exU b ≤ 256) := fun h => hT ⟨hs, h0, h⟩; omega) w
end Go.Proofs.Ytboffheklkhnkaa
end
section
set_option linter.unusedSimpArgs false
namespace Go.Proofs.Ytboffheklkhnkaa
open Go.RowKit Go.Lib
attribute [local go_sem ↓] Go.wp_at_zero Go.wp_at_succ

set_option maxRecDepth 100000 in
set_option maxHeartbeats 1000000 in
theorem work_off (b : Nat) (hb : b < 4294967296) (hT : ¬ isT b) (w : World) :
    Calls Try.prog 45 #[.int .u32 (b : Int)] w fun e w' => e = .returned (.tuple #[wide 0, .int .i64 40]) ∧ Below w.heap.size w w' := by
  have C := Lib.hid (expand_off b hb hT)
  have E := Lib.hid ((EnvN.nil w).nextz (b := w.heap.size) rfl)
  clear hT
  go_enter Try.func45, Try.ntmps45
  go_wp2_with (first
    | (go_at_call 43; refine (C.out _).mono ?_; rintro e w1 ⟨rfl, hb⟩; replace E := Lib.hid (E.out.call hb); clear hb)
    | (with_reducible refine env_build 0 #[] #[] built_0 (by kernel_rfl) rfl (by kernel_rfl) ?_)
    | (with_reducible refine envn_store_new E _ _ rfl rfl rfl rfl ?_; clear E; intro w2 E)
    | (refine envn_store 1 E _ _ rfl rfl rfl rfl rfl ?_; clear E; intro w2 E; simp only [List.set_cons_zero, List.set_cons_succ] at E))
  exact bodyPost_ret (res_row_tmp (fn := Try.f45) rfl _ _ (w.heap.size) 4 24 _ _ rfl (E.out.get (List.mem_cons_of_mem _ List.mem_cons_self)) Try.underlying24 rfl (by kernel_rfl)) rfl ⟨rfl, E.out.env.below⟩
end Go.Proofs.Ytboffheklkhnkaa
end
