/- The document's division of numbers of 256 bits, bit by bit: it returns the quotient, the rest, and no error; or noughts and the error; what lay in memory stays. -/
import Derived.Test.YtboffheklkhnkaaDiv
import Derived.Test.YtboffheklkhnkaaRefSub
import Derived.Test.YtboffheklkhnkaaRefShift
import Derived.Test.YtboffheklkhnkaaEnv2
set_option linter.unusedSimpArgs false
namespace Go.Proofs.Ytboffheklkhnkaa
open Go.RowKit Go.Lib Go.Sort
attribute [local go_sem ↓] Go.wp_at_zero Go.wp_at_succ

set_option maxRecDepth 100000 in
set_option maxHeartbeats 4000000 in
theorem ref_div_zero (a : Nat) (w : World) :
    Calls Try.prog 28 #[wide a, wide 0] w fun e w' => e = .returned (.tuple #[wide 0, wide 0, .int .i64 30]) ∧ Below w.heap.size w w' := by
  have sm := same_wide 0
  have E := Lib.hid (envn_four w a 0)
  go_enter Try.func28, Try.ntmps28
  go_wp2_with (first
    | (with_reducible refine env_build 0 #[] #[] built_0 (by kernel_rfl) rfl (by kernel_rfl) ?_)
    | (with_reducible refine envn_store_new E _ _ rfl rfl rfl rfl ?_; clear E; intro w2 E)
    | (with_reducible refine envn_load E _ (by kernel_rfl) rfl rfl (by first | exact List.mem_cons_self | exact (List.mem_cons_of_mem _ List.mem_cons_self) | exact (List.mem_cons_of_mem _ (List.mem_cons_of_mem _ List.mem_cons_self)) | exact (List.mem_cons_of_mem _ (List.mem_cons_of_mem _ (List.mem_cons_of_mem _ List.mem_cons_self))) | exact (List.mem_cons_of_mem _ (List.mem_cons_of_mem _ (List.mem_cons_of_mem _ (List.mem_cons_of_mem _ List.mem_cons_self))))) ?_)
    | (refine envn_store 0 E _ _ rfl rfl rfl rfl rfl ?_; clear E; intro w2 E; simp only [List.set_cons_zero, List.set_cons_succ] at E)
    | (refine envn_store 1 E _ _ rfl rfl rfl rfl rfl ?_; clear E; intro w2 E; simp only [List.set_cons_zero, List.set_cons_succ] at E))
  exact bodyPost_ret (res_row_row_tmp (fn := Try.f28) rfl _ _ (w.heap.size + 1 + 1) (w.heap.size + 1 + 1 + 1) 4 24 _ _ _ rfl (E.out.get (List.mem_cons_of_mem _ List.mem_cons_self)) rfl (E.out.get List.mem_cons_self) Try.underlying24 rfl (by kernel_rfl)) rfl ⟨rfl, E.out.env.below⟩

/-- What a round of the document's division says. -/
theorem ref_round {a b t : Nat} (hb : 0 < b) :
    (b ≤ 2 * (a / 2 ^ (t + 1) % b) + a / 2 ^ t % 2 → a / 2 ^ t / b * 2 ^ t = (a / 2 ^ (t + 1) / b * 2 ^ (t + 1)) ||| 1 * 2 ^ t ∧ a / 2 ^ t % b = 2 * (a / 2 ^ (t + 1) % b) + a / 2 ^ t % 2 - b) ∧
    (¬ b ≤ 2 * (a / 2 ^ (t + 1) % b) + a / 2 ^ t % 2 → a / 2 ^ t / b * 2 ^ t = a / 2 ^ (t + 1) / b * 2 ^ (t + 1) ∧ a / 2 ^ t % b = 2 * (a / 2 ^ (t + 1) % b) + a / 2 ^ t % 2) := by
  obtain ⟨h1, h2⟩ := ref_div a b t hb
  constructor
  · intro h
    rw [if_pos h] at h1 h2
    refine ⟨?_, h2⟩
    rw [Quo.bit (Nat.mul_mod_left _ _), h1, Nat.add_mul, Nat.one_mul, Nat.pow_succ]
    congr 1
    ac_rfl
  · intro h
    rw [if_neg h] at h1 h2
    refine ⟨?_, by rw [h2, Nat.sub_zero]⟩
    rw [h1, Nat.add_zero, Nat.pow_succ]
    ac_rfl
theorem high_bit {r x b : Nat} (hr : r < P256) (hb : b < P256) (hx : x < 2) :
    (r / 2 ^ 255 % 2 = 1 → b ≤ 2 * r + x ∧ P256 ≤ 2 * r + x) ∧ (r / 2 ^ 255 % 2 = 0 → 2 * r + x < P256) := by
  have e : (2 : Nat) ^ 255 = 57896044618658097711785492504343953926634992332820282019728792003956564819968 := by decide
  rw [P256_num] at *
  rw [e]
  constructor <;> omega
theorem sub_mod {R b : Nat} (h : b ≤ R) (h2 : R < 2 * b) (hb : b < P256) : (R % P256 + P256 - b) % P256 = R - b := by
  rw [P256_num] at *
  omega
theorem or_low (r x : Nat) (hx : x < 2) : r * 2 ^ 1 ||| x * 2 ^ 0 = 2 * r + x := by
  rw [Nat.pow_zero, Nat.mul_one, Nat.mul_comm r, ← Nat.two_pow_add_eq_or_of_lt (by omega : x < 2 ^ 1), Nat.pow_one]
theorem or_low_int (n x : Nat) (hx : x < 2) : bits .or .u64 ((limb n 0 : Nat) : Int) (x : Int) = ((limb n 0 ||| x * 2 ^ 0 : Nat) : Int) := by
  rw [u64_or_nat _ _ (limb_lt n 0) (by omega), Nat.pow_zero, Nat.mul_one]

set_option maxRecDepth 100000 in
set_option maxHeartbeats 8000000 in
theorem ref_div_any (a b : Nat) (ha : a < P256) (hb : b < P256) (h0 : b ≠ 0) (w : World) :
    Calls Try.prog 28 #[wide a, wide b] w fun e w' => e = .returned (.tuple #[wide (a / b), wide (a % b), .int .i64 0]) ∧ Below w.heap.size w w' := by
  have sm := ne_zero_eq b hb h0
  have HAB := Lib.hid (And.intro ha (And.intro hb (Nat.pos_of_ne_zero h0)))
  obtain ⟨x, hx⟩ : ∃ x, x = a / b := ⟨_, rfl⟩
  obtain ⟨y, hy⟩ : ∃ y, y = a % b := ⟨_, rfl⟩
  rw [← hx, ← hy]
  have HXY := Lib.hid (And.intro hx hy)
  have E := Lib.hid (envn_four w a b)
  clear ha hb h0 hx hy
  go_enter Try.func28, Try.ntmps28
  go_upto_region 4 with (first
    | (with_reducible refine env_build 0 #[] #[] built_0 (by kernel_rfl) rfl (by kernel_rfl) ?_)
    | (with_reducible refine envn_store_new E _ _ rfl rfl rfl rfl ?_; clear E; intro w2 E)
    | (with_reducible refine envn_load E _ (by kernel_rfl) rfl rfl (by first | exact List.mem_cons_self | exact (List.mem_cons_of_mem _ List.mem_cons_self) | exact (List.mem_cons_of_mem _ (List.mem_cons_of_mem _ List.mem_cons_self)) | exact (List.mem_cons_of_mem _ (List.mem_cons_of_mem _ (List.mem_cons_of_mem _ List.mem_cons_self))) | exact (List.mem_cons_of_mem _ (List.mem_cons_of_mem _ (List.mem_cons_of_mem _ (List.mem_cons_of_mem _ List.mem_cons_self))))) ?_))
  clear sm
  replace E := Lib.hid ((E.out.nextz (b := w.heap.size + 1 + 1 + 1 + 1) (by simp)).nextz (b := w.heap.size + 1 + 1 + 1 + 1 + 1) (by simp))
  generalize (((((w.alloc (.cells (arr 4 (wl a)) 24)).alloc (.cells (arr 4 (wl b)) 24)).alloc (.cells z4 24)).alloc (.cells z4 24)).alloc (.cells z4 24)).alloc (.cells z4 24) = W0 at *
  go_wp2
  go_loopg [9] 256 (fun k i wr => ∃ (q r : Nat), i = .int .i64 ((k : Int) - 1) ∧ k ≤ 256 ∧ q = a / 2 ^ k / b * 2 ^ k ∧ r = a / 2 ^ k % b ∧ EnvN w [(w.heap.size + 1 + 1 + 1 + 1 + 1, wl r), (w.heap.size + 1 + 1 + 1 + 1, wl q), (w.heap.size + 1 + 1 + 1, wl 0), (w.heap.size + 1 + 1, wl 0), (w.heap.size + 1, wl b), (w.heap.size, wl a)] wr)
  case atStart =>
    refine ⟨0, 0, rfl, by omega, ?_, ?_, E.out⟩
    · rw [show a / 2 ^ 256 = 0 from Nat.div_eq_of_lt HAB.out.1, Nat.zero_div, Nat.zero_mul]
    · rw [show a / 2 ^ 256 = 0 from Nat.div_eq_of_lt HAB.out.1, Nat.zero_mod]
  case round =>
    clear E
    obtain ⟨q, r, rfl, hk, hq, hr, hE⟩ := hrel
    obtain ⟨kk, rfl⟩ : ∃ kk : Nat, kk = gk := ⟨_, rfl⟩
    have E := Lib.hid hE
    clear hE
    rcases Nat.eq_zero_or_pos kk with h0 | h0
    · subst h0
      rw [Nat.pow_zero, Nat.div_one, Nat.mul_one] at hq
      rw [Nat.pow_zero, Nat.div_one] at hr
      rw [← HXY.out.1] at hq
      rw [← HXY.out.2] at hr
      subst hq hr
      clear hk
      go_upto_region 13 with fail
      have E0 := Lib.hid E.out.drew
      clear E
      refine wp_region_held (S := fun W => Env w [(w.heap.size + 1 + 1 + 1 + 1, wl q), (w.heap.size + 1 + 1 + 1 + 1 + 1, wl r)] W) (by kernel_rfl) ?_
      refine held_load_to 0 56 (.tmp 7) rfl rfl (by kernel_rfl) (by kernel_rfl) (by kernel_rfl) (fun _ _ _ h => h) rfl rfl rfl (fun W hW => hW.get List.mem_cons_self) (E0.out.env.sub (mem_two (List.mem_cons_of_mem _ List.mem_cons_self) List.mem_cons_self)) ?_
      refine held_load_to 1 57 (.tmp 8) rfl rfl (by kernel_rfl) (by kernel_rfl) (by kernel_rfl) (fun _ _ _ h => h) rfl rfl rfl (fun W hW => hW.get (List.mem_cons_of_mem _ List.mem_cons_self)) (E0.out.env.sub (mem_two (List.mem_cons_of_mem _ List.mem_cons_self) List.mem_cons_self)) ?_
      try simp only [Act.put, List.setIfInBounds_toArray, List.set_cons_zero, List.set_cons_succ]
      refine held_one (i := 2) (by kernel_rfl) ?_
      refine held_step 2 rfl (by kernel_rfl) fun K hK => ?_
      refine wp_store_envn 3 E0 rfl (.tmp 4) (.tmp 56) rfl rfl rfl ?_
      intro wn E1
      simp only [List.set_cons_zero, List.set_cons_succ] at E1
      refine hK _ _ (E1.out.env.sub (mem_two (List.mem_cons_of_mem _ List.mem_cons_self) List.mem_cons_self)) ?_
      clear hK K
      try simp only [Act.put, List.setIfInBounds_toArray, List.set_cons_zero, List.set_cons_succ]
      refine held_one (i := 3) (by kernel_rfl) ?_
      refine held_step 3 rfl (by kernel_rfl) fun K hK => ?_
      refine wp_store_envn 2 E1 rfl (.tmp 5) (.tmp 57) rfl rfl rfl ?_
      intro wn E2
      simp only [List.set_cons_zero, List.set_cons_succ] at E2
      refine hK _ _ (E2.out.env.sub (mem_two (List.mem_cons_of_mem _ List.mem_cons_self) List.mem_cons_self)) ?_
      clear hK K
      try simp only [Act.put, List.setIfInBounds_toArray, List.set_cons_zero, List.set_cons_succ]
      refine held_pure 4 6 (.int .i64 0) rfl rfl (by kernel_rfl) (by kernel_rfl) (by kernel_rfl) (fun _ _ _ h => h) rfl (fun _ => rfl) (E2.out.env.sub (mem_two (List.mem_cons_of_mem _ List.mem_cons_self) List.mem_cons_self)) ?_
      try simp only [Act.put, List.setIfInBounds_toArray, List.set_cons_zero, List.set_cons_succ]
      refine wpAnyH_done (by kernel_rfl) ?_ _
      go_wp2_with fail
      exact bodyPost_ret (res_row_row_tmp (fn := Try.f28) rfl _ _ (w.heap.size + 1 + 1) (w.heap.size + 1 + 1 + 1) 4 24 _ _ _ rfl (E2.out.get (List.mem_cons_of_mem _ (List.mem_cons_of_mem _ (List.mem_cons_of_mem _ List.mem_cons_self)))) rfl (E2.out.get (List.mem_cons_of_mem _ (List.mem_cons_of_mem _ List.mem_cons_self))) Try.underlying24 rfl (by kernel_rfl)) rfl ⟨rfl, E2.out.env.below⟩
    · obtain ⟨t, rfl⟩ : ∃ t, kk = t + 1 := ⟨kk - 1, by omega⟩
      have e1 : (((t + 1 : Nat) : Int) - 1) = (t : Int) := by omega
      rw [e1]
      have t255 : t ≤ 255 := by omega
      clear e1 hk h0
      have RR := ref_round (a := a) (b := b) (t := t) HAB.out.2.2
      have hx2 : a / 2 ^ t % 2 < 2 := Nat.mod_lt _ (by decide)
      have BX0 := bit_any a t (by omega)
      obtain ⟨x, hx⟩ : ∃ x, x = a / 2 ^ t % 2 := ⟨_, rfl⟩
      rw [← hx, ← hq, ← hr] at RR
      rw [← hx] at hx2 BX0
      have rb : r < b := by rw [hr]; exact Nat.mod_lt _ HAB.out.2.2
      have rP : r < P256 := Nat.lt_trans rb HAB.out.2.1
      have HI := high_bit rP HAB.out.2.1 hx2
      have BH0 := bit_any r 255 (by omega)
      obtain ⟨g, hg⟩ : ∃ g, g = r / 2 ^ 255 % 2 := ⟨_, rfl⟩
      rw [← hg] at HI BH0
      have g2 : g = 0 ∨ g = 1 := by have : g < 2 := by rw [hg]; exact Nat.mod_lt _ (by decide)
                                    omega
      have BH : Hid (∀ W, Calls Try.prog 55 #[wide r, .int .i64 255] W fun e w' => e = .returned (.int .u64 ((g : Nat) : Int)) ∧ Below W.heap.size W w') := Lib.hid BH0
      have BX : Hid (∀ W, Calls Try.prog 55 #[.agg #[.int .u64 ((limb a 0 : Nat) : Int), .int .u64 ((limb a 1 : Nat) : Int), .int .u64 ((limb a 2 : Nat) : Int), .int .u64 ((limb a 3 : Nat) : Int)], .int .i64 (t : Int)] W fun e w' => e = .returned (.int .u64 ((x : Nat) : Int)) ∧ Below W.heap.size W w') := Lib.hid BX0
      obtain ⟨n, hn⟩ : ∃ n, n = r * 2 ^ 1 := ⟨_, rfl⟩
      have LF : Hid (∀ W, Calls Try.prog 32 #[wide r, .int .i64 1] W fun e w' => e = .returned (wide n) ∧ Below W.heap.size W w') := Lib.hid fun W => by
        have h := ref_left_any r 1 W
        rw [show held 1 = 1 from rfl, ← hn] at h
        exact h
      obtain ⟨m, hm⟩ : ∃ m, m = 2 * r + x := ⟨_, rfl⟩
      have hnm : n ||| x * 2 ^ 0 = m := by rw [hn, hm]; exact or_low r x hx2
      have OR := Lib.hid (or_low_int n x hx2)
      rw [← hm] at HI RR
      have mb : m < 2 * b := by omega
      have NM := Lib.hid hnm
      have CC0 := ref_compare_any (m % P256) b (Nat.mod_lt _ (by decide)) HAB.out.2.1
      rw [wide_mod] at CC0
      have SS0 := ref_sub_any (m % P256) b (Nat.mod_lt _ (by decide)) HAB.out.2.1
      rw [wide_mod] at SS0
      have HXX := Lib.hid (And.intro hx2 (And.intro rP (And.intro mb hm)))
      have OQ := Lib.hid (or_one_int q t)
      clear BX0 BH0 hx hg hn hm hnm hq hr rb rP hx2 mb
      have HRR := Lib.hid (And.intro HI RR)
      clear HI RR
      go_upto_region 9 with (first
    | (go_at_call 55; refine (BH.out _).mono ?_; rintro e w1 ⟨rfl, hb⟩; replace E := Lib.hid (E.out.call hb); clear hb)
    | (go_at_call 32; refine (LF.out _).mono ?_; rintro e w1 ⟨rfl, hb⟩; replace E := Lib.hid (E.out.call hb); clear hb)
    | (with_reducible refine envn_store_new E _ _ rfl rfl rfl rfl ?_; clear E; intro w2 E)
    | (with_reducible refine envn_load E _ (by kernel_rfl) rfl rfl (by first | exact List.mem_cons_self | exact (List.mem_cons_of_mem _ List.mem_cons_self) | exact (List.mem_cons_of_mem _ (List.mem_cons_of_mem _ List.mem_cons_self)) | exact (List.mem_cons_of_mem _ (List.mem_cons_of_mem _ (List.mem_cons_of_mem _ List.mem_cons_self))) | exact (List.mem_cons_of_mem _ (List.mem_cons_of_mem _ (List.mem_cons_of_mem _ (List.mem_cons_of_mem _ List.mem_cons_self)))) | exact (List.mem_cons_of_mem _ (List.mem_cons_of_mem _ (List.mem_cons_of_mem _ (List.mem_cons_of_mem _ (List.mem_cons_of_mem _ List.mem_cons_self)))))) ?_)
    | (refine envn_store 0 E _ _ rfl rfl rfl rfl rfl ?_; clear E; intro w2 E; simp only [List.set_cons_zero, List.set_cons_succ] at E))
      simp only [Act.put, List.setIfInBounds_toArray, List.set_cons_zero, List.set_cons_succ]
      have hA := E.out.get (b := w.heap.size) (f := wl a) (List.mem_cons_of_mem _ (List.mem_cons_of_mem _ (List.mem_cons_of_mem _ (List.mem_cons_of_mem _ (List.mem_cons_of_mem _ List.mem_cons_self)))))
      have a0 : w2.cell? ⟨w.heap.size, 0, none⟩ = some (.int .u64 ((limb a 0 : Nat) : Int)) := hA.cell 0 (by omega)
      have a1 : w2.cell? ⟨w.heap.size, 1, none⟩ = some (.int .u64 ((limb a 1 : Nat) : Int)) := hA.cell 1 (by omega)
      have a2 : w2.cell? ⟨w.heap.size, 2, none⟩ = some (.int .u64 ((limb a 2 : Nat) : Int)) := hA.cell 2 (by omega)
      have a3 : w2.cell? ⟨w.heap.size, 3, none⟩ = some (.int .u64 ((limb a 3 : Nat) : Int)) := hA.cell 3 (by omega)
      have c0 : w2.cell? ⟨w.heap.size + 1 + 1 + 1 + 1 + 1, 0, none⟩ = some (.int .u64 ((limb n 0 : Nat) : Int)) := (E.out.has (i := 0) rfl).cell 0 (by omega)
      clear hA
      go_cut [] (fun wx => EnvN w [(w.heap.size + 1 + 1 + 1 + 1 + 1, wl m), (w.heap.size + 1 + 1 + 1 + 1, wl q), (w.heap.size + 1 + 1 + 1, wl 0), (w.heap.size + 1 + 1, wl 0), (w.heap.size + 1, wl b), (w.heap.size, wl a)] wx)
      case first =>
        go_region_with (go_at_call 55; refine (BX.out _).mono ?_; rintro e w5 ⟨rfl, hb⟩; have E5 := Lib.hid (E.out.drew.call hb); have c5 : w5.cell? ⟨w.heap.size + 1 + 1 + 1 + 1 + 1, 0, none⟩ = some (.int .u64 ((limb n 0 : Nat) : Int)) := (E5.out.has (i := 0) rfl).cell 0 (by omega); have f5 := (E5.out.has (i := 0) rfl).free 0; clear hb)
        all_goals
          rw [OR.out]
          have hE2 := E5.out.cell (g := wl m) (i := 0) rfl 0 (.int .u64 ((limb n 0 ||| x * 2 ^ 0 : Nat) : Int)) fun i _ => by rw [← NM.out]; exact wl_or_bit n x 0 HXX.out.1 i
          simp only [List.set_cons_zero] at hE2
          have EE := Lib.hid hE2
          clear hE2
          generalize w5.setCell ⟨w.heap.size + 1 + 1 + 1 + 1 + 1, 0, none⟩ (.int .u64 ((limb n 0 ||| x * 2 ^ 0 : Nat) : Int)) = wv at *
          go_wp2_with fail
          go_meet
          exact EE.out
      case rest =>
        clear E a0 a1 a2 a3 c0
        have E := Lib.hid hcut
        clear hcut
        obtain ⟨z, hz⟩ : ∃ z, z = m - b := ⟨_, rfl⟩
        obtain ⟨d, hd⟩ : ∃ d, d = decide (m % P256 < b) := ⟨_, rfl⟩
        rcases g2 with rfl | rfl
        · have hmP := HRR.out.1.2 rfl
          rw [Nat.mod_eq_of_lt hmP] at CC0
          obtain ⟨cc, hcc⟩ : ∃ cc, cc = cmp3 m b := ⟨_, rfl⟩
          rw [← hcc] at CC0
          have CC : Hid (∀ W, Calls Try.prog 30 #[wide m, wide b] W fun e w' => e = .returned (.int .i64 cc) ∧ Below W.heap.size W w') := Lib.hid CC0
          by_cases hbm : b ≤ m
          · have hc0 : 0 ≤ cc := by rw [hcc]; have := cmp3_neg_iff m b; omega
            have SS : Hid (∀ W, Calls Try.prog 23 #[wide m, wide b] W fun e w' => e = .returned (.tuple #[wide z, .bool d]) ∧ Below W.heap.size W w') := Lib.hid fun W => by
              have h := SS0 W
              rw [← wide_mod (m % P256 + P256 - b), sub_mod hbm HXX.out.2.2.1 HAB.out.2.1, ← hz, ← hd] at h
              exact h
            have NQ : Hid (a / 2 ^ t / b * 2 ^ t = q ||| 1 * 2 ^ t ∧ z = a / 2 ^ t % b) := Lib.hid ⟨(HRR.out.2.1 hbm).1, by rw [(HRR.out.2.1 hbm).2, hz]⟩
            clear SS0 hz hd hbm HRR
            clear hcc CC0 hmP
            go_upto_region 11 with (first
    | (go_at_call 30; refine (CC.out _).mono ?_; rintro e w1 ⟨rfl, hb⟩; replace E := Lib.hid (E.out.call hb); clear hb)
    | (with_reducible refine envn_store_new E _ _ rfl rfl rfl rfl ?_; clear E; intro w2 E)
    | (with_reducible refine envn_load E _ (by kernel_rfl) rfl rfl (by first | exact List.mem_cons_self | exact (List.mem_cons_of_mem _ List.mem_cons_self) | exact (List.mem_cons_of_mem _ (List.mem_cons_of_mem _ List.mem_cons_self)) | exact (List.mem_cons_of_mem _ (List.mem_cons_of_mem _ (List.mem_cons_of_mem _ List.mem_cons_self))) | exact (List.mem_cons_of_mem _ (List.mem_cons_of_mem _ (List.mem_cons_of_mem _ (List.mem_cons_of_mem _ List.mem_cons_self)))) | exact (List.mem_cons_of_mem _ (List.mem_cons_of_mem _ (List.mem_cons_of_mem _ (List.mem_cons_of_mem _ (List.mem_cons_of_mem _ List.mem_cons_self)))))) ?_))
            go_upto_region 12 with (first
                | (go_at_call 23; refine (SS.out _).mono ?_; rintro e w1 ⟨rfl, hb⟩; replace E := Lib.hid (E.out.call hb); clear hb)
                | (with_reducible refine envn_store_new E _ _ rfl rfl rfl rfl ?_; clear E; intro w2 E)
                | (with_reducible refine envn_load E _ (by kernel_rfl) rfl rfl (by first | exact List.mem_cons_self | exact (List.mem_cons_of_mem _ List.mem_cons_self) | exact (List.mem_cons_of_mem _ (List.mem_cons_of_mem _ List.mem_cons_self)) | exact (List.mem_cons_of_mem _ (List.mem_cons_of_mem _ (List.mem_cons_of_mem _ List.mem_cons_self))) | exact (List.mem_cons_of_mem _ (List.mem_cons_of_mem _ (List.mem_cons_of_mem _ (List.mem_cons_of_mem _ List.mem_cons_self)))) | exact (List.mem_cons_of_mem _ (List.mem_cons_of_mem _ (List.mem_cons_of_mem _ (List.mem_cons_of_mem _ (List.mem_cons_of_mem _ List.mem_cons_self)))))) ?_)
                | (refine envn_store 0 E _ _ rfl rfl rfl rfl rfl ?_; clear E; intro w2 E; simp only [List.set_cons_zero, List.set_cons_succ] at E))
            simp only [Act.put, List.setIfInBounds_toArray, List.set_cons_zero, List.set_cons_succ]
            have hq3 := E.out.has (i := 1) rfl
            have c3 : w2.cell? ⟨w.heap.size + 1 + 1 + 1 + 1, t / 64, none⟩ = some (.int .u64 ((limb q (t / 64) : Nat) : Int)) := hq3.cell (t / 64) (by omega)
            have f3 := hq3.free (t / 64)
            clear hq3
            go_region
            all_goals
              rw [OQ.out]
              have hE2 := (E.out.cell (i := 1) rfl (t / 64) (.int .u64 ((limb q (t / 64) ||| 1 * 2 ^ (t % 64) : Nat) : Int)) fun i _ => wl_or_bit q 1 t (by omega) i).drew
              simp only [List.set_cons_zero, List.set_cons_succ] at hE2
              clear E
              have E := Lib.hid hE2
              clear hE2 c3 f3
              generalize (w2.setCell ⟨w.heap.size + 1 + 1 + 1 + 1, t / 64, none⟩ (.int .u64 ((limb q (t / 64) ||| 1 * 2 ^ (t % 64) : Nat) : Int))).drew = wv at *
              go_wp2
              go_roundg t
              case measure => omega
              case rel => exact ⟨_, z, rfl, by omega, NQ.out.1.symm, NQ.out.2, E.out⟩
          · have hc0 : cc < 0 := by rw [hcc]; have := cmp3_neg_iff m b; omega
            have NQ : Hid (a / 2 ^ t / b * 2 ^ t = q ∧ m = a / 2 ^ t % b) := Lib.hid ⟨(HRR.out.2.2 hbm).1, (HRR.out.2.2 hbm).2.symm⟩
            clear hcc CC0 hmP SS0 hz hd hbm HRR
            go_wp2_with (first
    | (go_at_call 30; refine (CC.out _).mono ?_; rintro e w1 ⟨rfl, hb⟩; replace E := Lib.hid (E.out.call hb); clear hb)
    | (with_reducible refine envn_store_new E _ _ rfl rfl rfl rfl ?_; clear E; intro w2 E)
    | (with_reducible refine envn_load E _ (by kernel_rfl) rfl rfl (by first | exact List.mem_cons_self | exact (List.mem_cons_of_mem _ List.mem_cons_self) | exact (List.mem_cons_of_mem _ (List.mem_cons_of_mem _ List.mem_cons_self)) | exact (List.mem_cons_of_mem _ (List.mem_cons_of_mem _ (List.mem_cons_of_mem _ List.mem_cons_self))) | exact (List.mem_cons_of_mem _ (List.mem_cons_of_mem _ (List.mem_cons_of_mem _ (List.mem_cons_of_mem _ List.mem_cons_self)))) | exact (List.mem_cons_of_mem _ (List.mem_cons_of_mem _ (List.mem_cons_of_mem _ (List.mem_cons_of_mem _ (List.mem_cons_of_mem _ List.mem_cons_self)))))) ?_))
            go_roundg t
            case measure => omega
            case rel => exact ⟨q, m, rfl, by omega, NQ.out.1.symm, NQ.out.2, E.out⟩
        · have hbm : b ≤ m := (HRR.out.1.1 rfl).1
          clear CC0
          have SS : Hid (∀ W, Calls Try.prog 23 #[wide m, wide b] W fun e w' => e = .returned (.tuple #[wide z, .bool d]) ∧ Below W.heap.size W w') := Lib.hid fun W => by
            have h := SS0 W
            rw [← wide_mod (m % P256 + P256 - b), sub_mod hbm HXX.out.2.2.1 HAB.out.2.1, ← hz, ← hd] at h
            exact h
          have NQ : Hid (a / 2 ^ t / b * 2 ^ t = q ||| 1 * 2 ^ t ∧ z = a / 2 ^ t % b) := Lib.hid ⟨(HRR.out.2.1 hbm).1, by rw [(HRR.out.2.1 hbm).2, hz]⟩
          clear SS0 hz hd hbm HRR
          go_upto_region 11 with fail
          go_upto_region 12 with (first
              | (go_at_call 23; refine (SS.out _).mono ?_; rintro e w1 ⟨rfl, hb⟩; replace E := Lib.hid (E.out.call hb); clear hb)
              | (with_reducible refine envn_store_new E _ _ rfl rfl rfl rfl ?_; clear E; intro w2 E)
              | (with_reducible refine envn_load E _ (by kernel_rfl) rfl rfl (by first | exact List.mem_cons_self | exact (List.mem_cons_of_mem _ List.mem_cons_self) | exact (List.mem_cons_of_mem _ (List.mem_cons_of_mem _ List.mem_cons_self)) | exact (List.mem_cons_of_mem _ (List.mem_cons_of_mem _ (List.mem_cons_of_mem _ List.mem_cons_self))) | exact (List.mem_cons_of_mem _ (List.mem_cons_of_mem _ (List.mem_cons_of_mem _ (List.mem_cons_of_mem _ List.mem_cons_self)))) | exact (List.mem_cons_of_mem _ (List.mem_cons_of_mem _ (List.mem_cons_of_mem _ (List.mem_cons_of_mem _ (List.mem_cons_of_mem _ List.mem_cons_self)))))) ?_)
              | (refine envn_store 0 E _ _ rfl rfl rfl rfl rfl ?_; clear E; intro w2 E; simp only [List.set_cons_zero, List.set_cons_succ] at E))
          simp only [Act.put, List.setIfInBounds_toArray, List.set_cons_zero, List.set_cons_succ]
          have hq3 := E.out.has (i := 1) rfl
          have c3 : w2.cell? ⟨w.heap.size + 1 + 1 + 1 + 1, t / 64, none⟩ = some (.int .u64 ((limb q (t / 64) : Nat) : Int)) := hq3.cell (t / 64) (by omega)
          have f3 := hq3.free (t / 64)
          clear hq3
          go_region
          all_goals
            rw [OQ.out]
            have hE2 := (E.out.cell (i := 1) rfl (t / 64) (.int .u64 ((limb q (t / 64) ||| 1 * 2 ^ (t % 64) : Nat) : Int)) fun i _ => wl_or_bit q 1 t (by omega) i).drew
            simp only [List.set_cons_zero, List.set_cons_succ] at hE2
            clear E
            have E := Lib.hid hE2
            clear hE2 c3 f3
            generalize (w2.setCell ⟨w.heap.size + 1 + 1 + 1 + 1, t / 64, none⟩ (.int .u64 ((limb q (t / 64) ||| 1 * 2 ^ (t % 64) : Nat) : Int))).drew = wv at *
            go_wp2
            go_roundg t
            case measure => omega
            case rel => exact ⟨_, z, rfl, by omega, NQ.out.1.symm, NQ.out.2, E.out⟩
end Go.Proofs.Ytboffheklkhnkaa
