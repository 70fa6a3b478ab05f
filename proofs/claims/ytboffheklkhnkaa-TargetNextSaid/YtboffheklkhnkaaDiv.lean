/- The program's division of numbers of 256 bits: it returns the quotient, the rest, and no error; or noughts and the error; what lay in memory stays. -/
import Derived.Test.YtboffheklkhnkaaEnvN
import Derived.Test.YtboffheklkhnkaaSub
import Derived.Test.YtboffheklkhnkaaShift
import Derived.Test.YtboffheklkhnkaaShiftR
import Derived.Test.YtboffheklkhnkaaLen
set_option linter.unusedSimpArgs false
namespace Go.Proofs.Ytboffheklkhnkaa
open Go.RowKit Go.Lib Go.Sort
attribute [local go_sem ↓] Go.wp_at_zero Go.wp_at_succ

theorem envn_four (w : World) (a b : Nat) : EnvN w [(w.heap.size + 1 + 1 + 1, wl 0), (w.heap.size + 1 + 1, wl 0), (w.heap.size + 1, wl b), (w.heap.size, wl a)] ((((w.alloc (.cells (arr 4 (wl a)) 24)).alloc (.cells (arr 4 (wl b)) 24)).alloc (.cells z4 24)).alloc (.cells z4 24)) :=
  (((EnvN.box1 w (wl a)).next (b := w.heap.size + 1) (by simp) (wl b)).nextz (b := w.heap.size + 1 + 1) (by simp)).nextz (b := w.heap.size + 1 + 1 + 1) (by simp)
theorem ne_zero_eq (b : Nat) (hb : b < P256) (h : b ≠ 0) (w : World) : (Op.equalIn 10000 24 (.agg (arr 4 (wl b))) (.agg (arr 4 (wl 0)))).run Try.prog w = .ok false w := by
  rw [eq_wide b 0 hb (by decide), decide_eq_false h]

set_option maxRecDepth 100000 in
set_option maxHeartbeats 4000000 in
theorem div_zero (a : Nat) (w : World) :
    Calls Try.prog 27 #[wide a, wide 0] w fun e w' => e = .returned (.tuple #[wide 0, wide 0, .int .i64 30]) ∧ Below w.heap.size w w' := by
  have sm := same_wide 0
  have E := Lib.hid (envn_four w a 0)
  go_enter Try.func27, Try.ntmps27
  go_wp2_with (first
    | (with_reducible refine env_build 0 #[] #[] built_0 (by kernel_rfl) rfl (by kernel_rfl) ?_)
    | (with_reducible refine envn_store_new E _ _ rfl rfl rfl rfl ?_; clear E; intro w2 E)
    | (with_reducible refine envn_load E _ (by kernel_rfl) rfl rfl (by first | exact List.mem_cons_self | exact (List.mem_cons_of_mem _ List.mem_cons_self) | exact (List.mem_cons_of_mem _ (List.mem_cons_of_mem _ List.mem_cons_self)) | exact (List.mem_cons_of_mem _ (List.mem_cons_of_mem _ (List.mem_cons_of_mem _ List.mem_cons_self))) | exact (List.mem_cons_of_mem _ (List.mem_cons_of_mem _ (List.mem_cons_of_mem _ (List.mem_cons_of_mem _ List.mem_cons_self))))) ?_)
    | (refine envn_store 0 E _ _ rfl rfl rfl rfl rfl ?_; clear E; intro w2 E; simp only [List.set_cons_zero, List.set_cons_succ] at E)
    | (refine envn_store 1 E _ _ rfl rfl rfl rfl rfl ?_; clear E; intro w2 E; simp only [List.set_cons_zero, List.set_cons_succ] at E))
  exact bodyPost_ret (res_row_row_tmp (fn := Try.f27) rfl _ _ (w.heap.size + 1 + 1) (w.heap.size + 1 + 1 + 1) 4 24 _ _ _ rfl (E.out.get (List.mem_cons_of_mem _ List.mem_cons_self)) rfl (E.out.get List.mem_cons_self) Try.underlying24 rfl (by kernel_rfl)) rfl ⟨rfl, E.out.env.below⟩

theorem or_one_int (q j : Nat) : bits .or .u64 ((limb q (j / 64) : Nat) : Int) (IntKind.u64.wrap (2 ^ (j % 64))) = ((limb q (j / 64) ||| 1 * 2 ^ (j % 64) : Nat) : Int) := by
  have h := or_bit_int q 1 j (by omega)
  have e : ((1 : Nat) : Int) * 2 ^ (j % 64) = 2 ^ (j % 64) := by simp
  rw [e] at h
  exact h
/-- What a round of the division says. -/
theorem part_lt {a b k : Nat} (ha : a < P256) (hb : b ≠ 0) (h : blen b + k ≤ blen a) : b * 2 ^ k < P256 := by
  have h1 : blen (b * 2 ^ k) ≤ 256 := by rw [blen_mul hb]; have := blen_le_of (k := 256) ha; omega
  exact lt_of_blen h1
theorem part_half {b k : Nat} : b * 2 ^ (k + 1) / 2 = b * 2 ^ k := by
  rw [Nat.pow_succ, ← Nat.mul_assoc, Nat.mul_div_cancel _ (by decide : 0 < 2)]
theorem rest_mod {r p : Nat} (h : ¬ r < p) : (r + P256 - p) % P256 = (r - p) % P256 := by
  rw [P256_num] at *
  omega

set_option maxRecDepth 100000 in
set_option maxHeartbeats 8000000 in
theorem div_any (a b : Nat) (ha : a < P256) (hb : b < P256) (h0 : b ≠ 0) (w : World) :
    Calls Try.prog 27 #[wide a, wide b] w fun e w' => e = .returned (.tuple #[wide (a / b), wide (a % b), .int .i64 0]) ∧ Below w.heap.size w w' := by
  have sm := ne_zero_eq b hb h0
  have BA0 := bits_any a ha
  have BB0 := bits_any b hb
  obtain ⟨na, hna⟩ : ∃ n, n = blen a := ⟨_, rfl⟩
  obtain ⟨nb, hnb⟩ : ∃ n, n = blen b := ⟨_, rfl⟩
  have la : na ≤ 256 := by rw [hna]; exact blen_le_of ha
  have lb : nb ≤ 256 := by rw [hnb]; exact blen_le_of hb
  rw [← hna] at BA0
  rw [← hnb] at BB0
  have BA : Hid (∀ W, Calls Try.prog 35 #[wide a] W _) := Lib.hid BA0
  have BB : Hid (∀ W, Calls Try.prog 35 #[wide b] W _) := Lib.hid BB0
  obtain ⟨t, ht⟩ : ∃ t : Int, t = (na : Int) - (nb : Int) := ⟨_, rfl⟩
  have tl : -256 ≤ t ∧ t ≤ 255 := by have := blen_pos h0; omega
  obtain ⟨p0, hp0⟩ : ∃ p, p = (b * 2 ^ t.toNat) % P256 := ⟨_, rfl⟩
  have LF : Hid (∀ W, Calls Try.prog 31 #[wide b, .int .i64 t] W fun e w' => e = .returned (wide p0) ∧ Below W.heap.size W w') := Lib.hid fun W => by
    have h := left_any b t (by omega) W
    rw [← wide_mod (b * 2 ^ t.toNat), ← hp0] at h
    exact h
  have HP0 : Hid (p0 < P256 ∧ (0 ≤ t → p0 = b * 2 ^ t.toNat)) := Lib.hid ⟨by rw [hp0]; exact Nat.mod_lt _ (by decide), fun h => by rw [hp0]; exact Nat.mod_eq_of_lt (part_lt ha h0 (by omega))⟩
  have QS : Hid (Quo a b (t + 1).toNat 0 a) := Lib.hid (Quo.start h0 _ (by have := blen_pos h0; omega))
  have HAB := Lib.hid (And.intro ha (And.intro hb h0))
  obtain ⟨x, hx⟩ : ∃ x, x = a / b := ⟨_, rfl⟩
  obtain ⟨y, hy⟩ : ∃ y, y = a % b := ⟨_, rfl⟩
  rw [← hx, ← hy]
  have HXY := Lib.hid (And.intro hx hy)
  have HT := Lib.hid ht
  have E := Lib.hid (envn_four w a b)
  clear BA0 BB0 hna hnb hp0 ha hb h0 hx hy ht
  go_enter Try.func27, Try.ntmps27
  go_upto_region 3 with (first
    | (with_reducible refine env_build 0 #[] #[] built_0 (by kernel_rfl) rfl (by kernel_rfl) ?_)
    | (with_reducible refine envn_store_new E _ _ rfl rfl rfl rfl ?_; clear E; intro w2 E)
    | (with_reducible refine envn_load E _ (by kernel_rfl) rfl rfl (by first | exact List.mem_cons_self | exact (List.mem_cons_of_mem _ List.mem_cons_self) | exact (List.mem_cons_of_mem _ (List.mem_cons_of_mem _ List.mem_cons_self)) | exact (List.mem_cons_of_mem _ (List.mem_cons_of_mem _ (List.mem_cons_of_mem _ List.mem_cons_self))) | exact (List.mem_cons_of_mem _ (List.mem_cons_of_mem _ (List.mem_cons_of_mem _ (List.mem_cons_of_mem _ List.mem_cons_self))))) ?_))
  clear sm
  go_upto_region 4 with fail
  replace E := Lib.hid (E.out.nextz (b := w.heap.size + 1 + 1 + 1 + 1) (by simp))
  generalize ((((w.alloc (.cells (arr 4 (wl a)) 24)).alloc (.cells (arr 4 (wl b)) 24)).alloc (.cells z4 24)).alloc (.cells z4 24)).alloc (.cells z4 24) = W0 at *
  go_upto_region 5 with (first
    | (with_reducible refine envn_store_new E _ _ rfl rfl rfl rfl ?_; clear E; intro w2 E)
    | (with_reducible refine envn_load E _ (by kernel_rfl) rfl rfl (by first | exact List.mem_cons_self | exact (List.mem_cons_of_mem _ List.mem_cons_self) | exact (List.mem_cons_of_mem _ (List.mem_cons_of_mem _ List.mem_cons_self)) | exact (List.mem_cons_of_mem _ (List.mem_cons_of_mem _ (List.mem_cons_of_mem _ List.mem_cons_self))) | exact (List.mem_cons_of_mem _ (List.mem_cons_of_mem _ (List.mem_cons_of_mem _ (List.mem_cons_of_mem _ List.mem_cons_self)))) | exact (List.mem_cons_of_mem _ (List.mem_cons_of_mem _ (List.mem_cons_of_mem _ (List.mem_cons_of_mem _ (List.mem_cons_of_mem _ List.mem_cons_self)))))) ?_))
  simp only [Act.put]
  go_cut [9] (fun s9 wx => s9 = .int .i64 t ∧ Below w2.heap.size w2 wx)
  case first =>
    have E5 : Hid (Env w _ w2) := Lib.hid E.out.env
    refine wp_region_quiet_below (by kernel_rfl) (by kernel_rfl) ?_
    refine envq_load E5 _ (by kernel_rfl) rfl rfl (List.mem_cons_of_mem _ (List.mem_cons_of_mem _ (List.mem_cons_of_mem _ (List.mem_cons_of_mem _ (List.mem_cons_of_mem _ List.mem_cons_self))))) ?_
    quiet_step (exact Calls.regrown_of (BA.out _))
    refine envq_load E5 _ (by kernel_rfl) rfl rfl (List.mem_cons_of_mem _ (List.mem_cons_of_mem _ (List.mem_cons_of_mem _ (List.mem_cons_of_mem _ List.mem_cons_self)))) ?_
    quiet_step (exact Calls.regrown_of (BB.out _))
    quiet_step (fail)
    quiet_step (fail)
    refine wpQuiet_nil ?_
    intro _ hw'
    obtain ⟨⟨dq, osq⟩, hw''⟩ := hw'
    subst hw''
    go_wp2_with fail
    go_meet
    exact ⟨int_eq (by rw [HT.out]; exact IntWalk.i64_in _ (by omega)), below_regrown w2 dq osq⟩
  case rest =>
    obtain ⟨rfl, hbw⟩ := hcut
    replace E := Lib.hid (E.out.call hbw)
    clear hbw BA BB
    go_wp2_with (first
    | (go_at_call 31; refine (LF.out _).mono ?_; rintro e w1 ⟨rfl, hb⟩; replace E := Lib.hid (E.out.call hb); clear hb)
    | (with_reducible refine envn_store_new E _ _ rfl rfl rfl rfl ?_; clear E; intro w2 E)
    | (with_reducible refine envn_load E _ (by kernel_rfl) rfl rfl (by first | exact List.mem_cons_self | exact (List.mem_cons_of_mem _ List.mem_cons_self) | exact (List.mem_cons_of_mem _ (List.mem_cons_of_mem _ List.mem_cons_self)) | exact (List.mem_cons_of_mem _ (List.mem_cons_of_mem _ (List.mem_cons_of_mem _ List.mem_cons_self))) | exact (List.mem_cons_of_mem _ (List.mem_cons_of_mem _ (List.mem_cons_of_mem _ (List.mem_cons_of_mem _ List.mem_cons_self)))) | exact (List.mem_cons_of_mem _ (List.mem_cons_of_mem _ (List.mem_cons_of_mem _ (List.mem_cons_of_mem _ (List.mem_cons_of_mem _ List.mem_cons_self))))) | exact (List.mem_cons_of_mem _ (List.mem_cons_of_mem _ (List.mem_cons_of_mem _ (List.mem_cons_of_mem _ (List.mem_cons_of_mem _ (List.mem_cons_of_mem _ List.mem_cons_self))))))) ?_))
    generalize w1.heap.size = p at *
    generalize W0.heap.size = pr at *
    clear LF HT
    go_loopg [11] (t + 1).toNat (fun k i wr => ∃ (u : Int) (q r pz : Nat), i = .int .i64 u ∧ -257 ≤ u ∧ u ≤ t ∧ k = (u + 1).toNat ∧ Quo a b k q r ∧ r < P256 ∧ pz < P256 ∧ (0 ≤ u → pz = b * 2 ^ u.toNat) ∧ EnvN w [(p, wl pz), (pr, wl r), (w.heap.size + 1 + 1 + 1 + 1, wl q), (w.heap.size + 1 + 1 + 1, wl 0), (w.heap.size + 1 + 1, wl 0), (w.heap.size + 1, wl b), (w.heap.size, wl a)] wr)
    case atStart => exact ⟨t, 0, a, p0, rfl, by omega, Int.le_refl t, rfl, QS.out, HAB.out.1, HP0.out.1, HP0.out.2, E.out⟩
    case round =>
      clear E QS HP0
      obtain ⟨u, q, r, pz, rfl, hu1, hu2, hk, hQ, hr, hpz, hpu, hE⟩ := hrel
      obtain ⟨kk, rfl⟩ : ∃ kk : Nat, kk = gk := ⟨_, rfl⟩
      have E := Lib.hid hE
      clear hE
      by_cases hu : 0 ≤ u
      · obtain ⟨j, rfl⟩ : ∃ j : Nat, u = (j : Int) := ⟨u.toNat, by omega⟩
        obtain rfl : kk = j + 1 := by omega
        have hp := hpu hu
        rw [Int.toNat_natCast] at hp
        have S0 := sub_any r pz hr hpz
        obtain ⟨s, hs⟩ : ∃ s, s = (r + P256 - pz) % P256 := ⟨_, rfl⟩
        obtain ⟨h, hh⟩ : ∃ h, h = pz / 2 := ⟨_, rfl⟩
        have hhl : h < P256 := by rw [hh]; exact Nat.lt_of_le_of_lt (Nat.div_le_self _ _) hpz
        have RT : Hid (∀ W, Calls Try.prog 33 #[wide pz, .int .i64 1] W fun e w' => e = .returned (wide h) ∧ Below W.heap.size W w') := Lib.hid fun W => by
          have hc := right_any pz 1 hpz (by omega) W
          rw [show pz / 2 ^ (1 : Int).toNat = pz / 2 from rfl, ← hh] at hc
          exact hc
        have HN : Hid (∀ i : Nat, j = i + 1 → h = b * 2 ^ i) := Lib.hid fun i hi => by rw [hh, hp, hi]; exact part_half
        by_cases hlt : r < pz
        · have SB : Hid (∀ W, Calls Try.prog 22 #[wide r, wide pz] W fun e w' => e = .returned (.tuple #[wide s, .bool true]) ∧ Below W.heap.size W w') := Lib.hid fun W => by
            have hc := S0 W
            rw [← wide_mod (r + P256 - pz), ← hs, decide_eq_true hlt] at hc
            exact hc
          have HQ := Lib.hid (hQ.pass (by rw [← hp]; exact hlt))
          have HB := Lib.hid (And.intro hr hhl)
          clear S0 hs hh hhl hp hpu hlt hQ hk hr hpz
          go_wp2_with (first
    | (go_at_call 22; refine (SB.out _).mono ?_; rintro e w1 ⟨rfl, hb⟩; replace E := Lib.hid (E.out.call hb); clear hb)
    | (go_at_call 33; refine (RT.out _).mono ?_; rintro e w1 ⟨rfl, hb⟩; replace E := Lib.hid (E.out.call hb); clear hb)
    | (with_reducible refine envn_store_new E _ _ rfl rfl rfl rfl ?_; clear E; intro w2 E)
    | (with_reducible refine envn_load E _ (by kernel_rfl) rfl rfl (by first | exact List.mem_cons_self | exact (List.mem_cons_of_mem _ List.mem_cons_self) | exact (List.mem_cons_of_mem _ (List.mem_cons_of_mem _ List.mem_cons_self)) | exact (List.mem_cons_of_mem _ (List.mem_cons_of_mem _ (List.mem_cons_of_mem _ List.mem_cons_self))) | exact (List.mem_cons_of_mem _ (List.mem_cons_of_mem _ (List.mem_cons_of_mem _ (List.mem_cons_of_mem _ List.mem_cons_self)))) | exact (List.mem_cons_of_mem _ (List.mem_cons_of_mem _ (List.mem_cons_of_mem _ (List.mem_cons_of_mem _ (List.mem_cons_of_mem _ List.mem_cons_self))))) | exact (List.mem_cons_of_mem _ (List.mem_cons_of_mem _ (List.mem_cons_of_mem _ (List.mem_cons_of_mem _ (List.mem_cons_of_mem _ (List.mem_cons_of_mem _ List.mem_cons_self)))))) | exact (List.mem_cons_of_mem _ (List.mem_cons_of_mem _ (List.mem_cons_of_mem _ (List.mem_cons_of_mem _ (List.mem_cons_of_mem _ (List.mem_cons_of_mem _ (List.mem_cons_of_mem _ List.mem_cons_self))))))) | exact (List.mem_cons_of_mem _ (List.mem_cons_of_mem _ (List.mem_cons_of_mem _ (List.mem_cons_of_mem _ (List.mem_cons_of_mem _ (List.mem_cons_of_mem _ (List.mem_cons_of_mem _ (List.mem_cons_of_mem _ List.mem_cons_self))))))))) ?_)
    | (refine envn_store 0 E _ _ rfl rfl rfl rfl rfl ?_; clear E; intro w2 E; simp only [List.set_cons_zero, List.set_cons_succ] at E)
    | (refine envn_store 1 E _ _ rfl rfl rfl rfl rfl ?_; clear E; intro w2 E; simp only [List.set_cons_zero, List.set_cons_succ] at E))
          go_roundg j
          case measure => omega
          case rel => exact ⟨(j : Int) - 1, q, r, h, rfl, by omega, by omega, by omega, HQ.out, HB.out.1, HB.out.2, fun hj => HN.out _ (by omega), E.out.tail⟩
        · have SB : Hid (∀ W, Calls Try.prog 22 #[wide r, wide pz] W fun e w' => e = .returned (.tuple #[wide s, .bool false]) ∧ Below W.heap.size W w') := Lib.hid fun W => by
            have hc := S0 W
            rw [← wide_mod (r + P256 - pz), ← hs, decide_eq_false hlt] at hc
            exact hc
          have hs2 : s = r - pz := by rw [hs, rest_mod hlt]; exact Nat.mod_eq_of_lt (by omega)
          have HQ := Lib.hid (hQ.take (by rw [← hp]; omega))
          rw [← hp, ← hs2] at HQ
          have HB : Hid (s < P256 ∧ h < P256) := Lib.hid ⟨by omega, hhl⟩
          have OR := Lib.hid (or_one_int q j)
          have j255 : j ≤ 255 := by omega
          clear S0 hs hs2 hh hhl hp hpu hlt hQ hk hr hpz
          go_upto_region 13 with (first
    | (go_at_call 22; refine (SB.out _).mono ?_; rintro e w1 ⟨rfl, hb⟩; replace E := Lib.hid (E.out.call hb); clear hb)
    | (with_reducible refine envn_store_new E _ _ rfl rfl rfl rfl ?_; clear E; intro w2 E)
    | (with_reducible refine envn_load E _ (by kernel_rfl) rfl rfl (by first | exact List.mem_cons_self | exact (List.mem_cons_of_mem _ List.mem_cons_self) | exact (List.mem_cons_of_mem _ (List.mem_cons_of_mem _ List.mem_cons_self)) | exact (List.mem_cons_of_mem _ (List.mem_cons_of_mem _ (List.mem_cons_of_mem _ List.mem_cons_self))) | exact (List.mem_cons_of_mem _ (List.mem_cons_of_mem _ (List.mem_cons_of_mem _ (List.mem_cons_of_mem _ List.mem_cons_self)))) | exact (List.mem_cons_of_mem _ (List.mem_cons_of_mem _ (List.mem_cons_of_mem _ (List.mem_cons_of_mem _ (List.mem_cons_of_mem _ List.mem_cons_self))))) | exact (List.mem_cons_of_mem _ (List.mem_cons_of_mem _ (List.mem_cons_of_mem _ (List.mem_cons_of_mem _ (List.mem_cons_of_mem _ (List.mem_cons_of_mem _ List.mem_cons_self)))))) | exact (List.mem_cons_of_mem _ (List.mem_cons_of_mem _ (List.mem_cons_of_mem _ (List.mem_cons_of_mem _ (List.mem_cons_of_mem _ (List.mem_cons_of_mem _ (List.mem_cons_of_mem _ List.mem_cons_self))))))) | exact (List.mem_cons_of_mem _ (List.mem_cons_of_mem _ (List.mem_cons_of_mem _ (List.mem_cons_of_mem _ (List.mem_cons_of_mem _ (List.mem_cons_of_mem _ (List.mem_cons_of_mem _ (List.mem_cons_of_mem _ List.mem_cons_self))))))))) ?_)
    | (refine envn_store 0 E _ _ rfl rfl rfl rfl rfl ?_; clear E; intro w2 E; simp only [List.set_cons_zero, List.set_cons_succ] at E)
    | (refine envn_store 1 E _ _ rfl rfl rfl rfl rfl ?_; clear E; intro w2 E; simp only [List.set_cons_zero, List.set_cons_succ] at E)
    | (refine envn_store 2 E _ _ rfl rfl rfl rfl rfl ?_; clear E; intro w2 E; simp only [List.set_cons_zero, List.set_cons_succ] at E))
          simp only [Act.put, List.setIfInBounds_toArray, List.set_cons_zero, List.set_cons_succ]
          have hq := E.out.has (i := 3) rfl
          have c3 : w2.cell? ⟨w.heap.size + 1 + 1 + 1 + 1, j / 64, none⟩ = some (.int .u64 ((limb q (j / 64) : Nat) : Int)) := hq.cell (j / 64) (by omega)
          have f3 := hq.free (j / 64)
          clear hq
          go_region
          all_goals
            rw [OR.out]
            have hE2 := (E.out.cell (i := 3) rfl (j / 64) (.int .u64 ((limb q (j / 64) ||| 1 * 2 ^ (j % 64) : Nat) : Int)) fun i _ => wl_or_bit q 1 j (by omega) i).drew
            simp only [List.set_cons_zero, List.set_cons_succ] at hE2
            clear E
            have E := Lib.hid hE2
            clear hE2 c3 f3
            generalize (w2.setCell ⟨w.heap.size + 1 + 1 + 1 + 1, j / 64, none⟩ (.int .u64 ((limb q (j / 64) ||| 1 * 2 ^ (j % 64) : Nat) : Int))).drew = wv at *
            go_wp2_with (first
    | (go_at_call 33; refine (RT.out _).mono ?_; rintro e w1 ⟨rfl, hb⟩; replace E := Lib.hid (E.out.call hb); clear hb)
    | (with_reducible refine envn_store_new E _ _ rfl rfl rfl rfl ?_; clear E; intro w2 E)
    | (with_reducible refine envn_load E _ (by kernel_rfl) rfl rfl (by first | exact List.mem_cons_self | exact (List.mem_cons_of_mem _ List.mem_cons_self) | exact (List.mem_cons_of_mem _ (List.mem_cons_of_mem _ List.mem_cons_self)) | exact (List.mem_cons_of_mem _ (List.mem_cons_of_mem _ (List.mem_cons_of_mem _ List.mem_cons_self))) | exact (List.mem_cons_of_mem _ (List.mem_cons_of_mem _ (List.mem_cons_of_mem _ (List.mem_cons_of_mem _ List.mem_cons_self)))) | exact (List.mem_cons_of_mem _ (List.mem_cons_of_mem _ (List.mem_cons_of_mem _ (List.mem_cons_of_mem _ (List.mem_cons_of_mem _ List.mem_cons_self))))) | exact (List.mem_cons_of_mem _ (List.mem_cons_of_mem _ (List.mem_cons_of_mem _ (List.mem_cons_of_mem _ (List.mem_cons_of_mem _ (List.mem_cons_of_mem _ List.mem_cons_self)))))) | exact (List.mem_cons_of_mem _ (List.mem_cons_of_mem _ (List.mem_cons_of_mem _ (List.mem_cons_of_mem _ (List.mem_cons_of_mem _ (List.mem_cons_of_mem _ (List.mem_cons_of_mem _ List.mem_cons_self))))))) | exact (List.mem_cons_of_mem _ (List.mem_cons_of_mem _ (List.mem_cons_of_mem _ (List.mem_cons_of_mem _ (List.mem_cons_of_mem _ (List.mem_cons_of_mem _ (List.mem_cons_of_mem _ (List.mem_cons_of_mem _ List.mem_cons_self))))))))) ?_)
    | (refine envn_store 0 E _ _ rfl rfl rfl rfl rfl ?_; clear E; intro w2 E; simp only [List.set_cons_zero, List.set_cons_succ] at E)
    | (refine envn_store 1 E _ _ rfl rfl rfl rfl rfl ?_; clear E; intro w2 E; simp only [List.set_cons_zero, List.set_cons_succ] at E))
            go_roundg j
            case measure => omega
            case rel => exact ⟨(j : Int) - 1, _, s, h, rfl, by omega, by omega, by omega, HQ.out, HB.out.1, HB.out.2, fun hj => HN.out _ (by omega), E.out.tail⟩
      · obtain rfl : kk = 0 := by omega
        obtain ⟨d1, d2⟩ := hQ.done
        rw [← HXY.out.1] at d1
        rw [← HXY.out.2] at d2
        subst d1 d2
        clear hQ hr hpz hpu hk
        go_upto_region 15 with fail
        have E0 := Lib.hid E.out.drew
        clear E
        refine wp_region_held (S := fun W => Env w [(w.heap.size + 1 + 1 + 1 + 1, wl q), (pr, wl r)] W) (by kernel_rfl) ?_
        refine held_load 0 (.tmp 7) rfl (by kernel_rfl) (by kernel_rfl) (by kernel_rfl) (fun _ _ _ h => h) rfl rfl rfl (fun W hW => hW.get List.mem_cons_self) (E0.out.env.sub (mem_two (List.mem_cons_of_mem _ (List.mem_cons_of_mem _ List.mem_cons_self)) (List.mem_cons_of_mem _ List.mem_cons_self))) ?_
        refine held_load 1 (.tmp 8) rfl (by kernel_rfl) (by kernel_rfl) (by kernel_rfl) (fun _ _ _ h => h) rfl rfl rfl (fun W hW => hW.get (List.mem_cons_of_mem _ List.mem_cons_self)) (E0.out.env.sub (mem_two (List.mem_cons_of_mem _ (List.mem_cons_of_mem _ List.mem_cons_self)) (List.mem_cons_of_mem _ List.mem_cons_self))) ?_
        try simp only [Act.put, List.setIfInBounds_toArray, List.set_cons_zero, List.set_cons_succ]
        refine held_one (i := 2) (by kernel_rfl) ?_
        refine held_step 2 rfl (by kernel_rfl) fun K hK => ?_
        refine wp_store_envn 4 E0 rfl (.tmp 4) (.tmp 53) rfl rfl rfl ?_
        intro wn E1
        simp only [List.set_cons_zero, List.set_cons_succ] at E1
        refine hK _ _ (E1.out.env.sub (mem_two (List.mem_cons_of_mem _ (List.mem_cons_of_mem _ List.mem_cons_self)) (List.mem_cons_of_mem _ List.mem_cons_self))) ?_
        clear hK K
        try simp only [Act.put, List.setIfInBounds_toArray, List.set_cons_zero, List.set_cons_succ]
        refine held_one (i := 3) (by kernel_rfl) ?_
        refine held_step 3 rfl (by kernel_rfl) fun K hK => ?_
        refine wp_store_envn 3 E1 rfl (.tmp 5) (.tmp 54) rfl rfl rfl ?_
        intro wn E2
        simp only [List.set_cons_zero, List.set_cons_succ] at E2
        refine hK _ _ (E2.out.env.sub (mem_two (List.mem_cons_of_mem _ (List.mem_cons_of_mem _ List.mem_cons_self)) (List.mem_cons_of_mem _ List.mem_cons_self))) ?_
        clear hK K
        try simp only [Act.put, List.setIfInBounds_toArray, List.set_cons_zero, List.set_cons_succ]
        refine held_pure 4 6 (.int .i64 0) rfl rfl (by kernel_rfl) (by kernel_rfl) (by kernel_rfl) (fun _ _ _ h => h) rfl (fun _ => rfl) (E2.out.env.sub (mem_two (List.mem_cons_of_mem _ (List.mem_cons_of_mem _ List.mem_cons_self)) (List.mem_cons_of_mem _ List.mem_cons_self))) ?_
        try simp only [Act.put, List.setIfInBounds_toArray, List.set_cons_zero, List.set_cons_succ]
        refine wpAnyH_done (by kernel_rfl) ?_ _
        go_wp2_with fail
        exact bodyPost_ret (res_row_row_tmp (fn := Try.f27) rfl _ _ (w.heap.size + 1 + 1) (w.heap.size + 1 + 1 + 1) 4 24 _ _ _ rfl (E2.out.get (List.mem_cons_of_mem _ (List.mem_cons_of_mem _ (List.mem_cons_of_mem _ (List.mem_cons_of_mem _ List.mem_cons_self))))) rfl (E2.out.get (List.mem_cons_of_mem _ (List.mem_cons_of_mem _ (List.mem_cons_of_mem _ List.mem_cons_self)))) Try.underlying24 rfl (by kernel_rfl)) rfl ⟨rfl, E2.out.env.below⟩
end Go.Proofs.Ytboffheklkhnkaa
