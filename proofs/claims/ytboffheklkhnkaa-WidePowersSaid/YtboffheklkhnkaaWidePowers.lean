/- For every number and every count: a shift by the count's rest below 256 is the product with, or the quotient by, that power of 2, which has one bit more than the count; the call returns true; no condition. -/
import Derived.Test.YtboffheklkhnkaaOpen
import Derived.Test.YtboffheklkhnkaaDiv
import Derived.Test.YtboffheklkhnkaaMul
import Derived.Test.YtboffheklkhnkaaAwake
import Derived.Test.YtboffheklkhnkaaEnv2
import Derived.Below
set_option linter.unusedSimpArgs false
namespace Go.Proofs.Ytboffheklkhnkaa.widePowers
open Go.RowKit Go.Lib Go.Sort Go.ChangeShapes Go.WideShapes Go.ChangeAt
set_option linter.unusedVariables false

theorem own : ownKnob Try.prog.godebug = none := by kernel_rfl

theorem count_is (n : Int) : wrap64 ((IntKind.u64.wrap n).tmod 256) = (((n % 256).toNat : Nat) : Int) := by
  rw [IntKind.wrap_u64, Int.tmod_eq_emod_of_nonneg (by omega)]
  unfold wrap64
  omega
theorem pow_lt (m : Nat) (h : m < 256) : 2 ^ m < P256 := by
  unfold P256
  exact Nat.pow_lt_pow_right (by decide) h

set_option maxRecDepth 100000 in
set_option maxHeartbeats 8000000 in
theorem walk_any (a : Nat) (n : Int) (ha : a < P256) (w : World) :
    Calls Try.prog 11 #[wide a, .int .i64 n] w fun e w' => e = .returned (.bool true) ∧ Below w.heap.size w w' := by
  have cn := count_is n
  obtain ⟨m, hm⟩ : ∃ m, m = (n % 256).toNat := ⟨_, rfl⟩
  rw [← hm] at cn
  have m256 : m < 256 := by omega
  have hp := pow_lt m m256
  have hp0 : 2 ^ m ≠ 0 := Nat.pos_iff_ne_zero.1 (Nat.two_pow_pos m)
  have L1 : Hid (∀ W, Calls Try.prog 31 #[wide 1, .int .i64 (m : Int)] W fun e w' => e = .returned (wide (2 ^ m)) ∧ Below W.heap.size W w') := Lib.hid fun W => by
    have h := left_any 1 (m : Int) (by omega) W
    rw [Int.toNat_natCast, Nat.one_mul] at h
    exact h
  obtain ⟨s, hs⟩ : ∃ s, s = (a * 2 ^ m) % P256 := ⟨_, rfl⟩
  have L2 : Hid (∀ W, Calls Try.prog 31 #[wide a, .int .i64 (m : Int)] W fun e w' => e = .returned (wide s) ∧ Below W.heap.size W w') := Lib.hid fun W => by
    have h := left_any a (m : Int) (by omega) W
    rw [Int.toNat_natCast, ← wide_mod (a * 2 ^ m), ← hs] at h
    exact h
  obtain ⟨o, ho⟩ : ∃ o, o = decide (P256 ≤ a * 2 ^ m) := ⟨_, rfl⟩
  have MU : Hid (∀ W, Calls Try.prog 25 #[wide a, wide (2 ^ m)] W fun e w' => e = .returned (.tuple #[wide s, .bool o]) ∧ Below W.heap.size W w') := Lib.hid fun W => by
    have h := mul_any a (2 ^ m) ha hp W
    rw [← wide_mod (a * 2 ^ m), ← hs, ← ho] at h
    exact h
  obtain ⟨q, hq⟩ : ∃ q, q = a / 2 ^ m := ⟨_, rfl⟩
  obtain ⟨r, hr⟩ : ∃ r, r = a % 2 ^ m := ⟨_, rfl⟩
  have D : Hid (∀ W, Calls Try.prog 27 #[wide a, wide (2 ^ m)] W fun e w' => e = .returned (.tuple #[wide q, wide r, .int .i64 0]) ∧ Below W.heap.size W w') := Lib.hid fun W => by
    have h := div_any a (2 ^ m) ha hp hp0 W
    rw [← hq, ← hr] at h
    exact h
  have RT : Hid (∀ W, Calls Try.prog 33 #[wide a, .int .i64 (m : Int)] W fun e w' => e = .returned (wide q) ∧ Below W.heap.size W w') := Lib.hid fun W => by
    have h := right_any a (m : Int) ha (by omega) W
    rw [Int.toNat_natCast, ← hq] at h
    exact h
  have BT : Hid (∀ W, Calls Try.prog 35 #[wide (2 ^ m)] W fun e w' => e = .returned (.int .i64 ((m : Int) + 1)) ∧ Below W.heap.size W w') := Lib.hid fun W => by
    have h := bits_any (2 ^ m) hp W
    rw [blen_is (Nat.le_refl _) (by rw [Nat.pow_succ]; have := Nat.two_pow_pos m; omega), Int.natCast_add] at h
    exact h
  obtain ⟨pw, hpw⟩ : ∃ p, p = 2 ^ m := ⟨_, rfl⟩
  rw [← hpw] at L1 MU D BT
  have CN := Lib.hid cn
  have sm := same_wide
  have E := Lib.hid (EnvN.box1 w (wl a))
  clear cn hm hp hp0 hs ho hq hr hpw ha
  go_enter Try.func11, Try.ntmps11
  go_upto_region 2 with fail
  rw [CN.out]
  generalize wrap64 ((IntKind.u64.wrap n).tmod 256) = z1 at *
  generalize (IntKind.u64.wrap n).tmod 256 = z2 at *
  generalize IntKind.u64.wrap n = z3 at *
  go_upto_region 5 with (first
    | (go_at_call 31; refine (L1.out _).mono ?_; rintro e w1 ⟨rfl, hb⟩; replace E := Lib.hid (E.out.call hb); clear hb)
    | (go_at_call 25; refine (MU.out _).mono ?_; rintro e w1 ⟨rfl, hb⟩; replace E := Lib.hid (E.out.call hb); clear hb)
    | (go_at_call 27; refine (D.out _).mono ?_; rintro e w1 ⟨rfl, hb⟩; replace E := Lib.hid (E.out.call hb); clear hb)
    | (with_reducible refine env_build 1 #[(0, .const (.int .u64 1))] #[(0, .int .u64 1)] built_1 (by kernel_rfl) rfl (by kernel_rfl) ?_)
    | (with_reducible refine envn_store_new E _ _ rfl rfl rfl rfl ?_; clear E; intro w2 E)
    | (with_reducible refine envn_load E _ (by kernel_rfl) rfl rfl (by first | exact List.mem_cons_self | exact (List.mem_cons_of_mem _ List.mem_cons_self) | exact (List.mem_cons_of_mem _ (List.mem_cons_of_mem _ List.mem_cons_self)) | exact (List.mem_cons_of_mem _ (List.mem_cons_of_mem _ (List.mem_cons_of_mem _ List.mem_cons_self))) | exact (List.mem_cons_of_mem _ (List.mem_cons_of_mem _ (List.mem_cons_of_mem _ (List.mem_cons_of_mem _ List.mem_cons_self)))) | exact (List.mem_cons_of_mem _ (List.mem_cons_of_mem _ (List.mem_cons_of_mem _ (List.mem_cons_of_mem _ (List.mem_cons_of_mem _ List.mem_cons_self)))))) ?_)
    | (refine envn_store 0 E _ _ rfl rfl rfl rfl rfl ?_; clear E; intro w2 E; simp only [List.set_cons_zero, List.set_cons_succ] at E)
    | (with_reducible refine envn_store_new2 E _ _ rfl rfl rfl rfl ?_; clear E; intro w2 E))
  try simp only [Act.put, List.setIfInBounds_toArray, List.set_cons_zero, List.set_cons_succ]
  have E5 := Lib.hid E.out.env
  have wm : IntKind.i64.wrap ((m : Int) + 1) = (m : Int) + 1 := IntWalk.i64_in _ (by omega)
  refine wp_region_quiet_below (by kernel_rfl) (by kernel_rfl) ?_
  refine envq_load E5 _ (by kernel_rfl) rfl rfl (List.mem_cons_of_mem _ (List.mem_cons_of_mem _ (List.mem_cons_of_mem _ (List.mem_cons_of_mem _ List.mem_cons_self)))) ?_
  quiet_step (fail)
  quiet_step (exact Calls.regrown_of (L2.out _))
  refine envq_load E5 _ (by kernel_rfl) rfl rfl (List.mem_cons_of_mem _ (List.mem_cons_of_mem _ List.mem_cons_self)) ?_
  quiet_step (fail)
  quiet_step (fail)
  refine envq_load E5 _ (by kernel_rfl) rfl rfl (List.mem_cons_of_mem _ (List.mem_cons_of_mem _ (List.mem_cons_of_mem _ (List.mem_cons_of_mem _ List.mem_cons_self)))) ?_
  quiet_step (fail)
  quiet_step (exact Calls.regrown_of (RT.out _))
  refine envq_load E5 _ (by kernel_rfl) rfl rfl (List.mem_cons_of_mem _ List.mem_cons_self) ?_
  quiet_step (fail)
  quiet_step (fail)
  quiet_step (fail)
  quiet_step (fail)
  quiet_step (fail)
  quiet_step (fail)
  quiet_step (fail)
  refine envq_load E5 _ (by kernel_rfl) rfl rfl (List.mem_cons_of_mem _ (List.mem_cons_of_mem _ (List.mem_cons_of_mem _ List.mem_cons_self))) ?_
  quiet_step (exact Calls.regrown_of (BT.out _))
  quiet_step (fail)
  quiet_step (fail)
  quiet_step (fail)
  quiet_step (fail)
  quiet_step (fail)
  refine wpQuiet_nil ?_
  intro _ hw'
  obtain ⟨⟨dq, osq⟩, hw''⟩ := hw'
  subst hw''
  replace E := Lib.hid (E.out.call (below_regrown _ dq osq))
  go_wp2_with fail
  go_ret
  exact ⟨rfl, E.out.env.below⟩

theorem walk (a0 : Nat → Int) (w0 : ∀ i, i < 4 → (Lit.int .u64 (a0 i)).wf = true) (a1 : Int) (w1 : (Lit.int .i64 a1).wf = true) (w : World) :
    Calls Try.prog 11 #[.agg (arr 4 fun i => .int .u64 (a0 i)), .int .i64 a1] w fun e w' => e = .returned (.bool true) ∧ Below w.heap.size w w' := by
  obtain ⟨a, ha, e0⟩ := words_wide a0 w0
  rw [e0]
  exact walk_any a a1 ha w


set_option maxRecDepth 100000 in
theorem lifted (os : Os) (started : os.Started) (H : Type) (enc : TypeId × Value → H) :
    ReturnsInHanded {} Try.checked os 11 .any (Rows.widePowersSpec.pre6 enc Try.prog Try.f11 Rows.widePowersRow.domain false) (Rows.widePowersSpec.post enc Try.prog Try.f11 false true false false) := by
  refine returnsInHanded_of_change (C := Try.checked) own started (by kernel_rfl) Try.func11
    (ChangeSpec.witness6 (enc := enc) (C := Try.checked) false ⟨#[], #[.agg #[.int .u64 0, .int .u64 0, .int .u64 0, .int .u64 0], .int .i64 0], []⟩ 8 (by kernel_rfl) (by kernel_rfl) (by kernel_rfl) (by kernel_rfl)) ?_
  intro W base args ds gs before hval0 hW hcnd _
  have hval : ∀ (j : Nat) t v, Try.f11.params[j]? = some t → args[j]? = some v → Value.okWide Try.prog W .any base t v := hval0
  have hW' := hW
  obtain ⟨p, q, hA0, hV, rfl, hfz, hnd⟩ := hW
  have hA : DataW.TrodAll enc Try.prog W 0 (fun _ => true) true Try.f11.params.toList args.toList ds p := hA0
  rw [Try.params11] at hA hval
  obtain ⟨v0, vs0, d0, ds0, p0, q0, hargs, rfl, rfl, h0, r0⟩ := trodAll_cons hA
  obtain ⟨v1, vs1, d1, ds1, p1, q1, rfl, rfl, rfl, h1, r1⟩ := trodAll_cons r0
  obtain ⟨rfl, rfl, rfl⟩ := trodAll_nil r1
  obtain rfl : args = #[v0, v1] := by cases args; simp_all
  obtain ⟨rfl, rfl⟩ := trodVars_none hV
  obtain ⟨a0, rfl, rfl, rfl, w0⟩ := open_ints_arr Try.underlying24 Try.underlying22 (by kernel_rfl) (by kernel_rfl) (hval 0 24 v0 rfl rfl) h0
  obtain ⟨a1, rfl, rfl, rfl, w1⟩ := open_int Try.underlying3 (hval 1 3 v1 rfl rfl) h1
  clear hA0 hval0
  simp only [List.append_nil] at hW'
  refine (walk a0 w0 a1 w1 W).mono fun e W' ⟨he, bel⟩ => ?_
  subst he
  exact ⟨_, rfl, _, _, _, [], _, [], hW', trodAll_mk1 (shut_bool Try.underlying4 _), (trodAll_cons_mk (shut_ints_arr Try.underlying24 Try.underlying22 (by kernel_rfl) (by kernel_rfl) w0) (trodAll_cons_mk (shut_int Try.underlying3 w1) trodAll_mk0)), rfl, bel.frame _, fun h => by cases h⟩

theorem over : Rows.widePowersRow.holds Try.pinned (OpenSpec.ofChange Rows.widePowersSpec) :=
  OpenClaim.holds_of_wide 11 Try.f11 rfl rfl rfl rfl rfl rfl rfl ⟨rfl, rfl, rfl, rfl, rfl⟩ rfl rfl rfl rfl rfl (by kernel_rfl) Try.func11 (by kernel_rfl)
    (of_decide_eq_true (by kernel_rfl)) (by unfold Func.isWrapper; first | (rw [if_pos (by decide +kernel)]; kernel_rfl) | (rw [if_neg (by decide +kernel)]; exact ⟨rfl, rfl⟩))
    (fun os started H enc _ => lifted os started H enc)

/-- The statement. -/
theorem proved : Rows.WidePowersSaid :=
  over
#print axioms proved
end Go.Proofs.Ytboffheklkhnkaa.widePowers
