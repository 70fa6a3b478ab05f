/- For every three numbers: sums and products hang neither on order nor on brackets, products are spread over sums, and a number times one is itself; the call returns true; no condition. -/
import Derived.Test.YtboffheklkhnkaaOpen
import Derived.Test.YtboffheklkhnkaaClos
import Derived.Test.YtboffheklkhnkaaAwake
import Derived.Test.YtboffheklkhnkaaHeld
import Derived.Below
namespace Go.Proofs.Ytboffheklkhnkaa.wideRing
open Go.RowKit Go.Lib Go.ChangeShapes Go.WideShapes Go.ChangeAt
set_option linter.unusedVariables false

theorem own : ownKnob Try.prog.godebug = none := by kernel_rfl

theorem mm (x y : Nat) : (x % P256 * y) % P256 = (x * y) % P256 := by rw [Nat.mul_mod, Nat.mod_mod, ← Nat.mul_mod]
theorem mm' (x y : Nat) : (x * (y % P256)) % P256 = (x * y) % P256 := by rw [Nat.mul_mod, Nat.mod_mod, ← Nat.mul_mod]
theorem lt_mod (x : Nat) : x % P256 < P256 := Nat.mod_lt _ (by decide)

set_option maxRecDepth 100000 in
set_option maxHeartbeats 8000000 in
theorem walk_vars (a b c s t u p q r v x : Nat) (w : World)
    (A1 : Hid (∀ W, Calls Try.prog 41 #[wide a, wide b] W fun e w' => e = .returned (wide s) ∧ Below W.heap.size W w'))
    (A2 : Hid (∀ W, Calls Try.prog 41 #[wide b, wide a] W fun e w' => e = .returned (wide s) ∧ Below W.heap.size W w'))
    (A3 : Hid (∀ W, Calls Try.prog 41 #[wide s, wide c] W fun e w' => e = .returned (wide t) ∧ Below W.heap.size W w'))
    (A4 : Hid (∀ W, Calls Try.prog 41 #[wide b, wide c] W fun e w' => e = .returned (wide u) ∧ Below W.heap.size W w'))
    (A5 : Hid (∀ W, Calls Try.prog 41 #[wide a, wide u] W fun e w' => e = .returned (wide t) ∧ Below W.heap.size W w'))
    (A6 : Hid (∀ W, Calls Try.prog 41 #[wide p, wide x] W fun e w' => e = .returned (wide v) ∧ Below W.heap.size W w'))
    (M1 : Hid (∀ W, Calls Try.prog 42 #[wide a, wide b] W fun e w' => e = .returned (wide p) ∧ Below W.heap.size W w'))
    (M2 : Hid (∀ W, Calls Try.prog 42 #[wide b, wide a] W fun e w' => e = .returned (wide p) ∧ Below W.heap.size W w'))
    (M3 : Hid (∀ W, Calls Try.prog 42 #[wide p, wide c] W fun e w' => e = .returned (wide q) ∧ Below W.heap.size W w'))
    (M4 : Hid (∀ W, Calls Try.prog 42 #[wide b, wide c] W fun e w' => e = .returned (wide r) ∧ Below W.heap.size W w'))
    (M5 : Hid (∀ W, Calls Try.prog 42 #[wide a, wide r] W fun e w' => e = .returned (wide q) ∧ Below W.heap.size W w'))
    (M6 : Hid (∀ W, Calls Try.prog 42 #[wide a, wide u] W fun e w' => e = .returned (wide v) ∧ Below W.heap.size W w'))
    (M7 : Hid (∀ W, Calls Try.prog 42 #[wide a, wide c] W fun e w' => e = .returned (wide x) ∧ Below W.heap.size W w'))
    (M8 : Hid (∀ W, Calls Try.prog 42 #[wide a, wide 1] W fun e w' => e = .returned (wide a) ∧ Below W.heap.size W w'))
    : Calls Try.prog 8 #[wide a, wide b, wide c] w fun e w' => e = .returned (.bool true) ∧ Below w.heap.size w w' := by
  have Y : Hid (∀ W, Calls Try.prog 24 #[] W fun e w' => e = .returned (.bool true) ∧ Below W.heap.size W w') := Lib.hid fun W => awake_any W
  have sm := same_wide
  have E := Lib.hid (((Env.box1 w (wl a)).next (b := w.heap.size + 1) (by simp) (wl b)).next (b := w.heap.size + 1 + 1) (by simp) (wl c))
  go_enter Try.func8, Try.ntmps8
  go_upto_region 3 with fail
  refine wp_region_quiet_below (by kernel_rfl) (by kernel_rfl) ?_
  quiet_step (fail)
  refine envq_load E _ (by kernel_rfl) rfl rfl (List.mem_cons_of_mem _ (List.mem_cons_of_mem _ List.mem_cons_self)) ?_
  refine envq_load E _ (by kernel_rfl) rfl rfl (List.mem_cons_of_mem _ List.mem_cons_self) ?_
  quiet_step (exact Calls.regrown_of (A1.out _))
  quiet_step (fail)
  refine envq_load E _ (by kernel_rfl) rfl rfl (List.mem_cons_of_mem _ List.mem_cons_self) ?_
  refine envq_load E _ (by kernel_rfl) rfl rfl (List.mem_cons_of_mem _ (List.mem_cons_of_mem _ List.mem_cons_self)) ?_
  quiet_step (exact Calls.regrown_of (A2.out _))
  quiet_step (fail)
  quiet_step (fail)
  quiet_step (fail)
  quiet_step (fail)
  refine envq_load E _ (by kernel_rfl) rfl rfl (List.mem_cons_of_mem _ (List.mem_cons_of_mem _ List.mem_cons_self)) ?_
  refine envq_load E _ (by kernel_rfl) rfl rfl (List.mem_cons_of_mem _ List.mem_cons_self) ?_
  quiet_step (exact Calls.regrown_of (A1.out _))
  refine envq_load E _ (by kernel_rfl) rfl rfl List.mem_cons_self ?_
  quiet_step (exact Calls.regrown_of (A3.out _))
  quiet_step (fail)
  refine envq_load E _ (by kernel_rfl) rfl rfl (List.mem_cons_of_mem _ (List.mem_cons_of_mem _ List.mem_cons_self)) ?_
  quiet_step (fail)
  refine envq_load E _ (by kernel_rfl) rfl rfl (List.mem_cons_of_mem _ List.mem_cons_self) ?_
  refine envq_load E _ (by kernel_rfl) rfl rfl List.mem_cons_self ?_
  quiet_step (exact Calls.regrown_of (A4.out _))
  quiet_step (exact Calls.regrown_of (A5.out _))
  quiet_step (fail)
  quiet_step (fail)
  quiet_step (fail)
  quiet_step (fail)
  refine envq_load E _ (by kernel_rfl) rfl rfl (List.mem_cons_of_mem _ (List.mem_cons_of_mem _ List.mem_cons_self)) ?_
  refine envq_load E _ (by kernel_rfl) rfl rfl (List.mem_cons_of_mem _ List.mem_cons_self) ?_
  quiet_step (exact Calls.regrown_of (M1.out _))
  quiet_step (fail)
  refine envq_load E _ (by kernel_rfl) rfl rfl (List.mem_cons_of_mem _ List.mem_cons_self) ?_
  refine envq_load E _ (by kernel_rfl) rfl rfl (List.mem_cons_of_mem _ (List.mem_cons_of_mem _ List.mem_cons_self)) ?_
  quiet_step (exact Calls.regrown_of (M2.out _))
  quiet_step (fail)
  quiet_step (fail)
  quiet_step (fail)
  quiet_step (fail)
  quiet_step (fail)
  refine envq_load E _ (by kernel_rfl) rfl rfl (List.mem_cons_of_mem _ (List.mem_cons_of_mem _ List.mem_cons_self)) ?_
  refine envq_load E _ (by kernel_rfl) rfl rfl (List.mem_cons_of_mem _ List.mem_cons_self) ?_
  quiet_step (exact Calls.regrown_of (M1.out _))
  refine envq_load E _ (by kernel_rfl) rfl rfl List.mem_cons_self ?_
  quiet_step (exact Calls.regrown_of (M3.out _))
  quiet_step (fail)
  refine envq_load E _ (by kernel_rfl) rfl rfl (List.mem_cons_of_mem _ (List.mem_cons_of_mem _ List.mem_cons_self)) ?_
  quiet_step (fail)
  refine envq_load E _ (by kernel_rfl) rfl rfl (List.mem_cons_of_mem _ List.mem_cons_self) ?_
  refine envq_load E _ (by kernel_rfl) rfl rfl List.mem_cons_self ?_
  quiet_step (exact Calls.regrown_of (M4.out _))
  quiet_step (exact Calls.regrown_of (M5.out _))
  quiet_step (fail)
  quiet_step (fail)
  quiet_step (fail)
  quiet_step (fail)
  refine envq_load E _ (by kernel_rfl) rfl rfl (List.mem_cons_of_mem _ (List.mem_cons_of_mem _ List.mem_cons_self)) ?_
  quiet_step (fail)
  refine envq_load E _ (by kernel_rfl) rfl rfl (List.mem_cons_of_mem _ List.mem_cons_self) ?_
  refine envq_load E _ (by kernel_rfl) rfl rfl List.mem_cons_self ?_
  quiet_step (exact Calls.regrown_of (A4.out _))
  quiet_step (exact Calls.regrown_of (M6.out _))
  quiet_step (fail)
  quiet_step (fail)
  refine envq_load E _ (by kernel_rfl) rfl rfl (List.mem_cons_of_mem _ (List.mem_cons_of_mem _ List.mem_cons_self)) ?_
  refine envq_load E _ (by kernel_rfl) rfl rfl (List.mem_cons_of_mem _ List.mem_cons_self) ?_
  quiet_step (exact Calls.regrown_of (M1.out _))
  quiet_step (fail)
  refine envq_load E _ (by kernel_rfl) rfl rfl (List.mem_cons_of_mem _ (List.mem_cons_of_mem _ List.mem_cons_self)) ?_
  refine envq_load E _ (by kernel_rfl) rfl rfl List.mem_cons_self ?_
  quiet_step (exact Calls.regrown_of (M7.out _))
  quiet_step (exact Calls.regrown_of (A6.out _))
  quiet_step (fail)
  quiet_step (fail)
  quiet_step (fail)
  quiet_step (fail)
  refine envq_load E _ (by kernel_rfl) rfl rfl (List.mem_cons_of_mem _ (List.mem_cons_of_mem _ List.mem_cons_self)) ?_
  refine envq_build 1 #[(0, .const (.int .u64 1))] #[(0, .int .u64 1)] built_1 (by kernel_rfl) rfl (by kernel_rfl) ?_
  quiet_step (exact Calls.regrown_of (M8.out _))
  refine envq_load E _ (by kernel_rfl) rfl rfl (List.mem_cons_of_mem _ (List.mem_cons_of_mem _ List.mem_cons_self)) ?_
  quiet_step (fail)
  quiet_step (fail)
  quiet_step (fail)
  quiet_step (exact Calls.regrown_of (Y.out _))
  quiet_step (fail)
  quiet_step (fail)
  refine wpQuiet_nil ?_
  intro _ hw'
  obtain ⟨⟨dq, osq⟩, hw''⟩ := hw'
  subst hw''
  replace E := Lib.hid (E.out.call (below_regrown _ dq osq))
  go_wp2_with fail
  go_ret
  exact ⟨rfl, E.out.below⟩

theorem walk_any (a b c : Nat) (ha : a < P256) (hb : b < P256) (hc : c < P256) (w : World) :
    Calls Try.prog 8 #[wide a, wide b, wide c] w fun e w' => e = .returned (.bool true) ∧ Below w.heap.size w w' := by
  refine walk_vars a b c ((a + b) % P256) ((a + b + c) % P256) ((b + c) % P256) ((a * b) % P256) ((a * b * c) % P256) ((b * c) % P256) ((a * (b + c)) % P256) ((a * c) % P256) w ?_ ?_ ?_ ?_ ?_ ?_ ?_ ?_ ?_ ?_ ?_ ?_ ?_ ?_
  · exact Lib.hid fun W => by
      have h := clo_add a b ha hb W
      rw [← wide_mod (a + b)] at h
      exact h
  · exact Lib.hid fun W => by
      have h := clo_add b a hb ha W
      rw [← wide_mod (b + a)] at h
      rw [Nat.add_comm b a] at h
      exact h
  · exact Lib.hid fun W => by
      have h := clo_add ((a + b) % P256) c (lt_mod _) hc W
      rw [← wide_mod (((a + b) % P256) + c)] at h
      rw [Nat.mod_add_mod] at h
      exact h
  · exact Lib.hid fun W => by
      have h := clo_add b c hb hc W
      rw [← wide_mod (b + c)] at h
      exact h
  · exact Lib.hid fun W => by
      have h := clo_add a ((b + c) % P256) ha (lt_mod _) W
      rw [← wide_mod (a + ((b + c) % P256))] at h
      rw [Nat.add_mod_mod, ← Nat.add_assoc] at h
      exact h
  · exact Lib.hid fun W => by
      have h := clo_add ((a * b) % P256) ((a * c) % P256) (lt_mod _) (lt_mod _) W
      rw [← wide_mod (((a * b) % P256) + ((a * c) % P256))] at h
      rw [Nat.mod_add_mod, Nat.add_mod_mod, ← Nat.mul_add] at h
      exact h
  · exact Lib.hid fun W => by
      have h := clo_mul a b ha hb W
      rw [← wide_mod (a * b)] at h
      exact h
  · exact Lib.hid fun W => by
      have h := clo_mul b a hb ha W
      rw [← wide_mod (b * a)] at h
      rw [Nat.mul_comm b a] at h
      exact h
  · exact Lib.hid fun W => by
      have h := clo_mul ((a * b) % P256) c (lt_mod _) hc W
      rw [← wide_mod (((a * b) % P256) * c)] at h
      rw [mm] at h
      exact h
  · exact Lib.hid fun W => by
      have h := clo_mul b c hb hc W
      rw [← wide_mod (b * c)] at h
      exact h
  · exact Lib.hid fun W => by
      have h := clo_mul a ((b * c) % P256) ha (lt_mod _) W
      rw [← wide_mod (a * ((b * c) % P256))] at h
      rw [mm', ← Nat.mul_assoc] at h
      exact h
  · exact Lib.hid fun W => by
      have h := clo_mul a ((b + c) % P256) ha (lt_mod _) W
      rw [← wide_mod (a * ((b + c) % P256))] at h
      rw [mm'] at h
      exact h
  · exact Lib.hid fun W => by
      have h := clo_mul a c ha hc W
      rw [← wide_mod (a * c)] at h
      exact h
  · exact Lib.hid fun W => by
      have h := clo_mul a 1 ha (by decide) W
      rw [Nat.mul_one] at h
      exact h

theorem walk (a0 : Nat → Int) (w0 : ∀ i, i < 4 → (Lit.int .u64 (a0 i)).wf = true) (a1 : Nat → Int) (w1 : ∀ i, i < 4 → (Lit.int .u64 (a1 i)).wf = true) (a2 : Nat → Int) (w2 : ∀ i, i < 4 → (Lit.int .u64 (a2 i)).wf = true) (w : World) :
    Calls Try.prog 8 #[.agg (arr 4 fun i => .int .u64 (a0 i)), .agg (arr 4 fun i => .int .u64 (a1 i)), .agg (arr 4 fun i => .int .u64 (a2 i))] w fun e w' => e = .returned (.bool true) ∧ Below w.heap.size w w' := by
  obtain ⟨a, ha, e0⟩ := words_wide a0 w0
  obtain ⟨b, hb, e1⟩ := words_wide a1 w1
  obtain ⟨c, hc, e2⟩ := words_wide a2 w2
  rw [e0, e1, e2]
  exact walk_any a b c ha hb hc w


set_option maxRecDepth 100000 in
theorem lifted (os : Os) (started : os.Started) (H : Type) (enc : TypeId × Value → H) :
    ReturnsInHanded {} Try.checked os 8 .any (Rows.wideRingSpec.pre6 enc Try.prog Try.f8 Rows.wideRingRow.domain false) (Rows.wideRingSpec.post enc Try.prog Try.f8 false true false false) := by
  refine returnsInHanded_of_change (C := Try.checked) own started (by kernel_rfl) Try.func8
    (ChangeSpec.witness6 (enc := enc) (C := Try.checked) false ⟨#[], #[.agg #[.int .u64 0, .int .u64 0, .int .u64 0, .int .u64 0], .agg #[.int .u64 0, .int .u64 0, .int .u64 0, .int .u64 0], .agg #[.int .u64 0, .int .u64 0, .int .u64 0, .int .u64 0]], []⟩ 8 (by kernel_rfl) (by kernel_rfl) (by kernel_rfl) (by kernel_rfl)) ?_
  intro W base args ds gs before hval0 hW hcnd _
  have hval : ∀ (j : Nat) t v, Try.f8.params[j]? = some t → args[j]? = some v → Value.okWide Try.prog W .any base t v := hval0
  have hW' := hW
  obtain ⟨p, q, hA0, hV, rfl, hfz, hnd⟩ := hW
  have hA : DataW.TrodAll enc Try.prog W 0 (fun _ => true) true Try.f8.params.toList args.toList ds p := hA0
  rw [Try.params8] at hA hval
  obtain ⟨v0, vs0, d0, ds0, p0, q0, hargs, rfl, rfl, h0, r0⟩ := trodAll_cons hA
  obtain ⟨v1, vs1, d1, ds1, p1, q1, rfl, rfl, rfl, h1, r1⟩ := trodAll_cons r0
  obtain ⟨v2, vs2, d2, ds2, p2, q2, rfl, rfl, rfl, h2, r2⟩ := trodAll_cons r1
  obtain ⟨rfl, rfl, rfl⟩ := trodAll_nil r2
  obtain rfl : args = #[v0, v1, v2] := by cases args; simp_all
  obtain ⟨rfl, rfl⟩ := trodVars_none hV
  obtain ⟨a0, rfl, rfl, rfl, w0⟩ := open_ints_arr Try.underlying24 Try.underlying22 (by kernel_rfl) (by kernel_rfl) (hval 0 24 v0 rfl rfl) h0
  obtain ⟨a1, rfl, rfl, rfl, w1⟩ := open_ints_arr Try.underlying24 Try.underlying22 (by kernel_rfl) (by kernel_rfl) (hval 1 24 v1 rfl rfl) h1
  obtain ⟨a2, rfl, rfl, rfl, w2⟩ := open_ints_arr Try.underlying24 Try.underlying22 (by kernel_rfl) (by kernel_rfl) (hval 2 24 v2 rfl rfl) h2
  clear hA0 hval0
  simp only [List.append_nil] at hW'
  refine (walk a0 w0 a1 w1 a2 w2 W).mono fun e W' ⟨he, bel⟩ => ?_
  subst he
  exact ⟨_, rfl, _, _, _, [], _, [], hW', trodAll_mk1 (shut_bool Try.underlying4 _), (trodAll_cons_mk (shut_ints_arr Try.underlying24 Try.underlying22 (by kernel_rfl) (by kernel_rfl) w0) (trodAll_cons_mk (shut_ints_arr Try.underlying24 Try.underlying22 (by kernel_rfl) (by kernel_rfl) w1) (trodAll_cons_mk (shut_ints_arr Try.underlying24 Try.underlying22 (by kernel_rfl) (by kernel_rfl) w2) trodAll_mk0))), rfl, bel.frame _, fun h => by cases h⟩

theorem over : Rows.wideRingRow.holds Try.pinned (OpenSpec.ofChange Rows.wideRingSpec) :=
  OpenClaim.holds_of_wide 8 Try.f8 rfl rfl rfl rfl rfl rfl rfl ⟨rfl, rfl, rfl, rfl, rfl⟩ rfl rfl rfl rfl rfl (by kernel_rfl) Try.func8 (by kernel_rfl)
    (of_decide_eq_true (by kernel_rfl)) (by unfold Func.isWrapper; first | (rw [if_pos (by decide +kernel)]; kernel_rfl) | (rw [if_neg (by decide +kernel)]; exact ⟨rfl, rfl⟩))
    (fun os started H enc _ => lifted os started H enc)

/-- The statement. -/
theorem proved : Rows.WideRingSaid :=
  over
#print axioms proved
end Go.Proofs.Ytboffheklkhnkaa.wideRing
