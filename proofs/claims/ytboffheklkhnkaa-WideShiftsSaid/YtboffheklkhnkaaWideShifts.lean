/- For every two numbers and every count: the program's order, shifts, number of bits and bytes are the document's; the call returns true; no condition. -/
import Derived.Test.YtboffheklkhnkaaOpen
import Derived.Test.YtboffheklkhnkaaRefComp
import Derived.Test.YtboffheklkhnkaaShiftR
import Derived.Test.YtboffheklkhnkaaLen
import Derived.Test.YtboffheklkhnkaaBytes
import Derived.Test.YtboffheklkhnkaaAwake
import Derived.Test.YtboffheklkhnkaaHeld
import Derived.Below
set_option linter.unusedSimpArgs false
namespace Go.Proofs.Ytboffheklkhnkaa.wideShifts
open Go.RowKit Go.Lib Go.Sort Go.ChangeShapes Go.WideShapes Go.ChangeAt
set_option linter.unusedVariables false

theorem own : ownKnob Try.prog.godebug = none := by kernel_rfl

theorem info5 : (Try.prog.info? 5).map (fun i => (i.zero, i.size, i.bytes)) = some (some (.int .u8 0), 1, 1) := by kernel_rfl
theorem cells5 : Try.prog.cellsOf 5 = 1 := by kernel_rfl
theorem same_hash (f : Nat → Nat) (w : World) : (Op.equalIn 10000 36 (.agg (arr 32 (bl f))) (.agg (arr 32 (bl f)))).run Try.prog w = .ok true w := by
  obtain ⟨i, hi, _⟩ := info_parts info5
  rw [run_equalIn_array w 9999 _ _ Try.underlying36 hi]
  have h := run_eqItems_all (P := Try.prog) 9998 Try.underlying5 cells5 32 (fun i => ((f i : Nat) : Int)) (fun i => ((f i : Nat) : Int)) w (List.range 32) (fun i hi => by simpa using hi)
  refine h.trans ?_
  simp
theorem wide_held (a k : Nat) : wide (a * 2 ^ min k 256) = wide (a * 2 ^ k) := by
  rcases Nat.le_total k 256 with h | h
  · rw [Nat.min_eq_left h]
  · rw [Nat.min_eq_right h]
    refine wl_eq fun i hi => ?_
    rw [limb_shl a 256 i, limb_shl a k i, if_pos (by omega), if_pos (by omega)]
theorem div_held (a k : Nat) (ha : a < P256) : a / 2 ^ min k 256 = a / 2 ^ k := by
  rcases Nat.le_total k 256 with h | h
  · rw [Nat.min_eq_left h]
  · rw [Nat.min_eq_right h, Nat.div_eq_of_lt (show a < 2 ^ 256 from ha), Nat.div_eq_of_lt (Nat.lt_of_lt_of_le ha (Nat.pow_le_pow_right (by decide) h))]

set_option maxRecDepth 100000 in
set_option maxHeartbeats 8000000 in
theorem walk_any (a b : Nat) (n : Int) (ha : a < P256) (hb : b < P256) (hn : n ≤ 9223372036854775807) (w : World) :
    Calls Try.prog 6 #[wide a, wide b, .int .i64 n] w fun e w' => e = .returned (.bool true) ∧ Below w.heap.size w w' := by
  obtain ⟨c, hc⟩ : ∃ c, c = cmp3 a b := ⟨_, rfl⟩
  obtain ⟨s, hs⟩ : ∃ s, s = (a * 2 ^ n.toNat) % P256 := ⟨_, rfl⟩
  obtain ⟨q, hq⟩ : ∃ q, q = a / 2 ^ n.toNat := ⟨_, rfl⟩
  obtain ⟨m, hm⟩ : ∃ m, m = blen a := ⟨_, rfl⟩
  obtain ⟨f, hf⟩ : ∃ f, f = byteAt a := ⟨_, rfl⟩
  have C1 : Hid (∀ W, Calls Try.prog 29 #[wide a, wide b] W fun e w' => e = .returned (.int .i64 c) ∧ Below W.heap.size W w') := Lib.hid (by rw [hc]; exact compare_any a b ha hb)
  have C2 : Hid (∀ W, Calls Try.prog 30 #[wide a, wide b] W fun e w' => e = .returned (.int .i64 c) ∧ Below W.heap.size W w') := Lib.hid (by rw [hc]; exact ref_compare_any a b ha hb)
  have L1 : Hid (∀ W, Calls Try.prog 31 #[wide a, .int .i64 n] W fun e w' => e = .returned (wide s) ∧ Below W.heap.size W w') := Lib.hid (by rw [hs, wide_mod]; exact left_any a n hn)
  have L2 : Hid (∀ W, Calls Try.prog 32 #[wide a, .int .i64 n] W fun e w' => e = .returned (wide s) ∧ Below W.heap.size W w') := Lib.hid (by rw [hs, wide_mod, ← wide_held]; exact ref_left_any a n)
  have R1 : Hid (∀ W, Calls Try.prog 33 #[wide a, .int .i64 n] W fun e w' => e = .returned (wide q) ∧ Below W.heap.size W w') := Lib.hid (by rw [hq]; exact right_any a n ha hn)
  have R2 : Hid (∀ W, Calls Try.prog 34 #[wide a, .int .i64 n] W fun e w' => e = .returned (wide q) ∧ Below W.heap.size W w') := Lib.hid (by rw [hq, ← div_held a _ ha]; exact ref_right_any a n ha)
  have B1 : Hid (∀ W, Calls Try.prog 35 #[wide a] W fun e w' => e = .returned (.int .i64 ((m : Nat) : Int)) ∧ Below W.heap.size W w') := Lib.hid (by rw [hm]; exact bits_any a ha)
  have B2 : Hid (∀ W, Calls Try.prog 36 #[wide a] W fun e w' => e = .returned (.int .i64 ((m : Nat) : Int)) ∧ Below W.heap.size W w') := Lib.hid (by rw [hm]; exact ref_bits_any a ha)
  have Y1 : Hid (∀ W, Calls Try.prog 37 #[wide a] W fun e w' => e = .returned (.agg (arr 32 (bl f))) ∧ Below W.heap.size W w') := Lib.hid (by rw [hf]; exact bytes_any a)
  have Y2 : Hid (∀ W, Calls Try.prog 38 #[wide a] W fun e w' => e = .returned (.agg (arr 32 (bl f))) ∧ Below W.heap.size W w') := Lib.hid (by rw [hf]; exact ref_bytes_any a)
  have YA : Hid (∀ W, Calls Try.prog 24 #[] W fun e w' => e = .returned (.bool true) ∧ Below W.heap.size W w') := Lib.hid fun W => awake_any W
  have sm := same_wide
  have sh := same_hash
  have E := Lib.hid ((Env.box1 w (wl a)).next (b := w.heap.size + 1) (by simp) (wl b))
  clear hc hs hq hm hf ha hb hn
  go_enter Try.func6, Try.ntmps6
  go_upto_region 1 with fail
  refine wp_region_quiet_below (by kernel_rfl) (by kernel_rfl) ?_
  refine envq_load E _ (by kernel_rfl) rfl rfl (List.mem_cons_of_mem _ List.mem_cons_self) ?_
  refine envq_load E _ (by kernel_rfl) rfl rfl List.mem_cons_self ?_
  quiet_step (exact Calls.regrown_of (C1.out _))
  refine envq_load E _ (by kernel_rfl) rfl rfl (List.mem_cons_of_mem _ List.mem_cons_self) ?_
  refine envq_load E _ (by kernel_rfl) rfl rfl List.mem_cons_self ?_
  quiet_step (exact Calls.regrown_of (C2.out _))
  quiet_step (fail)
  quiet_step (fail)
  refine envq_load E _ (by kernel_rfl) rfl rfl (List.mem_cons_of_mem _ List.mem_cons_self) ?_
  quiet_step (fail)
  quiet_step (exact Calls.regrown_of (L1.out _))
  refine envq_load E _ (by kernel_rfl) rfl rfl (List.mem_cons_of_mem _ List.mem_cons_self) ?_
  quiet_step (fail)
  quiet_step (exact Calls.regrown_of (L2.out _))
  quiet_step (fail)
  quiet_step (fail)
  quiet_step (fail)
  refine envq_load E _ (by kernel_rfl) rfl rfl (List.mem_cons_of_mem _ List.mem_cons_self) ?_
  quiet_step (fail)
  quiet_step (exact Calls.regrown_of (R1.out _))
  refine envq_load E _ (by kernel_rfl) rfl rfl (List.mem_cons_of_mem _ List.mem_cons_self) ?_
  quiet_step (fail)
  quiet_step (exact Calls.regrown_of (R2.out _))
  quiet_step (fail)
  quiet_step (fail)
  quiet_step (fail)
  refine envq_load E _ (by kernel_rfl) rfl rfl (List.mem_cons_of_mem _ List.mem_cons_self) ?_
  quiet_step (exact Calls.regrown_of (B1.out _))
  refine envq_load E _ (by kernel_rfl) rfl rfl (List.mem_cons_of_mem _ List.mem_cons_self) ?_
  quiet_step (exact Calls.regrown_of (B2.out _))
  quiet_step (fail)
  quiet_step (fail)
  quiet_step (fail)
  refine envq_load E _ (by kernel_rfl) rfl rfl (List.mem_cons_of_mem _ List.mem_cons_self) ?_
  quiet_step (exact Calls.regrown_of (Y1.out _))
  refine envq_load E _ (by kernel_rfl) rfl rfl (List.mem_cons_of_mem _ List.mem_cons_self) ?_
  quiet_step (exact Calls.regrown_of (Y2.out _))
  quiet_step (fail)
  quiet_step (fail)
  quiet_step (fail)
  quiet_step (exact Calls.regrown_of (YA.out _))
  quiet_step (fail)
  quiet_step (fail)
  refine wpQuiet_nil ?_
  intro _ hw'
  obtain ⟨⟨dq, osq⟩, hw''⟩ := hw'
  subst hw''
  replace E := Lib.hid (E.out.call (below_regrown _ dq osq))
  go_wp2_with fail
  go_ret
  exact ⟨rfl, E.out.below⟩

theorem walk (a0 : Nat → Int) (w0 : ∀ i, i < 4 → (Lit.int .u64 (a0 i)).wf = true) (a1 : Nat → Int) (w1 : ∀ i, i < 4 → (Lit.int .u64 (a1 i)).wf = true) (a2 : Int) (w2 : (Lit.int .i64 a2).wf = true) (w : World) :
    Calls Try.prog 6 #[.agg (arr 4 fun i => .int .u64 (a0 i)), .agg (arr 4 fun i => .int .u64 (a1 i)), .int .i64 a2] w fun e w' => e = .returned (.bool true) ∧ Below w.heap.size w w' := by
  obtain ⟨a, ha, e0⟩ := words_wide a0 w0
  obtain ⟨b, hb, e1⟩ := words_wide a1 w1
  rw [e0, e1]
  exact walk_any a b a2 ha hb (bounds_i64 w2).2 w


set_option maxRecDepth 100000 in
theorem lifted (os : Os) (started : os.Started) (H : Type) (enc : TypeId × Value → H) :
    ReturnsInHanded {} Try.checked os 6 .any (Rows.wideShiftsSpec.pre6 enc Try.prog Try.f6 Rows.wideShiftsRow.domain false) (Rows.wideShiftsSpec.post enc Try.prog Try.f6 false true false false) := by
  refine returnsInHanded_of_change (C := Try.checked) own started (by kernel_rfl) Try.func6
    (ChangeSpec.witness6 (enc := enc) (C := Try.checked) false ⟨#[], #[.agg #[.int .u64 0, .int .u64 0, .int .u64 0, .int .u64 0], .agg #[.int .u64 0, .int .u64 0, .int .u64 0, .int .u64 0], .int .i64 0], []⟩ 8 (by kernel_rfl) (by kernel_rfl) (by kernel_rfl) (by kernel_rfl)) ?_
  intro W base args ds gs before hval0 hW hcnd _
  have hval : ∀ (j : Nat) t v, Try.f6.params[j]? = some t → args[j]? = some v → Value.okWide Try.prog W .any base t v := hval0
  have hW' := hW
  obtain ⟨p, q, hA0, hV, rfl, hfz, hnd⟩ := hW
  have hA : DataW.TrodAll enc Try.prog W 0 (fun _ => true) true Try.f6.params.toList args.toList ds p := hA0
  rw [Try.params6] at hA hval
  obtain ⟨v0, vs0, d0, ds0, p0, q0, hargs, rfl, rfl, h0, r0⟩ := trodAll_cons hA
  obtain ⟨v1, vs1, d1, ds1, p1, q1, rfl, rfl, rfl, h1, r1⟩ := trodAll_cons r0
  obtain ⟨v2, vs2, d2, ds2, p2, q2, rfl, rfl, rfl, h2, r2⟩ := trodAll_cons r1
  obtain ⟨rfl, rfl, rfl⟩ := trodAll_nil r2
  obtain rfl : args = #[v0, v1, v2] := by cases args; simp_all
  obtain ⟨rfl, rfl⟩ := trodVars_none hV
  obtain ⟨a0, rfl, rfl, rfl, w0⟩ := open_ints_arr Try.underlying24 Try.underlying22 (by kernel_rfl) (by kernel_rfl) (hval 0 24 v0 rfl rfl) h0
  obtain ⟨a1, rfl, rfl, rfl, w1⟩ := open_ints_arr Try.underlying24 Try.underlying22 (by kernel_rfl) (by kernel_rfl) (hval 1 24 v1 rfl rfl) h1
  obtain ⟨a2, rfl, rfl, rfl, w2⟩ := open_int Try.underlying3 (hval 2 3 v2 rfl rfl) h2
  clear hA0 hval0
  simp only [List.append_nil] at hW'
  refine (walk a0 w0 a1 w1 a2 w2 W).mono fun e W' ⟨he, bel⟩ => ?_
  subst he
  exact ⟨_, rfl, _, _, _, [], _, [], hW', trodAll_mk1 (shut_bool Try.underlying4 _), (trodAll_cons_mk (shut_ints_arr Try.underlying24 Try.underlying22 (by kernel_rfl) (by kernel_rfl) w0) (trodAll_cons_mk (shut_ints_arr Try.underlying24 Try.underlying22 (by kernel_rfl) (by kernel_rfl) w1) (trodAll_cons_mk (shut_int Try.underlying3 w2) trodAll_mk0))), rfl, bel.frame _, fun h => by cases h⟩

theorem over : Rows.wideShiftsRow.holds Try.pinned (OpenSpec.ofChange Rows.wideShiftsSpec) :=
  OpenClaim.holds_of_wide 6 Try.f6 rfl rfl rfl rfl rfl rfl rfl ⟨rfl, rfl, rfl, rfl, rfl⟩ rfl rfl rfl rfl rfl (by kernel_rfl) Try.func6 (by kernel_rfl)
    (of_decide_eq_true (by kernel_rfl)) (by unfold Func.isWrapper; first | (rw [if_pos (by decide +kernel)]; kernel_rfl) | (rw [if_neg (by decide +kernel)]; exact ⟨rfl, rfl⟩))
    (fun os started H enc _ => lifted os started H enc)

/-- The statement. -/
theorem proved : Rows.WideShiftsSaid :=
  over
#print axioms proved
end Go.Proofs.Ytboffheklkhnkaa.wideShifts
