/- For every hash and every number: the number of a hash is the document's, its bytes are the hash, and the number of a number's bytes is the number; the call returns true; no condition. -/
import Derived.Test.YtboffheklkhnkaaOpen
import Derived.Test.YtboffheklkhnkaaBytes
import Derived.Test.YtboffheklkhnkaaAwake
import Derived.Test.YtboffheklkhnkaaHeld
import Derived.Below
set_option linter.unusedSimpArgs false
namespace Go.Proofs.Ytboffheklkhnkaa.wideBytes
open Go.RowKit Go.Lib Go.Sort Go.ChangeShapes Go.WideShapes Go.ChangeAt
set_option linter.unusedVariables false

theorem own : ownKnob Try.prog.godebug = none := by kernel_rfl

theorem info5 : (Try.prog.info? 5).map (fun i => (i.zero, i.size, i.bytes)) = some (some (.int .u8 0), 1, 1) := by kernel_rfl
theorem cells5 : Try.prog.cellsOf 5 = 1 := by kernel_rfl
theorem same_hash (f : Nat → Nat) (w : World) : (Op.equalIn 10000 36 (.agg (arr 32 (bl f))) (.agg (arr 32 (bl f)))).run Try.prog w = .ok true w := by
  obtain ⟨i, hi, _⟩ := info_parts info5
  rw [run_equalIn_array w 9999 _ _ Try.underlying36 hi]
  have h := run_eqItems_all (P := Try.prog) 9998 Try.underlying5 cells5 32 (fun i => ((f i : Nat) : Int)) (fun i => ((f i : Nat) : Int)) w (List.range 32) (fun i hi => by simpa using hi)
  refine h.trans ?_
  simp
/-- Thirty-two bytes as a number. -/
theorem bytes_hash (f : Nat → Int) (hw : ∀ i, i < 32 → (Lit.int .u8 (f i)).wf = true) : ∃ n, n < P256 ∧ (Value.agg (arr 32 fun i => .int .u8 (f i))) = .agg (arr 32 (bl (byteAt n))) := by
  have hb : ∀ i, i < 32 → (f i).toNat < 256 := fun i hi => by
    have := bounds_u8 (hw i hi); omega
  refine ⟨ofBytes (fun i => (f i).toNat) 32, ofBytes_lt hb, ?_⟩
  refine congrArg Value.agg (arr_congr fun i hi => ?_)
  unfold bl
  rw [byteAt_ofBytes hb i hi]
  have := bounds_u8 (hw i hi)
  exact congrArg (Value.int .u8) (by omega)

set_option maxRecDepth 100000 in
set_option maxHeartbeats 8000000 in
theorem walk_any (n a : Nat) (hn : n < P256) (ha : a < P256) (w : World) :
    Calls Try.prog 7 #[.agg (arr 32 (bl (byteAt n))), wide a] w fun e w' => e = .returned (.bool true) ∧ Below w.heap.size w w' := by
  obtain ⟨f, hf⟩ : ∃ f, f = byteAt n := ⟨_, rfl⟩
  obtain ⟨g, hg⟩ : ∃ g, g = byteAt a := ⟨_, rfl⟩
  have O1 : Hid (∀ W, Calls Try.prog 39 #[.agg (arr 32 (bl f))] W fun e w' => e = .returned (wide n) ∧ Below W.heap.size W w') := Lib.hid (by rw [hf]; exact of_any n hn)
  have O2 : Hid (∀ W, Calls Try.prog 40 #[.agg (arr 32 (bl f))] W fun e w' => e = .returned (wide n) ∧ Below W.heap.size W w') := Lib.hid (by rw [hf]; exact ref_of_any n hn)
  have Y1 : Hid (∀ W, Calls Try.prog 37 #[wide n] W fun e w' => e = .returned (.agg (arr 32 (bl f))) ∧ Below W.heap.size W w') := Lib.hid (by rw [hf]; exact bytes_any n)
  have Y2 : Hid (∀ W, Calls Try.prog 37 #[wide a] W fun e w' => e = .returned (.agg (arr 32 (bl g))) ∧ Below W.heap.size W w') := Lib.hid (by rw [hg]; exact bytes_any a)
  have O3 : Hid (∀ W, Calls Try.prog 39 #[.agg (arr 32 (bl g))] W fun e w' => e = .returned (wide a) ∧ Below W.heap.size W w') := Lib.hid (by rw [hg]; exact of_any a ha)
  have YA : Hid (∀ W, Calls Try.prog 24 #[] W fun e w' => e = .returned (.bool true) ∧ Below W.heap.size W w') := Lib.hid fun W => awake_any W
  have sm := same_wide
  have sh := same_hash
  rw [← hf]
  have h0 := HasAt.new w (bl f) 32 36
  have b0 := below_new w (.cells (arr 32 (bl f)) 36)
  have s1 : (w.alloc (.cells (arr 32 (bl f)) 36)).heap.size = w.heap.size + 1 := by simp
  have HH : Hid (HasAt w.heap.size 36 32 (bl f) ((w.alloc (.cells (arr 32 (bl f)) 36)).alloc (.cells (arr 4 (wl a)) 24))) := Lib.hid (h0.alloc _)
  have E : Hid (Env w [(w.heap.size + 1, wl a)] ((w.alloc (.cells (arr 32 (bl f)) 36)).alloc (.cells (arr 4 (wl a)) 24))) := Lib.hid (Env.next (w0 := w) (l := []) ⟨b0, fun _ h => by cases h⟩ s1 (wl a))
  clear hf hg hn ha h0 b0 s1
  go_enter Try.func7, Try.ntmps7
  go_upto_region 1 with fail
  refine wp_region_quiet_below (by kernel_rfl) (by kernel_rfl) ?_
  refine wpQuiet_load_all 36 (.tmp 2) rfl (by kernel_rfl) w.heap.size rfl (.agg (arr 32 (bl f))) (fun w3 hC => by obtain ⟨p, rfl⟩ := hC; exact (HH.out.below (below_regrown _ p.d p.os)).load 36 _ Try.underlying36 rfl (by kernel_rfl)) ?_
  quiet_step (exact Calls.regrown_of (O1.out _))
  refine wpQuiet_load_all 36 (.tmp 2) rfl (by kernel_rfl) w.heap.size rfl (.agg (arr 32 (bl f))) (fun w3 hC => by obtain ⟨p, rfl⟩ := hC; exact (HH.out.below (below_regrown _ p.d p.os)).load 36 _ Try.underlying36 rfl (by kernel_rfl)) ?_
  quiet_step (exact Calls.regrown_of (O2.out _))
  quiet_step (fail)
  quiet_step (fail)
  refine wpQuiet_load_all 36 (.tmp 2) rfl (by kernel_rfl) w.heap.size rfl (.agg (arr 32 (bl f))) (fun w3 hC => by obtain ⟨p, rfl⟩ := hC; exact (HH.out.below (below_regrown _ p.d p.os)).load 36 _ Try.underlying36 rfl (by kernel_rfl)) ?_
  quiet_step (exact Calls.regrown_of (O1.out _))
  quiet_step (exact Calls.regrown_of (Y1.out _))
  refine wpQuiet_load_all 36 (.tmp 2) rfl (by kernel_rfl) w.heap.size rfl (.agg (arr 32 (bl f))) (fun w3 hC => by obtain ⟨p, rfl⟩ := hC; exact (HH.out.below (below_regrown _ p.d p.os)).load 36 _ Try.underlying36 rfl (by kernel_rfl)) ?_
  quiet_step (fail)
  quiet_step (fail)
  quiet_step (fail)
  refine envq_load E _ (by kernel_rfl) rfl rfl List.mem_cons_self ?_
  quiet_step (exact Calls.regrown_of (Y2.out _))
  quiet_step (exact Calls.regrown_of (O3.out _))
  refine envq_load E _ (by kernel_rfl) rfl rfl List.mem_cons_self ?_
  quiet_step (fail)
  quiet_step (fail)
  quiet_step (fail)
  quiet_step (exact Calls.regrown_of (YA.out _))
  quiet_step (fail)
  quiet_step (fail)
  refine wpQuiet_nil ?_
  intro _ hw'
  obtain ⟨⟨dq, osq⟩, hw''⟩ := hw'
  subst hw''
  replace E := Lib.hid (E.out.call (below_regrown _ dq osq))
  go_wp2_with fail
  go_ret
  exact ⟨rfl, E.out.below⟩

theorem walk (a0 : Nat → Int) (w0 : ∀ i, i < 32 → (Lit.int .u8 (a0 i)).wf = true) (a1 : Nat → Int) (w1 : ∀ i, i < 4 → (Lit.int .u64 (a1 i)).wf = true) (w : World) :
    Calls Try.prog 7 #[.agg (arr 32 fun i => .int .u8 (a0 i)), .agg (arr 4 fun i => .int .u64 (a1 i))] w fun e w' => e = .returned (.bool true) ∧ Below w.heap.size w w' := by
  obtain ⟨n, hn, e0⟩ := bytes_hash a0 w0
  obtain ⟨a, ha, e1⟩ := words_wide a1 w1
  rw [e0, e1]
  exact walk_any n a hn ha w


set_option maxRecDepth 100000 in
theorem lifted (os : Os) (started : os.Started) (H : Type) (enc : TypeId × Value → H) :
    ReturnsInHanded {} Try.checked os 7 .any (Rows.wideBytesSpec.pre6 enc Try.prog Try.f7 Rows.wideBytesRow.domain false) (Rows.wideBytesSpec.post enc Try.prog Try.f7 false true false false) := by
  refine returnsInHanded_of_change (C := Try.checked) own started (by kernel_rfl) Try.func7
    (ChangeSpec.witness6 (enc := enc) (C := Try.checked) false ⟨#[], #[.agg #[.int .u8 0, .int .u8 0, .int .u8 0, .int .u8 0, .int .u8 0, .int .u8 0, .int .u8 0, .int .u8 0, .int .u8 0, .int .u8 0, .int .u8 0, .int .u8 0, .int .u8 0, .int .u8 0, .int .u8 0, .int .u8 0, .int .u8 0, .int .u8 0, .int .u8 0, .int .u8 0, .int .u8 0, .int .u8 0, .int .u8 0, .int .u8 0, .int .u8 0, .int .u8 0, .int .u8 0, .int .u8 0, .int .u8 0, .int .u8 0, .int .u8 0, .int .u8 0], .agg #[.int .u64 0, .int .u64 0, .int .u64 0, .int .u64 0]], []⟩ 8 (by kernel_rfl) (by kernel_rfl) (by kernel_rfl) (by kernel_rfl)) ?_
  intro W base args ds gs before hval0 hW hcnd _
  have hval : ∀ (j : Nat) t v, Try.f7.params[j]? = some t → args[j]? = some v → Value.okWide Try.prog W .any base t v := hval0
  have hW' := hW
  obtain ⟨p, q, hA0, hV, rfl, hfz, hnd⟩ := hW
  have hA : DataW.TrodAll enc Try.prog W 0 (fun _ => true) true Try.f7.params.toList args.toList ds p := hA0
  rw [Try.params7] at hA hval
  obtain ⟨v0, vs0, d0, ds0, p0, q0, hargs, rfl, rfl, h0, r0⟩ := trodAll_cons hA
  obtain ⟨v1, vs1, d1, ds1, p1, q1, rfl, rfl, rfl, h1, r1⟩ := trodAll_cons r0
  obtain ⟨rfl, rfl, rfl⟩ := trodAll_nil r1
  obtain rfl : args = #[v0, v1] := by cases args; simp_all
  obtain ⟨rfl, rfl⟩ := trodVars_none hV
  obtain ⟨a0, rfl, rfl, rfl, w0⟩ := open_ints_arr Try.underlying36 Try.underlying5 (by kernel_rfl) (by kernel_rfl) (hval 0 36 v0 rfl rfl) h0
  obtain ⟨a1, rfl, rfl, rfl, w1⟩ := open_ints_arr Try.underlying24 Try.underlying22 (by kernel_rfl) (by kernel_rfl) (hval 1 24 v1 rfl rfl) h1
  clear hA0 hval0
  simp only [List.append_nil] at hW'
  refine (walk a0 w0 a1 w1 W).mono fun e W' ⟨he, bel⟩ => ?_
  subst he
  exact ⟨_, rfl, _, _, _, [], _, [], hW', trodAll_mk1 (shut_bool Try.underlying4 _), (trodAll_cons_mk (shut_ints_arr Try.underlying36 Try.underlying5 (by kernel_rfl) (by kernel_rfl) w0) (trodAll_cons_mk (shut_ints_arr Try.underlying24 Try.underlying22 (by kernel_rfl) (by kernel_rfl) w1) trodAll_mk0)), rfl, bel.frame _, fun h => by cases h⟩

theorem over : Rows.wideBytesRow.holds Try.pinned (OpenSpec.ofChange Rows.wideBytesSpec) :=
  OpenClaim.holds_of_wide 7 Try.f7 rfl rfl rfl rfl rfl rfl rfl ⟨rfl, rfl, rfl, rfl, rfl⟩ rfl rfl rfl rfl rfl (by kernel_rfl) Try.func7 (by kernel_rfl)
    (of_decide_eq_true (by kernel_rfl)) (by unfold Func.isWrapper; first | (rw [if_pos (by decide +kernel)]; kernel_rfl) | (rw [if_neg (by decide +kernel)]; exact ⟨rfl, rfl⟩))
    (fun os started H enc _ => lifted os started H enc)

/-- The statement. -/
theorem proved : Rows.WideBytesSaid :=
  over
#print axioms proved
end Go.Proofs.Ytboffheklkhnkaa.wideBytes
