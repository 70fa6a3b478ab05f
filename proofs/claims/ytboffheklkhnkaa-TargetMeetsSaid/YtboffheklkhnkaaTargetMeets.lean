/- For every hash and all bits: whether the hash meets the bits is what the document says; the call returns true; no condition. -/
import Derived.Test.YtboffheklkhnkaaTgtAll
import Derived.Test.YtboffheklkhnkaaOpen
import Derived.Below
set_option linter.unusedSimpArgs false
namespace Go.Proofs.Ytboffheklkhnkaa.targetMeets
open Go.RowKit Go.Lib Go.Sort Go.ChangeShapes Go.WideShapes Go.ChangeAt
set_option linter.unusedVariables false
attribute [local go_sem ↓] Go.wp_at_zero Go.wp_at_succ

theorem own : ownKnob Try.prog.godebug = none := by kernel_rfl

/-- Thirty-two bytes as a number. -/
theorem bytes_hash (f : Nat → Int) (hw : ∀ i, i < 32 → (Lit.int .u8 (f i)).wf = true) : ∃ n, n < P256 ∧ (Value.agg (arr 32 fun i => .int .u8 (f i))) = .agg (arr 32 (bl (byteAt n))) := by
  have hb : ∀ i, i < 32 → (f i).toNat < 256 := fun i hi => by
    have := bounds_u8 (hw i hi); omega
  refine ⟨ofBytes (fun i => (f i).toNat) 32, ofBytes_lt hb, ?_⟩
  refine congrArg Value.agg (arr_congr fun i hi => ?_)
  unfold bl
  rw [byteAt_ofBytes hb i hi]
  have := bounds_u8 (hw i hi)
  exact congrArg (Value.int .u8) (by omega)

theorem built36 : Try.prog.built 36 (#[] : Array (Nat × Value)).toList = some (arr 32 (bl (byteAt 0))) := by kernel_rfl
theorem memq_build {ops : Array Oper} {C : World → Prop} {Q : Act → Prop} {a : Act} {o : Oper} {rest : List Oper} (T : TypeId) (parts : Array (Nat × Operand)) (ps : Array (Nat × Value)) (c : Array Value) (hu : ∀ w, (Instr.build T ps).run Try.prog w = .ok (.agg c) w) (hw : Region.wanted o (yielded ops a.tmps) = true) (ho : o.op = .build T parts) (hp : parts.map (fun (i, x) => (i, a.eval x)) = ps)
    (h : wpQuiet Try.prog ops C Q rest (a.put o.dst (.agg c))) : wpQuiet Try.prog ops C Q (o :: rest) a := by
  show if _ then _ else _
  rw [if_pos hw]
  refine ⟨.agg c, fun w3 _ => ?_, h⟩
  unfold Oper.quietAt execOp
  simp only [ho, hp, Sem.run_bind, hu w3, Result.andThen_ok]
  exact ⟨rfl, rfl⟩
theorem zero_hash (w : World) : (Instr.build 36 #[]).run Try.prog w = .ok (.agg (arr 32 (bl (byteAt 0)))) w := by kernel_rfl
set_option maxRecDepth 100000 in
set_option maxHeartbeats 8000000 in
theorem walk_vars (f g : Nat → Nat) (b : Nat) (r : Bool) (hz : ∀ w : World, (Instr.build 36 #[]).run Try.prog w = .ok (.agg (arr 32 (bl g))) w)
    (M1 : Hid (Gives 50 #[.agg (arr 32 (bl f)), .int .u32 (b : Int)] (.bool r)))
    (M2 : Hid (Gives 51 #[.agg (arr 32 (bl f)), .int .u32 (b : Int)] (.bool r)))
    (M3 : Hid (Gives 50 #[.agg (arr 32 (bl g)), .int .u32 486604799] (.bool true))) :
    Gives 14 #[.agg (arr 32 (bl f)), .int .u32 (b : Int)] (.bool true) := by
  intro w
  have E := Lib.hid (Mem.nil w)
  go_enter Try.func14, Try.ntmps14
  go_upto_region 1 with (first
    | (with_reducible refine mem_box E 36 rfl _ rfl rfl rfl ?_; clear E; intro b w2 E)
    | (with_reducible refine mem_alloc E 24 rfl rfl info24 ?_; clear E; intro b w2 E; simp only [Value.cells] at E)
    | (with_reducible refine mem_load_row E 24 (by kernel_rfl) _ rfl rfl (by first | exact List.mem_cons_self | exact (List.mem_cons_of_mem _ List.mem_cons_self)) Try.underlying24 rfl (by kernel_rfl) ?_))
  try simp only [Act.put]
  refine wp_region_quiet_below (by kernel_rfl) (by kernel_rfl) ?_
  refine memq_load_row E 36 (by kernel_rfl) _ rfl rfl (by first | exact List.mem_cons_self | exact (List.mem_cons_of_mem _ List.mem_cons_self) | exact (List.mem_cons_of_mem _ (List.mem_cons_of_mem _ List.mem_cons_self))) Try.underlying36 rfl (by kernel_rfl) ?_
  quiet_step (fail)
  quiet_step (exact Calls.regrown_of (M1.out _))
  refine memq_load_row E 36 (by kernel_rfl) _ rfl rfl (by first | exact List.mem_cons_self | exact (List.mem_cons_of_mem _ List.mem_cons_self) | exact (List.mem_cons_of_mem _ (List.mem_cons_of_mem _ List.mem_cons_self))) Try.underlying36 rfl (by kernel_rfl) ?_
  quiet_step (fail)
  quiet_step (exact Calls.regrown_of (M2.out _))
  quiet_step (fail)
  quiet_step (fail)
  refine memq_build 36 #[] #[] _ hz (by kernel_rfl) rfl (by kernel_rfl) ?_
  quiet_step (exact Calls.regrown_of (M3.out _))
  quiet_step (fail)
  quiet_step (fail)
  refine wpQuiet_nil ?_
  intro _ hw'
  obtain ⟨⟨dq, osq⟩, hw''⟩ := hw'
  subst hw''
  replace E := Lib.hid (E.out.call (below_regrown _ dq osq))
  go_wp2_with fail
  go_ret
  exact ⟨rfl, E.out.below⟩

theorem walk (a0 : Nat → Int) (w0 : ∀ i, i < 32 → (Lit.int .u8 (a0 i)).wf = true) (a1 : Int) (w1 : (Lit.int .u32 a1).wf = true) (w : World) :
    Calls Try.prog 14 #[.agg (arr 32 fun i => .int .u8 (a0 i)), .int .u32 a1] w fun e w' => e = .returned (.bool true) ∧ Below w.heap.size w w' := by
  obtain ⟨b, rfl⟩ : ∃ n : Nat, a1 = (n : Int) := ⟨a1.toNat, by have := bounds_u32 w1; omega⟩
  have hb : b < 4294967296 := by have := bounds_u32 w1; omega
  obtain ⟨n, hn, e0⟩ := bytes_hash a0 w0
  rw [e0]
  have m3 := meets_any 0 486604799 (by decide) (by decide)
  rw [show meetsB 0 486604799 = true from by decide] at m3
  exact walk_vars (byteAt n) (byteAt 0) b (meetsB n b) zero_hash (Lib.hid (meets_any n b hn hb)) (Lib.hid (ref_meets_any n b hn hb)) (Lib.hid m3) w


set_option maxRecDepth 100000 in
theorem lifted (os : Os) (started : os.Started) (H : Type) (enc : TypeId × Value → H) :
    ReturnsInHanded {} Try.checked os 14 .any (Rows.targetMeetsSpec.pre6 enc Try.prog Try.f14 Rows.targetMeetsRow.domain false) (Rows.targetMeetsSpec.post enc Try.prog Try.f14 false true false false) := by
  refine returnsInHanded_of_change (C := Try.checked) own started (by kernel_rfl) Try.func14
    (ChangeSpec.witness6 (enc := enc) (C := Try.checked) false ⟨#[], #[.agg #[.int .u8 0, .int .u8 0, .int .u8 0, .int .u8 0, .int .u8 0, .int .u8 0, .int .u8 0, .int .u8 0, .int .u8 0, .int .u8 0, .int .u8 0, .int .u8 0, .int .u8 0, .int .u8 0, .int .u8 0, .int .u8 0, .int .u8 0, .int .u8 0, .int .u8 0, .int .u8 0, .int .u8 0, .int .u8 0, .int .u8 0, .int .u8 0, .int .u8 0, .int .u8 0, .int .u8 0, .int .u8 0, .int .u8 0, .int .u8 0, .int .u8 0, .int .u8 0], .int .u32 0], []⟩ 8 (by kernel_rfl) (by kernel_rfl) (by kernel_rfl) (by kernel_rfl)) ?_
  intro W base args ds gs before hval0 hW hcnd _
  have hval : ∀ (j : Nat) t v, Try.f14.params[j]? = some t → args[j]? = some v → Value.okWide Try.prog W .any base t v := hval0
  have hW' := hW
  obtain ⟨p, q, hA0, hV, rfl, hfz, hnd⟩ := hW
  have hA : DataW.TrodAll enc Try.prog W 0 (fun _ => true) true Try.f14.params.toList args.toList ds p := hA0
  rw [Try.params14] at hA hval
  obtain ⟨v0, vs0, d0, ds0, p0, q0, hargs, rfl, rfl, h0, r0⟩ := trodAll_cons hA
  obtain ⟨v1, vs1, d1, ds1, p1, q1, rfl, rfl, rfl, h1, r1⟩ := trodAll_cons r0
  obtain ⟨rfl, rfl, rfl⟩ := trodAll_nil r1
  obtain rfl : args = #[v0, v1] := by cases args; simp_all
  obtain ⟨rfl, rfl⟩ := trodVars_none hV
  obtain ⟨a0, rfl, rfl, rfl, w0⟩ := open_ints_arr Try.underlying36 Try.underlying5 (by kernel_rfl) (by kernel_rfl) (hval 0 36 v0 rfl rfl) h0
  obtain ⟨a1, rfl, rfl, rfl, w1⟩ := open_int Try.underlying45 (hval 1 45 v1 rfl rfl) h1
  clear hA0 hval0
  simp only [List.append_nil] at hW'
  refine (walk a0 w0 a1 w1 W).mono fun e W' ⟨he, bel⟩ => ?_
  subst he
  exact ⟨_, rfl, _, _, _, [], _, [], hW', trodAll_mk1 (shut_bool Try.underlying4 _), (trodAll_cons_mk (shut_ints_arr Try.underlying36 Try.underlying5 (by kernel_rfl) (by kernel_rfl) w0) (trodAll_cons_mk (shut_int Try.underlying45 w1) trodAll_mk0)), rfl, bel.frame _, fun h => by cases h⟩

theorem over : Rows.targetMeetsRow.holds Try.pinned (OpenSpec.ofChange Rows.targetMeetsSpec) :=
  OpenClaim.holds_of_wide 14 Try.f14 rfl rfl rfl rfl rfl rfl rfl ⟨rfl, rfl, rfl, rfl, rfl⟩ rfl rfl rfl rfl rfl (by kernel_rfl) Try.func14 (by kernel_rfl)
    (of_decide_eq_true (by kernel_rfl)) (by unfold Func.isWrapper; first | (rw [if_pos (by decide +kernel)]; kernel_rfl) | (rw [if_neg (by decide +kernel)]; exact ⟨rfl, rfl⟩))
    (fun os started H enc _ => lifted os started H enc)

/-- The statement. -/
theorem proved : Rows.TargetMeetsSaid :=
  over
#print axioms proved
end Go.Proofs.Ytboffheklkhnkaa.targetMeets
