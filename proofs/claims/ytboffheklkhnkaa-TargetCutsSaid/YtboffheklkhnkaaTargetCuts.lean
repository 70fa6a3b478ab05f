/- For every number: its bits say its highest bits, never more than it, with as many bits; of 0 they are 0; the call returns true; no condition. -/
import Derived.Test.YtboffheklkhnkaaTgtAll
import Derived.Test.YtboffheklkhnkaaOpen
import Derived.Below
set_option linter.unusedSimpArgs false
namespace Go.Proofs.Ytboffheklkhnkaa.targetCuts
open Go.RowKit Go.Lib Go.Sort Go.ChangeShapes Go.WideShapes Go.ChangeAt
set_option linter.unusedVariables false
attribute [local go_sem ↓] Go.wp_at_zero Go.wp_at_succ

theorem own : ownKnob Try.prog.godebug = none := by kernel_rfl

set_option maxRecDepth 100000 in
set_option maxHeartbeats 8000000 in
theorem walk_zero 
    (CP : Hid (Gives 47 #[wide 0] (.int .u32 0)))
    (AW : Hid (Gives 49 #[] (.bool true))) :
    Gives 17 #[wide 0] (.bool true) := by
  intro w
  have s0 := same_wide 0
  have E := Lib.hid (Mem.nil w)
  go_enter Try.func17, Try.ntmps17
  go_wp2_with (first
    | (go_at_call 47; refine (CP.out _).mono ?_; rintro e w1 ⟨rfl, hb⟩; replace E := Lib.hid (E.out.call hb); clear hb)
    | (go_at_call 49; refine (AW.out _).mono ?_; rintro e w1 ⟨rfl, hb⟩; replace E := Lib.hid (E.out.call hb); clear hb)
    | (with_reducible refine env_build 0 #[] #[] built_0 (by kernel_rfl) rfl (by kernel_rfl) ?_)
    | (with_reducible refine mem_box E 24 rfl _ rfl rfl rfl ?_; clear E; intro b w2 E)
    | (with_reducible refine mem_alloc E 24 rfl rfl info24 ?_; clear E; intro b w2 E; simp only [Value.cells] at E)
    | (with_reducible refine mem_load_row E 24 (by kernel_rfl) _ rfl rfl (by first | exact List.mem_cons_self | exact (List.mem_cons_of_mem _ List.mem_cons_self) | exact (List.mem_cons_of_mem _ (List.mem_cons_of_mem _ List.mem_cons_self))) Try.underlying24 rfl (by kernel_rfl) ?_)
    | (refine mem_store_row 0 E 24 rfl _ _ rfl rfl rfl rfl (by kernel_rfl) rfl (all_wl _) ?_; clear E; intro w2 E; simp only [List.set_cons_zero, List.set_cons_succ] at E)
    | (refine mem_store_row 1 E 24 rfl _ _ rfl rfl rfl rfl (by kernel_rfl) rfl (all_wl _) ?_; clear E; intro w2 E; simp only [List.set_cons_zero, List.set_cons_succ] at E))
  go_ret
  exact ⟨rfl, E.out.below⟩
set_option maxRecDepth 100000 in
set_option maxHeartbeats 8000000 in
theorem walk_on (t u c n : Nat) (x : Int) (sm : ∀ w, (Op.equalIn 10000 24 (.agg (arr 4 (wl t))) (.agg (arr 4 (wl 0)))).run Try.prog w = .ok false w) (hx : decide (x ≤ 0) = true)
    (CP : Hid (Gives 47 #[wide t] (.int .u32 (c : Int))))
    (X : Hid (Gives 43 #[.int .u32 (c : Int)] (.tuple #[wide u, .int .i64 0])))
    (CM : Hid (Gives 30 #[wide u, wide t] (.int .i64 x)))
    (B1 : Hid (Gives 36 #[wide u] (.int .i64 (n : Int))))
    (B2 : Hid (Gives 36 #[wide t] (.int .i64 (n : Int)))) :
    Gives 17 #[wide t] (.bool true) := by
  intro w
  have E := Lib.hid (Mem.nil w)
  go_enter Try.func17, Try.ntmps17
  go_upto_region 5 with (first
    | (go_at_call 47; refine (CP.out _).mono ?_; rintro e w1 ⟨rfl, hb⟩; replace E := Lib.hid (E.out.call hb); clear hb)
    | (go_at_call 43; refine (X.out _).mono ?_; rintro e w1 ⟨rfl, hb⟩; replace E := Lib.hid (E.out.call hb); clear hb)
    | (with_reducible refine env_build 0 #[] #[] built_0 (by kernel_rfl) rfl (by kernel_rfl) ?_)
    | (with_reducible refine mem_box E 24 rfl _ rfl rfl rfl ?_; clear E; intro b w2 E)
    | (with_reducible refine mem_alloc E 24 rfl rfl info24 ?_; clear E; intro b w2 E; simp only [Value.cells] at E)
    | (with_reducible refine mem_load_row E 24 (by kernel_rfl) _ rfl rfl (by first | exact List.mem_cons_self | exact (List.mem_cons_of_mem _ List.mem_cons_self) | exact (List.mem_cons_of_mem _ (List.mem_cons_of_mem _ List.mem_cons_self))) Try.underlying24 rfl (by kernel_rfl) ?_)
    | (refine mem_store_row 0 E 24 rfl _ _ rfl rfl rfl rfl (by kernel_rfl) rfl (all_wl _) ?_; clear E; intro w2 E; simp only [List.set_cons_zero, List.set_cons_succ] at E)
    | (refine mem_store_row 1 E 24 rfl _ _ rfl rfl rfl rfl (by kernel_rfl) rfl (all_wl _) ?_; clear E; intro w2 E; simp only [List.set_cons_zero, List.set_cons_succ] at E))
  try simp only [Act.put]
  refine wp_region_quiet_below (by kernel_rfl) (by kernel_rfl) ?_
  quiet_step (fail)
  quiet_step (fail)
  quiet_step (fail)
  refine memq_load_row E 24 (by kernel_rfl) _ rfl rfl (by first | exact List.mem_cons_self | exact (List.mem_cons_of_mem _ List.mem_cons_self) | exact (List.mem_cons_of_mem _ (List.mem_cons_of_mem _ List.mem_cons_self)) | exact (List.mem_cons_of_mem _ (List.mem_cons_of_mem _ (List.mem_cons_of_mem _ List.mem_cons_self)))) Try.underlying24 rfl (by kernel_rfl) ?_
  refine memq_load_row E 24 (by kernel_rfl) _ rfl rfl (by first | exact List.mem_cons_self | exact (List.mem_cons_of_mem _ List.mem_cons_self) | exact (List.mem_cons_of_mem _ (List.mem_cons_of_mem _ List.mem_cons_self)) | exact (List.mem_cons_of_mem _ (List.mem_cons_of_mem _ (List.mem_cons_of_mem _ List.mem_cons_self)))) Try.underlying24 rfl (by kernel_rfl) ?_
  quiet_step (exact Calls.regrown_of (CM.out _))
  quiet_step (fail)
  quiet_step (fail)
  quiet_step (fail)
  refine memq_load_row E 24 (by kernel_rfl) _ rfl rfl (by first | exact List.mem_cons_self | exact (List.mem_cons_of_mem _ List.mem_cons_self) | exact (List.mem_cons_of_mem _ (List.mem_cons_of_mem _ List.mem_cons_self)) | exact (List.mem_cons_of_mem _ (List.mem_cons_of_mem _ (List.mem_cons_of_mem _ List.mem_cons_self)))) Try.underlying24 rfl (by kernel_rfl) ?_
  quiet_step (exact Calls.regrown_of (B1.out _))
  refine memq_load_row E 24 (by kernel_rfl) _ rfl rfl (by first | exact List.mem_cons_self | exact (List.mem_cons_of_mem _ List.mem_cons_self) | exact (List.mem_cons_of_mem _ (List.mem_cons_of_mem _ List.mem_cons_self)) | exact (List.mem_cons_of_mem _ (List.mem_cons_of_mem _ (List.mem_cons_of_mem _ List.mem_cons_self)))) Try.underlying24 rfl (by kernel_rfl) ?_
  quiet_step (exact Calls.regrown_of (B2.out _))
  quiet_step (fail)
  quiet_step (fail)
  quiet_step (fail)
  refine wpQuiet_nil ?_
  intro _ hw'
  obtain ⟨⟨dq, osq⟩, hw''⟩ := hw'
  subst hw''
  replace E := Lib.hid (E.out.call (below_regrown _ dq osq))
  go_wp2_with fail
  go_ret
  exact ⟨rfl, E.out.below⟩

theorem walk (a0 : Nat → Int) (w0 : ∀ i, i < 4 → (Lit.int .u64 (a0 i)).wf = true) (w : World) :
    Calls Try.prog 17 #[.agg (arr 4 fun i => .int .u64 (a0 i))] w fun e w' => e = .returned (.bool true) ∧ Below w.heap.size w w' := by
  obtain ⟨t, ht, e0⟩ := words_wide a0 w0
  rw [e0]
  by_cases h0 : t = 0
  · subst h0
    have c := compact_any 0 ht
    rw [show cpt 0 = 0 from by decide] at c
    exact walk_zero (Lib.hid c) (Lib.hid awake4_any) w
  · obtain ⟨i1, i2, i3⟩ := cpt_isT h0 ht
    have hu := tOf_lt i1
    have hx : decide (cmp3 (tOf (cpt t)) t ≤ 0) = true := by
      unfold cmp3
      split
      · rfl
      · rw [if_pos (by omega)]; rfl
    have b1 := ref_bits_any (tOf (cpt t)) hu
    rw [i3] at b1
    exact walk_on t (tOf (cpt t)) (cpt t) (blen t) _ (ne_zero_eq t ht h0) hx (Lib.hid (compact_any t ht)) (Lib.hid (expand_on (cpt t) (cpt_lt t ht) i1)) (Lib.hid (ref_compare_any _ t hu ht)) (Lib.hid b1) (Lib.hid (ref_bits_any t ht)) w


set_option maxRecDepth 100000 in
theorem lifted (os : Os) (started : os.Started) (H : Type) (enc : TypeId × Value → H) :
    ReturnsInHanded {} Try.checked os 17 .any (Rows.targetCutsSpec.pre6 enc Try.prog Try.f17 Rows.targetCutsRow.domain false) (Rows.targetCutsSpec.post enc Try.prog Try.f17 false true false false) := by
  refine returnsInHanded_of_change (C := Try.checked) own started (by kernel_rfl) Try.func17
    (ChangeSpec.witness6 (enc := enc) (C := Try.checked) false ⟨#[], #[.agg #[.int .u64 0, .int .u64 0, .int .u64 0, .int .u64 0]], []⟩ 8 (by kernel_rfl) (by kernel_rfl) (by kernel_rfl) (by kernel_rfl)) ?_
  intro W base args ds gs before hval0 hW hcnd _
  have hval : ∀ (j : Nat) t v, Try.f17.params[j]? = some t → args[j]? = some v → Value.okWide Try.prog W .any base t v := hval0
  have hW' := hW
  obtain ⟨p, q, hA0, hV, rfl, hfz, hnd⟩ := hW
  have hA : DataW.TrodAll enc Try.prog W 0 (fun _ => true) true Try.f17.params.toList args.toList ds p := hA0
  rw [Try.params17] at hA hval
  obtain ⟨v0, vs0, d0, ds0, p0, q0, hargs, rfl, rfl, h0, r0⟩ := trodAll_cons hA
  obtain ⟨rfl, rfl, rfl⟩ := trodAll_nil r0
  obtain rfl : args = #[v0] := by cases args; simp_all
  obtain ⟨rfl, rfl⟩ := trodVars_none hV
  obtain ⟨a0, rfl, rfl, rfl, w0⟩ := open_ints_arr Try.underlying24 Try.underlying22 (by kernel_rfl) (by kernel_rfl) (hval 0 24 v0 rfl rfl) h0
  clear hA0 hval0
  simp only [List.append_nil] at hW'
  refine (walk a0 w0 W).mono fun e W' ⟨he, bel⟩ => ?_
  subst he
  exact ⟨_, rfl, _, _, _, [], _, [], hW', trodAll_mk1 (shut_bool Try.underlying4 _), (trodAll_cons_mk (shut_ints_arr Try.underlying24 Try.underlying22 (by kernel_rfl) (by kernel_rfl) w0) trodAll_mk0), rfl, bel.frame _, fun h => by cases h⟩

theorem over : Rows.targetCutsRow.holds Try.pinned (OpenSpec.ofChange Rows.targetCutsSpec) :=
  OpenClaim.holds_of_wide 17 Try.f17 rfl rfl rfl rfl rfl rfl rfl ⟨rfl, rfl, rfl, rfl, rfl⟩ rfl rfl rfl rfl rfl (by kernel_rfl) Try.func17 (by kernel_rfl)
    (of_decide_eq_true (by kernel_rfl)) (by unfold Func.isWrapper; first | (rw [if_pos (by decide +kernel)]; kernel_rfl) | (rw [if_neg (by decide +kernel)]; exact ⟨rfl, rfl⟩))
    (fun os started H enc _ => lifted os started H enc)

/-- The statement. -/
theorem proved : Rows.TargetCutsSaid :=
  over
#print axioms proved
end Go.Proofs.Ytboffheklkhnkaa.targetCuts
