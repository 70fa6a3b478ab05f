/- For all bits, limits, seconds and wants: what comes behind a span is a target, not above the easiest one, or the error where the document says so; the call returns true; no condition. -/
import Derived.Test.YtboffheklkhnkaaTgtAll
import Derived.Test.YtboffheklkhnkaaOpen
import Derived.Below
set_option linter.unusedSimpArgs false
namespace Go.Proofs.Ytboffheklkhnkaa.targetBounds
open Go.RowKit Go.Lib Go.Sort Go.ChangeShapes Go.WideShapes Go.ChangeAt
set_option linter.unusedVariables false
attribute [local go_sem ↓] Go.wp_at_zero Go.wp_at_succ

theorem own : ownKnob Try.prog.godebug = none := by kernel_rfl

set_option maxRecDepth 100000 in
set_option maxHeartbeats 8000000 in
theorem walk_off1 (b m t l : Nat) (s k j f : Int) (hj : wrap64 (4 + wrap64 ((IntKind.u64.wrap k).tmod 1073741821)) = j)
    (N : Hid (Gives 52 #[.int .u32 (b : Int), .int .u32 (m : Int), .int .i64 s, .int .i64 j] (.tuple #[.int .u32 0, .int .i64 40])))
    (X : Hid (Gives 44 #[.int .u32 (b : Int)] (.tuple #[wide t, .int .i64 40])))
    (Y : Hid (Gives 44 #[.int .u32 (m : Int)] (.tuple #[wide l, .int .i64 f])))
    (AW : Hid (Gives 49 #[] (.bool true))) :
    Gives 19 #[.int .u32 (b : Int), .int .u32 (m : Int), .int .i64 s, .int .i64 k] (.bool true) := by
  intro w
  have E := Lib.hid (Mem.nil w)
  go_enter Try.func19, Try.ntmps19
  go_wp2_with (first
    | (go_at_call 52; refine (N.out _).mono ?_; rintro e w1 ⟨rfl, hb⟩; replace E := Lib.hid (E.out.call hb); clear hb)
    | (go_at_call 44; first | ((with_reducible refine (X.out _).mono ?_); rintro e w1 ⟨rfl, hb⟩; replace E := Lib.hid (E.out.call hb); clear hb) | ((with_reducible refine (Y.out _).mono ?_); rintro e w1 ⟨rfl, hb⟩; replace E := Lib.hid (E.out.call hb); clear hb))
    | (go_at_call 49; refine (AW.out _).mono ?_; rintro e w1 ⟨rfl, hb⟩; replace E := Lib.hid (E.out.call hb); clear hb)
    | (with_reducible refine mem_alloc E 24 rfl rfl info24 ?_; clear E; intro b w2 E; simp only [Value.cells] at E)
    | (with_reducible refine mem_load_row E 24 (by kernel_rfl) _ rfl rfl (by first | exact List.mem_cons_self | exact (List.mem_cons_of_mem _ List.mem_cons_self) | exact (List.mem_cons_of_mem _ (List.mem_cons_of_mem _ List.mem_cons_self)) | exact (List.mem_cons_of_mem _ (List.mem_cons_of_mem _ (List.mem_cons_of_mem _ List.mem_cons_self)))) Try.underlying24 rfl (by kernel_rfl) ?_)
    | (refine mem_store_row 0 E 24 rfl _ _ rfl rfl rfl rfl (by kernel_rfl) rfl (all_wl _) ?_; clear E; intro w2 E; simp only [List.set_cons_zero, List.set_cons_succ] at E)
    | (refine mem_store_row 1 E 24 rfl _ _ rfl rfl rfl rfl (by kernel_rfl) rfl (all_wl _) ?_; clear E; intro w2 E; simp only [List.set_cons_zero, List.set_cons_succ] at E)
    | (refine mem_store_row 2 E 24 rfl _ _ rfl rfl rfl rfl (by kernel_rfl) rfl (all_wl _) ?_; clear E; intro w2 E; simp only [List.set_cons_zero, List.set_cons_succ] at E)
    | (refine mem_store_row 3 E 24 rfl _ _ rfl rfl rfl rfl (by kernel_rfl) rfl (all_wl _) ?_; clear E; intro w2 E; simp only [List.set_cons_zero, List.set_cons_succ] at E))
  go_ret
  exact ⟨rfl, E.out.below⟩
set_option maxRecDepth 100000 in
set_option maxHeartbeats 8000000 in
theorem walk_off2 (b m t l : Nat) (s k j : Int) (hj : wrap64 (4 + wrap64 ((IntKind.u64.wrap k).tmod 1073741821)) = j)
    (N : Hid (Gives 52 #[.int .u32 (b : Int), .int .u32 (m : Int), .int .i64 s, .int .i64 j] (.tuple #[.int .u32 0, .int .i64 40])))
    (X : Hid (Gives 44 #[.int .u32 (b : Int)] (.tuple #[wide t, .int .i64 0])))
    (Y : Hid (Gives 44 #[.int .u32 (m : Int)] (.tuple #[wide l, .int .i64 40])))
    (AW : Hid (Gives 49 #[] (.bool true))) :
    Gives 19 #[.int .u32 (b : Int), .int .u32 (m : Int), .int .i64 s, .int .i64 k] (.bool true) := by
  intro w
  have E := Lib.hid (Mem.nil w)
  go_enter Try.func19, Try.ntmps19
  go_wp2_with (first
    | (go_at_call 52; refine (N.out _).mono ?_; rintro e w1 ⟨rfl, hb⟩; replace E := Lib.hid (E.out.call hb); clear hb)
    | (go_at_call 44; first | ((with_reducible refine (X.out _).mono ?_); rintro e w1 ⟨rfl, hb⟩; replace E := Lib.hid (E.out.call hb); clear hb) | ((with_reducible refine (Y.out _).mono ?_); rintro e w1 ⟨rfl, hb⟩; replace E := Lib.hid (E.out.call hb); clear hb))
    | (go_at_call 49; refine (AW.out _).mono ?_; rintro e w1 ⟨rfl, hb⟩; replace E := Lib.hid (E.out.call hb); clear hb)
    | (with_reducible refine mem_alloc E 24 rfl rfl info24 ?_; clear E; intro b w2 E; simp only [Value.cells] at E)
    | (with_reducible refine mem_load_row E 24 (by kernel_rfl) _ rfl rfl (by first | exact List.mem_cons_self | exact (List.mem_cons_of_mem _ List.mem_cons_self) | exact (List.mem_cons_of_mem _ (List.mem_cons_of_mem _ List.mem_cons_self)) | exact (List.mem_cons_of_mem _ (List.mem_cons_of_mem _ (List.mem_cons_of_mem _ List.mem_cons_self)))) Try.underlying24 rfl (by kernel_rfl) ?_)
    | (refine mem_store_row 0 E 24 rfl _ _ rfl rfl rfl rfl (by kernel_rfl) rfl (all_wl _) ?_; clear E; intro w2 E; simp only [List.set_cons_zero, List.set_cons_succ] at E)
    | (refine mem_store_row 1 E 24 rfl _ _ rfl rfl rfl rfl (by kernel_rfl) rfl (all_wl _) ?_; clear E; intro w2 E; simp only [List.set_cons_zero, List.set_cons_succ] at E)
    | (refine mem_store_row 2 E 24 rfl _ _ rfl rfl rfl rfl (by kernel_rfl) rfl (all_wl _) ?_; clear E; intro w2 E; simp only [List.set_cons_zero, List.set_cons_succ] at E)
    | (refine mem_store_row 3 E 24 rfl _ _ rfl rfl rfl rfl (by kernel_rfl) rfl (all_wl _) ?_; clear E; intro w2 E; simp only [List.set_cons_zero, List.set_cons_succ] at E))
  go_ret
  exact ⟨rfl, E.out.below⟩
set_option maxRecDepth 100000 in
set_option maxHeartbeats 8000000 in
theorem walk_on (b m t l c u : Nat) (s k j x : Int) (hj : wrap64 (4 + wrap64 ((IntKind.u64.wrap k).tmod 1073741821)) = j) (hx : decide (x ≤ 0) = true)
    (N : Hid (Gives 52 #[.int .u32 (b : Int), .int .u32 (m : Int), .int .i64 s, .int .i64 j] (.tuple #[.int .u32 (c : Int), .int .i64 0])))
    (X : Hid (Gives 44 #[.int .u32 (b : Int)] (.tuple #[wide t, .int .i64 0])))
    (Y : Hid (Gives 44 #[.int .u32 (m : Int)] (.tuple #[wide l, .int .i64 0])))
    (Z : Hid (Gives 43 #[.int .u32 (c : Int)] (.tuple #[wide u, .int .i64 0])))
    (CM : Hid (Gives 30 #[wide u, wide l] (.int .i64 x))) :
    Gives 19 #[.int .u32 (b : Int), .int .u32 (m : Int), .int .i64 s, .int .i64 k] (.bool true) := by
  intro w
  have E := Lib.hid (Mem.nil w)
  go_enter Try.func19, Try.ntmps19
  go_wp2_with (first
    | (go_at_call 52; refine (N.out _).mono ?_; rintro e w1 ⟨rfl, hb⟩; replace E := Lib.hid (E.out.call hb); clear hb)
    | (go_at_call 44; first | ((with_reducible refine (X.out _).mono ?_); rintro e w1 ⟨rfl, hb⟩; replace E := Lib.hid (E.out.call hb); clear hb) | ((with_reducible refine (Y.out _).mono ?_); rintro e w1 ⟨rfl, hb⟩; replace E := Lib.hid (E.out.call hb); clear hb))
    | (go_at_call 43; refine (Z.out _).mono ?_; rintro e w1 ⟨rfl, hb⟩; replace E := Lib.hid (E.out.call hb); clear hb)
    | (go_at_call 30; refine (CM.out _).mono ?_; rintro e w1 ⟨rfl, hb⟩; replace E := Lib.hid (E.out.call hb); clear hb)
    | (with_reducible refine mem_alloc E 24 rfl rfl info24 ?_; clear E; intro b w2 E; simp only [Value.cells] at E)
    | (with_reducible refine mem_load_row E 24 (by kernel_rfl) _ rfl rfl (by first | exact List.mem_cons_self | exact (List.mem_cons_of_mem _ List.mem_cons_self) | exact (List.mem_cons_of_mem _ (List.mem_cons_of_mem _ List.mem_cons_self)) | exact (List.mem_cons_of_mem _ (List.mem_cons_of_mem _ (List.mem_cons_of_mem _ List.mem_cons_self)))) Try.underlying24 rfl (by kernel_rfl) ?_)
    | (refine mem_store_row 0 E 24 rfl _ _ rfl rfl rfl rfl (by kernel_rfl) rfl (all_wl _) ?_; clear E; intro w2 E; simp only [List.set_cons_zero, List.set_cons_succ] at E)
    | (refine mem_store_row 1 E 24 rfl _ _ rfl rfl rfl rfl (by kernel_rfl) rfl (all_wl _) ?_; clear E; intro w2 E; simp only [List.set_cons_zero, List.set_cons_succ] at E)
    | (refine mem_store_row 2 E 24 rfl _ _ rfl rfl rfl rfl (by kernel_rfl) rfl (all_wl _) ?_; clear E; intro w2 E; simp only [List.set_cons_zero, List.set_cons_succ] at E)
    | (refine mem_store_row 3 E 24 rfl _ _ rfl rfl rfl rfl (by kernel_rfl) rfl (all_wl _) ?_; clear E; intro w2 E; simp only [List.set_cons_zero, List.set_cons_succ] at E))
  go_ret
  exact ⟨rfl, E.out.below⟩

theorem want_in (k : Int) : ∃ j : Int, wrap64 (4 + wrap64 ((IntKind.u64.wrap k).tmod 1073741821)) = j ∧ 4 ≤ j ∧ j ≤ 1073741824 := by
  rw [IntKind.wrap_u64, Int.tmod_eq_emod_of_nonneg (Int.emod_nonneg _ (by decide))]
  have h1 := Int.emod_nonneg (k % 18446744073709551616) (by decide : (1073741821 : Int) ≠ 0)
  have h2 := Int.emod_lt_of_pos (k % 18446744073709551616) (by decide : (0 : Int) < 1073741821)
  generalize k % 18446744073709551616 % 1073741821 = r at *
  have e1 : wrap64 r = r := by unfold wrap64; omega
  have e2 : wrap64 (4 + r) = 4 + r := by unfold wrap64; omega
  exact ⟨4 + r, by rw [e1, e2], by omega, by omega⟩
theorem held2_pos {q l : Nat} (h : 0 < l) : held2 q l ≠ 0 := by
  unfold held2
  split
  · split <;> omega
  · split <;> omega
theorem held2_le {q l : Nat} (h : 0 < l) : held2 q l ≤ l := by
  unfold held2
  split
  · split <;> omega
  · split <;> omega

theorem walk (a0 : Int) (w0 : (Lit.int .u32 a0).wf = true) (a1 : Int) (w1 : (Lit.int .u32 a1).wf = true) (a2 : Int) (w2 : (Lit.int .i64 a2).wf = true) (a3 : Int) (w3 : (Lit.int .i64 a3).wf = true) (w : World) :
    Calls Try.prog 19 #[.int .u32 a0, .int .u32 a1, .int .i64 a2, .int .i64 a3] w fun e w' => e = .returned (.bool true) ∧ Below w.heap.size w w' := by
  obtain ⟨b, rfl⟩ : ∃ n : Nat, a0 = (n : Int) := ⟨a0.toNat, by have := bounds_u32 w0; omega⟩
  have hb : b < 4294967296 := by have := bounds_u32 w0; omega
  obtain ⟨m, rfl⟩ : ∃ n : Nat, a1 = (n : Int) := ⟨a1.toNat, by have := bounds_u32 w1; omega⟩
  have hm : m < 4294967296 := by have := bounds_u32 w1; omega
  have hs := bounds_i64 w2
  obtain ⟨j, hj, j1, j2⟩ := want_in a3
  have n := next_any b m a2 j hb hm (by omega) (by omega)
  by_cases hB : ¬ isT b
  · rw [show nextV b m a2 j = 0 from by unfold nextV; rw [if_neg (fun h => hB h.1)], show nextE b m j = 40 from by unfold nextE; rw [if_pos (.inl hB)]] at n
    exact walk_off1 b m 0 (tE m) a2 a3 j (eE m) hj (Lib.hid n) (Lib.hid (ref_expand_off b hb hB)) (Lib.hid (ref_expand_any m hm)) (Lib.hid awake4_any) w
  by_cases hM : ¬ isT m
  · rw [show nextV b m a2 j = 0 from by unfold nextV; rw [if_neg (fun h => hM h.2.1)], show nextE b m j = 40 from by unfold nextE; rw [if_pos (.inr hM)]] at n
    exact walk_off2 b m (tOf b) 0 a2 a3 j hj (Lib.hid n) (Lib.hid (ref_expand_on b hb (Decidable.not_not.1 hB))) (Lib.hid (ref_expand_off m hm hM)) (Lib.hid awake4_any) w
  replace hB := Decidable.not_not.1 hB
  replace hM := Decidable.not_not.1 hM
  have tl := tOf_lt hM
  have tp := tOf_pos hM
  have eE' : nextE b m j = 0 := by unfold nextE; rw [if_neg (fun h => h.elim (fun h => h hB) (fun h => h hM)), if_pos ⟨j1, j2⟩]
  have eV' : nextV b m a2 j = cpt (nextT (tOf b) (tOf m) a2 j.toNat) := by unfold nextV; rw [if_pos ⟨hB, hM, j1, j2⟩]
  rw [eE', eV'] at n
  have g1 : nextT (tOf b) (tOf m) a2 j.toNat ≠ 0 := held2_pos tp
  have g2 : nextT (tOf b) (tOf m) a2 j.toNat ≤ tOf m := held2_le tp
  generalize nextT (tOf b) (tOf m) a2 j.toNat = q at *
  have g3 : q < P256 := Nat.lt_of_le_of_lt g2 tl
  obtain ⟨i1, i2, i3⟩ := cpt_isT g1 g3
  have hx : decide (cmp3 (tOf (cpt q)) (tOf m) ≤ 0) = true := by
    unfold cmp3
    split
    · rfl
    · rw [if_pos (by omega)]; rfl
  exact walk_on b m (tOf b) (tOf m) (cpt q) (tOf (cpt q)) a2 a3 j _ hj hx (Lib.hid n) (Lib.hid (ref_expand_on b hb hB)) (Lib.hid (ref_expand_on m hm hM)) (Lib.hid (expand_on (cpt q) (cpt_lt q g3) i1)) (Lib.hid (ref_compare_any _ _ (tOf_lt i1) tl)) w


set_option maxRecDepth 100000 in
theorem lifted (os : Os) (started : os.Started) (H : Type) (enc : TypeId × Value → H) :
    ReturnsInHanded {} Try.checked os 19 .any (Rows.targetBoundsSpec.pre6 enc Try.prog Try.f19 Rows.targetBoundsRow.domain false) (Rows.targetBoundsSpec.post enc Try.prog Try.f19 false true false false) := by
  refine returnsInHanded_of_change (C := Try.checked) own started (by kernel_rfl) Try.func19
    (ChangeSpec.witness6 (enc := enc) (C := Try.checked) false ⟨#[], #[.int .u32 0, .int .u32 0, .int .i64 0, .int .i64 0], []⟩ 8 (by kernel_rfl) (by kernel_rfl) (by kernel_rfl) (by kernel_rfl)) ?_
  intro W base args ds gs before hval0 hW hcnd _
  have hval : ∀ (j : Nat) t v, Try.f19.params[j]? = some t → args[j]? = some v → Value.okWide Try.prog W .any base t v := hval0
  have hW' := hW
  obtain ⟨p, q, hA0, hV, rfl, hfz, hnd⟩ := hW
  have hA : DataW.TrodAll enc Try.prog W 0 (fun _ => true) true Try.f19.params.toList args.toList ds p := hA0
  rw [Try.params19] at hA hval
  obtain ⟨v0, vs0, d0, ds0, p0, q0, hargs, rfl, rfl, h0, r0⟩ := trodAll_cons hA
  obtain ⟨v1, vs1, d1, ds1, p1, q1, rfl, rfl, rfl, h1, r1⟩ := trodAll_cons r0
  obtain ⟨v2, vs2, d2, ds2, p2, q2, rfl, rfl, rfl, h2, r2⟩ := trodAll_cons r1
  obtain ⟨v3, vs3, d3, ds3, p3, q3, rfl, rfl, rfl, h3, r3⟩ := trodAll_cons r2
  obtain ⟨rfl, rfl, rfl⟩ := trodAll_nil r3
  obtain rfl : args = #[v0, v1, v2, v3] := by cases args; simp_all
  obtain ⟨rfl, rfl⟩ := trodVars_none hV
  obtain ⟨a0, rfl, rfl, rfl, w0⟩ := open_int Try.underlying45 (hval 0 45 v0 rfl rfl) h0
  obtain ⟨a1, rfl, rfl, rfl, w1⟩ := open_int Try.underlying45 (hval 1 45 v1 rfl rfl) h1
  obtain ⟨a2, rfl, rfl, rfl, w2⟩ := open_int Try.underlying3 (hval 2 3 v2 rfl rfl) h2
  obtain ⟨a3, rfl, rfl, rfl, w3⟩ := open_int Try.underlying3 (hval 3 3 v3 rfl rfl) h3
  clear hA0 hval0
  simp only [List.append_nil] at hW'
  refine (walk a0 w0 a1 w1 a2 w2 a3 w3 W).mono fun e W' ⟨he, bel⟩ => ?_
  subst he
  exact ⟨_, rfl, _, _, _, [], _, [], hW', trodAll_mk1 (shut_bool Try.underlying4 _), (trodAll_cons_mk (shut_int Try.underlying45 w0) (trodAll_cons_mk (shut_int Try.underlying45 w1) (trodAll_cons_mk (shut_int Try.underlying3 w2) (trodAll_cons_mk (shut_int Try.underlying3 w3) trodAll_mk0)))), rfl, bel.frame _, fun h => by cases h⟩

theorem over : Rows.targetBoundsRow.holds Try.pinned (OpenSpec.ofChange Rows.targetBoundsSpec) :=
  OpenClaim.holds_of_wide 19 Try.f19 rfl rfl rfl rfl rfl rfl rfl ⟨rfl, rfl, rfl, rfl, rfl⟩ rfl rfl rfl rfl rfl (by kernel_rfl) Try.func19 (by kernel_rfl)
    (of_decide_eq_true (by kernel_rfl)) (by unfold Func.isWrapper; first | (rw [if_pos (by decide +kernel)]; kernel_rfl) | (rw [if_neg (by decide +kernel)]; exact ⟨rfl, rfl⟩))
    (fun os started H enc _ => lifted os started H enc)

/-- The statement. -/
theorem proved : Rows.TargetBoundsSaid :=
  over
#print axioms proved
end Go.Proofs.Ytboffheklkhnkaa.targetBounds
