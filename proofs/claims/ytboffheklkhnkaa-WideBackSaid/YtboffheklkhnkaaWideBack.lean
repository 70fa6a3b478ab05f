/- For every two numbers: what was added is taken away again, and it goes under just where it went over; the call returns true; no condition. -/
import Derived.Test.YtboffheklkhnkaaOpen
import Derived.Test.YtboffheklkhnkaaSub
import Derived.Test.YtboffheklkhnkaaAwake
import Derived.Below
namespace Go.Proofs.Ytboffheklkhnkaa.wideBack
open Go.RowKit Go.Lib Go.ChangeShapes Go.WideShapes Go.ChangeAt
set_option linter.unusedVariables false

theorem own : ownKnob Try.prog.godebug = none := by kernel_rfl

set_option maxRecDepth 100000 in
set_option maxHeartbeats 2000000 in
theorem walk_any (a b : Nat) (ha : a < P256) (hb : b < P256) (w : World) :
    Calls Try.prog 9 #[wide a, wide b] w fun e w' => e = .returned (.bool true) ∧ Below w.heap.size w w' := by
  have hs : (a + b) % P256 < P256 := Nat.mod_lt _ (by decide)
  have A : Hid (∀ W, Calls Try.prog 20 #[wide a, wide b] W fun e w' => e = .returned (.tuple #[wide (a + b), .bool (decide (P256 ≤ a + b))]) ∧ Below W.heap.size W w') := Lib.hid fun W => add_any a b ha hb W
  have B : Hid (∀ W, Calls Try.prog 22 #[wide (a + b), wide b] W fun e w' => e = .returned (.tuple #[wide a, .bool (decide (P256 ≤ a + b))]) ∧ Below W.heap.size W w') := Lib.hid fun W => by
    have h := sub_any ((a + b) % P256) b hs hb W
    rw [wide_mod] at h
    have e1 : wide ((a + b) % P256 + P256 - b) = wide a := by
      rw [← wide_mod ((a + b) % P256 + P256 - b), ← wide_mod a, back_num a b hb]
    have e2 : decide ((a + b) % P256 < b) = decide (P256 ≤ a + b) := by
      rw [decide_eq_decide]
      exact back_over a b ha hb
    rw [e1, e2] at h
    exact h
  have sm := same_wide
  have e0 := Env.next (w0 := w) (Env.box1 w (wl a)) (b := w.heap.size + 1) (by simp) (wl b)
  have E := Lib.hid e0
  clear e0 hs ha hb
  go_enter Try.func9, Try.ntmps9
  go_wp2_with (first
    | (go_at_call 20; refine (A.out _).mono ?_; rintro e w1 ⟨rfl, hb⟩; replace E := Lib.hid (E.out.call hb); clear hb)
    | (go_at_call 22; refine (B.out _).mono ?_; rintro e w1 ⟨rfl, hb⟩; replace E := Lib.hid (E.out.call hb); clear hb)
    | (go_at_call 24; refine (awake_any _).mono ?_; rintro e w1 ⟨rfl, hb⟩; replace E := Lib.hid (E.out.call hb); clear hb)
    | (with_reducible refine env_store_new E _ _ rfl rfl rfl rfl ?_; clear E; intro w2 E)
    | (with_reducible refine env_load E _ (by kernel_rfl) rfl rfl (by first | exact List.mem_cons_self | exact List.mem_cons_of_mem _ List.mem_cons_self | exact List.mem_cons_of_mem _ (List.mem_cons_of_mem _ List.mem_cons_self) | exact List.mem_cons_of_mem _ (List.mem_cons_of_mem _ (List.mem_cons_of_mem _ List.mem_cons_self)) | exact List.mem_cons_of_mem _ (List.mem_cons_of_mem _ (List.mem_cons_of_mem _ (List.mem_cons_of_mem _ List.mem_cons_self))) | exact List.mem_cons_of_mem _ (List.mem_cons_of_mem _ (List.mem_cons_of_mem _ (List.mem_cons_of_mem _ (List.mem_cons_of_mem _ List.mem_cons_self))))) ?_))
  go_ret
  exact ⟨rfl, E.out.below⟩
theorem walk (a0 : Nat → Int) (w0 : ∀ i, i < 4 → (Lit.int .u64 (a0 i)).wf = true) (a1 : Nat → Int) (w1 : ∀ i, i < 4 → (Lit.int .u64 (a1 i)).wf = true) (w : World) :
    Calls Try.prog 9 #[.agg (arr 4 fun i => .int .u64 (a0 i)), .agg (arr 4 fun i => .int .u64 (a1 i))] w fun e w' => e = .returned (.bool true) ∧ Below w.heap.size w w' := by
  obtain ⟨a, ha, e0⟩ := words_wide a0 w0
  obtain ⟨b, hb, e1⟩ := words_wide a1 w1
  rw [e0, e1]
  exact walk_any a b ha hb w


set_option maxRecDepth 100000 in
theorem lifted (os : Os) (started : os.Started) (H : Type) (enc : TypeId × Value → H) :
    ReturnsInHanded {} Try.checked os 9 .any (Rows.wideBackSpec.pre6 enc Try.prog Try.f9 Rows.wideBackRow.domain false) (Rows.wideBackSpec.post enc Try.prog Try.f9 false true false false) := by
  refine returnsInHanded_of_change (C := Try.checked) own started (by kernel_rfl) Try.func9
    (ChangeSpec.witness6 (enc := enc) (C := Try.checked) false ⟨#[], #[.agg #[.int .u64 0, .int .u64 0, .int .u64 0, .int .u64 0], .agg #[.int .u64 0, .int .u64 0, .int .u64 0, .int .u64 0]], []⟩ 8 (by kernel_rfl) (by kernel_rfl) (by kernel_rfl) (by kernel_rfl)) ?_
  intro W base args ds gs before hval0 hW hcnd _
  have hval : ∀ (j : Nat) t v, Try.f9.params[j]? = some t → args[j]? = some v → Value.okWide Try.prog W .any base t v := hval0
  have hW' := hW
  obtain ⟨p, q, hA0, hV, rfl, hfz, hnd⟩ := hW
  have hA : DataW.TrodAll enc Try.prog W 0 (fun _ => true) true Try.f9.params.toList args.toList ds p := hA0
  rw [Try.params9] at hA hval
  obtain ⟨v0, vs0, d0, ds0, p0, q0, hargs, rfl, rfl, h0, r0⟩ := trodAll_cons hA
  obtain ⟨v1, vs1, d1, ds1, p1, q1, rfl, rfl, rfl, h1, r1⟩ := trodAll_cons r0
  obtain ⟨rfl, rfl, rfl⟩ := trodAll_nil r1
  obtain rfl : args = #[v0, v1] := by cases args; simp_all
  obtain ⟨rfl, rfl⟩ := trodVars_none hV
  obtain ⟨a0, rfl, rfl, rfl, w0⟩ := open_ints_arr Try.underlying24 Try.underlying22 (by kernel_rfl) (by kernel_rfl) (hval 0 24 v0 rfl rfl) h0
  obtain ⟨a1, rfl, rfl, rfl, w1⟩ := open_ints_arr Try.underlying24 Try.underlying22 (by kernel_rfl) (by kernel_rfl) (hval 1 24 v1 rfl rfl) h1
  clear hA0 hval0
  simp only [List.append_nil] at hW'
  refine (walk a0 w0 a1 w1 W).mono fun e W' ⟨he, bel⟩ => ?_
  subst he
  exact ⟨_, rfl, _, _, _, [], _, [], hW', trodAll_mk1 (shut_bool Try.underlying4 _), (trodAll_cons_mk (shut_ints_arr Try.underlying24 Try.underlying22 (by kernel_rfl) (by kernel_rfl) w0) (trodAll_cons_mk (shut_ints_arr Try.underlying24 Try.underlying22 (by kernel_rfl) (by kernel_rfl) w1) trodAll_mk0)), rfl, bel.frame _, fun h => by cases h⟩

theorem over : Rows.wideBackRow.holds Try.pinned (OpenSpec.ofChange Rows.wideBackSpec) :=
  OpenClaim.holds_of_wide 9 Try.f9 rfl rfl rfl rfl rfl rfl rfl ⟨rfl, rfl, rfl, rfl, rfl⟩ rfl rfl rfl rfl rfl (by kernel_rfl) Try.func9 (by kernel_rfl)
    (of_decide_eq_true (by kernel_rfl)) (by unfold Func.isWrapper; first | (rw [if_pos (by decide +kernel)]; kernel_rfl) | (rw [if_neg (by decide +kernel)]; exact ⟨rfl, rfl⟩))
    (fun os started H enc _ => lifted os started H enc)

/-- The statement. -/
theorem proved : Rows.WideBackSaid :=
  over
#print axioms proved
end Go.Proofs.Ytboffheklkhnkaa.wideBack
