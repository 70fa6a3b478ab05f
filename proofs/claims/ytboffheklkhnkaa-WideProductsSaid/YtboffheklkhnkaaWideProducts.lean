/- For every two numbers: the program's product is the document's, and so is whether it goes over; the call returns true; no condition. -/
import Derived.Test.YtboffheklkhnkaaOpen
import Derived.Test.YtboffheklkhnkaaMul
import Derived.Test.YtboffheklkhnkaaRefMul
import Derived.Test.YtboffheklkhnkaaAwake
import Derived.Below
namespace Go.Proofs.Ytboffheklkhnkaa.wideProducts
open Go.RowKit Go.Lib Go.ChangeShapes Go.WideShapes Go.ChangeAt
set_option linter.unusedVariables false

theorem own : ownKnob Try.prog.godebug = none := by kernel_rfl

set_option maxRecDepth 100000 in
set_option maxHeartbeats 4000000 in
theorem walk_any (a b : Nat) (ha : a < P256) (hb : b < P256) (w : World) :
    Calls Try.prog 4 #[wide a, wide b] w fun e w' => e = .returned (.bool true) ∧ Below w.heap.size w w' := by
  have A : Hid (∀ W, Calls Try.prog 25 #[wide a, wide b] W fun e w' => e = .returned (.tuple #[wide (a * b), .bool (decide (P256 ≤ a * b))]) ∧ Below W.heap.size W w') := Lib.hid fun W => mul_any a b ha hb W
  have B : Hid (∀ W, Calls Try.prog 26 #[wide a, wide b] W fun e w' => e = .returned (.tuple #[wide (a * b), .bool (decide (P256 ≤ a * b))]) ∧ Below W.heap.size W w') := Lib.hid fun W => ref_mul_any a b ha hb W
  have Y : Hid (∀ W, Calls Try.prog 24 #[] W fun e w' => e = .returned (.bool true) ∧ Below W.heap.size W w') := Lib.hid fun W => awake_any W
  have sm := same_wide
  have E := Lib.hid ((Env.box1 w (wl a)).next (b := w.heap.size + 1) (by simp) (wl b))
  clear ha hb
  obtain ⟨o1, ho1⟩ : ∃ o, o = decide (P256 ≤ a * b) := ⟨_, rfl⟩
  obtain ⟨s, hs⟩ : ∃ s, s = a * b := ⟨_, rfl⟩
  rw [← ho1, ← hs] at A B
  clear ho1 hs
  go_enter Try.func4, Try.ntmps4
  go_wp2_with (first
    | (go_at_call 25; refine (A.out _).mono ?_; rintro e w1 ⟨rfl, hb⟩; replace E := Lib.hid (E.out.call hb); clear hb)
    | (go_at_call 26; refine (B.out _).mono ?_; rintro e w1 ⟨rfl, hb⟩; replace E := Lib.hid (E.out.call hb); clear hb)
    | (go_at_call 24; refine (Y.out _).mono ?_; rintro e w1 ⟨rfl, hb⟩; replace E := Lib.hid (E.out.call hb); clear hb)
    | (with_reducible refine env_store_new E _ _ rfl rfl rfl rfl ?_; clear E; intro w2 E)
    | (with_reducible refine env_load E _ (by kernel_rfl) rfl rfl (by first | exact List.mem_cons_self | exact (List.mem_cons_of_mem _ List.mem_cons_self) | exact (List.mem_cons_of_mem _ (List.mem_cons_of_mem _ List.mem_cons_self)) | exact (List.mem_cons_of_mem _ (List.mem_cons_of_mem _ (List.mem_cons_of_mem _ List.mem_cons_self))) | exact (List.mem_cons_of_mem _ (List.mem_cons_of_mem _ (List.mem_cons_of_mem _ (List.mem_cons_of_mem _ List.mem_cons_self)))) | exact (List.mem_cons_of_mem _ (List.mem_cons_of_mem _ (List.mem_cons_of_mem _ (List.mem_cons_of_mem _ (List.mem_cons_of_mem _ List.mem_cons_self)))))) ?_))
  go_ret
  exact ⟨rfl, E.out.below⟩

theorem walk (a0 : Nat → Int) (w0 : ∀ i, i < 4 → (Lit.int .u64 (a0 i)).wf = true) (a1 : Nat → Int) (w1 : ∀ i, i < 4 → (Lit.int .u64 (a1 i)).wf = true) (w : World) :
    Calls Try.prog 4 #[.agg (arr 4 fun i => .int .u64 (a0 i)), .agg (arr 4 fun i => .int .u64 (a1 i))] w fun e w' => e = .returned (.bool true) ∧ Below w.heap.size w w' := by
  obtain ⟨a, ha, e0⟩ := words_wide a0 w0
  obtain ⟨b, hb, e1⟩ := words_wide a1 w1
  rw [e0, e1]
  exact walk_any a b ha hb w


set_option maxRecDepth 100000 in
theorem lifted (os : Os) (started : os.Started) (H : Type) (enc : TypeId × Value → H) :
    ReturnsInHanded {} Try.checked os 4 .any (Rows.wideProductsSpec.pre6 enc Try.prog Try.f4 Rows.wideProductsRow.domain false) (Rows.wideProductsSpec.post enc Try.prog Try.f4 false true false false) := by
  refine returnsInHanded_of_change (C := Try.checked) own started (by kernel_rfl) Try.func4
    (ChangeSpec.witness6 (enc := enc) (C := Try.checked) false ⟨#[], #[.agg #[.int .u64 0, .int .u64 0, .int .u64 0, .int .u64 0], .agg #[.int .u64 0, .int .u64 0, .int .u64 0, .int .u64 0]], []⟩ 8 (by kernel_rfl) (by kernel_rfl) (by kernel_rfl) (by kernel_rfl)) ?_
  intro W base args ds gs before hval0 hW hcnd _
  have hval : ∀ (j : Nat) t v, Try.f4.params[j]? = some t → args[j]? = some v → Value.okWide Try.prog W .any base t v := hval0
  have hW' := hW
  obtain ⟨p, q, hA0, hV, rfl, hfz, hnd⟩ := hW
  have hA : DataW.TrodAll enc Try.prog W 0 (fun _ => true) true Try.f4.params.toList args.toList ds p := hA0
  rw [Try.params4] at hA hval
  obtain ⟨v0, vs0, d0, ds0, p0, q0, hargs, rfl, rfl, h0, r0⟩ := trodAll_cons hA
  obtain ⟨v1, vs1, d1, ds1, p1, q1, rfl, rfl, rfl, h1, r1⟩ := trodAll_cons r0
  obtain ⟨rfl, rfl, rfl⟩ := trodAll_nil r1
  obtain rfl : args = #[v0, v1] := by cases args; simp_all
  obtain ⟨rfl, rfl⟩ := trodVars_none hV
  obtain ⟨a0, rfl, rfl, rfl, w0⟩ := open_ints_arr Try.underlying24 Try.underlying22 (by kernel_rfl) (by kernel_rfl) (hval 0 24 v0 rfl rfl) h0
  obtain ⟨a1, rfl, rfl, rfl, w1⟩ := open_ints_arr Try.underlying24 Try.underlying22 (by kernel_rfl) (by kernel_rfl) (hval 1 24 v1 rfl rfl) h1
  clear hA0 hval0
  simp only [List.append_nil] at hW'
  refine (walk a0 w0 a1 w1 W).mono fun e W' ⟨he, bel⟩ => ?_
  subst he
  exact ⟨_, rfl, _, _, _, [], _, [], hW', trodAll_mk1 (shut_bool Try.underlying4 _), (trodAll_cons_mk (shut_ints_arr Try.underlying24 Try.underlying22 (by kernel_rfl) (by kernel_rfl) w0) (trodAll_cons_mk (shut_ints_arr Try.underlying24 Try.underlying22 (by kernel_rfl) (by kernel_rfl) w1) trodAll_mk0)), rfl, bel.frame _, fun h => by cases h⟩

theorem over : Rows.wideProductsRow.holds Try.pinned (OpenSpec.ofChange Rows.wideProductsSpec) :=
  OpenClaim.holds_of_wide 4 Try.f4 rfl rfl rfl rfl rfl rfl rfl ⟨rfl, rfl, rfl, rfl, rfl⟩ rfl rfl rfl rfl rfl (by kernel_rfl) Try.func4 (by kernel_rfl)
    (of_decide_eq_true (by kernel_rfl)) (by unfold Func.isWrapper; first | (rw [if_pos (by decide +kernel)]; kernel_rfl) | (rw [if_neg (by decide +kernel)]; exact ⟨rfl, rfl⟩))
    (fun os started H enc _ => lifted os started H enc)

/-- The statement. -/
theorem proved : Rows.WideProductsSaid :=
  over
#print axioms proved
end Go.Proofs.Ytboffheklkhnkaa.wideProducts
