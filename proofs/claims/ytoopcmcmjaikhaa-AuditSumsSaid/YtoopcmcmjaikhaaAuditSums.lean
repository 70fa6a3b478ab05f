/- For every list of coins: the program and the document tell the same sum and whether it goes over; the sum of no coins doesn't; the call returns true. No condition. -/
import Derived.Test.YtoopcmcmjaikhaaSu
import Derived.ShutString
import Derived.ChangeOld
import Derived.Below
import Derived.SizedLaws
set_option linter.unusedVariables false
set_option linter.unusedSimpArgs false
namespace Go.Proofs.Ytoopcmcmjaikhaa.auditSums
open Go.ChangeShapes Go.WideShapes Go.ChangeAt Go.RowKit Go.Lib Go.Sort Go.Proofs.Ytoopcmcmjaikhaa

set_option maxRecDepth 100000

set_option maxHeartbeats 4000000 in
theorem walk (W : World) (v : Value) (l : List Int) (A0 : CoinsAt W v l) : Calls Try.prog 3 #[v] W fun e w' => e = .returned (.bool true) ∧ Below W.heap.size W w' := by
  have A := Lib.hid A0
  have E := Lib.hid (Mem.nil W)
  obtain ⟨s, hs⟩ : ∃ s, s = (sumR l).1 := ⟨_, rfl⟩
  obtain ⟨b, hb⟩ : ∃ b, b = (sumR l).2 := ⟨_, rfl⟩
  have C1 := Lib.hid (show ∀ w, Below W.heap.size W w → Calls Try.prog 4 #[v] w fun e w' => e = .returned (.tuple #[.int .i64 s, .bool b]) ∧ Below w.heap.size w w' from fun w hw => by
    rw [hs, hb]
    exact asum_any (Lib.hid (A.out.below hw)))
  have C2 := Lib.hid (show ∀ w, Below W.heap.size W w → Calls Try.prog 5 #[v] w fun e w' => e = .returned (.tuple #[.int .i64 s, .bool b]) ∧ Below w.heap.size w w' from fun w hw => by
    rw [hs, hb]
    exact rasum_any (Lib.hid (A.out.below hw)))
  have C3 := Lib.hid (show ∀ w, Calls Try.prog 4 #[.slice none 0 0] w fun e w' => e = .returned (.tuple #[.int .i64 0, .bool true]) ∧ Below w.heap.size w w' from fun w => asum_any (Lib.hid (CoinsAt.empty w)))
  obtain ⟨p, g, o, c, V, hv, -⟩ := A0
  subst hv
  clear A hs hb
  go_enter Try.func3, Try.ntmps3
  go_wp2_with (first
    | (go_at_call 4; with_reducible refine (C3.out _).mono ?_; rintro e w3 ⟨rfl, hb⟩; replace E := Lib.hid (E.out.call hb); clear hb)
    | (go_at_call 4; with_reducible refine (C1.out _ E.out.below).mono ?_; rintro e w1 ⟨rfl, hb⟩; replace E := Lib.hid (E.out.call hb); clear hb)
    | (go_at_call 5; with_reducible refine (C2.out _ E.out.below).mono ?_; rintro e w2 ⟨rfl, hb⟩; replace E := Lib.hid (E.out.call hb); clear hb)
    | ((with_reducible refine wpList_at 25 rfl ?_); refine wpList_kn rfl (.bool true) (by exact exec_eq2 rfl rfl rfl) ?_)
    | ((with_reducible refine wpList_at 29 rfl ?_); refine wpList_kn rfl (.bool true) (by exact exec_eqb rfl rfl rfl) ?_))
  go_ret
  exact ⟨rfl, E.out.below⟩

set_option maxRecDepth 100000 in
theorem lifted (os : Os) (started : os.Started) (H : Type) (enc : TypeId × Value → H) :
    ReturnsInHanded {} Try.checked os 3 .any (Rows.auditSumsSpec.pre6 enc Try.prog Try.f3 Rows.auditSumsRow.domain false) (Rows.auditSumsSpec.post enc Try.prog Try.f3 false true false false) := by
  refine returnsInHanded_of_change_sized (C := Try.checked) own started (by kernel_rfl) Try.func3
    (ChangeSpec.witness6 (enc := enc) (C := Try.checked) false ⟨#[], #[.slice none 0 0], []⟩ 8 (by kernel_rfl) (by kernel_rfl) (by kernel_rfl) (by kernel_rfl)) ?_
  intro W base args ds gs before hval0 hW hcnd hsz0 _
  have hval : ∀ (j : Nat) t v, Try.f3.params[j]? = some t → args[j]? = some v → Value.okWide Try.prog W .any base t v := hval0
  have hsz : (DataW.weightsEach Try.prog (Try.f3.params.toList ++ Rows.auditSumsSpec.plain.varTypes Try.prog) (ds ++ gs)).all (· ≤ reachBytes) = true := hsz0
  have hW' := hW
  obtain ⟨p, q, hA0, hV, rfl, hfz, hnd⟩ := hW
  have hA : DataW.TrodAll enc Try.prog W 0 (fun _ => true) true Try.f3.params.toList args.toList ds p := hA0
  rw [Try.params3] at hA hval hsz
  obtain ⟨v0, vs0, d0, ds0, p0, q0, hargs, rfl, rfl, h0, r0⟩ := trodAll_cons hA
  obtain ⟨rfl, rfl, rfl⟩ := trodAll_nil r0
  obtain rfl : args = #[v0] := by cases args; simp_all
  obtain ⟨rfl, rfl⟩ := trodVars_none hV
  have k0 := h0
  have lt0 : ∀ x ∈ p0, x.block < W.heap.size := by obtain ⟨m, hm⟩ := k0; exact DataW.trod_lt m _ _ _ hm
  obtain ⟨l0, w0⟩ := open_coins_arg (j := 0) (hval 0 22 v0 rfl rfl) h0 hsz rfl rfl
  clear hA0 hval0 hsz0
  simp only [List.append_nil] at hW'
  refine (walk W v0 l0 w0).mono fun e W' ⟨he, bel⟩ => ?_
  subst he
  exact ⟨_, rfl, _, _, _, [], _, [], hW', trodAll_mk1 (shut_bool Try.underlying4 _), (trodAll_cons_mk (Below.trod laidOut (by kernel_rfl) (of_decide_eq_true (by kernel_rfl)) k0 bel lt0) trodAll_mk0), rfl, bel.frame _, fun h => by cases h⟩

theorem over : Rows.auditSumsRow.holds Try.pinned (OpenSpec.ofChange Rows.auditSumsSpec) :=
  OpenClaim.holds_of_wide 3 Try.f3 rfl rfl rfl rfl rfl rfl rfl ⟨rfl, rfl, rfl, rfl, rfl⟩ rfl rfl rfl rfl rfl (by kernel_rfl) Try.func3 (by kernel_rfl)
    (of_decide_eq_true (by kernel_rfl)) (by unfold Func.isWrapper; first | (rw [if_pos (by decide +kernel)]; kernel_rfl) | (rw [if_neg (by decide +kernel)]; exact ⟨rfl, rfl⟩))
    (fun os started H enc _ => lifted os started H enc)

/-- The statement. -/
theorem proved : Rows.AuditSumsSaid :=
  over
#print axioms proved
end Go.Proofs.Ytoopcmcmjaikhaa.auditSums
