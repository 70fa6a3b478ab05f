/- The calls of a tape, one by one. -/
import Derived.Test.YtlbbnaihhagfdaaTq
set_option linter.unusedSimpArgs false
set_option linter.unusedVariables false
set_option maxRecDepth 100000
namespace Go.Proofs.Ytlbbnaihhagfdaa
open Go.RowKit Go.Lib Go.Sort

/-- Does a change still go; what is left of the fuse. -/
def bok (f : Bool) (k : Int) : Bool := !f || decide (k ≠ 0)
def bk (f : Bool) (k : Int) : Int := if f = true ∧ k ≠ 0 then k - 1 else k
set_option maxHeartbeats 4000000
section
variable {D w : World} {bt bs : Nat} {v : Value} {s r k : Int} {f : Bool} {p : Option Addr} {g c : Nat} {xs : List Nat}
theorem made_any (T : Hid (Tq D bt bs v s r f k p g c xs w)) : Calls Try.prog 27 #[.pointer (some ⟨bt, 0, none⟩)] w fun e w' => e = .returned (.bool true) ∧ w = w' := by
  have c0 := cell_of_here T.out.cT 0 (v := .pointer (some ⟨bs, 0, none⟩)) rfl
  go_enter Try.func27, Try.ntmps27
  go_wp2
  go_ret
  exact ⟨rfl, rfl⟩
theorem isroom_any (n : Int) (w : World) : Calls Try.prog 26 #[.int .i64 n] w fun e w' => e = .returned (.bool (decide (0 ≤ n ∧ n ≤ 16777216))) ∧ w = w' := by
  by_cases h : 0 ≤ n ∧ n ≤ 16777216
  · rw [decide_eq_true h]
    obtain ⟨h1, h2⟩ := h
    go_enter Try.func26, Try.ntmps26
    go_wp2
    go_ret
    exact ⟨rfl, rfl⟩
  · rw [decide_eq_false h]
    by_cases h1 : 0 ≤ n
    · have h2 : ¬ (n ≤ 16777216) := fun h2 => h ⟨h1, h2⟩
      clear h
      go_enter Try.func26, Try.ntmps26
      go_wp2
      go_ret
      exact ⟨rfl, rfl⟩
    · clear h
      go_enter Try.func26, Try.ntmps26
      go_wp2
      go_ret
      exact ⟨rfl, rfl⟩
theorem burn_any (o : Option Nat) (T : Hid (Tq D bt bs v s r f k p g c xs w)) (hk : 0 ≤ k ∧ k ≤ 9223372036854775807) : Calls Try.prog 33 #[.pointer (some ⟨bs, 0, none⟩)] w fun e w' => e = .returned (.bool (bok f k)) ∧ Tq D bt bs v s r f (bk f k) p g c xs w' ∧ Fr bs o w w' := by
  have d3 := cell_of_here T.out.cS 3 (v := .bool f) rfl
  have d4 := cell_of_here T.out.cS 4 (v := .int .i64 k) rfl
  cases f with
  | false =>
    go_enter Try.func33, Try.ntmps33
    go_wp2
    go_ret
    exact ⟨rfl, T.out, Fr.refl _ _ _⟩
  | true =>
    by_cases h0 : k = 0
    · subst h0
      go_enter Try.func33, Try.ntmps33
      go_wp2
      go_ret
      exact ⟨rfl, T.out, Fr.refl _ _ _⟩
    · have e1 : bok true k = true := by simp [bok, h0]
      have e2 : bk true k = k - 1 := by simp [bk, h0]
      rw [e1, e2]
      clear e1 e2
      have W1 : IntKind.i64.wrap (k - 1) = k - 1 := IntWalk.i64_in _ (by omega)
      go_enter Try.func33, Try.ntmps33
      go_wp2_with (first
        | ((with_reducible refine wpList_atn rfl ?_); refine wpList_setc T.out.cS rfl 3 (.tmp 19) (.tmp 17) rfl rfl rfl (by kernel_rfl) rfl rfl rfl ?_))
      go_ret
      exact ⟨rfl, T.out.set4, (Fr.refl _ _ _).set _ _⟩
end
end Go.Proofs.Ytlbbnaihhagfdaa
