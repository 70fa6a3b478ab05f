/- The small calls of size: a count's first byte, its width, the number of a form, the shortest form. -/
import Derived.Test.YtaonnckhohieoaaDoorNm
import Derived.Deep.LoopGhost
set_option linter.unusedSimpArgs false
set_option maxRecDepth 100000
namespace Go.Proofs.YtaonnckhohieoaaDoor
open Go.RowKit Go.Lib

theorem int_of {k : IntKind} {a b : Int} (h : a = b) : Ending.returned (.int k a) = .returned (.int k b) := by rw [h]

set_option maxHeartbeats 1000000 in
theorem width_any (b : Nat) (hb : b < 256) (w : World) : Calls Tryd.prog 36 #[.int .u8 ((b : Nat) : Int)] w fun e w' => e = .returned (.int .i64 ((wOf b : Nat) : Int)) ∧ w = w' := by
  by_cases h1 : b = 253
  · subst h1
    go_enter Tryd.func36, Tryd.ntmps36
    go_wp2
    go_ret
    exact ⟨rfl, rfl⟩
  · by_cases h2 : b = 254
    · subst h2
      go_enter Tryd.func36, Tryd.ntmps36
      go_wp2
      go_ret
      exact ⟨rfl, rfl⟩
    · by_cases h3 : b = 255
      · subst h3
        go_enter Tryd.func36, Tryd.ntmps36
        go_wp2
        go_ret
        exact ⟨rfl, rfl⟩
      · have t1 : ((b : Int) == 253) = false := by simp; omega
        have t2 : ((b : Int) == 254) = false := by simp; omega
        have t3 : ((b : Int) == 255) = false := by simp; omega
        have e : wOf b = 1 := by unfold wOf; rw [if_neg h1, if_neg h2, if_neg h3]
        clear h1 h2 h3
        go_enter Tryd.func36, Tryd.ntmps36
        go_wp2
        go_ret
        exact ⟨by rw [e]; rfl, rfl⟩

set_option maxHeartbeats 1000000 in
theorem mark_any (n : Nat) (w : World) : Calls Tryd.prog 51 #[.int .u64 ((n : Nat) : Int)] w fun e w' => e = .returned (.int .u8 ((mk n : Nat) : Int)) ∧ w = w' := by
  by_cases h1 : n < 253
  · have e : mk n = n := by unfold mk; rw [if_pos h1]
    have h1' : (n : Int) < 253 := by omega
    go_enter Tryd.func51, Tryd.ntmps51
    go_wp2
    go_ret
    exact ⟨int_of (by rw [e]), rfl⟩
  · have t1 : decide ((n : Int) < 253) = false := by simp; omega
    by_cases h2 : n ≤ 65535
    · have e : mk n = 253 := by unfold mk; rw [if_neg h1, if_pos h2]
      have t2 : decide ((n : Int) ≤ 65535) = true := by simp; omega
      have E := Lib.hid e
      clear e h1 h2
      go_enter Tryd.func51, Tryd.ntmps51
      go_wp2
      go_ret
      exact ⟨int_of (by rw [E.out]; rfl), rfl⟩
    · have t2 : decide ((n : Int) ≤ 65535) = false := by simp; omega
      by_cases h3 : n ≤ 4294967295
      · have e : mk n = 254 := by unfold mk; rw [if_neg h1, if_neg h2, if_pos h3]
        have t3 : decide ((n : Int) ≤ 4294967295) = true := by simp; omega
        have E := Lib.hid e
        clear e h1 h2 h3
        go_enter Tryd.func51, Tryd.ntmps51
        go_wp2
        go_ret
        exact ⟨int_of (by rw [E.out]; rfl), rfl⟩
      · have e : mk n = 255 := by unfold mk; rw [if_neg h1, if_neg h2, if_neg h3]
        have t3 : decide ((n : Int) ≤ 4294967295) = false := by simp; omega
        have E := Lib.hid e
        clear e h1 h2 h3
        go_enter Tryd.func51, Tryd.ntmps51
        go_wp2
        go_ret
        exact ⟨int_of (by rw [E.out]; rfl), rfl⟩
end Go.Proofs.YtaonnckhohieoaaDoor

