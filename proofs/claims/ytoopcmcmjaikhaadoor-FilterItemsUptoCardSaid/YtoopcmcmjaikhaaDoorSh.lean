/- A count read, whole: the program's. -/
import Derived.Test.YtoopcmcmjaikhaaDoorSg
set_option linter.unusedSimpArgs false
namespace Go.Proofs.YtoopcmcmjaikhaaDoor
open Go.RowKit Go.Lib

def DecGood (w : World) (n : Nat) (x : Nat → Nat) (e : Ending) (w' : World) : Prop :=
  ∃ p g c, e = .returned (.tuple #[.int .u64 ((val x : Nat) : Int), .slice p (n - wOf (x 0)) c, .int .i64 0]) ∧ Row w' p g 0 (n - wOf (x 0)) c (fun i => x (wOf (x 0) + i)) ∧ Below w.heap.size w w'
def DecBad (w : World) (k : Nat) (e : Ending) (w' : World) : Prop := e = .returned (noCount k) ∧ Below w.heap.size w w'
def SplitGood (w : World) (g o n : Nat) (x : Nat → Nat) (e : Ending) (w' : World) : Prop :=
  ∃ p' : Option Addr, e = .returned (.tuple #[.int .u64 ((val x : Nat) : Int), .slice p' (n - wOf (x 0)) (n - wOf (x 0)), .int .i64 0]) ∧ Row w' p' g (o + wOf (x 0)) (n - wOf (x 0)) (n - wOf (x 0)) (fun i => x (wOf (x 0) + i)) ∧ Below w.heap.size w w'
theorem dec_cases (n : Nat) (x : Nat → Nat) : (n = 0 ∧ dec n x = 50) ∨ (0 < n ∧ n < wOf (x 0) ∧ dec n x = 50) ∨ (wOf (x 0) ≤ n ∧ wid (val x) ≠ wOf (x 0) ∧ dec n x = 51) ∨ (wOf (x 0) ≤ n ∧ wid (val x) = wOf (x 0) ∧ dec n x = 0) := by
  have hw := wOf_bd (x 0)
  unfold dec
  by_cases h0 : n = 0
  · exact .inl ⟨h0, by rw [if_pos (.inr h0)]⟩
  · by_cases h1 : n < wOf (x 0)
    · exact .inr (.inl ⟨by omega, h1, by rw [if_pos (.inl h1)]⟩)
    · by_cases h2 : wid (val x) = wOf (x 0)
      · exact .inr (.inr (.inr ⟨by omega, h2, by rw [if_neg (by omega), if_pos h2]⟩))
      · exact .inr (.inr (.inl ⟨by omega, h2, by rw [if_neg (by omega), if_neg h2]⟩))
theorem split_bad {w : World} {p : Option Addr} {g o n c k : Nat} {x : Nat → Nat} (R : Hid (Row w p g o n c x)) (hd : Hid (dec n x = k)) (hk : Hid (k ≠ 0)) : Calls Tryd.prog 86 #[.slice p n c] w (DecBad w k) := by
  have hw := wOf_bd (x 0)
  have e := hd.out
  rcases dec_cases n x with ⟨h1, h2⟩ | ⟨h1, h2, h3⟩ | ⟨h1, h2, h3⟩ | ⟨h1, h2, h3⟩
  · obtain rfl : k = 50 := by omega
    subst h1
    exact split_none
  · obtain rfl : k = 50 := by omega
    exact split_short R h1 h2
  · obtain rfl : k = 51 := by omega
    obtain rfl := R.out.head (by omega)
    exact split_form (k := wOf (x 0)) (v := val x) R (Lib.hid rfl) (by omega) (by omega) h1 (Lib.hid rfl) (Lib.hid h2)
  · exact absurd (e.symm.trans h3) hk.out
theorem split_good {w : World} {p : Option Addr} {g o n c : Nat} {x : Nat → Nat} (R : Hid (Row w p g o n c x)) (hd : Hid (dec n x = 0)) : Calls Tryd.prog 86 #[.slice p n c] w (SplitGood w g o n x) := by
  have hw := wOf_bd (x 0)
  have e := hd.out
  rcases dec_cases n x with ⟨h1, h2⟩ | ⟨h1, h2, h3⟩ | ⟨h1, h2, h3⟩ | ⟨h1, h2, h3⟩
  · omega
  · omega
  · omega
  · obtain rfl := R.out.head (by omega)
    exact split_ok (k := wOf (x 0)) (v := val x) R (Lib.hid rfl) (by omega) (by omega) h1 (Lib.hid rfl) (Lib.hid h2)

set_option maxRecDepth 100000 in
set_option maxHeartbeats 2000000 in
theorem decode_bad {w : World} {p : Option Addr} {g o n c k : Nat} {x : Nat → Nat} (R : Hid (Row w p g o n c x)) (hd : Hid (dec n x = k)) (hk : k ≠ 0) : Calls Tryd.prog 54 #[.slice p n c] w (DecBad w k) := by
  have S := Lib.hid (split_bad R hd (Lib.hid hk))
  have t0 : ((k : Int) != 0) = true := by simp; omega
  clear hk
  go_enter Tryd.func54, Tryd.ntmps54
  go_wp2_with (go_at_call 86; refine S.out.mono ?_; rintro e w1 ⟨rfl, hb⟩; have B := Lib.hid hb; clear hb)
  exact bodyPost_ret (res3 (fn := Tryd.f54) rfl _ _) rfl ⟨rfl, B.out⟩
set_option maxRecDepth 100000 in
set_option maxHeartbeats 2000000 in
theorem decode_good {w : World} {p : Option Addr} {g o n c : Nat} {x : Nat → Nat} (R : Hid (Row w p g o n c x)) (hd : Hid (dec n x = 0)) (hn : Hid (n ≤ 140737488355328)) : Calls Tryd.prog 54 #[.slice p n c] w (DecGood w n x) := by
  have S := Lib.hid (split_good R hd)
  go_enter Tryd.func54, Tryd.ntmps54
  go_wp2_with (first
    | (go_at_call 86; refine S.out.mono ?_; rintro e w1 ⟨p1, rfl, R1, hb⟩; have B := Lib.hid hb; have RP := Lib.hid R1; clear hb R1)
    | (go_at_call 32; refine (clone_any RP (by have := hn.out; omega)).mono ?_; rintro e w2 ⟨p2, g2, c2, rfl, N1, hb⟩; have N := Lib.hid N1; replace B := Lib.hid (B.out.trans (hb.mono B.out.size)); clear hb N1))
  exact bodyPost_ret (res3 (fn := Tryd.f54) rfl _ _) rfl ⟨p2, g2, c2, rfl, N.out.row, B.out⟩
end Go.Proofs.YtoopcmcmjaikhaaDoor

