/- The contracts of math/bits.Mul64 and sip.Scale: each returns the high half of the product, for every two words; no condition. -/
import Derived.Test.YtbiobejfjhmccaaDoorRows
import Derived.WalkKit
import Derived.WalkSpells
import Derived.Lib.Mul64
import Derived.Lib.Hide
import Derived.Laws.Bits64b
namespace Go.Proofs.YtbiobejfjhmccaaDoor
open Go.RowKit Go.Lib

namespace M64
theorem maskN (a : Nat) (ha : a < 18446744073709551616) : bits .and .u64 (a : Int) 4294967295 = ((a % 4294967296 : Nat) : Int) := by
  have h := bits_and_u64_nat a 4294967295 ha (by omega)
  have e : a &&& 4294967295 = a % 4294967296 := Nat.and_two_pow_sub_one_eq_mod a 32
  rw [e] at h
  exact h
theorem divN (a : Nat) : (a : Int) / 4294967296 = ((a / 4294967296 : Nat) : Int) := by omega
theorem mulN (a b : Nat) : (a : Int) * (b : Int) = ((a * b : Nat) : Int) := (Int.natCast_mul a b).symm
theorem addN (a b : Nat) : (a : Int) + (b : Int) = ((a + b : Nat) : Int) := (Int.natCast_add a b).symm
theorem wrapN (a : Nat) (ha : a < 18446744073709551616) : IntKind.u64.wrap (a : Int) = (a : Int) := by rw [IntKind.wrap_u64]; omega
theorem wrapM (a : Nat) : IntKind.u64.wrap (a : Int) = ((a % 18446744073709551616 : Nat) : Int) := by rw [IntKind.wrap_u64]; omega
end M64

set_option maxHeartbeats 1000000 in
theorem mul64_any (x y : Nat) (hx : x < 18446744073709551616) (hy : y < 18446744073709551616) (w : World) :
    Calls Tryd.prog 31 #[.int .u64 x, .int .u64 y] w fun e w' => e = .returned (.tuple #[.int .u64 ((x * y / 18446744073709551616 : Nat) : Int), .int .u64 ((x * y % 18446744073709551616 : Nat) : Int)]) ∧ w = w' := by
  obtain ⟨bd, bt, bw, hhi⟩ := Lib.mul64_hi x y hx hy
  have ba := Lib.half_mul_le (a := x / 4294967296) (b := y / 4294967296) (by omega) (by omega)
  have bb := Lib.half_mul_le (a := x / 4294967296) (b := y % 4294967296) (by omega) (by omega)
  have bc := Lib.half_mul_le (a := x % 4294967296) (b := y / 4294967296) (by omega) (by omega)
  have ba' : x / 4294967296 * (y / 4294967296) < 18446744073709551616 := by omega
  have bb' : x / 4294967296 * (y % 4294967296) < 18446744073709551616 := by omega
  have bc' : x % 4294967296 * (y / 4294967296) < 18446744073709551616 := by omega
  have bh1 : x / 4294967296 * (y / 4294967296) + (x / 4294967296 * (y % 4294967296) + x % 4294967296 * (y % 4294967296) / 4294967296) / 4294967296 < 18446744073709551616 := by omega
  have bh : x / 4294967296 * (y / 4294967296) + (x / 4294967296 * (y % 4294967296) + x % 4294967296 * (y % 4294967296) / 4294967296) / 4294967296 + ((x / 4294967296 * (y % 4294967296) + x % 4294967296 * (y % 4294967296) / 4294967296) % 4294967296 + x % 4294967296 * (y / 4294967296)) / 4294967296 < 18446744073709551616 := by omega
  go_enter Tryd.func31, Tryd.ntmps31
  go_wp2
  simp only [M64.maskN x hx, M64.maskN y hy, M64.divN, M64.mulN, M64.addN, M64.wrapN _ bd, M64.wrapN _ bb', M64.wrapN _ bt, M64.maskN _ bt, M64.wrapN _ bc', M64.wrapN _ bw, M64.wrapN _ ba', M64.wrapN _ bh1, M64.wrapN _ bh, M64.wrapM (x * y)]
  rw [hhi]
  go_ret2
  exact ⟨rfl, rfl⟩

/-- The high half of a product. -/
def hi (x y : Nat) : Nat := x * y / 18446744073709551616
theorem hi_comm (x y : Nat) : hi x y = hi y x := by unfold hi; rw [Nat.mul_comm]
theorem hi_mono (x y n : Nat) (h : x ≤ y) : hi x n ≤ hi y n := by unfold hi; exact Nat.div_le_div_right (Nat.mul_le_mul_right n h)
theorem hi_lt (x n : Nat) (hx : x < 18446744073709551616) (hn : 0 < n) : hi x n < n := by
  unfold hi
  refine Nat.div_lt_of_lt_mul ?_
  rw [Nat.mul_comm _ n, Nat.mul_comm _ n]
  exact Nat.mul_lt_mul_of_pos_left hx hn
theorem hi_zero (x : Nat) : hi x 0 = 0 := by unfold hi; simp
theorem hi_le (x n : Nat) (hn : n < 18446744073709551616) (hx : x < 18446744073709551616) : hi x n < 18446744073709551616 := by
  rcases Nat.eq_zero_or_pos n with h | h
  · subst h; rw [hi_zero]; omega
  · have := hi_lt x n hx h; omega
theorem hi_quarter : hi 4611686018427387904 8 = 2 := by decide
theorem hi_half : hi 9223372036854775808 10 = 5 := by decide

set_option maxHeartbeats 1000000 in
theorem scale_any (x y : Nat) (hx : x < 18446744073709551616) (hy : y < 18446744073709551616) (w : World) :
    Calls Tryd.prog 22 #[.int .u64 x, .int .u64 y] w fun e w' => e = .returned (.int .u64 ((hi x y : Nat) : Int)) ∧ w = w' := by
  go_enter Tryd.func22, Tryd.ntmps22
  go_wp2_with (go_at_call 31; refine (mul64_any x y hx hy _).mono ?_; rintro e w' ⟨rfl, rfl⟩)
  go_ret
  exact ⟨rfl, rfl⟩

theorem scale_none (x : Nat) (hx : x < 18446744073709551616) (w : World) :
    Calls Tryd.prog 22 #[.int .u64 x, .int .u64 0] w fun e w' => e = .returned (.int .u64 0) ∧ w = w' := by
  have h := scale_any x 0 hx (by decide) w
  rw [hi_zero] at h
  exact h
theorem scale_quarter (w : World) :
    Calls Tryd.prog 22 #[.int .u64 4611686018427387904, .int .u64 8] w fun e w' => e = .returned (.int .u64 2) ∧ w = w' := by
  have h := scale_any 4611686018427387904 8 (by decide) (by decide) w
  rw [hi_quarter] at h
  exact h
theorem scale_half (w : World) :
    Calls Tryd.prog 22 #[.int .u64 9223372036854775808, .int .u64 10] w fun e w' => e = .returned (.int .u64 5) ∧ w = w' := by
  have h := scale_any 9223372036854775808 10 (by decide) (by decide) w
  rw [hi_half] at h
  exact h
end Go.Proofs.YtbiobejfjhmccaaDoor
