/- bits.Mul64, and the program's product of two words with two more added: they return both words of it; the world is as it was. -/
import Derived.Test.YtboffheklkhnkaaRep
import Derived.Lib.Mul64
import Derived.Laws.Bits64b
namespace Go.Proofs.Ytboffheklkhnkaa
open Go.RowKit Go.Lib

namespace M64
theorem maskN (a : Nat) (ha : a < 18446744073709551616) : bits .and .u64 (a : Int) 4294967295 = ((a % 4294967296 : Nat) : Int) := by
  have h := bits_and_u64_nat a 4294967295 ha (by omega)
  have e : a &&& 4294967295 = a % 4294967296 := Nat.and_two_pow_sub_one_eq_mod a 32
  rw [e] at h
  exact h
theorem divN (a : Nat) : (a : Int) / 4294967296 = ((a / 4294967296 : Nat) : Int) := by omega
theorem mulN (a b : Nat) : (a : Int) * (b : Int) = ((a * b : Nat) : Int) := (Int.natCast_mul a b).symm
theorem addN (a b : Nat) : (a : Int) + (b : Int) = ((a + b : Nat) : Int) := (Int.natCast_add a b).symm
theorem wrapN (a : Nat) (ha : a < 18446744073709551616) : IntKind.u64.wrap (a : Int) = (a : Int) := by rw [IntKind.wrap_u64]; omega
theorem wrapM (a : Nat) : IntKind.u64.wrap (a : Int) = ((a % 18446744073709551616 : Nat) : Int) := by rw [IntKind.wrap_u64]; omega
end M64

set_option maxHeartbeats 1000000 in
theorem mul64_any (x y : Nat) (hx : x < 18446744073709551616) (hy : y < 18446744073709551616) (w : World) :
    Calls Try.prog 65 #[.int .u64 x, .int .u64 y] w fun e w' => e = .returned (.tuple #[.int .u64 ((x * y / 18446744073709551616 : Nat) : Int), .int .u64 ((x * y % 18446744073709551616 : Nat) : Int)]) ∧ w = w' := by
  obtain ⟨bd, bt, bw, hhi⟩ := Lib.mul64_hi x y hx hy
  have ba := Lib.half_mul_le (a := x / 4294967296) (b := y / 4294967296) (by omega) (by omega)
  have bb := Lib.half_mul_le (a := x / 4294967296) (b := y % 4294967296) (by omega) (by omega)
  have bc := Lib.half_mul_le (a := x % 4294967296) (b := y / 4294967296) (by omega) (by omega)
  have ba' : x / 4294967296 * (y / 4294967296) < 18446744073709551616 := by omega
  have bb' : x / 4294967296 * (y % 4294967296) < 18446744073709551616 := by omega
  have bc' : x % 4294967296 * (y / 4294967296) < 18446744073709551616 := by omega
  have bh1 : x / 4294967296 * (y / 4294967296) + (x / 4294967296 * (y % 4294967296) + x % 4294967296 * (y % 4294967296) / 4294967296) / 4294967296 < 18446744073709551616 := by omega
  have bh : x / 4294967296 * (y / 4294967296) + (x / 4294967296 * (y % 4294967296) + x % 4294967296 * (y % 4294967296) / 4294967296) / 4294967296 + ((x / 4294967296 * (y % 4294967296) + x % 4294967296 * (y % 4294967296) / 4294967296) % 4294967296 + x % 4294967296 * (y / 4294967296)) / 4294967296 < 18446744073709551616 := by omega
  go_enter Try.func65, Try.ntmps65
  go_wp2
  simp only [M64.maskN x hx, M64.maskN y hy, M64.divN, M64.mulN, M64.addN, M64.wrapN _ bd, M64.wrapN _ bb', M64.wrapN _ bt, M64.maskN _ bt, M64.wrapN _ bc', M64.wrapN _ bw, M64.wrapN _ ba', M64.wrapN _ bh1, M64.wrapN _ bh, M64.wrapM (x * y)]
  rw [hhi]
  go_ret2
  exact ⟨rfl, rfl⟩


theorem split_word (p h l s k t j c d r : Nat) (hp : p + c + d < 340282366920938463463374607431768211456) (hh : h = p / 18446744073709551616) (hl : l = p % 18446744073709551616) (hs : s = (l + c + 0) % 18446744073709551616) (hk : k = (l + c + 0) / 18446744073709551616)
    (ht : t = (s + d + 0) % 18446744073709551616) (hj : j = (s + d + 0) / 18446744073709551616) (hr : r = p + c + d) :
    IntKind.u64.wrap (IntKind.u64.wrap ((h : Int) + (k : Int)) + (j : Int)) = ((r / 18446744073709551616 : Nat) : Int) ∧ t = r % 18446744073709551616 := by
  simp only [IntKind.wrap_u64]
  constructor <;> omega

set_option maxHeartbeats 1000000 in
theorem muladd_any (x y c d : Nat) (hx : x < 18446744073709551616) (hy : y < 18446744073709551616) (hc : c < 18446744073709551616) (hd : d < 18446744073709551616) (w : World) :
    Calls Try.prog 58 #[.int .u64 x, .int .u64 y, .int .u64 c, .int .u64 d] w fun e w' => e = .returned (.tuple #[.int .u64 (((x * y + c + d) % 18446744073709551616 : Nat) : Int), .int .u64 (((x * y + c + d) / 18446744073709551616 : Nat) : Int)]) ∧ w = w' := by
  have hm := muladd_le x y c d hx hy hc hd
  have m := mul64_any x y hx hy
  obtain ⟨h, hh⟩ : ∃ h, h = x * y / 18446744073709551616 := ⟨_, rfl⟩
  obtain ⟨l, hl⟩ : ∃ l, l = x * y % 18446744073709551616 := ⟨_, rfl⟩
  rw [← hh, ← hl] at m
  have c1 : ∀ w, (callFunc 54 #[.int .u64 (l : Int), .int .u64 (c : Int), .int .u64 0]).run Try.prog w = _ := call_add64 l c 0 (by omega)
  obtain ⟨s, hs⟩ : ∃ s, s = (l + c + 0) % 18446744073709551616 := ⟨_, rfl⟩
  obtain ⟨k, hk⟩ : ∃ k, k = (l + c + 0) / 18446744073709551616 := ⟨_, rfl⟩
  rw [← hs, ← hk] at c1
  have c2 : ∀ w, (callFunc 54 #[.int .u64 (s : Int), .int .u64 (d : Int), .int .u64 0]).run Try.prog w = _ := call_add64 s d 0 (by omega)
  obtain ⟨t, ht⟩ : ∃ t, t = (s + d + 0) % 18446744073709551616 := ⟨_, rfl⟩
  obtain ⟨j, hj⟩ : ∃ j, j = (s + d + 0) / 18446744073709551616 := ⟨_, rfl⟩
  rw [← ht, ← hj] at c2
  obtain ⟨r, hr⟩ : ∃ r, r = x * y + c + d := ⟨_, rfl⟩
  have S := Lib.hid (split_word _ h l s k t j c d r hm hh hl hs hk ht hj hr)
  have M := Lib.hid m
  rw [← hr]
  clear hm hh hl hs hk ht hj hr hx hy hc hd m
  go_enter Try.func58, Try.ntmps58
  go_wp2_with (go_at_call 65; refine (M.out _).mono ?_; rintro e w' ⟨rfl, rfl⟩)
  rw [S.out.1, S.out.2]
  go_ret2
  exact ⟨rfl, rfl⟩
end Go.Proofs.Ytboffheklkhnkaa
