/- The document's Scale, bit by bit: it returns the high half of the product, for every two words; no condition. -/
import Derived.Test.YtbiobejfjhmccaaSip
import Derived.LoopTactic
import Derived.Laws.BitsAll
namespace Go.Proofs.Ytbiobejfjhmccaa
open Go.RowKit Go.Lib

/-- The product of x's highest k bits with n: its high word, its low word. -/
def rp (x n k : Nat) : Nat := x / 2 ^ (64 - k) * n
def rh (x n k : Nat) : Nat := rp x n k / 18446744073709551616
def rl (x n k : Nat) : Nat := rp x n k % 18446744073709551616

theorem rp_lt (x n k : Nat) (hx : x < 18446744073709551616) (hn : n < 18446744073709551616) (hk : k < 64) : rp x n k < 170141183460469231731687303715884105728 := by
  unfold rp
  have h1 : x / 2 ^ (64 - k) < 9223372036854775808 := by
    have : x / 2 ^ (64 - k) ≤ x / 2 ^ 1 := Nat.div_le_div_left (Nat.pow_le_pow_right (by omega) (by omega)) (by decide)
    omega
  have h2 : x / 2 ^ (64 - k) * n ≤ 9223372036854775807 * 18446744073709551615 := Nat.mul_le_mul (by omega) (by omega)
  omega
theorem rp_zero (x n : Nat) (hx : x < 18446744073709551616) : rp x n 0 = 0 := by
  unfold rp
  have : x / 2 ^ (64 - 0) = 0 := Nat.div_eq_of_lt (by simpa using hx)
  rw [this, Nat.zero_mul]
theorem rp_succ (x n k : Nat) (hk : k < 64) : rp x n (k + 1) = 2 * rp x n k + x / 2 ^ (63 - k) % 2 * n := by
  unfold rp
  have e1 : 64 - (k + 1) = 63 - k := by omega
  have e2 : 64 - k = (63 - k) + 1 := by omega
  rw [e1, e2, Nat.pow_succ, ← Nat.div_div_eq_div_mul, ← Nat.mul_assoc, ← Nat.add_mul]
  congr 1
  omega
theorem rh_lt (x n k : Nat) (hx : x < 18446744073709551616) (hn : n < 18446744073709551616) (hk : k < 64) : rh x n k < 9223372036854775808 := by
  have := rp_lt x n k hx hn hk
  unfold rh
  omega
theorem rl_lt (x n k : Nat) : rl x n k < 18446744073709551616 := by unfold rl; omega

theorem or_is (h l : Nat) (hh : h < 9223372036854775808) (hl : l < 18446744073709551616) : bits .or .u64 ((h : Int) * 2) ((l : Int) / 9223372036854775808) = ((h * 2 + l / 9223372036854775808 : Nat) : Int) := by
  have e1 : ((h : Int) * 2) = ((h * 2 : Nat) : Int) := by omega
  have e2 : ((l : Int) / 9223372036854775808) = ((l / 9223372036854775808 : Nat) : Int) := by omega
  rw [e1, e2, u64_or_nat _ _ (by omega) (by omega), nat_join 1 _ _ (by omega) (by omega)]
theorem and_is (x k : Nat) (hx : x < 18446744073709551616) : bits .and .u64 ((x : Int) / 2 ^ (63 - k)) 1 = ((x / 2 ^ (63 - k) % 2 : Nat) : Int) := by
  have e1 : ((x : Int) / 2 ^ (63 - k)) = ((x / 2 ^ (63 - k) : Nat) : Int) := by simp
  have : x / 2 ^ (63 - k) ≤ x := Nat.div_le_self _ _
  have h := u64_and_nat (x / 2 ^ (63 - k)) 1 (by omega) (by omega)
  rw [e1]
  have e : (x / 2 ^ (63 - k)) &&& 1 = x / 2 ^ (63 - k) % 2 := Nat.and_two_pow_sub_one_eq_mod _ 1
  rw [e] at h
  exact h

theorem step_no (x n k : Nat) (hx : x < 18446744073709551616) (hn : n < 18446744073709551616) (hk : k < 64) (hb : (bits BinOp.and IntKind.u64 (↑x / 2 ^ (63 - k)) 1 == 1) = false) :
    bits BinOp.or IntKind.u64 (↑(rh x n k) * 2) (↑(rl x n k) / 9223372036854775808) = ((rh x n (k + 1) : Nat) : Int) ∧ IntKind.u64.wrap (↑(rl x n k) * 2) = ((rl x n (k + 1) : Nat) : Int) := by
  have l1 := rh_lt x n k hx hn hk
  have l2 := rl_lt x n k
  rw [or_is _ _ l1 l2, IntKind.wrap_u64]
  rw [and_is x k hx] at hb
  have hs := rp_succ x n k hk
  have hb' : x / 2 ^ (63 - k) % 2 = 0 := by
    rcases Nat.mod_two_eq_zero_or_one (x / 2 ^ (63 - k)) with h | h
    · exact h
    · rw [h] at hb; exact absurd hb (by decide)
  rw [hb'] at hs
  unfold rh rl at *
  constructor <;> omega
theorem step_over (x n k : Nat) (hx : x < 18446744073709551616) (hn : n < 18446744073709551616) (hk : k < 64) (hb : (bits BinOp.and IntKind.u64 (↑x / 2 ^ (63 - k)) 1 == 1) = true)
    (ho : IntKind.u64.wrap (IntKind.u64.wrap (↑(rl x n k) * 2) + ↑n) < ↑n) :
    IntKind.u64.wrap (bits BinOp.or IntKind.u64 (↑(rh x n k) * 2) (↑(rl x n k) / 9223372036854775808) + 1) = ((rh x n (k + 1) : Nat) : Int) ∧ IntKind.u64.wrap (IntKind.u64.wrap (↑(rl x n k) * 2) + ↑n) = ((rl x n (k + 1) : Nat) : Int) := by
  have l1 := rh_lt x n k hx hn hk
  have l2 := rl_lt x n k
  rw [or_is _ _ l1 l2]
  simp only [IntKind.wrap_u64] at *
  rw [and_is x k hx] at hb
  have hs := rp_succ x n k hk
  have hb' : x / 2 ^ (63 - k) % 2 = 1 := by
    rcases Nat.mod_two_eq_zero_or_one (x / 2 ^ (63 - k)) with h | h
    · rw [h] at hb; exact absurd hb (by decide)
    · exact h
  rw [hb'] at hs
  have hp : rp x n (k + 1) < 340282366920938463463374607431768211456 := by
    have h3 := rp_lt x n k hx hn hk
    have h4 : 2 * rp x n k + 1 * n = rp x n (k + 1) := hs.symm
    unfold rp at *
    have e1 : 64 - (k + 1) = 63 - k := by omega
    have : x / 2 ^ (63 - k) ≤ 18446744073709551615 := by have := Nat.div_le_self x (2 ^ (63 - k)); omega
    have : x / 2 ^ (64 - (k + 1)) * n ≤ 18446744073709551615 * 18446744073709551615 := by rw [e1]; exact Nat.mul_le_mul this (by omega)
    omega
  unfold rh rl at *
  constructor <;> omega
theorem step_in (x n k : Nat) (hx : x < 18446744073709551616) (hn : n < 18446744073709551616) (hk : k < 64) (hb : (bits BinOp.and IntKind.u64 (↑x / 2 ^ (63 - k)) 1 == 1) = true)
    (ho : ↑n ≤ IntKind.u64.wrap (IntKind.u64.wrap (↑(rl x n k) * 2) + ↑n)) :
    bits BinOp.or IntKind.u64 (↑(rh x n k) * 2) (↑(rl x n k) / 9223372036854775808) = ((rh x n (k + 1) : Nat) : Int) ∧ IntKind.u64.wrap (IntKind.u64.wrap (↑(rl x n k) * 2) + ↑n) = ((rl x n (k + 1) : Nat) : Int) := by
  have l1 := rh_lt x n k hx hn hk
  have l2 := rl_lt x n k
  rw [or_is _ _ l1 l2]
  simp only [IntKind.wrap_u64] at *
  rw [and_is x k hx] at hb
  have hs := rp_succ x n k hk
  have hb' : x / 2 ^ (63 - k) % 2 = 1 := by
    rcases Nat.mod_two_eq_zero_or_one (x / 2 ^ (63 - k)) with h | h
    · rw [h] at hb; exact absurd hb (by decide)
    · exact h
  rw [hb'] at hs
  unfold rh rl at *
  constructor <;> omega

theorem word_eq {a b : Int} (h : a = b) : Value.int .u64 a = Value.int .u64 b := by rw [h]

set_option maxHeartbeats 1000000 in
theorem ref_scale_any (x n : Nat) (hx : x < 18446744073709551616) (hn : n < 18446744073709551616) (w : World) :
    Calls Try.prog 6 #[.int .u64 x, .int .u64 n] w fun e w' => e = .returned (.int .u64 ((hi x n : Nat) : Int)) ∧ w = w' := by
  have z := rp_zero x n hx
  have Z : Hid (rp x n 0 = 0) := Lib.hid z
  clear z
  go_enter Try.func6, Try.ntmps6
  go_wp2
  go_loop [5, 6, 7] (fun h l i => ∃ k : Nat, k ≤ 64 ∧ i = .int .i64 (63 - (k : Int)) ∧ h = .int .u64 ((rh x n k : Nat) : Int) ∧ l = .int .u64 ((rl x n k : Nat) : Int)) (fun _ _ i => (intOf i + 1).toNat)
  case atStart => exact ⟨0, by omega, rfl, word_eq (by unfold rh; rw [Z.out]; rfl), word_eq (by unfold rl; rw [Z.out]; rfl)⟩
  case round =>
    obtain ⟨k, hk, rfl, rfl, rfl⟩ := hrel
    by_cases hlt : k < 64
    · have h1 := rh_lt x n k hx hn hlt
      have h2 := rl_lt x n k
      have e1 : (0 : Int) ≤ 63 - (k : Int) := by omega
      go_wp2
      · have hb : (bits BinOp.and IntKind.u64 (↑x / 2 ^ (63 - k)) 1 == 1) = true := by assumption
        have ho : IntKind.u64.wrap (IntKind.u64.wrap (↑(rl x n k) * 2) + ↑n) < ↑n := by assumption
        have hs := step_over x n k hx hn hlt hb ho
        go_round
        case rel => exact ⟨k + 1, by omega, by go_num, word_eq hs.1, word_eq hs.2⟩
        case measure => simp [intOf]; omega
      · have hb : (bits BinOp.and IntKind.u64 (↑x / 2 ^ (63 - k)) 1 == 1) = true := by assumption
        have ho : ↑n ≤ IntKind.u64.wrap (IntKind.u64.wrap (↑(rl x n k) * 2) + ↑n) := by assumption
        have hs := step_in x n k hx hn hlt hb ho
        go_round
        case rel => exact ⟨k + 1, by omega, by go_num, word_eq hs.1, word_eq hs.2⟩
        case measure => simp [intOf]; omega
      · have hb : (bits BinOp.and IntKind.u64 (↑x / 2 ^ (63 - k)) 1 == 1) = false := by assumption
        have hs := step_no x n k hx hn hlt hb
        go_round
        case rel => exact ⟨k + 1, by omega, by go_num, word_eq hs.1, word_eq hs.2⟩
        case measure => simp [intOf]; omega
    · obtain rfl : k = 64 := by omega
      have H : Hid (rh x n 64 = hi x n) := Lib.hid (by unfold rh rp hi; simp)
      go_wp2
      go_ret
      exact ⟨congrArg (fun m : Nat => Ending.returned (Value.int .u64 (m : Int))) H.out, rfl⟩
end Go.Proofs.Ytbiobejfjhmccaa
