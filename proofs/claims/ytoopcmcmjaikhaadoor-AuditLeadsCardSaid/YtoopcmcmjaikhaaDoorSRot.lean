/- Rotations of words of 32 bits: bits.RotateLeft32 by -n and the document's turned by n return the same word, for each of the counts of SHA-256. -/
import Derived.Test.YtoopcmcmjaikhaaDoorRows
import Derived.WalkKit
import Derived.WalkSpells
import Derived.Lib.Hide
import Derived.Deep.LoopGhost
import Derived.Laws.BitsAll
namespace Go.Proofs.YtoopcmcmjaikhaaDoor.S
open Go.RowKit Go.Lib

def In32 (m : Int) : Prop := 0 ≤ m ∧ m < 4294967296
theorem in32_wrap (m : Int) : In32 (IntKind.u32.wrap m) := by rw [IntKind.wrap_u32]; unfold In32; omega
theorem in32_bits (op : BinOp) (a b : Int) : In32 (bits op .u32 a b) := by
  unfold bits
  split <;> exact in32_wrap _

/-- A word turned right by n. -/
def rotN (x n : Nat) : Nat := x / 2 ^ n + x % 2 ^ n * 2 ^ (32 - n)
def rotr (x : Int) (n : Nat) : Int := (rotN x.toNat n : Int)
theorem rotN_lt (x n : Nat) (hx : x < 4294967296) (hn : n ≤ 32) : rotN x n < 4294967296 := by
  unfold rotN
  have hpq : 2 ^ n * 2 ^ (32 - n) = 4294967296 := by rw [← Nat.pow_add, Nat.add_sub_cancel' hn]
  have hp : 0 < 2 ^ n := Nat.pow_pos (by decide)
  generalize 2 ^ n = p at *
  generalize 2 ^ (32 - n) = q at *
  have hb : x % p + 1 ≤ p := Nat.mod_lt _ hp
  have ha : x / p < q := Nat.div_lt_of_lt_mul (by omega)
  have h1 : (x % p + 1) * q ≤ p * q := Nat.mul_le_mul_right q hb
  rw [Nat.add_mul] at h1
  omega
theorem rotN_succ (x n : Nat) (hn : n ≤ 31) : rotN x (n + 1) = rotN x n / 2 + rotN x n % 2 * 2147483648 := by
  unfold rotN
  have hpq : 2 ^ n * 2 ^ (31 - n) = 2147483648 := by rw [← Nat.pow_add, Nat.add_sub_cancel' hn]
  have e1 : 32 - (n + 1) = 31 - n := by omega
  have e2 : 32 - n = (31 - n) + 1 := by omega
  rw [e1, e2, Nat.pow_succ, Nat.pow_succ, Nat.mod_mul, ← Nat.div_div_eq_div_mul, ← hpq]
  have hp : 0 < 2 ^ n := Nat.pow_pos (by decide)
  generalize 2 ^ n = p at *
  generalize 2 ^ (31 - n) = q at *
  generalize x / p = a
  generalize x % p = b
  have e3 : a + b * (q * 2) = a + 2 * (b * q) := by rw [← Nat.mul_assoc, Nat.mul_comm (b * q) 2]
  rw [e3, Nat.add_mul]
  have e4 : (a + 2 * (b * q)) / 2 = a / 2 + b * q := by omega
  have e5 : (a + 2 * (b * q)) % 2 = a % 2 := by omega
  rw [e4, e5]
  have e6 : a % 2 * (p * q) = p * (a % 2) * q := by rw [← Nat.mul_assoc, Nat.mul_comm (a % 2) p]
  omega
theorem rotr_in (x : Int) (n : Nat) (hx : In32 x) (hn : n ≤ 32) : In32 (rotr x n) := by
  obtain ⟨h1, h2⟩ := hx
  have := rotN_lt x.toNat n (by omega) hn
  unfold rotr In32
  omega
theorem rotr_zero (x : Int) (hx : In32 x) : rotr x 0 = x := by
  have := hx.1
  unfold rotr rotN
  simp
  omega
theorem turn_step (x : Int) (n : Nat) (hx : In32 x) (hn : n ≤ 31) : bits .or .u32 (rotr x n / 2) (rotr x n * 2147483648 % 4294967296) = rotr x (n + 1) := by
  obtain ⟨h1, h2⟩ := rotr_in x n hx (by omega)
  unfold rotr at *
  rw [rotN_succ _ _ hn]
  generalize rotN x.toNat n = y at *
  have e1 : ((y : Int) / 2) = ((y / 2 : Nat) : Int) := by omega
  have e2 : ((y : Int) * 2147483648 % 4294967296) = ((y % 2 * 2147483648 : Nat) : Int) := by omega
  rw [e1, e2, u32_or_nat _ _ (by omega) (by omega), Nat.or_comm, nat_join 31 _ _ (by omega) (by omega)]
  omega

set_option maxHeartbeats 400000 in
theorem turned_any (x : Int) (n : Nat) (hn : n ≤ 31) (hx : In32 x) (w : World) : Calls Tryd.prog 116 #[.int .u32 x, .int .i64 n] w fun e w' => e = .returned (.int .u32 (rotr x n)) ∧ w = w' := by
  have HX := Lib.hid hx
  clear hx
  go_enter Tryd.func116, Tryd.ntmps116
  go_wp2
  go_loopg [0, 6] n (fun k y i wr => ∃ j : Nat, j + k = n ∧ i = .int .i64 (j : Int) ∧ y = .int .u32 (rotr x j) ∧ w = wr)
  case atStart => exact ⟨0, by omega, rfl, by rw [rotr_zero x HX.out], rfl⟩
  case round =>
    obtain ⟨j, hj, rfl, rfl, rfl⟩ := hrel
    by_cases hlt : j < n
    · go_wp2
      go_roundg (gk - 1)
      case measure => omega
      case rel => exact ⟨j + 1, by omega, by go_num, by rw [turn_step x j HX.out (by omega)], rfl⟩
    · obtain rfl : j = n := by omega
      go_wp2
      go_ret
      exact ⟨rfl, rfl⟩
theorem or_rot2 (x : Int) (hx : In32 x) : bits .or .u32 (IntKind.u32.wrap (x * 1073741824)) (x / 4) = rotr x 2 := by
  obtain ⟨h1, h2⟩ := hx
  obtain ⟨y, rfl⟩ : ∃ y : Nat, x = y := ⟨x.toNat, by omega⟩
  have e1 : IntKind.u32.wrap ((y : Int) * 1073741824) = ((y % 4 * 1073741824 : Nat) : Int) := by rw [IntKind.wrap_u32]; omega
  have e2 : ((y : Int) / 4) = ((y / 4 : Nat) : Int) := by omega
  rw [e1, e2, u32_or_nat _ _ (by omega) (by omega), nat_join 30 _ _ (by omega) (by omega)]
  unfold rotr rotN
  simp only [Int.toNat_natCast]
  have e3 : (2 : Nat) ^ 2 = 4 := by decide
  have e4 : (2 : Nat) ^ (32 - 2) = 1073741824 := by decide
  rw [e3, e4]
  omega
set_option maxHeartbeats 400000 in
theorem rotL2 (x : Int) (hx : In32 x) (w : World) : Calls Tryd.prog 132 #[.int .u32 x, .int .i64 (-2)] w fun e w' => e = .returned (.int .u32 (rotr x 2)) ∧ w = w' := by
  have e0 : IntKind.u64.wrap (-2) = 18446744073709551614 := by decide
  have e : bits .and .u64 18446744073709551614 31 = 30 := by decide
  have HX := Lib.hid (or_rot2 x hx)
  clear hx
  go_enter Tryd.func132, Tryd.ntmps132
  go_wp2
  go_ret
  exact ⟨congrArg (fun m => Ending.returned (Value.int .u32 m)) HX.out, rfl⟩
theorem or_rot6 (x : Int) (hx : In32 x) : bits .or .u32 (IntKind.u32.wrap (x * 67108864)) (x / 64) = rotr x 6 := by
  obtain ⟨h1, h2⟩ := hx
  obtain ⟨y, rfl⟩ : ∃ y : Nat, x = y := ⟨x.toNat, by omega⟩
  have e1 : IntKind.u32.wrap ((y : Int) * 67108864) = ((y % 64 * 67108864 : Nat) : Int) := by rw [IntKind.wrap_u32]; omega
  have e2 : ((y : Int) / 64) = ((y / 64 : Nat) : Int) := by omega
  rw [e1, e2, u32_or_nat _ _ (by omega) (by omega), nat_join 26 _ _ (by omega) (by omega)]
  unfold rotr rotN
  simp only [Int.toNat_natCast]
  have e3 : (2 : Nat) ^ 6 = 64 := by decide
  have e4 : (2 : Nat) ^ (32 - 6) = 67108864 := by decide
  rw [e3, e4]
  omega
set_option maxHeartbeats 400000 in
theorem rotL6 (x : Int) (hx : In32 x) (w : World) : Calls Tryd.prog 132 #[.int .u32 x, .int .i64 (-6)] w fun e w' => e = .returned (.int .u32 (rotr x 6)) ∧ w = w' := by
  have e0 : IntKind.u64.wrap (-6) = 18446744073709551610 := by decide
  have e : bits .and .u64 18446744073709551610 31 = 26 := by decide
  have HX := Lib.hid (or_rot6 x hx)
  clear hx
  go_enter Tryd.func132, Tryd.ntmps132
  go_wp2
  go_ret
  exact ⟨congrArg (fun m => Ending.returned (Value.int .u32 m)) HX.out, rfl⟩
theorem or_rot7 (x : Int) (hx : In32 x) : bits .or .u32 (IntKind.u32.wrap (x * 33554432)) (x / 128) = rotr x 7 := by
  obtain ⟨h1, h2⟩ := hx
  obtain ⟨y, rfl⟩ : ∃ y : Nat, x = y := ⟨x.toNat, by omega⟩
  have e1 : IntKind.u32.wrap ((y : Int) * 33554432) = ((y % 128 * 33554432 : Nat) : Int) := by rw [IntKind.wrap_u32]; omega
  have e2 : ((y : Int) / 128) = ((y / 128 : Nat) : Int) := by omega
  rw [e1, e2, u32_or_nat _ _ (by omega) (by omega), nat_join 25 _ _ (by omega) (by omega)]
  unfold rotr rotN
  simp only [Int.toNat_natCast]
  have e3 : (2 : Nat) ^ 7 = 128 := by decide
  have e4 : (2 : Nat) ^ (32 - 7) = 33554432 := by decide
  rw [e3, e4]
  omega
set_option maxHeartbeats 400000 in
theorem rotL7 (x : Int) (hx : In32 x) (w : World) : Calls Tryd.prog 132 #[.int .u32 x, .int .i64 (-7)] w fun e w' => e = .returned (.int .u32 (rotr x 7)) ∧ w = w' := by
  have e0 : IntKind.u64.wrap (-7) = 18446744073709551609 := by decide
  have e : bits .and .u64 18446744073709551609 31 = 25 := by decide
  have HX := Lib.hid (or_rot7 x hx)
  clear hx
  go_enter Tryd.func132, Tryd.ntmps132
  go_wp2
  go_ret
  exact ⟨congrArg (fun m => Ending.returned (Value.int .u32 m)) HX.out, rfl⟩
theorem or_rot11 (x : Int) (hx : In32 x) : bits .or .u32 (IntKind.u32.wrap (x * 2097152)) (x / 2048) = rotr x 11 := by
  obtain ⟨h1, h2⟩ := hx
  obtain ⟨y, rfl⟩ : ∃ y : Nat, x = y := ⟨x.toNat, by omega⟩
  have e1 : IntKind.u32.wrap ((y : Int) * 2097152) = ((y % 2048 * 2097152 : Nat) : Int) := by rw [IntKind.wrap_u32]; omega
  have e2 : ((y : Int) / 2048) = ((y / 2048 : Nat) : Int) := by omega
  rw [e1, e2, u32_or_nat _ _ (by omega) (by omega), nat_join 21 _ _ (by omega) (by omega)]
  unfold rotr rotN
  simp only [Int.toNat_natCast]
  have e3 : (2 : Nat) ^ 11 = 2048 := by decide
  have e4 : (2 : Nat) ^ (32 - 11) = 2097152 := by decide
  rw [e3, e4]
  omega
set_option maxHeartbeats 400000 in
theorem rotL11 (x : Int) (hx : In32 x) (w : World) : Calls Tryd.prog 132 #[.int .u32 x, .int .i64 (-11)] w fun e w' => e = .returned (.int .u32 (rotr x 11)) ∧ w = w' := by
  have e0 : IntKind.u64.wrap (-11) = 18446744073709551605 := by decide
  have e : bits .and .u64 18446744073709551605 31 = 21 := by decide
  have HX := Lib.hid (or_rot11 x hx)
  clear hx
  go_enter Tryd.func132, Tryd.ntmps132
  go_wp2
  go_ret
  exact ⟨congrArg (fun m => Ending.returned (Value.int .u32 m)) HX.out, rfl⟩
theorem or_rot13 (x : Int) (hx : In32 x) : bits .or .u32 (IntKind.u32.wrap (x * 524288)) (x / 8192) = rotr x 13 := by
  obtain ⟨h1, h2⟩ := hx
  obtain ⟨y, rfl⟩ : ∃ y : Nat, x = y := ⟨x.toNat, by omega⟩
  have e1 : IntKind.u32.wrap ((y : Int) * 524288) = ((y % 8192 * 524288 : Nat) : Int) := by rw [IntKind.wrap_u32]; omega
  have e2 : ((y : Int) / 8192) = ((y / 8192 : Nat) : Int) := by omega
  rw [e1, e2, u32_or_nat _ _ (by omega) (by omega), nat_join 19 _ _ (by omega) (by omega)]
  unfold rotr rotN
  simp only [Int.toNat_natCast]
  have e3 : (2 : Nat) ^ 13 = 8192 := by decide
  have e4 : (2 : Nat) ^ (32 - 13) = 524288 := by decide
  rw [e3, e4]
  omega
set_option maxHeartbeats 400000 in
theorem rotL13 (x : Int) (hx : In32 x) (w : World) : Calls Tryd.prog 132 #[.int .u32 x, .int .i64 (-13)] w fun e w' => e = .returned (.int .u32 (rotr x 13)) ∧ w = w' := by
  have e0 : IntKind.u64.wrap (-13) = 18446744073709551603 := by decide
  have e : bits .and .u64 18446744073709551603 31 = 19 := by decide
  have HX := Lib.hid (or_rot13 x hx)
  clear hx
  go_enter Tryd.func132, Tryd.ntmps132
  go_wp2
  go_ret
  exact ⟨congrArg (fun m => Ending.returned (Value.int .u32 m)) HX.out, rfl⟩
theorem or_rot17 (x : Int) (hx : In32 x) : bits .or .u32 (IntKind.u32.wrap (x * 32768)) (x / 131072) = rotr x 17 := by
  obtain ⟨h1, h2⟩ := hx
  obtain ⟨y, rfl⟩ : ∃ y : Nat, x = y := ⟨x.toNat, by omega⟩
  have e1 : IntKind.u32.wrap ((y : Int) * 32768) = ((y % 131072 * 32768 : Nat) : Int) := by rw [IntKind.wrap_u32]; omega
  have e2 : ((y : Int) / 131072) = ((y / 131072 : Nat) : Int) := by omega
  rw [e1, e2, u32_or_nat _ _ (by omega) (by omega), nat_join 15 _ _ (by omega) (by omega)]
  unfold rotr rotN
  simp only [Int.toNat_natCast]
  have e3 : (2 : Nat) ^ 17 = 131072 := by decide
  have e4 : (2 : Nat) ^ (32 - 17) = 32768 := by decide
  rw [e3, e4]
  omega
set_option maxHeartbeats 400000 in
theorem rotL17 (x : Int) (hx : In32 x) (w : World) : Calls Tryd.prog 132 #[.int .u32 x, .int .i64 (-17)] w fun e w' => e = .returned (.int .u32 (rotr x 17)) ∧ w = w' := by
  have e0 : IntKind.u64.wrap (-17) = 18446744073709551599 := by decide
  have e : bits .and .u64 18446744073709551599 31 = 15 := by decide
  have HX := Lib.hid (or_rot17 x hx)
  clear hx
  go_enter Tryd.func132, Tryd.ntmps132
  go_wp2
  go_ret
  exact ⟨congrArg (fun m => Ending.returned (Value.int .u32 m)) HX.out, rfl⟩
theorem or_rot18 (x : Int) (hx : In32 x) : bits .or .u32 (IntKind.u32.wrap (x * 16384)) (x / 262144) = rotr x 18 := by
  obtain ⟨h1, h2⟩ := hx
  obtain ⟨y, rfl⟩ : ∃ y : Nat, x = y := ⟨x.toNat, by omega⟩
  have e1 : IntKind.u32.wrap ((y : Int) * 16384) = ((y % 262144 * 16384 : Nat) : Int) := by rw [IntKind.wrap_u32]; omega
  have e2 : ((y : Int) / 262144) = ((y / 262144 : Nat) : Int) := by omega
  rw [e1, e2, u32_or_nat _ _ (by omega) (by omega), nat_join 14 _ _ (by omega) (by omega)]
  unfold rotr rotN
  simp only [Int.toNat_natCast]
  have e3 : (2 : Nat) ^ 18 = 262144 := by decide
  have e4 : (2 : Nat) ^ (32 - 18) = 16384 := by decide
  rw [e3, e4]
  omega
set_option maxHeartbeats 400000 in
theorem rotL18 (x : Int) (hx : In32 x) (w : World) : Calls Tryd.prog 132 #[.int .u32 x, .int .i64 (-18)] w fun e w' => e = .returned (.int .u32 (rotr x 18)) ∧ w = w' := by
  have e0 : IntKind.u64.wrap (-18) = 18446744073709551598 := by decide
  have e : bits .and .u64 18446744073709551598 31 = 14 := by decide
  have HX := Lib.hid (or_rot18 x hx)
  clear hx
  go_enter Tryd.func132, Tryd.ntmps132
  go_wp2
  go_ret
  exact ⟨congrArg (fun m => Ending.returned (Value.int .u32 m)) HX.out, rfl⟩
theorem or_rot19 (x : Int) (hx : In32 x) : bits .or .u32 (IntKind.u32.wrap (x * 8192)) (x / 524288) = rotr x 19 := by
  obtain ⟨h1, h2⟩ := hx
  obtain ⟨y, rfl⟩ : ∃ y : Nat, x = y := ⟨x.toNat, by omega⟩
  have e1 : IntKind.u32.wrap ((y : Int) * 8192) = ((y % 524288 * 8192 : Nat) : Int) := by rw [IntKind.wrap_u32]; omega
  have e2 : ((y : Int) / 524288) = ((y / 524288 : Nat) : Int) := by omega
  rw [e1, e2, u32_or_nat _ _ (by omega) (by omega), nat_join 13 _ _ (by omega) (by omega)]
  unfold rotr rotN
  simp only [Int.toNat_natCast]
  have e3 : (2 : Nat) ^ 19 = 524288 := by decide
  have e4 : (2 : Nat) ^ (32 - 19) = 8192 := by decide
  rw [e3, e4]
  omega
set_option maxHeartbeats 400000 in
theorem rotL19 (x : Int) (hx : In32 x) (w : World) : Calls Tryd.prog 132 #[.int .u32 x, .int .i64 (-19)] w fun e w' => e = .returned (.int .u32 (rotr x 19)) ∧ w = w' := by
  have e0 : IntKind.u64.wrap (-19) = 18446744073709551597 := by decide
  have e : bits .and .u64 18446744073709551597 31 = 13 := by decide
  have HX := Lib.hid (or_rot19 x hx)
  clear hx
  go_enter Tryd.func132, Tryd.ntmps132
  go_wp2
  go_ret
  exact ⟨congrArg (fun m => Ending.returned (Value.int .u32 m)) HX.out, rfl⟩
theorem or_rot22 (x : Int) (hx : In32 x) : bits .or .u32 (IntKind.u32.wrap (x * 1024)) (x / 4194304) = rotr x 22 := by
  obtain ⟨h1, h2⟩ := hx
  obtain ⟨y, rfl⟩ : ∃ y : Nat, x = y := ⟨x.toNat, by omega⟩
  have e1 : IntKind.u32.wrap ((y : Int) * 1024) = ((y % 4194304 * 1024 : Nat) : Int) := by rw [IntKind.wrap_u32]; omega
  have e2 : ((y : Int) / 4194304) = ((y / 4194304 : Nat) : Int) := by omega
  rw [e1, e2, u32_or_nat _ _ (by omega) (by omega), nat_join 10 _ _ (by omega) (by omega)]
  unfold rotr rotN
  simp only [Int.toNat_natCast]
  have e3 : (2 : Nat) ^ 22 = 4194304 := by decide
  have e4 : (2 : Nat) ^ (32 - 22) = 1024 := by decide
  rw [e3, e4]
  omega
set_option maxHeartbeats 400000 in
theorem rotL22 (x : Int) (hx : In32 x) (w : World) : Calls Tryd.prog 132 #[.int .u32 x, .int .i64 (-22)] w fun e w' => e = .returned (.int .u32 (rotr x 22)) ∧ w = w' := by
  have e0 : IntKind.u64.wrap (-22) = 18446744073709551594 := by decide
  have e : bits .and .u64 18446744073709551594 31 = 10 := by decide
  have HX := Lib.hid (or_rot22 x hx)
  clear hx
  go_enter Tryd.func132, Tryd.ntmps132
  go_wp2
  go_ret
  exact ⟨congrArg (fun m => Ending.returned (Value.int .u32 m)) HX.out, rfl⟩
theorem or_rot25 (x : Int) (hx : In32 x) : bits .or .u32 (IntKind.u32.wrap (x * 128)) (x / 33554432) = rotr x 25 := by
  obtain ⟨h1, h2⟩ := hx
  obtain ⟨y, rfl⟩ : ∃ y : Nat, x = y := ⟨x.toNat, by omega⟩
  have e1 : IntKind.u32.wrap ((y : Int) * 128) = ((y % 33554432 * 128 : Nat) : Int) := by rw [IntKind.wrap_u32]; omega
  have e2 : ((y : Int) / 33554432) = ((y / 33554432 : Nat) : Int) := by omega
  rw [e1, e2, u32_or_nat _ _ (by omega) (by omega), nat_join 7 _ _ (by omega) (by omega)]
  unfold rotr rotN
  simp only [Int.toNat_natCast]
  have e3 : (2 : Nat) ^ 25 = 33554432 := by decide
  have e4 : (2 : Nat) ^ (32 - 25) = 128 := by decide
  rw [e3, e4]
  omega
set_option maxHeartbeats 400000 in
theorem rotL25 (x : Int) (hx : In32 x) (w : World) : Calls Tryd.prog 132 #[.int .u32 x, .int .i64 (-25)] w fun e w' => e = .returned (.int .u32 (rotr x 25)) ∧ w = w' := by
  have e0 : IntKind.u64.wrap (-25) = 18446744073709551591 := by decide
  have e : bits .and .u64 18446744073709551591 31 = 7 := by decide
  have HX := Lib.hid (or_rot25 x hx)
  clear hx
  go_enter Tryd.func132, Tryd.ntmps132
  go_wp2
  go_ret
  exact ⟨congrArg (fun m => Ending.returned (Value.int .u32 m)) HX.out, rfl⟩
end Go.Proofs.YtoopcmcmjaikhaaDoor.S

