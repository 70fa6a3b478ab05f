/- Texts of ours, merged: SLaid, SRot, SShaSpec, SSpec, SSipSpec, SSipLast, SBytes. -/
import Derived.Test.YtghjgkgfpblijaaDoorRows
import Derived.WalkKit
import Derived.ProofKit
import Derived.LaidMore
import Derived.OpenShut
import Derived.Stop.Joined
import Derived.WalkSpells
import Derived.Lib.Hide
import Derived.Deep.LoopGhost
import Derived.Laws.BitsAll
import Derived.Laws.CopyOwn
import Derived.Test.YtghjgkgfpblijaaDoorZA
import Derived.OwnWalk
import Derived.Laws.BytesArg
import Derived.Laws.BytesString
section
namespace Go.Proofs.YtghjgkgfpblijaaDoor.S
open Go.ChangeShapes Go.WideShapes Go.ChangeAt Go.RowKit

theorem own : ownKnob Tryd.prog.godebug = none := by kernel_rfl
theorem laidOut : laidOutB Tryd.prog = true := by kernel_rfl

theorem ints_of_trod {H : Type} {enc : TypeId × Value → H} {w : World} {base : Nat} {spare : Nat → Bool} {held : Bool} {fuel n : Nat} {t e : TypeId} {k : IntKind} {cs : List Value} {p : List MemPlace} {ns : List Int}
    (ht : Tryd.prog.underlying t = some (.array n e)) (he : Tryd.prog.underlying e = some (.int k)) (hc : Tryd.prog.cellsOf e = 1)
    (h : DataW.trod enc Tryd.prog w base spare held fuel t cs = some (.agg (ns.map fun z => .lit (.int k z)), p)) (i : Nat) (z : Int) (hz : ns[i]? = some z) : cs[i]? = some (.int k z) := by
  obtain ⟨xs, m, rfl, hx, hlen, hn, hel⟩ := DataW.trod_array ht h
  simp only [Prod.mk.injEq, DataW.agg.injEq] at hx
  have h1 : (ns.map fun z => (DataW.lit (.int k z) : DataW H))[i]? = (xs.map (·.1))[i]? := by rw [hx.1]
  rw [List.getElem?_map, List.getElem?_map, hz] at h1
  rcases hxi : xs[i]? with _ | y
  · rw [hxi] at h1; simp at h1
  · rw [hxi] at h1
    have hi : i < n := by have := (List.getElem?_eq_some_iff.1 hxi).1; omega
    have h2 := hel i hi
    rw [hxi, hc] at h2
    obtain ⟨r, e1, e2, _⟩ := DataW.trod_int he h2
    rw [e2] at h1
    simp at h1
    subst h1
    have h3 : ((cs.drop (i * 1)).take 1)[0]? = some (.int k z) := by rw [e1]; rfl
    simpa using h3

end Go.Proofs.YtghjgkgfpblijaaDoor.S
end
section
namespace Go.Proofs.YtghjgkgfpblijaaDoor.S
open Go.RowKit Go.Lib

def In32 (m : Int) : Prop := 0 ≤ m ∧ m < 4294967296
theorem in32_wrap (m : Int) : In32 (IntKind.u32.wrap m) := by rw [IntKind.wrap_u32]; unfold In32; omega
theorem in32_bits (op : BinOp) (a b : Int) : In32 (bits op .u32 a b) := by
  unfold bits
  split <;> exact in32_wrap _

/-- A word turned right by n. -/
def rotN (x n : Nat) : Nat := x / 2 ^ n + x % 2 ^ n * 2 ^ (32 - n)
def rotr (x : Int) (n : Nat) : Int := (rotN x.toNat n : Int)
theorem rotN_lt (x n : Nat) (hx : x < 4294967296) (hn : n ≤ 32) : rotN x n < 4294967296 := by
  unfold rotN
  have hpq : 2 ^ n * 2 ^ (32 - n) = 4294967296 := by rw [← Nat.pow_add, Nat.add_sub_cancel' hn]
  have hp : 0 < 2 ^ n := Nat.pow_pos (by decide)
  generalize 2 ^ n = p at *
  generalize 2 ^ (32 - n) = q at *
  have hb : x % p + 1 ≤ p := Nat.mod_lt _ hp
  have ha : x / p < q := Nat.div_lt_of_lt_mul (by omega)
  have h1 : (x % p + 1) * q ≤ p * q := Nat.mul_le_mul_right q hb
  rw [Nat.add_mul] at h1
  omega
theorem rotN_succ (x n : Nat) (hn : n ≤ 31) : rotN x (n + 1) = rotN x n / 2 + rotN x n % 2 * 2147483648 := by
  unfold rotN
  have hpq : 2 ^ n * 2 ^ (31 - n) = 2147483648 := by rw [← Nat.pow_add, Nat.add_sub_cancel' hn]
  have e1 : 32 - (n + 1) = 31 - n := by omega
  have e2 : 32 - n = (31 - n) + 1 := by omega
  rw [e1, e2, Nat.pow_succ, Nat.pow_succ, Nat.mod_mul, ← Nat.div_div_eq_div_mul, ← hpq]
  have hp : 0 < 2 ^ n := Nat.pow_pos (by decide)
  generalize 2 ^ n = p at *
  generalize 2 ^ (31 - n) = q at *
  generalize x / p = a
  generalize x % p = b
  have e3 : a + b * (q * 2) = a + 2 * (b * q) := by rw [← Nat.mul_assoc, Nat.mul_comm (b * q) 2]
  rw [e3, Nat.add_mul]
  have e4 : (a + 2 * (b * q)) / 2 = a / 2 + b * q := by omega
  have e5 : (a + 2 * (b * q)) % 2 = a % 2 := by omega
  rw [e4, e5]
  have e6 : a % 2 * (p * q) = p * (a % 2) * q := by rw [← Nat.mul_assoc, Nat.mul_comm (a % 2) p]
  omega
theorem rotr_in (x : Int) (n : Nat) (hx : In32 x) (hn : n ≤ 32) : In32 (rotr x n) := by
  obtain ⟨h1, h2⟩ := hx
  have := rotN_lt x.toNat n (by omega) hn
  unfold rotr In32
  omega
theorem rotr_zero (x : Int) (hx : In32 x) : rotr x 0 = x := by
  have := hx.1
  unfold rotr rotN
  simp
  omega
theorem turn_step (x : Int) (n : Nat) (hx : In32 x) (hn : n ≤ 31) : bits .or .u32 (rotr x n / 2) (rotr x n * 2147483648 % 4294967296) = rotr x (n + 1) := by
  obtain ⟨h1, h2⟩ := rotr_in x n hx (by omega)
  unfold rotr at *
  rw [rotN_succ _ _ hn]
  generalize rotN x.toNat n = y at *
  have e1 : ((y : Int) / 2) = ((y / 2 : Nat) : Int) := by omega
  have e2 : ((y : Int) * 2147483648 % 4294967296) = ((y % 2 * 2147483648 : Nat) : Int) := by omega
  rw [e1, e2, u32_or_nat _ _ (by omega) (by omega), Nat.or_comm, nat_join 31 _ _ (by omega) (by omega)]
  omega

set_option maxHeartbeats 400000 in
theorem turned_any (x : Int) (n : Nat) (hn : n ≤ 31) (hx : In32 x) (w : World) : Calls Tryd.prog 69 #[.int .u32 x, .int .i64 n] w fun e w' => e = .returned (.int .u32 (rotr x n)) ∧ w = w' := by
  have HX := Lib.hid hx
  clear hx
  go_enter Tryd.func69, Tryd.ntmps69
  go_wp2
  go_loopg [0, 6] n (fun k y i wr => ∃ j : Nat, j + k = n ∧ i = .int .i64 (j : Int) ∧ y = .int .u32 (rotr x j) ∧ w = wr)
  case atStart => exact ⟨0, by omega, rfl, by rw [rotr_zero x HX.out], rfl⟩
  case round =>
    obtain ⟨j, hj, rfl, rfl, rfl⟩ := hrel
    by_cases hlt : j < n
    · go_wp2
      go_roundg (gk - 1)
      case measure => omega
      case rel => exact ⟨j + 1, by omega, by go_num, by rw [turn_step x j HX.out (by omega)], rfl⟩
    · obtain rfl : j = n := by omega
      go_wp2
      go_ret
      exact ⟨rfl, rfl⟩
theorem or_rot2 (x : Int) (hx : In32 x) : bits .or .u32 (IntKind.u32.wrap (x * 1073741824)) (x / 4) = rotr x 2 := by
  obtain ⟨h1, h2⟩ := hx
  obtain ⟨y, rfl⟩ : ∃ y : Nat, x = y := ⟨x.toNat, by omega⟩
  have e1 : IntKind.u32.wrap ((y : Int) * 1073741824) = ((y % 4 * 1073741824 : Nat) : Int) := by rw [IntKind.wrap_u32]; omega
  have e2 : ((y : Int) / 4) = ((y / 4 : Nat) : Int) := by omega
  rw [e1, e2, u32_or_nat _ _ (by omega) (by omega), nat_join 30 _ _ (by omega) (by omega)]
  unfold rotr rotN
  simp only [Int.toNat_natCast]
  have e3 : (2 : Nat) ^ 2 = 4 := by decide
  have e4 : (2 : Nat) ^ (32 - 2) = 1073741824 := by decide
  rw [e3, e4]
  omega
set_option maxHeartbeats 400000 in
theorem rotL2 (x : Int) (hx : In32 x) (w : World) : Calls Tryd.prog 81 #[.int .u32 x, .int .i64 (-2)] w fun e w' => e = .returned (.int .u32 (rotr x 2)) ∧ w = w' := by
  have e0 : IntKind.u64.wrap (-2) = 18446744073709551614 := by decide
  have e : bits .and .u64 18446744073709551614 31 = 30 := by decide
  have HX := Lib.hid (or_rot2 x hx)
  clear hx
  go_enter Tryd.func81, Tryd.ntmps81
  go_wp2
  go_ret
  exact ⟨congrArg (fun m => Ending.returned (Value.int .u32 m)) HX.out, rfl⟩
theorem or_rot6 (x : Int) (hx : In32 x) : bits .or .u32 (IntKind.u32.wrap (x * 67108864)) (x / 64) = rotr x 6 := by
  obtain ⟨h1, h2⟩ := hx
  obtain ⟨y, rfl⟩ : ∃ y : Nat, x = y := ⟨x.toNat, by omega⟩
  have e1 : IntKind.u32.wrap ((y : Int) * 67108864) = ((y % 64 * 67108864 : Nat) : Int) := by rw [IntKind.wrap_u32]; omega
  have e2 : ((y : Int) / 64) = ((y / 64 : Nat) : Int) := by omega
  rw [e1, e2, u32_or_nat _ _ (by omega) (by omega), nat_join 26 _ _ (by omega) (by omega)]
  unfold rotr rotN
  simp only [Int.toNat_natCast]
  have e3 : (2 : Nat) ^ 6 = 64 := by decide
  have e4 : (2 : Nat) ^ (32 - 6) = 67108864 := by decide
  rw [e3, e4]
  omega
set_option maxHeartbeats 400000 in
theorem rotL6 (x : Int) (hx : In32 x) (w : World) : Calls Tryd.prog 81 #[.int .u32 x, .int .i64 (-6)] w fun e w' => e = .returned (.int .u32 (rotr x 6)) ∧ w = w' := by
  have e0 : IntKind.u64.wrap (-6) = 18446744073709551610 := by decide
  have e : bits .and .u64 18446744073709551610 31 = 26 := by decide
  have HX := Lib.hid (or_rot6 x hx)
  clear hx
  go_enter Tryd.func81, Tryd.ntmps81
  go_wp2
  go_ret
  exact ⟨congrArg (fun m => Ending.returned (Value.int .u32 m)) HX.out, rfl⟩
theorem or_rot7 (x : Int) (hx : In32 x) : bits .or .u32 (IntKind.u32.wrap (x * 33554432)) (x / 128) = rotr x 7 := by
  obtain ⟨h1, h2⟩ := hx
  obtain ⟨y, rfl⟩ : ∃ y : Nat, x = y := ⟨x.toNat, by omega⟩
  have e1 : IntKind.u32.wrap ((y : Int) * 33554432) = ((y % 128 * 33554432 : Nat) : Int) := by rw [IntKind.wrap_u32]; omega
  have e2 : ((y : Int) / 128) = ((y / 128 : Nat) : Int) := by omega
  rw [e1, e2, u32_or_nat _ _ (by omega) (by omega), nat_join 25 _ _ (by omega) (by omega)]
  unfold rotr rotN
  simp only [Int.toNat_natCast]
  have e3 : (2 : Nat) ^ 7 = 128 := by decide
  have e4 : (2 : Nat) ^ (32 - 7) = 33554432 := by decide
  rw [e3, e4]
  omega
set_option maxHeartbeats 400000 in
theorem rotL7 (x : Int) (hx : In32 x) (w : World) : Calls Tryd.prog 81 #[.int .u32 x, .int .i64 (-7)] w fun e w' => e = .returned (.int .u32 (rotr x 7)) ∧ w = w' := by
  have e0 : IntKind.u64.wrap (-7) = 18446744073709551609 := by decide
  have e : bits .and .u64 18446744073709551609 31 = 25 := by decide
  have HX := Lib.hid (or_rot7 x hx)
  clear hx
  go_enter Tryd.func81, Tryd.ntmps81
  go_wp2
  go_ret
  exact ⟨congrArg (fun m => Ending.returned (Value.int .u32 m)) HX.out, rfl⟩
theorem or_rot11 (x : Int) (hx : In32 x) : bits .or .u32 (IntKind.u32.wrap (x * 2097152)) (x / 2048) = rotr x 11 := by
  obtain ⟨h1, h2⟩ := hx
  obtain ⟨y, rfl⟩ : ∃ y : Nat, x = y := ⟨x.toNat, by omega⟩
  have e1 : IntKind.u32.wrap ((y : Int) * 2097152) = ((y % 2048 * 2097152 : Nat) : Int) := by rw [IntKind.wrap_u32]; omega
  have e2 : ((y : Int) / 2048) = ((y / 2048 : Nat) : Int) := by omega
  rw [e1, e2, u32_or_nat _ _ (by omega) (by omega), nat_join 21 _ _ (by omega) (by omega)]
  unfold rotr rotN
  simp only [Int.toNat_natCast]
  have e3 : (2 : Nat) ^ 11 = 2048 := by decide
  have e4 : (2 : Nat) ^ (32 - 11) = 2097152 := by decide
  rw [e3, e4]
  omega
set_option maxHeartbeats 400000 in
theorem rotL11 (x : Int) (hx : In32 x) (w : World) : Calls Tryd.prog 81 #[.int .u32 x, .int .i64 (-11)] w fun e w' => e = .returned (.int .u32 (rotr x 11)) ∧ w = w' := by
  have e0 : IntKind.u64.wrap (-11) = 18446744073709551605 := by decide
  have e : bits .and .u64 18446744073709551605 31 = 21 := by decide
  have HX := Lib.hid (or_rot11 x hx)
  clear hx
  go_enter Tryd.func81, Tryd.ntmps81
  go_wp2
  go_ret
  exact ⟨congrArg (fun m => Ending.returned (Value.int .u32 m)) HX.out, rfl⟩
theorem or_rot13 (x : Int) (hx : In32 x) : bits .or .u32 (IntKind.u32.wrap (x * 524288)) (x / 8192) = rotr x 13 := by
  obtain ⟨h1, h2⟩ := hx
  obtain ⟨y, rfl⟩ : ∃ y : Nat, x = y := ⟨x.toNat, by omega⟩
  have e1 : IntKind.u32.wrap ((y : Int) * 524288) = ((y % 8192 * 524288 : Nat) : Int) := by rw [IntKind.wrap_u32]; omega
  have e2 : ((y : Int) / 8192) = ((y / 8192 : Nat) : Int) := by omega
  rw [e1, e2, u32_or_nat _ _ (by omega) (by omega), nat_join 19 _ _ (by omega) (by omega)]
  unfold rotr rotN
  simp only [Int.toNat_natCast]
  have e3 : (2 : Nat) ^ 13 = 8192 := by decide
  have e4 : (2 : Nat) ^ (32 - 13) = 524288 := by decide
  rw [e3, e4]
  omega
set_option maxHeartbeats 400000 in
theorem rotL13 (x : Int) (hx : In32 x) (w : World) : Calls Tryd.prog 81 #[.int .u32 x, .int .i64 (-13)] w fun e w' => e = .returned (.int .u32 (rotr x 13)) ∧ w = w' := by
  have e0 : IntKind.u64.wrap (-13) = 18446744073709551603 := by decide
  have e : bits .and .u64 18446744073709551603 31 = 19 := by decide
  have HX := Lib.hid (or_rot13 x hx)
  clear hx
  go_enter Tryd.func81, Tryd.ntmps81
  go_wp2
  go_ret
  exact ⟨congrArg (fun m => Ending.returned (Value.int .u32 m)) HX.out, rfl⟩
theorem or_rot17 (x : Int) (hx : In32 x) : bits .or .u32 (IntKind.u32.wrap (x * 32768)) (x / 131072) = rotr x 17 := by
  obtain ⟨h1, h2⟩ := hx
  obtain ⟨y, rfl⟩ : ∃ y : Nat, x = y := ⟨x.toNat, by omega⟩
  have e1 : IntKind.u32.wrap ((y : Int) * 32768) = ((y % 131072 * 32768 : Nat) : Int) := by rw [IntKind.wrap_u32]; omega
  have e2 : ((y : Int) / 131072) = ((y / 131072 : Nat) : Int) := by omega
  rw [e1, e2, u32_or_nat _ _ (by omega) (by omega), nat_join 15 _ _ (by omega) (by omega)]
  unfold rotr rotN
  simp only [Int.toNat_natCast]
  have e3 : (2 : Nat) ^ 17 = 131072 := by decide
  have e4 : (2 : Nat) ^ (32 - 17) = 32768 := by decide
  rw [e3, e4]
  omega
set_option maxHeartbeats 400000 in
theorem rotL17 (x : Int) (hx : In32 x) (w : World) : Calls Tryd.prog 81 #[.int .u32 x, .int .i64 (-17)] w fun e w' => e = .returned (.int .u32 (rotr x 17)) ∧ w = w' := by
  have e0 : IntKind.u64.wrap (-17) = 18446744073709551599 := by decide
  have e : bits .and .u64 18446744073709551599 31 = 15 := by decide
  have HX := Lib.hid (or_rot17 x hx)
  clear hx
  go_enter Tryd.func81, Tryd.ntmps81
  go_wp2
  go_ret
  exact ⟨congrArg (fun m => Ending.returned (Value.int .u32 m)) HX.out, rfl⟩
theorem or_rot18 (x : Int) (hx : In32 x) : bits .or .u32 (IntKind.u32.wrap (x * 16384)) (x / 262144) = rotr x 18 := by
  obtain ⟨h1, h2⟩ := hx
  obtain ⟨y, rfl⟩ : ∃ y : Nat, x = y := ⟨x.toNat, by omega⟩
  have e1 : IntKind.u32.wrap ((y : Int) * 16384) = ((y % 262144 * 16384 : Nat) : Int) := by rw [IntKind.wrap_u32]; omega
  have e2 : ((y : Int) / 262144) = ((y / 262144 : Nat) : Int) := by omega
  rw [e1, e2, u32_or_nat _ _ (by omega) (by omega), nat_join 14 _ _ (by omega) (by omega)]
  unfold rotr rotN
  simp only [Int.toNat_natCast]
  have e3 : (2 : Nat) ^ 18 = 262144 := by decide
  have e4 : (2 : Nat) ^ (32 - 18) = 16384 := by decide
  rw [e3, e4]
  omega
set_option maxHeartbeats 400000 in
theorem rotL18 (x : Int) (hx : In32 x) (w : World) : Calls Tryd.prog 81 #[.int .u32 x, .int .i64 (-18)] w fun e w' => e = .returned (.int .u32 (rotr x 18)) ∧ w = w' := by
  have e0 : IntKind.u64.wrap (-18) = 18446744073709551598 := by decide
  have e : bits .and .u64 18446744073709551598 31 = 14 := by decide
  have HX := Lib.hid (or_rot18 x hx)
  clear hx
  go_enter Tryd.func81, Tryd.ntmps81
  go_wp2
  go_ret
  exact ⟨congrArg (fun m => Ending.returned (Value.int .u32 m)) HX.out, rfl⟩
theorem or_rot19 (x : Int) (hx : In32 x) : bits .or .u32 (IntKind.u32.wrap (x * 8192)) (x / 524288) = rotr x 19 := by
  obtain ⟨h1, h2⟩ := hx
  obtain ⟨y, rfl⟩ : ∃ y : Nat, x = y := ⟨x.toNat, by omega⟩
  have e1 : IntKind.u32.wrap ((y : Int) * 8192) = ((y % 524288 * 8192 : Nat) : Int) := by rw [IntKind.wrap_u32]; omega
  have e2 : ((y : Int) / 524288) = ((y / 524288 : Nat) : Int) := by omega
  rw [e1, e2, u32_or_nat _ _ (by omega) (by omega), nat_join 13 _ _ (by omega) (by omega)]
  unfold rotr rotN
  simp only [Int.toNat_natCast]
  have e3 : (2 : Nat) ^ 19 = 524288 := by decide
  have e4 : (2 : Nat) ^ (32 - 19) = 8192 := by decide
  rw [e3, e4]
  omega
set_option maxHeartbeats 400000 in
theorem rotL19 (x : Int) (hx : In32 x) (w : World) : Calls Tryd.prog 81 #[.int .u32 x, .int .i64 (-19)] w fun e w' => e = .returned (.int .u32 (rotr x 19)) ∧ w = w' := by
  have e0 : IntKind.u64.wrap (-19) = 18446744073709551597 := by decide
  have e : bits .and .u64 18446744073709551597 31 = 13 := by decide
  have HX := Lib.hid (or_rot19 x hx)
  clear hx
  go_enter Tryd.func81, Tryd.ntmps81
  go_wp2
  go_ret
  exact ⟨congrArg (fun m => Ending.returned (Value.int .u32 m)) HX.out, rfl⟩
theorem or_rot22 (x : Int) (hx : In32 x) : bits .or .u32 (IntKind.u32.wrap (x * 1024)) (x / 4194304) = rotr x 22 := by
  obtain ⟨h1, h2⟩ := hx
  obtain ⟨y, rfl⟩ : ∃ y : Nat, x = y := ⟨x.toNat, by omega⟩
  have e1 : IntKind.u32.wrap ((y : Int) * 1024) = ((y % 4194304 * 1024 : Nat) : Int) := by rw [IntKind.wrap_u32]; omega
  have e2 : ((y : Int) / 4194304) = ((y / 4194304 : Nat) : Int) := by omega
  rw [e1, e2, u32_or_nat _ _ (by omega) (by omega), nat_join 10 _ _ (by omega) (by omega)]
  unfold rotr rotN
  simp only [Int.toNat_natCast]
  have e3 : (2 : Nat) ^ 22 = 4194304 := by decide
  have e4 : (2 : Nat) ^ (32 - 22) = 1024 := by decide
  rw [e3, e4]
  omega
set_option maxHeartbeats 400000 in
theorem rotL22 (x : Int) (hx : In32 x) (w : World) : Calls Tryd.prog 81 #[.int .u32 x, .int .i64 (-22)] w fun e w' => e = .returned (.int .u32 (rotr x 22)) ∧ w = w' := by
  have e0 : IntKind.u64.wrap (-22) = 18446744073709551594 := by decide
  have e : bits .and .u64 18446744073709551594 31 = 10 := by decide
  have HX := Lib.hid (or_rot22 x hx)
  clear hx
  go_enter Tryd.func81, Tryd.ntmps81
  go_wp2
  go_ret
  exact ⟨congrArg (fun m => Ending.returned (Value.int .u32 m)) HX.out, rfl⟩
theorem or_rot25 (x : Int) (hx : In32 x) : bits .or .u32 (IntKind.u32.wrap (x * 128)) (x / 33554432) = rotr x 25 := by
  obtain ⟨h1, h2⟩ := hx
  obtain ⟨y, rfl⟩ : ∃ y : Nat, x = y := ⟨x.toNat, by omega⟩
  have e1 : IntKind.u32.wrap ((y : Int) * 128) = ((y % 33554432 * 128 : Nat) : Int) := by rw [IntKind.wrap_u32]; omega
  have e2 : ((y : Int) / 33554432) = ((y / 33554432 : Nat) : Int) := by omega
  rw [e1, e2, u32_or_nat _ _ (by omega) (by omega), nat_join 7 _ _ (by omega) (by omega)]
  unfold rotr rotN
  simp only [Int.toNat_natCast]
  have e3 : (2 : Nat) ^ 25 = 33554432 := by decide
  have e4 : (2 : Nat) ^ (32 - 25) = 128 := by decide
  rw [e3, e4]
  omega
set_option maxHeartbeats 400000 in
theorem rotL25 (x : Int) (hx : In32 x) (w : World) : Calls Tryd.prog 81 #[.int .u32 x, .int .i64 (-25)] w fun e w' => e = .returned (.int .u32 (rotr x 25)) ∧ w = w' := by
  have e0 : IntKind.u64.wrap (-25) = 18446744073709551591 := by decide
  have e : bits .and .u64 18446744073709551591 31 = 7 := by decide
  have HX := Lib.hid (or_rot25 x hx)
  clear hx
  go_enter Tryd.func81, Tryd.ntmps81
  go_wp2
  go_ret
  exact ⟨congrArg (fun m => Ending.returned (Value.int .u32 m)) HX.out, rfl⟩
end Go.Proofs.YtghjgkgfpblijaaDoor.S
end
section
namespace Go.Proofs.YtghjgkgfpblijaaDoor.S
open Go.RowKit

def kList : List Int := [1116352408, 1899447441, 3049323471, 3921009573, 961987163, 1508970993, 2453635748, 2870763221, 3624381080, 310598401, 607225278, 1426881987, 1925078388, 2162078206, 2614888103, 3248222580, 3835390401, 4022224774, 264347078, 604807628, 770255983, 1249150122, 1555081692, 1996064986, 2554220882, 2821834349, 2952996808, 3210313671, 3336571891, 3584528711, 113926993, 338241895, 666307205, 773529912, 1294757372, 1396182291, 1695183700, 1986661051, 2177026350, 2456956037, 2730485921, 2820302411, 3259730800, 3345764771, 3516065817, 3600352804, 4094571909, 275423344, 430227734, 506948616, 659060556, 883997877, 958139571, 1322822218, 1537002063, 1747873779, 1955562222, 2024104815, 2227730452, 2361852424, 2428436474, 2756734187, 3204031479, 3329325298]
def kWord (i : Nat) : Int := kList.getD i 0

/-- Four bytes, the highest first. -/
def be32 (x : Nat → Int) (i : Nat) : Int := ((x (4 * i) * 256 + x (4 * i + 1)) * 256 + x (4 * i + 2)) * 256 + x (4 * i + 3)
def sig0 (v : Int) : Int := bits .xor .u32 (bits .xor .u32 (rotr v 7) (rotr v 18)) (v / 8)
def sig1 (v : Int) : Int := bits .xor .u32 (bits .xor .u32 (rotr v 17) (rotr v 19)) (v / 1024)
/-- A word out of earlier ones. -/
def laterWord (a x b y : Int) : Int := (a + sig0 x + b + sig1 y) % 4294967296
def nextWord (x : Nat → Int) (k : Nat) (v : Nat → Int) : Int := if k < 16 then be32 x k else laterWord (v (k - 16)) (v (k - 15)) (v (k - 7)) (v (k - 2))
def wordList (x : Nat → Int) : Nat → List Int
  | 0 => []
  | k + 1 => wordList x k ++ [nextWord x k fun i => (wordList x k).getD i 0]
/-- Word i of a block's 64. -/
def W (x : Nat → Int) (i : Nat) : Int := (wordList x (i + 1)).getD i 0
theorem wordList_length (x : Nat → Int) : ∀ k, (wordList x k).length = k
  | 0 => rfl
  | k + 1 => by rw [wordList, List.length_append, wordList_length x k]; rfl
theorem wordList_get (x : Nat → Int) (i : Nat) : ∀ k, i < k → (wordList x k).getD i 0 = W x i
  | 0, h => absurd h (by omega)
  | k + 1, h => by
    rcases Nat.lt_or_ge i k with q | q
    · rw [← wordList_get x i k q, wordList, List.getD_eq_getElem?_getD, List.getD_eq_getElem?_getD, List.getElem?_append_left (by rw [wordList_length]; exact q)]
    · obtain rfl : i = k := by omega
      rfl
theorem W_next (x : Nat → Int) (k : Nat) : W x k = nextWord x k fun i => (wordList x k).getD i 0 := by
  rw [W, wordList, List.getD_eq_getElem?_getD, List.getElem?_append_right (by rw [wordList_length]; exact Nat.le_refl _), wordList_length]
  simp
theorem W_low (x : Nat → Int) (k : Nat) (h : k < 16) : W x k = be32 x k := by rw [W_next, nextWord, if_pos h]
theorem W_high (x : Nat → Int) (k : Nat) (h : 16 ≤ k) : W x k = laterWord (W x (k - 16)) (W x (k - 15)) (W x (k - 7)) (W x (k - 2)) := by
  rw [W_next, nextWord, if_neg (by omega)]
  rw [wordList_get x (k - 16) k (by omega), wordList_get x (k - 15) k (by omega), wordList_get x (k - 7) k (by omega), wordList_get x (k - 2) k (by omega)]
theorem W_in (x : Nat → Int) (hx : ∀ i, 0 ≤ x i ∧ x i ≤ 255) (k : Nat) : In32 (W x k) := by
  rcases Nat.lt_or_ge k 16 with h | h
  · rw [W_low x k h]
    have h0 := hx (4 * k)
    have h1 := hx (4 * k + 1)
    have h2 := hx (4 * k + 2)
    have h3 := hx (4 * k + 3)
    unfold be32 In32
    omega
  · rw [W_high x k h]
    unfold laterWord In32
    omega

/-- Eight words. -/
structure R8 where
  a : Int
  b : Int
  c : Int
  d : Int
  e : Int
  f : Int
  g : Int
  h : Int
def R8.nth (s : R8) (i : Nat) : Int := if i = 0 then s.a else if i = 1 then s.b else if i = 2 then s.c else if i = 3 then s.d else if i = 4 then s.e else if i = 5 then s.f else if i = 6 then s.g else s.h
structure R8.In (s : R8) : Prop where
  a : In32 s.a
  b : In32 s.b
  c : In32 s.c
  d : In32 s.d
  e : In32 s.e
  f : In32 s.f
  g : In32 s.g
  h : In32 s.h
def big1 (e : Int) : Int := bits .xor .u32 (bits .xor .u32 (rotr e 6) (rotr e 11)) (rotr e 25)
def big0 (a : Int) : Int := bits .xor .u32 (bits .xor .u32 (rotr a 2) (rotr a 13)) (rotr a 22)
def maj (a b c : Int) : Int := bits .xor .u32 (bits .xor .u32 (bits .and .u32 a b) (bits .and .u32 a c)) (bits .and .u32 b c)
def cho (e f g : Int) : Int := bits .xor .u32 (bits .and .u32 e f) (bits .and .u32 (bits .xor .u32 IntKind.u32.max e) g)
def t1 (s : R8) (k w : Int) : Int := IntKind.u32.wrap (IntKind.u32.wrap (IntKind.u32.wrap (IntKind.u32.wrap (s.h + big1 s.e) + cho s.e s.f s.g) + k) + w)
def t2 (s : R8) : Int := IntKind.u32.wrap (big0 s.a + maj s.a s.b s.c)
/-- One round. -/
def rnd (s : R8) (k w : Int) : R8 := ⟨IntKind.u32.wrap (t1 s k w + t2 s), s.a, s.b, s.c, IntKind.u32.wrap (s.d + t1 s k w), s.e, s.f, s.g⟩
def rnds (x : Nat → Int) (s : R8) : Nat → R8
  | 0 => s
  | n + 1 => rnd (rnds x s n) (kWord n) (W x n)
def addS (s t : R8) : R8 := ⟨IntKind.u32.wrap (s.a + t.a), IntKind.u32.wrap (s.b + t.b), IntKind.u32.wrap (s.c + t.c), IntKind.u32.wrap (s.d + t.d), IntKind.u32.wrap (s.e + t.e), IntKind.u32.wrap (s.f + t.f), IntKind.u32.wrap (s.g + t.g), IntKind.u32.wrap (s.h + t.h)⟩
/-- A block, worked in. -/
def compress (s : R8) (x : Nat → Int) : R8 := addS s (rnds x s 64)
theorem rnd_in (s : R8) (h : s.In) (k w : Int) : (rnd s k w).In := ⟨in32_wrap _, h.a, h.b, h.c, in32_wrap _, h.e, h.f, h.g⟩
theorem rnds_in (x : Nat → Int) (s : R8) (h : s.In) : ∀ n, (rnds x s n).In
  | 0 => h
  | n + 1 => rnd_in _ (rnds_in x s h n) _ _
theorem compress_in (s : R8) (x : Nat → Int) : (compress s x).In := ⟨in32_wrap _, in32_wrap _, in32_wrap _, in32_wrap _, in32_wrap _, in32_wrap _, in32_wrap _, in32_wrap _⟩
theorem addS_nth (s t : R8) (i : Nat) : (addS s t).nth i = IntKind.u32.wrap (s.nth i + t.nth i) := by
  unfold R8.nth addS
  repeat' split
  all_goals rfl
/-- Words moved on by one, from place q + 1 on. -/
def moved (s : R8) (q i : Nat) : Int := if q < i then s.nth (i - 1) else s.nth i
theorem moved_0 (s : R8) (k w : Int) (i : Nat) (hi : i < 8) (h0 : i ≠ 0) (h4 : i ≠ 4) : moved s 0 i = (rnd s k w).nth i := by
  match i, hi, h0, h4 with
  | 1, _, _, _ => rfl
  | 2, _, _, _ => rfl
  | 3, _, _, _ => rfl
  | 5, _, _, _ => rfl
  | 6, _, _, _ => rfl
  | 7, _, _, _ => rfl
theorem moved_7 (s : R8) (i : Nat) (hi : i < 8) : s.nth i = moved s 7 i := by
  unfold moved; rw [if_neg (by omega)]
theorem moved_step (s : R8) (q i : Nat) (h : q + 1 ≠ i) : moved s (q + 1) i = moved s q i := by
  unfold moved
  by_cases e : q < i
  · rw [if_pos e, if_pos (by omega)]
  · rw [if_neg e, if_neg (by omega)]
theorem moved_at (s : R8) (q : Nat) : moved s q (q + 1) = s.nth q := by
  unfold moved; rw [if_pos (by omega)]; rfl
theorem moved_low (s : R8) (q i : Nat) (h : i ≤ q) : moved s q i = s.nth i := by
  unfold moved; rw [if_neg (by omega)]
end Go.Proofs.YtghjgkgfpblijaaDoor.S
end
section
namespace Go.Proofs.YtghjgkgfpblijaaDoor.S
open Go.RowKit

/-- A word turned left by n. -/
def rotl (x : Int) (n : Nat) : Int := bits .or .u64 (IntKind.u64.wrap (x * 2 ^ n)) (x / 2 ^ (64 - n))

/-- Four words as cells. -/
def W4 (a b c d : Int) : Array Value := #[.int .u64 a, .int .u64 b, .int .u64 c, .int .u64 d]

structure S4 where
  a : Int
  b : Int
  c : Int
  d : Int
def S4.cells (s : S4) : Array Value := W4 s.a s.b s.c s.d

def addLaw (x y : Int) : Int := IntKind.u64.wrap (x + y)
/-- The statements of a round, one by one. -/
def st0 (s : S4) : S4 := { s with a := IntKind.u64.wrap (s.a + s.b) }
def st1 (s : S4) : S4 := { s with b := bits .xor .u64 (rotl s.b 13) s.a }
def st2 (s : S4) : S4 := { s with a := rotl s.a 32 }
def st3 (s : S4) : S4 := { s with c := IntKind.u64.wrap (s.c + s.d) }
def st4 (s : S4) : S4 := { s with d := bits .xor .u64 (rotl s.d 16) s.c }
def st5 (s : S4) : S4 := { s with a := IntKind.u64.wrap (s.a + s.d) }
def st6 (s : S4) : S4 := { s with d := bits .xor .u64 (rotl s.d 21) s.a }
def st7 (s : S4) : S4 := { s with c := IntKind.u64.wrap (s.c + s.b) }
def st8 (s : S4) : S4 := { s with b := bits .xor .u64 (rotl s.b 17) s.c }
def st9 (s : S4) : S4 := { s with c := rotl s.c 32 }
def round (s : S4) : S4 := st9 (st8 (st7 (st6 (st5 (st4 (st3 (st2 (st1 (st0 s)))))))))
/-- So many rounds. -/
def rounds : Nat → S4 → S4
  | 0, s => s
  | n + 1, s => round (rounds n s)
/-- A word is worked in. -/
def mixed (s : S4) (m : Int) : S4 :=
  let t := rounds 2 { s with d := bits .xor .u64 s.d m }
  { t with a := bits .xor .u64 t.a m }
/-- A byte, set into a word at place i. -/
def setByte (m : Int) (i : Nat) (x : Int) : Int := bits .or .u64 m (IntKind.u64.wrap (x * 2 ^ (8 * i)))
end Go.Proofs.YtghjgkgfpblijaaDoor.S
end
section
namespace Go.Proofs.YtghjgkgfpblijaaDoor.S
open Go.RowKit

/-- The word of the first k bytes. -/
def wordUpto (x : Nat → Int) : Nat → Int
  | 0 => 0
  | k + 1 => setByte (wordUpto x k) k (x k)
def sipStart (k0 k1 : Int) : S4 := ⟨bits .xor .u64 k0 8317987319222330741, bits .xor .u64 k1 7237128888997146477, bits .xor .u64 k0 7816392313619706465, bits .xor .u64 k1 8387220255154660723⟩
/-- The bytes of word j. -/
def byteAt (x : Nat → Int) (j i : Nat) : Int := x (8 * j + i)
/-- The state behind so many whole words. -/
def sws (k0 k1 : Int) (x : Nat → Int) : Nat → S4
  | 0 => sipStart k0 k1
  | j + 1 => mixed (sws k0 k1 x j) (wordUpto (byteAt x j) 8)
/-- The last word: what is left over, and the count. -/
def lastWord (x : Nat → Int) (n : Nat) : Int := bits .or .u64 (wordUpto (byteAt x (n / 8)) (n % 8)) ((n : Int) % 256 * 72057594037927936)
def lastState (k0 k1 : Int) (x : Nat → Int) (n : Nat) : S4 := mixed (sws k0 k1 x (n / 8)) (lastWord x n)
def folded (t : S4) : Int := bits .xor .u64 (bits .xor .u64 (bits .xor .u64 t.a t.b) t.c) t.d
def sipEnd (s : S4) : Int := folded (rounds 4 { s with c := bits .xor .u64 s.c 255 })
def sipSum (k0 k1 : Int) (x : Nat → Int) (n : Nat) : Int := sipEnd (lastState k0 k1 x n)

theorem byteAt_here (x : Nat → Int) (j : Nat) : byteAt x (j / 8) (j % 8) = x j := by
  unfold byteAt; rw [Nat.div_add_mod]
theorem sws_step (k0 k1 : Int) (x : Nat → Int) (j : Nat) (h : j % 8 = 7) : sws k0 k1 x ((j + 1) / 8) = mixed (sws k0 k1 x (j / 8)) (setByte (wordUpto (byteAt x (j / 8)) (j % 8)) (j % 8) (x j)) := by
  have e : (j + 1) / 8 = j / 8 + 1 := by omega
  rw [e, sws, ← byteAt_here x j, h]
  rfl
theorem word_step (x : Nat → Int) (j : Nat) (h : j % 8 ≠ 7) : wordUpto (byteAt x ((j + 1) / 8)) ((j + 1) % 8) = setByte (wordUpto (byteAt x (j / 8)) (j % 8)) (j % 8) (x j) := by
  have e : (j + 1) / 8 = j / 8 := by omega
  have e2 : (j + 1) % 8 = j % 8 + 1 := by omega
  rw [e, e2, wordUpto, byteAt_here]
theorem word_none (x : Nat → Int) (j : Nat) (h : j % 8 = 7) : wordUpto (byteAt x ((j + 1) / 8)) ((j + 1) % 8) = 0 := by
  have e2 : (j + 1) % 8 = 0 := by omega
  rw [e2]; rfl
theorem sws_same (k0 k1 : Int) (x : Nat → Int) (j : Nat) (h : j % 8 ≠ 7) : sws k0 k1 x ((j + 1) / 8) = sws k0 k1 x (j / 8) := by
  have e : (j + 1) / 8 = j / 8 := by omega
  rw [e]
end Go.Proofs.YtghjgkgfpblijaaDoor.S
end
section
namespace Go.Proofs.YtghjgkgfpblijaaDoor.S
open Go.RowKit

/-- Eight bytes as cells. -/
def B8 (x : Nat → Int) : Array Value := #[.int .u8 (x 0), .int .u8 (x 1), .int .u8 (x 2), .int .u8 (x 3), .int .u8 (x 4), .int .u8 (x 5), .int .u8 (x 6), .int .u8 (x 7)]
def lastStart (n : Nat) : Array Value := #[.int .u8 0, .int .u8 0, .int .u8 0, .int .u8 0, .int .u8 0, .int .u8 0, .int .u8 0, .int .u8 ((n : Int) % 256)]
def firstBytes (x : Nat → Int) (r : Nat) : List Value := (List.range r).map fun i => .int .u8 (x i)
def lastBytes (x : Nat → Int) (r n i : Nat) : Int := if i < r then x i else if i = 7 then (n : Int) % 256 else 0

theorem splice_last (x : Nat → Int) (n r : Nat) (h : r < 8) : (splice (lastStart n).toList 0 (firstBytes x r)).toArray = B8 (lastBytes x r n) := by
  match r, h with
  | 0, _ => rfl
  | 1, _ => rfl
  | 2, _ => rfl
  | 3, _ => rfl
  | 4, _ => rfl
  | 5, _ => rfl
  | 6, _ => rfl
  | 7, _ => rfl

def In64 (m : Int) : Prop := 0 ≤ m ∧ m < 18446744073709551616
theorem in_wrap (m : Int) : In64 (IntKind.u64.wrap m) := by rw [IntKind.wrap_u64]; unfold In64; omega
theorem in_or {a b : Int} (ha : In64 a) (hb : In64 b) : In64 (bits .or .u64 a b) := by
  rw [u64_or a b ha.1 ha.2 hb.1 hb.2]
  have h1 : a.toNat < 2 ^ 64 := by have := ha.1; have := ha.2; omega
  have h2 : b.toNat < 2 ^ 64 := by have := hb.1; have := hb.2; omega
  have h := Nat.or_lt_two_pow h1 h2
  unfold In64
  omega
theorem in_word (x : Nat → Int) : ∀ k, In64 (wordUpto x k)
  | 0 => ⟨Int.le_refl 0, (by decide : (0 : Int) < 18446744073709551616)⟩
  | k + 1 => in_or (in_word x k) (in_wrap _)
theorem or_zero {a : Int} (ha : In64 a) : bits .or .u64 a 0 = a := by
  rw [u64_or a 0 ha.1 ha.2 (by decide) (by decide)]
  simp
  have := ha.1
  omega
theorem setByte_zero {m : Int} (hm : In64 m) (i : Nat) : setByte m i 0 = m := by
  unfold setByte
  rw [Int.zero_mul]
  exact or_zero hm
theorem word_same (x : Nat → Int) (r n : Nat) : ∀ k, k ≤ r → wordUpto (lastBytes x r n) k = wordUpto x k
  | 0, _ => rfl
  | k + 1, h => by
    rw [wordUpto, wordUpto, word_same x r n k (by omega)]
    have : lastBytes x r n k = x k := by unfold lastBytes; rw [if_pos (by omega)]
    rw [this]
theorem word_zeros (x : Nat → Int) (r n : Nat) : ∀ k, r ≤ k → k ≤ 7 → wordUpto (lastBytes x r n) k = wordUpto x r
  | 0, h, _ => by obtain rfl : r = 0 := by omega
                  rfl
  | k + 1, h, h7 => by
    rcases Nat.lt_or_ge k r with q | q
    · obtain rfl : r = k + 1 := by omega
      exact word_same x _ n _ (Nat.le_refl _)
    · rw [wordUpto, word_zeros x r n k q (by omega)]
      have : lastBytes x r n k = 0 := by unfold lastBytes; rw [if_neg (by omega), if_neg (by omega)]
      rw [this]
      exact setByte_zero (in_word x r) k
theorem word_last (x : Nat → Int) (r n : Nat) (h : r < 8) : wordUpto (lastBytes x r n) 8 = bits .or .u64 (wordUpto x r) ((n : Int) % 256 * 72057594037927936) := by
  rw [wordUpto, word_zeros x r n 7 (by omega) (by omega)]
  have : lastBytes x r n 7 = (n : Int) % 256 := by unfold lastBytes; rw [if_neg (by omega), if_pos rfl]
  rw [this]
  unfold setByte
  have e : (2 : Int) ^ (8 * 7) = 72057594037927936 := by decide
  rw [e, IntKind.wrap_u64]
  congr 1
  omega
theorem last_word (x : Nat → Int) (n q r : Nat) (h : r < 8) (hn : 8 * q + r = n) : wordUpto (lastBytes (byteAt x q) r n) 8 = lastWord x n := by
  rw [word_last _ _ _ h, lastWord]
  obtain rfl : q = n / 8 := by omega
  obtain rfl : r = n % 8 := by omega
  rfl
theorem last_range (x : Nat → Int) (r n : Nat) (hx : ∀ i, 0 ≤ x i ∧ x i ≤ 255) (i : Nat) : 0 ≤ lastBytes x r n i ∧ lastBytes x r n i ≤ 255 := by
  unfold lastBytes
  split
  · exact hx i
  · split <;> omega
theorem firstBytes_length (x : Nat → Int) (r : Nat) : (firstBytes x r).length = r := by simp [firstBytes]
theorem firstBytes_get (x : Nat → Int) (r j : Nat) (v : Value) (h : (firstBytes x r)[j]? = some v) : j < r ∧ v = .int .u8 (x j) := by
  unfold firstBytes at h
  rw [List.getElem?_map, Option.map_eq_some_iff] at h
  obtain ⟨a, ha, rfl⟩ := h
  obtain ⟨hj, he⟩ := List.getElem?_eq_some_iff.1 ha
  simp at hj he
  subst he
  exact ⟨hj, rfl⟩
theorem firstBytes_one (x : Nat → Int) (r : Nat) : ∀ v ∈ firstBytes x r, v.oneCell' = true := by
  intro v hv
  unfold firstBytes at hv
  obtain ⟨a, _, rfl⟩ := List.mem_map.1 hv
  rfl
end Go.Proofs.YtghjgkgfpblijaaDoor.S
end
section
set_option maxRecDepth 100000
namespace Go.Proofs.YtghjgkgfpblijaaDoor.S
open Go.RowKit Go.Lib

/-- A slice of n bytes x reads so in w: nothing is asked of an address where there is no byte. -/
def Lies (w : World) (p : Option Addr) (g o n : Nat) (x : Nat → Int) : Prop := (0 < n → p = some ⟨g, o, none⟩) ∧ ∀ i, i < n → w.cell? ⟨g, o + i, none⟩ = some (.int .u8 (x i))
theorem Lies.below {w w' : World} {p : Option Addr} {g o n : Nat} {x : Nat → Int} (h : Lies w p g o n x) (hb : Below w.heap.size w w') : Lies w' p g o n x :=
  ⟨h.1, fun i hi => by rw [hb.cell (cell_lt (h.2 i hi))]; exact h.2 i hi⟩

theorem info5 : (Tryd.prog.info? 5).map (fun i => (i.zero, i.size, i.bytes)) = some (some (.int .u8 0), 1, 1) := by kernel_rfl
theorem add_at (g o j : Nat) : (⟨g, o, none⟩ : Addr).add j = ⟨g, o + j, none⟩ := by
  unfold Addr.add
  split
  · rename_i hz; subst hz; rfl
  · rfl
theorem own_empty (w : World) : (w.alloc (.cells #[] 5)).ownsRow w.heap.size 5 1 (.slice (some ⟨w.heap.size, 0, none⟩) 0 0) 0 [] :=
  ⟨rfl, .inr ⟨w.heap.size, 0, #[], rfl, Nat.le_refl _, here_new w _ _, Nat.le_refl _, by unfold maxLen; omega, rfl, rfl⟩⟩

/-- What bytes.Clone leaves: a slice of the call's own. -/
def Copied (w : World) (n : Nat) (x : Nat → Int) (e : Ending) (w' : World) : Prop :=
  ∃ p g c, e = .returned (.slice p n c) ∧ n ≤ c ∧ c ≤ maxLen ∧ w.heap.size ≤ g ∧ Lies w' p g 0 n x ∧ (∀ i, w'.frozen? ⟨g, i, none⟩ = false) ∧ Below w.heap.size w w'

theorem copied_of_own {w w' : World} {n : Nat} {x : Nat → Int} {v : Value} (h : w'.ownsRow w.heap.size 5 1 v n (firstBytes x n)) (hb : Below w.heap.size w w') (hv : v ≠ .slice none 0 0) : Copied w n x (.returned v) w' := by
  obtain ⟨_, h⟩ := h
  rcases h with ⟨h, _⟩ | ⟨g, cap, cur, rfl, hg, hh, hc, hm, _, ht⟩
  · exact absurd h hv
  · refine ⟨_, g, cap, rfl, hc, hm, hg, ⟨fun _ => rfl, ?_⟩, fun i => free_of_here hh i, hb⟩
    intro i hi
    refine cell_of_here hh (0 + i) ?_
    have e : (cur.toList.take (n * 1))[i]? = (firstBytes x n)[i]? := by rw [ht]
    rw [List.getElem?_take, if_pos (by omega)] at e
    rw [Nat.zero_add, ← Array.getElem?_toList, e]
    simp [firstBytes, hi]

set_option maxHeartbeats 1000000 in
theorem clone_none (w : World) : Calls Tryd.prog 14 #[.slice none 0 0] w fun e w' => e = .returned (.slice none 0 0) ∧ w = w' := by
  have he : ∀ w : World, (binOp .eql 22 (.slice none 0 0) (.slice none 0 0)).run Tryd.prog w = .ok (.bool true) w := fun _ => rfl
  go_enter Tryd.func14, Tryd.ntmps14
  go_wp2
  go_ret
  exact ⟨rfl, rfl⟩

/-- The same, in the words of append's law. -/
def Owned (w : World) (n : Nat) (x : Nat → Int) (e : Ending) (w' : World) : Prop :=
  ∃ v, e = .returned v ∧ w'.ownsRow w.heap.size 5 1 v n (firstBytes x n) ∧ Below w.heap.size w w' ∧ v ≠ .slice none 0 0

set_option maxHeartbeats 1000000 in
theorem clone_own (a : Addr) (n c : Nat) (x : Nat → Int) (w : World) (hn : n ≤ 140737488355328) (hc : ∀ j, j < n → w.cell? (a.add j) = some (.int .u8 (x j))) :
    Calls Tryd.prog 14 #[.slice (some a) n c] w (Owned w n x) := by
  obtain ⟨i0, hi, hz0, hz1, hz2⟩ := info_parts info5
  have he : ∀ w : World, (binOp .eql 22 (.slice (some a) n c) (.slice none 0 0)).run Tryd.prog w = .ok (.bool false) w := fun _ => rfl
  have hnews : ∀ j u, (firstBytes x n)[j]? = some u → (w.alloc (.cells #[] 5)).cell? (a.add j) = some u := by
    intro j u hu
    obtain ⟨hj, rfl⟩ := firstBytes_get _ _ _ _ hu
    exact cell_alloc (hc j hj)
  have HC := Lib.hid hc
  have HW := Lib.hid hnews
  clear hc hnews
  go_enter Tryd.func14, Tryd.ntmps14
  go_wp2_with (at_builtin; refine wpList_append_own _ rfl (.tmp 5) (.tmp 6) 22 rfl w.heap.size 5 i0 (.int .u8 0) 1 1 Tryd.underlying22 hi hz0 hz1 hz2 rfl (by decide) _ _ _ rfl (own_empty w) a n c (firstBytes x n) rfl ?c0 HW.out (firstBytes_one x n) ?c2 ?c3 (by simp) ?_)
  case c0 => rw [firstBytes_length]; omega
  case c2 => unfold maxLen; omega
  case c3 => omega
  intro v' w1 hown hgrow hnil
  have HO := Lib.hid hown
  have HG := Lib.hid hgrow
  have HNN := Lib.hid hnil
  clear hown hgrow hnil
  go_wp2
  go_ret
  exact ⟨_, rfl, by simpa using HO.out, ((Below.refl _ _).alloc (Nat.le_refl _) _).grown HG.out (by simp) (fun k hk => by simp [Value.ownBlock] at hk; omega), fun h => HNN.out h⟩
theorem clone_some (a : Addr) (n c : Nat) (x : Nat → Int) (w : World) (hn : n ≤ 140737488355328) (hc : ∀ j, j < n → w.cell? (a.add j) = some (.int .u8 (x j))) :
    Calls Tryd.prog 14 #[.slice (some a) n c] w (Copied w n x) :=
  (clone_own a n c x w hn hc).mono fun e w' ⟨v, he, ho, hb, hv⟩ => by subst he; exact copied_of_own ho hb hv

/-- A byte behind the others. -/
def more (x : Nat → Int) (n : Nat) (y : Int) (i : Nat) : Int := if i < n then x i else y
theorem firstBytes_more (x : Nat → Int) (n : Nat) (y : Int) : firstBytes x n ++ [.int .u8 y] = firstBytes (more x n y) (n + 1) := by
  unfold firstBytes
  rw [List.range_succ, List.map_append]
  congr 1
  · refine List.map_congr_left fun i hi => ?_
    have : i < n := by simpa using hi
    unfold more
    rw [if_pos this]
  · simp [more]
theorem more_range (x : Nat → Int) (n : Nat) (y : Int) (hx : ∀ i, 0 ≤ x i ∧ x i ≤ 255) (hy : 0 ≤ y ∧ y ≤ 255) (i : Nat) : 0 ≤ more x n y i ∧ more x n y i ≤ 255 := by
  unfold more
  split
  · exact hx i
  · exact hy

/-- 'string(b)' of a slice that lies so. -/
theorem convert_lies {w : World} {p : Option Addr} {g o n c : Nat} {x : Nat → Int} (h : Lies w p g o n x) : (convert 22 9 (.slice p n c)).run Tryd.prog w = .ok (.string (strOfNums ((List.range n).map x))) w := by
  rcases Nat.eq_zero_or_pos n with h0 | h0
  · subst h0
    rw [run_convert_bytes_string w 22 9 5 p 0 c Tryd.underlying22 Tryd.underlying5 Tryd.underlying9]
    cases p <;> rfl
  · obtain rfl := h.1 h0
    refine run_convert_bytes_arg (P := Tryd.prog) w 22 5 Tryd.underlying22 Tryd.underlying5 g o n c _ (by simp) ?_ 9 Tryd.underlying9
    intro i hi
    rw [h.2 i hi]
    simp [hi]

set_option maxHeartbeats 1000000 in
theorem equal_any (p p' : Option Addr) (g g' o o' n c c' : Nat) (x : Nat → Int) (w : World) (h : Lies w p g o n x) (h' : Lies w p' g' o' n x) :
    Calls Tryd.prog 13 #[.slice p n c, .slice p' n c'] w fun e w' => e = .returned (.bool true) ∧ w = w' := by
  have e1 := convert_lies (c := c) h
  have e2 := convert_lies (c := c') h'
  clear h h'
  go_enter Tryd.func13, Tryd.ntmps13
  go_wp2
  go_ret
  exact ⟨rfl, rfl⟩
end Go.Proofs.YtghjgkgfpblijaaDoor.S
end
