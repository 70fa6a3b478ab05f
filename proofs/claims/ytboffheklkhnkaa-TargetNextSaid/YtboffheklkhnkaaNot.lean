/- The document's turned bits of a number: 2^256 - 1 less it; what lay in memory stays. -/
import Derived.Test.YtboffheklkhnkaaEnv
namespace Go.Proofs.Ytboffheklkhnkaa
open Go.RowKit Go.Lib

theorem P256_num' : P256 - 1 = 115792089237316195423570985008687907853269984665640564039457584007913129639935 := by decide
theorem ofLimbs_self (a : Nat) : ∀ m : Nat, ofLimbs (limb a) m = a % 2 ^ (64 * m)
  | 0 => by simp [ofLimbs, Nat.mod_one]
  | m + 1 => by rw [ofLimbs, ofLimbs_self a m, mod_succ]
theorem limb_not (a i : Nat) (ha : a < P256) (hi : i < 4) : limb (P256 - 1 - a) i = 18446744073709551615 - limb a i := by
  have h : ∀ i, i < 4 → 18446744073709551615 - limb a i < 18446744073709551616 := fun i _ => by omega
  have e : ofLimbs (fun i => 18446744073709551615 - limb a i) 4 = P256 - 1 - a := by
    have e1 := ofLimbs_self a 4
    rw [← P256_is, Nat.mod_eq_of_lt ha] at e1
    rw [P256_num']
    simp only [ofLimbs] at *
    have := limb_lt a 0
    have := limb_lt a 1
    have := limb_lt a 2
    have := limb_lt a 3
    generalize limb a 0 = x0 at *
    generalize limb a 1 = x1 at *
    generalize limb a 2 = x2 at *
    generalize limb a 3 = x3 at *
    have p0 : (2 : Nat) ^ (64 * 0) = 1 := by decide
    have p1 : (2 : Nat) ^ (64 * 1) = 18446744073709551616 := by decide
    have p2 : (2 : Nat) ^ (64 * 2) = 340282366920938463463374607431768211456 := by decide
    have p3 : (2 : Nat) ^ (64 * 3) = 6277101735386680763835789423207666416102355444464034512896 := by decide
    rw [p0, p1, p2, p3] at *
    omega
  rw [← e]
  exact limb_ofLimbs h i hi
theorem wide_lit (n : Nat) : wide n = .agg #[.int .u64 ((limb n 0 : Nat) : Int), .int .u64 ((limb n 1 : Nat) : Int), .int .u64 ((limb n 2 : Nat) : Int), .int .u64 ((limb n 3 : Nat) : Int)] := rfl

theorem xor_max (x : Nat) (hx : x < 18446744073709551616) : bits .xor .u64 IntKind.u64.max (x : Int) = ((18446744073709551615 - x : Nat) : Int) := by
  have e : IntKind.u64.max = ((18446744073709551615 : Nat) : Int) := by kernel_rfl
  rw [e, u64_xor_nat _ _ (by omega) hx]
  have h : 18446744073709551615 ^^^ x = 18446744073709551615 - x := by
    apply Nat.eq_of_testBit_eq
    intro i
    have h1 : (18446744073709551615 : Nat) = 2 ^ 64 - 1 := by decide
    have h2 : 18446744073709551615 - x = 2 ^ 64 - (x + 1) := by omega
    rw [h2, Nat.testBit_two_pow_sub_succ (by omega), Nat.testBit_xor, h1, Nat.testBit_two_pow_sub_one]
    by_cases hi : i < 64
    · simp [hi]
    · simp [hi, bit_big (n := x) (k := 64) (by omega) (by omega : 64 ≤ i)]
  rw [h]
theorem not_cells (a : Nat) (ha : a < P256) : (Value.agg #[.int .u64 (bits .xor .u64 IntKind.u64.max ((limb a 0 : Nat) : Int)), .int .u64 (bits .xor .u64 IntKind.u64.max ((limb a 1 : Nat) : Int)), .int .u64 (bits .xor .u64 IntKind.u64.max ((limb a 2 : Nat) : Int)),
    .int .u64 (bits .xor .u64 IntKind.u64.max ((limb a 3 : Nat) : Int))]) = wide (P256 - 1 - a) := by
  rw [wide_lit, xor_max _ (limb_lt a 0), xor_max _ (limb_lt a 1), xor_max _ (limb_lt a 2), xor_max _ (limb_lt a 3), limb_not a 0 ha (by omega), limb_not a 1 ha (by omega), limb_not a 2 ha (by omega), limb_not a 3 ha (by omega)]

set_option maxRecDepth 100000 in
set_option maxHeartbeats 2000000 in
theorem not_any (a : Nat) (ha : a < P256) (w : World) :
    Calls Try.prog 57 #[wide a] w fun e w' => e = .returned (wide (P256 - 1 - a)) ∧ Below w.heap.size w w' := by
  have e0 := (Env.box1 w (wl a)).nextz (b := w.heap.size + 1) (by simp)
  have E := Lib.hid e0
  have HV := Lib.hid (not_cells a ha)
  have b0 := limb_lt a 0
  have b1 := limb_lt a 1
  have b2 := limb_lt a 2
  have b3 := limb_lt a 3
  clear e0 ha
  go_enter Try.func57, Try.ntmps57
  go_upto_region 1 with fail
  refine wp_region_lit ?_
  generalize (w.alloc (.cells (arr 4 (wl a)) 24)).alloc (.cells z4 24) = w2 at *
  have ha := E.out.get (b := w.heap.size) (f := wl a) (List.mem_cons_of_mem _ List.mem_cons_self)
  have c0 : w2.cell? ⟨w.heap.size, 0, none⟩ = some (.int .u64 ((limb a 0 : Nat) : Int)) := ha.cell 0 (by omega)
  have c1 : w2.cell? ⟨w.heap.size, 1, none⟩ = some (.int .u64 ((limb a 1 : Nat) : Int)) := ha.cell 1 (by omega)
  have c2 : w2.cell? ⟨w.heap.size, 2, none⟩ = some (.int .u64 ((limb a 2 : Nat) : Int)) := ha.cell 2 (by omega)
  have c3 : w2.cell? ⟨w.heap.size, 3, none⟩ = some (.int .u64 ((limb a 3 : Nat) : Int)) := ha.cell 3 (by omega)
  clear ha
  have hz := E.out.get (b := w.heap.size + 1) (f := wl 0) List.mem_cons_self
  have HZ := Lib.hid hz
  clear hz
  go_wp2_with (refine wpList_store_all rfl 24 (.tmp 2) (.tmp 15) rfl (w.heap.size + 1) 4 rfl 24 (wl 0) (wl (P256 - 1 - a)) HZ.out HV.out (by kernel_rfl) (fun _ => rfl) ?_; intro w4 hh ho)
  exact bodyPost_ret (res_row (fn := Try.f57) rfl _ _ (w.heap.size + 1) 4 24 _ _ rfl hh Try.underlying24 rfl (by kernel_rfl)) rfl ⟨rfl, E.out.below.trans (ho.below (by omega) E.out.below.size)⟩
end Go.Proofs.Ytboffheklkhnkaa
