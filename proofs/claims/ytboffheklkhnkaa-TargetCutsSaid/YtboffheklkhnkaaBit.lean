/- The document's bit of a number: it returns it; what lay in memory stays. -/
import Derived.Test.YtboffheklkhnkaaRep
import Derived.Laws.BitsAll
namespace Go.Proofs.Ytboffheklkhnkaa
open Go.RowKit Go.Lib

theorem and_one (x : Nat) (hx : x < 18446744073709551616) : bits .and .u64 (x : Int) 1 = ((x % 2 : Nat) : Int) := by
  have h := u64_and_nat x 1 (by omega) (by omega)
  have e : x &&& 1 = x % 2 := Nat.and_two_pow_sub_one_eq_mod _ 1
  rw [e] at h
  exact h
theorem bit_int (n i : Nat) : bits .and .u64 ((limb n (i / 64) : Nat) / 2 ^ (i % 64)) 1 = ((n / 2 ^ i % 2 : Nat) : Int) := by
  have e1 : ((limb n (i / 64) : Nat) : Int) / 2 ^ (i % 64) = ((limb n (i / 64) / 2 ^ (i % 64) : Nat) : Int) := by simp
  have := limb_lt n (i / 64)
  have := Nat.div_le_self (limb n (i / 64)) (2 ^ (i % 64))
  rw [e1, and_one _ (by omega), bit_word]
set_option maxHeartbeats 1000000 in
theorem bit_any (n i : Nat) (hi : i < 256) (w : World) :
    Calls Try.prog 55 #[wide n, .int .i64 (i : Int)] w fun e w' => e = .returned (.int .u64 ((n / 2 ^ i % 2 : Nat) : Int)) ∧ Below w.heap.size w w' := by
  have h0 := below_new w (.cells (arr 4 (wl n)) 24)
  have h1 : (arr 4 (wl n))[i / 64]? = some (.int .u64 (limb n (i / 64) : Nat)) := arr_get 4 (wl n) (i / 64) (by omega)
  have hl := limb_lt n (i / 64)
  have HB := Lib.hid h0
  clear h0
  unfold wide
  go_enter Try.func55, Try.ntmps55
  go_wp2
  go_ret
  exact ⟨congrArg (fun z => Ending.returned (Value.int .u64 z)) (bit_int n i), HB.out⟩
end Go.Proofs.Ytboffheklkhnkaa
