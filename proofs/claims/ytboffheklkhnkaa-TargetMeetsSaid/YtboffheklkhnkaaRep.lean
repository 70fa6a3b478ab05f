/- How a number of 256 bits lies in the model, and the contracts of bits.Add64 and bits.Sub64. -/
import Derived.Test.YtboffheklkhnkaaArr
import Derived.Test.YtboffheklkhnkaaProd
import Derived.Laws.Externs
import Derived.StillTailTactics
import Derived.Deep.LoopGhost
import Derived.Lib.QuietBelow
import Derived.BigQuiet
import Derived.RegionTactic
import Derived.ChangeAlike
import Derived.Deep.RegionWith
import Derived.Deep.DrawnRows
import Derived.Deep.DeepCutAuto
namespace Go.Proofs.Ytboffheklkhnkaa
open Go.RowKit Go.Lib

/-- The words of a number as cells. -/
def wl (n : Nat) : Nat → Value := fun i => .int .u64 (limb n i : Nat)
/-- A number as a value. -/
abbrev wide (n : Nat) : Value := .agg (arr 4 (wl n))
theorem wl_eq {n m : Nat} (h : ∀ i, i < 4 → limb n i = limb m i) : wide n = wide m :=
   congrArg Value.agg (arr_congr fun i hi => congrArg (fun k : Nat => Value.int .u64 (k : Int)) (h i hi))

theorem limb_mod (n i : Nat) (hi : i < 4) : limb (n % P256) i = limb n i := by
  apply Nat.eq_of_testBit_eq
  intro j
  rw [limb_bit, limb_bit]
  by_cases hj : j < 64
  · rw [P256, Nat.testBit_mod_two_pow, decide_eq_true (by omega : 64 * i + j < 256), Bool.true_and]
  · rw [decide_eq_false hj, Bool.false_and, Bool.false_and]
theorem wl_mod (n i : Nat) (hi : i < 4) : wl (n % P256) i = wl n i := congrArg (fun k : Nat => Value.int .u64 (k : Int)) (limb_mod n i hi)
theorem wide_mod (n : Nat) : wide (n % P256) = wide n := wl_eq fun i hi => limb_mod n i hi
/-- The results of a function that returns a row out of a cell, and a slot. -/
theorem res_row_tmp {P : Program} {fn : Func} {p u : Tmp} {ty : TypeId} (h : fn.results = #[.cell p ty, .tmp u]) (tmps : Array Value) (w : World) (g n : Nat) (T : TypeId) (f : Nat → Value) (d : TypeDesc)
    (hp : tmps.getD p undef = .pointer (some ⟨g, 0, none⟩)) (hg : HasAt g T n f w) (hu : P.underlying ty = some d) (hd : (match d with | .struct _ | .array _ _ => true | _ => false) = true) (hi : (P.info? ty).map (·.size) = some n) :
    (results fn tmps).run P w = .ok (.tuple #[.agg (arr n f), tmps.getD u undef]) w := by
  have hp' : tmps[p]?.getD undef = .pointer (some ⟨g, 0, none⟩) := by simpa using hp
  have e := run_loadVar_row (P := P) w g T ty (arr n f) (0, 0) d hg hu hd (by rw [arr_size]; exact hi)
  simp [results, h, hp', asAddr, e]
theorem res_row {P : Program} {fn : Func} {p : Tmp} {ty : TypeId} (h : fn.results = #[.cell p ty]) (tmps : Array Value) (w : World) (g n : Nat) (T : TypeId) (f : Nat → Value) (d : TypeDesc)
    (hp : tmps.getD p undef = .pointer (some ⟨g, 0, none⟩)) (hg : HasAt g T n f w) (hu : P.underlying ty = some d) (hd : (match d with | .struct _ | .array _ _ => true | _ => false) = true) (hi : (P.info? ty).map (·.size) = some n) :
    (results fn tmps).run P w = .ok (.agg (arr n f)) w :=
  results_cell_row h tmps w g T (arr n f) (0, 0) d hp hg hu hd (by rw [arr_size]; exact hi)
theorem res_row_row_tmp {P : Program} {fn : Func} {p q u : Tmp} {ty : TypeId} (h : fn.results = #[.cell p ty, .cell q ty, .tmp u]) (tmps : Array Value) (w : World) (g k n : Nat) (T : TypeId) (f f2 : Nat → Value) (d : TypeDesc)
    (hp : tmps.getD p undef = .pointer (some ⟨g, 0, none⟩)) (hg : HasAt g T n f w) (hq : tmps.getD q undef = .pointer (some ⟨k, 0, none⟩)) (hk : HasAt k T n f2 w)
    (hu : P.underlying ty = some d) (hd : (match d with | .struct _ | .array _ _ => true | _ => false) = true) (hi : (P.info? ty).map (·.size) = some n) :
    (results fn tmps).run P w = .ok (.tuple #[.agg (arr n f), .agg (arr n f2), tmps.getD u undef]) w := by
  have hp' : tmps[p]?.getD undef = .pointer (some ⟨g, 0, none⟩) := by simpa using hp
  have hq' : tmps[q]?.getD undef = .pointer (some ⟨k, 0, none⟩) := by simpa using hq
  have e := run_loadVar_row (P := P) w g T ty (arr n f) (0, 0) d hg hu hd (by rw [arr_size]; exact hi)
  have e2 := run_loadVar_row (P := P) w k T ty (arr n f2) (0, 0) d hk hu hd (by rw [arr_size]; exact hi)
  simp [results, h, hp', hq', asAddr, e, e2]
/-- Four words, all nought. -/
abbrev z4 : Array Value := #[.int .u64 0, .int .u64 0, .int .u64 0, .int .u64 0]
theorem z4_is : arr 4 (wl 0) = z4 := by kernel_rfl
theorem new_at {w w' : World} {b : Nat} (e : w'.heap.size = b) (f : Nat → Value) (n : Nat) (T : TypeId) (_h : w = w') : HasAt b T n f (w'.alloc (.cells (arr n f) T)) := by
  subst e; exact HasAt.new _ _ _ _

def sub64E : Array Value → Sem Value := fun args => do
  let (x, y, b) ← Extern.MathBitsCarry.three "Sub64" args
  pure (Extern.MathBitsCarry.pair ((x + Extern.MathBitsCarry.m64 - y - b) % Extern.MathBitsCarry.m64) (if x < y + b then 1 else 0))
theorem run_sub64E (x y b : Nat) (hb : b ≤ 1) (w : World) :
    (sub64E #[.int .u64 x, .int .u64 y, .int .u64 b]).run Try.prog w =
      .ok (.tuple #[.int .u64 (((x + 18446744073709551616 - y - b) % 18446744073709551616 : Nat) : Int), .int .u64 ((if x < y + b then 1 else 0 : Nat) : Int)]) w := by
  have : b = 0 ∨ b = 1 := by omega
  rcases this with rfl | rfl <;> rfl
theorem call_add64 (x y c : Nat) (hc : c ≤ 1) (w : World) :
    (callFunc 54 #[.int .u64 x, .int .u64 y, .int .u64 c]).run Try.prog w =
      .ok (.value (.tuple #[.int .u64 (((x + y + c) % 18446744073709551616 : Nat) : Int), .int .u64 (((x + y + c) / 18446744073709551616 : Nat) : Int)])) w := by
  rw [run_callFunc_extern Try.func54 (by kernel_rfl) (by kernel_rfl) (by kernel_rfl) (e := add64Entry) (by kernel_rfl), run_add64 x y c (by omega) (by omega) (by omega) (by omega)]
  simp only [Result.andThen]
  congr 5 <;> omega
theorem call_sub64 (x y b : Nat) (hb : b ≤ 1) (w : World) :
    (callFunc 56 #[.int .u64 x, .int .u64 y, .int .u64 b]).run Try.prog w =
      .ok (.value (.tuple #[.int .u64 (((x + 18446744073709551616 - y - b) % 18446744073709551616 : Nat) : Int), .int .u64 ((if x < y + b then 1 else 0 : Nat) : Int)])) w := by
  rw [run_callFunc_extern Try.func56 (by kernel_rfl) (by kernel_rfl) (by kernel_rfl) (e := sub64E) (by kernel_rfl), run_sub64E x y b hb]
  rfl
end Go.Proofs.Ytboffheklkhnkaa
