/- bytes.TrimRight of one byte, from the shelf. -/
import Derived.Test.YtkjcljobcidhfaaDoorRow
import Derived.Shelf.Lay
import Derived.Ground.NamesProg
import Derived.Shelf.Bytes.SlTrim
set_option linter.unusedSimpArgs false
set_option linter.unusedVariables false
set_option maxRecDepth 100000
namespace Go.Proofs
open Go.Shelf
shelf_lay SlLaysV.n7 Slbv 7 at Tryd as YtkjcljobcidhfaaDoor.lays7
end Go.Proofs
namespace Go.Proofs.YtkjcljobcidhfaaDoor
open Go.RowKit Go.Lib Go.Sort
theorem trimr_any {w : World} {p : Option Addr} {g o n c : Nat} {x : Nat → Nat} (R : Row w p g o n c x) (h0 : 0 < n) : Calls Tryd.prog 29 #[.slice p n c, .string ⟨#[0]⟩] w fun e w' => e = .returned (.slice p (Lib.trimRightS ((List.range n).map fun i => UInt8.ofNat (x i)) [0]).length c) ∧ w' = w := by
  refine Any.bytes_TrimRight_one lays7 p n c _ 0 w (by simp) R.le (by have := R.cap; unfold maxLen at this; omega) ?_ h0 (by decide)
  intro _
  refine ⟨g, o, R.head h0, fun i hi => ?_⟩
  rw [R.cell i hi]
  have hx := R.byte i
  have e : (((List.range n).map fun i => UInt8.ofNat (x i)).getD i 0).toNat = x i := by
    rw [List.getD_eq_getElem?_getD, List.getElem?_map, List.getElem?_range hi]
    simp [UInt8.toNat_ofNat]
    omega
  rw [e]
end Go.Proofs.YtkjcljobcidhfaaDoor
