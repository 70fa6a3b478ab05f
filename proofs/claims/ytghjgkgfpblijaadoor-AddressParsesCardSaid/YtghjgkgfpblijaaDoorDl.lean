/- SHA-256 twice, of bytes as a list. -/
import Derived.Test.YtghjgkgfpblijaaDoorMe
import Derived.Test.YtghjgkgfpblijaaDoorSE
set_option linter.unusedSimpArgs false
set_option maxRecDepth 100000
namespace Go.Proofs.YtghjgkgfpblijaaDoor
open Go.RowKit Go.Lib

/-- Bytes as the text on sums has them. -/
def li (l : List Nat) : Nat → Int := fun i => ((lf l i : Nat) : Int)
/-- SHA-256 of SHA-256 of bytes. -/
def dbl (l : List Nat) : List Nat := tl (fun i => (S.shaI (S.shaI (li l) l.length) 32 i).toNat) 32
theorem isH_dbl (l : List Nat) : IsH (dbl l) := ⟨tl_length _ _, isB_tl (fun i => by have := S.shaI_range (S.shaI (li l) l.length) 32 i; omega) 32⟩
theorem arr_dbl (l : List Nat) : arr 32 (S.sha2 (li l) l.length) = arr 32 (bv (lf (dbl l))) := arr_congr fun i hi => by
  unfold S.sha2
  rw [S.sha_num]
  unfold bv dbl
  rw [lf_tl _ hi, Int.toNat_of_nonneg (S.shaI_range _ _ _).1]
theorem Row.li {w : World} {p : Option Addr} {g o c : Nat} {l : List Nat} (R : Row w p g o l.length c (lf l)) : S.Lies w p g o l.length (Go.Proofs.YtghjgkgfpblijaaDoor.li l) := ⟨R.head, R.cell⟩
theorem li_range {l : List Nat} (h : IsB l) (i : Nat) : 0 ≤ li l i ∧ li l i ≤ 255 := by
  have := lf_lt h i
  unfold li
  omega
theorem double_l {w : World} {p : Option Addr} {g o c : Nat} {l : List Nat} (R : Hid (Row w p g o l.length c (lf l))) (hn : l.length ≤ 140737488351232) (L : Hid (S.Both w)) :
    Calls Tryd.prog 58 #[.slice p l.length c] w fun e w' => e = .returned (.agg (arr 32 (bv (lf (dbl l))))) ∧ Below w.heap.size w w' := by
  have h := S.double_any p g o l.length c (li l) (li_range (isB_row R.out)) (by omega) R.out.le (by have := R.out.cap; unfold maxLen at this; omega) w R.out.li L.out
  rwa [arr_dbl] at h
theorem ref_double_l {w : World} {p : Option Addr} {g o c : Nat} {l : List Nat} (R : Hid (Row w p g o l.length c (lf l))) (hn : l.length ≤ 140737488351232) :
    Calls Tryd.prog 21 #[.slice p l.length c] w fun e w' => e = .returned (.agg (arr 32 (bv (lf (dbl l))))) ∧ Below w.heap.size w w' := by
  have h := S.ref_double_any p g o l.length c (li l) (li_range (isB_row R.out)) hn R.out.nil w R.out.li
  rwa [arr_dbl] at h

/-- The hash above two. -/
def node (a b : List Nat) : List Nat := dbl (a ++ b)
/-- The hashes above n: of each two; the last one, if it stands alone, with itself. -/
def up (h : Nat → List Nat) (n : Nat) : Nat → List Nat := fun j => node (h (2 * j)) (h (min (2 * j + 1) (n - 1)))
theorem isH_up (h : Nat → List Nat) (n j : Nat) : IsH (up h n j) := isH_dbl _
/-- The root of n hashes, and whether it may be of others, in so many steps. -/
def root : Nat → (Nat → List Nat) → Nat → List Nat × Bool
  | 0, h, _ => (h 0, false)
  | f + 1, h, n => if n ≤ 1 then (h 0, false) else
    let r := root f (up h n) ((n + 1) / 2)
    (r.1, tw h (n / 2) || r.2)
theorem HRow.of {w : World} {p : Option Addr} {g o n c : Nat} {h : Nat → List Nat} (R : VRow 32 w p g o n c (hv h)) (hi : ∀ i, IsH (h i)) : HRow w p g o n c h := ⟨R, hi⟩
end Go.Proofs.YtghjgkgfpblijaaDoor
