/- Hashes as lists of 32 bytes, slices of them; whether two that stand as a pair are the same. -/
import Derived.Test.YtghjgkgfpblijaaDoorZA
set_option linter.unusedSimpArgs false
set_option maxRecDepth 100000
namespace Go.Proofs.YtghjgkgfpblijaaDoor
open Go.RowKit Go.Lib

theorem infoHash : (Tryd.prog.info? 43).map (fun i => (i.zero, i.size)) = some (some (.agg (arr 32 (bv fun _ => 0))), 32) := by kernel_rfl
theorem infoHash3 : (Tryd.prog.info? 43).map (fun i => (i.zero, i.size, i.bytes)) = some (some (.agg (arr 32 (bv fun _ => 0))), 32, 32) := by kernel_rfl
theorem built_hash0 : Tryd.prog.built 43 (#[] : Array (Nat × Value)).toList = some (arr 32 (bv fun _ => 0)) := by kernel_rfl
/-- 32 bytes. -/
structure IsH (a : List Nat) : Prop where
  len : a.length = 32
  byte : IsB a
/-- The cells of n hashes. -/
def hv (h : Nat → List Nat) : Nat → Value := fun i => .int .u8 ((lf (h (i / 32)) (i % 32) : Nat) : Int)
theorem hv_one (h : Nat → List Nat) (i : Nat) : (hv h i).oneCell' = true := rfl
theorem hv_elem (h : Nat → List Nat) (i : Nat) : vs (fun j => hv h (i * 32 + j)) 32 = (arr 32 (bv (lf (h i)))).toList := by
  apply List.ext_getElem?
  intro j
  rcases Nat.lt_or_ge j 32 with q | q
  · rw [vs_at _ _ _ q, Array.getElem?_toList, arr_get 32 _ j q]
    unfold hv bv
    rw [show (i * 32 + j) / 32 = i from by omega, show (i * 32 + j) % 32 = j from by omega]
  · rw [List.getElem?_eq_none (by rw [vs_length]; exact q), List.getElem?_eq_none (by rw [Array.length_toList, arr_size]; exact q)]
theorem all_range_hash {a b : List Nat} (ha : IsH a) (hb : IsH b) : ((List.range 32).all fun i => ((lf a i : Nat) : Int) == ((lf b i : Nat) : Int)) = decide (a = b) := by
  by_cases e : a = b
  · subst e
    simp
  · rw [decide_eq_false e, List.all_eq_false]
    refine Classical.byContradiction fun hn => e ?_
    refine lf_inj (ha.len.trans hb.len.symm) fun i hi => Classical.byContradiction fun hne => hn ?_
    exact ⟨i, by rw [ha.len] at hi; simpa using hi, by simp; omega⟩
/-- Two hashes, held against each other. -/
theorem eq_hash {T : Nat} (hT : Tryd.prog.underlying T = some (.array 32 5)) {a b : List Nat} (ha : IsH a) (hb : IsH b) (w : World) : (Op.equalIn 10000 T (.agg (arr 32 (bv (lf a)))) (.agg (arr 32 (bv (lf b))))).run Tryd.prog w = .ok (decide (a = b)) w := by
  rw [eq_bytes hT _ _ w, all_range_hash ha hb]

/-- n hashes lie in w. -/
structure HRow (w : World) (p : Option Addr) (g o n c : Nat) (h : Nat → List Nat) : Prop where
  row : VRow 32 w p g o n c (hv h)
  is : ∀ i, IsH (h i)
section
variable {w w' : World} {p : Option Addr} {g o n c : Nat} {h : Nat → List Nat}
theorem HRow.below (R : HRow w p g o n c h) (hb : Below w.heap.size w w') : HRow w' p g o n c h := ⟨R.row.below hb, R.is⟩
theorem HRow.load (R : HRow w p g o n c h) {i : Nat} (hi : i < n) : (Instr.loadAt 43 (.pointer (some ⟨g, o + i * 32, none⟩))).run Tryd.prog w = .ok (.agg (arr 32 (bv (lf (h i))))) w := by
  have := run_loadAt_mid (P := Tryd.prog) w g (o + i * 32) 43 (arr 32 (bv (lf (h i)))).toList (.array 32 5) (by rw [← hv_elem]; exact R.row.elem hi) Tryd.underlying43 rfl (by kernel_rfl)
  simpa using this
end
/-- A pair that is the same stands among the first k pairs. -/
def tw (h : Nat → List Nat) (k : Nat) : Bool := (List.range k).any fun j => decide (h (2 * j) = h (2 * j + 1))
theorem tw_succ (h : Nat → List Nat) (k : Nat) : tw h (k + 1) = (tw h k || decide (h (2 * k) = h (2 * k + 1))) := by
  unfold tw
  rw [List.range_succ, List.any_append]
  simp

end Go.Proofs.YtghjgkgfpblijaaDoor

