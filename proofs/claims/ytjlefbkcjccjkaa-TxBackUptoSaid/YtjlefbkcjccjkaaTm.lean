/- Small laws on cells of rows. -/
import Derived.Test.YtjlefbkcjccjkaaTk
set_option linter.unusedSimpArgs false
set_option linter.unusedVariables false
set_option maxRecDepth 100000
namespace Go.Proofs.Ytjlefbkcjccjkaa
open Go.RowKit Go.Lib Go.Sort

theorem nb_of {b T : Nat} {cs : Array Value} (hT : T ≠ 5) : ∀ q : Nat × TypeId × Array Value, q ∈ [(b, T, cs)] → q.2.1 ≠ 5 := fun q hq => by obtain rfl := List.mem_singleton.1 hq; exact hT
theorem vs_const (a : Value) : (#[a] : Array Value).toList = vs (fun _ => a) (1 * 1) := rfl
theorem arr_vs (n : Nat) (V : Nat → Value) : (arr n V).toList = vs V (1 * n) := by
  rw [Nat.one_mul, ← vs_arr]
theorem one_arr {n : Nat} {V : Nat → Value} (h : ∀ j, j < n → (V j).oneCell' = true) : ∀ i, i < 1 * n → (V i).oneCell' = true := fun i hi => h i (by omega)
theorem vcat_lo {V U : Nat → Value} {j k i x : Nat} (hi : i < j) (hx : x < k) : vcat V (j * k) U (i * k + x) = V (i * k + x) := by
  unfold vcat
  have : (i + 1) * k ≤ j * k := Nat.mul_le_mul_right k hi
  rw [Nat.add_mul] at this
  rw [if_pos (by omega)]
theorem vcat_hi {V U : Nat → Value} {j k x : Nat} : vcat V (j * k) U (j * k + x) = U x := by
  unfold vcat
  rw [if_neg (by omega)]
  congr 1
  omega
theorem InOwn.to {B : Nat} {w : World} {V U : Nat → Value} {t : TIn} (h : InOwn B w V t) (e : ∀ x, x < 36 → V x = U x) : InOwn B w U t :=
  ⟨h.len, h.idB, fun j hj => by rw [← e j (by omega)]; exact h.id j hj, by rw [← e 32 (by omega)]; exact h.idx, h.idxB, by rw [← e 33 (by omega)]; exact h.sc, by rw [← e 34 (by omega)]; exact h.sq, h.sqB, by rw [← e 35 (by omega)]; exact h.wit⟩
theorem OutOwn.to {B : Nat} {w : World} {V U : Nat → Value} {t : TOut} (h : OutOwn B w V t) (e : ∀ x, x < 2 → V x = U x) : OutOwn B w U t :=
  ⟨by rw [← e 0 (by omega)]; exact h.val, h.valB, by rw [← e 1 (by omega)]; exact h.sc⟩
theorem TextOwn.cells1 {B : Nat} {w : World} {v : Value} {t : List Nat} (h : TextOwn B w v t) : v.cells = #[v] ∧ v.oneCell' = true := by
  obtain ⟨p, g, c, rfl, _⟩ := h
  exact ⟨rfl, rfl⟩
theorem InCells.copied {W w : World} {B : Nat} {U : Nat → Value} {x : TIn} (h : InCells W U x) {a b : Value} (ha : TextOwn B w a x.sc) (hb : TextsOwn B w b x.wit) : InOwn B w (ups (ups U 33 a) 35 b) x :=
  ⟨h.len, h.idB, fun j hj => by rw [ups_ne _ _ (by omega), ups_ne _ _ (by omega)]; exact h.id j hj, by rw [ups_ne _ _ (by omega), ups_ne _ _ (by omega)]; exact h.idx, h.idxB,
   by rw [ups_ne _ _ (by omega), ups_at]; exact ha, by rw [ups_ne _ _ (by omega), ups_ne _ _ (by omega)]; exact h.sq, h.sqB, by rw [ups_at]; exact hb⟩
theorem OutCells.copied {W w : World} {B : Nat} {U : Nat → Value} {x : TOut} (h : OutCells W U x) {a : Value} (ha : TextOwn B w a x.sc) : OutOwn B w (ups U 1 a) x :=
  ⟨by rw [ups_ne _ _ (by omega)]; exact h.val, h.valB, by rw [ups_at]; exact ha⟩
theorem InCells.one_ups {W : World} {U : Nat → Value} {x : TIn} (h : InCells W U x) {a b : Value} (ha : a.oneCell' = true) (hb : b.oneCell' = true) : ∀ j, j < 36 → (ups (ups U 33 a) 35 b j).oneCell' = true := fun j hj => by
  unfold ups
  split
  · exact hb
  · split
    · exact ha
    · exact h.one j hj
theorem OutCells.one_ups {W : World} {U : Nat → Value} {x : TOut} (h : OutCells W U x) {a : Value} (ha : a.oneCell' = true) : ∀ j, j < 2 → (ups U 1 a j).oneCell' = true := fun j hj => by
  unfold ups
  split
  · exact ha
  · obtain rfl : j = 0 := by omega
    rw [h.val]
    rfl
theorem all_of {n : Nat} {V : Nat → Value} (h : ∀ j, j < n → (V j).oneCell' = true) : (arr n V).all (·.oneCell') = true := Array.all_eq_true_iff_forall_mem.2 fun v hv => by
  obtain ⟨j, hj, rfl⟩ := Array.getElem_of_mem hv
  rw [arr_size] at hj
  have e : (arr n V)[j]? = some (V j) := arr_get n V j hj
  rw [Array.getElem?_eq_getElem (by rw [arr_size]; exact hj)] at e
  injection e with e
  rw [e]
  exact h j hj

end Go.Proofs.Ytjlefbkcjccjkaa
