/- A cell of a row of the call's own, written. -/
import Derived.Test.YtjlefbkcjccjkaaTm
set_option linter.unusedSimpArgs false
set_option linter.unusedVariables false
set_option maxRecDepth 100000
namespace Go.Proofs.Ytjlefbkcjccjkaa
open Go.RowKit Go.Lib Go.Sort

theorem vs_set (V : Nat → Value) (m i : Nat) (v : Value) : vs (ups V i v) m = (vs V m).set i v := by
  apply List.ext_getElem?
  intro j
  rw [List.getElem?_set]
  rcases Nat.lt_or_ge j m with h | h
  · rw [vs_at _ _ _ h]
    by_cases e : i = j
    · subst e
      rw [if_pos rfl, if_pos (by rw [vs_length]; exact h), ups_at]
    · rw [if_neg e, vs_at _ _ _ h, ups_ne _ _ (fun h => e h.symm)]
  · rw [List.getElem?_eq_none (by rw [vs_length]; exact h)]
    by_cases e : i = j
    · subst e
      rw [if_pos rfl, if_neg (by rw [vs_length]; omega)]
    · rw [if_neg e, List.getElem?_eq_none (by rw [vs_length]; exact h)]
/-- A cell of a row of the call's own, written. -/
theorem VOwn.put {T k B : Nat} {w : World} {p : Option Addr} {g n c : Nat} {V : Nat → Value} (N : VOwn T k B w p g n c V) {i : Nat} (hi : i < n * k) (v : Value) (hv : v.oneCell' = true) : VOwn T k B (w.setCell ⟨g, i, none⟩ v) p g n c (ups V i v) ∧ Only g w (w.setCell ⟨g, i, none⟩ v) ∧ B ≤ g ∧ ∃ cur, w.heap[g]? = some (.cells cur T (0, 0)) ∧ i < cur.size := by
  have hO : Only g w (w.setCell ⟨g, i, none⟩ v) := (Only.refl g w).setCell _ rfl _
  obtain ⟨h0, h1⟩ := N.own
  rcases h1 with ⟨h1, h2⟩ | ⟨g', cap, cur, h1, h2, h3, h4, h5, h6, h7⟩
  · rw [h2, Nat.zero_mul] at hi; omega
  · injection h1 with a1 a2 a3
    subst a3
    rcases N.spot with q | q
    · rw [q] at a1; cases a1
    · rw [q] at a1
      injection a1 with a1
      injection a1 with a1
      subst a1
      have hc : n * k ≤ c * k := Nat.mul_le_mul_right k h4
      have hh : (w.setCell ⟨g, i, none⟩ v).heap[g]? = some (.cells (cur.setIfInBounds i v) T (0, 0)) := ((Holds.start h3).set rfl).here
      refine ⟨⟨⟨vs_length _ _, .inr ⟨g, c, cur.setIfInBounds i v, by rw [q], h2, hh, h4, h5, by simp [h6], ?_⟩⟩, N.spot, fun j hj => ?_, Nat.le_trans N.low hO.size⟩, hO, h2, cur, h3, by omega⟩
      · rw [Array.toList_setIfInBounds, List.take_set, h7, vs_set]
      · unfold ups
        split
        · exact hv
        · exact N.one j hj
theorem Only.belowOf {g B : Nat} {w w' : World} (h : Only g w w') (hB : B ≤ g) (hs : B ≤ w.heap.size) : Below B w w' := h.below hB hs
section
variable {ops : Array Oper} {rest : List Oper} {Q : Exit → Act → World → Prop} {op : Oper} {a : Act} {w : World}
theorem wpList_vput {T k B : Nat} {p : Option Addr} {g n c : Nat} {V : Nat → Value} (N : Hid (VOwn T k B w p g n c V)) (ty : TypeId) (hg : op.guard = none) (x y : Operand) (ho : op.op = .store ty x y) {i : Nat} {v : Value} (hx : a.eval x = .pointer (some ⟨g, i, none⟩)) (hy : a.eval y = v) (hi : i < n * k)
    (hs : (Try.prog.info? ty).map (·.size) = some 1) (h1 : v.cells = #[v]) (h2 : v.oneCell' = true)
    (h : ∀ w', Hid (VOwn T k B w' p g n c (ups V i v)) → Hid (Only g w w') → Hid (KeepT T w w') → Hid (B ≤ g) → wpList Try.prog ops Q rest (a.put op.dst undef) w') : wpList Try.prog ops Q (op :: rest) a w := by
  obtain ⟨N', hO, hB, cur, hc, hcs⟩ := N.out.put hi v h2
  refine wpList_plain hg fun K hK => ?_
  unfold Oper.wp execOp
  simp only [ho, hx, hy, Sem.run_bind, Sem.run_pure, run_store_one hs h1 h2 (cell_of_here hc i (Array.getElem?_eq_getElem hcs)) (free_of_here hc i), Result.andThen_ok]
  exact hK _ _ (h _ (Lib.hid N') (Lib.hid hO) (Lib.hid (KeepT.of_only hc hO)) (Lib.hid hB))
end
section
variable {P : Program} {Q : Exit → Act → World → Prop} {op : Oper} {a : Act} {w : World} {K : Act → World → Prop}
theorem mo_vput {T k B : Nat} {p : Option Addr} {g n c : Nat} {V : Nat → Value} (N : Hid (VOwn T k B w p g n c V)) (ty : TypeId) (x y : Operand) (ho : op.op = .store ty x y) {i : Nat} {v : Value} (hx : a.eval x = .pointer (some ⟨g, i, none⟩)) (hy : a.eval y = v) (hi : i < n * k)
    (hs : (Try.prog.info? ty).map (·.size) = some 1) (h1 : v.cells = #[v]) (h2 : v.oneCell' = true)
    (h : ∀ w', Hid (VOwn T k B w' p g n c (ups V i v)) → Hid (Only g w w') → Hid (KeepT T w w') → Hid (B ≤ g) → K (a.put op.dst undef) w') : op.wp Try.prog a w K Q := by
  obtain ⟨N', hO, hB, cur, hc, hcs⟩ := N.out.put hi v h2
  unfold Oper.wp execOp
  simp only [ho, hx, hy, Sem.run_bind, Sem.run_pure, run_store_one hs h1 h2 (cell_of_here hc i (Array.getElem?_eq_getElem hcs)) (free_of_here hc i), Result.andThen_ok]
  exact h _ (Lib.hid N') (Lib.hid hO) (Lib.hid (KeepT.of_only hc hO)) (Lib.hid hB)
end
end Go.Proofs.Ytjlefbkcjccjkaa
