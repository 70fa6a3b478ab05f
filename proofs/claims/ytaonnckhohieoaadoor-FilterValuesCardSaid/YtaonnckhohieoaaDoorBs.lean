/- Slices of one or two written elements. Nothing of the program stands here. -/
import Derived.Test.YtaonnckhohieoaaDoorVr
set_option linter.unusedSimpArgs false
set_option maxRecDepth 100000
namespace Go.Proofs.YtaonnckhohieoaaDoor
open Go.RowKit Go.Lib

theorem laid_cells (l : List Value) : ∀ (o : Nat) (acc : Array Value) (i : Nat), ((l.zipIdx o).foldl (fun cs (x : Value × Nat) => cs.setIfInBounds x.2 x.1) acc)[i]? = if o ≤ i ∧ i < o + l.length ∧ i < acc.size then l[i - o]? else acc[i]? := by
  induction l with
  | nil => intro o acc i; simp; omega
  | cons v l ih =>
    intro o acc i
    simp only [List.zipIdx_cons, List.foldl_cons]
    rw [ih]
    simp only [Array.size_setIfInBounds, List.length_cons]
    by_cases h1 : o + 1 ≤ i ∧ i < o + 1 + l.length ∧ i < acc.size
    · rw [if_pos h1, if_pos (by omega)]
      rw [show i - o = (i - (o + 1)) + 1 by omega, List.getElem?_cons_succ]
    · rw [if_neg h1, Array.getElem?_setIfInBounds]
      by_cases h2 : o = i
      · subst h2
        by_cases h3 : o < acc.size
        · rw [if_pos rfl, if_pos h3, if_pos (by omega)]; simp
        · rw [if_pos rfl, if_neg h3, if_neg (by omega), Array.getElem?_eq_none (by omega)]
      · rw [if_neg h2, if_neg (by omega)]
theorem laid_size (l : List (Value × Nat)) : ∀ acc : Array Value, (l.foldl (fun cs (x : Value × Nat) => cs.setIfInBounds x.2 x.1) acc).size = acc.size := by
  induction l with
  | nil => intro acc; rfl
  | cons v l ih => intro acc; simp only [List.foldl_cons]; rw [ih]; simp
theorem laid_all (cs acc : Array Value) (h : cs.size = acc.size) : cs.zipIdx.foldl (fun cs (x : Value × Nat) => cs.setIfInBounds (0 + x.2) x.1) acc = cs := by
  have e : cs.zipIdx.foldl (fun cs (x : Value × Nat) => cs.setIfInBounds (0 + x.2) x.1) acc = (cs.toList.zipIdx 0).foldl (fun cs (x : Value × Nat) => cs.setIfInBounds x.2 x.1) acc := by
    rw [← Array.foldl_toList, Array.toList_zipIdx]
    simp only [Nat.zero_add]
  rw [e]
  apply Array.ext_getElem?
  intro i
  rw [laid_cells]
  by_cases hi : i < cs.size
  · rw [if_pos (by simp; omega)]; simp
  · rw [if_neg (by simp; omega), Array.getElem?_eq_none (by omega), Array.getElem?_eq_none (by omega)]
section
variable {P : Program} {S T k bytes : Nat} {z : Value}
theorem run_bs1 (hS : P.underlying S = some (.slice T)) (hT : (P.info? T).map (fun i => (i.zero, i.size, i.bytes)) = some (some z, k, bytes)) (hk : 0 < k) (hk2 : k ≤ 16777216) (cs : Array Value) (hc : cs.size = k) (w : World) :
    (Instr.buildSlice S 1 #[(0, .agg cs)]).run P w = .ok (.slice (some ⟨w.heap.size, 0, none⟩) 1 1) (w.alloc (.cells cs T)) := by
  obtain ⟨i0, hi, hz0, hz1, hz2⟩ := info_parts hT
  refine run_buildSlice w S T 1 _ cs i0 z hS hi hz0 (by rw [hz1]; omega) (by rw [hz1]; omega) ?_
  have hcc : (Value.agg cs).cells = cs := rfl
  simp only [Instr.fill, hcc, hz1, hc, Nat.one_mul, Nat.zero_mul, Nat.zero_add]
  rw [if_neg (by simp)]
  congr 1
  have := laid_all cs (Array.map (fun x => z.cells[x % z.cells.size]!) (Array.range k)) (by simp [hc])
  simpa using this
theorem run_bs1v (hS : P.underlying S = some (.slice T)) (hT : (P.info? T).map (fun i => (i.zero, i.size, i.bytes)) = some (some z, 1, bytes)) (a : Value) (ha : a.cells = #[a]) (w : World) :
    (Instr.buildSlice S 1 #[(0, a)]).run P w = .ok (.slice (some ⟨w.heap.size, 0, none⟩) 1 1) (w.alloc (.cells #[a] T)) := by
  obtain ⟨i0, hi, hz0, hz1, hz2⟩ := info_parts hT
  refine run_buildSlice w S T 1 _ #[a] i0 z hS hi hz0 (by rw [hz1]; omega) (by rw [hz1]; omega) ?_
  have e : Array.range 1 = #[0] := by decide
  simp [Instr.fill, ha, hz1, e]
theorem run_bs2v (hS : P.underlying S = some (.slice T)) (hT : (P.info? T).map (fun i => (i.zero, i.size, i.bytes)) = some (some z, 1, bytes)) (a b : Value) (ha : a.cells = #[a]) (hb : b.cells = #[b]) (w : World) :
    (Instr.buildSlice S 2 #[(0, a), (1, b)]).run P w = .ok (.slice (some ⟨w.heap.size, 0, none⟩) 2 2) (w.alloc (.cells #[a, b] T)) := by
  obtain ⟨i0, hi, hz0, hz1, hz2⟩ := info_parts hT
  refine run_buildSlice w S T 2 _ #[a, b] i0 z hS hi hz0 (by rw [hz1]; omega) (by rw [hz1]; omega) ?_
  have e : Array.range 2 = #[0, 1] := by decide
  simp [Instr.fill, ha, hb, hz1, e]
theorem run_bs0 (hS : P.underlying S = some (.slice T)) (hT : (P.info? T).map (fun i => (i.zero, i.size, i.bytes)) = some (some z, k, bytes)) (w : World) :
    (Instr.buildSlice S 0 #[]).run P w = .ok (.slice (some ⟨w.heap.size, 0, none⟩) 0 0) (w.alloc (.cells #[] T)) := by
  obtain ⟨i0, hi, hz0, hz1, hz2⟩ := info_parts hT
  simp [Instr.buildSlice, run_underlying hS, sizeOf, typeInfo, zeroValue, hi, hz0, newRow, Instr.fill, show Array.range 0 = #[] by decide]
end
end Go.Proofs.YtaonnckhohieoaaDoor

