/- Arrays of bytes: whether two are equal; bytes copied into one. -/
import Derived.Test.YtaonnckhohieoaaDoorWk
import Derived.ChangeKeysEq
import Derived.StillTailTactics
set_option linter.unusedSimpArgs false
set_option maxRecDepth 100000
namespace Go.Proofs.YtaonnckhohieoaaDoor
open Go.RowKit Go.Lib

theorem run_eqItems_all {P : Program} (d : Nat) {e : TypeId} {k : IntKind} (he : P.underlying e = some (.int k)) (hc : P.cellsOf e = 1) (n : Nat) (f g : Nat → Int) (w : World) : ∀ (is : List Nat), (∀ i, i ∈ is → i < n) →
    (Op.eqItems (d + 1) e (P.cellsOf e) (arr n fun i => .int k (f i)) (arr n fun i => .int k (g i)) is).run P w = .ok (is.all fun i => f i == g i) w
  | [], _ => by simp [Op.eqItems]
  | i :: is, h => by
    have hp : P.plainKey e = true := by unfold Program.plainKey; rw [he]
    have hx : (arr n fun i => Value.int k (f i))[i * P.cellsOf e]? = some (.int k (f i)) := by
      rw [hc, Nat.mul_one]
      exact arr_get n _ i (h i (by simp))
    have hy : (arr n fun i => Value.int k (g i))[i * P.cellsOf e]? = some (.int k (g i)) := by
      rw [hc, Nat.mul_one]
      exact arr_get n _ i (h i (by simp))
    simp only [Op.eqItems, Sem.run_bind, run_part_plain w hp hx, run_part_plain w hp hy, Result.andThen_ok, run_equalIn_int w d e k k _ _ he]
    by_cases e1 : f i = g i
    · have h1 := run_eqItems_all d he hc n f g w is (fun j hj => h j (by simp [hj]))
      simp [e1, h1]
    · simp [e1]
theorem cellsB : Tryd.prog.cellsOf 5 = 1 := by kernel_rfl
theorem eq_bytes {T N : Nat} (hT : Tryd.prog.underlying T = some (.array N 5)) (f g : Nat → Nat) (w : World) : (Op.equalIn 10000 T (.agg (arr N (bv f))) (.agg (arr N (bv g)))).run Tryd.prog w = .ok ((List.range N).all fun i => ((f i : Nat) : Int) == ((g i : Nat) : Int)) w := by
  obtain ⟨i, hi, _⟩ := info_parts infoB
  rw [run_equalIn_array w 9999 _ _ hT hi]
  exact run_eqItems_all (P := Tryd.prog) 9998 Tryd.underlying5 cellsB N (fun i => ((f i : Nat) : Int)) (fun i => ((g i : Nat) : Int)) w (List.range N) (fun i hi => by simpa using hi)
theorem same_bytes {T N : Nat} (hT : Tryd.prog.underlying T = some (.array N 5)) (f : Nat → Nat) (w : World) : (Op.equalIn 10000 T (.agg (arr N (bv f))) (.agg (arr N (bv f)))).run Tryd.prog w = .ok true w := by
  rw [eq_bytes hT f f w]
  congr 1
  simp
theorem other_bytes {T N : Nat} (hT : Tryd.prog.underlying T = some (.array N 5)) {f g : Nat → Nat} {j : Nat} (hj : j < N) (h : f j ≠ g j) (w : World) : (Op.equalIn 10000 T (.agg (arr N (bv f))) (.agg (arr N (bv g)))).run Tryd.prog w = .ok false w := by
  rw [eq_bytes hT f g w]
  congr 1
  rw [List.all_eq_false]
  exact ⟨j, by simpa using hj, by simp; omega⟩

theorem same_bytes_at {d T N : Nat} (hT : Tryd.prog.underlying T = some (.array N 5)) (f : Nat → Nat) (w : World) : (Op.equalIn (d + 2) T (.agg (arr N (bv f))) (.agg (arr N (bv f)))).run Tryd.prog w = .ok true w := by
  obtain ⟨i, hi, _⟩ := info_parts infoB
  rw [run_equalIn_array w (d + 1) _ _ hT hi]
  refine (run_eqItems_all (P := Tryd.prog) d Tryd.underlying5 cellsB N (fun i => ((f i : Nat) : Int)) (fun i => ((f i : Nat) : Int)) w (List.range N) (fun i hi => by simpa using hi)).trans ?_
  congr 1
  simp
theorem eqFields_all {P : Program} {d : Nat} {xs : Array Value} {w : World} : ∀ (fs : List Field), (∀ f, f ∈ fs → ∃ a, (part f.type xs f.offset).run P w = .ok a w ∧ (Op.equalIn d f.type a a).run P w = .ok true w) → (Op.eqFields d xs xs fs).run P w = .ok true w
  | [], _ => by simp [Op.eqFields]
  | f :: fs, h => by
    obtain ⟨a, h1, h2⟩ := h f (by simp)
    have h3 := eqFields_all fs fun g hg => h g (by simp [hg])
    by_cases hn : f.name = "_"
    · simp only [Op.eqFields, hn, ne_eq, not_true_eq_false, if_false]; exact h3
    · simp only [Op.eqFields, hn, ne_eq, not_false_eq_true, if_true, Sem.run_bind, h1, h2, Result.andThen_ok, Bool.not_true, Bool.false_eq_true, if_false]
      exact h3
theorem splice_bytes (N k : Nat) (f y : Nat → Nat) (hk : k ≤ N) : ((arr N (bv f)).toList.take 0 ++ (fbs y k ++ (arr N (bv f)).toList.drop (0 + (fbs y k).length))).toArray = arr N (bv fun i => if i < k then y i else f i) := by
  have hl : (arr N (bv f)).toList.length = N := by rw [Array.length_toList, arr_size]
  refine arr_of ?_ ?_
  · rw [List.size_toArray, List.take_zero, List.nil_append, List.length_append, fbs_length, List.length_drop, hl]; omega
  · intro i hi
    rw [List.getElem?_toArray, List.take_zero, List.nil_append, fbs_length, Nat.zero_add]
    unfold bv
    by_cases h : i < k
    · rw [List.getElem?_append_left (by rw [fbs_length]; exact h), fbs_at _ _ _ h]
      simp only [if_pos h]
    · rw [List.getElem?_append_right (by rw [fbs_length]; omega), fbs_length, List.getElem?_drop, Array.getElem?_toList, show k + (i - k) = i by omega, arr_get N _ i hi]
      simp only [if_neg h]
section
variable {ops : Array Oper} {rest : List Oper} {Q : Exit → Act → World → Prop} {op : Oper} {a : Act} {w w0 : World} {l : List (Nat × TypeId × Array Value)}
/-- Bytes copied to the beginning of a block of bytes. -/
theorem mem_copy (i : Nat) (E : Hid (Mem w0 l w)) (hgd : op.guard = none) (d s : Operand) (ho : op.op = .call { callee := .builtin .copy, args := #[d, s], argTypes := #[22, 22] }) {b T N : Nat} {f : Nat → Nat} (hi : l[i]? = some (b, T, arr N (bv f)))
    (hd : a.eval d = .slice (some ⟨b, 0, none⟩) N N) {q : Option Addr} {g o n c : Nat} {y : Nat → Nat} (hs : a.eval s = .slice q n c) (R : Hid (Row w q g o n c y)) (h0 : 0 < n) (hn : n ≤ N)
    (h : ∀ w', Hid (Mem w0 (l.set i (b, T, arr N (bv fun i => if i < n then y i else f i))) w') → wpList Tryd.prog ops Q rest (a.put op.dst (.int .i64 ((n : Nat) : Int))) w') : wpList Tryd.prog ops Q (op :: rest) a w := by
  obtain rfl := R.out.head h0
  have hg := E.out.get (List.mem_of_getElem? hi)
  refine wpList_copy_own hgd d s 22 22 ho 5 Tryd.underlying22 (by kernel_rfl) b 0 N N ⟨g, o, none⟩ n c hd hs (arr N (bv f)) T hg (fbs y n) (by rw [fbs_length]; exact (Nat.min_eq_left hn).symm) ?_ (by rw [fbs_length, arr_size]; omega) (fbs_one y n) ?_
  · intro j v hv
    obtain ⟨hj, rfl⟩ := fbs_get _ _ _ _ hv
    rw [row_add]
    exact R.out.cell j hj
  · rw [splice_bytes N n f y hn, fbs_length]
    have ho' : Only b w (w.setRow b (arr N (bv fun i => if i < n then y i else f i))) := ⟨rfl, rfl, rfl, by simp, fun k _ hk => setRow_other w b k _ hk⟩
    exact h _ (Lib.hid (E.out.turn hi (setRow_heap w b _ _ T _ hg) ho'))
end
end Go.Proofs.YtaonnckhohieoaaDoor

