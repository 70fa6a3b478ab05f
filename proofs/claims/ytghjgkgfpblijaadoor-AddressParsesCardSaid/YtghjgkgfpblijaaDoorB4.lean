/- Noughts behind bytes of the call's own, none or some. -/
import Derived.Test.YtghjgkgfpblijaaDoorB3
set_option linter.unusedSimpArgs false
set_option linter.unusedVariables false
set_option maxRecDepth 100000
namespace Go.Proofs.YtghjgkgfpblijaaDoor
open Go.ChangeShapes Go.WideShapes Go.RowKit Go.Lib Go.Sort

theorem own_room {w : World} {B g n c m : Nat} {x y : Nat → Nat} (N : Own B w (some ⟨g, 0, none⟩) g n c x) (hm : n + m ≤ c) (hy : ∀ i, y i < 256) :
    Own B (w.setCells g n (fbs y m)) (some ⟨g, 0, none⟩) g (n + m) c (cat x n y) ∧ Below B w (w.setCells g n (fbs y m)) := by
  obtain ⟨hl, h | ⟨g', cap, cur, hv, hb, hg, hn, hc, hs, ht⟩⟩ := N.own
  · cases h.1
  · cases hv
    have hs' : cur.size = c := by rw [hs, Nat.mul_one]
    have H := setCells_mark (T := 5) (fbs y m) n w cur hg
    have P := putC_take (fbs y m) n cur (by rw [fbs_length]; omega)
    rw [fbs_length] at P
    have hb2 : Below B w (w.setCells g n (fbs y m)) := only_below H.2 hb N.low
    refine ⟨⟨⟨by rw [fbs_length, Nat.mul_one], .inr ⟨g, c, _, rfl, hb, H.1, hm, hc, by rw [putC_size, hs], ?_⟩⟩, .inr rfl, cat_byte n N.byte hy, Nat.le_trans N.low hb2.size⟩, hb2⟩
    rw [Nat.mul_one, P, ← fbs_cat]
    congr 1
    rw [Nat.mul_one] at ht
    exact ht
theorem zeroCells_fbs (k : Nat) : (Builtin.zeroCells #[.int .u8 0] k).toList = fbs (fun _ => 0) k := by
  apply List.ext_getElem?
  intro i
  unfold Builtin.zeroCells
  rcases Nat.lt_or_ge i k with h | h
  · rw [fbs_at _ _ _ h]
    simp [h, Nat.mod_one]
  · rw [List.getElem?_eq_none (by simp; exact h), List.getElem?_eq_none (by rw [fbs_length]; exact h)]
/-- Noughts behind bytes, where there is room. -/
theorem own_app_zeros {w : World} {p : Option Addr} {B g n c : Nat} {x : Nat → Nat} (N : Own B w p g n c x) (h0 : p = some ⟨g, 0, none⟩) (k : Nat) (ty : TypeId) (hl : n + k ≤ c) (hk : k ≤ 140737488355328) :
    ∃ w', (Builtin.append_ #[22, 3] ty #[.slice p n c, .int .i64 (k : Int)]).run Tryd.prog w = .ok (.slice p (n + k) c) w' ∧ Own B w' p g (n + k) c (cat x n fun _ => 0) ∧ Below B w w' := by
  obtain ⟨i0, hi, hz0, hz1, hz2⟩ := info_parts infoB
  subst h0
  have O := own_room (y := fun _ => 0) N hl (fun _ => by omega)
  refine ⟨_, ?_, O⟩
  obtain ⟨hl', h | ⟨g', cap, cur, hv, hb, hg, hn, hc, hs, ht⟩⟩ := N.own
  · cases h.1
  · cases hv
    rw [Nat.mul_one] at hs
    have st := run_storeCells_cells (P := Tryd.prog) g n (fbs (fun _ => 0) k) 0 w (fun j hj => by
      rw [fbs_length] at hj
      have e : n + 0 + j < cur.size := by omega
      rw [cell_of_here hg _ (Array.getElem?_eq_getElem e)]; rfl) (fun j hj => free_of_here hg _) (fbs_one _ _)
    rw [Nat.add_zero] at st
    have hw : IntKind.i64.wrap (k : Int) = k := by rw [IntKind.wrap_i64]; omega
    have h48i : ¬ (281474976710656 < (k : Int) * (i0.bytes : Int)) := by rw [hz2]; omega
    have hneg : ¬ ((k : Int) < 0) := by omega
    rcases Nat.eq_zero_or_pos k with e | e
    · subst e
      have e2 : fbs (fun _ => 0) 0 = [] := rfl
      have w0 : IntKind.i64.wrap 0 = 0 := by rw [IntKind.wrap_i64]; rfl
      simp [w0, Builtin.append_, run_underlying Tryd.underlying22, run_underlying Tryd.underlying3, sizeOf, typeInfo, hi, asInt, asIntOf, hw, hneg, h48i, hl, e2, World.setCells, storeCells, hn]
    · have hns : ¬ (k * i0.size = 0) := by rw [hz1]; omega
      have hns2 : ¬ (k = 0) := by omega
      have zc := zeroCells_fbs k
      simp [Builtin.append_, run_underlying Tryd.underlying22, run_underlying Tryd.underlying3, sizeOf, typeInfo, zeroValue, hi, hz0, hz1, asInt, asIntOf, hw, hneg, hns, hns2, h48i, hl, Value.cells, zc, row_add, st]
/-- Noughts behind bytes. -/
theorem own_app_noughts1 {w : World} {p : Option Addr} {B g n c : Nat} {x : Nat → Nat} (N : Own B w p g n c x) (h0 : p = some ⟨g, 0, none⟩) (k : Nat) (ty : TypeId) (hl : n + k ≤ 140737488355328) :
    ∃ p' g' c' w', (Builtin.append_ #[22, 3] ty #[.slice p n c, .int .i64 (k : Int)]).run Tryd.prog w = .ok (.slice p' (n + k) c') w' ∧ Own B w' p' g' (n + k) c' (cat x n fun _ => 0) ∧ Below B w w' := by
  by_cases hr : n + k ≤ c
  · obtain ⟨w', R, O⟩ := own_app_zeros N h0 k ty hr (by omega)
    exact ⟨p, g, c, w', R, O⟩
  · obtain ⟨i0, hi, hz0, hz1, hz2⟩ := info_parts infoB
    subst h0
    have hle := N.row.le
    have old : (Builtin.firstCells 1 n (.slice (some ⟨g, 0, none⟩) n c)).run Tryd.prog w.drew = .ok (fbs x n).toArray w.drew :=
      run_firstCells_some w.drew 1 n ⟨g, 0, none⟩ n c (fbs x n) (by rw [fbs_length, Nat.mul_one]) fun j u hu => by
        obtain ⟨hj, rfl⟩ := fbs_get _ _ _ _ hu
        rw [row_add]
        exact N.row.cell j hj
    have fit : Builtin.nextslicecap (n + k) c * i0.bytes ≤ 281474976710656 := growslice_fits (by omega) (by rw [hz2]; omega)
    have hw : IntKind.i64.wrap (k : Int) = k := by rw [IntKind.wrap_i64]; omega
    have h48i : ¬ (281474976710656 < (k : Int) * (i0.bytes : Int)) := by rw [hz2]; omega
    have hneg : ¬ ((k : Int) < 0) := by omega
    have hns : ¬ (k = 0) := by omega
    have h63 : ¬ (9223372036854775807 < (n : Int) + (k : Int)) := by omega
    have fit' : ¬ (281474976710656 < Builtin.nextslicecap (n + k) c * i0.bytes) := by omega
    have R : (Builtin.append_ #[22, 3] ty #[.slice (some ⟨g, 0, none⟩) n c, .int .i64 (k : Int)]).run Tryd.prog w = .ok (.slice (some ⟨w.heap.size, 0, none⟩) (n + k) (grownCap w (n + k) c 5)) (w.drew.alloc (.cells ((fbs x n).toArray ++ (Builtin.zeroCells #[.int .u8 0] k ++ Builtin.zeroCells #[.int .u8 0] (grownCap w (n + k) c 5 - (n + k)))) 5)) := by
      have h48j : ¬ (281474976710656 < (k : Int)) := by omega
      have fitj : ¬ (281474976710656 < Builtin.nextslicecap (n + k) c) := by rw [hz2] at fit; omega
      simp [h48j, fitj, Builtin.append_, run_underlying Tryd.underlying22, run_underlying Tryd.underlying3, sizeOf, typeInfo, zeroValue, hi, hz0, hz1, hz2, asInt, asIntOf, hw, hneg, hns, h48i, hr, h63, fit', Question.forced, old, newRow, grownCap, Value.cells]
    refine ⟨_, w.heap.size, _, _, R, ⟨⟨by rw [fbs_length, Nat.mul_one], .inr ⟨w.heap.size, _, _, rfl, N.low, heap_alloc_new w.drew _, grownCap_ge w (n + k) c 5, grownCap_le_maxLen w (n + k) c 5 (by unfold maxLen; omega), ?_, ?_⟩⟩, .inr rfl, cat_byte n N.byte (fun _ => by omega), ?_⟩, ((Below.refl _ _).drew.alloc (Nat.le_refl _) _).mono N.low⟩
    · simp only [Array.size_append, List.size_toArray, fbs_length, size_zeroCells]
      have := grownCap_ge w (n + k) c 5
      simp
      omega
    · rw [Array.toList_append, Array.toList_append, zeroCells_fbs k, ← List.append_assoc, fbs_cat, Nat.mul_one]
      exact List.take_left' (fbs_length _ _)
    · have := (below_new w.drew (.cells ((fbs x n).toArray ++ (Builtin.zeroCells #[.int .u8 0] k ++ Builtin.zeroCells #[.int .u8 0] (grownCap w (n + k) c 5 - (n + k)))) 5)).size
      exact Nat.le_trans N.low this
theorem own_app_noughts {w : World} {p : Option Addr} {B g n c : Nat} {x : Nat → Nat} (N : Own B w p g n c x) (k : Nat) (hk : 0 < k) (ty : TypeId) (hl : n + k ≤ 140737488355328) :
    ∃ p' g' c' w', (Builtin.append_ #[22, 3] ty #[.slice p n c, .int .i64 (k : Int)]).run Tryd.prog w = .ok (.slice p' (n + k) c') w' ∧ Own B w' p' g' (n + k) c' (cat x n fun _ => 0) ∧ Below B w w' := by
  rcases N.spot with h | h
  · subst h
    obtain ⟨rfl, rfl⟩ := N.row.nil rfl
    obtain ⟨i0, hi, hz0, hz1, hz2⟩ := info_parts infoB
    have fit : Builtin.nextslicecap (0 + k) 0 * i0.bytes ≤ 281474976710656 := growslice_fits (by omega) (by rw [hz2]; omega)
    have hw : IntKind.i64.wrap (k : Int) = k := by rw [IntKind.wrap_i64]; omega
    have h48i : ¬ (281474976710656 < (k : Int) * (i0.bytes : Int)) := by rw [hz2]; omega
    have hneg : ¬ ((k : Int) < 0) := by omega
    have hns : ¬ (k = 0) := by omega
    have h63 : ¬ (9223372036854775807 < (k : Int)) := by omega
    have fit' : ¬ (281474976710656 < Builtin.nextslicecap k 0 * i0.bytes) := by rw [Nat.zero_add] at fit; omega
    have R : (Builtin.append_ #[22, 3] ty #[.slice none 0 0, .int .i64 (k : Int)]).run Tryd.prog w = .ok (.slice (some ⟨w.heap.size, 0, none⟩) (0 + k) (grownCap w (0 + k) 0 5)) (w.drew.alloc (.cells ((fbs x 0).toArray ++ (Builtin.zeroCells #[.int .u8 0] k ++ Builtin.zeroCells #[.int .u8 0] (grownCap w (0 + k) 0 5 - (0 + k)))) 5)) := by
      have h48j : ¬ (281474976710656 < (k : Int)) := by omega
      have fitj : ¬ (281474976710656 < Builtin.nextslicecap k 0) := by rw [hz2] at fit'; omega
      have e0 : (fbs x 0).toArray = #[] := rfl
      simp [e0, h48j, fitj, Builtin.append_, run_underlying Tryd.underlying22, run_underlying Tryd.underlying3, sizeOf, typeInfo, zeroValue, hi, hz0, hz1, hz2, asInt, asIntOf, hw, hneg, hns, h48i, h63, fit', Question.forced, run_firstCells_none, newRow, grownCap, Value.cells]
    refine ⟨_, w.heap.size, _, _, R, ⟨⟨by rw [fbs_length, Nat.mul_one], .inr ⟨w.heap.size, _, _, rfl, N.low, heap_alloc_new w.drew _, grownCap_ge w (0 + k) 0 5, grownCap_le_maxLen w (0 + k) 0 5 (by unfold maxLen; omega), ?_, ?_⟩⟩, .inr rfl, cat_byte 0 N.byte (fun _ => by omega), ?_⟩, ((Below.refl _ _).drew.alloc (Nat.le_refl _) _).mono N.low⟩
    · simp only [Array.size_append, List.size_toArray, fbs_length, size_zeroCells]
      have := grownCap_ge w (0 + k) 0 5
      simp at this ⊢
      omega
    · rw [Array.toList_append, Array.toList_append, zeroCells_fbs k, ← List.append_assoc, fbs_cat, Nat.mul_one]
      exact List.take_left' (fbs_length _ _)
    · have := (below_new w.drew (.cells ((fbs x 0).toArray ++ (Builtin.zeroCells #[.int .u8 0] k ++ Builtin.zeroCells #[.int .u8 0] (grownCap w (0 + k) 0 5 - (0 + k)))) 5)).size
      exact Nat.le_trans N.low this
  · exact own_app_noughts1 N h k ty hl
/-- Noughts behind bytes: as the walk meets it. -/
theorem wpList_noughts {ops : Array Oper} {rest : List Oper} {Q : Exit → Act → World → Prop} {op : Oper} {a : Act} {w : World} (hw : Region.wanted op (yielded ops a.tmps) = true) (s t : Operand) (ho : op.op = .call { callee := .builtin .append, args := #[s, t], argTypes := #[22, 3] }) {B g n c : Nat} {p : Option Addr} {x : Nat → Nat} (hs : a.eval s = .slice p n c) (N : Hid (Own B w p g n c x))
    {m : Nat} {i : Int} (ht : a.eval t = .int .i64 i) (hi : i = (m : Int)) (hm : 0 < m) (hlen : n + m ≤ 140737488355328)
    (k : ∀ p' g' c' w', Hid (Own B w' p' g' (n + m) c' (cat x n fun _ => 0)) → Hid (Below B w w') → wpList Tryd.prog ops Q rest (a.put op.dst (.slice p' (n + m) c')) w') : wpList Tryd.prog ops Q (op :: rest) a w := by
  subst hi
  obtain ⟨p', g', c', w', R, O, hb⟩ := own_app_noughts N.out m hm op.type hlen
  refine wpList_known4 hw (.slice p' (n + m) c') w' ?_ (k p' g' c' w' (Lib.hid O) (Lib.hid hb))
  unfold execOp
  simp only [ho, resolve, invoke, builtin, Sem.run_bind, Sem.run_pure, Result.andThen_ok, List.map_toArray, List.map_cons, List.map_nil, hs, ht, R]
end Go.Proofs.YtghjgkgfpblijaaDoor
