/- Guards ahead of a walk's arms; operations whose run is known; bytes stored into a row of the call's own. -/
import Derived.Test.YtlbbnaihhagfdaaWk
import Derived.Test.YtlbbnaihhagfdaaHm
set_option linter.unusedSimpArgs false
set_option linter.unusedVariables false
set_option maxRecDepth 100000
namespace Go.Proofs.Ytlbbnaihhagfdaa
open Go.RowKit Go.Lib Go.Sort

theorem exec_index {T : TypeId} {o : Oper} {ev : Operand → Value} {W : World} {x y : Operand} (ho : o.op = .index T x y) {v : Value} (h : (Instr.index T (ev x) (ev y)).run Try.prog W = .ok v W) : (execOp ev o).run Try.prog W = .ok (.value v) W := by
  unfold execOp
  simp only [ho, Sem.run_bind, h, Result.andThen_ok]
  rfl
theorem wpList_known4 {P : Program} {ops : Array Oper} {rest : List Oper} {Q : Exit → Act → World → Prop} {op : Oper} {a : Act} {w : World} (hw : Region.wanted op (yielded ops a.tmps) = true) (v : Value) (w' : World) (hrun : (execOp a.eval op).run P w = .ok (.value v) w') (h : wpList P ops Q rest (a.put op.dst v) w') : wpList P ops Q (op :: rest) a w :=
  BigFrame.wpList_want hw fun _ hK => mo_known v w' hrun (hK _ _ h)
theorem Mem.drewN' {w0 w : World} {l : List (Nat × TypeId × Array Value)} {a : Nat} (E : Mem w0 l w) : Mem w0 l (w.drewN a) := ⟨⟨E.below.os, E.below.tape, E.below.output, E.below.size, E.below.block⟩, E.has, E.nd, E.ge⟩
theorem exec_lenS {o : Oper} {ev : Operand → Value} {W : World} {x : Operand} {s : ByteArray} (ho : o.op = .call { callee := .builtin .len, args := #[x], argTypes := #[9] }) (hx : ev x = .string s) : (execOp ev o).run Try.prog W = .ok (.value (.int .i64 (s.size : Int))) W := by
  unfold execOp
  simp [ho, hx, resolve, invoke, builtin, go_sem, Try.underlying9]
/-- The operation that writes a slot: a guard ahead of an arm. -/
theorem wpList_at {P : Program} {ops : Array Oper} {rest : List Oper} {Q : Exit → Act → World → Prop} {op : Oper} {a : Act} {w : World} (t : Nat) (hd : op.dst = some t) (h : wpList P ops Q (op :: rest) a w) : wpList P ops Q (op :: rest) a w := h
theorem exec_cv {o : Oper} {ev : Operand → Value} {W W' : World} {S T : TypeId} {x : Operand} {u : Value} (ho : o.op = .convert S T x) (h : (convert S T (ev x)).run Try.prog W = .ok u W') : (execOp ev o).run Try.prog W = .ok (.value u) W' := by
  unfold execOp
  simp only [ho, Sem.run_bind, h, Result.andThen_ok]
  rfl
section
variable {ops : Array Oper} {rest : List Oper} {Q : Exit → Act → World → Prop} {op : Oper} {a : Act} {w w0 : World} {l : List (Nat × TypeId × Array Value)}
/-- A slice of written bytes, where a guard may stand. -/
theorem wpList_bsw (hw : Region.wanted op (yielded ops a.tmps) = true) (m : Nat) (parts : Array (Nat × Operand)) (ho : op.op = .buildSlice 22 m parts) (E : Hid (Mem w0 l w)) (x : Nat → Nat) (hx : ∀ i, x i < 256) (hm : m ≤ maxLen)
    (hr : ∀ w : World, (Instr.buildSlice 22 m (parts.map fun (i, y) => (i, a.eval y))).run Try.prog w = .ok (.slice (some ⟨w.heap.size, 0, none⟩) m m) (w.alloc (.cells (fbs x m).toArray 5)))
    (k : ∀ B p g w', Hid (Work w0 l B p g m m x w') → wpList Try.prog ops Q rest (a.put op.dst (.slice p m m)) w') : wpList Try.prog ops Q (op :: rest) a w := by
  refine wpList_known4 hw (.slice (some ⟨w.heap.size, 0, none⟩) m m) (w.alloc (.cells (fbs x m).toArray 5)) ?_ (k _ _ _ _ (Lib.hid (Work.start E.out (own_new w x m hm hx) (below_new w _))))
  unfold execOp
  simp only [ho, Sem.run_bind, hr w, Result.andThen_ok]
  rfl
end
theorem own_put {w : World} {p : Option Addr} {B g n c i v : Nat} {x : Nat → Nat} (N : Own B w p g n c x) (hi : i < n) (hv : v < 256) : Own B (w.setCell ⟨g, i, none⟩ (.int .u8 (v : Int))) p g n c (fun k => if k = i then v else x k) ∧ Below B w (w.setCell ⟨g, i, none⟩ (.int .u8 (v : Int))) ∧ w.frozen? ⟨g, i, none⟩ = false := by
  obtain rfl := N.row.head (by omega)
  obtain ⟨hl, h | ⟨g', cap, cur, hv', hb, hg, hn, hc, hs, ht⟩⟩ := N.own
  · cases h.1
  · cases hv'
    rw [Nat.mul_one] at hs ht
    have H := (Holds.start hg).set (i := i) (v := .int .u8 (v : Int)) rfl
    have hb2 : Below B w (w.setCell ⟨g, i, none⟩ (.int .u8 (v : Int))) := ⟨H.only.os, H.only.tape, H.only.output, H.only.size, fun k hk => H.only.block k (by have := N.low; omega) (by omega)⟩
    refine ⟨⟨⟨by rw [fbs_length, Nat.mul_one], .inr ⟨g, c, _, rfl, hb, H.here, hn, hc, by rw [Array.size_setIfInBounds, hs, Nat.mul_one], ?_⟩⟩, .inr rfl, fun k => ?_, Nat.le_trans N.low hb2.size⟩, hb2, free_of_here hg i⟩
    · rw [Nat.mul_one]
      apply List.ext_getElem?
      intro k
      have h1 : (cur.toList.take n)[k]? = (fbs x n)[k]? := by rw [ht]
      rcases Nat.lt_or_ge k n with q | q
      · rw [List.getElem?_take_of_lt q] at h1 ⊢
        rw [fbs_at _ _ _ q] at h1 ⊢
        rw [Array.toList_setIfInBounds, List.getElem?_set]
        by_cases e : i = k
        · subst e
          rw [if_pos rfl, if_pos (by rw [Array.length_toList]; omega), if_pos rfl]
        · rw [if_neg e, if_neg (fun h => e h.symm), h1]
      · rw [List.getElem?_eq_none (by rw [List.length_take]; omega), List.getElem?_eq_none (by rw [fbs_length]; exact q)]
    · split
      · exact hv
      · exact N.byte k
section
variable {ops : Array Oper} {rest : List Oper} {Q : Exit → Act → World → Prop} {op : Oper} {a : Act} {w : World}
theorem wpList_atn {P : Program} (hd : op.dst = none) (h : wpList P ops Q (op :: rest) a w) : wpList P ops Q (op :: rest) a w := h
/-- A byte, stored into a row of the call's own. -/
theorem wpList_bput (hg : op.guard = none) (x y : Operand) (ho : op.op = .store 5 x y) {B g n c i v : Nat} {p : Option Addr} {f : Nat → Nat} (N : Hid (Own B w p g n c f)) (hx : a.eval x = .pointer (some ⟨g, 0 + i * 1, none⟩)) (hy : a.eval y = .int .u8 (v : Int)) (hi : i < n) (hv : v < 256)
    (k : ∀ w', Hid (Own B w' p g n c fun k => if k = i then v else f k) → Hid (Below B w w') → wpList Try.prog ops Q rest (a.put op.dst undef) w') : wpList Try.prog ops Q (op :: rest) a w := by
  obtain ⟨O, hb, hf⟩ := own_put N.out hi hv
  rw [Nat.zero_add, Nat.mul_one] at hx
  have hc := N.out.row.cell i hi
  rw [Nat.zero_add] at hc
  refine wpList_plain hg fun K hK => ?_
  unfold Oper.wp execOp
  simp only [ho, hx, hy, Sem.run_bind, Sem.run_pure, run_store_one (P := Try.prog) (ty := 5) (v := .int .u8 (v : Int)) (by kernel_rfl) rfl rfl hc hf, Result.andThen_ok]
  exact hK _ _ (k _ (Lib.hid O) (Lib.hid hb))
theorem wpList_bput0 (hg : op.guard = none) (x y : Operand) (ho : op.op = .store 5 x y) {B g n c i v : Nat} {p : Option Addr} {f : Nat → Nat} (N : Hid (Own B w p g n c f)) (hx : a.eval x = .pointer (some ⟨g, i, none⟩)) (hy : a.eval y = .int .u8 (v : Int)) (hi : i < n) (hv : v < 256)
    (k : ∀ w', Hid (Own B w' p g n c fun k => if k = i then v else f k) → Hid (Below B w w') → wpList Try.prog ops Q rest (a.put op.dst undef) w') : wpList Try.prog ops Q (op :: rest) a w :=
  wpList_bput hg x y ho N (by rw [Nat.zero_add, Nat.mul_one]; exact hx) hy hi hv k
end
end Go.Proofs.Ytlbbnaihhagfdaa
