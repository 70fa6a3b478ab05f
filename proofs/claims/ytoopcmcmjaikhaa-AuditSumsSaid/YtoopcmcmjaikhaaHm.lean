/- Regions that draw their order, operation by operation; the address of an element, a hash's bytes. Nothing of the program stands here but its row for hashes. -/
import Derived.Test.YtoopcmcmjaikhaaMo
set_option linter.unusedSimpArgs false
set_option linter.unusedVariables false
set_option maxRecDepth 100000
namespace Go.Proofs.Ytoopcmcmjaikhaa
open Go.RowKit Go.Lib Go.Sort

section
variable {P : Program} {ops : Array Oper} {Q : Exit → Act → World → Prop} {md : Region.Mode} {S : World → Prop} {fuel : Nat} {listed : Array Bool} {a : Act} {w : World}
/-- An operation that reads, whatever the order. -/
theorem hm_run {oi : Oper} (i t : Nat) (v : Value) (hd : oi.dst = some t) (hi : ops[i]? = some oi) (hs : Region.noSelect ops = true) (hf : Region.free md ops listed i = true) (hr : (Region.ready md ops listed).contains i = true)
    (hQ : ∀ c a w, Q (.panic c) (a.put oi.dst v) w → Q (.panic c) a w) (hw : Region.wanted oi (yielded ops a.tmps) = true) (hy : ∀ W, S W → (execOp a.eval oi).run P W = .ok (.value v) W) (hS : S w)
    (h : wpAnyH P md ops Q S fuel (listed.setIfInBounds i true) (a.put (some t) v) w) : wpAnyH P md ops Q S (fuel + 1) listed a w :=
  wpAnyH_take hi hs hf hr hQ (.inl ⟨hw, hy⟩) hS (by rw [hd]; exact h)
variable {o : Oper} {ev : Operand → Value} {W : World}
theorem exec_sl {T : TypeId} {x : Operand} {lo hi mx : Option Operand} (ho : o.op = .slice T x lo hi mx) {v : Value} (h : (Instr.sliceAt T (ev x) (lo.map ev) (hi.map ev) (mx.map ev)).run P W = .ok v W) : (execOp ev o).run P W = .ok (.value v) W := by
  unfold execOp
  simp only [ho, Sem.run_bind, h, Result.andThen_ok]
  rfl
theorem exec_arr {T : TypeId} {x : Operand} (ho : o.op = .sliceToArrayPointer T x) {v : Value} (h : (Instr.arrayAt T (ev x)).run P W = .ok v W) : (execOp ev o).run P W = .ok (.value v) W := by
  unfold execOp
  simp only [ho, Sem.run_bind, h, Result.andThen_ok]
  rfl
theorem exec_load {T : TypeId} {x : Operand} (ho : o.op = .load T x) {v : Value} (h : (Instr.loadAt T (ev x)).run P W = .ok v W) : (execOp ev o).run P W = .ok (.value v) W := by
  unfold execOp
  simp only [ho, Sem.run_bind, h, Result.andThen_ok]
  rfl
theorem exec_build {T : TypeId} {parts : Array (Nat × Operand)} (ho : o.op = .build T parts) {ps : Array (Nat × Value)} (hp : parts.map (fun (i, x) => (i, ev x)) = ps) {cells : Array Value} (hc : P.built T ps.toList = some cells) : (execOp ev o).run P W = .ok (.value (.agg cells)) W := by
  unfold execOp
  simp only [ho, hp, Sem.run_bind, run_build W T _ _ hc, Result.andThen_ok]
  rfl
end
theorem wp_region_memS {P : Program} {ops : Array Oper} {Q : Exit → Act → World → Prop} {S : World → Prop} {w0 w : World} {l : List (Nat × TypeId × Array Value)} {id : Nat} {a : Act} (E : Hid (Mem w0 l w)) (hm : P.follows .mixedOrders = true)
    (h : ∀ w', Hid (Mem w0 l w') → wpAnyH P .any ops Q S ops.size (Array.replicate ops.size false) a w') : (Code.region id ops true).wp P Q a w :=
  wp_region_held hm (h _ (Lib.hid ⟨⟨E.out.below.os, E.out.below.tape, E.out.below.output, E.out.below.size, E.out.below.block⟩, E.out.has, E.out.nd, E.out.ge⟩))
section
variable {P : Program} {K : Act → World → Prop} {Q : Exit → Act → World → Prop} {op : Oper} {a : Act} {w w0 : World} {l : List (Nat × TypeId × Array Value)}
theorem mo_store_only (i : Nat) (E : Hid (Mem w0 l w)) (ty : TypeId) (x y : Operand) (ho : op.op = .store ty x y) {b T : Nat} {c c' : Array Value} (hx : a.eval x = .pointer (some ⟨b, 0, none⟩)) (hy : a.eval y = .agg c') (hi : l[i]? = some (b, T, c))
    (hs : (P.info? ty).map (·.size) = some c'.size) (hl : c.size = c'.size) (h1 : c'.all (·.oneCell') = true)
    (h : ∀ w', Hid (Mem w0 (l.set i (b, T, c')) w') → Hid (Only b w w') → K (a.put op.dst undef) w') : op.wp P a w K Q := by
  have hg := E.out.get (List.mem_of_getElem? hi)
  have ho' : Only b w (w.setRow b c') := ⟨rfl, rfl, rfl, by simp, fun k _ hk => setRow_other w b k c' hk⟩
  exact wp_store_row ty x y ho b c' hx hy T c hg hs hl h1 (h _ (Lib.hid (E.out.turn hi (setRow_heap w b c c' T _ hg) ho')) (Lib.hid ho'))
end
theorem arr_cells' (n : Nat) (f : Nat → Value) : (Value.agg (arr n f)).cells = arr n f := rfl
theorem run_hash (b o : Nat) (w : World) : (Instr.sliceAt 27 (.pointer (some ⟨b, o, none⟩)) none none none).run Try.prog w = .ok (.slice (some ⟨b, o, none⟩) 32 32) w := by
  have hl : Try.prog.arrayLen 27 = 32 := by kernel_rfl
  have he : Try.prog.elem 27 = 5 := by kernel_rfl
  have ht : Try.prog.underlying 27 = some (.array (Try.prog.arrayLen 27) (Try.prog.elem 27)) := by rw [hl, he]; exact Try.underlying27
  have hs : ∀ w, (Go.sizeOf 5).run Try.prog w = .ok 1 w := fun w => by kernel_rfl
  rw [run_sliceAt_array_all w 27 ⟨b, o, none⟩ ht, he, hs, hl]
  simp only [Result.andThen_ok, slicedAt]
  rw [if_neg (by omega), Nat.zero_mul, row_add]
  rfl
theorem run_ix {P : Program} {S T k : Nat} (hS : P.underlying S = some (.slice T)) (hk : (P.info? T).map (·.size) = some k) {n c g o j : Nat} {q : IntKind} {i : Int} (hj : j < n) (hi : i = (j : Int)) (w : World) :
    (Instr.indexAt S (.slice (some ⟨g, o, none⟩) n c) (.int q i)).run P w = .ok (.pointer (some ⟨g, o + j * k, none⟩)) w := by
  have he : P.elem S = T := by simp [Program.elem, hS]
  have hS' : P.underlying S = some (.slice (P.elem S)) := by rw [he]; exact hS
  rw [run_indexAt_slice (h := hS'), he, if_pos (by omega)]
  obtain ⟨t, ht, hk'⟩ : ∃ t, P.info? T = some t ∧ t.size = k := by
    cases h : P.info? T with
    | none => rw [h] at hk; cases hk
    | some t => rw [h] at hk; exact ⟨t, rfl, by simpa using hk⟩
  have hs : (sizeOf T).run P w = .ok k w := by simp [sizeOf, typeInfo, ht, hk']
  rw [hs]
  simp only [Result.andThen_ok, row_add, hi, Int.toNat_natCast]
theorem exec_ix {P : Program} {f : Operand → Value} {oi : Oper} {S : TypeId} {x ix : Operand} {W : World} {v : Value} (ho : oi.op = .indexAddr S x ix) (h : (Instr.indexAt S (f x) (f ix)).run P W = .ok v W) : (execOp f oi).run P W = .ok (.value v) W := by
  unfold execOp
  simp only [ho, Sem.run_bind, h, Result.andThen_ok]
  rfl
section
variable {P : Program} {ops : Array Oper} {rest : List Oper} {Q : Exit → Act → World → Prop} {op : Oper} {a : Act} {w : World}
/-- The address of an element. -/
theorem wpList_ix {S T k : Nat} (hS : P.underlying S = some (.slice T)) (hk : (P.info? T).map (·.size) = some k) (x y : Operand) (ho : op.op = .indexAddr S x y) (hw : Region.wanted op (yielded ops a.tmps) = true) {n c g b j : Nat} {q : IntKind} {i : Int}
    (hx : a.eval x = .slice (some ⟨g, b, none⟩) n c) (hy : a.eval y = .int q i) (hj : j < n) (hi : i = (j : Int)) (h : wpList P ops Q rest (a.put op.dst (.pointer (some ⟨g, b + j * k, none⟩))) w) : wpList P ops Q (op :: rest) a w :=
  BigFrame.wpList_want hw fun _ hK => mo_known _ w (exec_ix ho (by rw [hx, hy]; exact run_ix hS hk hj hi w)) (hK _ _ h)
/-- A struct or an array of parts. -/
theorem wpList_bld (T : TypeId) (parts : Array (Nat × Operand)) (ho : op.op = .build T parts) (hw : Region.wanted op (yielded ops a.tmps) = true) {ps : Array (Nat × Value)} (hp : parts.map (fun (i, x) => (i, a.eval x)) = ps) {cells : Array Value} (hc : P.built T ps.toList = some cells)
    (h : wpList P ops Q rest (a.put op.dst (.agg cells)) w) : wpList P ops Q (op :: rest) a w :=
  BigFrame.wpList_want hw fun _ hK => mo_known _ w (exec_build ho hp hc) (hK _ _ h)
/-- A row or a cell, loaded. -/
theorem wpList_ld (ty : TypeId) (x : Operand) (ho : op.op = .load ty x) (hw : Region.wanted op (yielded ops a.tmps) = true) {ad : Addr} (hx : a.eval x = .pointer (some ad)) {v : Value} (hl : (Instr.loadAt ty (.pointer (some ad))).run P w = .ok v w)
    (h : wpList P ops Q rest (a.put op.dst v) w) : wpList P ops Q (op :: rest) a w :=
  BigFrame.wpList_want hw fun _ hK => mo_known _ w (by
    unfold execOp
    simp only [ho, hx, Sem.run_bind, hl, Result.andThen_ok]
    rfl) (hK _ _ h)
/-- One cell, loaded. -/
theorem wpList_ld1 (ty : TypeId) (x : Operand) (ho : op.op = .load ty x) (hw : Region.wanted op (yielded ops a.tmps) = true) {ad : Addr} (hx : a.eval x = .pointer (some ad)) {d : TypeDesc} (hu : P.underlying ty = some d) (hd : d.isRow = false) {v : Value} (hc : w.cell? ad = some v)
    (h : wpList P ops Q rest (a.put op.dst v) w) : wpList P ops Q (op :: rest) a w :=
  BigFrame.wpList_want hw fun _ hK => mo_known _ w (by
    unfold execOp
    simp only [ho, hx, Sem.run_bind, run_load_one hu hd hc, Result.andThen_ok]
    rfl) (hK _ _ h)
end

section
variable {P : Program} {ops : Array Oper} {C : World → Prop} {Q : Act → Prop} {a : Act} {o : Oper} {rest : List Oper}
theorem wpQuiet_pure (v : Value) (hw : Region.wanted o (yielded ops a.tmps) = true) (hl : ∀ w, (execOp a.eval o).run P w = .ok (.value v) w) (h : wpQuiet P ops C Q rest (a.put o.dst v)) : wpQuiet P ops C Q (o :: rest) a := by
  show if _ then _ else _
  rw [if_pos hw]
  refine ⟨v, fun w hC => ?_, h⟩
  unfold Oper.quietAt
  rw [hl w]
  exact ⟨rfl, rfl⟩
theorem wpQuiet_ix {S T k : Nat} (hS : P.underlying S = some (.slice T)) (hk : (P.info? T).map (·.size) = some k) (x y : Operand) (ho : o.op = .indexAddr S x y) (hw : Region.wanted o (yielded ops a.tmps) = true) {n c g b j : Nat} {q : IntKind} {i : Int}
    (hx : a.eval x = .slice (some ⟨g, b, none⟩) n c) (hy : a.eval y = .int q i) (hj : j < n) (hi : i = (j : Int)) (h : wpQuiet P ops C Q rest (a.put o.dst (.pointer (some ⟨g, b + j * k, none⟩)))) : wpQuiet P ops C Q (o :: rest) a :=
  wpQuiet_pure _ hw (fun w => exec_ix ho (by rw [hx, hy]; exact run_ix hS hk hj hi w)) h
/-- A row at any address, loaded in a quiet region. -/
theorem wpQuiet_load_at (ty : TypeId) (x : Operand) (ho : o.op = .load ty x) (hw : Region.wanted o (yielded ops a.tmps) = true) (ad : Addr)
    (hx : a.eval x = .pointer (some ad)) (v : Value) (hl : ∀ w, C w → (Instr.loadAt ty (.pointer (some ad))).run P w = .ok v w) (h : wpQuiet P ops C Q rest (a.put o.dst v)) : wpQuiet P ops C Q (o :: rest) a := by
  show if _ then _ else _
  rw [if_pos hw]
  refine ⟨v, fun w hC => ?_, h⟩
  unfold Oper.quietAt execOp
  simp only [ho, hx, Sem.run_bind, Sem.run_pure, hl w hC, Result.andThen_ok]
  exact ⟨rfl, rfl⟩
end
section
variable {o : Oper} {ev : Operand → Value} {W : World} {x y : Operand} {a b r : Int}
theorem exec_add (ho : o.op = .binOp .add 3 x y 3) (hx : ev x = .int .i64 a) (hy : ev y = .int .i64 b) (hr : IntKind.i64.wrap (a + b) = r) : (execOp ev o).run Try.prog W = .ok (.value (.int .i64 r)) W := by
  subst hr
  unfold execOp
  simp [ho, hx, hy, go_sem, binOp]
theorem exec_sub (ho : o.op = .binOp .sub 3 x y 3) (hx : ev x = .int .i64 a) (hy : ev y = .int .i64 b) (hr : IntKind.i64.wrap (a - b) = r) : (execOp ev o).run Try.prog W = .ok (.value (.int .i64 r)) W := by
  subst hr
  unfold execOp
  simp [ho, hx, hy, go_sem, binOp]
theorem exec_min (ho : o.op = .call { callee := .builtin .min, args := #[x, y], argTypes := #[3, 3] }) (ht : o.type = 3) (hx : ev x = .int .i64 a) (hy : ev y = .int .i64 b) (hr : min a b = r) : (execOp ev o).run Try.prog W = .ok (.value (.int .i64 r)) W := by
  subst hr
  unfold execOp
  simp [ho, hx, hy, go_sem, resolve, invoke, builtin, ht]
  split <;> omega
theorem exec_len {S T : Nat} (hS : Try.prog.underlying S = some (.slice T)) (ho : o.op = .call { callee := .builtin .len, args := #[x], argTypes := #[S] }) {p : Option Addr} {n c : Nat} (hx : ev x = .slice p n c) : (execOp ev o).run Try.prog W = .ok (.value (.int .i64 (n : Int))) W := by
  have he : Try.prog.elem S = T := by simp [Program.elem, hS]
  have h := run_len_slice (P := Try.prog) W S o.type p n c (by rw [he]; exact hS)
  unfold execOp
  simp only [ho, resolve, invoke, builtin, Sem.run_bind, Sem.run_pure, Result.andThen_ok, List.map_toArray, List.map_cons, List.map_nil, hx, h]
  rfl
end
end Go.Proofs.Ytoopcmcmjaikhaa

