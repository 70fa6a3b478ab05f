/- Memory of the call's own, block by block, kept through a walk whose worlds and blocks stay variables. Nothing of the program stands here. -/
import Derived.Test.YtoopcmcmjaikhaaBase
import Derived.Deep.MidRow
import Derived.BigFrame
import Derived.OwnWalk
import Derived.Deep.WholeRow
import Derived.Test.YtoopcmcmjaikhaaArr
import Derived.Deep.RegionHeld3
import Derived.Lib.QuietBelow
import Derived.BigQuiet

section
namespace Go.Proofs.Ytoopcmcmjaikhaa
open Go.RowKit Go.Lib
/-- A whole row, loaded in a quiet region. -/
theorem wpQuiet_load_all {P : Program} {ops : Array Oper} {C : World → Prop} {Q : Act → Prop} {a : Act} {o : Oper} {rest : List Oper} (ty : TypeId) (x : Operand) (ho : o.op = .load ty x) (hw : Region.wanted o (yielded ops a.tmps) = true) (b : Nat)
    (hx : a.eval x = .pointer (some ⟨b, 0, none⟩)) (v : Value) (hl : ∀ w, C w → (Instr.loadAt ty (.pointer (some ⟨b, 0, none⟩))).run P w = .ok v w) (h : wpQuiet P ops C Q rest (a.put o.dst v)) : wpQuiet P ops C Q (o :: rest) a := by
  show if _ then _ else _
  rw [if_pos hw]
  refine ⟨v, fun w hC => ?_, h⟩
  unfold Oper.quietAt execOp
  simp only [ho, hx, Sem.run_bind, Sem.run_pure, hl w hC, Result.andThen_ok]
  exact ⟨rfl, rfl⟩
end Go.Proofs.Ytoopcmcmjaikhaa
end
section
set_option linter.unusedSimpArgs false
namespace Go.Proofs.Ytoopcmcmjaikhaa
open Go.RowKit Go.Lib

/-- New blocks, each with its type and its cells, each apart from the others; what w0 had is as it was. -/
structure Mem (w0 : World) (l : List (Nat × TypeId × Array Value)) (w : World) : Prop where
  below : Below w0.heap.size w0 w
  has : ∀ p, p ∈ l → w.heap[p.1]? = some (.cells p.2.2 p.2.1 (0, 0))
  nd : (l.map (·.1)).Nodup
  ge : ∀ p, p ∈ l → w0.heap.size ≤ p.1
section
variable {w0 w w' : World} {l : List (Nat × TypeId × Array Value)} {b T : Nat} {c c' : Array Value}
theorem heap_lt {o : Obj} (h : w.heap[b]? = some o) : b < w.heap.size := by
  rcases Nat.lt_or_ge b w.heap.size with q | q
  · exact q
  · rw [Array.getElem?_eq_none q] at h; cases h
theorem Mem.nil (w : World) : Mem w [] w := ⟨Below.refl _ _, fun _ h => (by cases h), List.nodup_nil, fun _ h => by cases h⟩
theorem Mem.get (E : Mem w0 l w) (h : (b, T, c) ∈ l) : w.heap[b]? = some (.cells c T (0, 0)) := E.has _ h
theorem Mem.call (E : Mem w0 l w) (hb : Below w.heap.size w w') : Mem w0 l w' :=
  ⟨E.below.trans (hb.mono E.below.size), fun p hp => (hb.block p.1 (heap_lt (E.has p hp))).trans (E.has p hp), E.nd, E.ge⟩
theorem Mem.drew (E : Mem w0 l w) : Mem w0 l w.drew := ⟨E.below.drew, E.has, E.nd, E.ge⟩
theorem Mem.drewN {n : Nat} (E : Mem w0 l w) : Mem w0 l (w.drewN n) := ⟨⟨E.below.os, E.below.tape, E.below.output, E.below.size, E.below.block⟩, E.has, E.nd, E.ge⟩
theorem Mem.new (E : Mem w0 l w) (T : TypeId) (c : Array Value) : Mem w0 ((w.heap.size, T, c) :: l) (w.alloc (.cells c T)) :=
  ⟨E.below.trans ((below_new w (.cells c T)).mono E.below.size), fun p hp => by
    rcases List.mem_cons.1 hp with rfl | hp
    · exact here_new w c T
    · rw [Below.heap_alloc _ _ _ (heap_lt (E.has p hp))]; exact E.has p hp, by
    rw [List.map_cons, List.nodup_cons]
    refine ⟨fun h => ?_, E.nd⟩
    obtain ⟨p, hp, he⟩ := List.mem_map.1 h
    exact Nat.ne_of_lt (heap_lt (E.has p hp)) he, fun p hp => by
    rcases List.mem_cons.1 hp with rfl | hp
    · exact E.below.size
    · exact E.ge p hp⟩
theorem Mem.tail {x : Nat × TypeId × Array Value} (E : Mem w0 (x :: l) w) : Mem w0 l w := ⟨E.below, fun p h => E.has p (List.mem_cons_of_mem _ h), (List.nodup_cons.1 E.nd).2, fun p hp => E.ge p (List.mem_cons_of_mem _ hp)⟩
theorem mem_set_map {i : Nat} (hi : l[i]? = some (b, T, c)) : (l.set i (b, T, c')).map (·.1) = l.map (·.1) := by
  apply List.ext_getElem?
  intro j
  simp only [List.getElem?_map, List.getElem?_set]
  by_cases h : i = j
  · subst h
    obtain ⟨hl, hv⟩ := List.getElem?_eq_some_iff.1 hi
    simp [hl, hv]
  · simp [h]
/-- One block turned. -/
theorem Mem.turn (E : Mem w0 l w) {i : Nat} (hi : l[i]? = some (b, T, c)) (hh : w'.heap[b]? = some (.cells c' T (0, 0))) (ho : Only b w w') : Mem w0 (l.set i (b, T, c')) w' := by
  have hp := List.mem_of_getElem? hi
  have hge := E.ge _ hp
  have e := mem_set_map (c' := c') hi
  have key : ∀ (j : Nat) (x : Nat × TypeId × Array Value), l[j]? = some x → j ≠ i → x.1 ≠ b := fun j x hj hji he => by
    have hn := E.nd
    have h1 : (l.map (·.1))[j]? = some b := by rw [List.getElem?_map, hj]; simp [he]
    have h2 : (l.map (·.1))[i]? = some b := by rw [List.getElem?_map, hi]; rfl
    exact hji ((List.getElem?_inj (List.getElem?_eq_some_iff.1 h1).1 hn).1 (h1.trans h2.symm))
  refine ⟨E.below.trans (ho.below hge E.below.size), fun x hx => ?_, by rw [e]; exact E.nd, fun x hx => ?_⟩
  · obtain ⟨j, hj⟩ := List.mem_iff_getElem?.1 hx
    rw [List.getElem?_set] at hj
    by_cases h : i = j
    · subst h
      rw [if_pos rfl, if_pos (List.getElem?_eq_some_iff.1 hi).1] at hj
      obtain rfl := Option.some.inj hj
      exact hh
    · rw [if_neg h] at hj
      exact ho.heap (key j x hj (Ne.symm h)) (E.has x (List.mem_of_getElem? hj))
  · obtain ⟨j, hj⟩ := List.mem_iff_getElem?.1 hx
    rw [List.getElem?_set] at hj
    by_cases h : i = j
    · subst h
      rw [if_pos rfl, if_pos (List.getElem?_eq_some_iff.1 hi).1] at hj
      obtain rfl := Option.some.inj hj
      exact hge
    · rw [if_neg h] at hj
      exact E.ge x (List.mem_of_getElem? hj)
theorem Mem.sub {l' : List (Nat × TypeId × Array Value)} (E : Mem w0 l w) (h : l'.Sublist l) : Mem w0 l' w :=
  ⟨E.below, fun p hp => E.has p (h.subset hp), E.nd.sublist (h.map _), fun p hp => E.ge p (h.subset hp)⟩
/-- A cell of an old block is as it was. -/
theorem Mem.old (E : Mem w0 l w) {a : Addr} (h : a.block < w0.heap.size) : w.cell? a = w0.cell? a := E.below.cell h
end

section
variable {P : Program} {K : Act → World → Prop} {Q : Exit → Act → World → Prop} {op : Oper} {a : Act} {w w0 : World} {l : List (Nat × TypeId × Array Value)}
/-- An operation whose run is known. -/
theorem mo_known (v : Value) (w' : World) (hrun : (execOp a.eval op).run P w = .ok (.value v) w') (h : K (a.put op.dst v) w') : op.wp P a w K Q := by
  unfold Oper.wp
  rw [hrun, Oper.upon_value]
  exact h
theorem mo_alloc (E : Hid (Mem w0 l w)) (T : TypeId) (ho : op.op = .alloc T) {z : Value} {n : Nat} (hz : (P.info? T).map (fun i => (i.zero, i.size)) = some (some z, n))
    (h : ∀ b w', Hid (Mem w0 ((b, T, z.cells) :: l) w') → K (a.put op.dst (.pointer (some ⟨b, 0, none⟩))) w') : op.wp P a w K Q := by
  refine mo_known (.pointer (some ⟨w.heap.size, 0, none⟩)) (w.alloc (.cells z.cells T)) ?_ (h _ _ (Lib.hid (E.out.new T _)))
  unfold execOp
  simp only [ho, Sem.run_bind, Instr.alloc, (zero_of_info hz).1, Result.andThen_ok]
  rfl
theorem mo_box (E : Hid (Mem w0 l w)) (T : TypeId) (x : Operand) (ho : op.op = .box T x) {v : Value} (hx : a.eval x = v) {c : Array Value} (hc : v.cells = c)
    (h : ∀ b w', Hid (Mem w0 ((b, T, c) :: l) w') → K (a.put op.dst (.pointer (some ⟨b, 0, none⟩))) w') : op.wp P a w K Q := by
  refine mo_known (.pointer (some ⟨w.heap.size, 0, none⟩)) (w.alloc (.cells c T)) ?_ (h _ _ (Lib.hid (E.out.new T _)))
  unfold execOp
  subst hx hc
  simp only [ho, Sem.run_bind, Instr.box]
  rfl
theorem range_all {b T : Nat} {c : Array Value} (hg : w.heap[b]? = some (.cells c T (0, 0))) : w.rangeAt b 0 c.toList := fun j v hj => by
  rw [Nat.zero_add]
  exact cell_of_here hg j (by simpa using hj)
/-- A row from offset o on. -/
theorem mo_load_row (E : Hid (Mem w0 l w)) (ty : TypeId) (x : Operand) (ho : op.op = .load ty x) {b T : Nat} {c : Array Value} (hx : a.eval x = .pointer (some ⟨b, 0, none⟩)) (hm : (b, T, c) ∈ l)
    {d : TypeDesc} (hu : P.underlying ty = some d) (hd : d.isRow = true) (hi : (P.info? ty).map (·.size) = some c.size)
    (h : K (a.put op.dst (.agg c)) w) : op.wp P a w K Q := by
  have e := wp_load_mid (P := P) (K := K) (Q := Q) ty x ho b 0 hx c.toList d (range_all (E.out.get hm)) hu hd (by rw [hi, Array.length_toList])
  simpa using e (by simpa using h)
theorem run_load_one {ty : TypeId} {d : TypeDesc} (hu : P.underlying ty = some d) (hd : d.isRow = false) {p : Addr} {v : Value} (hc : w.cell? p = some v) : (Instr.loadAt ty (.pointer (some p))).run P w = .ok v w := by
  have hagg : (isAgg ty).run P w = .ok false w := by
    unfold isAgg
    rw [Sem.run_bind, run_underlying hu w]
    cases d <;> simp_all
  simp [Instr.loadAt, Instr.sureAddr, loadVar, Sem.run_bind, hagg, go_sem, hc]
/-- One cell. -/
theorem mo_load_cell (E : Hid (Mem w0 l w)) (ty : TypeId) (x : Operand) (ho : op.op = .load ty x) {b T j : Nat} {c : Array Value} (hx : a.eval x = .pointer (some ⟨b, j, none⟩)) (hm : (b, T, c) ∈ l)
    {d : TypeDesc} (hu : P.underlying ty = some d) (hd : d.isRow = false) {v : Value} (hv : c[j]? = some v)
    (h : K (a.put op.dst v) w) : op.wp P a w K Q := by
  refine mo_known v w ?_ h
  unfold execOp
  simp only [ho, hx, Sem.run_bind, run_load_one hu hd (cell_of_here (E.out.get hm) j hv), Result.andThen_ok]
  rfl
theorem mo_store_row (i : Nat) (E : Hid (Mem w0 l w)) (ty : TypeId) (x y : Operand) (ho : op.op = .store ty x y) {b T : Nat} {c c' : Array Value} (hx : a.eval x = .pointer (some ⟨b, 0, none⟩)) (hy : a.eval y = .agg c') (hi : l[i]? = some (b, T, c))
    (hs : (P.info? ty).map (·.size) = some c'.size) (hl : c.size = c'.size) (h1 : c'.all (·.oneCell') = true)
    (h : ∀ w', Hid (Mem w0 (l.set i (b, T, c')) w') → K (a.put op.dst undef) w') : op.wp P a w K Q := by
  have hg := E.out.get (List.mem_of_getElem? hi)
  have ho' : Only b w (w.setRow b c') := ⟨rfl, rfl, rfl, by simp, fun k _ hk => setRow_other w b k c' hk⟩
  exact wp_store_row ty x y ho b c' hx hy T c hg hs hl h1 (h _ (Lib.hid (E.out.turn hi (setRow_heap w b c c' T _ hg) ho')))
theorem run_store_one {ty : TypeId} (hs : (P.info? ty).map (·.size) = some 1) {p : Addr} {v u : Value} (h1 : v.cells = #[v]) (h2 : v.oneCell' = true) (hc : w.cell? p = some u) (hf : w.frozen? p = false) :
    (Instr.storeAt ty (.pointer (some p)) v).run P w = .ok () (w.setCell p v) := by
  cases hq : P.info? ty with
  | none => simp [hq] at hs
  | some i =>
    have hi : i.size = 1 := by simpa [hq] using hs
    simp only [Instr.storeAt, Instr.sureAddr, Sem.run_bind, Sem.run_pure, Result.andThen_ok, storeVar, h1]
    simp [sizeOf, typeInfo, hq, hi, storeCells, go_sem, hc, hf, Addr.add, run_store P w p v .plain h2, stored]
theorem mo_store_cell (i : Nat) (E : Hid (Mem w0 l w)) (ty : TypeId) (x y : Operand) (ho : op.op = .store ty x y) {b T j : Nat} {c c' : Array Value} {v u : Value} (hx : a.eval x = .pointer (some ⟨b, j, none⟩)) (hy : a.eval y = v) (hi : l[i]? = some (b, T, c))
    (hs : (P.info? ty).map (·.size) = some 1) (h1 : v.cells = #[v]) (h2 : v.oneCell' = true) (hu : c[j]? = some u) (hc : c.setIfInBounds j v = c')
    (h : ∀ w', Hid (Mem w0 (l.set i (b, T, c')) w') → K (a.put op.dst undef) w') : op.wp P a w K Q := by
  have hg := E.out.get (List.mem_of_getElem? hi)
  have hH : Holds b T c' w (w.setCell ⟨b, j, none⟩ v) := (Holds.start hg).set hc
  unfold Oper.wp execOp
  simp only [ho, hx, hy, Sem.run_bind, Sem.run_pure, run_store_one hs h1 h2 (cell_of_here hg j hu) (free_of_here hg j), Result.andThen_ok]
  exact h _ (Lib.hid (E.out.turn hi hH.here hH.only))
end

section
variable {P : Program} {ops : Array Oper} {rest : List Oper} {Q : Exit → Act → World → Prop} {op : Oper} {a : Act} {w w0 : World} {l : List (Nat × TypeId × Array Value)}
theorem mem_known (hg : op.guard = none) (v : Value) (w' : World) (hrun : (execOp a.eval op).run P w = .ok (.value v) w') (h : wpList P ops Q rest (a.put op.dst v) w') : wpList P ops Q (op :: rest) a w :=
  wpList_plain hg fun _ hK => mo_known v w' hrun (hK _ _ h)
theorem mem_alloc (E : Hid (Mem w0 l w)) (T : TypeId) (hg : op.guard = none) (ho : op.op = .alloc T) {z : Value} {n : Nat} (hz : (P.info? T).map (fun i => (i.zero, i.size)) = some (some z, n))
    (h : ∀ b w', Hid (Mem w0 ((b, T, z.cells) :: l) w') → wpList P ops Q rest (a.put op.dst (.pointer (some ⟨b, 0, none⟩))) w') : wpList P ops Q (op :: rest) a w :=
  wpList_plain hg fun _ hK => mo_alloc E T ho hz fun b w' E' => hK _ _ (h b w' E')
theorem mem_box (E : Hid (Mem w0 l w)) (T : TypeId) (hg : op.guard = none) (x : Operand) (ho : op.op = .box T x) {v : Value} (hx : a.eval x = v) {c : Array Value} (hc : v.cells = c)
    (h : ∀ b w', Hid (Mem w0 ((b, T, c) :: l) w') → wpList P ops Q rest (a.put op.dst (.pointer (some ⟨b, 0, none⟩))) w') : wpList P ops Q (op :: rest) a w :=
  wpList_plain hg fun _ hK => mo_box E T x ho hx hc fun b w' E' => hK _ _ (h b w' E')
theorem mem_load_row (E : Hid (Mem w0 l w)) (ty : TypeId) (hw : Region.wanted op (yielded ops a.tmps) = true) (x : Operand) (ho : op.op = .load ty x) {b T : Nat} {c : Array Value} (hx : a.eval x = .pointer (some ⟨b, 0, none⟩)) (hm : (b, T, c) ∈ l)
    {d : TypeDesc} (hu : P.underlying ty = some d) (hd : d.isRow = true) (hi : (P.info? ty).map (·.size) = some c.size)
    (h : wpList P ops Q rest (a.put op.dst (.agg c)) w) : wpList P ops Q (op :: rest) a w :=
  BigFrame.wpList_want hw fun _ hK => mo_load_row E ty x ho hx hm hu hd hi (hK _ _ h)
theorem mem_load_cell (E : Hid (Mem w0 l w)) (ty : TypeId) (hw : Region.wanted op (yielded ops a.tmps) = true) (x : Operand) (ho : op.op = .load ty x) {b T j : Nat} {c : Array Value} (hx : a.eval x = .pointer (some ⟨b, j, none⟩)) (hm : (b, T, c) ∈ l)
    {d : TypeDesc} (hu : P.underlying ty = some d) (hd : d.isRow = false) {v : Value} (hv : c[j]? = some v)
    (h : wpList P ops Q rest (a.put op.dst v) w) : wpList P ops Q (op :: rest) a w :=
  BigFrame.wpList_want hw fun _ hK => mo_load_cell E ty x ho hx hm hu hd hv (hK _ _ h)
theorem mem_store_row (i : Nat) (E : Hid (Mem w0 l w)) (ty : TypeId) (hg : op.guard = none) (x y : Operand) (ho : op.op = .store ty x y) {b T : Nat} {c c' : Array Value} (hx : a.eval x = .pointer (some ⟨b, 0, none⟩)) (hy : a.eval y = .agg c') (hi : l[i]? = some (b, T, c))
    (hs : (P.info? ty).map (·.size) = some c'.size) (hl : c.size = c'.size) (h1 : c'.all (·.oneCell') = true)
    (h : ∀ w', Hid (Mem w0 (l.set i (b, T, c')) w') → wpList P ops Q rest (a.put op.dst undef) w') : wpList P ops Q (op :: rest) a w :=
  wpList_plain hg fun _ hK => mo_store_row i E ty x y ho hx hy hi hs hl h1 fun w' E' => hK _ _ (h w' E')
theorem mem_store_cell (i : Nat) (E : Hid (Mem w0 l w)) (ty : TypeId) (hg : op.guard = none) (x y : Operand) (ho : op.op = .store ty x y) {b T j : Nat} {c c' : Array Value} {v u : Value} (hx : a.eval x = .pointer (some ⟨b, j, none⟩)) (hy : a.eval y = v) (hi : l[i]? = some (b, T, c))
    (hs : (P.info? ty).map (·.size) = some 1) (h1 : v.cells = #[v]) (h2 : v.oneCell' = true) (hu : c[j]? = some u) (hc : c.setIfInBounds j v = c')
    (h : ∀ w', Hid (Mem w0 (l.set i (b, T, c')) w') → wpList P ops Q rest (a.put op.dst undef) w') : wpList P ops Q (op :: rest) a w :=
  wpList_plain hg fun _ hK => mo_store_cell i E ty x y ho hx hy hi hs h1 h2 hu hc fun w' E' => hK _ _ (h w' E')
end
end Go.Proofs.Ytoopcmcmjaikhaa
end
section
set_option linter.unusedSimpArgs false
namespace Go.Proofs.Ytoopcmcmjaikhaa
open Go.RowKit Go.Lib Go.Sort

section
variable {P : Program} {ops : Array Oper} {Q : Act → Prop} {a : Act} {w w0 : World} {o : Oper} {rest : List Oper} {l : List (Nat × TypeId × Array Value)}
theorem memq_load_row (E : Hid (Mem w0 l w)) (ty : TypeId) (hw : Region.wanted o (yielded ops a.tmps) = true) (x : Operand) (ho : o.op = .load ty x) {b T : Nat} {c : Array Value} (hx : a.eval x = .pointer (some ⟨b, 0, none⟩)) (hm : (b, T, c) ∈ l)
    {d : TypeDesc} (hu : P.underlying ty = some d) (hd : d.isRow = true) (hi : (P.info? ty).map (·.size) = some c.size)
    (h : wpQuiet P ops (fun w' => ∃ p : Regrown, w' = grow (redrawn w p.d) p.os) Q rest (a.put o.dst (.agg c))) : wpQuiet P ops (fun w' => ∃ p : Regrown, w' = grow (redrawn w p.d) p.os) Q (o :: rest) a :=
  wpQuiet_load_all ty x ho hw b hx (.agg c) (fun w3 hC => by
    obtain ⟨p, rfl⟩ := hC
    have hg := (E.out.call (below_regrown w p.d p.os)).get hm
    simpa using run_loadAt_mid (P := P) _ b 0 ty c.toList d (range_all hg) hu hd (by rw [hi, Array.length_toList])) h
theorem memq_load_cell (E : Hid (Mem w0 l w)) (ty : TypeId) (hw : Region.wanted o (yielded ops a.tmps) = true) (x : Operand) (ho : o.op = .load ty x) {b T j : Nat} {c : Array Value} (hx : a.eval x = .pointer (some ⟨b, j, none⟩)) (hm : (b, T, c) ∈ l)
    {d : TypeDesc} (hu : P.underlying ty = some d) (hd : d.isRow = false) {v : Value} (hv : c[j]? = some v)
    (h : wpQuiet P ops (fun w' => ∃ p : Regrown, w' = grow (redrawn w p.d) p.os) Q rest (a.put o.dst v)) : wpQuiet P ops (fun w' => ∃ p : Regrown, w' = grow (redrawn w p.d) p.os) Q (o :: rest) a := by
  show if _ then _ else _
  rw [if_pos hw]
  refine ⟨v, fun w3 hC => ?_, h⟩
  obtain ⟨p, rfl⟩ := hC
  unfold Oper.quietAt execOp
  simp only [ho, hx, Sem.run_bind, Sem.run_pure, run_load_one hu hd (cell_of_here ((E.out.call (below_regrown w p.d p.os)).get hm) j hv), Result.andThen_ok]
  exact ⟨rfl, rfl⟩
end
end Go.Proofs.Ytoopcmcmjaikhaa
end
section
set_option linter.unusedSimpArgs false
namespace Go.Proofs.Ytoopcmcmjaikhaa
open Go.RowKit Go.Lib Go.Sort
section
variable {P : Program} {ops : Array Oper} {Q : Exit → Act → World → Prop} {md : Region.Mode} {S : World → Prop} {fuel : Nat} {listed : Array Bool} {a : Act} {w : World}
theorem hm_load_row {oi : Oper} (i t : Nat) (ty : TypeId) (x : Operand) {b T : Nat} {c : Array Value} (hd0 : oi.dst = some t) (hi : ops[i]? = some oi) (hs : Region.noSelect ops = true) (hf : Region.free md ops listed i = true) (hr : (Region.ready md ops listed).contains i = true)
    (hQ : ∀ k a w, Q (.panic k) (a.put oi.dst (.agg c)) w → Q (.panic k) a w) (hw : Region.wanted oi (yielded ops a.tmps) = true) (ho : oi.op = .load ty x) (hx : a.eval x = .pointer (some ⟨b, 0, none⟩)) (hl : ∀ W, S W → W.heap[b]? = some (.cells c T (0, 0)))
    {d : TypeDesc} (hu : P.underlying ty = some d) (hd : d.isRow = true) (hz : (P.info? ty).map (·.size) = some c.size) (hS : S w)
    (h : wpAnyH P md ops Q S fuel (listed.setIfInBounds i true) (a.put (some t) (.agg c)) w) : wpAnyH P md ops Q S (fuel + 1) listed a w :=
  wpAnyH_take hi hs hf hr hQ (.inl ⟨hw, fun W hW => by
    have e := run_loadAt_mid (P := P) W b 0 ty c.toList d (range_all (hl W hW)) hu hd (by rw [hz, Array.length_toList])
    unfold execOp
    simp only [ho, hx, Sem.run_bind, e, Result.andThen_ok]
    simp⟩) hS (by rw [hd0]; exact h)
theorem hm_load_cell {oi : Oper} (i t : Nat) (ty : TypeId) (x : Operand) {b T j : Nat} {c : Array Value} {v : Value} (hd0 : oi.dst = some t) (hi : ops[i]? = some oi) (hs : Region.noSelect ops = true) (hf : Region.free md ops listed i = true) (hr : (Region.ready md ops listed).contains i = true)
    (hQ : ∀ k a w, Q (.panic k) (a.put oi.dst v) w → Q (.panic k) a w) (hw : Region.wanted oi (yielded ops a.tmps) = true) (ho : oi.op = .load ty x) (hx : a.eval x = .pointer (some ⟨b, j, none⟩)) (hl : ∀ W, S W → W.heap[b]? = some (.cells c T (0, 0)))
    {d : TypeDesc} (hu : P.underlying ty = some d) (hd : d.isRow = false) (hv : c[j]? = some v) (hS : S w)
    (h : wpAnyH P md ops Q S fuel (listed.setIfInBounds i true) (a.put (some t) v) w) : wpAnyH P md ops Q S (fuel + 1) listed a w :=
  wpAnyH_take hi hs hf hr hQ (.inl ⟨hw, fun W hW => by
    unfold execOp
    simp only [ho, hx, Sem.run_bind, Sem.run_pure, run_load_one hu hd (cell_of_here (hl W hW) j hv), Result.andThen_ok]⟩) hS (by rw [hd0]; exact h)
theorem hm_pure {oi : Oper} (i t : Nat) (v : Value) (hd : oi.dst = some t) (hi : ops[i]? = some oi) (hs : Region.noSelect ops = true) (hf : Region.free md ops listed i = true) (hr : (Region.ready md ops listed).contains i = true)
    (hQ : ∀ c a w, Q (.panic c) (a.put oi.dst v) w → Q (.panic c) a w) (hw : Region.wanted oi (yielded ops a.tmps) = true) (hy : ∀ W, (execOp a.eval oi).run P W = .ok (.value v) W) (hS : S w)
    (h : wpAnyH P md ops Q S fuel (listed.setIfInBounds i true) (a.put (some t) v) w) : wpAnyH P md ops Q S (fuel + 1) listed a w :=
  wpAnyH_take hi hs hf hr hQ (.inl ⟨hw, fun W _ => hy W⟩) hS (by rw [hd]; exact h)
theorem hm_step {o : Oper} (i : Nat) (hi : ops[i]? = some o) (hw : Region.wanted o (yielded ops a.tmps) = true)
    (h : ∀ K : Act → World → Prop, (∀ a' w', S w' → wpAnyH P md ops Q S fuel (listed.setIfInBounds i true) a' w' → K a' w') → o.wp P a w K Q) :
    wpOp P ops Q i (fun a' w' => S w' ∧ wpAnyH P md ops Q S fuel (listed.setIfInBounds i true) a' w') a w := by
  unfold wpOp
  simp only [hi, hw, if_true]
  exact .inl (h _ fun a' w' h1 h2 => ⟨h1, h2⟩)
theorem hm_one {i : Nat} (hr : Region.ready md ops listed = [i]) (h : wpOp P ops Q i (fun a' w' => S w' ∧ wpAnyH P md ops Q S fuel (listed.setIfInBounds i true) a' w') a w) : wpAnyH P md ops Q S (fuel + 1) listed a w :=
  wpAnyH_all hr (by simp) fun j hj => by obtain rfl : j = i := by simpa using hj
                                         exact h
theorem hm_two {i j : Nat} (hr : Region.ready md ops listed = [i, j]) (h1 : wpOp P ops Q i (fun a' w' => S w' ∧ wpAnyH P md ops Q S fuel (listed.setIfInBounds i true) a' w') a w)
    (h2 : wpOp P ops Q j (fun a' w' => S w' ∧ wpAnyH P md ops Q S fuel (listed.setIfInBounds j true) a' w') a w) : wpAnyH P md ops Q S (fuel + 1) listed a w :=
  wpAnyH_all hr (by simp) fun k hk => by
    have : k = i ∨ k = j := by simpa using hk
    rcases this with rfl | rfl
    · exact h1
    · exact h2
theorem wp_region_mem {w0 : World} {l : List (Nat × TypeId × Array Value)} {id : Nat} {a : Act} {w : World} (E : Hid (Mem w0 l w)) (hm : P.follows .mixedOrders = true)
    (h : ∀ w', Hid (Mem w0 l w') → wpAnyH P .any ops Q (fun W => Mem w0 l W) ops.size (Array.replicate ops.size false) a w') : (Code.region id ops true).wp P Q a w :=
  wp_region_held hm (h _ (Lib.hid ⟨⟨E.out.below.os, E.out.below.tape, E.out.below.output, E.out.below.size, E.out.below.block⟩, E.out.has, E.out.nd, E.out.ge⟩))
end
end Go.Proofs.Ytoopcmcmjaikhaa
end

