/- Bytes as lists; texts and lists of texts in memory; a slice of bytes of the call's own that grows beside boxes of other kinds. -/
import Derived.Test.YtaonnckhohieoaaDoorVr
import Derived.Test.YtaonnckhohieoaaDoorAr
import Derived.Test.YtaonnckhohieoaaDoorMk
set_option linter.unusedSimpArgs false
set_option maxRecDepth 100000
namespace Go.Proofs.YtaonnckhohieoaaDoor
open Go.RowKit Go.Lib

/-- A list of bytes, told by place. -/
def lf (l : List Nat) : Nat → Nat := fun i => l.getD i 0
/-- Bytes. -/
def IsB (l : List Nat) : Prop := ∀ x, x ∈ l → x < 256
theorem lf_lt {l : List Nat} (h : IsB l) (i : Nat) : lf l i < 256 := by
  unfold lf
  rw [List.getD_eq_getElem?_getD]
  cases e : l[i]? with
  | none => simp
  | some x => exact h x (List.mem_of_getElem? e)
theorem lf_get {l : List Nat} {i : Nat} (h : i < l.length) : lf l i = l[i] := by
  unfold lf
  rw [List.getD_eq_getElem?_getD, List.getElem?_eq_getElem h]
  rfl
theorem lf_inj {a b : List Nat} (ha : a.length = b.length) (h : ∀ i, i < a.length → lf a i = lf b i) : a = b := by
  apply List.ext_getElem ha
  intro i h1 h2
  have := h i h1
  rwa [lf_get h1, lf_get h2] at this
theorem lf_cat (a b : List Nat) (i : Nat) : cat (lf a) a.length (lf b) i = lf (a ++ b) i := by
  unfold cat lf
  simp only [List.getD_eq_getElem?_getD]
  split
  · rw [List.getElem?_append_left (by assumption)]
  · rw [List.getElem?_append_right (by omega)]
theorem IsB.append {a b : List Nat} (ha : IsB a) (hb : IsB b) : IsB (a ++ b) := fun x h => by
  rcases List.mem_append.1 h with h | h
  · exact ha x h
  · exact hb x h
theorem isB_nil : IsB [] := fun _ h => by cases h
/-- m bytes, told by place, as a list. -/
def tl (x : Nat → Nat) (m : Nat) : List Nat := (List.range m).map x
theorem tl_length (x : Nat → Nat) (m : Nat) : (tl x m).length = m := by simp [tl]
theorem lf_tl (x : Nat → Nat) {m i : Nat} (h : i < m) : lf (tl x m) i = x i := by
  rw [lf_get (by rw [tl_length]; exact h)]
  simp [tl]
theorem tl_lf (xs : List Nat) : tl (lf xs) xs.length = xs := by
  apply lf_inj (tl_length _ _)
  intro i hi
  rw [tl_length] at hi
  exact lf_tl _ hi
theorem isB_tl {x : Nat → Nat} (h : ∀ i, x i < 256) (m : Nat) : IsB (tl x m) := fun y hy => by
  obtain ⟨i, _, rfl⟩ := List.mem_map.1 hy
  exact h i
theorem isB_own {w : World} {p : Option Addr} {B g c : Nat} {xs : List Nat} (N : Own B w p g xs.length c (lf xs)) : IsB xs := fun x hx => by
  obtain ⟨i, hi, rfl⟩ := List.getElem_of_mem hx
  rw [← lf_get hi]
  exact N.byte i
theorem isB_row {w : World} {p : Option Addr} {g o c : Nat} {xs : List Nat} (N : Row w p g o xs.length c (lf xs)) : IsB xs := fun x hx => by
  obtain ⟨i, hi, rfl⟩ := List.getElem_of_mem hx
  rw [← lf_get hi]
  exact N.byte i
theorem Own.tl {w : World} {p : Option Addr} {B g n c : Nat} {x : Nat → Nat} (N : Own B w p g n c x) : Own B w p g (tl x n).length c (lf (Go.Proofs.YtaonnckhohieoaaDoor.tl x n)) := by
  rw [tl_length]
  exact N.to (fun i hi => (lf_tl x hi).symm) (lf_lt (isB_tl N.byte n))
theorem Row.tl {w : World} {p : Option Addr} {g o n c : Nat} {x : Nat → Nat} (N : Row w p g o n c x) : Row w p g o (tl x n).length c (lf (Go.Proofs.YtaonnckhohieoaaDoor.tl x n)) := by
  rw [tl_length]
  exact N.to (fun i hi => (lf_tl x hi).symm) (lf_lt (isB_tl N.byte n))

theorem infoText3 : (Tryd.prog.info? 22).map (fun i => (i.zero, i.size, i.bytes)) = some (some (.slice none 0 0), 1, 24) := by kernel_rfl
theorem take_get {α : Type} (ts : List α) {j : Nat} (h : j < ts.length) : ts.take (j + 1) = ts.take j ++ [ts[j]] := by
  rw [List.take_add_one, List.getElem?_eq_getElem h]
  rfl
/-- How many bytes the first j texts have. -/
def sm (ts : List (List Nat)) (j : Nat) : Nat := ((ts.take j).map List.length).sum
theorem sm_succ (ts : List (List Nat)) {j : Nat} (h : j < ts.length) : sm ts (j + 1) = sm ts j + ts[j].length := by
  unfold sm
  rw [take_get ts h, List.map_append, List.sum_append]
  simp only [List.map_cons, List.map_nil, List.sum_cons, List.sum_nil, Nat.add_zero]
theorem sm_mono (ts : List (List Nat)) (j k : Nat) : sm ts j ≤ sm ts (j + k) := by
  induction k with
  | zero => exact Nat.le_refl _
  | succ k ih =>
    rcases Nat.lt_or_ge (j + k) ts.length with h | h
    · rw [show j + (k + 1) = j + k + 1 from rfl, sm_succ ts h]; omega
    · have e : sm ts (j + (k + 1)) = sm ts (j + k) := by unfold sm; rw [List.take_of_length_le (by omega), List.take_of_length_le (by omega)]
      omega
theorem sm_le (ts : List (List Nat)) {j : Nat} (h : j ≤ ts.length) : sm ts j ≤ sm ts ts.length := by
  have := sm_mono ts j (ts.length - j)
  rwa [show j + (ts.length - j) = ts.length by omega] at this
/-- The first j texts, one behind the other. -/
def fl (ts : List (List Nat)) (j : Nat) : List Nat := (ts.take j).flatten
theorem fl_succ (ts : List (List Nat)) {j : Nat} (h : j < ts.length) : fl ts (j + 1) = fl ts j ++ ts[j] := by
  unfold fl
  rw [take_get ts h, List.flatten_append]
  simp only [List.flatten_cons, List.flatten_nil, List.append_nil]
theorem fl_length (ts : List (List Nat)) (j : Nat) : (fl ts j).length = sm ts j := by
  unfold fl sm
  rw [List.length_flatten]
theorem fl_all (ts : List (List Nat)) : fl ts ts.length = ts.flatten := by
  unfold fl
  rw [List.take_length]

/-- A slice of bytes that reads as the text. -/
def TextAt (w : World) (v : Value) (t : List Nat) : Prop := ∃ p g o c, v = .slice p t.length c ∧ t.length ≤ 140737488351232 ∧ Row w p g o t.length c (lf t)
/-- A slice of texts. -/
def TextsAt (w : World) (v : Value) (ts : List (List Nat)) : Prop :=
  ∃ p g o c V, v = .slice p ts.length c ∧ ts.length * 24 ≤ 140737488351232 ∧ VRow 1 w p g o ts.length c V ∧ ∀ i (h : i < ts.length), TextAt w (V i) ts[i]
section
variable {w w' : World} {v : Value} {t : List Nat} {ts : List (List Nat)}
theorem TextAt.below (h : TextAt w v t) (hb : Below w.heap.size w w') : TextAt w' v t := by
  obtain ⟨p, g, o, c, rfl, hc, R⟩ := h
  exact ⟨p, g, o, c, rfl, hc, R.below hb⟩
theorem TextsAt.below (h : TextsAt w v ts) (hb : Below w.heap.size w w') : TextsAt w' v ts := by
  obtain ⟨p, g, o, c, V, rfl, hc, R, hi⟩ := h
  exact ⟨p, g, o, c, V, rfl, hc, R.below hb, fun i h => (hi i h).below hb⟩
theorem TextAt.isB (h : TextAt w v t) : IsB t := by
  obtain ⟨p, g, o, c, rfl, hc, R⟩ := h
  exact isB_row R
theorem TextAt.len (h : TextAt w v t) : t.length ≤ 140737488351232 := by
  obtain ⟨p, g, o, c, rfl, hc, R⟩ := h
  exact hc
theorem TextAt.one (h : TextAt w v t) : v.oneCell' = true := by
  obtain ⟨p, g, o, c, rfl, hc, R⟩ := h
  rfl
end

/-- A slice of bytes of the call's own that grows; beside it boxes of other kinds. -/
structure Wb (w0 : World) (l : List (Nat × TypeId × Array Value)) (p : Option Addr) (g c : Nat) (xs : List Nat) (w : World) : Prop where
  mem : Mem w0 l w
  own : Own w0.heap.size w p g xs.length c (lf xs)
  nb : ∀ q, q ∈ l → q.2.1 ≠ 5
/-- What a call that makes bytes leaves. -/
def GetsL (w : World) (xs : List Nat) (e : Ending) (w' : World) : Prop := ∃ p g c, e = .returned (.slice p xs.length c) ∧ Own w.heap.size w' p g xs.length c (lf xs) ∧ Below w.heap.size w w'
/-- What a call leaves that puts bytes behind some. -/
def Puts (w0 : World) (l : List (Nat × TypeId × Array Value)) (xs : List Nat) (e : Ending) (w' : World) : Prop := ∃ p g c, e = .returned (.slice p xs.length c) ∧ Wb w0 l p g c xs w'
theorem Puts.any {w0 : World} {l : List (Nat × TypeId × Array Value)} {xs : List Nat} {e : Ending} {w' : World} (h : Puts w0 l xs e w') : ∃ p g c zs, e = .returned (.slice p zs.length c) ∧ Hid (zs = xs) ∧ Hid (Wb w0 l p g c zs w') := by
  obtain ⟨p, g, c, rfl, K⟩ := h
  exact ⟨p, g, c, xs, rfl, Lib.hid rfl, Lib.hid K⟩
theorem Puts.of {w0 : World} {l : List (Nat × TypeId × Array Value)} {xs zs : List Nat} {p : Option Addr} {g c : Nat} {w' : World} (h : zs = xs) (K : Wb w0 l p g c zs w') : Puts w0 l xs (.returned (.slice p zs.length c)) w' := by
  subst h
  exact ⟨p, g, c, rfl, K⟩
theorem Gets.l {w : World} {n : Nat} {x : Nat → Nat} {e : Ending} {w' : World} (h : Gets w n x e w') : GetsL w (tl x n) e w' := by
  obtain ⟨p, g, c, rfl, N, hb⟩ := h
  exact ⟨p, g, c, by rw [tl_length], N.tl, hb⟩
section
variable {w0 w w' : World} {l l' : List (Nat × TypeId × Array Value)} {p : Option Addr} {g c : Nat} {xs ys : List Nat}
theorem Mem.keeps (E : Mem w0 l w) (nb : ∀ q, q ∈ l → q.2.1 ≠ 5) (hb : Below w0.heap.size w w') (kp : Keeps w w') : Mem w0 l w' :=
  ⟨E.below.trans hb, fun q hq => kp q.1 q.2.2 q.2.1 (nb q hq) (E.has q hq), E.nd, E.ge⟩
theorem Wb.call (K : Wb w0 l p g c xs w) (hb : Below w.heap.size w w') : Wb w0 l p g c xs w' := ⟨K.mem.call hb, K.own.below hb, K.nb⟩
theorem Wb.new (K : Wb w0 l p g c xs w) (T : TypeId) (cs : Array Value) (hT : T ≠ 5) : Wb w0 ((w.heap.size, T, cs) :: l) p g c xs (w.alloc (.cells cs T)) :=
  ⟨K.mem.new T cs, K.own.below (below_new w _), fun q hq => by
    rcases List.mem_cons.1 hq with rfl | hq
    · exact hT
    · exact K.nb q hq⟩
theorem Wb.sub (K : Wb w0 l p g c xs w) (h : l'.Sublist l) : Wb w0 l' p g c xs w := ⟨K.mem.sub h, K.own, fun q hq => K.nb q (h.subset hq)⟩
theorem Wb.tail {x : Nat × TypeId × Array Value} (K : Wb w0 (x :: l) p g c xs w) : Wb w0 l p g c xs w := K.sub (List.sublist_cons_self _ _)
theorem Wb.eq (K : Wb w0 l p g c xs w) (h : xs = ys) : Wb w0 l p g c ys w := h ▸ K
theorem Wb.gets (K : Wb w0 l p g c xs w) : Own w0.heap.size w p g xs.length c (lf xs) ∧ Below w0.heap.size w0 w := ⟨K.own, K.mem.below⟩
theorem Wb.row (K : Wb w0 l p g c xs w) : Row w p g 0 xs.length c (lf xs) := K.own.row
/-- Bytes that a call made begin. -/
theorem Wb.start (E : Mem w0 l w) (nb : ∀ q, q ∈ l → q.2.1 ≠ 5) (N : Own w.heap.size w' p g xs.length c (lf xs)) (hb : Below w.heap.size w w') : Wb w0 l p g c xs w' := ⟨E.call hb, N.mono E.below.size, nb⟩
theorem Wb.none (E : Mem w0 l w) (nb : ∀ q, q ∈ l → q.2.1 ≠ 5) : Wb w0 l none 0 0 [] w := ⟨E, own_nothing _ _ _ (lf_lt isB_nil) E.below.size, nb⟩
/-- What a block's owner writes into it, of another kind than bytes. -/
theorem Wb.turn (K : Wb w0 l p g c xs w) {b T : Nat} {cs cs' : Array Value} {i : Nat} (hi : l[i]? = some (b, T, cs)) (hh : w'.heap[b]? = some (.cells cs' T (0, 0))) (ho : Only b w w') : Wb w0 (l.set i (b, T, cs')) p g c xs w' := by
  have hm := List.mem_of_getElem? hi
  have hT : T ≠ 5 := K.nb _ hm
  have hb := K.mem.has _ hm
  refine ⟨K.mem.turn hi hh ho, ?_, fun q hq => ?_⟩
  · refine ⟨?_, K.own.spot, K.own.byte, Nat.le_trans K.own.low ho.size⟩
    refine K.own.own.kept (w' := w') (row := some b) ⟨ho.os, ho.tape, ho.output, ho.size, fun k hk hne => ho.block k hk (fun e => hne (by rw [e]))⟩ ?_
    rcases K.own.own.2 with ⟨h1, _⟩ | ⟨g', cap, cur, h1, h2, h3, _⟩
    · rw [h1]; exact .inl rfl
    · rw [h1]
      refine .inr fun e => ?_
      have e2 : g' = b := by simpa [Value.ownBlock] using e
      rw [e2, hb] at h3
      injection h3 with h3
      injection h3 with _ h3 _
      exact hT h3
  · obtain ⟨j, hj⟩ := List.mem_iff_getElem?.1 hq
    rw [List.getElem?_set] at hj
    split at hj
    · split at hj
      · obtain rfl := Option.some.inj hj; exact hT
      · cases hj
    · exact K.nb _ (List.mem_of_getElem? hj)
end
section
variable {Q : Exit → Act → World → Prop} {op : Oper} {a : Act} {w w0 : World} {l : List (Nat × TypeId × Array Value)} {K : Act → World → Prop} {ops : Array Oper} {rest : List Oper} {g c : Nat} {p : Option Addr} {xs : List Nat}
theorem wb_box (N : Hid (Wb w0 l p g c xs w)) (T : TypeId) (hT : T ≠ 5) (hg : op.guard = none) (x : Operand) (ho : op.op = .box T x) {v : Value} (hx : a.eval x = v) {cs : Array Value} (hc : v.cells = cs)
    (h : ∀ b w', Hid (Wb w0 ((b, T, cs) :: l) p g c xs w') → wpList Tryd.prog ops Q rest (a.put op.dst (.pointer (some ⟨b, 0, none⟩))) w') : wpList Tryd.prog ops Q (op :: rest) a w := by
  refine mem_known hg (.pointer (some ⟨w.heap.size, 0, none⟩)) (w.alloc (.cells cs T)) ?_ (h _ _ (Lib.hid (N.out.new T _ hT)))
  unfold execOp
  subst hx hc
  simp only [ho, Sem.run_bind, Instr.box]
  rfl
theorem wb_alloc (N : Hid (Wb w0 l p g c xs w)) (T : TypeId) (hT : T ≠ 5) (hg : op.guard = none) (ho : op.op = .alloc T) {z : Value} {n : Nat} (hz : (Tryd.prog.info? T).map (fun i => (i.zero, i.size)) = some (some z, n))
    (h : ∀ b w', Hid (Wb w0 ((b, T, z.cells) :: l) p g c xs w') → wpList Tryd.prog ops Q rest (a.put op.dst (.pointer (some ⟨b, 0, none⟩))) w') : wpList Tryd.prog ops Q (op :: rest) a w := by
  refine mem_known hg (.pointer (some ⟨w.heap.size, 0, none⟩)) (w.alloc (.cells z.cells T)) ?_ (h _ _ (Lib.hid (N.out.new T _ hT)))
  unfold execOp
  simp only [ho, Sem.run_bind, Instr.alloc, (zero_of_info hz).1, Result.andThen_ok]
  rfl
/-- A slice of written bytes beside it. -/
theorem wb_bs (N : Hid (Wb w0 l p g c xs w)) (parts : Array (Nat × Operand)) (hg : op.guard = none) {m : Nat} (ho : op.op = .buildSlice 22 m parts) (ys : List Nat) (hy : IsB ys)
    {ps : Array (Nat × Value)} (hp : (parts.map fun (i, y) => (i, a.eval y)) = ps) {cs : Array Value} (hr : ∀ w : World, (Instr.buildSlice 22 m ps).run Tryd.prog w = .ok (.slice (some ⟨w.heap.size, 0, none⟩) m m) (w.alloc (.cells cs 5))) (hcs : cs.toList = fbs (lf ys) m) (hm : m ≤ maxLen)
    (h : ∀ b w', Hid (Row w' (some ⟨b, 0, none⟩) b 0 m m (lf ys)) → Hid (Wb w0 l p g c xs w') → wpList Tryd.prog ops Q rest (a.put op.dst (.slice (some ⟨b, 0, none⟩) m m)) w') : wpList Tryd.prog ops Q (op :: rest) a w := by
  have e : cs = (fbs (lf ys) m).toArray := by rw [← hcs]
  subst e
  refine mem_known hg (.slice (some ⟨w.heap.size, 0, none⟩) m m) (w.alloc (.cells (fbs (lf ys) m).toArray 5)) ?_ (h _ _ (Lib.hid (own_new w (lf ys) m hm (lf_lt hy)).row) (Lib.hid (N.out.call (below_new w _))))
  unfold execOp
  simp only [ho, hp, Sem.run_bind, hr w, Result.andThen_ok]
  rfl
theorem wb_store_row (i : Nat) (N : Hid (Wb w0 l p g c xs w)) (ty : TypeId) (hg : op.guard = none) (x y : Operand) (ho : op.op = .store ty x y) {b T : Nat} {cs cs' : Array Value} (hx : a.eval x = .pointer (some ⟨b, 0, none⟩)) (hy : a.eval y = .agg cs') (hi : l[i]? = some (b, T, cs))
    (hs : (Tryd.prog.info? ty).map (·.size) = some cs'.size) (hl : cs.size = cs'.size) (h1 : cs'.all (·.oneCell') = true)
    (h : ∀ w', Hid (Wb w0 (l.set i (b, T, cs')) p g c xs w') → wpList Tryd.prog ops Q rest (a.put op.dst undef) w') : wpList Tryd.prog ops Q (op :: rest) a w := by
  have hg' := N.out.mem.get (List.mem_of_getElem? hi)
  have ho' : Only b w (w.setRow b cs') := ⟨rfl, rfl, rfl, by simp, fun k _ hk => setRow_other w b k cs' hk⟩
  exact wpList_plain hg fun K hK => wp_store_row ty x y ho b cs' hx hy T cs hg' hs hl h1 (hK _ _ (h _ (Lib.hid (N.out.turn hi (setRow_heap w b cs cs' T _ hg') ho'))))
/-- An append. -/
theorem mo_wb (s t : Operand) (ho : op.op = .call { callee := .builtin .append, args := #[s, t], argTypes := #[22, 22] }) (N : Hid (Wb w0 l p g c xs w)) {n : Nat} (hs : a.eval s = .slice p n c) (hn : n = xs.length)
    {q : Option Addr} {h o m d : Nat} {y : Nat → Nat} (ht : a.eval t = .slice q m d) (R : Hid (Row w q h o m d y)) (hlen : n + m ≤ 140737488355328)
    (k : ∀ p' g' c' w' zs, Hid (zs = xs ++ tl y m) → Hid (Wb w0 l p' g' c' zs w') → K (a.put op.dst (.slice p' zs.length c')) w') : op.wp Tryd.prog a w K Q := by
  subst hn
  refine mo_appk s t ho hs (Lib.hid N.out.own) ht R hlen ?_
  intro p' g' c' w' N' hb kp
  have e : xs.length + m = (xs ++ tl y m).length := by rw [List.length_append, tl_length]
  rw [e]
  refine k p' g' c' w' _ (Lib.hid rfl) (Lib.hid ⟨N.out.mem.keeps N.out.nb hb.out kp.out, ?_, N.out.nb⟩)
  rw [← e]
  have hB : IsB (xs ++ tl y m) := (isB_own N.out.own).append (isB_tl R.out.byte m)
  refine N'.out.to (fun i hi => ?_) (lf_lt hB)
  rw [← lf_cat]
  unfold cat
  split
  · rfl
  · rw [lf_tl y (by omega)]
theorem wpList_wb (hw : Region.wanted op (yielded ops a.tmps) = true) (s t : Operand) (ho : op.op = .call { callee := .builtin .append, args := #[s, t], argTypes := #[22, 22] }) (N : Hid (Wb w0 l p g c xs w)) {n : Nat} (hs : a.eval s = .slice p n c) (hn : n = xs.length)
    {q : Option Addr} {h o m d : Nat} {y : Nat → Nat} (ht : a.eval t = .slice q m d) (R : Hid (Row w q h o m d y)) (hlen : n + m ≤ 140737488355328)
    (k : ∀ p' g' c' w' zs, Hid (zs = xs ++ tl y m) → Hid (Wb w0 l p' g' c' zs w') → wpList Tryd.prog ops Q rest (a.put op.dst (.slice p' zs.length c')) w') : wpList Tryd.prog ops Q (op :: rest) a w :=
  BigFrame.wpList_want hw fun _ hK => mo_wb s t ho N hs hn ht R hlen fun p' g' c' w' zs e N' => hK _ _ (k p' g' c' w' zs e N')
end
end Go.Proofs.YtaonnckhohieoaaDoor

