/- A copy of a transaction, in memory of its own. -/
import Derived.Test.YtoopcmcmjaikhaaDoorFii
set_option linter.unusedSimpArgs false
set_option linter.unusedVariables false
set_option maxRecDepth 100000
namespace Go.Proofs.YtoopcmcmjaikhaaDoor
open Go.RowKit Go.Lib Go.Sort

structure InOwn (B : Nat) (w : World) (V : Nat → Value) (t : TIn) : Prop where
  len : t.id.length = 32
  idB : IsB t.id
  id : ∀ j, j < 32 → V j = byv (lf t.id j)
  idx : V 32 = w32 t.idx
  idxB : t.idx < 4294967296
  sc : TextOwn B w (V 33) t.sc
  sq : V 34 = w32 t.sq
  sqB : t.sq < 4294967296
  wit : TextsOwn B w (V 35) t.wit
structure OutOwn (B : Nat) (w : World) (V : Nat → Value) (t : TOut) : Prop where
  val : V 0 = .int .i64 t.val
  valB : -9223372036854775808 ≤ t.val ∧ t.val ≤ 9223372036854775807
  sc : TextOwn B w (V 1) t.sc
def InsOwn (B : Nat) (w : World) (v : Value) (ts : List TIn) : Prop :=
  ∃ p g c V, v = .slice p ts.length c ∧ ts.length * 96 ≤ 140737488351232 ∧ VOwn 121 36 B w p g ts.length c V ∧ ∀ i (h : i < ts.length), InOwn B w (fun j => V (i * 36 + j)) ts[i]
def OutsOwn (B : Nat) (w : World) (v : Value) (ts : List TOut) : Prop :=
  ∃ p g c V, v = .slice p ts.length c ∧ ts.length * 32 ≤ 140737488351232 ∧ VOwn 83 2 B w p g ts.length c V ∧ ∀ i (h : i < ts.length), OutOwn B w (fun j => V (i * 2 + j)) ts[i]
structure TxOwn (B : Nat) (w : World) (V : Nat → Value) (t : TTx) : Prop where
  ver : V 0 = w32 t.ver
  verB : t.ver < 4294967296
  ins : InsOwn B w (V 1) t.ins
  outs : OutsOwn B w (V 2) t.outs
  lock : V 3 = w32 t.lock
  lockB : t.lock < 4294967296
section
variable {B B' : Nat} {w w' : World} {V : Nat → Value} {v : Value}
theorem InOwn.at {t : TIn} (h : InOwn B w V t) : InCells w V t := ⟨h.len, h.idB, h.id, h.idx, h.idxB, h.sc.at, h.sq, h.sqB, h.wit.at⟩
theorem OutOwn.at {t : TOut} (h : OutOwn B w V t) : OutCells w V t := ⟨h.val, h.valB, h.sc.at⟩
theorem InsOwn.at {ts : List TIn} (h : InsOwn B w v ts) : InsAt w v ts := by
  obtain ⟨p, g, c, V, rfl, hl, N, hi⟩ := h
  exact ⟨p, g, 0, c, V, rfl, hl, N.row, fun i h => (hi i h).at⟩
theorem OutsOwn.at {ts : List TOut} (h : OutsOwn B w v ts) : OutsAt w v ts := by
  obtain ⟨p, g, c, V, rfl, hl, N, hi⟩ := h
  exact ⟨p, g, 0, c, V, rfl, hl, N.row, fun i h => (hi i h).at⟩
theorem TxOwn.at {t : TTx} (h : TxOwn B w V t) : TxCells w V t := ⟨h.ver, h.verB, h.ins.at, h.outs.at, h.lock, h.lockB⟩
theorem InOwn.keep {T : TypeId} {t : TIn} (h : InOwn B w V t) (k : KeepT T w w') (hT : (5 : TypeId) ≠ T) (hT2 : 32 ≠ T) : InOwn B w' V t := ⟨h.len, h.idB, h.id, h.idx, h.idxB, h.sc.keep k hT, h.sq, h.sqB, h.wit.keep k hT hT2⟩
theorem OutOwn.keep {T : TypeId} {t : TOut} (h : OutOwn B w V t) (k : KeepT T w w') (hT : (5 : TypeId) ≠ T) : OutOwn B w' V t := ⟨h.val, h.valB, h.sc.keep k hT⟩
theorem InOwn.below {t : TIn} (h : InOwn B w V t) (hb : Below w.heap.size w w') : InOwn B w' V t := ⟨h.len, h.idB, h.id, h.idx, h.idxB, h.sc.below hb, h.sq, h.sqB, h.wit.below hb⟩
theorem OutOwn.below {t : TOut} (h : OutOwn B w V t) (hb : Below w.heap.size w w') : OutOwn B w' V t := ⟨h.val, h.valB, h.sc.below hb⟩
theorem InsOwn.below {ts : List TIn} (h : InsOwn B w v ts) (hb : Below w.heap.size w w') : InsOwn B w' v ts := by
  obtain ⟨p, g, c, V, rfl, hl, N, hi⟩ := h
  exact ⟨p, g, c, V, rfl, hl, N.below hb, fun i h => (hi i h).below hb⟩
theorem InsOwn.keep {T : TypeId} {ts : List TIn} (h : InsOwn B w v ts) (k : KeepT T w w') (hT : (5 : TypeId) ≠ T) (hT2 : 32 ≠ T) (hT3 : 121 ≠ T) : InsOwn B w' v ts := by
  obtain ⟨p, g, c, V, rfl, hl, N, hi⟩ := h
  exact ⟨p, g, c, V, rfl, hl, N.keep k hT3, fun i h => (hi i h).keep k hT hT2⟩
theorem OutsOwn.keep {T : TypeId} {ts : List TOut} (h : OutsOwn B w v ts) (k : KeepT T w w') (hT : (5 : TypeId) ≠ T) (hT3 : 83 ≠ T) : OutsOwn B w' v ts := by
  obtain ⟨p, g, c, V, rfl, hl, N, hi⟩ := h
  exact ⟨p, g, c, V, rfl, hl, N.keep k hT3, fun i h => (hi i h).keep k hT⟩
theorem OutsOwn.below {ts : List TOut} (h : OutsOwn B w v ts) (hb : Below w.heap.size w w') : OutsOwn B w' v ts := by
  obtain ⟨p, g, c, V, rfl, hl, N, hi⟩ := h
  exact ⟨p, g, c, V, rfl, hl, N.below hb, fun i h => (hi i h).below hb⟩
theorem TxOwn.below {t : TTx} (h : TxOwn B w V t) (hb : Below w.heap.size w w') : TxOwn B w' V t := ⟨h.ver, h.verB, h.ins.below hb, h.outs.below hb, h.lock, h.lockB⟩
theorem TxOwn.keep {T : TypeId} {t : TTx} (h : TxOwn B w V t) (k : KeepT T w w') (hT : (5 : TypeId) ≠ T) (hT2 : 32 ≠ T) (hT3 : 121 ≠ T) (hT4 : 83 ≠ T) : TxOwn B w' V t := ⟨h.ver, h.verB, h.ins.keep k hT hT2 hT3, h.outs.keep k hT hT4, h.lock, h.lockB⟩
theorem InOwn.mono {t : TIn} (h : InOwn B w V t) (hB : B' ≤ B) : InOwn B' w V t := ⟨h.len, h.idB, h.id, h.idx, h.idxB, h.sc.mono hB, h.sq, h.sqB, h.wit.mono hB⟩
theorem OutOwn.mono {t : TOut} (h : OutOwn B w V t) (hB : B' ≤ B) : OutOwn B' w V t := ⟨h.val, h.valB, h.sc.mono hB⟩
theorem OutsOwn.mono {ts : List TOut} (h : OutsOwn B w v ts) (hB : B' ≤ B) : OutsOwn B' w v ts := by
  obtain ⟨p, g, c, V, rfl, hl, N, hi⟩ := h
  exact ⟨p, g, c, V, rfl, hl, N.mono hB, fun i h => (hi i h).mono hB⟩
theorem InsOwn.mono {ts : List TIn} (h : InsOwn B w v ts) (hB : B' ≤ B) : InsOwn B' w v ts := by
  obtain ⟨p, g, c, V, rfl, hl, N, hi⟩ := h
  exact ⟨p, g, c, V, rfl, hl, N.mono hB, fun i h => (hi i h).mono hB⟩
theorem Wb.textOwn {w0 : World} {l : List (Nat × TypeId × Array Value)} {p : Option Addr} {g c : Nat} {zs t : List Nat} (K : Wb w0 l p g c zs w) (h : zs = t) (hl : t.length ≤ 140737488351232) : TextOwn w0.heap.size w (.slice p zs.length c) t := by
  subst h
  exact ⟨p, g, c, rfl, hl, K.own⟩
end
section
variable {ops : Array Oper} {rest : List Oper} {Q : Exit → Act → World → Prop} {op : Oper} {a : Act} {w w0 : World} {l : List (Nat × TypeId × Array Value)}
theorem wpList_bs0 (hw : Region.wanted op (yielded ops a.tmps) = true) (ho : op.op = .buildSlice 32 0 #[]) (E : Hid (Mem w0 l w)) (nb : ∀ q, q ∈ l → q.2.1 ≠ 5)
    (k : ∀ p g w', Hid (Wb w0 l p g 0 [] w') → Hid (Below w.heap.size w w') → wpList Tryd.prog ops Q rest (a.put op.dst (.slice p 0 0)) w') : wpList Tryd.prog ops Q (op :: rest) a w :=
  BigFrame.wpList_want hw fun _ hK => by
    refine mo_known (.slice (some ⟨w.heap.size, 0, none⟩) 0 0) (w.alloc (.cells #[] 5)) ?_ (hK _ _ (k _ _ _ (Lib.hid (Wb.start E.out nb (own_start w (lf []) (lf_lt isB_nil)) (below_new w _))) (Lib.hid (below_new w _))))
    unfold execOp
    simp only [ho, Array.map_empty, Sem.run_bind, run_bs0 Tryd.underlying32 infoB w, Result.andThen_ok]
    rfl
/-- An append to bytes of the call's own, and what of old memory stays. -/
theorem wpList_wbl2 (hw : Region.wanted op (yielded ops a.tmps) = true) (s t : Operand) (ho : op.op = .call { callee := .builtin .append, args := #[s, t], argTypes := #[32, 32] }) {p : Option Addr} {g c : Nat} {xs : List Nat} (N : Hid (Wb w0 l p g c xs w)) {n : Nat} (hs : a.eval s = .slice p n c) (hn : n = xs.length)
    {q : Option Addr} {h o d : Nat} {ys : List Nat} (ht : a.eval t = .slice q ys.length d) (R : Hid (Row w q h o ys.length d (lf ys))) (hlen : xs.length + ys.length ≤ 140737488355328)
    (k : ∀ p' g' c' w' zs, Hid (zs = xs ++ ys) → Hid (Wb w0 l p' g' c' zs w') → wpList Tryd.prog ops Q rest (a.put op.dst (.slice p' zs.length c')) w') : wpList Tryd.prog ops Q (op :: rest) a w :=
  wpList_wb hw s t ho N hs hn ht R (by subst hn; exact hlen) fun p' g' c' w' zs e N' => k p' g' c' w' zs (Lib.hid (by rw [e.out, tl_lf])) N'
theorem mem_store_cellk (i : Nat) (E : Hid (Mem w0 l w)) (ty : TypeId) (hg : op.guard = none) (x y : Operand) (ho : op.op = .store ty x y) {b T j : Nat} {c : Array Value} {v : Value} (hx : a.eval x = .pointer (some ⟨b, j, none⟩)) (hy : a.eval y = v) (hi : l[i]? = some (b, T, c))
    (hs : (Tryd.prog.info? ty).map (·.size) = some 1) (h1 : v.cells = #[v]) (h2 : v.oneCell' = true) (hj : j < c.size)
    (h : ∀ w', Hid (Mem w0 (l.set i (b, T, c.setIfInBounds j v)) w') → Hid (KeepT T w w') → wpList Tryd.prog ops Q rest (a.put op.dst undef) w') : wpList Tryd.prog ops Q (op :: rest) a w := by
  have hg' := E.out.get (List.mem_of_getElem? hi)
  have hH : Holds b T (c.setIfInBounds j v) w (w.setCell ⟨b, j, none⟩ v) := (Holds.start hg').set rfl
  refine wpList_plain hg fun K hK => ?_
  unfold Oper.wp execOp
  simp only [ho, hx, hy, Sem.run_bind, Sem.run_pure, run_store_one hs h1 h2 (cell_of_here hg' j (Array.getElem?_eq_getElem hj)) (free_of_here hg' j), Result.andThen_ok]
  exact hK _ _ (h _ (Lib.hid (E.out.turn hi hH.here hH.only)) (Lib.hid (KeepT.of_only hg' hH.only)))
theorem mem_allocb (E : Hid (Mem w0 l w)) (T : TypeId) (hg : op.guard = none) (ho : op.op = .alloc T) {z : Value} {n : Nat} (hz : (Tryd.prog.info? T).map (fun i => (i.zero, i.size)) = some (some z, n))
    (h : ∀ b w', Hid (Mem w0 ((b, T, z.cells) :: l) w') → Hid (Below w.heap.size w w') → wpList Tryd.prog ops Q rest (a.put op.dst (.pointer (some ⟨b, 0, none⟩))) w') : wpList Tryd.prog ops Q (op :: rest) a w := by
  refine mem_known hg (.pointer (some ⟨w.heap.size, 0, none⟩)) (w.alloc (.cells z.cells T)) ?_ (h _ _ (Lib.hid (E.out.new T _)) (Lib.hid (below_new w _)))
  unfold execOp
  simp only [ho, Sem.run_bind, Instr.alloc, (zero_of_info hz).1, Result.andThen_ok]
  rfl
theorem mem_store_rowk (i : Nat) (E : Hid (Mem w0 l w)) (ty : TypeId) (hg : op.guard = none) (x y : Operand) (ho : op.op = .store ty x y) {b T : Nat} {c c' : Array Value} (hx : a.eval x = .pointer (some ⟨b, 0, none⟩)) (hy : a.eval y = .agg c') (hi : l[i]? = some (b, T, c))
    (hs : (Tryd.prog.info? ty).map (·.size) = some c'.size) (hl : c.size = c'.size) (h1 : c'.all (·.oneCell') = true)
    (h : ∀ w', Hid (Mem w0 (l.set i (b, T, c')) w') → Hid (KeepT T w w') → wpList Tryd.prog ops Q rest (a.put op.dst undef) w') : wpList Tryd.prog ops Q (op :: rest) a w := by
  have hg' := E.out.get (List.mem_of_getElem? hi)
  have ho' : Only b w (w.setRow b c') := ⟨rfl, rfl, rfl, by simp, fun k _ hk => setRow_other w b k c' hk⟩
  exact wpList_plain hg fun K hK => wp_store_row ty x y ho b c' hx hy T c hg' hs hl h1 (hK _ _ (h _ (Lib.hid (E.out.turn hi (setRow_heap w b c c' T _ hg') ho')) (Lib.hid (KeepT.of_only hg' ho'))))
end
theorem arr_ups (n : Nat) (V : Nat → Value) (i : Nat) (v : Value) : (arr n V).setIfInBounds i v = arr n (ups V i v) := by
  apply Array.ext_getElem?
  intro j
  rw [Array.getElem?_setIfInBounds, arr_size]
  by_cases h : j < n
  · rw [arr_get n (ups V i v) j h]
    unfold ups
    by_cases e : i = j
    · subst e
      rw [if_pos rfl, if_pos h, if_pos rfl]
    · rw [if_neg e, if_neg (fun h => e h.symm), arr_get n V j h]
  · rw [Array.getElem?_eq_none (by rw [arr_size]; omega : (arr n (ups V i v)).size ≤ j)]
    by_cases e : i = j
    · subst e
      rw [if_pos rfl, if_neg h]
    · rw [if_neg e, Array.getElem?_eq_none (by rw [arr_size]; omega)]
end Go.Proofs.YtoopcmcmjaikhaaDoor

