/- A writer of bits: its memory, and one bit more. -/
import Derived.Test.YtaonnckhohieoaaDoorWp
import Derived.Test.YtaonnckhohieoaaDoorRib
set_option linter.unusedSimpArgs false
set_option linter.unusedVariables false
set_option maxRecDepth 100000
namespace Go.Proofs.YtaonnckhohieoaaDoor
open Go.RowKit Go.Lib Go.Sort

/-- Every block is as it was, but for bytes, slices of bytes and numbers. -/
structure Kw (w w' : World) : Prop where
  size : w.heap.size ≤ w'.heap.size
  keep : ∀ (k : Nat) (cs : Array Value) (T : TypeId), T ≠ 3 → T ≠ 22 → T ≠ 5 → w.heap[k]? = some (.cells cs T (0, 0)) → w'.heap[k]? = some (.cells cs T (0, 0))
theorem Kw.refl (w : World) : Kw w w := ⟨Nat.le_refl _, fun _ _ _ _ _ _ h => h⟩
theorem Kw.trans {x y z : World} (h : Kw x y) (k : Kw y z) : Kw x z := ⟨Nat.le_trans h.size k.size, fun i cs T h1 h2 h3 hi => k.keep i cs T h1 h2 h3 (h.keep i cs T h1 h2 h3 hi)⟩
theorem Kw.below {w w' : World} (h : Below w.heap.size w w') : Kw w w' := ⟨h.size, fun k cs T _ _ _ hk => by rw [h.block _ (heap_lt hk)]; exact hk⟩
theorem Kw.keeps {w w' : World} (hs : w.heap.size ≤ w'.heap.size) (h : Keeps w w') : Kw w w' := ⟨hs, fun k cs T _ _ h3 hk => h k cs T h3 hk⟩
theorem Kw.only {w w' : World} {b T : Nat} {cs : Array Value} (hb : w.heap[b]? = some (.cells cs T (0, 0))) (hT : T = 3 ∨ T = 22 ∨ T = 5) (h : Only b w w') : Kw w w' := ⟨h.size, fun k c2 T2 h1 h2 h3 hk => h.heap (fun e => by
  subst e
  rw [hb] at hk
  injection hk with hk
  injection hk with _ e2 _
  subst e2
  rcases hT with h | h | h
  · exact h1 h
  · exact h2 h
  · exact h3 h) hk⟩
theorem Mem.kw {D w w' : World} {l : List (Nat × TypeId × Array Value)} (E : Mem D l w) (h : Kw w w') (hb : Below D.heap.size w w') (hl : ∀ q, q ∈ l → q.2.1 ≠ 3 ∧ q.2.1 ≠ 22 ∧ q.2.1 ≠ 5) : Mem D l w' :=
  ⟨E.below.trans hb, fun q hq => h.keep _ _ _ (hl q hq).1 (hl q hq).2.1 (hl q hq).2.2 (E.has q hq), E.nd, E.ge⟩
theorem ownsRow_kw {w w' : World} {base : Nat} {e : TypeId} {size : Nat} {v : Value} {n : Nat} {xs : List Value} (h : w.ownsRow base e size v n xs) (k : Kw w w') (h1 : e ≠ 3) (h2 : e ≠ 22) (h3 : e ≠ 5) : w'.ownsRow base e size v n xs := by
  obtain ⟨a, b⟩ := h
  refine ⟨a, ?_⟩
  rcases b with b | ⟨g, cap, cur, b1, b2, b3, b4⟩
  · exact .inl b
  · exact .inr ⟨g, cap, cur, b1, b2, k.keep _ _ _ h1 h2 h3 b3, b4⟩
theorem VOwn.kw {w w' : World} {T k B : Nat} {p : Option Addr} {g n c : Nat} {V : Nat → Value} (h : VOwn T k B w p g n c V) (q : Kw w w') (h1 : T ≠ 3) (h2 : T ≠ 22) (h3 : T ≠ 5) : VOwn T k B w' p g n c V := ⟨ownsRow_kw h.own q h1 h2 h3, h.spot, h.one, Nat.le_trans h.low q.size⟩
/-- A byte of a row of the call's own, written. -/
theorem own_set {B : Nat} {w : World} {p : Option Addr} {g n c : Nat} {x : Nat → Nat} (N : Own B w p g n c x) {i : Nat} (hi : i < n) (v : Nat) (hv : v < 256) :
    Own B (w.setCell ⟨g, i, none⟩ (.int .u8 (v : Int))) p g n c (fun j => if j = i then v else x j) ∧ Only g w (w.setCell ⟨g, i, none⟩ (.int .u8 (v : Int))) ∧ p = some ⟨g, 0, none⟩ ∧ B ≤ g ∧ ∃ cur, w.heap[g]? = some (.cells cur 5 (0, 0)) ∧ i < cur.size := by
  have hO : Only g w (w.setCell ⟨g, i, none⟩ (.int .u8 (v : Int))) := (Only.refl g w).setCell _ rfl _
  obtain ⟨h0, h1⟩ := N.own
  rcases h1 with ⟨h1, h2⟩ | ⟨g', cap, cur, h1, h2, h3, h4, h5, h6, h7⟩
  · omega
  · injection h1 with a1 a2 a3
    subst a3
    rcases N.spot with q | q
    · rw [q] at a1; cases a1
    · rw [q] at a1
      injection a1 with a1
      injection a1 with a1
      subst a1
      have hh : (w.setCell ⟨g, i, none⟩ (.int .u8 (v : Int))).heap[g]? = some (.cells (cur.setIfInBounds i (.int .u8 (v : Int))) 5 (0, 0)) := ((Holds.start h3).set rfl).here
      have hcs : i < cur.size := by rw [h6]; omega
      simp only [Nat.mul_one] at h6 h7
      have hset : List.take n (cur.setIfInBounds i (.int .u8 (v : Int))).toList = fbs (fun j => if j = i then v else x j) n := by
        rw [Array.toList_setIfInBounds, List.take_set, h7]
        apply List.ext_getElem?
        intro j
        rw [List.getElem?_set]
        rcases Nat.lt_or_ge j n with h | h
        · rw [fbs_at (fun j => if j = i then v else x j) _ _ h]
          by_cases e : i = j
          · subst e; rw [if_pos rfl, if_pos (by rw [fbs_length]; exact h), if_pos rfl]
          · rw [if_neg e, fbs_at _ _ _ h, if_neg (fun h => e h.symm)]
        · rw [List.getElem?_eq_none (by rw [fbs_length]; exact h)]
          rw [if_neg (by omega), List.getElem?_eq_none (by rw [fbs_length]; exact h)]
      refine ⟨⟨⟨by rw [fbs_length, Nat.mul_one], .inr ⟨g, c, cur.setIfInBounds i (.int .u8 (v : Int)), by rw [q], h2, hh, h4, h5, by simp [h6], by rw [Nat.mul_one]; exact hset⟩⟩, N.spot, fun j => ?_, Nat.le_trans N.low hO.size⟩, hO, q, h2, cur, h3, hcs⟩
      show (if j = i then v else x j) < 256
      split
      · exact hv
      · exact N.byte j
/-- The blocks of a writer: how many bits are free, and the bytes. -/
abbrev wl2 (bf bw : Nat) (fr : Int) (sl : Value) : List (Nat × TypeId × Array Value) := [(bf, 3, #[.int .i64 fr]), (bw, 22, #[sl])]
structure Pw (D w0 : World) (bf bw : Nat) (fr : Int) (p0 : Option Addr) (n0 c0 : Nat) (p : Option Addr) (g c : Nat) (xs : List Nat) (w : World) : Prop where
  wb : Wb D (wl2 bf bw fr (.slice p0 n0 c0)) p g c xs w
  kw : Kw w0 w
theorem Wb.typed {D w : World} {l : List (Nat × TypeId × Array Value)} {p : Option Addr} {g c : Nat} {xs : List Nat} (K : Wb D l p g c xs w) : IsB xs := isB_own K.own
section
variable {ops : Array Oper} {rest : List Oper} {Q : Exit → Act → World → Prop} {op : Oper} {a : Act} {D w0 w : World} {bf bw : Nat} {fr : Int} {p0 p : Option Addr} {n0 c0 g c : Nat} {xs : List Nat}
theorem pw_ldf (N : Hid (Pw D w0 bf bw fr p0 n0 c0 p g c xs w)) (hw : Region.wanted op (yielded ops a.tmps) = true) (x : Operand) (ho : op.op = .load 3 x) (hx : a.eval x = .pointer (some ⟨bf, 0, none⟩)) (h : wpList Tryd.prog ops Q rest (a.put op.dst (.int .i64 fr)) w) : wpList Tryd.prog ops Q (op :: rest) a w :=
  mem_load_cell (Lib.hid N.out.wb.mem) 3 hw x ho hx List.mem_cons_self Tryd.underlying3 rfl (v := .int .i64 fr) rfl h
theorem pw_ldw (N : Hid (Pw D w0 bf bw fr p0 n0 c0 p g c xs w)) (hw : Region.wanted op (yielded ops a.tmps) = true) (x : Operand) (ho : op.op = .load 22 x) (hx : a.eval x = .pointer (some ⟨bw, 0, none⟩)) (h : wpList Tryd.prog ops Q rest (a.put op.dst (.slice p0 n0 c0)) w) : wpList Tryd.prog ops Q (op :: rest) a w :=
  mem_load_cell (Lib.hid N.out.wb.mem) 22 hw x ho hx (List.mem_cons_of_mem _ List.mem_cons_self) Tryd.underlying22 rfl (v := .slice p0 n0 c0) rfl h
theorem pw_stf (N : Hid (Pw D w0 bf bw fr p0 n0 c0 p g c xs w)) (hg : op.guard = none) (x y : Operand) (ho : op.op = .store 3 x y) (hx : a.eval x = .pointer (some ⟨bf, 0, none⟩)) {k : Int} (hy : a.eval y = .int .i64 k) (h : ∀ w', Hid (Pw D w0 bf bw k p0 n0 c0 p g c xs w') → wpList Tryd.prog ops Q rest (a.put op.dst undef) w') : wpList Tryd.prog ops Q (op :: rest) a w := by
  have hb := N.out.wb.mem.get (b := bf) List.mem_cons_self
  have hH : Holds bf 3 #[.int .i64 k] w (w.setCell ⟨bf, 0, none⟩ (.int .i64 k)) := (Holds.start hb).set rfl
  refine wpList_plain hg fun K hK => ?_
  unfold Oper.wp execOp
  simp only [ho, hx, hy, Sem.run_bind, Sem.run_pure, run_store_one (P := Tryd.prog) (ty := 3) (v := .int .i64 k) (by kernel_rfl) rfl rfl (cell_of_here hb 0 rfl) (free_of_here hb 0), Result.andThen_ok]
  exact hK _ _ (h _ (Lib.hid ⟨N.out.wb.turn (i := 0) rfl hH.here hH.only, N.out.kw.trans (Kw.only hb (.inl rfl) hH.only)⟩))
theorem pw_stw (N : Hid (Pw D w0 bf bw fr p0 n0 c0 p g c xs w)) (hg : op.guard = none) (x y : Operand) (ho : op.op = .store 22 x y) (hx : a.eval x = .pointer (some ⟨bw, 0, none⟩)) {p1 : Option Addr} {n1 c1 : Nat} (hy : a.eval y = .slice p1 n1 c1) (h : ∀ w', Hid (Pw D w0 bf bw fr p1 n1 c1 p g c xs w') → wpList Tryd.prog ops Q rest (a.put op.dst undef) w') : wpList Tryd.prog ops Q (op :: rest) a w := by
  have hb := N.out.wb.mem.get (b := bw) (List.mem_cons_of_mem _ List.mem_cons_self)
  have hH : Holds bw 22 #[.slice p1 n1 c1] w (w.setCell ⟨bw, 0, none⟩ (.slice p1 n1 c1)) := (Holds.start hb).set rfl
  refine wpList_plain hg fun K hK => ?_
  unfold Oper.wp execOp
  simp only [ho, hx, hy, Sem.run_bind, Sem.run_pure, run_store_one (P := Tryd.prog) (ty := 22) (v := .slice p1 n1 c1) (by kernel_rfl) rfl rfl (cell_of_here hb 0 rfl) (free_of_here hb 0), Result.andThen_ok]
  exact hK _ _ (h _ (Lib.hid ⟨N.out.wb.turn (i := 1) rfl hH.here hH.only, N.out.kw.trans (Kw.only hb (.inr (.inl rfl)) hH.only)⟩))
theorem pw_bs (N : Hid (Pw D w0 bf bw fr p0 n0 c0 p g c xs w)) (parts : Array (Nat × Operand)) (hw : Region.wanted op (yielded ops a.tmps) = true) (ho : op.op = .buildSlice 22 1 parts) (hp : (parts.map fun (i, y) => (i, a.eval y)) = #[(0, .int .u8 0)])
    (h : ∀ b w', Hid (Row w' (some ⟨b, 0, none⟩) b 0 1 1 (lf [0])) → Hid (Pw D w0 bf bw fr p0 n0 c0 p g c xs w') → wpList Tryd.prog ops Q rest (a.put op.dst (.slice (some ⟨b, 0, none⟩) 1 1)) w') : wpList Tryd.prog ops Q (op :: rest) a w := by
  have hz : IsB [0] := fun x hx => by simp at hx; omega
  have hr := run_bs1v (P := Tryd.prog) Tryd.underlying22 infoB (.int .u8 0) rfl w
  have e : (#[.int .u8 0] : Array Value) = (fbs (lf [0]) 1).toArray := by kernel_rfl
  rw [e] at hr
  refine wpList_known hw _ _ (exec_bs ho hp hr) (h _ _ (Lib.hid (own_new w (lf [0]) 1 (by unfold maxLen; omega) (lf_lt hz)).row) (Lib.hid ⟨N.out.wb.call (below_new w _), N.out.kw.trans (Kw.below (below_new w _))⟩))
theorem pw_app (N : Hid (Pw D w0 bf bw fr p0 n0 c0 p g c xs w)) (hw : Region.wanted op (yielded ops a.tmps) = true) (s t : Operand) (ho : op.op = .call { callee := .builtin .append, args := #[s, t], argTypes := #[22, 22] }) {n : Nat} (hs : a.eval s = .slice p n c) (hn : n = xs.length)
    {q : Option Addr} {h o m d : Nat} {y : Nat → Nat} (ht : a.eval t = .slice q m d) (R : Hid (Row w q h o m d y)) (hlen : n + m ≤ 140737488355328)
    (k : ∀ p' g' c' w' zs, Hid (zs = xs ++ tl y m) → Hid (Pw D w0 bf bw fr p0 n0 c0 p' g' c' zs w') → wpList Tryd.prog ops Q rest (a.put op.dst (.slice p' zs.length c')) w') : wpList Tryd.prog ops Q (op :: rest) a w := by
  subst hn
  refine BigFrame.wpList_want hw fun K hK => ?_
  refine mo_appk s t ho hs (Lib.hid N.out.wb.own) ht R hlen ?_
  intro p' g' c' w' N' hb kp
  have e : xs.length + m = (xs ++ tl y m).length := by rw [List.length_append, tl_length]
  rw [e]
  refine hK _ _ (k p' g' c' w' _ (Lib.hid rfl) (Lib.hid ⟨⟨N.out.wb.mem.keeps N.out.wb.nb hb.out kp.out, ?_, N.out.wb.nb⟩, N.out.kw.trans (Kw.keeps hb.out.size kp.out)⟩))
  rw [← e]
  have hB : IsB (xs ++ tl y m) := (isB_own N.out.wb.own).append (isB_tl R.out.byte m)
  refine N'.out.to (fun i hi => ?_) (lf_lt hB)
  rw [← lf_cat]
  unfold cat
  split
  · rfl
  · rw [lf_tl y (by omega)]
end
/-- A byte of them, written. -/
theorem Pw.set {D w0 w : World} {bf bw : Nat} {fr : Int} {p0 p : Option Addr} {n0 c0 g c : Nat} {xs : List Nat} (N : Pw D w0 bf bw fr p0 n0 c0 p g c xs w) {i : Nat} (hi : i < xs.length) (v : Nat) (hv : v < 256) :
    Pw D w0 bf bw fr p0 n0 c0 p g c (xs.set i v) (w.setCell ⟨g, i, none⟩ (.int .u8 (v : Int))) := by
  obtain ⟨O, hO, hp, hg, cur, hc, _⟩ := own_set N.wb.own hi v hv
  have K : Kw w (w.setCell ⟨g, i, none⟩ (.int .u8 (v : Int))) := Kw.only hc (.inr (.inr rfl)) hO
  have ne : ∀ q, q ∈ wl2 bf bw fr (.slice p0 n0 c0) → q.1 ≠ g := fun q hq e => by
    have h1 := N.wb.mem.has q hq
    rw [e, hc] at h1
    injection h1 with h1
    injection h1 with _ h2 _
    exact N.wb.nb q hq h2.symm
  refine ⟨⟨⟨N.wb.mem.below.trans (hO.below hg N.wb.own.low), fun q hq => hO.heap (ne q hq) (N.wb.mem.has q hq), N.wb.mem.nd, N.wb.mem.ge⟩, ?_, N.wb.nb⟩, N.kw.trans K⟩
  rw [List.length_set]
  have hB : IsB (xs.set i v) := fun x hx => by
    rcases List.mem_or_eq_of_mem_set hx with h | rfl
    · exact isB_own N.wb.own x h
    · exact hv
  refine O.to (fun j hj => ?_) (lf_lt hB)
  rw [lf_get (show j < (xs.set i v).length by rw [List.length_set]; exact hj), List.getElem_set]
  by_cases e : i = j
  · subst e; rw [if_pos rfl, if_pos rfl]
  · rw [if_neg e, if_neg (fun h => e h.symm), lf_get hj]
end Go.Proofs.YtaonnckhohieoaaDoor

