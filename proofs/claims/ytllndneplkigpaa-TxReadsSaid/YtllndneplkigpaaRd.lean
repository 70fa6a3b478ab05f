/- parts.Reader: what its calls leave; Need, Take. -/
import Derived.Test.YtllndneplkigpaaPa
import Derived.Test.YtllndneplkigpaaZA
import Derived.Test.YtllndneplkigpaaZC
import Derived.Defers
import Derived.Recover
import Derived.Laws.Pointers
set_option linter.unusedSimpArgs false
set_option linter.unusedVariables false
set_option maxRecDepth 100000
namespace Go.Proofs.Ytllndneplkigpaa
open Go.RowKit Go.Lib Go.Sort

/-- The way a reader gives up: by its error's number. -/
abbrev Quit (e : Int) : Ending := .panicked [{ v := .iface 29 (.int .i64 e), recovered := false }]
theorem need_ok (v : Value) (e : Int) (w : World) : Calls Try.prog 64 #[v, .bool true, .int .i64 e] w fun en w' => (∃ r, en = .returned r) ∧ w' = w := by
  go_enter Try.func64, Try.ntmps64
  go_wp2
  go_end0
  exact ⟨⟨_, rfl⟩, rfl⟩
theorem need_bad (v : Value) (e : Int) (w : World) : Calls Try.prog 64 #[v, .bool false, .int .i64 e] w fun en w' => en = Quit e ∧ w' = w := by
  go_enter Try.func64, Try.ntmps64
  go_wp2
  exact ⟨rfl, rfl, rfl⟩

/-- w, block b's cells turned to cs. -/
def rb (w : World) (b : Nat) (cs : Array Value) : World := w.setRow b cs
section
variable {W w w' : World} {b T : Nat} {c0 cs cs' : Array Value} {l : List (Nat × TypeId × Array Value)}
theorem rb_heap (h : W.heap[b]? = some (.cells c0 T (0, 0))) (cs : Array Value) : (rb W b cs).heap[b]? = some (.cells cs T (0, 0)) := setRow_heap W b c0 cs T _ h
theorem rb_other {k : Nat} (hk : k ≠ b) : (rb W b cs).heap[k]? = W.heap[k]? := setRow_other W b k cs hk
theorem rb_size (W : World) (b : Nat) (cs : Array Value) : (rb W b cs).heap.size = W.heap.size := by simp [rb]
theorem rb_only : Only b W (rb W b cs) := ⟨rfl, rfl, rfl, by rw [rb_size]; exact Nat.le_refl _, fun k _ hk => rb_other hk⟩
theorem rb_same (h : W.heap[b]? = some (.cells c0 T (0, 0))) : Below (rb W b c0).heap.size (rb W b c0) W :=
  ⟨rfl, rfl, rfl, by rw [rb_size]; exact Nat.le_refl _, fun k hk => by
    by_cases e : k = b
    · subst e
      rw [rb_heap h, h]
    · rw [rb_other e]⟩
theorem rb_start (h : W.heap[b]? = some (.cells c0 T (0, 0))) : Mem (rb W b c0) [] W := ⟨rb_same h, fun _ h => (by cases h), List.nodup_nil, fun _ h => by cases h⟩
theorem Mem.rbox (E : Mem (rb W b cs) l w) (h : W.heap[b]? = some (.cells c0 T (0, 0))) : w.heap[b]? = some (.cells cs T (0, 0)) := by
  rw [E.below.block b (by rw [rb_size]; exact heap_lt h)]
  exact rb_heap h cs
theorem Mem.ronly (E : Mem (rb W b cs) l w) : Only b W w := by
  refine rb_only.trans ⟨E.below.os, E.below.tape, E.below.output, E.below.size, fun k hk _ => E.below.block k hk⟩
theorem below_rb_only (h : Below w.heap.size (rb w b cs') w') : Only b w w' :=
  rb_only.trans ⟨h.os, h.tape, h.output, h.size, fun k hk _ => h.block k (by rw [rb_size] at hk; exact hk)⟩
theorem Mem.rcall (E : Mem (rb W b cs) l w) (hW : W.heap[b]? = some (.cells c0 T (0, 0))) (h : Below w.heap.size (rb w b cs') w') : Mem (rb W b cs') l w' := by
  have hbox := E.rbox hW
  have hb := heap_lt hW
  have hsz : W.heap.size ≤ w.heap.size := by have := E.below.size; rwa [rb_size] at this
  have hge : ∀ p, p ∈ l → W.heap.size ≤ p.1 := fun p hp => by have := E.ge p hp; rwa [rb_size] at this
  refine ⟨⟨?_, ?_, ?_, ?_, fun k hk => ?_⟩, fun p hp => ?_, E.nd, fun p hp => by rw [rb_size]; exact hge p hp⟩
  · exact h.os.trans E.below.os
  · exact h.tape.trans E.below.tape
  · exact h.output.trans E.below.output
  · rw [rb_size]
    have := h.size
    rw [rb_size] at this
    omega
  · rw [rb_size] at hk
    rw [h.block k (by omega)]
    by_cases e : k = b
    · subst e
      rw [rb_heap hbox, rb_heap hW]
    · rw [rb_other e, rb_other e, E.below.block k (by rw [rb_size]; exact hk), rb_other e]
  · have h1 := E.has p hp
    have h2 := hge p hp
    rw [h.block p.1 (heap_lt h1), rb_other (by omega)]
    exact h1
theorem rkeep (hbox : w.heap[b]? = some (.cells cs T (0, 0))) (h : Below w.heap.size (rb w b cs') w') : KeepT T w w' := KeepT.of_only hbox (below_rb_only h)
theorem Mem.rbelow (E : Mem (rb W b cs) l w) : Below W.heap.size (rb W b cs) w := by have := E.below; rwa [rb_size] at this
theorem Mem.rsize (E : Mem (rb W b cs) l w) : W.heap.size ≤ w.heap.size := by have := E.below.size; rwa [rb_size] at this
/-- The box, one of its cells stored. -/
theorem Mem.rset (E : Mem (rb W b cs) l w) (hW : W.heap[b]? = some (.cells c0 T (0, 0))) (j : Nat) (v : Value) : Mem (rb W b (cs.setIfInBounds j v)) l (w.setCell ⟨b, j, none⟩ v) := by
  have hbox := E.rbox hW
  have hH : Holds b T (cs.setIfInBounds j v) w (w.setCell ⟨b, j, none⟩ v) := (Holds.start hbox).set rfl
  exact E.rcall hW ⟨hH.only.os, hH.only.tape, hH.only.output, by rw [rb_size]; exact hH.only.size, fun k hk => by
    by_cases e : k = b
    · subst e
      rw [rb_heap hbox]
      exact hH.here
    · rw [rb_other e]
      exact hH.only.block k hk e⟩
end
section
variable {ops : Array Oper} {rest : List Oper} {Q : Exit → Act → World → Prop} {op : Oper} {a : Act} {W w : World} {b T : Nat} {c0 cs : Array Value} {l : List (Nat × TypeId × Array Value)}
/-- A cell of the box, loaded. -/
theorem wpList_xld (E : Hid (Mem (rb W b cs) l w)) (hW : Hid (W.heap[b]? = some (.cells c0 T (0, 0)))) (ty : TypeId) (x : Operand) (ho : op.op = .load ty x) (hw : Region.wanted op (yielded ops a.tmps) = true) {j : Nat} (hx : a.eval x = .pointer (some ⟨b, j, none⟩))
    {d : TypeDesc} (hu : Try.prog.underlying ty = some d) (hd : d.isRow = false) {v : Value} (hv : cs[j]? = some v)
    (h : wpList Try.prog ops Q rest (a.put op.dst v) w) : wpList Try.prog ops Q (op :: rest) a w :=
  wpList_ld1 ty x ho hw hx hu hd (cell_of_here (E.out.rbox hW.out) j hv) h
/-- A cell of the box, stored. -/
theorem wpList_xst (E : Hid (Mem (rb W b cs) l w)) (hW : Hid (W.heap[b]? = some (.cells c0 T (0, 0)))) (ty : TypeId) (x y : Operand) (hg : op.guard = none) (ho : op.op = .store ty x y) {j : Nat} (hx : a.eval x = .pointer (some ⟨b, j, none⟩)) {v : Value} (hy : a.eval y = v)
    (hs : (Try.prog.info? ty).map (·.size) = some 1) (h1 : v.cells = #[v]) (h2 : v.oneCell' = true) {v0 : Value} (hv : cs[j]? = some v0) {cs' : Array Value} (hc : cs.setIfInBounds j v = cs')
    (h : ∀ w', Hid (Mem (rb W b cs') l w') → wpList Try.prog ops Q rest (a.put op.dst undef) w') : wpList Try.prog ops Q (op :: rest) a w := by
  have hbox := E.out.rbox hW.out
  have hM := E.out.rset hW.out j v
  rw [hc] at hM
  refine wpList_plain hg fun K hK => ?_
  unfold Oper.wp execOp
  simp only [ho, hx, hy, Sem.run_bind, Sem.run_pure, run_store_one (P := Try.prog) (ty := ty) hs h1 h2 (cell_of_here hbox j hv) (free_of_here hbox j), Result.andThen_ok]
  exact hK _ _ (h _ (Lib.hid hM))
end

/-- A reader in block b; what is left of the bytes, xs, lies in memory that D has. -/
structure Rd (D W : World) (b : Nat) (u : Value) (xs : List Nat) : Prop where
  dat : TextAt D u xs
  box : W.heap[b]? = some (.cells #[u] 101 (0, 0))
  lo : D.heap.size ≤ b
  old : Below D.heap.size D W
section
variable {D W w w' : World} {b : Nat} {u u' u0 : Value} {xs xs0 : List Nat} {l : List (Nat × TypeId × Array Value)}
theorem Rd.start (R : Rd D W b u xs) : Mem (rb W b #[u]) [] W := rb_start R.box
theorem Rd.hbox (R : Rd D W b u xs) : Hid (W.heap[b]? = some (.cells #[u] 101 (0, 0))) := Lib.hid R.box
theorem only_old (R : Rd D W b u0 xs0) (h : Only b W w) : Below D.heap.size D w := by
  refine R.old.trans ⟨h.os, h.tape, h.output, h.size, fun k hk => ?_⟩
  have := R.lo
  exact h.block k (Nat.lt_of_lt_of_le hk R.old.size) (by omega)
theorem Mem.rnext (E : Mem (rb W b #[u]) l w) (R : Rd D W b u0 xs0) (A : TextAt D u xs) : Rd D w b u xs := ⟨A, E.rbox R.box, R.lo, only_old R E.ronly⟩
end
/-- What a call of a reader's leaves: the part and what is behind, or its error. -/
def RdPost {α : Type} (D W : World) (b : Nat) (Rel : World → Value → α → Prop) (r : Res α) (e : Ending) (w' : World) : Prop :=
  match r with
  | .bad er => e = Quit er ∧ Only b W w'
  | .good a rest => ∃ v u, e = .returned v ∧ TextAt D u rest ∧ Below W.heap.size (rb W b #[u]) w' ∧ Rel w' v a
section
variable {α : Type} {D W w w' : World} {b : Nat} {u u' : Value} {xs : List Nat} {l : List (Nat × TypeId × Array Value)} {Rel : World → Value → α → Prop} {r : Res α} {e : Ending}
theorem RdPost.cases (h : RdPost D W b Rel r e w') : (∃ er, r = .bad er ∧ e = Quit er ∧ Only b W w') ∨ (∃ a rest v u, r = .good a rest ∧ e = .returned v ∧ TextAt D u rest ∧ Below W.heap.size (rb W b #[u]) w' ∧ Rel w' v a) := by
  cases r with
  | bad er => exact .inl ⟨er, rfl, h⟩
  | good a rest =>
    obtain ⟨v, u, h1, h2, h3, h4⟩ := h
    exact .inr ⟨a, rest, v, u, rfl, h1, h2, h3, h4⟩
theorem RdPost.bad {er : Int} (hr : r = .bad er) (h : Only b W w') : RdPost D W b Rel r (Quit er) w' := by
  subst hr
  exact ⟨rfl, h⟩
theorem RdPost.good {a : α} {rest : List Nat} {v : Value} (hr : r = .good a rest) (h1 : TextAt D u rest) (h2 : Mem (rb W b #[u]) l w') (h3 : Rel w' v a) : RdPost D W b Rel r (.returned v) w' := by
  subst hr
  exact ⟨v, u, rfl, h1, h2.rbelow, h3⟩
end
section
variable {D : World} {p : Option Addr} {c n : Nat} {xs : List Nat}
theorem TextAt.take (A : TextAt D (.slice p xs.length c) xs) (h : n ≤ xs.length) : ∃ p', sliced p 0 n n 1 = .slice p' n n ∧ TextAt D (.slice p' n n) (xs.take n) ∧ n ≤ c := by
  obtain ⟨p1, g, o, c1, hv, hl, R⟩ := A
  injection hv with e1 e2 e3
  subst e1 e3
  obtain ⟨p', e, R'⟩ := R.slice (l := 0) (h := n) (m := n) (by omega) h (Nat.le_refl _) (Nat.le_trans h R.le)
  rw [Nat.sub_zero] at e R'
  refine ⟨p', e, ⟨p', g, o + 0, n, ?_, ?_, ?_⟩, Nat.le_trans h R.le⟩
  · rw [List.length_take, Nat.min_eq_left h]
  · rw [List.length_take]; omega
  · rw [List.length_take, Nat.min_eq_left h]
    refine R'.to (fun i hi => ?_) (lf_lt fun x hx => isB_row R x (List.mem_of_mem_take hx))
    rw [Nat.zero_add, lf_get (by omega), lf_get (by rw [List.length_take]; omega), List.getElem_take]
theorem TextAt.drop (A : TextAt D (.slice p xs.length c) xs) (h : n ≤ xs.length) : ∃ p' m' c', sliced p n xs.length c 1 = .slice p' m' c' ∧ TextAt D (.slice p' m' c') (xs.drop n) := by
  obtain ⟨p1, g, o, c1, hv, hl, R⟩ := A
  injection hv with e1 e2 e3
  subst e1 e3
  obtain ⟨p', e, R'⟩ := R.slice (l := n) (h := xs.length) (m := c) h (Nat.le_refl _) R.le (Nat.le_refl _)
  refine ⟨p', (xs.drop n).length, c - n, by rw [List.length_drop]; exact e, p', g, o + n, c - n, rfl, by rw [List.length_drop]; omega, ?_⟩
  rw [List.length_drop]
  refine R'.to (fun i hi => ?_) (lf_lt fun x hx => isB_row R x (List.mem_of_mem_drop hx))
  rw [lf_get (by omega), lf_get (by rw [List.length_drop]; omega), List.getElem_drop]
end
theorem TextAt.slice {D : World} {v : Value} {xs : List Nat} (A : TextAt D v xs) : ∃ p c, v = .slice p xs.length c ∧ xs.length ≤ 140737488351232 := by
  obtain ⟨p, g, o, c, rfl, hl, _⟩ := A
  exact ⟨p, c, rfl, hl⟩
set_option maxHeartbeats 2000000 in
theorem take_any {D W : World} {b : Nat} {u : Value} {xs : List Nat} (R : Hid (Rd D W b u xs)) (n : Nat) : Calls Try.prog 90 #[.pointer (some ⟨b, 0, none⟩), .int .i64 ((n : Nat) : Int)] W (RdPost D W b (fun _ v a => TextAt D v a) (pTake n xs)) := by
  obtain ⟨p, c, hu, hl⟩ := R.out.dat.slice
  subst hu
  have E := Lib.hid R.out.start
  by_cases hlt : n ≤ xs.length
  · obtain ⟨p1, e1, A1, hc1⟩ := R.out.dat.take hlt
    obtain ⟨p2, m2, c2, e2, A2⟩ := R.out.dat.drop hlt
    have T1 := Lib.hid A1
    have T2 := Lib.hid A2
    have X1 := Lib.hid e1
    have X2 := Lib.hid e2
    have PT := Lib.hid (show pTake n xs = .good (xs.take n) (xs.drop n) by unfold pTake; rw [if_pos hlt])
    clear A1 A2 e1 e2
    go_enter Try.func90, Try.ntmps90
    go_wp2_with (first
      | (refine wpList_xld E R.out.hbox 22 _ rfl rfl rfl Try.underlying22 rfl rfl ?_)
      | (go_at_call 64; refine (need_ok _ _ _).mono ?_; rintro e w1 ⟨⟨r1, rfl⟩, rfl⟩)
      | (refine mem_known rfl (.slice p1 n n) _ (exec_sl rfl (by exact (run_hm (Nat.le_refl _) hc1 _).trans (by rw [X1.out]))) ?_)
      | (refine mem_known rfl (.slice p2 m2 c2) _ (exec_sl rfl (by exact (run_l hlt _).trans (by rw [X2.out]))) ?_)
      | (refine wpList_xst E R.out.hbox 22 (.tmp 30) (.tmp 28) rfl rfl rfl (v := .slice p2 m2 c2) rfl (by kernel_rfl) rfl rfl rfl (cs' := #[.slice p2 m2 c2]) rfl ?_; clear E; intro w1 E))
    go_ret
    exact RdPost.good PT.out T2.out E.out T1.out
  · have PT := Lib.hid (show pTake n xs = .bad 50 by unfold pTake; rw [if_neg hlt])
    go_enter Try.func90, Try.ntmps90
    go_wp2_with (first
      | (refine wpList_xld E R.out.hbox 22 _ rfl rfl rfl Try.underlying22 rfl rfl ?_)
      | (go_at_call 64; refine (need_bad _ _ _).mono ?_; rintro e w1 ⟨rfl, rfl⟩))
    exact ⟨rfl, RdPost.bad PT.out E.out.ronly⟩
end Go.Proofs.Ytllndneplkigpaa
