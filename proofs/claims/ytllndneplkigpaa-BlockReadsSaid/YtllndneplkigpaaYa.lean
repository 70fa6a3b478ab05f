/- The document's reader: its state, and what its calls leave; take, low. -/
import Derived.Test.YtllndneplkigpaaRl
import Derived.Test.YtllndneplkigpaaZD
set_option linter.unusedSimpArgs false
set_option linter.unusedVariables false
set_option maxRecDepth 100000
namespace Go.Proofs.Ytllndneplkigpaa
open Go.RowKit Go.Lib Go.Sort

/-- Bytes that wait: in memory that D has, or in a block of bytes. -/
def QDat (D w : World) (u : Value) (xs : List Nat) : Prop :=
  ∃ p g o c, u = .slice p xs.length c ∧ xs.length ≤ 140737488351232 ∧ Row w p g o xs.length c (lf xs) ∧ (0 < xs.length → g < D.heap.size ∨ ∃ cs, w.heap[g]? = some (.cells cs 5 (0, 0)))
section
variable {D w w' : World} {u : Value} {xs : List Nat}
theorem QDat.at (h : QDat D w u xs) : TextAt w u xs := by
  obtain ⟨p, g, o, c, rfl, hl, R, _⟩ := h
  exact ⟨p, g, o, c, rfl, hl, R⟩
theorem QDat.of {u : Value} {xs : List Nat} (h : TextAt D u xs) : QDat D D u xs := by
  obtain ⟨p, g, o, c, rfl, hl, R⟩ := h
  exact ⟨p, g, o, c, rfl, hl, R, fun h0 => .inl (cell_lt (R.cell 0 h0))⟩
theorem QDat.keep {T : TypeId} (h : QDat D w u xs) (hb : Below D.heap.size w w') (k : KeepT T w w') (hT : (5 : TypeId) ≠ T) : QDat D w' u xs := by
  obtain ⟨p, g, o, c, rfl, hl, R, hg⟩ := h
  refine ⟨p, g, o, c, rfl, hl, ⟨R.le, R.cap, R.nil, R.head, fun i hi => ?_, R.byte⟩, fun h0 => ?_⟩
  · rcases hg (by omega) with q | ⟨cs, q⟩
    · rw [World.cell?_of_block (w := w) (hb.block g q)]
      exact R.cell i hi
    · rw [World.cell?_of_block (w := w) ((k.keep g cs 5 hT q).trans q.symm)]
      exact R.cell i hi
  · rcases hg h0 with q | ⟨cs, q⟩
    · exact .inl q
    · exact .inr ⟨cs, k.keep g cs 5 hT q⟩
theorem QDat.below (h : QDat D w u xs) (hb : Below w.heap.size w w') : QDat D w' u xs := by
  obtain ⟨p, g, o, c, rfl, hl, R, hg⟩ := h
  refine ⟨p, g, o, c, rfl, hl, R.below hb, fun h0 => ?_⟩
  rcases hg h0 with q | ⟨cs, q⟩
  · exact .inl q
  · exact .inr ⟨cs, by rw [hb.block g (heap_lt q)]; exact q⟩
theorem QDat.own {B : Nat} {p : Option Addr} {g c : Nat} (N : Own B w p g xs.length c (lf xs)) (hl : xs.length ≤ 140737488351232) : QDat D w (.slice p xs.length c) xs := ⟨p, g, 0, c, rfl, hl, N.row, fun h => .inr (own_typed N h)⟩
theorem QDat.take {p : Option Addr} {c n : Nat} (A : QDat D w (.slice p xs.length c) xs) (h : n ≤ xs.length) : ∃ p' c', sliced p 0 n c 1 = .slice p' n c' ∧ QDat D w (.slice p' n c') (xs.take n) ∧ n ≤ c := by
  obtain ⟨p1, g, o, c1, hv, hl, R, hg⟩ := A
  injection hv with e1 e2 e3
  subst e1 e3
  obtain ⟨p', e, R'⟩ := R.slice (l := 0) (h := n) (m := c) (by omega) h (Nat.le_trans h R.le) (Nat.le_refl _)
  rw [Nat.sub_zero, Nat.sub_zero] at e R'
  refine ⟨p', c, e, ⟨p', g, o + 0, c, ?_, ?_, ?_, fun h0 => ?_⟩, Nat.le_trans h R.le⟩
  · rw [List.length_take, Nat.min_eq_left h]
  · rw [List.length_take]; omega
  · rw [List.length_take, Nat.min_eq_left h]
    refine R'.to (fun i hi => ?_) (lf_lt fun x hx => isB_row R x (List.mem_of_mem_take hx))
    rw [Nat.zero_add, lf_get (by omega), lf_get (by rw [List.length_take]; omega), List.getElem_take]
  · rw [List.length_take] at h0
    exact hg (by omega)
theorem QDat.drop {p : Option Addr} {c n : Nat} (A : QDat D w (.slice p xs.length c) xs) (h : n ≤ xs.length) : ∃ p' m' c', sliced p n xs.length c 1 = .slice p' m' c' ∧ QDat D w (.slice p' m' c') (xs.drop n) := by
  obtain ⟨p1, g, o, c1, hv, hl, R, hg⟩ := A
  injection hv with e1 e2 e3
  subst e1 e3
  obtain ⟨p', e, R'⟩ := R.slice (l := n) (h := xs.length) (m := c) h (Nat.le_refl _) R.le (Nat.le_refl _)
  refine ⟨p', (xs.drop n).length, c - n, by rw [List.length_drop]; exact e, p', g, o + n, c - n, rfl, by rw [List.length_drop]; omega, ?_, fun h0 => by rw [List.length_drop] at h0; exact hg (by omega)⟩
  rw [List.length_drop]
  refine R'.to (fun i hi => ?_) (lf_lt fun x hx => isB_row R x (List.mem_of_mem_drop hx))
  rw [lf_get (by omega), lf_get (by rw [List.length_drop]; omega), List.getElem_drop]
theorem QDat.slice (A : QDat D w u xs) : ∃ p c, u = .slice p xs.length c ∧ xs.length ≤ 140737488351232 := A.at.slice
end
/-- A reader of the document's in block b: the bytes that wait, and its error. -/
structure Qd (D W : World) (b : Nat) (u : Value) (e : Int) (xs : List Nat) : Prop where
  dat : QDat D W u xs
  box : W.heap[b]? = some (.cells #[u, .int .i64 e] 58 (0, 0))
  lo : D.heap.size ≤ b
  old : Below D.heap.size D W
/-- What a whole reading answers, told by what is still to be read; behind an error it is this error. -/
def Inv {γ : Type} (whole : Res γ) (e : Int) (k : Res γ) : Prop := (e = 0 → whole = k) ∧ (e ≠ 0 → whole = .bad e)
section
variable {γ : Type} {whole k : Res γ} {e : Int}
theorem Inv.fail (h : Inv whole e k) (h0 : e ≠ 0) (k' : Res γ) : Inv whole e k' := ⟨fun h1 => absurd h1 h0, h.2⟩
theorem Inv.bad (h : Inv whole 0 k) {er : Int} (hk : k = .bad er) (h0 : er ≠ 0) (k' : Res γ) : Inv whole er k' := ⟨fun h1 => absurd h1 h0, fun _ => (h.1 rfl).trans hk⟩
theorem Inv.good (h : Inv whole 0 k) {k' : Res γ} (hk : k = k') : Inv whole 0 k' := ⟨fun _ => (h.1 rfl).trans hk, fun h1 => absurd rfl h1⟩
theorem Inv.eq (h : Inv whole e k) {k' : Res γ} (hk : k = k') : Inv whole e k' := hk ▸ h
theorem Inv.start (k : Res γ) : Inv k 0 k := ⟨fun _ => rfl, fun h => absurd rfl h⟩
end
/-- What a call of the document's reader leaves. -/
def QPost {α γ : Type} (D W : World) (b : Nat) (Rel : World → Value → α → Prop) (whole : Res γ) (f : α → List Nat → Res γ) (en : Ending) (w' : World) : Prop :=
  ∃ v a u e xs, en = .returned v ∧ Below W.heap.size (rb W b #[u, .int .i64 e]) w' ∧ QDat D w' u xs ∧ Rel w' v a ∧ Inv whole e (f a xs)
section
variable {D W w w' : World} {b : Nat} {u u' u0 : Value} {e e0 e1 : Int} {xs xs0 xs1 : List Nat} {l : List (Nat × TypeId × Array Value)}
theorem Qd.start (R : Qd D W b u e xs) : Mem (rb W b #[u, .int .i64 e]) [] W := rb_start R.box
theorem Qd.hbox (R : Qd D W b u e xs) : Hid (W.heap[b]? = some (.cells #[u, .int .i64 e] 58 (0, 0))) := Lib.hid R.box
theorem qonly_old (R : Qd D W b u0 e0 xs0) (h : Only b W w) : Below D.heap.size D w := by
  refine R.old.trans ⟨h.os, h.tape, h.output, h.size, fun k hk => ?_⟩
  have := R.lo
  exact h.block k (Nat.lt_of_lt_of_le hk R.old.size) (by omega)
theorem qonly_below (R : Qd D W b u0 e0 xs0) (h : Only b W w) : Below D.heap.size W w := by
  refine ⟨h.os, h.tape, h.output, h.size, fun k hk => ?_⟩
  have := R.lo
  exact h.block k (Nat.lt_of_lt_of_le hk R.old.size) (by omega)
theorem Mem.qnext (E : Mem (rb W b #[u, .int .i64 e]) l w) (R : Qd D W b u0 e0 xs0) (A : QDat D w u xs) : Qd D w b u e xs := ⟨A, E.rbox R.box, R.lo, qonly_old R E.ronly⟩
theorem QPost.of {α γ : Type} {Rel : World → Value → α → Prop} {whole : Res γ} {f : α → List Nat → Res γ} {v : Value} {a : α} (E : Mem (rb W b #[u, .int .i64 e]) l w') (A : QDat D w' u xs) (h : Rel w' v a) (hI : Inv whole e (f a xs)) : QPost D W b Rel whole f (.returned v) w' :=
  ⟨v, a, u, e, xs, rfl, E.rbelow, A, h, hI⟩
end
theorem zeros_cells (n : Nat) : (madeCells (Value.int .u8 0).cells (n * 1)).toList = fbs (lf (List.replicate n 0)) n := by
  apply List.ext_getElem?
  intro i
  rw [Nat.mul_one]
  rcases Nat.lt_or_ge i n with h | h
  · rw [fbs_at _ _ _ h, lf_get (by simpa using h)]
    have e : i % 1 = 0 := Nat.mod_one i
    simp [madeCells, Value.cells, h, e]
  · rw [List.getElem?_eq_none (by simp [madeCells, Value.cells]; omega), List.getElem?_eq_none (by rw [fbs_length]; exact h)]
section
variable {ops : Array Oper} {rest : List Oper} {Q : Exit → Act → World → Prop} {op : Oper} {a : Act} {w w0 : World} {l : List (Nat × TypeId × Array Value)}
theorem isB_zeros (n : Nat) : IsB (List.replicate n 0) := fun x hx => by rw [(List.mem_replicate.1 hx).2]; omega
/-- n noughts. -/
theorem wpList_mkz (E : Hid (Mem w0 l w)) (hgd : op.guard = none) (lo co : Operand) (ho : op.op = .makeSlice 22 lo co) (n : Nat) (hl : a.eval lo = .int .i64 ((n : Nat) : Int)) (hc : a.eval co = .int .i64 ((n : Nat) : Int)) (hn : n ≤ 1000)
    (k : ∀ g w', Hid (Mem w0 l w') → Hid (Below w.heap.size w w') → Hid (Own w.heap.size w' (some ⟨g, 0, none⟩) g n n (lf (List.replicate n 0))) → wpList Try.prog ops Q rest (a.put op.dst (.slice (some ⟨g, 0, none⟩) n n)) w') : wpList Try.prog ops Q (op :: rest) a w := by
  obtain ⟨i0, hi, hz0, hz1, hz2⟩ := info_parts infoB
  refine wpList_make_full (P := Try.prog) w hgd lo co 22 ho w.heap.size 5 i0 (.int .u8 0) 1 Try.underlying22 hi hz0 hz1 .i64 .i64 _ _ n hl hc rfl rfl (by rw [hz2]; omega) (by unfold maxLen; omega) (Nat.le_refl _) ?_
  intro w' hown hgrow
  rw [zeros_cells] at hown
  have hb : Below w.heap.size w w' := (Below.refl _ _).grown hgrow (Nat.le_refl _) fun k hk => by cases hk
  exact k _ w' (Lib.hid (E.out.call hb)) (Lib.hid hb) (Lib.hid ⟨hown, .inr rfl, lf_lt (isB_zeros n), hb.size⟩)
end
section
variable {ops : Array Oper} {rest : List Oper} {Q : Exit → Act → World → Prop} {op : Oper} {a : Act} {D W w w' : World} {b T : Nat} {c0 cs : Array Value} {l : List (Nat × TypeId × Array Value)}
/-- A cell of the box, stored; what else there is stays. -/
theorem wpList_xstk (E : Hid (Mem (rb W b cs) l w)) (hW : Hid (W.heap[b]? = some (.cells c0 T (0, 0)))) (ty : TypeId) (x y : Operand) (hg : op.guard = none) (ho : op.op = .store ty x y) {j : Nat} (hx : a.eval x = .pointer (some ⟨b, j, none⟩)) {v : Value} (hy : a.eval y = v)
    (hs : (Try.prog.info? ty).map (·.size) = some 1) (h1 : v.cells = #[v]) (h2 : v.oneCell' = true) {v0 : Value} (hv : cs[j]? = some v0) {cs' : Array Value} (hc : cs.setIfInBounds j v = cs')
    (h : ∀ w', Hid (Mem (rb W b cs') l w') → Hid (w.heap[b]? = some (.cells cs T (0, 0)) ∧ Only b w w') → wpList Try.prog ops Q rest (a.put op.dst undef) w') : wpList Try.prog ops Q (op :: rest) a w := by
  have hbox := E.out.rbox hW.out
  have hM := E.out.rset hW.out j v
  have hO : Only b w (w.setCell ⟨b, j, none⟩ v) := (Only.refl b w).setCell _ rfl _
  rw [hc] at hM
  refine wpList_plain hg fun K hK => ?_
  unfold Oper.wp execOp
  simp only [ho, hx, hy, Sem.run_bind, Sem.run_pure, run_store_one (P := Try.prog) (ty := ty) hs h1 h2 (cell_of_here hbox j hv) (free_of_here hbox j), Result.andThen_ok]
  exact hK _ _ (h _ (Lib.hid hM) (Lib.hid ⟨hbox, hO⟩))
theorem QDat.xst {u : Value} {xs : List Nat} (h : QDat D w u xs) (lo : D.heap.size ≤ b) (hO : w.heap[b]? = some (.cells cs T (0, 0)) ∧ Only b w w') (hT : (5 : TypeId) ≠ T) : QDat D w' u xs :=
  h.keep (hO.2.below lo (Nat.le_trans lo (Nat.le_of_lt (heap_lt hO.1)))) (KeepT.of_only hO.1 hO.2) hT
end
section
variable {γ : Type} {D W : World} {b : Nat} {u : Value} {e : Int} {xs : List Nat} {whole : Res γ}
set_option maxHeartbeats 4000000 in
theorem qtake_any {f : List Nat → List Nat → Res γ} (R : Hid (Qd D W b u e xs)) (n : Nat) (hn : n ≤ 1000) (I : Hid (Inv whole e ((pTake n xs).bind f))) : Calls Try.prog 26 #[.pointer (some ⟨b, 0, none⟩), .int .i64 ((n : Nat) : Int)] W (QPost D W b (fun w' v a => QDat D w' v a ∧ a.length = n) whole f) := by
  obtain ⟨p, c, rfl, hl⟩ := R.out.dat.slice
  have E := Lib.hid R.out.start
  have DZ : Hid ((List.replicate n 0).length = n) := Lib.hid (by simp)
  by_cases h0 : e = 0
  · subst h0
    by_cases hlt : n ≤ xs.length
    · obtain ⟨p1, c1, e1, A1, hc1⟩ := R.out.dat.take hlt
      obtain ⟨p2, m2, c2, e2, A2⟩ := R.out.dat.drop hlt
      have T1 := Lib.hid A1
      have T2 := Lib.hid A2
      have X1 := Lib.hid e1
      have X2 := Lib.hid e2
      have IG := Lib.hid (I.out.good (Res.bg (show pTake n xs = .good (xs.take n) (xs.drop n) by unfold pTake; rw [if_pos hlt])))
      have LT : Hid ((xs.take n).length = n) := Lib.hid (by rw [List.length_take]; omega)
      have hlt' : ¬ xs.length < n := by omega
      clear A1 A2 e1 e2 I
      go_enter Try.func26, Try.ntmps26
      go_wp2_with (first
        | (refine wpList_xld E R.out.hbox 29 _ rfl rfl rfl Try.underlying29 rfl rfl ?_)
        | (refine wpList_xld E R.out.hbox 22 _ rfl rfl rfl Try.underlying22 rfl rfl ?_)
        | (refine mem_known rfl (.slice p1 n c1) _ (exec_sl rfl (by exact (run_h hc1 _).trans (by rw [X1.out]))) ?_)
        | (refine mem_known rfl (.slice p2 m2 c2) _ (exec_sl rfl (by exact (run_l hlt _).trans (by rw [X2.out]))) ?_)
        | (refine wpList_xst E R.out.hbox 22 (.tmp 44) (.tmp 42) rfl rfl rfl (v := .slice p2 m2 c2) rfl (by kernel_rfl) rfl rfl rfl (cs' := #[.slice p2 m2 c2, .int .i64 0]) rfl ?_; clear E; intro w1 E))
      go_ret
      have KT := rkeep (cs' := #[.slice p2 m2 c2, .int .i64 0]) R.out.box E.out.rbelow
      have BO := qonly_below R.out E.out.ronly
      exact QPost.of E.out (T2.out.keep BO KT (by decide)) ⟨T1.out.keep BO KT (by decide), LT.out⟩ IG.out
    · have IB := Lib.hid (I.out.bad (er := 50) (Res.bb (show pTake n xs = .bad 50 by unfold pTake; rw [if_neg hlt])) (by decide) (f (List.replicate n 0) xs))
      have hlt' : xs.length < n := by omega
      clear I
      go_enter Try.func26, Try.ntmps26
      go_wp2_with (first
        | (refine wpList_xld E R.out.hbox 29 _ rfl rfl rfl Try.underlying29 rfl rfl ?_)
        | (refine wpList_xld E R.out.hbox 22 _ rfl rfl rfl Try.underlying22 rfl rfl ?_)
        | (refine wpList_xst E R.out.hbox 29 (.tmp 22) (.const (.int .i64 50)) rfl rfl rfl (v := .int .i64 50) rfl (by kernel_rfl) rfl rfl rfl (cs' := #[.slice p xs.length c, .int .i64 50]) rfl ?_; clear E; intro w1 E)
        | (at_make; have BM := Lib.hid (And.intro E.out.ronly E.out.rbelow); refine wpList_mkz E rfl _ _ rfl n rfl rfl hn ?_; clear E; intro g2 w2 E HB N))
      go_ret
      have KT := rkeep (cs' := #[.slice p xs.length c, .int .i64 50]) R.out.box BM.out.2
      have BO := qonly_below R.out BM.out.1
      have N1 := N.out
      rw [← DZ.out] at N1
      have Q1 : QDat D w2 (.slice (some ⟨g2, 0, none⟩) n n) (List.replicate n 0) := ⟨_, g2, 0, n, by rw [DZ.out], by rw [DZ.out]; omega, by rw [DZ.out]; exact N.out.row, fun h => .inr (own_typed N.out (by rw [DZ.out] at h; exact h))⟩
      exact QPost.of E.out ((R.out.dat.keep BO KT (by decide)).below HB.out) ⟨Q1, DZ.out⟩ IB.out
  · have IB := Lib.hid (I.out.fail h0 (f (List.replicate n 0) xs))
    have h1 : (e == 0) = false := by simp; exact h0
    have h2 : (e != 0) = true := by simp; exact h0
    have H0 := Lib.hid h0
    clear I h0
    go_enter Try.func26, Try.ntmps26
    go_wp2_with (first
      | (refine wpList_xld E R.out.hbox 29 _ rfl rfl rfl Try.underlying29 rfl rfl ?_)
      | (refine wpList_xld E R.out.hbox 22 _ rfl rfl rfl Try.underlying22 rfl rfl ?_)
      | (at_make; refine wpList_mkz E rfl _ _ rfl n rfl rfl hn ?_; clear E; intro g2 w2 E HB N))
    go_ret
    have Q1 : QDat D w2 (.slice (some ⟨g2, 0, none⟩) n n) (List.replicate n 0) := ⟨_, g2, 0, n, by rw [DZ.out], by rw [DZ.out]; omega, by rw [DZ.out]; exact N.out.row, fun h => .inr (own_typed N.out (by rw [DZ.out] at h; exact h))⟩
    exact QPost.of E.out (R.out.dat.below HB.out) ⟨Q1, DZ.out⟩ IB.out
theorem qtake1 {f : List Nat → List Nat → Res γ} (R : Hid (Qd D W b u e xs)) (I : Hid (Inv whole e ((pTake 1 xs).bind f))) : Calls Try.prog 26 #[.pointer (some ⟨b, 0, none⟩), .int .i64 1] W (QPost D W b (fun w' v a => QDat D w' v a ∧ a.length = 1) whole f) := qtake_any R 1 (by omega) I
theorem qtake32 {f : List Nat → List Nat → Res γ} (R : Hid (Qd D W b u e xs)) (I : Hid (Inv whole e ((pTake 32 xs).bind f))) : Calls Try.prog 26 #[.pointer (some ⟨b, 0, none⟩), .int .i64 32] W (QPost D W b (fun w' v a => QDat D w' v a ∧ a.length = 32) whole f) := qtake_any R 32 (by omega) I
set_option maxHeartbeats 2000000 in
theorem qlow_any {f : Nat → List Nat → Res γ} (R : Hid (Qd D W b u e xs)) (m : Nat) (hm : m ≤ 8) (I : Hid (Inv whole e ((pNum m xs).bind f))) : Calls Try.prog 25 #[.pointer (some ⟨b, 0, none⟩), .int .i64 ((m : Nat) : Int)] W (QPost D W b (fun _ v a => v = .int .u64 ((a : Nat) : Int) ∧ a < 2 ^ (8 * m)) whole f) := by
  have E := Lib.hid R.out.start
  have I1 : Hid (Inv whole e ((pTake m xs).bind fun t r => f (ofBytes (lf t) m) r)) := Lib.hid (I.out.eq (Res.bind_assoc _ _ _))
  clear I
  go_enter Try.func25, Try.ntmps25
  go_wp2_with (first
    | (go_at_call 26; refine (qtake_any R m (by omega) I1).mono ?_; rintro e1 w1 ⟨v1, a1, u1, e2, xs1, rfl, hb, hq, ⟨⟨p1, g1, o1, c1, rfl, hl1, RW, hg1⟩, ha⟩, hI⟩
       (have HI := Lib.hid hI; have HQ := Lib.hid hq; replace E := Lib.hid (E.out.rcall R.out.box hb); rw [ha] at RW ⊢; have RR := Lib.hid RW; have HB := Lib.hid (isB_row (xs := a1) (by rw [ha]; exact RW)); clear hI hq hb RW hg1 hl1))
    | (go_at_call 69; refine (ref_number_any RR hm).mono ?_; rintro e2 w2 ⟨rfl, rfl⟩))
  go_ret
  exact QPost.of E.out HQ.out ⟨rfl, ofBytes_lt fun i _ => lf_lt HB.out i⟩ HI.out
theorem qlow4 {f : Nat → List Nat → Res γ} (R : Hid (Qd D W b u e xs)) (I : Hid (Inv whole e ((pNum 4 xs).bind f))) : Calls Try.prog 25 #[.pointer (some ⟨b, 0, none⟩), .int .i64 4] W (QPost D W b (fun _ v a => v = .int .u64 ((a : Nat) : Int) ∧ a < 2 ^ (8 * 4)) whole f) := qlow_any R 4 (by omega) I
theorem qlow8 {f : Nat → List Nat → Res γ} (R : Hid (Qd D W b u e xs)) (I : Hid (Inv whole e ((pNum 8 xs).bind f))) : Calls Try.prog 25 #[.pointer (some ⟨b, 0, none⟩), .int .i64 8] W (QPost D W b (fun _ v a => v = .int .u64 ((a : Nat) : Int) ∧ a < 2 ^ (8 * 8)) whole f) := qlow_any R 8 (by omega) I
end
end Go.Proofs.Ytllndneplkigpaa
