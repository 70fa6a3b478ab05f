/- Blocks whose cells are told by a function of the index. Nothing of the program's run stands here. -/
import Derived.Test.YtoopcmcmjaikhaaBase
import Derived.Deep.MidRow
namespace Go.Proofs.Ytoopcmcmjaikhaa
open Go.RowKit

/-- n cells by a function. -/
def arr (n : Nat) (f : Nat → Value) : Array Value := ((List.range n).map f).toArray
/-- The function with one value turned. -/
def upd (f : Nat → Value) (i : Nat) (v : Value) : Nat → Value := fun j => if j = i then v else f j
theorem arr_size (n : Nat) (f : Nat → Value) : (arr n f).size = n := by simp [arr]
theorem arr_get (n : Nat) (f : Nat → Value) (i : Nat) (h : i < n) : (arr n f)[i]? = some (f i) := by simp [arr, h]
theorem arr_set (n : Nat) (f : Nat → Value) (i : Nat) (v : Value) : (arr n f).setIfInBounds i v = arr n (upd f i v) := by
  apply Array.ext_getElem?
  intro j
  rw [Array.getElem?_setIfInBounds, arr_size]
  rcases Nat.lt_or_ge j n with h | h
  · rw [arr_get n _ j h, arr_get n _ j h]
    unfold upd
    by_cases e : i = j
    · subst e; simp [h]
    · rw [if_neg e, if_neg (fun q => e q.symm)]
  · rw [Array.getElem?_eq_none (by rw [arr_size]; exact h), Array.getElem?_eq_none (by rw [arr_size]; exact h)]
    split
    · rw [if_neg (by omega)]
    · rfl
theorem arr_congr {n : Nat} {f g : Nat → Value} (h : ∀ i, i < n → f i = g i) : arr n f = arr n g := by
  unfold arr
  congr 1
  exact List.map_congr_left fun i hi => h i (by simpa using hi)
theorem arr_of {n : Nat} {f : Nat → Value} {c : Array Value} (hs : c.size = n) (h : ∀ i, i < n → c[i]? = some (f i)) : c = arr n f := by
  apply Array.ext_getElem?
  intro j
  rcases Nat.lt_or_ge j n with q | q
  · rw [h j q, arr_get n f j q]
  · rw [Array.getElem?_eq_none (by omega), Array.getElem?_eq_none (by rw [arr_size]; exact q)]

/-- Block b has n cells of type T, told by f; none is frozen. -/
def HasAt (b : Nat) (T : TypeId) (n : Nat) (f : Nat → Value) (w : World) : Prop := w.heap[b]? = some (.cells (arr n f) T (0, 0))
section
variable {b n : Nat} {T : TypeId} {f g : Nat → Value} {w w' : World}
theorem HasAt.cell (h : HasAt b T n f w) (i : Nat) (hi : i < n) : w.cell? ⟨b, i, none⟩ = some (f i) := cell_of_here h i (arr_get n f i hi)
theorem HasAt.free (h : HasAt b T n f w) (i : Nat) : w.frozen? ⟨b, i, none⟩ = false := free_of_here h i
theorem HasAt.lt (h : HasAt b T n f w) : b < w.heap.size := by
  rcases Nat.lt_or_ge b w.heap.size with q | q
  · exact q
  · unfold HasAt at h; rw [Array.getElem?_eq_none q] at h; cases h
theorem HasAt.to (h : HasAt b T n f w) (e : ∀ j, j < n → f j = g j) : HasAt b T n g w := by
  unfold HasAt at *; rw [← arr_congr e]; exact h
theorem HasAt.of_heap (h : HasAt b T n f w) (e : w'.heap[b]? = w.heap[b]?) : HasAt b T n f w' := by
  unfold HasAt at *; rw [e]; exact h
theorem HasAt.drew (h : HasAt b T n f w) : HasAt b T n f w.drew := h
theorem HasAt.drewN {k : Nat} (h : HasAt b T n f w) : HasAt b T n f (w.drewN k) := h
theorem HasAt.alloc (h : HasAt b T n f w) (o : Obj) : HasAt b T n f (w.alloc o) := h.of_heap (Below.heap_alloc _ _ _ h.lt)
theorem HasAt.new (w : World) (f : Nat → Value) (n : Nat) (T : TypeId) : HasAt w.heap.size T n f (w.alloc (.cells (arr n f) T)) := here_new w _ _
theorem HasAt.other (h : HasAt b T n f w) (a : Addr) (v : Value) (ha : b ≠ a.block) : HasAt b T n f (w.setCell a v) := h.of_heap (Below.heap_setCell _ _ _ _ ha)
theorem HasAt.set (h : HasAt b T n f w) (i : Nat) (v : Value) (e : ∀ j, j < n → upd f i v j = g j) : HasAt b T n g (w.setCell ⟨b, i, none⟩ v) := by
  have h1 := (Holds.set (i := i) (v := v) (Holds.start h) rfl).here
  rw [arr_set, arr_congr e] at h1
  exact h1
theorem HasAt.below (h : HasAt b T n f w) (hb : Below w.heap.size w w') : HasAt b T n f w' := h.of_heap (hb.block b h.lt)
theorem HasAt.belowB {B : Nat} (h : HasAt b T n f w) (hb : Below B w w') (hB : b < B) : HasAt b T n f w' := h.of_heap (hb.block b hB)
theorem HasAt.only {b' : Nat} (h : HasAt b T n f w) (hb : Only b' w w') (hB : b ≠ b') : HasAt b T n f w' := h.of_heap (hb.block b h.lt hB)
/-- A whole block, loaded. -/
theorem HasAt.load {P : Program} (h : HasAt b T n f w) (ty : TypeId) (d : TypeDesc) (hu : P.underlying ty = some d) (hd : d.isRow = true) (hi : (P.info? ty).map (·.size) = some n) :
    (Instr.loadAt ty (.pointer (some ⟨b, 0, none⟩))).run P w = .ok (.agg (arr n f)) w := by
  have h1 : w.rangeAt b 0 (arr n f).toList := fun j v hj => by
    rw [Nat.zero_add]
    exact cell_of_here h j (by simpa using hj)
  have h2 := run_loadAt_mid (P := P) w b 0 ty (arr n f).toList d h1 hu hd (by rw [hi, Array.length_toList, arr_size])
  simpa using h2
end

theorem only_setRow (w : World) (b : Nat) (c : Array Value) : Only b w (w.setRow b c) :=
  ⟨rfl, rfl, rfl, by simp, fun k _ hk => setRow_other w b k c hk⟩
theorem HasAt.setRow {b n : Nat} {T : TypeId} {f : Nat → Value} {w : World} (h : HasAt b T n f w) (g : Nat → Value) : HasAt b T n g (w.setRow b (arr n g)) := setRow_heap w b _ _ T _ h

section
variable {P : Program} {ops : Array Oper} {rest : List Oper} {op : Oper} {a : Act} {w : World} {Q : Exit → Act → World → Prop}
/-- A whole block, loaded: as the walk meets it. -/
theorem wpList_load_all (hgd : op.guard = none) (ty : TypeId) (x : Operand) (ho : op.op = .load ty x) (b n : Nat) (hx : a.eval x = .pointer (some ⟨b, 0, none⟩)) (T : TypeId) (f : Nat → Value) (hg : HasAt b T n f w)
    (d : TypeDesc) (hu : P.underlying ty = some d) (hd : (match d with | .struct _ | .array _ _ => true | _ => false) = true) (hi : (P.info? ty).map (·.size) = some n)
    (h : wpList P ops Q rest (a.put op.dst (.agg (arr n f))) w) : wpList P ops Q (op :: rest) a w :=
  wpList_load_row hgd ty x ho b hx T (arr n f) (0, 0) d hg hu hd (by rw [arr_size]; exact hi) h
/-- A whole block, stored: as the walk meets it. -/
theorem wpList_store_all (hgd : op.guard = none) (ty : TypeId) (x y : Operand) (ho : op.op = .store ty x y) (b n : Nat) (hx : a.eval x = .pointer (some ⟨b, 0, none⟩)) (T : TypeId) (f g : Nat → Value) (hg : HasAt b T n f w)
    (hy : a.eval y = .agg (arr n g)) (hi : (P.info? ty).map (·.size) = some n) (h1 : ∀ i, (g i).oneCell' = true)
    (h : ∀ w', HasAt b T n g w' → Only b w w' → wpList P ops Q rest (a.put op.dst undef) w') : wpList P ops Q (op :: rest) a w := by
  refine wpList_plain hgd fun K hK => ?_
  have hall : (arr n g).all (·.oneCell') = true := Array.all_eq_true_iff_forall_mem.2 (fun v hv => by
    unfold arr at hv
    simp at hv
    obtain ⟨i, _, rfl⟩ := hv
    exact h1 i)
  have hrun := run_storeVar_row (P := P) w b T ty (arr n f) (arr n g) hg (by rw [arr_size]; exact hi) (by rw [arr_size, arr_size]) hall
  unfold Oper.wp execOp
  simp only [ho, hx, hy, Instr.storeAt, Instr.sureAddr, Sem.run_bind, Sem.run_pure, Result.andThen_ok, hrun]
  exact hK _ _ (h _ (hg.setRow g) (only_setRow _ _ _))
end
end Go.Proofs.Ytoopcmcmjaikhaa

