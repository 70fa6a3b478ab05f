/- Texts of ours, merged: Base, Arr, Mem, Row, Cl, Wk, Mo, Hm, Gd, Vr, Ar, Mk, Tb, Bs, Op. -/
import Derived.Test.YtghjgkgfpblijaaDoorRows
import Derived.WalkKit
import Derived.WalkSpells
import Derived.Lib.Hide
import Derived.Deep.QuietTactic
import Derived.Deep.MidRow
import Derived.BigFrame
import Derived.OwnWalk
import Derived.Deep.WholeRow
import Derived.Deep.RegionHeld3
import Derived.Lib.QuietBelow
import Derived.BigQuiet
import Derived.Laws.BytesArg
import Derived.Laws.BytesString
import Derived.Laws.AppendOwnNone
import Derived.Laws.CopyOwn
import Derived.Great.BuildSlice
import Derived.Deep.DeepCutAuto
import Derived.Deep.LoopGhost
import Derived.ChangeKeysEq
import Derived.StillTailTactics
import Derived.SizedLaws
import Derived.OpenShut
import Derived.ProofKit
import Derived.Below
import Derived.ShutString
import Derived.ChangeOld
section
namespace Go.Proofs.YtghjgkgfpblijaaDoor
open Go.RowKit Go.Lib

/-- Of all blocks that w had none but b may have turned; none has gone. -/
structure Only (b : Nat) (w w' : World) : Prop where
  os : w'.os = w.os
  tape : w'.tape = w.tape
  output : w'.output = w.output
  size : w.heap.size ≤ w'.heap.size
  block : ∀ k, k < w.heap.size → k ≠ b → w'.heap[k]? = w.heap[k]?

theorem Only.refl (b : Nat) (w : World) : Only b w w := ⟨rfl, rfl, rfl, Nat.le_refl _, fun _ _ _ => rfl⟩
theorem Only.trans {b : Nat} {x y z : World} (h : Only b x y) (k : Only b y z) : Only b x z :=
  ⟨k.os.trans h.os, k.tape.trans h.tape, k.output.trans h.output, Nat.le_trans h.size k.size, fun i hi hb => (k.block i (Nat.lt_of_lt_of_le hi h.size) hb).trans (h.block i hi hb)⟩
theorem Only.drew {b : Nat} {w w' : World} (h : Only b w w') : Only b w w'.drew := ⟨h.os, h.tape, h.output, h.size, h.block⟩
theorem Only.drewN {b n : Nat} {w w' : World} (h : Only b w w') : Only b w (w'.drewN n) := ⟨h.os, h.tape, h.output, h.size, h.block⟩
theorem Only.setCell {b : Nat} {w w' : World} (h : Only b w w') (p : Addr) (hp : p.block = b) (u : Value) : Only b w (w'.setCell p u) :=
  h.trans ⟨rfl, rfl, rfl, by simp [World.setCell], fun k _ hk => Below.heap_setCell _ _ _ _ (by omega)⟩
theorem Only.alloc {b : Nat} {w w' : World} (h : Only b w w') (o : Obj) : Only b w (w'.alloc o) :=
  h.trans ⟨rfl, rfl, rfl, by simp, fun k hk _ => Below.heap_alloc _ _ _ hk⟩
/-- A write to a block that w did not have. -/
theorem Only.setNew {b : Nat} {w w' : World} (h : Only b w w') (p : Addr) (hp : w.heap.size ≤ p.block) (u : Value) : Only b w (w'.setCell p u) :=
  ⟨h.os, h.tape, h.output, by simpa [World.setCell] using h.size, fun k hk hb => (Below.heap_setCell _ _ _ _ (by omega)).trans (h.block k hk hb)⟩
theorem Only.below {b B : Nat} {w w' : World} (h : Only b w w') (hB : B ≤ b) (hs : B ≤ w.heap.size) : Below B w w' :=
  ⟨h.os, h.tape, h.output, h.size, fun k hk => h.block k (by omega) (by omega)⟩
theorem Only.heap {b k : Nat} {w w' : World} (h : Only b w w') {o : Obj} (hk : k ≠ b) (ho : w.heap[k]? = some o) : w'.heap[k]? = some o := by
  have hs : k < w.heap.size := by
    rcases Nat.lt_or_ge k w.heap.size with q | q
    · exact q
    · rw [Array.getElem?_eq_none q] at ho; cases ho
  rw [h.block k hs hk, ho]
theorem cell_lt {w : World} {p : Addr} {v : Value} (h : w.cell? p = some v) : p.block < w.heap.size := World.block_lt_of_cell? _ _ h
theorem Only.cell {b : Nat} {w w' : World} (h : Only b w w') {p : Addr} {v : Value} (hp : p.block ≠ b) (hv : w.cell? p = some v) : w'.cell? p = some v := by
  rw [World.cell?_of_block (w := w) (h.block p.block (cell_lt hv) hp), hv]
theorem cell_alloc {w : World} {o : Obj} {p : Addr} {v : Value} (hv : w.cell? p = some v) : (w.alloc o).cell? p = some v := by
  rw [World.cell?_of_block (w := w) (Below.heap_alloc _ _ _ (cell_lt hv)), hv]
theorem here_new (w : World) (c : Array Value) (T : TypeId) : (w.alloc (.cells c T)).heap[w.heap.size]? = some (.cells c T (0, 0)) := by
  show (w.heap.push _)[w.heap.size]? = _
  simp
theorem below_new (w : World) (o : Obj) : Below w.heap.size w (w.alloc o) := (Below.refl _ _).alloc (Nat.le_refl _) _

/-- Block b holds the cells c, of type T, none of them frozen; what else w had is as it was. -/
structure Holds (b : Nat) (T : TypeId) (c : Array Value) (w w' : World) : Prop where
  only : Only b w w'
  here : w'.heap[b]? = some (.cells c T (0, 0))

theorem Holds.start {b : Nat} {T : TypeId} {c : Array Value} {w : World} (h : w.heap[b]? = some (.cells c T (0, 0))) : Holds b T c w w := ⟨Only.refl _ _, h⟩
theorem cell_of_here {b : Nat} {T : TypeId} {c : Array Value} {w : World} (h : w.heap[b]? = some (.cells c T (0, 0))) (i : Nat) {v : Value} (hv : c[i]? = some v) : w.cell? ⟨b, i, none⟩ = some v := by
  simp [World.cell?, h, hv]
theorem free_of_here {b : Nat} {T : TypeId} {c : Array Value} {w : World} (h : w.heap[b]? = some (.cells c T (0, 0))) (i : Nat) : w.frozen? ⟨b, i, none⟩ = false := by
  simp [World.frozen?, h]
theorem Holds.cell {b : Nat} {T : TypeId} {c : Array Value} {w w' : World} (h : Holds b T c w w') (i : Nat) {v : Value} (hv : c[i]? = some v) : w'.cell? ⟨b, i, none⟩ = some v := cell_of_here h.here i hv
theorem Holds.free {b : Nat} {T : TypeId} {c : Array Value} {w w' : World} (h : Holds b T c w w') (i : Nat) : w'.frozen? ⟨b, i, none⟩ = false := free_of_here h.here i
theorem Holds.lt {b : Nat} {T : TypeId} {c : Array Value} {w w' : World} (h : Holds b T c w w') : b < w'.heap.size := by
  rcases Nat.lt_or_ge b w'.heap.size with q | q
  · exact q
  · have := h.here; rw [Array.getElem?_eq_none q] at this; cases this
theorem Holds.drew {b : Nat} {T : TypeId} {c : Array Value} {w w' : World} (h : Holds b T c w w') : Holds b T c w w'.drew := ⟨h.only.drew, h.here⟩
theorem Holds.drewN {b n : Nat} {T : TypeId} {c : Array Value} {w w' : World} (h : Holds b T c w w') : Holds b T c w (w'.drewN n) := ⟨h.only.drewN, h.here⟩
theorem Holds.set {b i : Nat} {T : TypeId} {c c' : Array Value} {w w' : World} {v : Value} (h : Holds b T c w w') (e : c.setIfInBounds i v = c') : Holds b T c' w (w'.setCell ⟨b, i, none⟩ v) := by
  refine ⟨h.only.setCell _ rfl _, ?_⟩
  simp only [World.setCell, Array.getElem?_modify]
  rw [if_pos trivial, h.here]
  simp [e]
theorem Holds.alloc {b : Nat} {T : TypeId} {c : Array Value} {w w' : World} (h : Holds b T c w w') (o : Obj) : Holds b T c w (w'.alloc o) :=
  ⟨h.only.alloc _, by rw [Below.heap_alloc _ _ _ h.lt]; exact h.here⟩
theorem Holds.trans {b : Nat} {T : TypeId} {c c' : Array Value} {x y z : World} (h : Holds b T c x y) (k : Holds b T c' y z) : Holds b T c' x z := ⟨h.only.trans k.only, k.here⟩
end Go.Proofs.YtghjgkgfpblijaaDoor
end
section
namespace Go.Proofs.YtghjgkgfpblijaaDoor
open Go.RowKit

/-- n cells by a function. -/
def arr (n : Nat) (f : Nat → Value) : Array Value := ((List.range n).map f).toArray
/-- The function with one value turned. -/
def upd (f : Nat → Value) (i : Nat) (v : Value) : Nat → Value := fun j => if j = i then v else f j
theorem arr_size (n : Nat) (f : Nat → Value) : (arr n f).size = n := by simp [arr]
theorem arr_get (n : Nat) (f : Nat → Value) (i : Nat) (h : i < n) : (arr n f)[i]? = some (f i) := by simp [arr, h]
theorem arr_set (n : Nat) (f : Nat → Value) (i : Nat) (v : Value) : (arr n f).setIfInBounds i v = arr n (upd f i v) := by
  apply Array.ext_getElem?
  intro j
  rw [Array.getElem?_setIfInBounds, arr_size]
  rcases Nat.lt_or_ge j n with h | h
  · rw [arr_get n _ j h, arr_get n _ j h]
    unfold upd
    by_cases e : i = j
    · subst e; simp [h]
    · rw [if_neg e, if_neg (fun q => e q.symm)]
  · rw [Array.getElem?_eq_none (by rw [arr_size]; exact h), Array.getElem?_eq_none (by rw [arr_size]; exact h)]
    split
    · rw [if_neg (by omega)]
    · rfl
theorem arr_congr {n : Nat} {f g : Nat → Value} (h : ∀ i, i < n → f i = g i) : arr n f = arr n g := by
  unfold arr
  congr 1
  exact List.map_congr_left fun i hi => h i (by simpa using hi)
theorem arr_of {n : Nat} {f : Nat → Value} {c : Array Value} (hs : c.size = n) (h : ∀ i, i < n → c[i]? = some (f i)) : c = arr n f := by
  apply Array.ext_getElem?
  intro j
  rcases Nat.lt_or_ge j n with q | q
  · rw [h j q, arr_get n f j q]
  · rw [Array.getElem?_eq_none (by omega), Array.getElem?_eq_none (by rw [arr_size]; exact q)]

/-- Block b has n cells of type T, told by f; none is frozen. -/
def HasAt (b : Nat) (T : TypeId) (n : Nat) (f : Nat → Value) (w : World) : Prop := w.heap[b]? = some (.cells (arr n f) T (0, 0))
section
variable {b n : Nat} {T : TypeId} {f g : Nat → Value} {w w' : World}
theorem HasAt.cell (h : HasAt b T n f w) (i : Nat) (hi : i < n) : w.cell? ⟨b, i, none⟩ = some (f i) := cell_of_here h i (arr_get n f i hi)
theorem HasAt.free (h : HasAt b T n f w) (i : Nat) : w.frozen? ⟨b, i, none⟩ = false := free_of_here h i
theorem HasAt.lt (h : HasAt b T n f w) : b < w.heap.size := by
  rcases Nat.lt_or_ge b w.heap.size with q | q
  · exact q
  · unfold HasAt at h; rw [Array.getElem?_eq_none q] at h; cases h
theorem HasAt.to (h : HasAt b T n f w) (e : ∀ j, j < n → f j = g j) : HasAt b T n g w := by
  unfold HasAt at *; rw [← arr_congr e]; exact h
theorem HasAt.of_heap (h : HasAt b T n f w) (e : w'.heap[b]? = w.heap[b]?) : HasAt b T n f w' := by
  unfold HasAt at *; rw [e]; exact h
theorem HasAt.drew (h : HasAt b T n f w) : HasAt b T n f w.drew := h
theorem HasAt.drewN {k : Nat} (h : HasAt b T n f w) : HasAt b T n f (w.drewN k) := h
theorem HasAt.alloc (h : HasAt b T n f w) (o : Obj) : HasAt b T n f (w.alloc o) := h.of_heap (Below.heap_alloc _ _ _ h.lt)
theorem HasAt.new (w : World) (f : Nat → Value) (n : Nat) (T : TypeId) : HasAt w.heap.size T n f (w.alloc (.cells (arr n f) T)) := here_new w _ _
theorem HasAt.other (h : HasAt b T n f w) (a : Addr) (v : Value) (ha : b ≠ a.block) : HasAt b T n f (w.setCell a v) := h.of_heap (Below.heap_setCell _ _ _ _ ha)
theorem HasAt.set (h : HasAt b T n f w) (i : Nat) (v : Value) (e : ∀ j, j < n → upd f i v j = g j) : HasAt b T n g (w.setCell ⟨b, i, none⟩ v) := by
  have h1 := (Holds.set (i := i) (v := v) (Holds.start h) rfl).here
  rw [arr_set, arr_congr e] at h1
  exact h1
theorem HasAt.below (h : HasAt b T n f w) (hb : Below w.heap.size w w') : HasAt b T n f w' := h.of_heap (hb.block b h.lt)
theorem HasAt.belowB {B : Nat} (h : HasAt b T n f w) (hb : Below B w w') (hB : b < B) : HasAt b T n f w' := h.of_heap (hb.block b hB)
theorem HasAt.only {b' : Nat} (h : HasAt b T n f w) (hb : Only b' w w') (hB : b ≠ b') : HasAt b T n f w' := h.of_heap (hb.block b h.lt hB)
/-- A whole block, loaded. -/
theorem HasAt.load {P : Program} (h : HasAt b T n f w) (ty : TypeId) (d : TypeDesc) (hu : P.underlying ty = some d) (hd : d.isRow = true) (hi : (P.info? ty).map (·.size) = some n) :
    (Instr.loadAt ty (.pointer (some ⟨b, 0, none⟩))).run P w = .ok (.agg (arr n f)) w := by
  have h1 : w.rangeAt b 0 (arr n f).toList := fun j v hj => by
    rw [Nat.zero_add]
    exact cell_of_here h j (by simpa using hj)
  have h2 := run_loadAt_mid (P := P) w b 0 ty (arr n f).toList d h1 hu hd (by rw [hi, Array.length_toList, arr_size])
  simpa using h2
end

theorem only_setRow (w : World) (b : Nat) (c : Array Value) : Only b w (w.setRow b c) :=
  ⟨rfl, rfl, rfl, by simp, fun k _ hk => setRow_other w b k c hk⟩
theorem HasAt.setRow {b n : Nat} {T : TypeId} {f : Nat → Value} {w : World} (h : HasAt b T n f w) (g : Nat → Value) : HasAt b T n g (w.setRow b (arr n g)) := setRow_heap w b _ _ T _ h

section
variable {P : Program} {ops : Array Oper} {rest : List Oper} {op : Oper} {a : Act} {w : World} {Q : Exit → Act → World → Prop}
/-- A whole block, loaded: as the walk meets it. -/
theorem wpList_load_all (hgd : op.guard = none) (ty : TypeId) (x : Operand) (ho : op.op = .load ty x) (b n : Nat) (hx : a.eval x = .pointer (some ⟨b, 0, none⟩)) (T : TypeId) (f : Nat → Value) (hg : HasAt b T n f w)
    (d : TypeDesc) (hu : P.underlying ty = some d) (hd : (match d with | .struct _ | .array _ _ => true | _ => false) = true) (hi : (P.info? ty).map (·.size) = some n)
    (h : wpList P ops Q rest (a.put op.dst (.agg (arr n f))) w) : wpList P ops Q (op :: rest) a w :=
  wpList_load_row hgd ty x ho b hx T (arr n f) (0, 0) d hg hu hd (by rw [arr_size]; exact hi) h
/-- A whole block, stored: as the walk meets it. -/
theorem wpList_store_all (hgd : op.guard = none) (ty : TypeId) (x y : Operand) (ho : op.op = .store ty x y) (b n : Nat) (hx : a.eval x = .pointer (some ⟨b, 0, none⟩)) (T : TypeId) (f g : Nat → Value) (hg : HasAt b T n f w)
    (hy : a.eval y = .agg (arr n g)) (hi : (P.info? ty).map (·.size) = some n) (h1 : ∀ i, (g i).oneCell' = true)
    (h : ∀ w', HasAt b T n g w' → Only b w w' → wpList P ops Q rest (a.put op.dst undef) w') : wpList P ops Q (op :: rest) a w := by
  refine wpList_plain hgd fun K hK => ?_
  have hall : (arr n g).all (·.oneCell') = true := Array.all_eq_true_iff_forall_mem.2 (fun v hv => by
    unfold arr at hv
    simp at hv
    obtain ⟨i, _, rfl⟩ := hv
    exact h1 i)
  have hrun := run_storeVar_row (P := P) w b T ty (arr n f) (arr n g) hg (by rw [arr_size]; exact hi) (by rw [arr_size, arr_size]) hall
  unfold Oper.wp execOp
  simp only [ho, hx, hy, Instr.storeAt, Instr.sureAddr, Sem.run_bind, Sem.run_pure, Result.andThen_ok, hrun]
  exact hK _ _ (h _ (hg.setRow g) (only_setRow _ _ _))
end
end Go.Proofs.YtghjgkgfpblijaaDoor
end
section

section
namespace Go.Proofs.YtghjgkgfpblijaaDoor
open Go.RowKit Go.Lib
/-- A whole row, loaded in a quiet region. -/
theorem wpQuiet_load_all {P : Program} {ops : Array Oper} {C : World → Prop} {Q : Act → Prop} {a : Act} {o : Oper} {rest : List Oper} (ty : TypeId) (x : Operand) (ho : o.op = .load ty x) (hw : Region.wanted o (yielded ops a.tmps) = true) (b : Nat)
    (hx : a.eval x = .pointer (some ⟨b, 0, none⟩)) (v : Value) (hl : ∀ w, C w → (Instr.loadAt ty (.pointer (some ⟨b, 0, none⟩))).run P w = .ok v w) (h : wpQuiet P ops C Q rest (a.put o.dst v)) : wpQuiet P ops C Q (o :: rest) a := by
  show if _ then _ else _
  rw [if_pos hw]
  refine ⟨v, fun w hC => ?_, h⟩
  unfold Oper.quietAt execOp
  simp only [ho, hx, Sem.run_bind, Sem.run_pure, hl w hC, Result.andThen_ok]
  exact ⟨rfl, rfl⟩
end Go.Proofs.YtghjgkgfpblijaaDoor
end
section
set_option linter.unusedSimpArgs false
namespace Go.Proofs.YtghjgkgfpblijaaDoor
open Go.RowKit Go.Lib

/-- New blocks, each with its type and its cells, each apart from the others; what w0 had is as it was. -/
structure Mem (w0 : World) (l : List (Nat × TypeId × Array Value)) (w : World) : Prop where
  below : Below w0.heap.size w0 w
  has : ∀ p, p ∈ l → w.heap[p.1]? = some (.cells p.2.2 p.2.1 (0, 0))
  nd : (l.map (·.1)).Nodup
  ge : ∀ p, p ∈ l → w0.heap.size ≤ p.1
section
variable {w0 w w' : World} {l : List (Nat × TypeId × Array Value)} {b T : Nat} {c c' : Array Value}
theorem heap_lt {o : Obj} (h : w.heap[b]? = some o) : b < w.heap.size := by
  rcases Nat.lt_or_ge b w.heap.size with q | q
  · exact q
  · rw [Array.getElem?_eq_none q] at h; cases h
theorem Mem.nil (w : World) : Mem w [] w := ⟨Below.refl _ _, fun _ h => (by cases h), List.nodup_nil, fun _ h => by cases h⟩
theorem Mem.get (E : Mem w0 l w) (h : (b, T, c) ∈ l) : w.heap[b]? = some (.cells c T (0, 0)) := E.has _ h
theorem Mem.call (E : Mem w0 l w) (hb : Below w.heap.size w w') : Mem w0 l w' :=
  ⟨E.below.trans (hb.mono E.below.size), fun p hp => (hb.block p.1 (heap_lt (E.has p hp))).trans (E.has p hp), E.nd, E.ge⟩
theorem Mem.drew (E : Mem w0 l w) : Mem w0 l w.drew := ⟨E.below.drew, E.has, E.nd, E.ge⟩
theorem Mem.drewN {n : Nat} (E : Mem w0 l w) : Mem w0 l (w.drewN n) := ⟨⟨E.below.os, E.below.tape, E.below.output, E.below.size, E.below.block⟩, E.has, E.nd, E.ge⟩
theorem Mem.new (E : Mem w0 l w) (T : TypeId) (c : Array Value) : Mem w0 ((w.heap.size, T, c) :: l) (w.alloc (.cells c T)) :=
  ⟨E.below.trans ((below_new w (.cells c T)).mono E.below.size), fun p hp => by
    rcases List.mem_cons.1 hp with rfl | hp
    · exact here_new w c T
    · rw [Below.heap_alloc _ _ _ (heap_lt (E.has p hp))]; exact E.has p hp, by
    rw [List.map_cons, List.nodup_cons]
    refine ⟨fun h => ?_, E.nd⟩
    obtain ⟨p, hp, he⟩ := List.mem_map.1 h
    exact Nat.ne_of_lt (heap_lt (E.has p hp)) he, fun p hp => by
    rcases List.mem_cons.1 hp with rfl | hp
    · exact E.below.size
    · exact E.ge p hp⟩
theorem Mem.tail {x : Nat × TypeId × Array Value} (E : Mem w0 (x :: l) w) : Mem w0 l w := ⟨E.below, fun p h => E.has p (List.mem_cons_of_mem _ h), (List.nodup_cons.1 E.nd).2, fun p hp => E.ge p (List.mem_cons_of_mem _ hp)⟩
theorem mem_set_map {i : Nat} (hi : l[i]? = some (b, T, c)) : (l.set i (b, T, c')).map (·.1) = l.map (·.1) := by
  apply List.ext_getElem?
  intro j
  simp only [List.getElem?_map, List.getElem?_set]
  by_cases h : i = j
  · subst h
    obtain ⟨hl, hv⟩ := List.getElem?_eq_some_iff.1 hi
    simp [hl, hv]
  · simp [h]
/-- One block turned. -/
theorem Mem.turn (E : Mem w0 l w) {i : Nat} (hi : l[i]? = some (b, T, c)) (hh : w'.heap[b]? = some (.cells c' T (0, 0))) (ho : Only b w w') : Mem w0 (l.set i (b, T, c')) w' := by
  have hp := List.mem_of_getElem? hi
  have hge := E.ge _ hp
  have e := mem_set_map (c' := c') hi
  have key : ∀ (j : Nat) (x : Nat × TypeId × Array Value), l[j]? = some x → j ≠ i → x.1 ≠ b := fun j x hj hji he => by
    have hn := E.nd
    have h1 : (l.map (·.1))[j]? = some b := by rw [List.getElem?_map, hj]; simp [he]
    have h2 : (l.map (·.1))[i]? = some b := by rw [List.getElem?_map, hi]; rfl
    exact hji ((List.getElem?_inj (List.getElem?_eq_some_iff.1 h1).1 hn).1 (h1.trans h2.symm))
  refine ⟨E.below.trans (ho.below hge E.below.size), fun x hx => ?_, by rw [e]; exact E.nd, fun x hx => ?_⟩
  · obtain ⟨j, hj⟩ := List.mem_iff_getElem?.1 hx
    rw [List.getElem?_set] at hj
    by_cases h : i = j
    · subst h
      rw [if_pos rfl, if_pos (List.getElem?_eq_some_iff.1 hi).1] at hj
      obtain rfl := Option.some.inj hj
      exact hh
    · rw [if_neg h] at hj
      exact ho.heap (key j x hj (Ne.symm h)) (E.has x (List.mem_of_getElem? hj))
  · obtain ⟨j, hj⟩ := List.mem_iff_getElem?.1 hx
    rw [List.getElem?_set] at hj
    by_cases h : i = j
    · subst h
      rw [if_pos rfl, if_pos (List.getElem?_eq_some_iff.1 hi).1] at hj
      obtain rfl := Option.some.inj hj
      exact hge
    · rw [if_neg h] at hj
      exact E.ge x (List.mem_of_getElem? hj)
theorem Mem.sub {l' : List (Nat × TypeId × Array Value)} (E : Mem w0 l w) (h : l'.Sublist l) : Mem w0 l' w :=
  ⟨E.below, fun p hp => E.has p (h.subset hp), E.nd.sublist (h.map _), fun p hp => E.ge p (h.subset hp)⟩
/-- A cell of an old block is as it was. -/
theorem Mem.old (E : Mem w0 l w) {a : Addr} (h : a.block < w0.heap.size) : w.cell? a = w0.cell? a := E.below.cell h
end

section
variable {P : Program} {K : Act → World → Prop} {Q : Exit → Act → World → Prop} {op : Oper} {a : Act} {w w0 : World} {l : List (Nat × TypeId × Array Value)}
/-- An operation whose run is known. -/
theorem mo_known (v : Value) (w' : World) (hrun : (execOp a.eval op).run P w = .ok (.value v) w') (h : K (a.put op.dst v) w') : op.wp P a w K Q := by
  unfold Oper.wp
  rw [hrun, Oper.upon_value]
  exact h
theorem mo_alloc (E : Hid (Mem w0 l w)) (T : TypeId) (ho : op.op = .alloc T) {z : Value} {n : Nat} (hz : (P.info? T).map (fun i => (i.zero, i.size)) = some (some z, n))
    (h : ∀ b w', Hid (Mem w0 ((b, T, z.cells) :: l) w') → K (a.put op.dst (.pointer (some ⟨b, 0, none⟩))) w') : op.wp P a w K Q := by
  refine mo_known (.pointer (some ⟨w.heap.size, 0, none⟩)) (w.alloc (.cells z.cells T)) ?_ (h _ _ (Lib.hid (E.out.new T _)))
  unfold execOp
  simp only [ho, Sem.run_bind, Instr.alloc, (zero_of_info hz).1, Result.andThen_ok]
  rfl
theorem mo_box (E : Hid (Mem w0 l w)) (T : TypeId) (x : Operand) (ho : op.op = .box T x) {v : Value} (hx : a.eval x = v) {c : Array Value} (hc : v.cells = c)
    (h : ∀ b w', Hid (Mem w0 ((b, T, c) :: l) w') → K (a.put op.dst (.pointer (some ⟨b, 0, none⟩))) w') : op.wp P a w K Q := by
  refine mo_known (.pointer (some ⟨w.heap.size, 0, none⟩)) (w.alloc (.cells c T)) ?_ (h _ _ (Lib.hid (E.out.new T _)))
  unfold execOp
  subst hx hc
  simp only [ho, Sem.run_bind, Instr.box]
  rfl
theorem range_all {b T : Nat} {c : Array Value} (hg : w.heap[b]? = some (.cells c T (0, 0))) : w.rangeAt b 0 c.toList := fun j v hj => by
  rw [Nat.zero_add]
  exact cell_of_here hg j (by simpa using hj)
/-- A row from offset o on. -/
theorem mo_load_row (E : Hid (Mem w0 l w)) (ty : TypeId) (x : Operand) (ho : op.op = .load ty x) {b T : Nat} {c : Array Value} (hx : a.eval x = .pointer (some ⟨b, 0, none⟩)) (hm : (b, T, c) ∈ l)
    {d : TypeDesc} (hu : P.underlying ty = some d) (hd : d.isRow = true) (hi : (P.info? ty).map (·.size) = some c.size)
    (h : K (a.put op.dst (.agg c)) w) : op.wp P a w K Q := by
  have e := wp_load_mid (P := P) (K := K) (Q := Q) ty x ho b 0 hx c.toList d (range_all (E.out.get hm)) hu hd (by rw [hi, Array.length_toList])
  simpa using e (by simpa using h)
theorem run_load_one {ty : TypeId} {d : TypeDesc} (hu : P.underlying ty = some d) (hd : d.isRow = false) {p : Addr} {v : Value} (hc : w.cell? p = some v) : (Instr.loadAt ty (.pointer (some p))).run P w = .ok v w := by
  have hagg : (isAgg ty).run P w = .ok false w := by
    unfold isAgg
    rw [Sem.run_bind, run_underlying hu w]
    cases d <;> simp_all
  simp [Instr.loadAt, Instr.sureAddr, loadVar, Sem.run_bind, hagg, go_sem, hc]
/-- One cell. -/
theorem mo_load_cell (E : Hid (Mem w0 l w)) (ty : TypeId) (x : Operand) (ho : op.op = .load ty x) {b T j : Nat} {c : Array Value} (hx : a.eval x = .pointer (some ⟨b, j, none⟩)) (hm : (b, T, c) ∈ l)
    {d : TypeDesc} (hu : P.underlying ty = some d) (hd : d.isRow = false) {v : Value} (hv : c[j]? = some v)
    (h : K (a.put op.dst v) w) : op.wp P a w K Q := by
  refine mo_known v w ?_ h
  unfold execOp
  simp only [ho, hx, Sem.run_bind, run_load_one hu hd (cell_of_here (E.out.get hm) j hv), Result.andThen_ok]
  rfl
theorem mo_store_row (i : Nat) (E : Hid (Mem w0 l w)) (ty : TypeId) (x y : Operand) (ho : op.op = .store ty x y) {b T : Nat} {c c' : Array Value} (hx : a.eval x = .pointer (some ⟨b, 0, none⟩)) (hy : a.eval y = .agg c') (hi : l[i]? = some (b, T, c))
    (hs : (P.info? ty).map (·.size) = some c'.size) (hl : c.size = c'.size) (h1 : c'.all (·.oneCell') = true)
    (h : ∀ w', Hid (Mem w0 (l.set i (b, T, c')) w') → K (a.put op.dst undef) w') : op.wp P a w K Q := by
  have hg := E.out.get (List.mem_of_getElem? hi)
  have ho' : Only b w (w.setRow b c') := ⟨rfl, rfl, rfl, by simp, fun k _ hk => setRow_other w b k c' hk⟩
  exact wp_store_row ty x y ho b c' hx hy T c hg hs hl h1 (h _ (Lib.hid (E.out.turn hi (setRow_heap w b c c' T _ hg) ho')))
theorem run_store_one {ty : TypeId} (hs : (P.info? ty).map (·.size) = some 1) {p : Addr} {v u : Value} (h1 : v.cells = #[v]) (h2 : v.oneCell' = true) (hc : w.cell? p = some u) (hf : w.frozen? p = false) :
    (Instr.storeAt ty (.pointer (some p)) v).run P w = .ok () (w.setCell p v) := by
  cases hq : P.info? ty with
  | none => simp [hq] at hs
  | some i =>
    have hi : i.size = 1 := by simpa [hq] using hs
    simp only [Instr.storeAt, Instr.sureAddr, Sem.run_bind, Sem.run_pure, Result.andThen_ok, storeVar, h1]
    simp [sizeOf, typeInfo, hq, hi, storeCells, go_sem, hc, hf, Addr.add, run_store P w p v .plain h2, stored]
theorem mo_store_cell (i : Nat) (E : Hid (Mem w0 l w)) (ty : TypeId) (x y : Operand) (ho : op.op = .store ty x y) {b T j : Nat} {c c' : Array Value} {v u : Value} (hx : a.eval x = .pointer (some ⟨b, j, none⟩)) (hy : a.eval y = v) (hi : l[i]? = some (b, T, c))
    (hs : (P.info? ty).map (·.size) = some 1) (h1 : v.cells = #[v]) (h2 : v.oneCell' = true) (hu : c[j]? = some u) (hc : c.setIfInBounds j v = c')
    (h : ∀ w', Hid (Mem w0 (l.set i (b, T, c')) w') → K (a.put op.dst undef) w') : op.wp P a w K Q := by
  have hg := E.out.get (List.mem_of_getElem? hi)
  have hH : Holds b T c' w (w.setCell ⟨b, j, none⟩ v) := (Holds.start hg).set hc
  unfold Oper.wp execOp
  simp only [ho, hx, hy, Sem.run_bind, Sem.run_pure, run_store_one hs h1 h2 (cell_of_here hg j hu) (free_of_here hg j), Result.andThen_ok]
  exact h _ (Lib.hid (E.out.turn hi hH.here hH.only))
end

section
variable {P : Program} {ops : Array Oper} {rest : List Oper} {Q : Exit → Act → World → Prop} {op : Oper} {a : Act} {w w0 : World} {l : List (Nat × TypeId × Array Value)}
theorem mem_known (hg : op.guard = none) (v : Value) (w' : World) (hrun : (execOp a.eval op).run P w = .ok (.value v) w') (h : wpList P ops Q rest (a.put op.dst v) w') : wpList P ops Q (op :: rest) a w :=
  wpList_plain hg fun _ hK => mo_known v w' hrun (hK _ _ h)
theorem mem_alloc (E : Hid (Mem w0 l w)) (T : TypeId) (hg : op.guard = none) (ho : op.op = .alloc T) {z : Value} {n : Nat} (hz : (P.info? T).map (fun i => (i.zero, i.size)) = some (some z, n))
    (h : ∀ b w', Hid (Mem w0 ((b, T, z.cells) :: l) w') → wpList P ops Q rest (a.put op.dst (.pointer (some ⟨b, 0, none⟩))) w') : wpList P ops Q (op :: rest) a w :=
  wpList_plain hg fun _ hK => mo_alloc E T ho hz fun b w' E' => hK _ _ (h b w' E')
theorem mem_box (E : Hid (Mem w0 l w)) (T : TypeId) (hg : op.guard = none) (x : Operand) (ho : op.op = .box T x) {v : Value} (hx : a.eval x = v) {c : Array Value} (hc : v.cells = c)
    (h : ∀ b w', Hid (Mem w0 ((b, T, c) :: l) w') → wpList P ops Q rest (a.put op.dst (.pointer (some ⟨b, 0, none⟩))) w') : wpList P ops Q (op :: rest) a w :=
  wpList_plain hg fun _ hK => mo_box E T x ho hx hc fun b w' E' => hK _ _ (h b w' E')
theorem mem_load_row (E : Hid (Mem w0 l w)) (ty : TypeId) (hw : Region.wanted op (yielded ops a.tmps) = true) (x : Operand) (ho : op.op = .load ty x) {b T : Nat} {c : Array Value} (hx : a.eval x = .pointer (some ⟨b, 0, none⟩)) (hm : (b, T, c) ∈ l)
    {d : TypeDesc} (hu : P.underlying ty = some d) (hd : d.isRow = true) (hi : (P.info? ty).map (·.size) = some c.size)
    (h : wpList P ops Q rest (a.put op.dst (.agg c)) w) : wpList P ops Q (op :: rest) a w :=
  BigFrame.wpList_want hw fun _ hK => mo_load_row E ty x ho hx hm hu hd hi (hK _ _ h)
theorem mem_load_cell (E : Hid (Mem w0 l w)) (ty : TypeId) (hw : Region.wanted op (yielded ops a.tmps) = true) (x : Operand) (ho : op.op = .load ty x) {b T j : Nat} {c : Array Value} (hx : a.eval x = .pointer (some ⟨b, j, none⟩)) (hm : (b, T, c) ∈ l)
    {d : TypeDesc} (hu : P.underlying ty = some d) (hd : d.isRow = false) {v : Value} (hv : c[j]? = some v)
    (h : wpList P ops Q rest (a.put op.dst v) w) : wpList P ops Q (op :: rest) a w :=
  BigFrame.wpList_want hw fun _ hK => mo_load_cell E ty x ho hx hm hu hd hv (hK _ _ h)
theorem mem_store_row (i : Nat) (E : Hid (Mem w0 l w)) (ty : TypeId) (hg : op.guard = none) (x y : Operand) (ho : op.op = .store ty x y) {b T : Nat} {c c' : Array Value} (hx : a.eval x = .pointer (some ⟨b, 0, none⟩)) (hy : a.eval y = .agg c') (hi : l[i]? = some (b, T, c))
    (hs : (P.info? ty).map (·.size) = some c'.size) (hl : c.size = c'.size) (h1 : c'.all (·.oneCell') = true)
    (h : ∀ w', Hid (Mem w0 (l.set i (b, T, c')) w') → wpList P ops Q rest (a.put op.dst undef) w') : wpList P ops Q (op :: rest) a w :=
  wpList_plain hg fun _ hK => mo_store_row i E ty x y ho hx hy hi hs hl h1 fun w' E' => hK _ _ (h w' E')
theorem mem_store_cell (i : Nat) (E : Hid (Mem w0 l w)) (ty : TypeId) (hg : op.guard = none) (x y : Operand) (ho : op.op = .store ty x y) {b T j : Nat} {c c' : Array Value} {v u : Value} (hx : a.eval x = .pointer (some ⟨b, j, none⟩)) (hy : a.eval y = v) (hi : l[i]? = some (b, T, c))
    (hs : (P.info? ty).map (·.size) = some 1) (h1 : v.cells = #[v]) (h2 : v.oneCell' = true) (hu : c[j]? = some u) (hc : c.setIfInBounds j v = c')
    (h : ∀ w', Hid (Mem w0 (l.set i (b, T, c')) w') → wpList P ops Q rest (a.put op.dst undef) w') : wpList P ops Q (op :: rest) a w :=
  wpList_plain hg fun _ hK => mo_store_cell i E ty x y ho hx hy hi hs h1 h2 hu hc fun w' E' => hK _ _ (h w' E')
end
end Go.Proofs.YtghjgkgfpblijaaDoor
end
section
set_option linter.unusedSimpArgs false
namespace Go.Proofs.YtghjgkgfpblijaaDoor
open Go.RowKit Go.Lib Go.Sort

section
variable {P : Program} {ops : Array Oper} {Q : Act → Prop} {a : Act} {w w0 : World} {o : Oper} {rest : List Oper} {l : List (Nat × TypeId × Array Value)}
theorem memq_load_row (E : Hid (Mem w0 l w)) (ty : TypeId) (hw : Region.wanted o (yielded ops a.tmps) = true) (x : Operand) (ho : o.op = .load ty x) {b T : Nat} {c : Array Value} (hx : a.eval x = .pointer (some ⟨b, 0, none⟩)) (hm : (b, T, c) ∈ l)
    {d : TypeDesc} (hu : P.underlying ty = some d) (hd : d.isRow = true) (hi : (P.info? ty).map (·.size) = some c.size)
    (h : wpQuiet P ops (fun w' => ∃ p : Regrown, w' = grow (redrawn w p.d) p.os) Q rest (a.put o.dst (.agg c))) : wpQuiet P ops (fun w' => ∃ p : Regrown, w' = grow (redrawn w p.d) p.os) Q (o :: rest) a :=
  wpQuiet_load_all ty x ho hw b hx (.agg c) (fun w3 hC => by
    obtain ⟨p, rfl⟩ := hC
    have hg := (E.out.call (below_regrown w p.d p.os)).get hm
    simpa using run_loadAt_mid (P := P) _ b 0 ty c.toList d (range_all hg) hu hd (by rw [hi, Array.length_toList])) h
theorem memq_load_cell (E : Hid (Mem w0 l w)) (ty : TypeId) (hw : Region.wanted o (yielded ops a.tmps) = true) (x : Operand) (ho : o.op = .load ty x) {b T j : Nat} {c : Array Value} (hx : a.eval x = .pointer (some ⟨b, j, none⟩)) (hm : (b, T, c) ∈ l)
    {d : TypeDesc} (hu : P.underlying ty = some d) (hd : d.isRow = false) {v : Value} (hv : c[j]? = some v)
    (h : wpQuiet P ops (fun w' => ∃ p : Regrown, w' = grow (redrawn w p.d) p.os) Q rest (a.put o.dst v)) : wpQuiet P ops (fun w' => ∃ p : Regrown, w' = grow (redrawn w p.d) p.os) Q (o :: rest) a := by
  show if _ then _ else _
  rw [if_pos hw]
  refine ⟨v, fun w3 hC => ?_, h⟩
  obtain ⟨p, rfl⟩ := hC
  unfold Oper.quietAt execOp
  simp only [ho, hx, Sem.run_bind, Sem.run_pure, run_load_one hu hd (cell_of_here ((E.out.call (below_regrown w p.d p.os)).get hm) j hv), Result.andThen_ok]
  exact ⟨rfl, rfl⟩
end
end Go.Proofs.YtghjgkgfpblijaaDoor
end
section
set_option linter.unusedSimpArgs false
namespace Go.Proofs.YtghjgkgfpblijaaDoor
open Go.RowKit Go.Lib Go.Sort
section
variable {P : Program} {ops : Array Oper} {Q : Exit → Act → World → Prop} {md : Region.Mode} {S : World → Prop} {fuel : Nat} {listed : Array Bool} {a : Act} {w : World}
theorem hm_load_row {oi : Oper} (i t : Nat) (ty : TypeId) (x : Operand) {b T : Nat} {c : Array Value} (hd0 : oi.dst = some t) (hi : ops[i]? = some oi) (hs : Region.noSelect ops = true) (hf : Region.free md ops listed i = true) (hr : (Region.ready md ops listed).contains i = true)
    (hQ : ∀ k a w, Q (.panic k) (a.put oi.dst (.agg c)) w → Q (.panic k) a w) (hw : Region.wanted oi (yielded ops a.tmps) = true) (ho : oi.op = .load ty x) (hx : a.eval x = .pointer (some ⟨b, 0, none⟩)) (hl : ∀ W, S W → W.heap[b]? = some (.cells c T (0, 0)))
    {d : TypeDesc} (hu : P.underlying ty = some d) (hd : d.isRow = true) (hz : (P.info? ty).map (·.size) = some c.size) (hS : S w)
    (h : wpAnyH P md ops Q S fuel (listed.setIfInBounds i true) (a.put (some t) (.agg c)) w) : wpAnyH P md ops Q S (fuel + 1) listed a w :=
  wpAnyH_take hi hs hf hr hQ (.inl ⟨hw, fun W hW => by
    have e := run_loadAt_mid (P := P) W b 0 ty c.toList d (range_all (hl W hW)) hu hd (by rw [hz, Array.length_toList])
    unfold execOp
    simp only [ho, hx, Sem.run_bind, e, Result.andThen_ok]
    simp⟩) hS (by rw [hd0]; exact h)
theorem hm_load_cell {oi : Oper} (i t : Nat) (ty : TypeId) (x : Operand) {b T j : Nat} {c : Array Value} {v : Value} (hd0 : oi.dst = some t) (hi : ops[i]? = some oi) (hs : Region.noSelect ops = true) (hf : Region.free md ops listed i = true) (hr : (Region.ready md ops listed).contains i = true)
    (hQ : ∀ k a w, Q (.panic k) (a.put oi.dst v) w → Q (.panic k) a w) (hw : Region.wanted oi (yielded ops a.tmps) = true) (ho : oi.op = .load ty x) (hx : a.eval x = .pointer (some ⟨b, j, none⟩)) (hl : ∀ W, S W → W.heap[b]? = some (.cells c T (0, 0)))
    {d : TypeDesc} (hu : P.underlying ty = some d) (hd : d.isRow = false) (hv : c[j]? = some v) (hS : S w)
    (h : wpAnyH P md ops Q S fuel (listed.setIfInBounds i true) (a.put (some t) v) w) : wpAnyH P md ops Q S (fuel + 1) listed a w :=
  wpAnyH_take hi hs hf hr hQ (.inl ⟨hw, fun W hW => by
    unfold execOp
    simp only [ho, hx, Sem.run_bind, Sem.run_pure, run_load_one hu hd (cell_of_here (hl W hW) j hv), Result.andThen_ok]⟩) hS (by rw [hd0]; exact h)
theorem hm_pure {oi : Oper} (i t : Nat) (v : Value) (hd : oi.dst = some t) (hi : ops[i]? = some oi) (hs : Region.noSelect ops = true) (hf : Region.free md ops listed i = true) (hr : (Region.ready md ops listed).contains i = true)
    (hQ : ∀ c a w, Q (.panic c) (a.put oi.dst v) w → Q (.panic c) a w) (hw : Region.wanted oi (yielded ops a.tmps) = true) (hy : ∀ W, (execOp a.eval oi).run P W = .ok (.value v) W) (hS : S w)
    (h : wpAnyH P md ops Q S fuel (listed.setIfInBounds i true) (a.put (some t) v) w) : wpAnyH P md ops Q S (fuel + 1) listed a w :=
  wpAnyH_take hi hs hf hr hQ (.inl ⟨hw, fun W _ => hy W⟩) hS (by rw [hd]; exact h)
theorem hm_step {o : Oper} (i : Nat) (hi : ops[i]? = some o) (hw : Region.wanted o (yielded ops a.tmps) = true)
    (h : ∀ K : Act → World → Prop, (∀ a' w', S w' → wpAnyH P md ops Q S fuel (listed.setIfInBounds i true) a' w' → K a' w') → o.wp P a w K Q) :
    wpOp P ops Q i (fun a' w' => S w' ∧ wpAnyH P md ops Q S fuel (listed.setIfInBounds i true) a' w') a w := by
  unfold wpOp
  simp only [hi, hw, if_true]
  exact .inl (h _ fun a' w' h1 h2 => ⟨h1, h2⟩)
theorem hm_one {i : Nat} (hr : Region.ready md ops listed = [i]) (h : wpOp P ops Q i (fun a' w' => S w' ∧ wpAnyH P md ops Q S fuel (listed.setIfInBounds i true) a' w') a w) : wpAnyH P md ops Q S (fuel + 1) listed a w :=
  wpAnyH_all hr (by simp) fun j hj => by obtain rfl : j = i := by simpa using hj
                                         exact h
theorem hm_two {i j : Nat} (hr : Region.ready md ops listed = [i, j]) (h1 : wpOp P ops Q i (fun a' w' => S w' ∧ wpAnyH P md ops Q S fuel (listed.setIfInBounds i true) a' w') a w)
    (h2 : wpOp P ops Q j (fun a' w' => S w' ∧ wpAnyH P md ops Q S fuel (listed.setIfInBounds j true) a' w') a w) : wpAnyH P md ops Q S (fuel + 1) listed a w :=
  wpAnyH_all hr (by simp) fun k hk => by
    have : k = i ∨ k = j := by simpa using hk
    rcases this with rfl | rfl
    · exact h1
    · exact h2
theorem wp_region_mem {w0 : World} {l : List (Nat × TypeId × Array Value)} {id : Nat} {a : Act} {w : World} (E : Hid (Mem w0 l w)) (hm : P.follows .mixedOrders = true)
    (h : ∀ w', Hid (Mem w0 l w') → wpAnyH P .any ops Q (fun W => Mem w0 l W) ops.size (Array.replicate ops.size false) a w') : (Code.region id ops true).wp P Q a w :=
  wp_region_held hm (h _ (Lib.hid ⟨⟨E.out.below.os, E.out.below.tape, E.out.below.output, E.out.below.size, E.out.below.block⟩, E.out.has, E.out.nd, E.out.ge⟩))
end
end Go.Proofs.YtghjgkgfpblijaaDoor
end
end
section
namespace Go.Proofs.YtghjgkgfpblijaaDoor
open Go.RowKit Go.Lib

theorem wpList_build_to {P : Program} {ops : Array Oper} {rest : List Oper} {o : Oper} {a : Act} {w : World} {Q : Exit → Act → World → Prop} (hg : o.guard = none) (t : TypeId) (parts : Array (Nat × Operand)) (ho : o.op = .build t parts)
    (ps : Array (Nat × Value)) (hp : parts.map (fun (i, x) => (i, a.eval x)) = ps) (cells : Array Value) (hc : P.built t ps.toList = some cells) (h : wpList P ops Q rest (a.put o.dst (.agg cells)) w) : wpList P ops Q (o :: rest) a w := by
  refine wpList_build hg t parts ho ?_ ?_
  · rw [hp, hc]; rfl
  · rw [hp, hc]; exact h
/-- Bytes as cells. -/
def bv (x : Nat → Nat) : Nat → Value := fun i => .int .u8 ((x i : Nat) : Int)
theorem bv_one (x : Nat → Nat) (n : Nat) : (arr n (bv x)).all (·.oneCell') = true := Array.all_eq_true_iff_forall_mem.2 fun v hv => by
  unfold arr at hv
  simp at hv
  obtain ⟨i, _, rfl⟩ := hv
  rfl
theorem res_row_tmp {P : Program} {fn : Func} {p u : Tmp} {ty : TypeId} (h : fn.results = #[.cell p ty, .tmp u]) (tmps : Array Value) (w : World) (g n : Nat) (T : TypeId) (f : Nat → Value) (d : TypeDesc)
    (hp : tmps.getD p undef = .pointer (some ⟨g, 0, none⟩)) (hg : w.heap[g]? = some (.cells (arr n f) T (0, 0))) (hu : P.underlying ty = some d) (hd : (match d with | .struct _ | .array _ _ => true | _ => false) = true) (hi : (P.info? ty).map (·.size) = some n) :
    (results fn tmps).run P w = .ok (.tuple #[.agg (arr n f), tmps.getD u undef]) w := by
  have hp' : tmps[p]?.getD undef = .pointer (some ⟨g, 0, none⟩) := by simpa using hp
  have e := run_loadVar_row (P := P) w g T ty (arr n f) (0, 0) d hg hu hd (by rw [arr_size]; exact hi)
  simp [results, h, hp', asAddr, e]
theorem res_row_tmp_tmp {P : Program} {fn : Func} {p u v : Tmp} {ty : TypeId} (h : fn.results = #[.cell p ty, .tmp u, .tmp v]) (tmps : Array Value) (w : World) (g n : Nat) (T : TypeId) (f : Nat → Value) (d : TypeDesc)
    (hp : tmps.getD p undef = .pointer (some ⟨g, 0, none⟩)) (hg : w.heap[g]? = some (.cells (arr n f) T (0, 0))) (hu : P.underlying ty = some d) (hd : (match d with | .struct _ | .array _ _ => true | _ => false) = true) (hi : (P.info? ty).map (·.size) = some n) :
    (results fn tmps).run P w = .ok (.tuple #[.agg (arr n f), tmps.getD u undef, tmps.getD v undef]) w := by
  have hp' : tmps[p]?.getD undef = .pointer (some ⟨g, 0, none⟩) := by simpa using hp
  have e := run_loadVar_row (P := P) w g T ty (arr n f) (0, 0) d hg hu hd (by rw [arr_size]; exact hi)
  simp [results, h, hp', asAddr, e]
theorem res3 {P : Program} {fn : Func} {a b c : Tmp} (h : fn.results = #[.tmp a, .tmp b, .tmp c]) (tmps : Array Value) (w : World) :
    (results fn tmps).run P w = .ok (.tuple #[tmps.getD a undef, tmps.getD b undef, tmps.getD c undef]) w := by simp [results, h]
/-- n bytes as cells. -/
def fbs (x : Nat → Nat) (n : Nat) : List Value := (List.range n).map fun i => .int .u8 ((x i : Nat) : Int)
theorem fbs_length (x : Nat → Nat) (n : Nat) : (fbs x n).length = n := by simp [fbs]
theorem fbs_get (x : Nat → Nat) (n j : Nat) (v : Value) (h : (fbs x n)[j]? = some v) : j < n ∧ v = .int .u8 ((x j : Nat) : Int) := by
  unfold fbs at h
  rw [List.getElem?_map] at h
  rcases Nat.lt_or_ge j n with q | q
  · rw [List.getElem?_range q] at h
    exact ⟨q, by simpa using h.symm⟩
  · rw [List.getElem?_eq_none (by simpa using q)] at h
    cases h
theorem fbs_at (x : Nat → Nat) (n j : Nat) (h : j < n) : (fbs x n)[j]? = some (.int .u8 ((x j : Nat) : Int)) := by
  unfold fbs
  rw [List.getElem?_map, List.getElem?_range h]
  rfl
theorem fbs_one (x : Nat → Nat) (n : Nat) : ∀ u ∈ fbs x n, u.oneCell' = true := fun u hu => by
  unfold fbs at hu
  obtain ⟨i, _, rfl⟩ := List.mem_map.1 hu
  rfl
theorem fbs_congr {x y : Nat → Nat} {n : Nat} (h : ∀ i, i < n → x i = y i) : fbs x n = fbs y n :=
  List.map_congr_left fun i hi => by rw [h i (by simpa using hi)]
/-- x's first n, then y. -/
def cat (x : Nat → Nat) (n : Nat) (y : Nat → Nat) : Nat → Nat := fun i => if i < n then x i else y (i - n)
theorem fbs_cat (x y : Nat → Nat) (n m : Nat) : fbs x n ++ fbs y m = fbs (cat x n y) (n + m) := by
  apply List.ext_getElem?
  intro j
  rcases Nat.lt_or_ge j n with h | h
  · rw [List.getElem?_append_left (by rw [fbs_length]; exact h), fbs_at _ _ _ h, fbs_at _ _ _ (by omega)]
    unfold cat; rw [if_pos h]
  · rw [List.getElem?_append_right (by rw [fbs_length]; exact h), fbs_length]
    rcases Nat.lt_or_ge j (n + m) with h2 | h2
    · rw [fbs_at _ _ _ (by omega), fbs_at _ _ _ h2]
      unfold cat; rw [if_neg (by omega)]
    · rw [List.getElem?_eq_none (by rw [fbs_length]; omega), List.getElem?_eq_none (by rw [fbs_length]; omega)]
theorem cat_byte {x y : Nat → Nat} (n : Nat) (hx : ∀ i, x i < 256) (hy : ∀ i, y i < 256) (i : Nat) : cat x n y i < 256 := by
  unfold cat; split
  · exact hx i
  · exact hy _

/-- A slice of n bytes x, of room c, reads so in w: nothing is asked of an address where there is no byte. -/
structure Row (w : World) (p : Option Addr) (g o n c : Nat) (x : Nat → Nat) : Prop where
  le : n ≤ c
  cap : c ≤ maxLen
  nil : p = none → n = 0 ∧ c = 0
  head : 0 < n → p = some ⟨g, o, none⟩
  cell : ∀ i, i < n → w.cell? ⟨g, o + i, none⟩ = some (.int .u8 ((x i : Nat) : Int))
  byte : ∀ i, x i < 256
theorem row_add (g o j : Nat) : (⟨g, o, none⟩ : Addr).add j = ⟨g, o + j, none⟩ := by
  unfold Addr.add
  split
  · rename_i hz; subst hz; rfl
  · rfl
section
variable {w w' w0 : World} {p : Option Addr} {g o n c : Nat} {x y : Nat → Nat}
theorem Row.below (h : Row w p g o n c x) (hb : Below w.heap.size w w') : Row w' p g o n c x :=
  ⟨h.le, h.cap, h.nil, h.head, fun i hi => by rw [hb.cell (cell_lt (h.cell i hi))]; exact h.cell i hi, h.byte⟩
theorem Row.to (h : Row w p g o n c x) (e : ∀ i, i < n → x i = y i) (hy : ∀ i, y i < 256) : Row w p g o n c y :=
  ⟨h.le, h.cap, h.nil, h.head, fun i hi => by rw [← e i hi]; exact h.cell i hi, hy⟩
theorem Row.nothing (w : World) (x : Nat → Nat) (hx : ∀ i, x i < 256) : Row w none 0 0 0 0 x :=
  ⟨Nat.le_refl _, by unfold maxLen; omega, fun _ => ⟨rfl, rfl⟩, fun h => absurd h (by omega), fun i hi => absurd hi (by omega), hx⟩
theorem Row.slice (R : Row w p g o n c x) {l h m : Nat} (h1 : l ≤ h) (h2 : h ≤ n) (h3 : h ≤ m) (h4 : m ≤ c) :
    ∃ p', sliced p l h m 1 = .slice p' (h - l) (m - l) ∧ Row w p' g (o + l) (h - l) (m - l) (fun i => x (l + i)) := by
  refine ⟨_, rfl, by omega, by have := R.cap; omega, ?_, ?_, fun i hi => ?_, fun i => R.byte _⟩
  · intro hn
    by_cases e : m = l
    · omega
    · rw [if_neg e] at hn
      cases p with
      | none => have := (R.nil rfl).2; omega
      | some a => cases hn
  · intro hp
    rw [if_neg (by omega), R.head (by omega), Nat.mul_one]
    show some ((⟨g, o, none⟩ : Addr).add l) = _
    rw [row_add]
  · rw [show o + l + i = o + (l + i) from by omega]
    exact R.cell (l + i) (by omega)
end

/-- A slice of bytes in a block of the call's own: its first n are x. -/
structure Own (B : Nat) (w : World) (p : Option Addr) (g n c : Nat) (x : Nat → Nat) : Prop where
  own : w.ownsRow B 5 1 (.slice p n c) n (fbs x n)
  spot : p = none ∨ p = some ⟨g, 0, none⟩
  byte : ∀ i, x i < 256
  low : B ≤ w.heap.size
section
variable {w w' w0 : World} {p : Option Addr} {B g n c : Nat} {x y : Nat → Nat}
theorem Own.row (h : Own B w p g n c x) : Row w p g 0 n c x := by
  have h0 := h.own
  obtain ⟨_, h1⟩ := h.own
  rcases h1 with ⟨h1, h2⟩ | ⟨g', cap, cur, h1, h2, h3, h4, h5, h6, h7⟩
  · injection h1 with a1 a2 a3
    subst a1 h2 a3
    exact ⟨Nat.le_refl _, by unfold maxLen; omega, fun _ => ⟨rfl, rfl⟩, fun h => absurd h (by omega), fun i hi => absurd hi (by omega), h.byte⟩
  · injection h1 with a1 a2 a3
    subst a1 a3
    rcases h.spot with q | q
    · cases q
    · injection q with q
      injection q with q1
      subst q1
      refine ⟨h4, h5, fun h => (by cases h), fun _ => rfl, fun i hi => ?_, h.byte⟩
      have := World.ownsRow.cells h0 (g := g') rfl i _ (fbs_at x n i hi)
      rwa [row_add] at this
theorem own_of {v : Value} (h : w.ownsRow B 5 1 v n (fbs x n)) (hx : ∀ i, x i < 256) (hB : B ≤ w.heap.size) : ∃ p g c, v = .slice p n c ∧ Own B w p g n c x := by
  have h' := h
  obtain ⟨_, h1⟩ := h
  rcases h1 with ⟨rfl, rfl⟩ | ⟨g', cap, cur, rfl, h2, h3, h4, h5, h6, h7⟩
  · exact ⟨none, 0, 0, rfl, h', .inl rfl, hx, hB⟩
  · exact ⟨_, g', cap, rfl, h', .inr rfl, hx, hB⟩
theorem Own.part {B' : Nat} (h : Own B w p g n c x) (hb : Below B' w w') (hB : ∀ k, k < w.heap.size → B ≤ k → k = g → k < B') : Own B w' p g n c x := by
  refine ⟨?_, h.spot, h.byte, Nat.le_trans h.low hb.size⟩
  obtain ⟨h0, h1⟩ := h.own
  refine ⟨h0, ?_⟩
  rcases h1 with h1 | ⟨g', cap, cur, h1, h2, h3, h4⟩
  · exact Or.inl h1
  · refine Or.inr ⟨g', cap, cur, h1, h2, ?_, h4⟩
    injection h1 with a1
    have hg : g' = g := by
      rcases h.spot with q | q
      · rw [q] at a1; cases a1
      · rw [q] at a1; injection a1 with a1; injection a1 with a1; exact a1.symm
    rw [hb.block g' (hB g' (heap_lt h3) h2 hg)]
    exact h3
theorem Own.below (h : Own B w p g n c x) (hb : Below w.heap.size w w') : Own B w' p g n c x := h.part hb fun _ hk _ _ => hk
theorem Own.to (h : Own B w p g n c x) (e : ∀ i, i < n → x i = y i) (hy : ∀ i, y i < 256) : Own B w p g n c y :=
  ⟨by rw [← fbs_congr e]; exact h.own, h.spot, hy, h.low⟩
theorem Own.mono {B' : Nat} (h : Own B w p g n c x) (hB : B' ≤ B) : Own B' w p g n c x := by
  refine ⟨?_, h.spot, h.byte, Nat.le_trans hB h.low⟩
  obtain ⟨h0, h1⟩ := h.own
  refine ⟨h0, ?_⟩
  rcases h1 with h1 | ⟨g', cap, cur, h1, h2, h3⟩
  · exact Or.inl h1
  · exact Or.inr ⟨g', cap, cur, h1, Nat.le_trans hB h2, h3⟩
theorem own_nothing (w : World) (B : Nat) (x : Nat → Nat) (hx : ∀ i, x i < 256) (hB : B ≤ w.heap.size) : Own B w none 0 0 0 x := ⟨World.ownsRow_nil w B 5 1, .inl rfl, hx, hB⟩
theorem own_new (w : World) (x : Nat → Nat) (n : Nat) (hn : n ≤ maxLen) (hx : ∀ i, x i < 256) : Own w.heap.size (w.alloc (.cells (fbs x n).toArray 5)) (some ⟨w.heap.size, 0, none⟩) w.heap.size n n x :=
  ⟨⟨by rw [fbs_length, Nat.mul_one], .inr ⟨w.heap.size, n, (fbs x n).toArray, rfl, Nat.le_refl _, here_new w _ _, Nat.le_refl _, hn, by rw [List.size_toArray, fbs_length, Nat.mul_one], by
    rw [List.take_of_length_le (by simp [fbs_length])]⟩⟩, .inr rfl, hx, by simp⟩
theorem Mem.part {l : List (Nat × TypeId × Array Value)} {B : Nat} (E : Mem w0 l w) (hb : Below B w w') (h0 : w0.heap.size ≤ B) (hl : ∀ p, p ∈ l → p.1 < B) : Mem w0 l w' :=
  ⟨E.below.trans (hb.mono h0), fun p hp => (hb.block p.1 (hl p hp)).trans (E.has p hp), E.nd, E.ge⟩
theorem Mem.lt {l : List (Nat × TypeId × Array Value)} (E : Mem w0 l w) : ∀ p, p ∈ l → p.1 < w.heap.size := fun p hp => heap_lt (E.has p hp)
end

/-- What a call that makes a slice leaves. -/
def Gets (w : World) (n : Nat) (x : Nat → Nat) (e : Ending) (w' : World) : Prop := ∃ p g c, e = .returned (.slice p n c) ∧ Own w.heap.size w' p g n c x ∧ Below w.heap.size w w'

theorem infoB : (Tryd.prog.info? 5).map (fun i => (i.zero, i.size, i.bytes)) = some (some (.int .u8 0), 1, 1) := by kernel_rfl

section
variable {ops : Array Oper} {rest : List Oper} {Q : Exit → Act → World → Prop} {op : Oper} {a : Act} {w : World}
/-- An append to a slice of the call's own. -/
theorem wpList_app (hgd : op.guard = none ∨ Region.wanted op (yielded ops a.tmps) = true) (s t : Operand) (ho : op.op = .call { callee := .builtin .append, args := #[s, t], argTypes := #[22, 22] }) {B g n c : Nat} {p : Option Addr} {x : Nat → Nat} (hs : a.eval s = .slice p n c) (N : Hid (Own B w p g n c x))
    {q : Option Addr} {h o m d : Nat} {y : Nat → Nat} (ht : a.eval t = .slice q m d) (R : Hid (Row w q h o m d y)) (hlen : n + m ≤ 140737488355328)
    (k : ∀ p' g' c' w', Hid (Own B w' p' g' (n + m) c' (cat x n y)) → Hid (Below B w w') → wpList Tryd.prog ops Q rest (a.put op.dst (.slice p' (n + m) c')) w') : wpList Tryd.prog ops Q (op :: rest) a w := by
  have hw : Region.wanted op (yielded ops a.tmps) = true := by
    rcases hgd with h | h
    · simp [Region.wanted, h]
    · exact h
  refine BigFrame.wpList_want hw fun K hK => ?_
  obtain ⟨i0, hi, hz0, hz1, hz2⟩ := info_parts infoB
  cases q with
  | none =>
    obtain ⟨rfl, rfl⟩ := R.out.nil rfl
    have hrun := run_append_owned_none (P := Tryd.prog) (w := w) B 22 op.type 5 i0 1 Tryd.underlying22 hi _ n _ N.out.own
    refine mo_known (.slice p n c) w ?_ (hK _ _ (k p g c w (Lib.hid (N.out.to (fun i hi => by unfold cat; rw [if_pos hi]) (cat_byte n N.out.byte R.out.byte))) (Lib.hid (Below.refl _ _))))
    simp [execOp, ho, resolve, invoke, builtin, hs, ht, hrun, Result.andThen]
  | some ad =>
    refine wp_append_own (P := Tryd.prog) w s t 22 ho B 5 i0 (.int .u8 0) 1 1 Tryd.underlying22 hi hz0 hz1 hz2 rfl (by decide) _ _ _ hs N.out.own ad m d (fbs y m) ht (by rw [fbs_length]; omega) ?_ (fbs_one y m) (by unfold maxLen; omega) (by omega) N.out.low ?_
    · intro j u hu
      obtain ⟨hj, rfl⟩ := fbs_get _ _ _ _ hu
      obtain rfl := Option.some.inj (R.out.head (by omega))
      rw [row_add]
      exact R.out.cell j hj
    · intro v' w' hown hgrow hnil
      rw [fbs_cat] at hown
      have hb : Below B w w' := (Below.refl _ _).grown hgrow N.out.low fun k hk => (World.ownsRow.lt N.out.own k hk).1
      obtain ⟨p', g', c', rfl, N'⟩ := own_of hown (cat_byte n N.out.byte R.out.byte) (Nat.le_trans N.out.low hb.size)
      exact hK _ _ (k p' g' c' w' (Lib.hid N') (Lib.hid hb))
/-- A slice of a slice: all three bounds. -/
theorem run_sl {p : Option Addr} {n c : Nat} {lo hi mx : Option Value} {l h m : Nat} (hb : (Instr.sliceBounds true n c lo hi mx).run Tryd.prog w = .ok (l, h, m) w) :
    (Instr.sliceAt 22 (.slice p n c) lo hi mx).run Tryd.prog w = .ok (sliced p l h m 1) w := by
  have he : Tryd.prog.elem 22 = 5 := by kernel_rfl
  have ht : Tryd.prog.underlying 22 = some (.slice (Tryd.prog.elem 22)) := by rw [he]; exact Tryd.underlying22
  have hsz : (sizeOf 5).run Tryd.prog w = .ok 1 w := by kernel_rfl
  rw [run_sliceAt_slice w 22 _ _ _ _ ht, run_slice_any w 22 p n c ht, hb]
  simp only [Result.andThen_ok, he, hsz]
theorem bounds_lhm {n c l h m : Nat} (h1 : l ≤ h) (h2 : h ≤ m) (h3 : m ≤ c) : (Instr.sliceBounds true n c (some (.int .i64 (l : Int))) (some (.int .i64 (h : Int))) (some (.int .i64 (m : Int)))).run Tryd.prog w = .ok (l, h, m) w := by
  simp [Instr.sliceBounds, run_sliceBound, h1, h2, h3]
theorem bounds_hm {n c h m : Nat} (h2 : h ≤ m) (h3 : m ≤ c) : (Instr.sliceBounds true n c none (some (.int .i64 (h : Int))) (some (.int .i64 (m : Int)))).run Tryd.prog w = .ok (0, h, m) w := by
  simp [Instr.sliceBounds, run_sliceBound, h2, h3]
theorem bounds_lh {n c l h : Nat} (h1 : l ≤ h) (h2 : h ≤ c) : (Instr.sliceBounds true n c (some (.int .i64 (l : Int))) (some (.int .i64 (h : Int))) none).run Tryd.prog w = .ok (l, h, c) w := by
  simp [Instr.sliceBounds, run_sliceBound, h1, h2]
theorem bounds_h {n c h : Nat} (h2 : h ≤ c) : (Instr.sliceBounds true n c none (some (.int .i64 (h : Int))) none).run Tryd.prog w = .ok (0, h, c) w := by
  simp [Instr.sliceBounds, run_sliceBound, h2]
theorem bounds_l {n c l : Nat} (h1 : l ≤ n) : (Instr.sliceBounds true n c (some (.int .i64 (l : Int))) none none).run Tryd.prog w = .ok (l, n, c) w := by
  simp [Instr.sliceBounds, run_sliceBound, h1]
end
end Go.Proofs.YtghjgkgfpblijaaDoor
end
section
set_option linter.unusedSimpArgs false
set_option maxRecDepth 100000
namespace Go.Proofs.YtghjgkgfpblijaaDoor
open Go.RowKit Go.Lib

theorem own_start (w : World) (x : Nat → Nat) (hx : ∀ i, x i < 256) : Own w.heap.size (w.alloc (.cells #[] 5)) (some ⟨w.heap.size, 0, none⟩) w.heap.size 0 0 x := own_new w x 0 (by unfold maxLen; omega) hx
theorem cat_zero (x y : Nat → Nat) (i : Nat) : cat x 0 y i = y i := by unfold cat; rw [if_neg (by omega)]; rfl

set_option maxHeartbeats 1000000 in
theorem clone_none (w : World) : Calls Tryd.prog 14 #[.slice none 0 0] w fun e w' => e = .returned (.slice none 0 0) ∧ w = w' := by
  have he : ∀ w : World, (binOp .eql 22 (.slice none 0 0) (.slice none 0 0)).run Tryd.prog w = .ok (.bool true) w := fun _ => rfl
  go_enter Tryd.func14, Tryd.ntmps14
  go_wp2
  go_ret
  exact ⟨rfl, rfl⟩
set_option maxHeartbeats 1000000 in
theorem clone_any {w : World} {p : Option Addr} {g o n c : Nat} {x : Nat → Nat} (R : Hid (Row w p g o n c x)) (hn : n ≤ 140737488355328) : Calls Tryd.prog 14 #[.slice p n c] w (Gets w n x) := by
  cases p with
  | none =>
    obtain ⟨rfl, rfl⟩ := R.out.nil rfl
    refine (clone_none w).mono ?_
    rintro e w' ⟨rfl, rfl⟩
    exact ⟨none, 0, 0, rfl, own_nothing _ _ _ R.out.byte (Nat.le_refl _), Below.refl _ _⟩
  | some a =>
    have he : ∀ w : World, (binOp .eql 22 (.slice (some a) n c) (.slice none 0 0)).run Tryd.prog w = .ok (.bool false) w := fun _ => rfl
    have N := Lib.hid (own_start w x R.out.byte)
    have R1 := Lib.hid (R.out.below (below_new w (.cells #[] 5)))
    go_enter Tryd.func14, Tryd.ntmps14
    go_wp2_with (at_builtin; refine wpList_app (.inl rfl) (.tmp 5) (.tmp 6) rfl rfl N rfl R1 (by omega) ?_)
    intro p' g' c' w' N' hb
    have B' := Lib.hid ((below_new w (.cells #[] 5)).trans hb.out)
    clear hb
    go_wp2
    go_ret
    refine ⟨_, g', c', rfl, ?_, B'.out⟩
    have := N'.out.to (fun i _ => cat_zero x x i) R.out.byte
    simpa using this

theorem row_string {w : World} {p : Option Addr} {g o n c : Nat} {x : Nat → Nat} (h : Row w p g o n c x) : (convert 22 9 (.slice p n c)).run Tryd.prog w = .ok (.string (strOfNums ((List.range n).map fun i => ((x i : Nat) : Int)))) w := by
  rcases Nat.eq_zero_or_pos n with h0 | h0
  · subst h0
    rw [run_convert_bytes_string w 22 9 5 p 0 c Tryd.underlying22 Tryd.underlying5 Tryd.underlying9]
    cases p <;> rfl
  · obtain rfl := h.head h0
    refine run_convert_bytes_arg (P := Tryd.prog) w 22 5 Tryd.underlying22 Tryd.underlying5 g o n c _ (by simp) ?_ 9 Tryd.underlying9
    intro i hi
    rw [h.cell i hi]
    simp [hi]
set_option maxHeartbeats 1000000 in
theorem equal_any {w : World} {p p' : Option Addr} {g g' o o' n n' c c' : Nat} {x x' : Nat → Nat} (h : Hid (Row w p g o n c x)) (h' : Hid (Row w p' g' o' n' c' x')) (hn : n = n') (he : Hid (∀ i, i < n → x i = x' i)) :
    Calls Tryd.prog 13 #[.slice p n c, .slice p' n' c'] w fun e w' => e = .returned (.bool true) ∧ w = w' := by
  subst hn
  have e1 := row_string h.out
  have e2 := row_string (h'.out.to (y := x) (fun i hi => (he.out i hi).symm) h.out.byte)
  go_enter Tryd.func13, Tryd.ntmps13
  go_wp2
  go_ret
  exact ⟨rfl, rfl⟩
end Go.Proofs.YtghjgkgfpblijaaDoor
end
section
set_option linter.unusedSimpArgs false
namespace Go.Proofs.YtghjgkgfpblijaaDoor
open Go.RowKit Go.Lib

structure Work (w0 : World) (l : List (Nat × TypeId × Array Value)) (B : Nat) (p : Option Addr) (g n c : Nat) (x : Nat → Nat) (w : World) : Prop where
  mem : Mem w0 l w
  own : Own B w p g n c x
  low : w0.heap.size ≤ B
  under : ∀ q, q ∈ l → q.1 < B
section
variable {w0 w w' : World} {l : List (Nat × TypeId × Array Value)} {B g n c : Nat} {p : Option Addr} {x y : Nat → Nat}
theorem Work.call (K : Work w0 l B p g n c x w) (hb : Below w.heap.size w w') : Work w0 l B p g n c x w' := ⟨K.mem.call hb, K.own.below hb, K.low, K.under⟩
theorem Work.turn (K : Work w0 l B p g n c x w) {p' : Option Addr} {g' n' c' : Nat} (N : Own B w' p' g' n' c' y) (hb : Below B w w') : Work w0 l B p' g' n' c' y w' := ⟨K.mem.part hb K.low K.under, N, K.low, K.under⟩
theorem Work.to (K : Work w0 l B p g n c x w) (e : ∀ i, i < n → x i = y i) (hy : ∀ i, y i < 256) : Work w0 l B p g n c y w := ⟨K.mem, K.own.to e hy, K.low, K.under⟩
theorem Work.start (E : Mem w0 l w) (N : Own w.heap.size w' p g n c x) (hb : Below w.heap.size w w') : Work w0 l w.heap.size p g n c x w' := ⟨E.call hb, N, E.below.size, E.lt⟩
theorem Work.gets (K : Work w0 l B p g n c x w) : Own w0.heap.size w p g n c x ∧ Below w0.heap.size w0 w := ⟨K.own.mono K.low, K.mem.below⟩
theorem Mem.gets {w1 : World} (E : Mem w0 l w) (N : Own w.heap.size w1 p g n c x) (hb : Below w.heap.size w w1) : Own w0.heap.size w1 p g n c x ∧ Below w0.heap.size w0 w1 := ⟨N.mono E.below.size, (E.call hb).below⟩
end
section
variable {ops : Array Oper} {rest : List Oper} {Q : Exit → Act → World → Prop} {op : Oper} {a : Act} {w w0 : World} {l : List (Nat × TypeId × Array Value)}
/-- A new slice with room for m, nothing in it yet. -/
theorem wpList_mk (hgd : op.guard = none) (lo co : Operand) (ho : op.op = .makeSlice 22 lo co) (E : Hid (Mem w0 l w)) (m : Nat) (C : Int) (hl : a.eval lo = .int .i64 0) (hc : a.eval co = .int .i64 C) (hC : C = ((m : Nat) : Int)) (hm : m ≤ 140737488355328)
    (k : ∀ B p g w', Hid (Work w0 l B p g 0 m (fun _ => 0) w') → wpList Tryd.prog ops Q rest (a.put op.dst (.slice p 0 m)) w') : wpList Tryd.prog ops Q (op :: rest) a w := by
  obtain ⟨i0, hi, hz0, hz1, hz2⟩ := info_parts infoB
  refine wpList_make_own (P := Tryd.prog) w hgd lo co 22 ho w.heap.size 5 i0 (.int .u8 0) 1 Tryd.underlying22 hi hz0 hz1 .i64 .i64 C m hl hc hC (by rw [hz2]; omega) (by unfold maxLen; omega) (Nat.le_refl _) ?_
  intro w' hown hgrow
  have hb : Below w.heap.size w w' := (Below.refl _ _).grown hgrow (Nat.le_refl _) fun k hk => by cases hk
  exact k _ _ _ w' (Lib.hid (Work.start E.out ⟨hown, .inr rfl, fun _ => by omega, hb.size⟩ hb))
/-- An append to it. -/
theorem wpList_wapp (hgd : op.guard = none ∨ Region.wanted op (yielded ops a.tmps) = true) (s t : Operand) (ho : op.op = .call { callee := .builtin .append, args := #[s, t], argTypes := #[22, 22] }) {B g n c : Nat} {p : Option Addr} {x : Nat → Nat} (K : Hid (Work w0 l B p g n c x w)) (hs : a.eval s = .slice p n c)
    {q : Option Addr} {h o m d : Nat} {y : Nat → Nat} (ht : a.eval t = .slice q m d) (R : Hid (Row w q h o m d y)) (hlen : n + m ≤ 140737488355328)
    (k : ∀ p' g' c' w', Hid (Work w0 l B p' g' (n + m) c' (cat x n y) w') → wpList Tryd.prog ops Q rest (a.put op.dst (.slice p' (n + m) c')) w') : wpList Tryd.prog ops Q (op :: rest) a w :=
  wpList_app hgd s t ho hs (Lib.hid K.out.own) ht R hlen fun p' g' c' w' N hb => k p' g' c' w' (Lib.hid (K.out.turn N.out hb.out))
/-- A slice of written bytes. -/
theorem wpList_bs (hgd : op.guard = none) (m : Nat) (parts : Array (Nat × Operand)) (ho : op.op = .buildSlice 22 m parts) (E : Hid (Mem w0 l w)) (x : Nat → Nat) (hx : ∀ i, x i < 256) (hm : m ≤ maxLen)
    (hr : ∀ w : World, (Instr.buildSlice 22 m (parts.map fun (i, y) => (i, a.eval y))).run Tryd.prog w = .ok (.slice (some ⟨w.heap.size, 0, none⟩) m m) (w.alloc (.cells (fbs x m).toArray 5)))
    (k : ∀ B p g w', Hid (Work w0 l B p g m m x w') → wpList Tryd.prog ops Q rest (a.put op.dst (.slice p m m)) w') : wpList Tryd.prog ops Q (op :: rest) a w := by
  refine mem_known hgd (.slice (some ⟨w.heap.size, 0, none⟩) m m) (w.alloc (.cells (fbs x m).toArray 5)) ?_ (k _ _ _ _ (Lib.hid (Work.start E.out (own_new w x m hm hx) (below_new w _))))
  unfold execOp
  simp only [ho, Sem.run_bind, hr w, Result.andThen_ok]
  rfl
end
end Go.Proofs.YtghjgkgfpblijaaDoor
end
section
set_option linter.unusedSimpArgs false
set_option maxRecDepth 100000
namespace Go.Proofs.YtghjgkgfpblijaaDoor
open Go.RowKit Go.Lib
section
variable {Q : Exit → Act → World → Prop} {op : Oper} {a : Act} {w : World} {K : Act → World → Prop}
/-- An append to a slice of the call's own. -/
theorem mo_app (s t : Operand) (ho : op.op = .call { callee := .builtin .append, args := #[s, t], argTypes := #[22, 22] }) {B g n c : Nat} {p : Option Addr} {x : Nat → Nat} (hs : a.eval s = .slice p n c) (N : Hid (Own B w p g n c x))
    {q : Option Addr} {h o m d : Nat} {y : Nat → Nat} (ht : a.eval t = .slice q m d) (R : Hid (Row w q h o m d y)) (hlen : n + m ≤ 140737488355328)
    (k : ∀ p' g' c' w', Hid (Own B w' p' g' (n + m) c' (cat x n y)) → Hid (Below B w w') → K (a.put op.dst (.slice p' (n + m) c')) w') : op.wp Tryd.prog a w K Q := by
  obtain ⟨i0, hi, hz0, hz1, hz2⟩ := info_parts infoB
  cases q with
  | none =>
    obtain ⟨rfl, rfl⟩ := R.out.nil rfl
    have hrun := run_append_owned_none (P := Tryd.prog) (w := w) B 22 op.type 5 i0 1 Tryd.underlying22 hi _ n _ N.out.own
    refine mo_known (.slice p n c) w ?_ (k p g c w (Lib.hid (N.out.to (fun i hi => by unfold cat; rw [if_pos hi]) (cat_byte n N.out.byte R.out.byte))) (Lib.hid (Below.refl _ _)))
    simp [execOp, ho, resolve, invoke, builtin, hs, ht, hrun, Result.andThen]
  | some ad =>
    refine wp_append_own (P := Tryd.prog) w s t 22 ho B 5 i0 (.int .u8 0) 1 1 Tryd.underlying22 hi hz0 hz1 hz2 rfl (by decide) _ _ _ hs N.out.own ad m d (fbs y m) ht (by rw [fbs_length]; omega) ?_ (fbs_one y m) (by unfold maxLen; omega) (by omega) N.out.low ?_
    · intro j u hu
      obtain ⟨hj, rfl⟩ := fbs_get _ _ _ _ hu
      obtain rfl := Option.some.inj (R.out.head (by omega))
      rw [row_add]
      exact R.out.cell j hj
    · intro v' w' hown hgrow hnil
      rw [fbs_cat] at hown
      have hb : Below B w w' := (Below.refl _ _).grown hgrow N.out.low fun k hk => (World.ownsRow.lt N.out.own k hk).1
      obtain ⟨p', g', c', rfl, N'⟩ := own_of hown (cat_byte n N.out.byte R.out.byte) (Nat.le_trans N.out.low hb.size)
      exact k p' g' c' w' (Lib.hid N') (Lib.hid hb)
end
end Go.Proofs.YtghjgkgfpblijaaDoor
end
section
set_option linter.unusedSimpArgs false
set_option linter.unusedVariables false
set_option maxRecDepth 100000
namespace Go.Proofs.YtghjgkgfpblijaaDoor
open Go.RowKit Go.Lib Go.Sort

section
variable {P : Program} {ops : Array Oper} {Q : Exit → Act → World → Prop} {md : Region.Mode} {S : World → Prop} {fuel : Nat} {listed : Array Bool} {a : Act} {w : World}
/-- An operation that reads, whatever the order. -/
theorem hm_run {oi : Oper} (i t : Nat) (v : Value) (hd : oi.dst = some t) (hi : ops[i]? = some oi) (hs : Region.noSelect ops = true) (hf : Region.free md ops listed i = true) (hr : (Region.ready md ops listed).contains i = true)
    (hQ : ∀ c a w, Q (.panic c) (a.put oi.dst v) w → Q (.panic c) a w) (hw : Region.wanted oi (yielded ops a.tmps) = true) (hy : ∀ W, S W → (execOp a.eval oi).run P W = .ok (.value v) W) (hS : S w)
    (h : wpAnyH P md ops Q S fuel (listed.setIfInBounds i true) (a.put (some t) v) w) : wpAnyH P md ops Q S (fuel + 1) listed a w :=
  wpAnyH_take hi hs hf hr hQ (.inl ⟨hw, hy⟩) hS (by rw [hd]; exact h)
variable {o : Oper} {ev : Operand → Value} {W : World}
theorem exec_sl {T : TypeId} {x : Operand} {lo hi mx : Option Operand} (ho : o.op = .slice T x lo hi mx) {v : Value} (h : (Instr.sliceAt T (ev x) (lo.map ev) (hi.map ev) (mx.map ev)).run P W = .ok v W) : (execOp ev o).run P W = .ok (.value v) W := by
  unfold execOp
  simp only [ho, Sem.run_bind, h, Result.andThen_ok]
  rfl
theorem exec_arr {T : TypeId} {x : Operand} (ho : o.op = .sliceToArrayPointer T x) {v : Value} (h : (Instr.arrayAt T (ev x)).run P W = .ok v W) : (execOp ev o).run P W = .ok (.value v) W := by
  unfold execOp
  simp only [ho, Sem.run_bind, h, Result.andThen_ok]
  rfl
theorem exec_load {T : TypeId} {x : Operand} (ho : o.op = .load T x) {v : Value} (h : (Instr.loadAt T (ev x)).run P W = .ok v W) : (execOp ev o).run P W = .ok (.value v) W := by
  unfold execOp
  simp only [ho, Sem.run_bind, h, Result.andThen_ok]
  rfl
theorem exec_build {T : TypeId} {parts : Array (Nat × Operand)} (ho : o.op = .build T parts) {ps : Array (Nat × Value)} (hp : parts.map (fun (i, x) => (i, ev x)) = ps) {cells : Array Value} (hc : P.built T ps.toList = some cells) : (execOp ev o).run P W = .ok (.value (.agg cells)) W := by
  unfold execOp
  simp only [ho, hp, Sem.run_bind, run_build W T _ _ hc, Result.andThen_ok]
  rfl
end
theorem wp_region_memS {P : Program} {ops : Array Oper} {Q : Exit → Act → World → Prop} {S : World → Prop} {w0 w : World} {l : List (Nat × TypeId × Array Value)} {id : Nat} {a : Act} (E : Hid (Mem w0 l w)) (hm : P.follows .mixedOrders = true)
    (h : ∀ w', Hid (Mem w0 l w') → wpAnyH P .any ops Q S ops.size (Array.replicate ops.size false) a w') : (Code.region id ops true).wp P Q a w :=
  wp_region_held hm (h _ (Lib.hid ⟨⟨E.out.below.os, E.out.below.tape, E.out.below.output, E.out.below.size, E.out.below.block⟩, E.out.has, E.out.nd, E.out.ge⟩))
section
variable {P : Program} {K : Act → World → Prop} {Q : Exit → Act → World → Prop} {op : Oper} {a : Act} {w w0 : World} {l : List (Nat × TypeId × Array Value)}
theorem mo_store_only (i : Nat) (E : Hid (Mem w0 l w)) (ty : TypeId) (x y : Operand) (ho : op.op = .store ty x y) {b T : Nat} {c c' : Array Value} (hx : a.eval x = .pointer (some ⟨b, 0, none⟩)) (hy : a.eval y = .agg c') (hi : l[i]? = some (b, T, c))
    (hs : (P.info? ty).map (·.size) = some c'.size) (hl : c.size = c'.size) (h1 : c'.all (·.oneCell') = true)
    (h : ∀ w', Hid (Mem w0 (l.set i (b, T, c')) w') → Hid (Only b w w') → K (a.put op.dst undef) w') : op.wp P a w K Q := by
  have hg := E.out.get (List.mem_of_getElem? hi)
  have ho' : Only b w (w.setRow b c') := ⟨rfl, rfl, rfl, by simp, fun k _ hk => setRow_other w b k c' hk⟩
  exact wp_store_row ty x y ho b c' hx hy T c hg hs hl h1 (h _ (Lib.hid (E.out.turn hi (setRow_heap w b c c' T _ hg) ho')) (Lib.hid ho'))
end
theorem arr_cells' (n : Nat) (f : Nat → Value) : (Value.agg (arr n f)).cells = arr n f := rfl
theorem run_hash (b o : Nat) (w : World) : (Instr.sliceAt 43 (.pointer (some ⟨b, o, none⟩)) none none none).run Tryd.prog w = .ok (.slice (some ⟨b, o, none⟩) 32 32) w := by
  have hl : Tryd.prog.arrayLen 43 = 32 := by kernel_rfl
  have he : Tryd.prog.elem 43 = 5 := by kernel_rfl
  have ht : Tryd.prog.underlying 43 = some (.array (Tryd.prog.arrayLen 43) (Tryd.prog.elem 43)) := by rw [hl, he]; exact Tryd.underlying43
  have hs : ∀ w, (Go.sizeOf 5).run Tryd.prog w = .ok 1 w := fun w => by kernel_rfl
  rw [run_sliceAt_array_all w 43 ⟨b, o, none⟩ ht, he, hs, hl]
  simp only [Result.andThen_ok, slicedAt]
  rw [if_neg (by omega), Nat.zero_mul, row_add]
  rfl
theorem run_ix {P : Program} {S T k : Nat} (hS : P.underlying S = some (.slice T)) (hk : (P.info? T).map (·.size) = some k) {n c g o j : Nat} {q : IntKind} {i : Int} (hj : j < n) (hi : i = (j : Int)) (w : World) :
    (Instr.indexAt S (.slice (some ⟨g, o, none⟩) n c) (.int q i)).run P w = .ok (.pointer (some ⟨g, o + j * k, none⟩)) w := by
  have he : P.elem S = T := by simp [Program.elem, hS]
  have hS' : P.underlying S = some (.slice (P.elem S)) := by rw [he]; exact hS
  rw [run_indexAt_slice (h := hS'), he, if_pos (by omega)]
  obtain ⟨t, ht, hk'⟩ : ∃ t, P.info? T = some t ∧ t.size = k := by
    cases h : P.info? T with
    | none => rw [h] at hk; cases hk
    | some t => rw [h] at hk; exact ⟨t, rfl, by simpa using hk⟩
  have hs : (sizeOf T).run P w = .ok k w := by simp [sizeOf, typeInfo, ht, hk']
  rw [hs]
  simp only [Result.andThen_ok, row_add, hi, Int.toNat_natCast]
theorem exec_ix {P : Program} {f : Operand → Value} {oi : Oper} {S : TypeId} {x ix : Operand} {W : World} {v : Value} (ho : oi.op = .indexAddr S x ix) (h : (Instr.indexAt S (f x) (f ix)).run P W = .ok v W) : (execOp f oi).run P W = .ok (.value v) W := by
  unfold execOp
  simp only [ho, Sem.run_bind, h, Result.andThen_ok]
  rfl
section
variable {P : Program} {ops : Array Oper} {rest : List Oper} {Q : Exit → Act → World → Prop} {op : Oper} {a : Act} {w : World}
/-- The address of an element. -/
theorem wpList_ix {S T k : Nat} (hS : P.underlying S = some (.slice T)) (hk : (P.info? T).map (·.size) = some k) (x y : Operand) (ho : op.op = .indexAddr S x y) (hw : Region.wanted op (yielded ops a.tmps) = true) {n c g b j : Nat} {q : IntKind} {i : Int}
    (hx : a.eval x = .slice (some ⟨g, b, none⟩) n c) (hy : a.eval y = .int q i) (hj : j < n) (hi : i = (j : Int)) (h : wpList P ops Q rest (a.put op.dst (.pointer (some ⟨g, b + j * k, none⟩))) w) : wpList P ops Q (op :: rest) a w :=
  BigFrame.wpList_want hw fun _ hK => mo_known _ w (exec_ix ho (by rw [hx, hy]; exact run_ix hS hk hj hi w)) (hK _ _ h)
/-- A struct or an array of parts. -/
theorem wpList_bld (T : TypeId) (parts : Array (Nat × Operand)) (ho : op.op = .build T parts) (hw : Region.wanted op (yielded ops a.tmps) = true) {ps : Array (Nat × Value)} (hp : parts.map (fun (i, x) => (i, a.eval x)) = ps) {cells : Array Value} (hc : P.built T ps.toList = some cells)
    (h : wpList P ops Q rest (a.put op.dst (.agg cells)) w) : wpList P ops Q (op :: rest) a w :=
  BigFrame.wpList_want hw fun _ hK => mo_known _ w (exec_build ho hp hc) (hK _ _ h)
/-- A row or a cell, loaded. -/
theorem wpList_ld (ty : TypeId) (x : Operand) (ho : op.op = .load ty x) (hw : Region.wanted op (yielded ops a.tmps) = true) {ad : Addr} (hx : a.eval x = .pointer (some ad)) {v : Value} (hl : (Instr.loadAt ty (.pointer (some ad))).run P w = .ok v w)
    (h : wpList P ops Q rest (a.put op.dst v) w) : wpList P ops Q (op :: rest) a w :=
  BigFrame.wpList_want hw fun _ hK => mo_known _ w (by
    unfold execOp
    simp only [ho, hx, Sem.run_bind, hl, Result.andThen_ok]
    rfl) (hK _ _ h)
/-- One cell, loaded. -/
theorem wpList_ld1 (ty : TypeId) (x : Operand) (ho : op.op = .load ty x) (hw : Region.wanted op (yielded ops a.tmps) = true) {ad : Addr} (hx : a.eval x = .pointer (some ad)) {d : TypeDesc} (hu : P.underlying ty = some d) (hd : d.isRow = false) {v : Value} (hc : w.cell? ad = some v)
    (h : wpList P ops Q rest (a.put op.dst v) w) : wpList P ops Q (op :: rest) a w :=
  BigFrame.wpList_want hw fun _ hK => mo_known _ w (by
    unfold execOp
    simp only [ho, hx, Sem.run_bind, run_load_one hu hd hc, Result.andThen_ok]
    rfl) (hK _ _ h)
end

section
variable {P : Program} {ops : Array Oper} {C : World → Prop} {Q : Act → Prop} {a : Act} {o : Oper} {rest : List Oper}
theorem wpQuiet_pure (v : Value) (hw : Region.wanted o (yielded ops a.tmps) = true) (hl : ∀ w, (execOp a.eval o).run P w = .ok (.value v) w) (h : wpQuiet P ops C Q rest (a.put o.dst v)) : wpQuiet P ops C Q (o :: rest) a := by
  show if _ then _ else _
  rw [if_pos hw]
  refine ⟨v, fun w hC => ?_, h⟩
  unfold Oper.quietAt
  rw [hl w]
  exact ⟨rfl, rfl⟩
theorem wpQuiet_ix {S T k : Nat} (hS : P.underlying S = some (.slice T)) (hk : (P.info? T).map (·.size) = some k) (x y : Operand) (ho : o.op = .indexAddr S x y) (hw : Region.wanted o (yielded ops a.tmps) = true) {n c g b j : Nat} {q : IntKind} {i : Int}
    (hx : a.eval x = .slice (some ⟨g, b, none⟩) n c) (hy : a.eval y = .int q i) (hj : j < n) (hi : i = (j : Int)) (h : wpQuiet P ops C Q rest (a.put o.dst (.pointer (some ⟨g, b + j * k, none⟩)))) : wpQuiet P ops C Q (o :: rest) a :=
  wpQuiet_pure _ hw (fun w => exec_ix ho (by rw [hx, hy]; exact run_ix hS hk hj hi w)) h
/-- A row at any address, loaded in a quiet region. -/
theorem wpQuiet_load_at (ty : TypeId) (x : Operand) (ho : o.op = .load ty x) (hw : Region.wanted o (yielded ops a.tmps) = true) (ad : Addr)
    (hx : a.eval x = .pointer (some ad)) (v : Value) (hl : ∀ w, C w → (Instr.loadAt ty (.pointer (some ad))).run P w = .ok v w) (h : wpQuiet P ops C Q rest (a.put o.dst v)) : wpQuiet P ops C Q (o :: rest) a := by
  show if _ then _ else _
  rw [if_pos hw]
  refine ⟨v, fun w hC => ?_, h⟩
  unfold Oper.quietAt execOp
  simp only [ho, hx, Sem.run_bind, Sem.run_pure, hl w hC, Result.andThen_ok]
  exact ⟨rfl, rfl⟩
end
section
variable {o : Oper} {ev : Operand → Value} {W : World} {x y : Operand} {a b r : Int}
theorem exec_add (ho : o.op = .binOp .add 3 x y 3) (hx : ev x = .int .i64 a) (hy : ev y = .int .i64 b) (hr : IntKind.i64.wrap (a + b) = r) : (execOp ev o).run Tryd.prog W = .ok (.value (.int .i64 r)) W := by
  subst hr
  unfold execOp
  simp [ho, hx, hy, go_sem, binOp]
theorem exec_sub (ho : o.op = .binOp .sub 3 x y 3) (hx : ev x = .int .i64 a) (hy : ev y = .int .i64 b) (hr : IntKind.i64.wrap (a - b) = r) : (execOp ev o).run Tryd.prog W = .ok (.value (.int .i64 r)) W := by
  subst hr
  unfold execOp
  simp [ho, hx, hy, go_sem, binOp]
theorem exec_min (ho : o.op = .call { callee := .builtin .min, args := #[x, y], argTypes := #[3, 3] }) (ht : o.type = 3) (hx : ev x = .int .i64 a) (hy : ev y = .int .i64 b) (hr : min a b = r) : (execOp ev o).run Tryd.prog W = .ok (.value (.int .i64 r)) W := by
  subst hr
  unfold execOp
  simp [ho, hx, hy, go_sem, resolve, invoke, builtin, ht]
  split <;> omega
theorem exec_len {S T : Nat} (hS : Tryd.prog.underlying S = some (.slice T)) (ho : o.op = .call { callee := .builtin .len, args := #[x], argTypes := #[S] }) {p : Option Addr} {n c : Nat} (hx : ev x = .slice p n c) : (execOp ev o).run Tryd.prog W = .ok (.value (.int .i64 (n : Int))) W := by
  have he : Tryd.prog.elem S = T := by simp [Program.elem, hS]
  have h := run_len_slice (P := Tryd.prog) W S o.type p n c (by rw [he]; exact hS)
  unfold execOp
  simp only [ho, resolve, invoke, builtin, Sem.run_bind, Sem.run_pure, Result.andThen_ok, List.map_toArray, List.map_cons, List.map_nil, hx, h]
  rfl
end
end Go.Proofs.YtghjgkgfpblijaaDoor
end
section
set_option linter.unusedSimpArgs false
set_option linter.unusedVariables false
set_option maxRecDepth 100000
namespace Go.Proofs.YtghjgkgfpblijaaDoor
open Go.RowKit Go.Lib Go.Sort

theorem exec_index {T : TypeId} {o : Oper} {ev : Operand → Value} {W : World} {x y : Operand} (ho : o.op = .index T x y) {v : Value} (h : (Instr.index T (ev x) (ev y)).run Tryd.prog W = .ok v W) : (execOp ev o).run Tryd.prog W = .ok (.value v) W := by
  unfold execOp
  simp only [ho, Sem.run_bind, h, Result.andThen_ok]
  rfl
theorem wpList_known4 {P : Program} {ops : Array Oper} {rest : List Oper} {Q : Exit → Act → World → Prop} {op : Oper} {a : Act} {w : World} (hw : Region.wanted op (yielded ops a.tmps) = true) (v : Value) (w' : World) (hrun : (execOp a.eval op).run P w = .ok (.value v) w') (h : wpList P ops Q rest (a.put op.dst v) w') : wpList P ops Q (op :: rest) a w :=
  BigFrame.wpList_want hw fun _ hK => mo_known v w' hrun (hK _ _ h)
theorem Mem.drewN' {w0 w : World} {l : List (Nat × TypeId × Array Value)} {a : Nat} (E : Mem w0 l w) : Mem w0 l (w.drewN a) := ⟨⟨E.below.os, E.below.tape, E.below.output, E.below.size, E.below.block⟩, E.has, E.nd, E.ge⟩
theorem exec_lenS {o : Oper} {ev : Operand → Value} {W : World} {x : Operand} {s : ByteArray} (ho : o.op = .call { callee := .builtin .len, args := #[x], argTypes := #[9] }) (hx : ev x = .string s) : (execOp ev o).run Tryd.prog W = .ok (.value (.int .i64 (s.size : Int))) W := by
  unfold execOp
  simp [ho, hx, resolve, invoke, builtin, go_sem, Tryd.underlying9]
/-- The operation that writes a slot: a guard ahead of an arm. -/
theorem wpList_at {P : Program} {ops : Array Oper} {rest : List Oper} {Q : Exit → Act → World → Prop} {op : Oper} {a : Act} {w : World} (t : Nat) (hd : op.dst = some t) (h : wpList P ops Q (op :: rest) a w) : wpList P ops Q (op :: rest) a w := h
theorem exec_cv {o : Oper} {ev : Operand → Value} {W W' : World} {S T : TypeId} {x : Operand} {u : Value} (ho : o.op = .convert S T x) (h : (convert S T (ev x)).run Tryd.prog W = .ok u W') : (execOp ev o).run Tryd.prog W = .ok (.value u) W' := by
  unfold execOp
  simp only [ho, Sem.run_bind, h, Result.andThen_ok]
  rfl
section
variable {ops : Array Oper} {rest : List Oper} {Q : Exit → Act → World → Prop} {op : Oper} {a : Act} {w w0 : World} {l : List (Nat × TypeId × Array Value)}
/-- A slice of written bytes, where a guard may stand. -/
theorem wpList_bsw (hw : Region.wanted op (yielded ops a.tmps) = true) (m : Nat) (parts : Array (Nat × Operand)) (ho : op.op = .buildSlice 22 m parts) (E : Hid (Mem w0 l w)) (x : Nat → Nat) (hx : ∀ i, x i < 256) (hm : m ≤ maxLen)
    (hr : ∀ w : World, (Instr.buildSlice 22 m (parts.map fun (i, y) => (i, a.eval y))).run Tryd.prog w = .ok (.slice (some ⟨w.heap.size, 0, none⟩) m m) (w.alloc (.cells (fbs x m).toArray 5)))
    (k : ∀ B p g w', Hid (Work w0 l B p g m m x w') → wpList Tryd.prog ops Q rest (a.put op.dst (.slice p m m)) w') : wpList Tryd.prog ops Q (op :: rest) a w := by
  refine wpList_known4 hw (.slice (some ⟨w.heap.size, 0, none⟩) m m) (w.alloc (.cells (fbs x m).toArray 5)) ?_ (k _ _ _ _ (Lib.hid (Work.start E.out (own_new w x m hm hx) (below_new w _))))
  unfold execOp
  simp only [ho, Sem.run_bind, hr w, Result.andThen_ok]
  rfl
end
theorem own_put {w : World} {p : Option Addr} {B g n c i v : Nat} {x : Nat → Nat} (N : Own B w p g n c x) (hi : i < n) (hv : v < 256) : Own B (w.setCell ⟨g, i, none⟩ (.int .u8 (v : Int))) p g n c (fun k => if k = i then v else x k) ∧ Below B w (w.setCell ⟨g, i, none⟩ (.int .u8 (v : Int))) ∧ w.frozen? ⟨g, i, none⟩ = false := by
  obtain rfl := N.row.head (by omega)
  obtain ⟨hl, h | ⟨g', cap, cur, hv', hb, hg, hn, hc, hs, ht⟩⟩ := N.own
  · cases h.1
  · cases hv'
    rw [Nat.mul_one] at hs ht
    have H := (Holds.start hg).set (i := i) (v := .int .u8 (v : Int)) rfl
    have hb2 : Below B w (w.setCell ⟨g, i, none⟩ (.int .u8 (v : Int))) := ⟨H.only.os, H.only.tape, H.only.output, H.only.size, fun k hk => H.only.block k (by have := N.low; omega) (by omega)⟩
    refine ⟨⟨⟨by rw [fbs_length, Nat.mul_one], .inr ⟨g, c, _, rfl, hb, H.here, hn, hc, by rw [Array.size_setIfInBounds, hs, Nat.mul_one], ?_⟩⟩, .inr rfl, fun k => ?_, Nat.le_trans N.low hb2.size⟩, hb2, free_of_here hg i⟩
    · rw [Nat.mul_one]
      apply List.ext_getElem?
      intro k
      have h1 : (cur.toList.take n)[k]? = (fbs x n)[k]? := by rw [ht]
      rcases Nat.lt_or_ge k n with q | q
      · rw [List.getElem?_take_of_lt q] at h1 ⊢
        rw [fbs_at _ _ _ q] at h1 ⊢
        rw [Array.toList_setIfInBounds, List.getElem?_set]
        by_cases e : i = k
        · subst e
          rw [if_pos rfl, if_pos (by rw [Array.length_toList]; omega), if_pos rfl]
        · rw [if_neg e, if_neg (fun h => e h.symm), h1]
      · rw [List.getElem?_eq_none (by rw [List.length_take]; omega), List.getElem?_eq_none (by rw [fbs_length]; exact q)]
    · split
      · exact hv
      · exact N.byte k
section
variable {ops : Array Oper} {rest : List Oper} {Q : Exit → Act → World → Prop} {op : Oper} {a : Act} {w : World}
theorem wpList_atn {P : Program} (hd : op.dst = none) (h : wpList P ops Q (op :: rest) a w) : wpList P ops Q (op :: rest) a w := h
/-- A byte, stored into a row of the call's own. -/
theorem wpList_bput (hg : op.guard = none) (x y : Operand) (ho : op.op = .store 5 x y) {B g n c i v : Nat} {p : Option Addr} {f : Nat → Nat} (N : Hid (Own B w p g n c f)) (hx : a.eval x = .pointer (some ⟨g, 0 + i * 1, none⟩)) (hy : a.eval y = .int .u8 (v : Int)) (hi : i < n) (hv : v < 256)
    (k : ∀ w', Hid (Own B w' p g n c fun k => if k = i then v else f k) → Hid (Below B w w') → wpList Tryd.prog ops Q rest (a.put op.dst undef) w') : wpList Tryd.prog ops Q (op :: rest) a w := by
  obtain ⟨O, hb, hf⟩ := own_put N.out hi hv
  rw [Nat.zero_add, Nat.mul_one] at hx
  have hc := N.out.row.cell i hi
  rw [Nat.zero_add] at hc
  refine wpList_plain hg fun K hK => ?_
  unfold Oper.wp execOp
  simp only [ho, hx, hy, Sem.run_bind, Sem.run_pure, run_store_one (P := Tryd.prog) (ty := 5) (v := .int .u8 (v : Int)) (by kernel_rfl) rfl rfl hc hf, Result.andThen_ok]
  exact hK _ _ (k _ (Lib.hid O) (Lib.hid hb))
theorem wpList_bput0 (hg : op.guard = none) (x y : Operand) (ho : op.op = .store 5 x y) {B g n c i v : Nat} {p : Option Addr} {f : Nat → Nat} (N : Hid (Own B w p g n c f)) (hx : a.eval x = .pointer (some ⟨g, i, none⟩)) (hy : a.eval y = .int .u8 (v : Int)) (hi : i < n) (hv : v < 256)
    (k : ∀ w', Hid (Own B w' p g n c fun k => if k = i then v else f k) → Hid (Below B w w') → wpList Tryd.prog ops Q rest (a.put op.dst undef) w') : wpList Tryd.prog ops Q (op :: rest) a w :=
  wpList_bput hg x y ho N (by rw [Nat.zero_add, Nat.mul_one]; exact hx) hy hi hv k
end
end Go.Proofs.YtghjgkgfpblijaaDoor
end
section
set_option linter.unusedSimpArgs false
set_option maxRecDepth 100000
namespace Go.Proofs.YtghjgkgfpblijaaDoor
open Go.RowKit Go.Lib

/-- m cells, told by V. -/
def vs (V : Nat → Value) (m : Nat) : List Value := (List.range m).map V
theorem vs_length (V : Nat → Value) (m : Nat) : (vs V m).length = m := by simp [vs]
theorem vs_at (V : Nat → Value) (m j : Nat) (h : j < m) : (vs V m)[j]? = some (V j) := by
  unfold vs
  rw [List.getElem?_map, List.getElem?_range h]
  rfl
theorem vs_get (V : Nat → Value) (m j : Nat) (v : Value) (h : (vs V m)[j]? = some v) : j < m ∧ v = V j := by
  rcases Nat.lt_or_ge j m with q | q
  · rw [vs_at V m j q] at h
    exact ⟨q, by simpa using h.symm⟩
  · rw [List.getElem?_eq_none (by rw [vs_length]; exact q)] at h
    cases h
theorem vs_one {V : Nat → Value} {m : Nat} (h : ∀ i, i < m → (V i).oneCell' = true) : ∀ u ∈ vs V m, u.oneCell' = true := fun u hu => by
  obtain ⟨i, hi, rfl⟩ := List.mem_map.1 hu
  exact h i (by simpa using hi)
theorem vs_congr {V U : Nat → Value} {m : Nat} (h : ∀ i, i < m → V i = U i) : vs V m = vs U m := List.map_congr_left fun i hi => h i (by simpa using hi)
/-- V's first m, then U. -/
def vcat (V : Nat → Value) (m : Nat) (U : Nat → Value) : Nat → Value := fun i => if i < m then V i else U (i - m)
theorem vs_cat (V U : Nat → Value) (m k : Nat) : vs V m ++ vs U k = vs (vcat V m U) (m + k) := by
  apply List.ext_getElem?
  intro j
  rcases Nat.lt_or_ge j m with h | h
  · rw [List.getElem?_append_left (by rw [vs_length]; exact h), vs_at _ _ _ h, vs_at _ _ _ (by omega)]
    unfold vcat; rw [if_pos h]
  · rw [List.getElem?_append_right (by rw [vs_length]; exact h), vs_length]
    rcases Nat.lt_or_ge j (m + k) with h2 | h2
    · rw [vs_at _ _ _ (by omega), vs_at _ _ _ h2]
      unfold vcat; rw [if_neg (by omega)]
    · rw [List.getElem?_eq_none (by rw [vs_length]; omega), List.getElem?_eq_none (by rw [vs_length]; omega)]

/-- A slice of n elements of k cells each, of room c, reads so in w. -/
structure VRow (k : Nat) (w : World) (p : Option Addr) (g o n c : Nat) (V : Nat → Value) : Prop where
  le : n ≤ c
  cap : c ≤ maxLen
  nil : p = none → n = 0 ∧ c = 0
  head : 0 < n → p = some ⟨g, o, none⟩
  cell : ∀ i, i < n * k → w.cell? ⟨g, o + i, none⟩ = some (V i)
  one : ∀ i, i < n * k → (V i).oneCell' = true
section
variable {w w' w0 : World} {k : Nat} {p : Option Addr} {g o n c : Nat} {V U : Nat → Value}
theorem VRow.below (h : VRow k w p g o n c V) (hb : Below w.heap.size w w') : VRow k w' p g o n c V :=
  ⟨h.le, h.cap, h.nil, h.head, fun i hi => by rw [hb.cell (cell_lt (h.cell i hi))]; exact h.cell i hi, h.one⟩
theorem VRow.to (h : VRow k w p g o n c V) (e : ∀ i, i < n * k → V i = U i) : VRow k w p g o n c U :=
  ⟨h.le, h.cap, h.nil, h.head, fun i hi => by rw [← e i hi]; exact h.cell i hi, fun i hi => by rw [← e i hi]; exact h.one i hi⟩
theorem VRow.nothing (k : Nat) (w : World) (V : Nat → Value) : VRow k w none 0 0 0 0 V :=
  ⟨Nat.le_refl _, by unfold maxLen; omega, fun _ => ⟨rfl, rfl⟩, fun h => absurd h (by omega), fun i hi => absurd hi (by omega), fun i hi => absurd hi (by omega)⟩
/-- The element i, as a row of cells. -/
theorem VRow.elem (R : VRow k w p g o n c V) {i : Nat} (hi : i < n) : w.rangeAt g (o + i * k) (vs (fun j => V (i * k + j)) k) := fun j v hj => by
  obtain ⟨h, rfl⟩ := vs_get _ _ _ _ hj
  have h2 : i * k + j < n * k := by
    have : (i + 1) * k ≤ n * k := Nat.mul_le_mul_right k hi
    rw [Nat.add_mul] at this
    omega
  rw [show o + i * k + j = o + (i * k + j) from by omega]
  exact R.cell _ h2
theorem vs_arr (V : Nat → Value) (k : Nat) : (vs V k).toArray = arr k V := by
  apply Array.ext_getElem?
  intro i
  rw [List.getElem?_toArray]
  rcases Nat.lt_or_ge i k with h | h
  · rw [vs_at _ _ _ h, arr_get k V i h]
  · rw [List.getElem?_eq_none (by rw [vs_length]; exact h), Array.getElem?_eq_none (by rw [arr_size]; exact h)]
/-- The element i, loaded. -/
theorem VRow.load {P : Program} {ty : TypeId} {d : TypeDesc} (R : VRow k w p g o n c V) {i : Nat} (hi : i < n) (hu : P.underlying ty = some d) (hd : d.isRow = true) (hs : (P.info? ty).map (·.size) = some k) :
    (Instr.loadAt ty (.pointer (some ⟨g, o + i * k, none⟩))).run P w = .ok (.agg (arr k fun j => V (i * k + j))) w := by
  have := run_loadAt_mid (P := P) w g (o + i * k) ty (vs (fun j => V (i * k + j)) k) d (R.elem hi) hu hd (by rw [hs, vs_length])
  rwa [vs_arr] at this
theorem VRow.arr_one (R : VRow k w p g o n c V) {i : Nat} (hi : i < n) : (arr k fun j => V (i * k + j)).all (·.oneCell') = true := Array.all_eq_true_iff_forall_mem.2 fun v hv => by
  obtain ⟨j, hj, rfl⟩ := Array.getElem_of_mem hv
  rw [arr_size] at hj
  have e : (arr k fun j => V (i * k + j))[j]? = some (V (i * k + j)) := arr_get k _ j hj
  rw [Array.getElem?_eq_getElem (by rw [arr_size]; exact hj)] at e
  injection e with e
  rw [e]
  refine R.one _ ?_
  have : (i + 1) * k ≤ n * k := Nat.mul_le_mul_right k hi
  rw [Nat.add_mul] at this
  omega
theorem VRow.slice (R : VRow k w p g o n c V) {l h m : Nat} (h1 : l ≤ h) (h2 : h ≤ n) (h3 : h ≤ m) (h4 : m ≤ c) :
    ∃ p', sliced p l h m k = .slice p' (h - l) (m - l) ∧ VRow k w p' g (o + l * k) (h - l) (m - l) (fun i => V (l * k + i)) := by
  have key : ∀ i, i < (h - l) * k → l * k + i < n * k := fun i hi => by
    have : (l + (h - l)) * k ≤ n * k := Nat.mul_le_mul_right k (by omega)
    rw [Nat.add_mul] at this
    omega
  refine ⟨_, rfl, by omega, by have := R.cap; omega, ?_, ?_, fun i hi => ?_, fun i hi => R.one _ (key i hi)⟩
  · intro hn
    by_cases e : m = l
    · omega
    · rw [if_neg e] at hn
      cases p with
      | none => have := (R.nil rfl).2; omega
      | some a => cases hn
  · intro hp
    rw [if_neg (by omega), R.head (by omega)]
    show some ((⟨g, o, none⟩ : Addr).add (l * k)) = _
    rw [row_add]
  · rw [show o + l * k + i = o + (l * k + i) from by omega]
    exact R.cell _ (key i hi)
end

/-- A slice of elements in a block of the call's own: its first n are told by V. -/
structure VOwn (T k : Nat) (B : Nat) (w : World) (p : Option Addr) (g n c : Nat) (V : Nat → Value) : Prop where
  own : w.ownsRow B T k (.slice p n c) n (vs V (n * k))
  spot : p = none ∨ p = some ⟨g, 0, none⟩
  one : ∀ i, i < n * k → (V i).oneCell' = true
  low : B ≤ w.heap.size
section
variable {w w' w0 : World} {T k : Nat} {p : Option Addr} {B g n c : Nat} {V U : Nat → Value}
theorem VOwn.row (h : VOwn T k B w p g n c V) : VRow k w p g 0 n c V := by
  have h0 := h.own
  obtain ⟨_, h1⟩ := h.own
  rcases h1 with ⟨h1, h2⟩ | ⟨g', cap, cur, h1, h2, h3, h4, h5, h6, h7⟩
  · injection h1 with a1 a2 a3
    subst a1 h2 a3
    exact ⟨Nat.le_refl _, by unfold maxLen; omega, fun _ => ⟨rfl, rfl⟩, fun h => absurd h (by omega), fun i hi => absurd hi (by omega), h.one⟩
  · injection h1 with a1 a2 a3
    subst a1 a3
    rcases h.spot with q | q
    · cases q
    · injection q with q
      injection q with q1
      subst q1
      refine ⟨h4, h5, fun h => (by cases h), fun _ => rfl, fun i hi => ?_, h.one⟩
      have := World.ownsRow.cells h0 (g := g') rfl i _ (vs_at V _ i hi)
      rwa [row_add] at this
theorem vown_of {v : Value} (h : w.ownsRow B T k v n (vs V (n * k))) (hV : ∀ i, i < n * k → (V i).oneCell' = true) (hB : B ≤ w.heap.size) : ∃ p g c, v = .slice p n c ∧ VOwn T k B w p g n c V := by
  have h' := h
  obtain ⟨_, h1⟩ := h
  rcases h1 with ⟨rfl, rfl⟩ | ⟨g', cap, cur, rfl, h2, h3, h4, h5, h6, h7⟩
  · exact ⟨none, 0, 0, rfl, h', .inl rfl, hV, hB⟩
  · exact ⟨_, g', cap, rfl, h', .inr rfl, hV, hB⟩
/-- What another row's growth leaves. -/
theorem VOwn.kept {row : Option Nat} (h : VOwn T k B w p g n c V) (hg : w.grownBy w' row) (hne : p = none ∨ row ≠ some g) : VOwn T k B w' p g n c V := by
  refine ⟨h.own.kept hg ?_, h.spot, h.one, Nat.le_trans h.low hg.size⟩
  rcases hne with rfl | hne
  · exact .inl rfl
  · rcases h.spot with rfl | rfl
    · exact .inl rfl
    · exact .inr (fun e => hne e.symm)
theorem grown_of_below (hb : Below w.heap.size w w') (row : Option Nat) : w.grownBy w' row := ⟨hb.os, hb.tape, hb.output, hb.size, fun k hk _ => hb.block k hk⟩
theorem VOwn.below (h : VOwn T k B w p g n c V) (hb : Below w.heap.size w w') : VOwn T k B w' p g n c V := h.kept (grown_of_below hb none) (.inr (by simp))
theorem VOwn.to (h : VOwn T k B w p g n c V) (e : ∀ i, i < n * k → V i = U i) : VOwn T k B w p g n c U :=
  ⟨by rw [← vs_congr e]; exact h.own, h.spot, fun i hi => by rw [← e i hi]; exact h.one i hi, h.low⟩
theorem VOwn.mono {B' : Nat} (h : VOwn T k B w p g n c V) (hB : B' ≤ B) : VOwn T k B' w p g n c V := by
  refine ⟨?_, h.spot, h.one, Nat.le_trans hB h.low⟩
  obtain ⟨h0, h1⟩ := h.own
  refine ⟨h0, ?_⟩
  rcases h1 with h1 | ⟨g', cap, cur, h1, h2, h3⟩
  · exact Or.inl h1
  · exact Or.inr ⟨g', cap, cur, h1, Nat.le_trans hB h2, h3⟩
theorem vown_nothing (w : World) (T k B : Nat) (V : Nat → Value) (hB : B ≤ w.heap.size) : VOwn T k B w none 0 0 0 V := ⟨by rw [Nat.zero_mul]; exact World.ownsRow_nil w B T k, .inl rfl, fun i hi => absurd hi (by omega), hB⟩
theorem vown_new (w : World) (T k : Nat) (V : Nat → Value) (n : Nat) (hn : n ≤ maxLen) (hV : ∀ i, i < n * k → (V i).oneCell' = true) : VOwn T k w.heap.size (w.alloc (.cells (vs V (n * k)).toArray T)) (some ⟨w.heap.size, 0, none⟩) w.heap.size n n V :=
  ⟨⟨vs_length _ _, .inr ⟨w.heap.size, n, (vs V (n * k)).toArray, rfl, Nat.le_refl _, here_new w _ _, Nat.le_refl _, hn, by rw [List.size_toArray, vs_length], by
    rw [List.take_of_length_le (by simp [vs_length])]⟩⟩, .inr rfl, hV, by simp⟩
/-- Its block's type. -/
theorem VOwn.typed (h : VOwn T k B w p g n c V) : p = none ∨ ∃ cur, w.heap[g]? = some (.cells cur T (0, 0)) ∧ B ≤ g := by
  rcases h.own.2 with ⟨h1, _⟩ | ⟨g', cap, cur, h1, h2, h3, _⟩
  · injection h1 with a1; exact .inl a1
  · injection h1 with a1
    rcases h.spot with q | q
    · exact .inl q
    · rw [q] at a1; injection a1 with a1; injection a1 with a1
      subst a1
      exact .inr ⟨cur, h3, h2⟩
theorem VOwn.under (h : VOwn T k B w p g n c V) {B' : Nat} (hg : w.grownBy w' ((Value.slice p n c).ownBlock)) (hB : B' ≤ B) (hw : B' ≤ w.heap.size) : Below B' w w' :=
  (Below.refl _ _).grown hg hw fun q hq => Nat.le_trans hB (World.ownsRow.lt h.own q hq).1
/-- Blocks of another type are as they were. -/
theorem VOwn.other (h : VOwn T k B w p g n c V) (hg : w.grownBy w' ((Value.slice p n c).ownBlock)) {q : Nat} {cc : Array Value} {T' : TypeId} (hT : T' ≠ T) (hq : w.heap[q]? = some (.cells cc T' (0, 0))) : w'.heap[q]? = some (.cells cc T' (0, 0)) := by
  rw [hg.block q (heap_lt hq) (fun e => ?_)]
  · exact hq
  · rcases h.typed with rfl | ⟨cur, h1, _⟩
    · cases e
    · rcases h.spot with rfl | rfl
      · cases e
      · injection e with e
        have e2 : q = g := e
        rw [e2, h1] at hq
        injection hq with hq
        injection hq with _ hq _
        exact hT hq.symm
end
section
variable {P : Program} {ops : Array Oper} {rest : List Oper} {Q : Exit → Act → World → Prop} {K : Act → World → Prop} {op : Oper} {a : Act} {w : World}
/-- An append to a slice of the call's own. -/
theorem mo_vapp (S T k bytes : Nat) (hS : P.underlying S = some (.slice T)) {z : Value} (hT : (P.info? T).map (fun i => (i.zero, i.size, i.bytes)) = some (some z, k, bytes)) (hz : z.cells.size = k) (hk : 0 < k)
    (s t : Operand) (ho : op.op = .call { callee := .builtin .append, args := #[s, t], argTypes := #[S, S] }) {B g n c : Nat} {p : Option Addr} {V : Nat → Value} (hs : a.eval s = .slice p n c) (N : Hid (VOwn T k B w p g n c V))
    {q : Option Addr} {h o m d : Nat} {U : Nat → Value} (ht : a.eval t = .slice q m d) (R : Hid (VRow k w q h o m d U)) (hlen : n + m ≤ maxLen) (hby : (n + m) * bytes ≤ 140737488355328)
    (kk : ∀ p' g' c' w', Hid (VOwn T k B w' p' g' (n + m) c' (vcat V (n * k) U)) → Hid (w.grownBy w' ((Value.slice p n c).ownBlock)) → K (a.put op.dst (.slice p' (n + m) c')) w') : op.wp P a w K Q := by
  obtain ⟨i0, hi, hz0, hz1, hz2⟩ := info_parts hT
  have one : ∀ i, i < (n + m) * k → (vcat V (n * k) U i).oneCell' = true := fun i hi => by
    unfold vcat
    rw [Nat.add_mul] at hi
    split
    · exact N.out.one i (by assumption)
    · exact R.out.one _ (by omega)
  cases q with
  | none =>
    obtain ⟨rfl, rfl⟩ := R.out.nil rfl
    have hrun := run_append_owned_none (P := P) (w := w) B S op.type T i0 k hS hi _ n _ N.out.own
    refine mo_known (.slice p n c) w ?_ (kk p g c w (Lib.hid (N.out.to (fun i hi => by unfold vcat; rw [if_pos hi]))) (Lib.hid (World.grownBy.refl _ _)))
    simp [execOp, ho, resolve, invoke, builtin, hs, ht, hrun, Result.andThen]
  | some ad =>
    refine wp_append_own (P := P) w s t S ho B T i0 z k bytes hS hi hz0 hz1 hz2 hz hk _ _ _ hs N.out.own ad m d (vs U (m * k)) ht (vs_length _ _) ?_ (vs_one R.out.one) hlen hby N.out.low ?_
    · intro j u hu
      obtain ⟨hj, rfl⟩ := vs_get _ _ _ _ hu
      have hm : 0 < m := by
        rcases Nat.eq_zero_or_pos m with e | e
        · rw [e, Nat.zero_mul] at hj; omega
        · exact e
      obtain rfl := Option.some.inj (R.out.head hm)
      rw [row_add]
      exact R.out.cell j hj
    · intro v' w' hown hgrow hnil
      rw [vs_cat, ← Nat.add_mul] at hown
      obtain ⟨p', g', c', rfl, N'⟩ := vown_of hown one (Nat.le_trans N.out.low hgrow.size)
      exact kk p' g' c' w' (Lib.hid N') (Lib.hid hgrow)
theorem wpList_vapp (S T k bytes : Nat) (hS : P.underlying S = some (.slice T)) {z : Value} (hT : (P.info? T).map (fun i => (i.zero, i.size, i.bytes)) = some (some z, k, bytes)) (hz : z.cells.size = k) (hk : 0 < k)
    (hw : Region.wanted op (yielded ops a.tmps) = true) (s t : Operand) (ho : op.op = .call { callee := .builtin .append, args := #[s, t], argTypes := #[S, S] }) {B g n c : Nat} {p : Option Addr} {V : Nat → Value} (hs : a.eval s = .slice p n c) (N : Hid (VOwn T k B w p g n c V))
    {q : Option Addr} {h o m d : Nat} {U : Nat → Value} (ht : a.eval t = .slice q m d) (R : Hid (VRow k w q h o m d U)) (hlen : n + m ≤ maxLen) (hby : (n + m) * bytes ≤ 140737488355328)
    (kk : ∀ p' g' c' w', Hid (VOwn T k B w' p' g' (n + m) c' (vcat V (n * k) U)) → Hid (w.grownBy w' ((Value.slice p n c).ownBlock)) → wpList P ops Q rest (a.put op.dst (.slice p' (n + m) c')) w') : wpList P ops Q (op :: rest) a w :=
  BigFrame.wpList_want hw fun _ hK => mo_vapp S T k bytes hS hT hz hk s t ho hs N ht R hlen hby fun p' g' c' w' N' hg => hK _ _ (kk p' g' c' w' N' hg)
/-- A new slice with room for m, nothing in it yet. -/
theorem wpList_vmk (S T k bytes : Nat) (hS : P.underlying S = some (.slice T)) {z : Value} (hT : (P.info? T).map (fun i => (i.zero, i.size, i.bytes)) = some (some z, k, bytes))
    (hgd : op.guard = none) (lo co : Operand) (ho : op.op = .makeSlice S lo co) (m : Nat) (C : Int) (hl : a.eval lo = .int .i64 0) (hc : a.eval co = .int .i64 C) (hC : C = ((m : Nat) : Int)) (hm : m ≤ maxLen) (hby : bytes * m ≤ 281474976710656) (V : Nat → Value)
    (kk : ∀ p g w', Hid (VOwn T k w.heap.size w' p g 0 m V) → Hid (Below w.heap.size w w') → wpList P ops Q rest (a.put op.dst (.slice p 0 m)) w') : wpList P ops Q (op :: rest) a w := by
  obtain ⟨i0, hi, hz0, hz1, hz2⟩ := info_parts hT
  refine wpList_make_own (P := P) w hgd lo co S ho w.heap.size T i0 z k hS hi hz0 hz1 .i64 .i64 C m hl hc hC (by rw [hz2]; exact hby) hm (Nat.le_refl _) ?_
  intro w' hown hgrow
  have hb : Below w.heap.size w w' := (Below.refl _ _).grown hgrow (Nat.le_refl _) fun k hk => by cases hk
  exact kk _ _ w' (Lib.hid ⟨by rw [Nat.zero_mul]; exact hown, .inr rfl, fun i hi => absurd hi (by omega), hb.size⟩) (Lib.hid hb)
/-- A slice of written elements. -/
theorem mo_vbs (S T k m : Nat) (parts : Array (Nat × Operand)) (ho : op.op = .buildSlice S m parts) (V : Nat → Value) (hV : ∀ i, i < m * k → (V i).oneCell' = true) (hm : m ≤ maxLen)
    {ps : Array (Nat × Value)} (hp : (parts.map fun (i, y) => (i, a.eval y)) = ps) {cs : Array Value} (hr : ∀ w : World, (Instr.buildSlice S m ps).run P w = .ok (.slice (some ⟨w.heap.size, 0, none⟩) m m) (w.alloc (.cells cs T))) (hcs : cs.toList = vs V (m * k))
    (kk : ∀ p g w', Hid (VOwn T k w.heap.size w' p g m m V) → Hid (Below w.heap.size w w') → K (a.put op.dst (.slice p m m)) w') : op.wp P a w K Q := by
  have e : cs = (vs V (m * k)).toArray := by rw [← hcs]
  subst e
  refine mo_known (.slice (some ⟨w.heap.size, 0, none⟩) m m) (w.alloc (.cells (vs V (m * k)).toArray T)) ?_ (kk _ _ _ (Lib.hid (vown_new w T k V m hm hV)) (Lib.hid (below_new w _)))
  unfold execOp
  simp only [ho, hp, Sem.run_bind, hr w, Result.andThen_ok]
  rfl
theorem wpList_vbs (S T k m : Nat) (hw : Region.wanted op (yielded ops a.tmps) = true) (parts : Array (Nat × Operand)) (ho : op.op = .buildSlice S m parts) (V : Nat → Value) (hV : ∀ i, i < m * k → (V i).oneCell' = true) (hm : m ≤ maxLen)
    {ps : Array (Nat × Value)} (hp : (parts.map fun (i, y) => (i, a.eval y)) = ps) {cs : Array Value} (hr : ∀ w : World, (Instr.buildSlice S m ps).run P w = .ok (.slice (some ⟨w.heap.size, 0, none⟩) m m) (w.alloc (.cells cs T))) (hcs : cs.toList = vs V (m * k))
    (kk : ∀ p g w', Hid (VOwn T k w.heap.size w' p g m m V) → Hid (Below w.heap.size w w') → wpList P ops Q rest (a.put op.dst (.slice p m m)) w') : wpList P ops Q (op :: rest) a w :=
  BigFrame.wpList_want hw fun _ hK => mo_vbs S T k m parts ho V hV hm hp hr hcs fun p g w' N hb => hK _ _ (kk p g w' N hb)
end
end Go.Proofs.YtghjgkgfpblijaaDoor
end
section
set_option linter.unusedSimpArgs false
set_option maxRecDepth 100000
namespace Go.Proofs.YtghjgkgfpblijaaDoor
open Go.RowKit Go.Lib

theorem run_eqItems_all {P : Program} (d : Nat) {e : TypeId} {k : IntKind} (he : P.underlying e = some (.int k)) (hc : P.cellsOf e = 1) (n : Nat) (f g : Nat → Int) (w : World) : ∀ (is : List Nat), (∀ i, i ∈ is → i < n) →
    (Op.eqItems (d + 1) e (P.cellsOf e) (arr n fun i => .int k (f i)) (arr n fun i => .int k (g i)) is).run P w = .ok (is.all fun i => f i == g i) w
  | [], _ => by simp [Op.eqItems]
  | i :: is, h => by
    have hp : P.plainKey e = true := by unfold Program.plainKey; rw [he]
    have hx : (arr n fun i => Value.int k (f i))[i * P.cellsOf e]? = some (.int k (f i)) := by
      rw [hc, Nat.mul_one]
      exact arr_get n _ i (h i (by simp))
    have hy : (arr n fun i => Value.int k (g i))[i * P.cellsOf e]? = some (.int k (g i)) := by
      rw [hc, Nat.mul_one]
      exact arr_get n _ i (h i (by simp))
    simp only [Op.eqItems, Sem.run_bind, run_part_plain w hp hx, run_part_plain w hp hy, Result.andThen_ok, run_equalIn_int w d e k k _ _ he]
    by_cases e1 : f i = g i
    · have h1 := run_eqItems_all d he hc n f g w is (fun j hj => h j (by simp [hj]))
      simp [e1, h1]
    · simp [e1]
theorem cellsB : Tryd.prog.cellsOf 5 = 1 := by kernel_rfl
theorem eq_bytes {T N : Nat} (hT : Tryd.prog.underlying T = some (.array N 5)) (f g : Nat → Nat) (w : World) : (Op.equalIn 10000 T (.agg (arr N (bv f))) (.agg (arr N (bv g)))).run Tryd.prog w = .ok ((List.range N).all fun i => ((f i : Nat) : Int) == ((g i : Nat) : Int)) w := by
  obtain ⟨i, hi, _⟩ := info_parts infoB
  rw [run_equalIn_array w 9999 _ _ hT hi]
  exact run_eqItems_all (P := Tryd.prog) 9998 Tryd.underlying5 cellsB N (fun i => ((f i : Nat) : Int)) (fun i => ((g i : Nat) : Int)) w (List.range N) (fun i hi => by simpa using hi)
theorem same_bytes {T N : Nat} (hT : Tryd.prog.underlying T = some (.array N 5)) (f : Nat → Nat) (w : World) : (Op.equalIn 10000 T (.agg (arr N (bv f))) (.agg (arr N (bv f)))).run Tryd.prog w = .ok true w := by
  rw [eq_bytes hT f f w]
  congr 1
  simp
theorem other_bytes {T N : Nat} (hT : Tryd.prog.underlying T = some (.array N 5)) {f g : Nat → Nat} {j : Nat} (hj : j < N) (h : f j ≠ g j) (w : World) : (Op.equalIn 10000 T (.agg (arr N (bv f))) (.agg (arr N (bv g)))).run Tryd.prog w = .ok false w := by
  rw [eq_bytes hT f g w]
  congr 1
  rw [List.all_eq_false]
  exact ⟨j, by simpa using hj, by simp; omega⟩

theorem same_bytes_at {d T N : Nat} (hT : Tryd.prog.underlying T = some (.array N 5)) (f : Nat → Nat) (w : World) : (Op.equalIn (d + 2) T (.agg (arr N (bv f))) (.agg (arr N (bv f)))).run Tryd.prog w = .ok true w := by
  obtain ⟨i, hi, _⟩ := info_parts infoB
  rw [run_equalIn_array w (d + 1) _ _ hT hi]
  refine (run_eqItems_all (P := Tryd.prog) d Tryd.underlying5 cellsB N (fun i => ((f i : Nat) : Int)) (fun i => ((f i : Nat) : Int)) w (List.range N) (fun i hi => by simpa using hi)).trans ?_
  congr 1
  simp
theorem eqFields_all {P : Program} {d : Nat} {xs : Array Value} {w : World} : ∀ (fs : List Field), (∀ f, f ∈ fs → ∃ a, (part f.type xs f.offset).run P w = .ok a w ∧ (Op.equalIn d f.type a a).run P w = .ok true w) → (Op.eqFields d xs xs fs).run P w = .ok true w
  | [], _ => by simp [Op.eqFields]
  | f :: fs, h => by
    obtain ⟨a, h1, h2⟩ := h f (by simp)
    have h3 := eqFields_all fs fun g hg => h g (by simp [hg])
    by_cases hn : f.name = "_"
    · simp only [Op.eqFields, hn, ne_eq, not_true_eq_false, if_false]; exact h3
    · simp only [Op.eqFields, hn, ne_eq, not_false_eq_true, if_true, Sem.run_bind, h1, h2, Result.andThen_ok, Bool.not_true, Bool.false_eq_true, if_false]
      exact h3
theorem splice_bytes (N k : Nat) (f y : Nat → Nat) (hk : k ≤ N) : ((arr N (bv f)).toList.take 0 ++ (fbs y k ++ (arr N (bv f)).toList.drop (0 + (fbs y k).length))).toArray = arr N (bv fun i => if i < k then y i else f i) := by
  have hl : (arr N (bv f)).toList.length = N := by rw [Array.length_toList, arr_size]
  refine arr_of ?_ ?_
  · rw [List.size_toArray, List.take_zero, List.nil_append, List.length_append, fbs_length, List.length_drop, hl]; omega
  · intro i hi
    rw [List.getElem?_toArray, List.take_zero, List.nil_append, fbs_length, Nat.zero_add]
    unfold bv
    by_cases h : i < k
    · rw [List.getElem?_append_left (by rw [fbs_length]; exact h), fbs_at _ _ _ h]
      simp only [if_pos h]
    · rw [List.getElem?_append_right (by rw [fbs_length]; omega), fbs_length, List.getElem?_drop, Array.getElem?_toList, show k + (i - k) = i by omega, arr_get N _ i hi]
      simp only [if_neg h]
section
variable {ops : Array Oper} {rest : List Oper} {Q : Exit → Act → World → Prop} {op : Oper} {a : Act} {w w0 : World} {l : List (Nat × TypeId × Array Value)}
/-- Bytes copied to the beginning of a block of bytes. -/
theorem mem_copy (i : Nat) (E : Hid (Mem w0 l w)) (hgd : op.guard = none) (d s : Operand) (ho : op.op = .call { callee := .builtin .copy, args := #[d, s], argTypes := #[22, 22] }) {b T N : Nat} {f : Nat → Nat} (hi : l[i]? = some (b, T, arr N (bv f)))
    (hd : a.eval d = .slice (some ⟨b, 0, none⟩) N N) {q : Option Addr} {g o n c : Nat} {y : Nat → Nat} (hs : a.eval s = .slice q n c) (R : Hid (Row w q g o n c y)) (h0 : 0 < n) (hn : n ≤ N)
    (h : ∀ w', Hid (Mem w0 (l.set i (b, T, arr N (bv fun i => if i < n then y i else f i))) w') → wpList Tryd.prog ops Q rest (a.put op.dst (.int .i64 ((n : Nat) : Int))) w') : wpList Tryd.prog ops Q (op :: rest) a w := by
  obtain rfl := R.out.head h0
  have hg := E.out.get (List.mem_of_getElem? hi)
  refine wpList_copy_own hgd d s 22 22 ho 5 Tryd.underlying22 (by kernel_rfl) b 0 N N ⟨g, o, none⟩ n c hd hs (arr N (bv f)) T hg (fbs y n) (by rw [fbs_length]; exact (Nat.min_eq_left hn).symm) ?_ (by rw [fbs_length, arr_size]; omega) (fbs_one y n) ?_
  · intro j v hv
    obtain ⟨hj, rfl⟩ := fbs_get _ _ _ _ hv
    rw [row_add]
    exact R.out.cell j hj
  · rw [splice_bytes N n f y hn, fbs_length]
    have ho' : Only b w (w.setRow b (arr N (bv fun i => if i < n then y i else f i))) := ⟨rfl, rfl, rfl, by simp, fun k _ hk => setRow_other w b k _ hk⟩
    exact h _ (Lib.hid (E.out.turn hi (setRow_heap w b _ _ T _ hg) ho'))
end
end Go.Proofs.YtghjgkgfpblijaaDoor
end
section
set_option linter.unusedSimpArgs false
set_option maxRecDepth 100000
namespace Go.Proofs.YtghjgkgfpblijaaDoor
open Go.RowKit Go.Lib

/-- Blocks of cells of another type than bytes are as they were. -/
def Keeps (w w' : World) : Prop := ∀ (k : Nat) (c : Array Value) (T : TypeId), T ≠ 5 → w.heap[k]? = some (.cells c T (0, 0)) → w'.heap[k]? = some (.cells c T (0, 0))
section
variable {Q : Exit → Act → World → Prop} {op : Oper} {a : Act} {w : World} {K : Act → World → Prop}
/-- An append to a slice of the call's own. -/
theorem mo_appk (s t : Operand) (ho : op.op = .call { callee := .builtin .append, args := #[s, t], argTypes := #[22, 22] }) {B g n c : Nat} {p : Option Addr} {x : Nat → Nat} (hs : a.eval s = .slice p n c) (N : Hid (Own B w p g n c x))
    {q : Option Addr} {h o m d : Nat} {y : Nat → Nat} (ht : a.eval t = .slice q m d) (R : Hid (Row w q h o m d y)) (hlen : n + m ≤ 140737488355328)
    (k : ∀ p' g' c' w', Hid (Own B w' p' g' (n + m) c' (cat x n y)) → Hid (Below B w w') → Hid (Keeps w w') → K (a.put op.dst (.slice p' (n + m) c')) w') : op.wp Tryd.prog a w K Q := by
  obtain ⟨i0, hi, hz0, hz1, hz2⟩ := info_parts infoB
  cases q with
  | none =>
    obtain ⟨rfl, rfl⟩ := R.out.nil rfl
    have hrun := run_append_owned_none (P := Tryd.prog) (w := w) B 22 op.type 5 i0 1 Tryd.underlying22 hi _ n _ N.out.own
    refine mo_known (.slice p n c) w ?_ (k p g c w (Lib.hid (N.out.to (fun i hi => by unfold cat; rw [if_pos hi]) (cat_byte n N.out.byte R.out.byte))) (Lib.hid (Below.refl _ _)) (Lib.hid fun _ _ _ _ h => h))
    simp [execOp, ho, resolve, invoke, builtin, hs, ht, hrun, Result.andThen]
  | some ad =>
    refine wp_append_own (P := Tryd.prog) w s t 22 ho B 5 i0 (.int .u8 0) 1 1 Tryd.underlying22 hi hz0 hz1 hz2 rfl (by decide) _ _ _ hs N.out.own ad m d (fbs y m) ht (by rw [fbs_length]; omega) ?_ (fbs_one y m) (by unfold maxLen; omega) (by omega) N.out.low ?_
    · intro j u hu
      obtain ⟨hj, rfl⟩ := fbs_get _ _ _ _ hu
      obtain rfl := Option.some.inj (R.out.head (by omega))
      rw [row_add]
      exact R.out.cell j hj
    · intro v' w' hown hgrow hnil
      rw [fbs_cat] at hown
      have hb : Below B w w' := (Below.refl _ _).grown hgrow N.out.low fun k hk => (World.ownsRow.lt N.out.own k hk).1
      obtain ⟨p', g', c', rfl, N'⟩ := own_of hown (cat_byte n N.out.byte R.out.byte) (Nat.le_trans N.out.low hb.size)
      refine k p' g' c' w' (Lib.hid N') (Lib.hid hb) (Lib.hid fun q cc T hT hq => ?_)
      rw [hgrow.block q (heap_lt hq) (fun e => ?_)]
      · exact hq
      · obtain ⟨_, h1⟩ := N.out.own
        rcases h1 with ⟨h1, _⟩ | ⟨g1, cap, cur, h1, _, h3, _⟩
        · rw [h1] at e; cases e
        · rw [h1] at e
          have e2 : q = g1 := by simpa [Value.ownBlock] using e
          rw [e2, h3] at hq
          injection hq with hq
          injection hq with _ hq _
          exact hT hq.symm
end
section
variable {ops : Array Oper} {rest : List Oper} {Q : Exit → Act → World → Prop} {op : Oper} {a : Act} {w : World}
theorem wpList_appk (hw : Region.wanted op (yielded ops a.tmps) = true) (s t : Operand) (ho : op.op = .call { callee := .builtin .append, args := #[s, t], argTypes := #[22, 22] }) {B g n c : Nat} {p : Option Addr} {x : Nat → Nat} (hs : a.eval s = .slice p n c) (N : Hid (Own B w p g n c x))
    {q : Option Addr} {h o m d : Nat} {y : Nat → Nat} (ht : a.eval t = .slice q m d) (R : Hid (Row w q h o m d y)) (hlen : n + m ≤ 140737488355328)
    (k : ∀ p' g' c' w', Hid (Own B w' p' g' (n + m) c' (cat x n y)) → Hid (Below B w w') → Hid (Keeps w w') → wpList Tryd.prog ops Q rest (a.put op.dst (.slice p' (n + m) c')) w') : wpList Tryd.prog ops Q (op :: rest) a w :=
  BigFrame.wpList_want hw fun _ hK => mo_appk s t ho hs N ht R hlen fun p' g' c' w' N' hb kp => hK _ _ (k p' g' c' w' N' hb kp)
end
theorem Keeps.below {w w' : World} (h : Below w.heap.size w w') : Keeps w w' := fun _ _ _ _ hk => by rw [h.block _ (heap_lt hk)]; exact hk
end Go.Proofs.YtghjgkgfpblijaaDoor
end
section
set_option linter.unusedSimpArgs false
set_option maxRecDepth 100000
namespace Go.Proofs.YtghjgkgfpblijaaDoor
open Go.RowKit Go.Lib

/-- A list of bytes, told by place. -/
def lf (l : List Nat) : Nat → Nat := fun i => l.getD i 0
/-- Bytes. -/
def IsB (l : List Nat) : Prop := ∀ x, x ∈ l → x < 256
theorem lf_lt {l : List Nat} (h : IsB l) (i : Nat) : lf l i < 256 := by
  unfold lf
  rw [List.getD_eq_getElem?_getD]
  cases e : l[i]? with
  | none => simp
  | some x => exact h x (List.mem_of_getElem? e)
theorem lf_get {l : List Nat} {i : Nat} (h : i < l.length) : lf l i = l[i] := by
  unfold lf
  rw [List.getD_eq_getElem?_getD, List.getElem?_eq_getElem h]
  rfl
theorem lf_inj {a b : List Nat} (ha : a.length = b.length) (h : ∀ i, i < a.length → lf a i = lf b i) : a = b := by
  apply List.ext_getElem ha
  intro i h1 h2
  have := h i h1
  rwa [lf_get h1, lf_get h2] at this
theorem lf_cat (a b : List Nat) (i : Nat) : cat (lf a) a.length (lf b) i = lf (a ++ b) i := by
  unfold cat lf
  simp only [List.getD_eq_getElem?_getD]
  split
  · rw [List.getElem?_append_left (by assumption)]
  · rw [List.getElem?_append_right (by omega)]
theorem IsB.append {a b : List Nat} (ha : IsB a) (hb : IsB b) : IsB (a ++ b) := fun x h => by
  rcases List.mem_append.1 h with h | h
  · exact ha x h
  · exact hb x h
theorem isB_nil : IsB [] := fun _ h => by cases h
/-- m bytes, told by place, as a list. -/
def tl (x : Nat → Nat) (m : Nat) : List Nat := (List.range m).map x
theorem tl_length (x : Nat → Nat) (m : Nat) : (tl x m).length = m := by simp [tl]
theorem lf_tl (x : Nat → Nat) {m i : Nat} (h : i < m) : lf (tl x m) i = x i := by
  rw [lf_get (by rw [tl_length]; exact h)]
  simp [tl]
theorem tl_lf (xs : List Nat) : tl (lf xs) xs.length = xs := by
  apply lf_inj (tl_length _ _)
  intro i hi
  rw [tl_length] at hi
  exact lf_tl _ hi
theorem isB_tl {x : Nat → Nat} (h : ∀ i, x i < 256) (m : Nat) : IsB (tl x m) := fun y hy => by
  obtain ⟨i, _, rfl⟩ := List.mem_map.1 hy
  exact h i
theorem isB_own {w : World} {p : Option Addr} {B g c : Nat} {xs : List Nat} (N : Own B w p g xs.length c (lf xs)) : IsB xs := fun x hx => by
  obtain ⟨i, hi, rfl⟩ := List.getElem_of_mem hx
  rw [← lf_get hi]
  exact N.byte i
theorem isB_row {w : World} {p : Option Addr} {g o c : Nat} {xs : List Nat} (N : Row w p g o xs.length c (lf xs)) : IsB xs := fun x hx => by
  obtain ⟨i, hi, rfl⟩ := List.getElem_of_mem hx
  rw [← lf_get hi]
  exact N.byte i
theorem Own.tl {w : World} {p : Option Addr} {B g n c : Nat} {x : Nat → Nat} (N : Own B w p g n c x) : Own B w p g (tl x n).length c (lf (Go.Proofs.YtghjgkgfpblijaaDoor.tl x n)) := by
  rw [tl_length]
  exact N.to (fun i hi => (lf_tl x hi).symm) (lf_lt (isB_tl N.byte n))
theorem Row.tl {w : World} {p : Option Addr} {g o n c : Nat} {x : Nat → Nat} (N : Row w p g o n c x) : Row w p g o (tl x n).length c (lf (Go.Proofs.YtghjgkgfpblijaaDoor.tl x n)) := by
  rw [tl_length]
  exact N.to (fun i hi => (lf_tl x hi).symm) (lf_lt (isB_tl N.byte n))

theorem infoText3 : (Tryd.prog.info? 22).map (fun i => (i.zero, i.size, i.bytes)) = some (some (.slice none 0 0), 1, 24) := by kernel_rfl
theorem take_get {α : Type} (ts : List α) {j : Nat} (h : j < ts.length) : ts.take (j + 1) = ts.take j ++ [ts[j]] := by
  rw [List.take_add_one, List.getElem?_eq_getElem h]
  rfl
/-- How many bytes the first j texts have. -/
def sm (ts : List (List Nat)) (j : Nat) : Nat := ((ts.take j).map List.length).sum
theorem sm_succ (ts : List (List Nat)) {j : Nat} (h : j < ts.length) : sm ts (j + 1) = sm ts j + ts[j].length := by
  unfold sm
  rw [take_get ts h, List.map_append, List.sum_append]
  simp only [List.map_cons, List.map_nil, List.sum_cons, List.sum_nil, Nat.add_zero]
theorem sm_mono (ts : List (List Nat)) (j k : Nat) : sm ts j ≤ sm ts (j + k) := by
  induction k with
  | zero => exact Nat.le_refl _
  | succ k ih =>
    rcases Nat.lt_or_ge (j + k) ts.length with h | h
    · rw [show j + (k + 1) = j + k + 1 from rfl, sm_succ ts h]; omega
    · have e : sm ts (j + (k + 1)) = sm ts (j + k) := by unfold sm; rw [List.take_of_length_le (by omega), List.take_of_length_le (by omega)]
      omega
theorem sm_le (ts : List (List Nat)) {j : Nat} (h : j ≤ ts.length) : sm ts j ≤ sm ts ts.length := by
  have := sm_mono ts j (ts.length - j)
  rwa [show j + (ts.length - j) = ts.length by omega] at this
/-- The first j texts, one behind the other. -/
def fl (ts : List (List Nat)) (j : Nat) : List Nat := (ts.take j).flatten
theorem fl_succ (ts : List (List Nat)) {j : Nat} (h : j < ts.length) : fl ts (j + 1) = fl ts j ++ ts[j] := by
  unfold fl
  rw [take_get ts h, List.flatten_append]
  simp only [List.flatten_cons, List.flatten_nil, List.append_nil]
theorem fl_length (ts : List (List Nat)) (j : Nat) : (fl ts j).length = sm ts j := by
  unfold fl sm
  rw [List.length_flatten]
theorem fl_all (ts : List (List Nat)) : fl ts ts.length = ts.flatten := by
  unfold fl
  rw [List.take_length]

/-- A slice of bytes that reads as the text. -/
def TextAt (w : World) (v : Value) (t : List Nat) : Prop := ∃ p g o c, v = .slice p t.length c ∧ t.length ≤ 140737488351232 ∧ Row w p g o t.length c (lf t)
/-- A slice of texts. -/
def TextsAt (w : World) (v : Value) (ts : List (List Nat)) : Prop :=
  ∃ p g o c V, v = .slice p ts.length c ∧ ts.length * 24 ≤ 140737488351232 ∧ VRow 1 w p g o ts.length c V ∧ ∀ i (h : i < ts.length), TextAt w (V i) ts[i]
section
variable {w w' : World} {v : Value} {t : List Nat} {ts : List (List Nat)}
theorem TextAt.below (h : TextAt w v t) (hb : Below w.heap.size w w') : TextAt w' v t := by
  obtain ⟨p, g, o, c, rfl, hc, R⟩ := h
  exact ⟨p, g, o, c, rfl, hc, R.below hb⟩
theorem TextsAt.below (h : TextsAt w v ts) (hb : Below w.heap.size w w') : TextsAt w' v ts := by
  obtain ⟨p, g, o, c, V, rfl, hc, R, hi⟩ := h
  exact ⟨p, g, o, c, V, rfl, hc, R.below hb, fun i h => (hi i h).below hb⟩
theorem TextAt.isB (h : TextAt w v t) : IsB t := by
  obtain ⟨p, g, o, c, rfl, hc, R⟩ := h
  exact isB_row R
theorem TextAt.len (h : TextAt w v t) : t.length ≤ 140737488351232 := by
  obtain ⟨p, g, o, c, rfl, hc, R⟩ := h
  exact hc
theorem TextAt.one (h : TextAt w v t) : v.oneCell' = true := by
  obtain ⟨p, g, o, c, rfl, hc, R⟩ := h
  rfl
end

/-- A slice of bytes of the call's own that grows; beside it boxes of other kinds. -/
structure Wb (w0 : World) (l : List (Nat × TypeId × Array Value)) (p : Option Addr) (g c : Nat) (xs : List Nat) (w : World) : Prop where
  mem : Mem w0 l w
  own : Own w0.heap.size w p g xs.length c (lf xs)
  nb : ∀ q, q ∈ l → q.2.1 ≠ 5
/-- What a call that makes bytes leaves. -/
def GetsL (w : World) (xs : List Nat) (e : Ending) (w' : World) : Prop := ∃ p g c, e = .returned (.slice p xs.length c) ∧ Own w.heap.size w' p g xs.length c (lf xs) ∧ Below w.heap.size w w'
/-- What a call leaves that puts bytes behind some. -/
def Puts (w0 : World) (l : List (Nat × TypeId × Array Value)) (xs : List Nat) (e : Ending) (w' : World) : Prop := ∃ p g c, e = .returned (.slice p xs.length c) ∧ Wb w0 l p g c xs w'
theorem Puts.any {w0 : World} {l : List (Nat × TypeId × Array Value)} {xs : List Nat} {e : Ending} {w' : World} (h : Puts w0 l xs e w') : ∃ p g c zs, e = .returned (.slice p zs.length c) ∧ Hid (zs = xs) ∧ Hid (Wb w0 l p g c zs w') := by
  obtain ⟨p, g, c, rfl, K⟩ := h
  exact ⟨p, g, c, xs, rfl, Lib.hid rfl, Lib.hid K⟩
theorem Puts.of {w0 : World} {l : List (Nat × TypeId × Array Value)} {xs zs : List Nat} {p : Option Addr} {g c : Nat} {w' : World} (h : zs = xs) (K : Wb w0 l p g c zs w') : Puts w0 l xs (.returned (.slice p zs.length c)) w' := by
  subst h
  exact ⟨p, g, c, rfl, K⟩
theorem Gets.l {w : World} {n : Nat} {x : Nat → Nat} {e : Ending} {w' : World} (h : Gets w n x e w') : GetsL w (tl x n) e w' := by
  obtain ⟨p, g, c, rfl, N, hb⟩ := h
  exact ⟨p, g, c, by rw [tl_length], N.tl, hb⟩
section
variable {w0 w w' : World} {l l' : List (Nat × TypeId × Array Value)} {p : Option Addr} {g c : Nat} {xs ys : List Nat}
theorem Mem.keeps (E : Mem w0 l w) (nb : ∀ q, q ∈ l → q.2.1 ≠ 5) (hb : Below w0.heap.size w w') (kp : Keeps w w') : Mem w0 l w' :=
  ⟨E.below.trans hb, fun q hq => kp q.1 q.2.2 q.2.1 (nb q hq) (E.has q hq), E.nd, E.ge⟩
theorem Wb.call (K : Wb w0 l p g c xs w) (hb : Below w.heap.size w w') : Wb w0 l p g c xs w' := ⟨K.mem.call hb, K.own.below hb, K.nb⟩
theorem Wb.new (K : Wb w0 l p g c xs w) (T : TypeId) (cs : Array Value) (hT : T ≠ 5) : Wb w0 ((w.heap.size, T, cs) :: l) p g c xs (w.alloc (.cells cs T)) :=
  ⟨K.mem.new T cs, K.own.below (below_new w _), fun q hq => by
    rcases List.mem_cons.1 hq with rfl | hq
    · exact hT
    · exact K.nb q hq⟩
theorem Wb.sub (K : Wb w0 l p g c xs w) (h : l'.Sublist l) : Wb w0 l' p g c xs w := ⟨K.mem.sub h, K.own, fun q hq => K.nb q (h.subset hq)⟩
theorem Wb.tail {x : Nat × TypeId × Array Value} (K : Wb w0 (x :: l) p g c xs w) : Wb w0 l p g c xs w := K.sub (List.sublist_cons_self _ _)
theorem Wb.eq (K : Wb w0 l p g c xs w) (h : xs = ys) : Wb w0 l p g c ys w := h ▸ K
theorem Wb.gets (K : Wb w0 l p g c xs w) : Own w0.heap.size w p g xs.length c (lf xs) ∧ Below w0.heap.size w0 w := ⟨K.own, K.mem.below⟩
theorem Wb.row (K : Wb w0 l p g c xs w) : Row w p g 0 xs.length c (lf xs) := K.own.row
/-- Bytes that a call made begin. -/
theorem Wb.start (E : Mem w0 l w) (nb : ∀ q, q ∈ l → q.2.1 ≠ 5) (N : Own w.heap.size w' p g xs.length c (lf xs)) (hb : Below w.heap.size w w') : Wb w0 l p g c xs w' := ⟨E.call hb, N.mono E.below.size, nb⟩
theorem Wb.none (E : Mem w0 l w) (nb : ∀ q, q ∈ l → q.2.1 ≠ 5) : Wb w0 l none 0 0 [] w := ⟨E, own_nothing _ _ _ (lf_lt isB_nil) E.below.size, nb⟩
/-- What a block's owner writes into it, of another kind than bytes. -/
theorem Wb.turn (K : Wb w0 l p g c xs w) {b T : Nat} {cs cs' : Array Value} {i : Nat} (hi : l[i]? = some (b, T, cs)) (hh : w'.heap[b]? = some (.cells cs' T (0, 0))) (ho : Only b w w') : Wb w0 (l.set i (b, T, cs')) p g c xs w' := by
  have hm := List.mem_of_getElem? hi
  have hT : T ≠ 5 := K.nb _ hm
  have hb := K.mem.has _ hm
  refine ⟨K.mem.turn hi hh ho, ?_, fun q hq => ?_⟩
  · refine ⟨?_, K.own.spot, K.own.byte, Nat.le_trans K.own.low ho.size⟩
    refine K.own.own.kept (w' := w') (row := some b) ⟨ho.os, ho.tape, ho.output, ho.size, fun k hk hne => ho.block k hk (fun e => hne (by rw [e]))⟩ ?_
    rcases K.own.own.2 with ⟨h1, _⟩ | ⟨g', cap, cur, h1, h2, h3, _⟩
    · rw [h1]; exact .inl rfl
    · rw [h1]
      refine .inr fun e => ?_
      have e2 : g' = b := by simpa [Value.ownBlock] using e
      rw [e2, hb] at h3
      injection h3 with h3
      injection h3 with _ h3 _
      exact hT h3
  · obtain ⟨j, hj⟩ := List.mem_iff_getElem?.1 hq
    rw [List.getElem?_set] at hj
    split at hj
    · split at hj
      · obtain rfl := Option.some.inj hj; exact hT
      · cases hj
    · exact K.nb _ (List.mem_of_getElem? hj)
end
section
variable {Q : Exit → Act → World → Prop} {op : Oper} {a : Act} {w w0 : World} {l : List (Nat × TypeId × Array Value)} {K : Act → World → Prop} {ops : Array Oper} {rest : List Oper} {g c : Nat} {p : Option Addr} {xs : List Nat}
theorem wb_box (N : Hid (Wb w0 l p g c xs w)) (T : TypeId) (hT : T ≠ 5) (hg : op.guard = none) (x : Operand) (ho : op.op = .box T x) {v : Value} (hx : a.eval x = v) {cs : Array Value} (hc : v.cells = cs)
    (h : ∀ b w', Hid (Wb w0 ((b, T, cs) :: l) p g c xs w') → wpList Tryd.prog ops Q rest (a.put op.dst (.pointer (some ⟨b, 0, none⟩))) w') : wpList Tryd.prog ops Q (op :: rest) a w := by
  refine mem_known hg (.pointer (some ⟨w.heap.size, 0, none⟩)) (w.alloc (.cells cs T)) ?_ (h _ _ (Lib.hid (N.out.new T _ hT)))
  unfold execOp
  subst hx hc
  simp only [ho, Sem.run_bind, Instr.box]
  rfl
theorem wb_alloc (N : Hid (Wb w0 l p g c xs w)) (T : TypeId) (hT : T ≠ 5) (hg : op.guard = none) (ho : op.op = .alloc T) {z : Value} {n : Nat} (hz : (Tryd.prog.info? T).map (fun i => (i.zero, i.size)) = some (some z, n))
    (h : ∀ b w', Hid (Wb w0 ((b, T, z.cells) :: l) p g c xs w') → wpList Tryd.prog ops Q rest (a.put op.dst (.pointer (some ⟨b, 0, none⟩))) w') : wpList Tryd.prog ops Q (op :: rest) a w := by
  refine mem_known hg (.pointer (some ⟨w.heap.size, 0, none⟩)) (w.alloc (.cells z.cells T)) ?_ (h _ _ (Lib.hid (N.out.new T _ hT)))
  unfold execOp
  simp only [ho, Sem.run_bind, Instr.alloc, (zero_of_info hz).1, Result.andThen_ok]
  rfl
/-- A slice of written bytes beside it. -/
theorem wb_bs (N : Hid (Wb w0 l p g c xs w)) (parts : Array (Nat × Operand)) (hg : op.guard = none) {m : Nat} (ho : op.op = .buildSlice 22 m parts) (ys : List Nat) (hy : IsB ys)
    {ps : Array (Nat × Value)} (hp : (parts.map fun (i, y) => (i, a.eval y)) = ps) {cs : Array Value} (hr : ∀ w : World, (Instr.buildSlice 22 m ps).run Tryd.prog w = .ok (.slice (some ⟨w.heap.size, 0, none⟩) m m) (w.alloc (.cells cs 5))) (hcs : cs.toList = fbs (lf ys) m) (hm : m ≤ maxLen)
    (h : ∀ b w', Hid (Row w' (some ⟨b, 0, none⟩) b 0 m m (lf ys)) → Hid (Wb w0 l p g c xs w') → wpList Tryd.prog ops Q rest (a.put op.dst (.slice (some ⟨b, 0, none⟩) m m)) w') : wpList Tryd.prog ops Q (op :: rest) a w := by
  have e : cs = (fbs (lf ys) m).toArray := by rw [← hcs]
  subst e
  refine mem_known hg (.slice (some ⟨w.heap.size, 0, none⟩) m m) (w.alloc (.cells (fbs (lf ys) m).toArray 5)) ?_ (h _ _ (Lib.hid (own_new w (lf ys) m hm (lf_lt hy)).row) (Lib.hid (N.out.call (below_new w _))))
  unfold execOp
  simp only [ho, hp, Sem.run_bind, hr w, Result.andThen_ok]
  rfl
theorem wb_store_row (i : Nat) (N : Hid (Wb w0 l p g c xs w)) (ty : TypeId) (hg : op.guard = none) (x y : Operand) (ho : op.op = .store ty x y) {b T : Nat} {cs cs' : Array Value} (hx : a.eval x = .pointer (some ⟨b, 0, none⟩)) (hy : a.eval y = .agg cs') (hi : l[i]? = some (b, T, cs))
    (hs : (Tryd.prog.info? ty).map (·.size) = some cs'.size) (hl : cs.size = cs'.size) (h1 : cs'.all (·.oneCell') = true)
    (h : ∀ w', Hid (Wb w0 (l.set i (b, T, cs')) p g c xs w') → wpList Tryd.prog ops Q rest (a.put op.dst undef) w') : wpList Tryd.prog ops Q (op :: rest) a w := by
  have hg' := N.out.mem.get (List.mem_of_getElem? hi)
  have ho' : Only b w (w.setRow b cs') := ⟨rfl, rfl, rfl, by simp, fun k _ hk => setRow_other w b k cs' hk⟩
  exact wpList_plain hg fun K hK => wp_store_row ty x y ho b cs' hx hy T cs hg' hs hl h1 (hK _ _ (h _ (Lib.hid (N.out.turn hi (setRow_heap w b cs cs' T _ hg') ho'))))
/-- An append. -/
theorem mo_wb (s t : Operand) (ho : op.op = .call { callee := .builtin .append, args := #[s, t], argTypes := #[22, 22] }) (N : Hid (Wb w0 l p g c xs w)) {n : Nat} (hs : a.eval s = .slice p n c) (hn : n = xs.length)
    {q : Option Addr} {h o m d : Nat} {y : Nat → Nat} (ht : a.eval t = .slice q m d) (R : Hid (Row w q h o m d y)) (hlen : n + m ≤ 140737488355328)
    (k : ∀ p' g' c' w' zs, Hid (zs = xs ++ tl y m) → Hid (Wb w0 l p' g' c' zs w') → K (a.put op.dst (.slice p' zs.length c')) w') : op.wp Tryd.prog a w K Q := by
  subst hn
  refine mo_appk s t ho hs (Lib.hid N.out.own) ht R hlen ?_
  intro p' g' c' w' N' hb kp
  have e : xs.length + m = (xs ++ tl y m).length := by rw [List.length_append, tl_length]
  rw [e]
  refine k p' g' c' w' _ (Lib.hid rfl) (Lib.hid ⟨N.out.mem.keeps N.out.nb hb.out kp.out, ?_, N.out.nb⟩)
  rw [← e]
  have hB : IsB (xs ++ tl y m) := (isB_own N.out.own).append (isB_tl R.out.byte m)
  refine N'.out.to (fun i hi => ?_) (lf_lt hB)
  rw [← lf_cat]
  unfold cat
  split
  · rfl
  · rw [lf_tl y (by omega)]
theorem wpList_wb (hw : Region.wanted op (yielded ops a.tmps) = true) (s t : Operand) (ho : op.op = .call { callee := .builtin .append, args := #[s, t], argTypes := #[22, 22] }) (N : Hid (Wb w0 l p g c xs w)) {n : Nat} (hs : a.eval s = .slice p n c) (hn : n = xs.length)
    {q : Option Addr} {h o m d : Nat} {y : Nat → Nat} (ht : a.eval t = .slice q m d) (R : Hid (Row w q h o m d y)) (hlen : n + m ≤ 140737488355328)
    (k : ∀ p' g' c' w' zs, Hid (zs = xs ++ tl y m) → Hid (Wb w0 l p' g' c' zs w') → wpList Tryd.prog ops Q rest (a.put op.dst (.slice p' zs.length c')) w') : wpList Tryd.prog ops Q (op :: rest) a w :=
  BigFrame.wpList_want hw fun _ hK => mo_wb s t ho N hs hn ht R hlen fun p' g' c' w' zs e N' => hK _ _ (k p' g' c' w' zs e N')
end
end Go.Proofs.YtghjgkgfpblijaaDoor
end
section
set_option linter.unusedSimpArgs false
set_option maxRecDepth 100000
namespace Go.Proofs.YtghjgkgfpblijaaDoor
open Go.RowKit Go.Lib

theorem laid_cells (l : List Value) : ∀ (o : Nat) (acc : Array Value) (i : Nat), ((l.zipIdx o).foldl (fun cs (x : Value × Nat) => cs.setIfInBounds x.2 x.1) acc)[i]? = if o ≤ i ∧ i < o + l.length ∧ i < acc.size then l[i - o]? else acc[i]? := by
  induction l with
  | nil => intro o acc i; simp; omega
  | cons v l ih =>
    intro o acc i
    simp only [List.zipIdx_cons, List.foldl_cons]
    rw [ih]
    simp only [Array.size_setIfInBounds, List.length_cons]
    by_cases h1 : o + 1 ≤ i ∧ i < o + 1 + l.length ∧ i < acc.size
    · rw [if_pos h1, if_pos (by omega)]
      rw [show i - o = (i - (o + 1)) + 1 by omega, List.getElem?_cons_succ]
    · rw [if_neg h1, Array.getElem?_setIfInBounds]
      by_cases h2 : o = i
      · subst h2
        by_cases h3 : o < acc.size
        · rw [if_pos rfl, if_pos h3, if_pos (by omega)]; simp
        · rw [if_pos rfl, if_neg h3, if_neg (by omega), Array.getElem?_eq_none (by omega)]
      · rw [if_neg h2, if_neg (by omega)]
theorem laid_size (l : List (Value × Nat)) : ∀ acc : Array Value, (l.foldl (fun cs (x : Value × Nat) => cs.setIfInBounds x.2 x.1) acc).size = acc.size := by
  induction l with
  | nil => intro acc; rfl
  | cons v l ih => intro acc; simp only [List.foldl_cons]; rw [ih]; simp
theorem laid_all (cs acc : Array Value) (h : cs.size = acc.size) : cs.zipIdx.foldl (fun cs (x : Value × Nat) => cs.setIfInBounds (0 + x.2) x.1) acc = cs := by
  have e : cs.zipIdx.foldl (fun cs (x : Value × Nat) => cs.setIfInBounds (0 + x.2) x.1) acc = (cs.toList.zipIdx 0).foldl (fun cs (x : Value × Nat) => cs.setIfInBounds x.2 x.1) acc := by
    rw [← Array.foldl_toList, Array.toList_zipIdx]
    simp only [Nat.zero_add]
  rw [e]
  apply Array.ext_getElem?
  intro i
  rw [laid_cells]
  by_cases hi : i < cs.size
  · rw [if_pos (by simp; omega)]; simp
  · rw [if_neg (by simp; omega), Array.getElem?_eq_none (by omega), Array.getElem?_eq_none (by omega)]
section
variable {P : Program} {S T k bytes : Nat} {z : Value}
theorem run_bs1 (hS : P.underlying S = some (.slice T)) (hT : (P.info? T).map (fun i => (i.zero, i.size, i.bytes)) = some (some z, k, bytes)) (hk : 0 < k) (hk2 : k ≤ 16777216) (cs : Array Value) (hc : cs.size = k) (w : World) :
    (Instr.buildSlice S 1 #[(0, .agg cs)]).run P w = .ok (.slice (some ⟨w.heap.size, 0, none⟩) 1 1) (w.alloc (.cells cs T)) := by
  obtain ⟨i0, hi, hz0, hz1, hz2⟩ := info_parts hT
  refine run_buildSlice w S T 1 _ cs i0 z hS hi hz0 (by rw [hz1]; omega) (by rw [hz1]; omega) ?_
  have hcc : (Value.agg cs).cells = cs := rfl
  simp only [Instr.fill, hcc, hz1, hc, Nat.one_mul, Nat.zero_mul, Nat.zero_add]
  rw [if_neg (by simp)]
  congr 1
  have := laid_all cs (Array.map (fun x => z.cells[x % z.cells.size]!) (Array.range k)) (by simp [hc])
  simpa using this
theorem run_bs1v (hS : P.underlying S = some (.slice T)) (hT : (P.info? T).map (fun i => (i.zero, i.size, i.bytes)) = some (some z, 1, bytes)) (a : Value) (ha : a.cells = #[a]) (w : World) :
    (Instr.buildSlice S 1 #[(0, a)]).run P w = .ok (.slice (some ⟨w.heap.size, 0, none⟩) 1 1) (w.alloc (.cells #[a] T)) := by
  obtain ⟨i0, hi, hz0, hz1, hz2⟩ := info_parts hT
  refine run_buildSlice w S T 1 _ #[a] i0 z hS hi hz0 (by rw [hz1]; omega) (by rw [hz1]; omega) ?_
  have e : Array.range 1 = #[0] := by decide
  simp [Instr.fill, ha, hz1, e]
theorem run_bs2v (hS : P.underlying S = some (.slice T)) (hT : (P.info? T).map (fun i => (i.zero, i.size, i.bytes)) = some (some z, 1, bytes)) (a b : Value) (ha : a.cells = #[a]) (hb : b.cells = #[b]) (w : World) :
    (Instr.buildSlice S 2 #[(0, a), (1, b)]).run P w = .ok (.slice (some ⟨w.heap.size, 0, none⟩) 2 2) (w.alloc (.cells #[a, b] T)) := by
  obtain ⟨i0, hi, hz0, hz1, hz2⟩ := info_parts hT
  refine run_buildSlice w S T 2 _ #[a, b] i0 z hS hi hz0 (by rw [hz1]; omega) (by rw [hz1]; omega) ?_
  have e : Array.range 2 = #[0, 1] := by decide
  simp [Instr.fill, ha, hb, hz1, e]
theorem run_bs0 (hS : P.underlying S = some (.slice T)) (hT : (P.info? T).map (fun i => (i.zero, i.size, i.bytes)) = some (some z, k, bytes)) (w : World) :
    (Instr.buildSlice S 0 #[]).run P w = .ok (.slice (some ⟨w.heap.size, 0, none⟩) 0 0) (w.alloc (.cells #[] T)) := by
  obtain ⟨i0, hi, hz0, hz1, hz2⟩ := info_parts hT
  simp [Instr.buildSlice, run_underlying hS, sizeOf, typeInfo, zeroValue, hi, hz0, newRow, Instr.fill, show Array.range 0 = #[] by decide]
end
end Go.Proofs.YtghjgkgfpblijaaDoor
end
section
set_option linter.unusedSimpArgs false
set_option maxRecDepth 100000
namespace Go.Proofs.YtghjgkgfpblijaaDoor
open Go.ChangeShapes Go.WideShapes Go.ChangeAt Go.RowKit Go.Lib

theorem own : ownKnob Tryd.prog.godebug = none := by kernel_rfl
theorem laidOut : laidOutB Tryd.prog = true := by kernel_rfl
theorem b5 : Tryd.prog.bytesOf 5 = 1 := by kernel_rfl
theorem open_row {H : Type} {enc : TypeId × Value → H} {W : World} {base : Nat} {v : Value} {d : DataW H} {p : List MemPlace} {ts : List TypeId} {ds : List (DataW H)} {j : Nat}
    (hv : Value.okWide Tryd.prog W .any base 22 v) (hd : DataW.Trod enc Tryd.prog W 0 (fun _ => true) true 22 v d p)
    (hsz : (DataW.weightsEach Tryd.prog ts ds).all (· ≤ reachBytes) = true) (hts : ts[j]? = some 22) (hds : ds[j]? = some d) : ∃ a g o n c x, v = .slice a n c ∧ Row W a g o n c x ∧ c ≤ 140737488351232 := by
  obtain ⟨a, len, cap, rfl⟩ := okWide_slice Tryd.underlying22 hv
  obtain ⟨fuel, hf⟩ := hd
  rcases open_ints Tryd.underlying22 Tryd.underlying5 (by kernel_rfl) hf with ⟨hcs, _⟩ | ⟨q, l, c, zs, hcs, _, hl, hm, hz, hx, hcell, hwz⟩
  · simp [Value.cells] at hcs
    obtain ⟨rfl, rfl, rfl⟩ := hcs
    exact ⟨none, 0, 0, 0, 0, fun _ => 0, rfl, Row.nothing _ _ (fun _ => by omega), by omega⟩
  · simp [Value.cells] at hcs
    obtain ⟨rfl, rfl, rfl⟩ := hcs
    have hz' : zs.length = cap := by simpa using hz
    have hd' : d = .slice (lits .u8 (zs.take len)) (lits .u8 (zs.drop len)) := by simpa using congrArg Prod.fst hx
    rw [hd'] at hds
    have hs := sized_slice hsz hts hds Tryd.underlying22
    rw [b5] at hs
    simp only [lits, List.length_map, List.length_take, List.length_drop, reachBytes] at hs
    have hr := range_u8 hwz
    refine ⟨some q, q.block, q.off, len, cap, fun i => (zs[i]?.getD 0).toNat, rfl, ⟨hl, by unfold maxLen; omega, fun h => (by cases h), ?_, ?_, fun i => by have := hr i; omega⟩, by omega⟩
    · intro h0
      have h1 := hcell 0 (by omega)
      obtain ⟨b, o, s⟩ := q
      have hsp : s = none := by simpa [Addr.add] using World.cell?_spot h1
      subst hsp
      rfl
    · intro i hi
      have h1 := hcell i (by omega)
      have h0 := hcell 0 (by omega)
      have hri := hr i
      obtain ⟨b, o, s⟩ := q
      have hsp : s = none := by simpa [Addr.add] using World.cell?_spot h0
      subst hsp
      rw [row_add] at h1
      rw [Int.toNat_of_nonneg hri.1]
      simpa using h1
theorem word_range {a : Int} (h : (Lit.int .u64 a).wf = true) : 0 ≤ a ∧ a ≤ 18446744073709551615 := by
  simp [Lit.wf, IntKind.min, IntKind.max, IntKind.bits, IntKind.signed] at h
  omega
theorem int_range {a : Int} (h : (Lit.int .i64 a).wf = true) : -9223372036854775808 ≤ a ∧ a ≤ 9223372036854775807 := by
  simp [Lit.wf, IntKind.min, IntKind.max, IntKind.bits, IntKind.signed] at h
  omega
theorem nat_of64 {a : Int} (h : (Lit.int .u64 a).wf = true) : ∃ k : Nat, a = ((k : Nat) : Int) ∧ k < 18446744073709551616 := by
  have := word_range h
  exact ⟨a.toNat, by omega, by omega⟩
end Go.Proofs.YtghjgkgfpblijaaDoor
end
