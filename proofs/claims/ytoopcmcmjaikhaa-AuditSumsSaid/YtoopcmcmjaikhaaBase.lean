/- Small laws on worlds: what a call leaves when it may write one block alone ('Only'), and what that block holds ('Holds'). Nothing of the program stands here. -/
import Derived.Test.YtoopcmcmjaikhaaRows
import Derived.WalkKit
import Derived.WalkSpells
import Derived.Lib.Hide
import Derived.Deep.QuietTactic
namespace Go.Proofs.Ytoopcmcmjaikhaa
open Go.RowKit Go.Lib

/-- Of all blocks that w had none but b may have turned; none has gone. -/
structure Only (b : Nat) (w w' : World) : Prop where
  os : w'.os = w.os
  tape : w'.tape = w.tape
  output : w'.output = w.output
  size : w.heap.size ≤ w'.heap.size
  block : ∀ k, k < w.heap.size → k ≠ b → w'.heap[k]? = w.heap[k]?

theorem Only.refl (b : Nat) (w : World) : Only b w w := ⟨rfl, rfl, rfl, Nat.le_refl _, fun _ _ _ => rfl⟩
theorem Only.trans {b : Nat} {x y z : World} (h : Only b x y) (k : Only b y z) : Only b x z :=
  ⟨k.os.trans h.os, k.tape.trans h.tape, k.output.trans h.output, Nat.le_trans h.size k.size, fun i hi hb => (k.block i (Nat.lt_of_lt_of_le hi h.size) hb).trans (h.block i hi hb)⟩
theorem Only.drew {b : Nat} {w w' : World} (h : Only b w w') : Only b w w'.drew := ⟨h.os, h.tape, h.output, h.size, h.block⟩
theorem Only.drewN {b n : Nat} {w w' : World} (h : Only b w w') : Only b w (w'.drewN n) := ⟨h.os, h.tape, h.output, h.size, h.block⟩
theorem Only.setCell {b : Nat} {w w' : World} (h : Only b w w') (p : Addr) (hp : p.block = b) (u : Value) : Only b w (w'.setCell p u) :=
  h.trans ⟨rfl, rfl, rfl, by simp [World.setCell], fun k _ hk => Below.heap_setCell _ _ _ _ (by omega)⟩
theorem Only.alloc {b : Nat} {w w' : World} (h : Only b w w') (o : Obj) : Only b w (w'.alloc o) :=
  h.trans ⟨rfl, rfl, rfl, by simp, fun k hk _ => Below.heap_alloc _ _ _ hk⟩
/-- A write to a block that w did not have. -/
theorem Only.setNew {b : Nat} {w w' : World} (h : Only b w w') (p : Addr) (hp : w.heap.size ≤ p.block) (u : Value) : Only b w (w'.setCell p u) :=
  ⟨h.os, h.tape, h.output, by simpa [World.setCell] using h.size, fun k hk hb => (Below.heap_setCell _ _ _ _ (by omega)).trans (h.block k hk hb)⟩
theorem Only.below {b B : Nat} {w w' : World} (h : Only b w w') (hB : B ≤ b) (hs : B ≤ w.heap.size) : Below B w w' :=
  ⟨h.os, h.tape, h.output, h.size, fun k hk => h.block k (by omega) (by omega)⟩
theorem Only.heap {b k : Nat} {w w' : World} (h : Only b w w') {o : Obj} (hk : k ≠ b) (ho : w.heap[k]? = some o) : w'.heap[k]? = some o := by
  have hs : k < w.heap.size := by
    rcases Nat.lt_or_ge k w.heap.size with q | q
    · exact q
    · rw [Array.getElem?_eq_none q] at ho; cases ho
  rw [h.block k hs hk, ho]
theorem cell_lt {w : World} {p : Addr} {v : Value} (h : w.cell? p = some v) : p.block < w.heap.size := World.block_lt_of_cell? _ _ h
theorem Only.cell {b : Nat} {w w' : World} (h : Only b w w') {p : Addr} {v : Value} (hp : p.block ≠ b) (hv : w.cell? p = some v) : w'.cell? p = some v := by
  rw [World.cell?_of_block (w := w) (h.block p.block (cell_lt hv) hp), hv]
theorem cell_alloc {w : World} {o : Obj} {p : Addr} {v : Value} (hv : w.cell? p = some v) : (w.alloc o).cell? p = some v := by
  rw [World.cell?_of_block (w := w) (Below.heap_alloc _ _ _ (cell_lt hv)), hv]
theorem here_new (w : World) (c : Array Value) (T : TypeId) : (w.alloc (.cells c T)).heap[w.heap.size]? = some (.cells c T (0, 0)) := by
  show (w.heap.push _)[w.heap.size]? = _
  simp
theorem below_new (w : World) (o : Obj) : Below w.heap.size w (w.alloc o) := (Below.refl _ _).alloc (Nat.le_refl _) _

/-- Block b holds the cells c, of type T, none of them frozen; what else w had is as it was. -/
structure Holds (b : Nat) (T : TypeId) (c : Array Value) (w w' : World) : Prop where
  only : Only b w w'
  here : w'.heap[b]? = some (.cells c T (0, 0))

theorem Holds.start {b : Nat} {T : TypeId} {c : Array Value} {w : World} (h : w.heap[b]? = some (.cells c T (0, 0))) : Holds b T c w w := ⟨Only.refl _ _, h⟩
theorem cell_of_here {b : Nat} {T : TypeId} {c : Array Value} {w : World} (h : w.heap[b]? = some (.cells c T (0, 0))) (i : Nat) {v : Value} (hv : c[i]? = some v) : w.cell? ⟨b, i, none⟩ = some v := by
  simp [World.cell?, h, hv]
theorem free_of_here {b : Nat} {T : TypeId} {c : Array Value} {w : World} (h : w.heap[b]? = some (.cells c T (0, 0))) (i : Nat) : w.frozen? ⟨b, i, none⟩ = false := by
  simp [World.frozen?, h]
theorem Holds.cell {b : Nat} {T : TypeId} {c : Array Value} {w w' : World} (h : Holds b T c w w') (i : Nat) {v : Value} (hv : c[i]? = some v) : w'.cell? ⟨b, i, none⟩ = some v := cell_of_here h.here i hv
theorem Holds.free {b : Nat} {T : TypeId} {c : Array Value} {w w' : World} (h : Holds b T c w w') (i : Nat) : w'.frozen? ⟨b, i, none⟩ = false := free_of_here h.here i
theorem Holds.lt {b : Nat} {T : TypeId} {c : Array Value} {w w' : World} (h : Holds b T c w w') : b < w'.heap.size := by
  rcases Nat.lt_or_ge b w'.heap.size with q | q
  · exact q
  · have := h.here; rw [Array.getElem?_eq_none q] at this; cases this
theorem Holds.drew {b : Nat} {T : TypeId} {c : Array Value} {w w' : World} (h : Holds b T c w w') : Holds b T c w w'.drew := ⟨h.only.drew, h.here⟩
theorem Holds.drewN {b n : Nat} {T : TypeId} {c : Array Value} {w w' : World} (h : Holds b T c w w') : Holds b T c w (w'.drewN n) := ⟨h.only.drewN, h.here⟩
theorem Holds.set {b i : Nat} {T : TypeId} {c c' : Array Value} {w w' : World} {v : Value} (h : Holds b T c w w') (e : c.setIfInBounds i v = c') : Holds b T c' w (w'.setCell ⟨b, i, none⟩ v) := by
  refine ⟨h.only.setCell _ rfl _, ?_⟩
  simp only [World.setCell, Array.getElem?_modify]
  rw [if_pos trivial, h.here]
  simp [e]
theorem Holds.alloc {b : Nat} {T : TypeId} {c : Array Value} {w w' : World} (h : Holds b T c w w') (o : Obj) : Holds b T c w (w'.alloc o) :=
  ⟨h.only.alloc _, by rw [Below.heap_alloc _ _ _ h.lt]; exact h.here⟩
theorem Holds.trans {b : Nat} {T : TypeId} {c c' : Array Value} {x y z : World} (h : Holds b T c x y) (k : Holds b T c' y z) : Holds b T c' x z := ⟨h.only.trans k.only, k.here⟩
end Go.Proofs.Ytoopcmcmjaikhaa

