/- Texts of sha, merged: SShaSum, SRefSum. -/
import Derived.Test.YtbmhdmlhgdkkkaaGreatDoorSRefMix
import Derived.Test.YtbmhdmlhgdkkkaaGreatDoorSA8
section
/- SHA-256 of any bytes as a plain function. Nothing of the program's run stands here. -/
namespace Go.Proofs.YtbmhdmlhgdkkkaaGreatDoor.S
open Go.RowKit

def H0 : R8 := ⟨1779033703, 3144134277, 1013904242, 2773480762, 1359893119, 2600822924, 528734635, 1541459225⟩
theorem H0_in : H0.In := by constructor <;> exact ⟨by decide, by decide⟩
/-- The words behind so many blocks. -/
def mst (x : Nat → Int) : Nat → R8
  | 0 => H0
  | j + 1 => compress (mst x j) (fun i => x (64 * j + i))
theorem mst_in (x : Nat → Int) : ∀ j, (mst x j).In
  | 0 => H0_in
  | _ + 1 => compress_in _ _
/-- Words as bytes. -/
def digest (s : R8) : Nat → Value := fun i => .int .u8 (s.nth (i / 4) / 2 ^ (24 - 8 * (i % 4)) % 256)
def sha (x : Nat → Int) (n : Nat) : Nat → Value := digest (mst (padByte x n) ((ahead n + 8) / 64))
theorem pad_range (x : Nat → Int) (hx : ∀ i, 0 ≤ x i ∧ x i ≤ 255) (n i : Nat) : 0 ≤ padByte x n i ∧ padByte x n i ≤ 255 := by
  unfold padByte
  split
  · exact hx i
  · split
    · omega
    · split
      · omega
      · omega
/-- Eight words, written out. -/
def lit8 (s : R8) : Array Value := #[.int .u32 s.a, .int .u32 s.b, .int .u32 s.c, .int .u32 s.d, .int .u32 s.e, .int .u32 s.f, .int .u32 s.g, .int .u32 s.h]
theorem lit8_eq (s : R8) : arr 8 (rv s) = lit8 s := rfl
end Go.Proofs.YtbmhdmlhgdkkkaaGreatDoor.S
end
section
/- The document's SHA-256: of any bytes it returns sha; what lay in memory stays. -/
namespace Go.Proofs.YtbmhdmlhgdkkkaaGreatDoor.S
open Go.RowKit Go.Lib
attribute [local go_sem ↓] Go.wp_at_zero Go.wp_at_succ

def zb : Nat → Value := fun _ => .int .u8 0
theorem own_cells {w : World} {base n g cap : Nat} {x : Nat → Int} (h : w.ownsRow base 5 1 (.slice (some ⟨g, 0, none⟩) n cap) n (firstBytes x n)) (i : Nat) (hi : i < n) : w.cell? ⟨g, i, none⟩ = some (.int .u8 (x i)) := by
  obtain ⟨_, h⟩ := h
  rcases h with ⟨h, _⟩ | ⟨g', cap', cur, h, hg, hh, hc, hm, _, ht⟩
  · cases h
  · cases h
    refine cell_of_here hh i ?_
    have e : (cur.toList.take (n * 1))[i]? = (firstBytes x n)[i]? := by rw [ht]
    rw [List.getElem?_take, if_pos (by omega)] at e
    rw [← Array.getElem?_toList, e]
    simp [firstBytes, hi]
theorem own_base {w : World} {base n g cap : Nat} {xs : List Value} (h : w.ownsRow base 5 1 (.slice (some ⟨g, 0, none⟩) n cap) n xs) : base ≤ g ∧ n ≤ cap ∧ cap ≤ maxLen := by
  obtain ⟨g', cap', h1, h2, h3, h4⟩ := own_form h (by intro h; cases h)
  cases h1
  exact ⟨h2, h3, h4⟩

/-- Block g begins with the bytes x. -/
def CellsAre (g n : Nat) (x : Nat → Int) (w : World) : Prop := ∀ i, i < n → w.cell? ⟨g, i, none⟩ = some (.int .u8 (x i))
theorem CellsAre.below {g n : Nat} {x : Nat → Int} {w w' : World} (h : CellsAre g n x w) (hb : Below w.heap.size w w') : CellsAre g n x w' := fun i hi => by
  rw [hb.cell (cell_lt (h i hi))]; exact h i hi
theorem CellsAre.other {g n : Nat} {x : Nat → Int} {w : World} (h : CellsAre g n x w) (a : Addr) (v : Value) (ha : g ≠ a.block) : CellsAre g n x (w.setCell a v) := fun i hi => by
  rw [World.cell?_of_block (w := w) (Below.heap_setCell _ _ _ _ ha)]; exact h i hi
theorem CellsAre.of_heap {g n : Nat} {x : Nat → Int} {w w' : World} (h : CellsAre g n x w) (e : w'.heap = w.heap) : CellsAre g n x w' := fun i hi => by
  rw [World.cell?_of_block (w := w) (by rw [e])]; exact h i hi
theorem CellsAre.only {g b n : Nat} {x : Nat → Int} {w w' : World} (h : CellsAre g n x w) (hb : Only b w w') (hg : g ≠ b) : CellsAre g n x w' := fun i hi => hb.cell (p := ⟨g, i, none⟩) hg (h i hi)
/-- Eight cells, stored one behind the other. -/
def store8 (w : World) (b : Nat) (s : R8) : World := ((((((((w.setCell ⟨b, 0, none⟩ (.int .u32 s.a)).setCell ⟨b, 1, none⟩ (.int .u32 s.b)).setCell ⟨b, 2, none⟩ (.int .u32 s.c)).setCell ⟨b, 3, none⟩ (.int .u32 s.d)).setCell ⟨b, 4, none⟩ (.int .u32 s.e)).setCell ⟨b, 5, none⟩ (.int .u32 s.f)).setCell ⟨b, 6, none⟩ (.int .u32 s.g)).setCell ⟨b, 7, none⟩ (.int .u32 s.h))
theorem store8_has {b : Nat} {T : TypeId} {w : World} {f : Nat → Value} (h : HasAt b T 8 f w) (s : R8) : HasAt b T 8 (rv s) (store8 w b s) := by
  refine ((((((((h.set 0 _ (fun _ _ => rfl)).set 1 _ (fun _ _ => rfl)).set 2 _ (fun _ _ => rfl)).set 3 _ (fun _ _ => rfl)).set 4 _ (fun _ _ => rfl)).set 5 _ (fun _ _ => rfl)).set 6 _ (fun _ _ => rfl)).set 7 _ (fun i hi => ?_))
  match i, hi with
  | 0, _ => rfl
  | 1, _ => rfl
  | 2, _ => rfl
  | 3, _ => rfl
  | 4, _ => rfl
  | 5, _ => rfl
  | 6, _ => rfl
  | 7, _ => rfl
theorem store8_only (w : World) (b : Nat) (s : R8) : Only b w (store8 w b s) :=
  ((((((((Only.refl b w).setCell _ rfl _).setCell _ rfl _).setCell _ rfl _).setCell _ rfl _).setCell _ rfl _).setCell _ rfl _).setCell _ rfl _).setCell _ rfl _

end Go.Proofs.YtbmhdmlhgdkkkaaGreatDoor.S
end

