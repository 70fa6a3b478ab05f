/- Small laws for the law on writes: what a slice of the call's own holds through calls, and a copy of any slice. -/
import Derived.Test.YtbiobejfjhmccaaDoorWrite
import Derived.Test.YtbiobejfjhmccaaDoorSpoil
import Derived.Test.YtbiobejfjhmccaaDoorSlices
namespace Go.Proofs.YtbiobejfjhmccaaDoor
open Go.RowKit Go.Lib

theorem Only.thenBelow {b : Nat} {w w' w'' : World} (h : Only b w w') (k : Below w.heap.size w' w'') : Only b w w'' :=
  ⟨k.os.trans h.os, k.tape.trans h.tape, k.output.trans h.output, Nat.le_trans h.size k.size, fun i hi hb => (k.block i hi).trans (h.block i hi hb)⟩
theorem only_of_below {b : Nat} {w w' : World} (h : Below w.heap.size w w') : Only b w w' := ⟨h.os, h.tape, h.output, h.size, fun i hi _ => h.block i hi⟩
theorem own_only {w w' : World} {b B : Nat} {v : Value} {n : Nat} {xs : List Value} (h : w.ownsRow B 5 1 v n xs) (ho : Only b w w') (hb : b < B) : w'.ownsRow B 5 1 v n xs := by
  obtain ⟨h0, h⟩ := h
  refine ⟨h0, ?_⟩
  rcases h with h | ⟨g, cap, cur, h1, h2, h3, h4⟩
  · exact Or.inl h
  · exact Or.inr ⟨g, cap, cur, h1, h2, ho.heap (by omega) h3, h4⟩
theorem own_below {w w' : World} {B : Nat} {v : Value} {n : Nat} {xs : List Value} (h : w.ownsRow B 5 1 v n xs) (hb : Below w.heap.size w w') : w'.ownsRow B 5 1 v n xs := by
  obtain ⟨h0, h⟩ := h
  refine ⟨h0, ?_⟩
  rcases h with h | ⟨g, cap, cur, h1, h2, h3, h4⟩
  · exact Or.inl h
  · refine Or.inr ⟨g, cap, cur, h1, h2, ?_, h4⟩
    have hg : g < w.heap.size := by
      rcases Nat.lt_or_ge g w.heap.size with q | q
      · exact q
      · rw [Array.getElem?_eq_none q] at h3; cases h3
    rw [hb.block g hg]
    exact h3
theorem own_lies {w : World} {B : Nat} {v : Value} {n : Nat} {x : Nat → Int} (h : w.ownsRow B 5 1 v n (firstBytes x n)) :
    ∃ p g cap, v = .slice p n cap ∧ n ≤ cap ∧ cap ≤ maxLen ∧ Lies w p g 0 n x ∧ (p = none → n = 0 ∧ cap = 0) := by
  have h' := h
  obtain ⟨h0, h⟩ := h
  rcases h with ⟨rfl, rfl⟩ | ⟨g, cap, cur, rfl, h2, h3, h4, h5, _⟩
  · exact ⟨none, 0, 0, rfl, Nat.le_refl _, by unfold maxLen; omega, ⟨fun h => absurd h (by omega), fun i hi => absurd hi (by omega)⟩, fun _ => ⟨rfl, rfl⟩⟩
  · exact ⟨some ⟨g, 0, none⟩, g, cap, rfl, h4, h5, ⟨fun _ => rfl, fun i hi => by rw [Nat.zero_add]; exact own_cells h' i hi⟩, fun h => by cases h⟩
theorem firstBytes_cat (x y : Nat → Int) (m : Nat) : ∀ n, firstBytes x m ++ firstBytes y n = firstBytes (cat x m y) (m + n)
  | 0 => by
    have e : firstBytes y 0 = [] := rfl
    rw [e, List.append_nil, Nat.add_zero]
    exact firstBytes_congr (fun i hi => (cat_low x y m i hi).symm)
  | n + 1 => by
    rw [← firstBytes_snoc y n, ← List.append_assoc, firstBytes_cat x y m n, ← Nat.add_assoc, ← firstBytes_snoc, cat_high]
/-- A copy of any slice. -/
theorem clone_any (p : Option Addr) (g o n c : Nat) (x : Nat → Int) (w : World) (hn : n ≤ 140737488355328) (hnil : p = none → n = 0 ∧ c = 0) (hl : Lies w p g o n x) :
    Calls Tryd.prog 10 #[.slice p n c] w fun e w' => ∃ p1 g1 c1, e = .returned (.slice p1 n c1) ∧ n ≤ c1 ∧ c1 ≤ maxLen ∧ w.heap.size ≤ g1 ∧ Lies w' p1 g1 0 n x ∧ (0 < n → Writable g1 0 n w') ∧ Below w.heap.size w w' := by
  cases p with
  | none =>
    obtain ⟨rfl, rfl⟩ := hnil rfl
    refine (clone_none w).mono ?_
    rintro e w' ⟨rfl, rfl⟩
    exact ⟨none, w.heap.size, 0, rfl, Nat.le_refl _, by unfold maxLen; omega, Nat.le_refl _, ⟨fun h => absurd h (by omega), fun i hi => absurd hi (by omega)⟩, fun h => absurd h (by omega), Below.refl _ _⟩
  | some a =>
    have cl : ∀ j, j < n → w.cell? (a.add j) = some (.int .u8 (x j)) := by
      intro j hj
      obtain ⟨rfl⟩ := hl.1 (by omega)
      rw [add_at]
      exact hl.2 j hj
    refine (clone_some a n c x w hn cl).mono ?_
    rintro e w1 ⟨p1, g1, c1, rfl, hn1, hm1, hg1, hl1, hf1, hb1⟩
    exact ⟨p1, g1, c1, rfl, hn1, hm1, hg1, hl1, fun _ => ⟨fun i hi => ⟨x i, hl1.2 i hi⟩, hf1⟩, hb1⟩
/-- Rows one behind another. -/
def catX (L : Nat → Nat) (X : Nat → Nat → Int) : Nat → Nat → Int
  | 0 => fun _ => 0
  | k + 1 => cat (catX L X k) (sumTo L k) (X k)
theorem catX_range (L : Nat → Nat) (X : Nat → Nat → Int) : ∀ k, (∀ r, r < k → ∀ i, 0 ≤ X r i ∧ X r i ≤ 255) → ∀ i, 0 ≤ catX L X k i ∧ catX L X k i ≤ 255
  | 0, _, _ => ⟨Int.le_refl 0, (by decide : (0 : Int) ≤ 255)⟩
  | k + 1, h, i => cat_range (catX_range L X k (fun r hr => h r (by omega))) (h k (by omega)) _ i
end Go.Proofs.YtbiobejfjhmccaaDoor
