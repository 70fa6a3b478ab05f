/- Bits in bytes, as plain functions. Nothing of the program stands here. -/
import Derived.Test.YtaonnckhohieoaaDoorTb
set_option linter.unusedSimpArgs false
set_option linter.unusedVariables false
namespace Go.Proofs.YtaonnckhohieoaaDoor
open Go.RowKit Go.Lib

/-- Byte i of n bits, told by f. -/
def pbf (f : Nat → Bool) : Nat → Nat → Nat
  | 0, _ => 0
  | n + 1, i => if i = n / 8 then pbf f n i ||| (if f n then 2 ^ (7 - n % 8) else 0) else pbf f n i
theorem pbf_bit (f : Nat → Bool) (n i k : Nat) : (pbf f n i).testBit k = (decide (k < 8 ∧ 8 * i + 7 - k < n) && f (8 * i + 7 - k)) := by
  induction n with
  | zero => simp [pbf]
  | succ n ih =>
    unfold pbf
    by_cases h : i = n / 8
    · rw [if_pos h, Nat.testBit_or, ih]
      by_cases e : k < 8 ∧ 8 * i + 7 - k = n
      · have hk : 7 - n % 8 = k := by omega
        rw [decide_eq_false (show ¬ (k < 8 ∧ 8 * i + 7 - k < n) by omega), decide_eq_true (show k < 8 ∧ 8 * i + 7 - k < n + 1 by omega), e.2, hk]
        cases hf : f n <;> simp [Nat.testBit_two_pow]
      · have h0 : (if f n = true then 2 ^ (7 - n % 8) else 0).testBit k = false := by
          split
          · rw [Nat.testBit_two_pow]; simp; omega
          · simp
        rw [h0, Bool.or_false, decide_eq_decide.2 (show (k < 8 ∧ 8 * i + 7 - k < n) ↔ (k < 8 ∧ 8 * i + 7 - k < n + 1) by omega)]
    · rw [if_neg h, ih, decide_eq_decide.2 (show (k < 8 ∧ 8 * i + 7 - k < n) ↔ (k < 8 ∧ 8 * i + 7 - k < n + 1) by omega)]
theorem pbf_lt (f : Nat → Bool) (n i : Nat) : pbf f n i < 256 := by
  refine Nat.lt_pow_two_of_testBit (n := 8) _ fun k hk => ?_
  rw [pbf_bit, decide_eq_false (by omega)]
  rfl
theorem pbf_congr {f g : Nat → Bool} {n : Nat} (h : ∀ j, j < n → f j = g j) (i : Nat) : pbf f n i = pbf g n i := by
  refine Nat.eq_of_testBit_eq fun k => ?_
  rw [pbf_bit, pbf_bit]
  by_cases e : k < 8 ∧ 8 * i + 7 - k < n
  · rw [h _ e.2]
  · rw [decide_eq_false e]; rfl
theorem pbf_zero (f : Nat → Bool) {n i : Nat} (h : n ≤ 8 * i) : pbf f n i = 0 := by
  refine Nat.eq_of_testBit_eq fun k => ?_
  rw [pbf_bit, decide_eq_false (by omega), Nat.zero_testBit]
  rfl
def lb (l : List Bool) (i : Nat) : Bool := l.getD i false
theorem lb_snoc (l : List Bool) (x : Bool) {j : Nat} (h : j < l.length) : lb (l ++ [x]) j = lb l j := by
  unfold lb
  rw [List.getD_eq_getElem?_getD, List.getD_eq_getElem?_getD, List.getElem?_append_left h]
theorem lb_last (l : List Bool) (x : Bool) : lb (l ++ [x]) l.length = x := by
  unfold lb
  rw [List.getD_eq_getElem?_getD, List.getElem?_append_right (Nat.le_refl _), Nat.sub_self]
  rfl
/-- How many bytes n bits take. -/
def nB (n : Nat) : Nat := (n + 7) / 8
/-- The bytes of bits. -/
def pk (l : List Bool) : List Nat := (List.range (nB l.length)).map (pbf (lb l) l.length)
theorem pk_length (l : List Bool) : (pk l).length = nB l.length := by simp [pk]
theorem lf_pk (l : List Bool) {i : Nat} (h : i < nB l.length) : lf (pk l) i = pbf (lb l) l.length i := by
  rw [lf_get (by rw [pk_length]; exact h)]
  simp [pk]
theorem isB_pk (l : List Bool) : IsB (pk l) := fun x hx => by
  obtain ⟨i, _, rfl⟩ := List.mem_map.1 hx
  exact pbf_lt _ _ _
theorem nB_snoc (n : Nat) : nB (n + 1) = n / 8 + 1 := by unfold nB; omega
/-- One bit more: the last byte with it. -/
theorem pk_snoc (l : List Bool) (x : Bool) (zs : List Nat) (hz : zs.length = l.length / 8 + 1) (h : ∀ i, i < zs.length → lf zs i = pbf (lb l) l.length i) (y : Nat) (hy : y = lf zs (l.length / 8) ||| (if x then 2 ^ (7 - l.length % 8) else 0)) :
    pk (l ++ [x]) = zs.set (l.length / 8) y := by
  have hl : (l ++ [x]).length = l.length + 1 := by simp
  apply List.ext_getElem
  · rw [pk_length, hl, nB_snoc, List.length_set, hz]
  · intro i h1 h2
    rw [pk_length, hl, nB_snoc] at h1
    rw [← lf_get, lf_pk _ (by rw [hl, nB_snoc]; exact h1), hl, pbf, lb_last, pbf_congr (g := lb l) (fun j hj => lb_snoc l x hj) i]
    rw [List.getElem_set]
    by_cases e : l.length / 8 = i
    · subst e
      rw [if_pos rfl, if_pos rfl, hy, h _ (by omega)]
    · rw [if_neg (fun h => e h.symm), if_neg e, ← h i (by omega), lf_get (by omega)]
theorem pk_same (l : List Bool) (zs : List Nat) (hz : zs.length = l.length / 8 + 1) (h : ∀ i, i < zs.length → lf zs i = pbf (lb l) l.length i) : pk (l ++ [false]) = zs := by
  rw [pk_snoc l false zs hz h (lf zs (l.length / 8)) (by simp)]
  apply List.ext_getElem
  · simp
  · intro i h1 h2
    rw [List.getElem_set]
    split
    · rename_i e; subst e; rw [lf_get]
    · rfl
/-- The lowest bits of a number, the highest ahead. -/
def bitsOf (n count : Nat) : List Bool := (List.range count).map fun i => n.testBit (count - 1 - i)
theorem bitsOf_length (n count : Nat) : (bitsOf n count).length = count := by simp [bitsOf]
theorem bitsOf_succ (n count : Nat) : bitsOf n (count + 1) = n.testBit count :: bitsOf n count := by
  unfold bitsOf
  rw [List.range_succ_eq_map, List.map_cons, List.map_map]
  congr 1
  apply List.map_congr_left
  intro i _
  show n.testBit (count + 1 - 1 - (i + 1)) = _
  congr 1
  omega
end Go.Proofs.YtaonnckhohieoaaDoor

