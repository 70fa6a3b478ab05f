/- Hashes of which the last ones are written once more: the root is the same, and it may be of others. -/
import Derived.Test.YtbgaponminodhaaDoorHx
set_option linter.unusedSimpArgs false
set_option linter.unusedVariables false
set_option maxRecDepth 100000
namespace Go.Proofs.YtbgaponminodhaaDoor
open Go.RowKit Go.Lib

theorem tw_congr {h h' : Nat → List Nat} {k : Nat} (e : ∀ i, i < 2 * k → h i = h' i) : tw h k = tw h' k := by
  induction k with
  | zero => rfl
  | succ k ih =>
    rw [tw_succ, tw_succ, ih (fun i hi => e i (by omega)), e (2 * k) (by omega), e (2 * k + 1) (by omega)]
theorem up_congr {h h' : Nat → List Nat} {n : Nat} (e : ∀ i, i < n → h i = h' i) (j : Nat) (hj : 2 * j < n) : up h n j = up h' n j := by
  unfold up
  rw [e (2 * j) hj, e (min (2 * j + 1) (n - 1)) (by omega)]
theorem root_congr : ∀ (f : Nat) {h h' : Nat → List Nat} {n : Nat} (h0 : 0 < n) (e : ∀ i, i < n → h i = h' i), root f h n = root f h' n
  | 0, h, h', n, h0, e => by show (h 0, false) = (h' 0, false); rw [e 0 h0]
  | f + 1, h, h', n, h0, e => by
    show (if n ≤ 1 then (h 0, false) else _) = (if n ≤ 1 then (h' 0, false) else _)
    by_cases h1 : n ≤ 1
    · rw [if_pos h1, if_pos h1, e 0 h0]
    · rw [if_neg h1, if_neg h1, root_congr f (h := up h n) (h' := up h' n) (by omega) (fun i hi => up_congr e i (by omega)), tw_congr (fun i hi => e i (by omega))]
theorem mroot_congr {h h' : Nat → List Nat} {n : Nat} (h0 : 0 < n) (e : ∀ i, i < n → h i = h' i) : mroot h n = mroot h' n := root_congr n h0 e
/-- The last w of N written once more. -/
def ext (h : Nat → List Nat) (N w : Nat) : Nat → List Nat := fun i => if i < N then h i else h (i - w)
theorem twice (n : Nat) (hodd : n % 2 = 1) (hn : 3 ≤ n) : ∀ (k : Nat) (h : Nat → List Nat), (mroot (ext h (2 ^ k * n) (2 ^ k)) (2 ^ k * n + 2 ^ k)).1 = (mroot h (2 ^ k * n)).1 ∧ (mroot (ext h (2 ^ k * n) (2 ^ k)) (2 ^ k * n + 2 ^ k)).2 = true := by
  intro k
  induction k with
  | zero =>
    intro h
    simp only [Nat.pow_zero, Nat.one_mul]
    rw [mroot_more _ (show 1 < n + 1 by omega), mroot_more h (show 1 < n by omega)]
    have e : ∀ j, j < (n + 1) / 2 → up (ext h n 1) (n + 1) j = up h n j := fun j hj => by
      unfold up ext
      rw [if_pos (by omega)]
      by_cases hl : 2 * j + 1 < n
      · rw [if_pos (by omega)]
        rw [show min (2 * j + 1) (n + 1 - 1) = min (2 * j + 1) (n - 1) by omega]
      · rw [if_neg (by omega)]
        rw [show min (2 * j + 1) (n + 1 - 1) - 1 = min (2 * j + 1) (n - 1) by omega]
    have e2 : (n + 1 + 1) / 2 = (n + 1) / 2 := by omega
    refine ⟨?_, ?_⟩
    · show (mroot (up (ext h n 1) (n + 1)) ((n + 1 + 1) / 2)).1 = (mroot (up h n) ((n + 1) / 2)).1
      rw [e2, mroot_congr (by omega) e]
    · show (tw (ext h n 1) ((n + 1) / 2) || _) = true
      have : tw (ext h n 1) ((n + 1) / 2) = true := by
        unfold tw
        rw [List.any_eq_true]
        refine ⟨(n - 1) / 2, by simp; omega, ?_⟩
        have e1 : 2 * ((n - 1) / 2) = n - 1 := by omega
        rw [e1, show n - 1 + 1 = n by omega]
        unfold ext
        rw [if_pos (by omega), if_neg (by omega)]
        simp
      rw [this]
      rfl
  | succ k ih =>
    intro h
    obtain ⟨w, hw⟩ : ∃ w, w = 2 ^ k := ⟨_, rfl⟩
    have hw0 : 0 < w := by rw [hw]; exact Nat.two_pow_pos k
    have e0 : 2 ^ (k + 1) = 2 * w := by rw [Nat.pow_succ, hw]; omega
    rw [e0]
    rw [← hw] at ih
    obtain ⟨M, hM⟩ : ∃ M, M = w * n := ⟨_, rfl⟩
    have hM3 : 3 ≤ M := by
      rw [hM]
      calc 3 ≤ n := hn
        _ ≤ w * n := Nat.le_mul_of_pos_left n hw0
    have hMw : w ≤ M := by rw [hM]; exact Nat.le_mul_of_pos_right w (by omega)
    have e1 : 2 * w * n = 2 * M := by rw [hM, Nat.mul_assoc]
    rw [e1]
    rw [← hM] at ih
    rw [mroot_more _ (show 1 < 2 * M + 2 * w by omega), mroot_more h (show 1 < 2 * M by omega)]
    have e2 : (2 * M + 2 * w + 1) / 2 = M + w := by omega
    have e3 : (2 * M + 1) / 2 = M := by omega
    have e : ∀ j, j < M + w → up (ext h (2 * M) (2 * w)) (2 * M + 2 * w) j = ext (up h (2 * M)) M w j := fun j hj => by
      unfold ext
      by_cases hl : j < M
      · rw [if_pos hl]
        unfold up
        show node (if 2 * j < 2 * M then h (2 * j) else h (2 * j - 2 * w)) (if min (2 * j + 1) (2 * M + 2 * w - 1) < 2 * M then h (min (2 * j + 1) (2 * M + 2 * w - 1)) else h (min (2 * j + 1) (2 * M + 2 * w - 1) - 2 * w)) = _
        rw [if_pos (by omega), if_pos (by omega)]
        rw [show min (2 * j + 1) (2 * M + 2 * w - 1) = min (2 * j + 1) (2 * M - 1) by omega]
      · rw [if_neg hl]
        unfold up
        show node (if 2 * j < 2 * M then h (2 * j) else h (2 * j - 2 * w)) (if min (2 * j + 1) (2 * M + 2 * w - 1) < 2 * M then h (min (2 * j + 1) (2 * M + 2 * w - 1)) else h (min (2 * j + 1) (2 * M + 2 * w - 1) - 2 * w)) = _
        rw [if_neg (by omega), if_neg (by omega)]
        rw [show 2 * j - 2 * w = 2 * (j - w) by omega, show min (2 * j + 1) (2 * M + 2 * w - 1) - 2 * w = min (2 * (j - w) + 1) (2 * M - 1) by omega]
    obtain ⟨i1, i2⟩ := ih (up h (2 * M))
    refine ⟨?_, ?_⟩
    · show (mroot (up (ext h (2 * M) (2 * w)) (2 * M + 2 * w)) ((2 * M + 2 * w + 1) / 2)).1 = (mroot (up h (2 * M)) ((2 * M + 1) / 2)).1
      rw [e2, e3, mroot_congr (by omega) e, i1]
    · show (_ || (mroot (up (ext h (2 * M) (2 * w)) (2 * M + 2 * w)) ((2 * M + 2 * w + 1) / 2)).2) = true
      rw [e2, mroot_congr (by omega) e, i2]
      simp
theorem isH_ext {h : Nat → List Nat} (hh : ∀ i, IsH (h i)) (N w i : Nat) : IsH (ext h N w i) := by
  unfold ext
  split
  · exact hh _
  · exact hh _
theorem ext_cells (h : Nat → List Nat) (N w : Nat) (hw : w ≤ N) (i : Nat) (hi : i < (N + w) * 32) : vcat (hv h) (N * 32) (fun i => hv h ((N - w) * 32 + i)) i = hv (ext h N w) i := by
  have e1 : ∀ j, ext h N w j = if j < N then h j else h (j - w) := fun _ => rfl
  have e2 : ∀ j, hv h j = .int .u8 ((lf (h (j / 32)) (j % 32) : Nat) : Int) := fun _ => rfl
  have e3 : hv (ext h N w) i = .int .u8 ((lf (ext h N w (i / 32)) (i % 32) : Nat) : Int) := rfl
  rw [e3, e1]
  unfold vcat
  by_cases hl : i < N * 32
  · rw [if_pos hl, if_pos (by omega), e2]
  · rw [if_neg hl, if_neg (by omega)]
    show hv h ((N - w) * 32 + (i - N * 32)) = _
    rw [e2, show ((N - w) * 32 + (i - N * 32)) / 32 = i / 32 - w by omega, show ((N - w) * 32 + (i - N * 32)) % 32 = i % 32 by omega]
theorem run_hslice_l {p q : Option Addr} {n c l : Nat} (hs : sliced p l n c 32 = .slice q (n - l) (c - l)) (h2 : l ≤ n) (w : World) : (Instr.sliceAt 56 (.slice p n c) (some (.int .i64 ((l : Nat) : Int))) none none).run Tryd.prog w = .ok (.slice q (n - l) (c - l)) w := by
  have he : Tryd.prog.elem 56 = 33 := by kernel_rfl
  have ht : Tryd.prog.underlying 56 = some (.slice (Tryd.prog.elem 56)) := by rw [he]; exact Tryd.underlying56
  have hsz : (sizeOf 33).run Tryd.prog w = .ok 32 w := by kernel_rfl
  have hb : (Instr.sliceBounds true n c (some (.int .i64 (l : Int))) none none).run Tryd.prog w = .ok (l, n, c) w := by simp [Instr.sliceBounds, run_sliceBound, h2]
  rw [run_sliceAt_slice w 56 _ _ _ _ ht, run_slice_any w 56 p n c ht, hb]
  simp only [Result.andThen_ok, he, hsz, hs]
end Go.Proofs.YtbgaponminodhaaDoor
