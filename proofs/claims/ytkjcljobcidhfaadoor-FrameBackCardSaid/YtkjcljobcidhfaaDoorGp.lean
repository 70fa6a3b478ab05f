/- What is written as a frame reads back as that frame: plain functions. -/
import Derived.Test.YtkjcljobcidhfaaDoorGr
set_option linter.unusedSimpArgs false
set_option linter.unusedVariables false
set_option maxRecDepth 100000
namespace Go.Proofs.YtkjcljobcidhfaaDoor
open Go.RowKit Go.Lib Go.Sort

theorem lf_lo {a b : List Nat} {i : Nat} (h : i < a.length) : lf (a ++ b) i = lf a i := by
  rw [← lf_cat]
  unfold cat
  rw [if_pos h]
theorem lf_hi (a b : List Nat) {i n : Nat} (h : a.length = n) : lf (a ++ b) (n + i) = lf b i := by
  subst h
  rw [← lf_cat]
  unfold cat
  rw [if_neg (by omega)]
  congr 1
  omega
theorem trimLen_congr {x y : Nat → Nat} : ∀ {n : Nat}, (∀ i, i < n → x i = y i) → trimLen x n = trimLen y n
  | 0, _ => rfl
  | n + 1, h => by
    unfold trimLen
    rw [h n (by omega), trimLen_congr fun i hi => h i (by omega)]
theorem trimLen_of {x : Nat → Nat} {m : Nat} (h1 : ∀ i, i < m → x i ≠ 0) (h2 : ∀ i, m ≤ i → x i = 0) : ∀ n, m ≤ n → trimLen x n = m
  | 0, h => by
    obtain rfl : m = 0 := by omega
    rfl
  | n + 1, h => by
    unfold trimLen
    by_cases e : m = n + 1
    · rw [if_neg (h1 n (by omega)), e]
    · rw [if_pos (h2 n (by omega))]
      exact trimLen_of h1 h2 n (by omega)
theorem lows_at {x : Nat → Nat} : ∀ {n : Nat}, lows x n = true → ∀ i, i < n → low1 (x i) = true
  | 0, _, i, hi => by omega
  | n + 1, h, i, hi => by
    have h' : lows x n = true ∧ low1 (x n) = true := by simpa [lows] using h
    by_cases e : i = n
    · subst e; exact h'.2
    · exact lows_at h'.1 i (by omega)
theorem isCom_ne {x : Nat → Nat} {n : Nat} (h : isCom x n = true) (i : Nat) (hi : i < n) : x i ≠ 0 := fun e => by
  have hl : lows x n = true := by
    unfold isCom at h
    simp only [Bool.and_eq_true] at h
    exact h.1
  have := lows_at hl i hi
  rw [e] at this
  exact absurd this (by decide)
/-- The parts of a written frame, and what stands behind it. -/
theorem frB_parts {cmd t r : List Nat} (hc : cmd.length ≤ 12) : (∀ i, i < 4 → lf (frB cmd t ++ r) i = byteAt 3652501241 i) ∧ (∀ i, i < 12 → lf (frB cmd t ++ r) (4 + i) = lf cmd i) ∧ (∀ i, i < 4 → lf (frB cmd t ++ r) (16 + i) = byteAt t.length i) ∧ ((frB cmd t ++ r).drop 20).take 4 = sum4 t ∧ ((frB cmd t ++ r).drop 24) = t ++ r := by
  have l1 : (low 3652501241 4 ++ cmd).length = 4 + cmd.length := by rw [List.length_append, low_length]
  have l2 : (low 3652501241 4 ++ cmd ++ List.replicate (12 - cmd.length) 0).length = 16 := by rw [List.length_append, l1, List.length_replicate]; omega
  have l3 : (low 3652501241 4 ++ cmd ++ List.replicate (12 - cmd.length) 0 ++ low t.length 4).length = 20 := by rw [List.length_append, l2, low_length]
  have l4 : (low 3652501241 4 ++ cmd ++ List.replicate (12 - cmd.length) 0 ++ low t.length 4 ++ sum4 t).length = 24 := by rw [List.length_append, l3, sum4_length]
  refine ⟨fun i hi => ?_, fun i hi => ?_, fun i hi => ?_, ?_, ?_⟩
  · unfold frB
    simp only [List.append_assoc]
    rw [lf_lo (by rw [low_length]; exact hi)]
    exact lf_tl _ hi
  · unfold frB
    simp only [List.append_assoc]
    rw [lf_hi _ _ (low_length _ _)]
    by_cases e : i < cmd.length
    · rw [lf_lo e]
    · have e2 : lf cmd i = 0 := by
        unfold lf
        rw [List.getD_eq_getElem?_getD, List.getElem?_eq_none (by omega)]
        rfl
      obtain ⟨j, rfl⟩ : ∃ j, i = cmd.length + j := ⟨i - cmd.length, by omega⟩
      rw [e2, lf_hi _ _ rfl, lf_lo (by rw [List.length_replicate]; omega)]
      unfold lf
      rw [List.getD_eq_getElem?_getD, List.getElem?_replicate]
      split <;> rfl
  · unfold frB
    rw [List.append_assoc, List.append_assoc, List.append_assoc (low 3652501241 4 ++ cmd ++ List.replicate (12 - cmd.length) 0), lf_hi _ _ l2, lf_lo (by rw [low_length]; exact hi)]
    exact lf_tl _ hi
  · unfold frB
    rw [List.append_assoc, List.append_assoc (low 3652501241 4 ++ cmd ++ List.replicate (12 - cmd.length) 0 ++ low t.length 4), List.drop_append_of_le_length (by omega), List.drop_eq_nil_of_le (by omega), List.nil_append, List.take_append_of_le_length (by rw [sum4_length]; omega), List.take_of_length_le (by rw [sum4_length]; omega)]
  · unfold frB
    rw [List.append_assoc, List.drop_append_of_le_length (by omega), List.drop_eq_nil_of_le (by omega), List.nil_append]
theorem pFirst_frB {cmd t r : List Nat} (hc : isCom (lf cmd) cmd.length = true) (ht : t.length ≤ 200000) : pFirst (frB cmd t ++ r) = .frame cmd.length (strX (lf cmd) cmd.length) t := by
  obtain ⟨c1, c2⟩ := isCom_size hc
  obtain ⟨h1, h2, h3, h4, h5⟩ := frB_parts (t := t) (r := r) c2
  have hm : ofBytes (lf (frB cmd t ++ r)) 4 = 3652501241 := by rw [ofBytes_congr h1, ofBytes_byteAt]
  have hk : trimLen (cmdX (frB cmd t ++ r)) 12 = cmd.length := by
    rw [trimLen_congr (x := cmdX (frB cmd t ++ r)) (y := lf cmd) h2]
    refine trimLen_of (isCom_ne hc) (fun i hi => ?_) 12 c2
    unfold lf
    rw [List.getD_eq_getElem?_getD, List.getElem?_eq_none (by omega)]
    rfl
  have hic : isCom (cmdX (frB cmd t ++ r)) cmd.length = true := by rw [isCom_congr (x := cmdX (frB cmd t ++ r)) (y := lf cmd) fun i hi => h2 i (by omega)]; exact hc
  have hL : lenX (frB cmd t ++ r) = t.length := by
    unfold lenX
    rw [ofBytes_congr h3, ofBytes_byteAt]
    omega
  have hp : payX (frB cmd t ++ r) = t := by
    unfold payX
    rw [hL, h5, List.take_append_of_le_length (Nat.le_refl _), List.take_length]
  have hl : (frB cmd t ++ r).length = 24 + t.length + r.length := by rw [List.length_append, frB_length c2]
  have hs : strX (cmdX (frB cmd t ++ r)) cmd.length = strX (lf cmd) cmd.length := by
    unfold strX
    congr 1
    exact List.map_congr_left fun i hi => by
      have : cmdX (frB cmd t ++ r) i = lf cmd i := h2 i (by have := List.mem_range.1 hi; omega)
      rw [this]
  unfold pFirst
  rw [if_neg (by omega), hk, if_neg (by simp [hm, hic]), hL, if_neg (by omega), if_neg (by omega), hp, h4, if_pos rfl, hs]
/-- A written frame, fed: the frame, and what stands behind it. -/
theorem feeds_frB {cmd t r rest : List Nat} {fs : List (ByteArray × List Nat)} {e : Int} (hc : isCom (lf cmd) cmd.length = true) (ht : t.length ≤ 200000) (h : Feeds r fs rest e) : Feeds (frB cmd t ++ r) ((strX (lf cmd) cmd.length, t) :: fs) rest e := by
  refine .frame (pFirst_frB hc ht) ?_
  have : (frB cmd t ++ r).drop (24 + t.length) = r := by
    rw [← List.drop_drop, (frB_parts (isCom_size hc).2).2.2.2.2, List.drop_left]
  rw [this]
  exact h
theorem feeds_one {cmd t : List Nat} (hc : isCom (lf cmd) cmd.length = true) (ht : t.length ≤ 200000) : Feeds (frB cmd t) [(strX (lf cmd) cmd.length, t)] [] 0 := by
  have := feeds_frB hc ht (.wait (zs := []) (by unfold pFirst; rw [if_pos (by decide)]))
  rwa [List.append_nil] at this
end Go.Proofs.YtkjcljobcidhfaaDoor
