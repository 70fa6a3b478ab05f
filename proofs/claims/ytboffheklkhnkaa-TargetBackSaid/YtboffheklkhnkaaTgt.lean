/- Targets as plain numbers: what bits say, the bits of a number, the work. Nothing of the program's run stands here. -/
import Derived.Test.YtboffheklkhnkaaProd
namespace Go.Proofs.Ytboffheklkhnkaa

def exE (b : Nat) : Nat := b / 16777216
def exM (b : Nat) : Nat := b % 8388608
/-- What bits' m leaves, and by how many bits it goes up. -/
def exP (b : Nat) : Nat := if exE b < 3 then exM b / 2 ^ (8 * (3 - exE b)) else exM b
def exU (b : Nat) : Nat := if exE b < 3 then 0 else 8 * (exE b - 3)
def signed (b : Nat) : Prop := b / 8388608 % 2 = 1
instance (b : Nat) : Decidable (signed b) := inferInstanceAs (Decidable (_ = _))
/-- Whether bits are a target. -/
def isT (b : Nat) : Prop := ¬ signed b ∧ exP b ≠ 0 ∧ blen (exP b) + exU b ≤ 256
instance (b : Nat) : Decidable (isT b) := inferInstanceAs (Decidable (_ ∧ _ ∧ _))
def tOf (b : Nat) : Nat := exP b * 2 ^ exU b
theorem exM_lt (b : Nat) : exM b < 8388608 := Nat.mod_lt _ (by decide)
theorem exP_le (b : Nat) : exP b ≤ exM b := by
  unfold exP
  split
  · exact Nat.div_le_self _ _
  · exact Nat.le_refl _
theorem exP_lt (b : Nat) : exP b < 8388608 := Nat.lt_of_le_of_lt (exP_le b) (exM_lt b)
theorem tOf_lt {b : Nat} (h : isT b) : tOf b < P256 := by
  have h1 : blen (exP b * 2 ^ exU b) ≤ 256 := by rw [blen_mul h.2.1]; exact h.2.2
  exact lt_of_blen h1
theorem tOf_pos {b : Nat} (h : isT b) : 0 < tOf b := Nat.mul_pos (Nat.pos_of_ne_zero h.2.1) (Nat.two_pow_pos _)
/-- The bits of a number. -/
def cpE (t : Nat) : Nat := (blen t + 7) / 8
def cpM (t : Nat) : Nat := if cpE t ≤ 3 then t * 2 ^ (8 * (3 - cpE t)) else t / 2 ^ (8 * (cpE t - 3))
def cpt (t : Nat) : Nat := if cpM t / 8388608 % 2 = 1 then (cpE t + 1) * 16777216 + cpM t / 256 else cpE t * 16777216 + cpM t
theorem cpM_lt (t : Nat) : cpM t < 16777216 := by
  have h1 := blen_lt t
  unfold cpM cpE
  split
  · rename_i h
    have h2 : t < 2 ^ (8 * ((blen t + 7) / 8)) := Nat.lt_of_lt_of_le h1 (Nat.pow_le_pow_right (by decide) (by omega))
    have h3 := (Nat.mul_lt_mul_right (Nat.two_pow_pos (8 * (3 - (blen t + 7) / 8)))).2 h2
    rw [← Nat.pow_add, show 8 * ((blen t + 7) / 8) + 8 * (3 - (blen t + 7) / 8) = 24 by omega] at h3
    exact h3
  · rename_i h
    rw [Nat.div_lt_iff_lt_mul (Nat.two_pow_pos _)]
    have e : (16777216 : Nat) = 2 ^ 24 := by decide
    rw [e, ← Nat.pow_add]
    exact Nat.lt_of_lt_of_le h1 (Nat.pow_le_pow_right (by decide) (by omega))
/-- How much work a target stands for. -/
def workOf (t : Nat) : Nat := (P256 - (t + 1)) / (t + 1) + 1
theorem workOf_anti {t u : Nat} (h : t ≤ u) (hu : u < P256) : workOf u ≤ workOf t := by
  unfold workOf
  have h1 : (P256 - (u + 1)) / (u + 1) ≤ (P256 - (t + 1)) / (u + 1) := Nat.div_le_div_right (by omega)
  have h2 : (P256 - (t + 1)) / (u + 1) ≤ (P256 - (t + 1)) / (t + 1) := Nat.div_le_div_left (by omega) (by omega)
  omega
end Go.Proofs.Ytboffheklkhnkaa
namespace Go.Proofs.Ytboffheklkhnkaa

theorem floor_le (t s : Nat) : t / 2 ^ s * 2 ^ s ≤ t := Nat.div_mul_le_self _ _
theorem floor_blen {t s : Nat} (h : t / 2 ^ s ≠ 0) : blen (t / 2 ^ s * 2 ^ s) = blen t := by
  have ht : t ≠ 0 := by intro e; rw [e, Nat.zero_div] at h; exact h rfl
  have h1 := blen_le h
  have h2 := blen_lt (t / 2 ^ s)
  have h3 := blen_pos h
  have hs := Nat.two_pow_pos s
  rw [blen_mul h]
  have e : blen (t / 2 ^ s) + s = (blen (t / 2 ^ s) - 1 + s) + 1 := by omega
  rw [e]
  refine (blen_is ?_ ?_).symm
  · rw [Nat.pow_add]
    exact Nat.le_trans (Nat.mul_le_mul_right _ h1) (Nat.div_mul_le_self _ _)
  · rw [← e, Nat.pow_add]
    exact (Nat.div_lt_iff_lt_mul hs).1 h2
/-- Bits by their e and m. -/
theorem split_bits {E M : Nat} (hM : M < 8388608) : exE (E * 16777216 + M) = E ∧ exM (E * 16777216 + M) = M ∧ ¬ signed (E * 16777216 + M) := by
  unfold exE exM signed
  omega
/-- By how many bits a number's bits cut it. -/
def cutS (t : Nat) : Nat := if cpM t / 8388608 % 2 = 1 then 8 * (cpE t - 2) else 8 * (cpE t - 3)
theorem cpE_pos {t : Nat} (h : t ≠ 0) : 1 ≤ cpE t := by unfold cpE; have := blen_pos h; omega
theorem cpE_le {t : Nat} (h : t < P256) : cpE t ≤ 32 := by
  have : blen t ≤ 256 := blen_le_of h
  unfold cpE
  omega
theorem low_le {t : Nat} (h : t ≠ 0) : 2 ^ (8 * (cpE t - 1)) ≤ t := by
  refine Nat.le_trans (Nat.pow_le_pow_right (by decide) ?_) (blen_le h)
  unfold cpE
  have := blen_pos h
  omega
theorem cpM_ge {t : Nat} (h : t ≠ 0) : 65536 ≤ cpM t := by
  have h1 := low_le h
  have h2 := cpE_pos h
  unfold cpM
  split
  · rename_i h3
    have h4 := Nat.mul_le_mul_right (2 ^ (8 * (3 - cpE t))) h1
    rw [← Nat.pow_add, show 8 * (cpE t - 1) + 8 * (3 - cpE t) = 16 by omega] at h4
    exact h4
  · rename_i h3
    rw [Nat.le_div_iff_mul_le (Nat.two_pow_pos _)]
    have e : (65536 : Nat) = 2 ^ 16 := by decide
    rw [e, ← Nat.pow_add, show 16 + 8 * (cpE t - 3) = 8 * (cpE t - 1) by omega]
    exact h1
/-- What a number's bits say. -/
theorem cpt_says {t : Nat} (h : t ≠ 0) : tOf (cpt t) = t / 2 ^ cutS t * 2 ^ cutS t ∧ exP (cpt t) ≠ 0 ∧ ¬ signed (cpt t) ∧ t / 2 ^ cutS t ≠ 0 := by
  have hM := cpM_lt t
  have hG := cpM_ge h
  have hE := cpE_pos h
  have hlow := low_le h
  have hnz : ∀ s, s ≤ 8 * (cpE t - 1) → t / 2 ^ s ≠ 0 := fun s hs => by
    have h1 : 1 ≤ t / 2 ^ s := by
      rw [Nat.le_div_iff_mul_le (Nat.two_pow_pos _), Nat.one_mul]
      exact Nat.le_trans (Nat.pow_le_pow_right (by decide) hs) hlow
    omega
  by_cases hs : cpM t / 8388608 % 2 = 1
  · have hm : cpM t / 256 < 8388608 := by omega
    obtain ⟨e1, e2, e3⟩ := split_bits (E := cpE t + 1) hm
    have ec : cpt t = (cpE t + 1) * 16777216 + cpM t / 256 := by unfold cpt; rw [if_pos hs]
    have es : cutS t = 8 * (cpE t - 2) := by unfold cutS; rw [if_pos hs]
    rw [ec, es]
    unfold tOf exP exU
    rw [e1, e2]
    refine ⟨?_, ?_, e3, hnz _ (by omega)⟩
    · by_cases h3 : cpE t ≤ 3
      · have hc : cpM t = t * 2 ^ (8 * (3 - cpE t)) := by unfold cpM; rw [if_pos h3]
        rcases (by omega : cpE t = 1 ∨ cpE t = 2 ∨ cpE t = 3) with h4 | h4 | h4
        · rw [h4] at hc ⊢
          rw [if_pos (by decide), if_pos (by decide), hc]
          simp
          omega
        · rw [h4] at hc ⊢
          rw [if_neg (by decide), if_neg (by decide), hc]
          simp
        · rw [h4] at hc ⊢
          rw [if_neg (by decide), if_neg (by decide), hc]
          simp
      · have hc : cpM t = t / 2 ^ (8 * (cpE t - 3)) := by unfold cpM; rw [if_neg h3]
        rw [if_neg (by omega), if_neg (by omega), hc, show 256 = 2 ^ 8 from rfl, Nat.div_div_eq_div_mul, ← Nat.pow_add, show 8 * (cpE t - 3) + 8 = 8 * (cpE t - 2) by omega, show cpE t + 1 - 3 = cpE t - 2 by omega]
    · split
      · rename_i h3
        have h4 : cpE t = 1 := by omega
        rw [h4]
        simp
        omega
      · omega
  · have hm : cpM t < 8388608 := by omega
    obtain ⟨e1, e2, e3⟩ := split_bits (E := cpE t) hm
    have ec : cpt t = cpE t * 16777216 + cpM t := by unfold cpt; rw [if_neg hs]
    have es : cutS t = 8 * (cpE t - 3) := by unfold cutS; rw [if_neg hs]
    rw [ec, es]
    unfold tOf exP exU
    rw [e1, e2]
    refine ⟨?_, ?_, e3, hnz _ (by omega)⟩
    · by_cases h3 : cpE t ≤ 3
      · have hc : cpM t = t * 2 ^ (8 * (3 - cpE t)) := by unfold cpM; rw [if_pos h3]
        rcases (by omega : cpE t = 1 ∨ cpE t = 2 ∨ cpE t = 3) with h4 | h4 | h4
        · rw [h4] at hc ⊢
          rw [if_pos (by decide), if_pos (by decide), hc]
          simp
        · rw [h4] at hc ⊢
          rw [if_pos (by decide), if_pos (by decide), hc]
          simp
        · rw [h4] at hc ⊢
          rw [if_neg (by decide), if_neg (by decide), hc]
          simp
      · have hc : cpM t = t / 2 ^ (8 * (cpE t - 3)) := by unfold cpM; rw [if_neg h3]
        rw [if_neg (by omega), if_neg (by omega), hc]
    · split
      · rename_i h3
        rcases (by omega : cpE t = 1 ∨ cpE t = 2) with h4 | h4
        · rw [h4]
          simp
          omega
        · rw [h4]
          simp
          omega
      · omega
theorem cpt_isT {t : Nat} (h : t ≠ 0) (ht : t < P256) : isT (cpt t) ∧ tOf (cpt t) ≤ t ∧ blen (tOf (cpt t)) = blen t := by
  obtain ⟨h1, h2, h3, h4⟩ := cpt_says h
  have h5 : blen (tOf (cpt t)) = blen t := by rw [h1]; exact floor_blen h4
  refine ⟨⟨h3, h2, ?_⟩, by rw [h1]; exact floor_le _ _, h5⟩
  have h6 : blen (tOf (cpt t)) = blen (exP (cpt t)) + exU (cpt t) := by unfold tOf; rw [blen_mul h2]
  have : blen t ≤ 256 := blen_le_of ht
  omega
/-- A target's bits say it. -/
theorem cpt_back {b : Nat} (h : isT b) : tOf (cpt (tOf b)) = tOf b := by
  have hp := tOf_pos h
  have h0 : tOf b ≠ 0 := by omega
  obtain ⟨h1, h2, h3, h4⟩ := cpt_says h0
  rw [h1]
  have hb : blen (tOf b) = blen (exP b) + exU b := by unfold tOf; rw [blen_mul h.2.1]
  have hpos := blen_pos h.2.1
  have hpl : blen (exP b) ≤ 23 := blen_le_of (exP_lt b)
  have hk : exU b % 8 = 0 := by unfold exU; split <;> omega
  have key : cutS (tOf b) ≤ exU b := by
    unfold cutS
    split
    · rename_i hs
      by_cases hq : blen (exP b) ≤ 16
      · unfold cpE; rw [hb]; omega
      · exfalso
        have hE : cpE (tOf b) = exU b / 8 + 3 := by unfold cpE; rw [hb]; omega
        have hM : cpM (tOf b) = exP b := by
          unfold cpM
          by_cases hz : exU b = 0
          · rw [if_pos (by omega), hE, hz]
            unfold tOf
            rw [hz]
            simp
          · rw [if_neg (by omega), hE]
            unfold tOf
            rw [show 8 * (exU b / 8 + 3 - 3) = exU b by omega, Nat.mul_div_cancel _ (Nat.two_pow_pos _)]
        rw [hM] at hs
        have := exP_lt b
        omega
    · unfold cpE; rw [hb]; omega
  have e : tOf b = exP b * 2 ^ (exU b - cutS (tOf b)) * 2 ^ cutS (tOf b) := by
    rw [Nat.mul_assoc, ← Nat.pow_add, Nat.sub_add_cancel key]
    rfl
  generalize cutS (tOf b) = s at *
  rw [e, Nat.mul_div_cancel _ (Nat.two_pow_pos _)]
end Go.Proofs.Ytboffheklkhnkaa
