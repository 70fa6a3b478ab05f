/- Sums, differences, products, shifts of numbers of 256 bits, word by word: plain mathematics. Nothing of the program's run stands here. -/
import Derived.Test.YtboffheklkhnkaaNum
namespace Go.Proofs.Ytboffheklkhnkaa

/-- 2^256. -/
def P256 : Nat := 2 ^ 256
theorem P256_is : P256 = 2 ^ (64 * 4) := by unfold P256; rfl

/-- The carry behind k words. -/
def carry (a b k : Nat) : Nat := (a % 2 ^ (64 * k) + b % 2 ^ (64 * k)) / 2 ^ (64 * k)
theorem carry_zero (a b : Nat) : carry a b 0 = 0 := by simp [carry, Nat.mod_one]
theorem carry_le (a b k : Nat) : carry a b k ≤ 1 := by
  unfold carry
  have h1 := Nat.mod_lt a (Nat.two_pow_pos (64 * k))
  have h2 := Nat.mod_lt b (Nat.two_pow_pos (64 * k))
  have : (a % 2 ^ (64 * k) + b % 2 ^ (64 * k)) / 2 ^ (64 * k) < 2 := by
    rw [Nat.div_lt_iff_lt_mul (Nat.two_pow_pos _)]; omega
  omega
theorem carry_succ (a b k : Nat) : carry a b (k + 1) = (limb a k + limb b k + carry a b k) / 18446744073709551616 := by
  unfold carry
  rw [mod_succ a, mod_succ b]
  have e : a % 2 ^ (64 * k) + limb a k * 2 ^ (64 * k) + (b % 2 ^ (64 * k) + limb b k * 2 ^ (64 * k)) = (a % 2 ^ (64 * k) + b % 2 ^ (64 * k)) + (limb a k + limb b k) * 2 ^ (64 * k) := by
    rw [Nat.add_mul]; omega
  rw [e, Nat.mul_add 64 k 1, Nat.pow_add, ← Nat.div_div_eq_div_mul, Nat.add_mul_div_right _ _ (Nat.two_pow_pos _)]
  show _ / 18446744073709551616 = _
  congr 1
  omega
theorem limb_sum (a b k : Nat) : limb (a + b) k = (limb a k + limb b k + carry a b k) % 18446744073709551616 := by
  have e : (a + b) / 2 ^ (64 * k) = a / 2 ^ (64 * k) + b / 2 ^ (64 * k) + carry a b k := by
    have h1 := Nat.div_add_mod a (2 ^ (64 * k))
    have h2 := Nat.div_add_mod b (2 ^ (64 * k))
    unfold carry
    have e1 : a + b = (a % 2 ^ (64 * k) + b % 2 ^ (64 * k)) + 2 ^ (64 * k) * (a / 2 ^ (64 * k) + b / 2 ^ (64 * k)) := by
      rw [Nat.mul_add]; omega
    rw [e1, Nat.add_mul_div_left _ _ (Nat.two_pow_pos _)]
    omega
  unfold limb
  rw [e]
  omega
theorem carry_end (a b : Nat) (ha : a < P256) (hb : b < P256) : carry a b 4 = if P256 ≤ a + b then 1 else 0 := by
  unfold carry
  rw [← P256_is, Nat.mod_eq_of_lt ha, Nat.mod_eq_of_lt hb]
  split
  · have : (a + b) / P256 < 2 := by rw [Nat.div_lt_iff_lt_mul (by unfold P256; decide)]; omega
    have : 1 ≤ (a + b) / P256 := by rw [Nat.le_div_iff_mul_le (by unfold P256; decide)]; omega
    omega
  · exact Nat.div_eq_of_lt (by omega)

/-- The borrow behind k words. -/
def borrow (a b k : Nat) : Nat := if a % 2 ^ (64 * k) < b % 2 ^ (64 * k) then 1 else 0
theorem borrow_zero (a b : Nat) : borrow a b 0 = 0 := by simp [borrow, Nat.mod_one]
theorem borrow_le (a b k : Nat) : borrow a b k ≤ 1 := by unfold borrow; split <;> omega
theorem borrow_succ (a b k : Nat) : borrow a b (k + 1) = if limb a k < limb b k + borrow a b k then 1 else 0 := by
  unfold borrow
  rw [mod_succ a, mod_succ b]
  have h1 := Nat.mod_lt a (Nat.two_pow_pos (64 * k))
  have h2 := Nat.mod_lt b (Nat.two_pow_pos (64 * k))
  generalize a % 2 ^ (64 * k) = x at *
  generalize b % 2 ^ (64 * k) = y at *
  generalize 2 ^ (64 * k) = p at *
  generalize limb a k = u
  generalize limb b k = v
  rcases Nat.lt_trichotomy u v with h | h | h
  · have h3 : (u + 1) * p ≤ v * p := Nat.mul_le_mul_right _ h
    rw [Nat.add_mul] at h3
    rw [if_pos (by omega), if_pos (by split <;> omega)]
  · subst h
    by_cases h4 : x < y
    · rw [if_pos (by omega), if_pos (by rw [if_pos h4]; omega)]
    · rw [if_neg (by omega), if_neg (by rw [if_neg h4]; omega)]
  · have h3 : (v + 1) * p ≤ u * p := Nat.mul_le_mul_right _ h
    rw [Nat.add_mul] at h3
    rw [if_neg (by omega), if_neg (by split <;> omega)]
theorem limb_diff (a b k : Nat) (hk : k < 4) (hb : b ≤ P256) : limb (a + P256 - b) k = (limb a k + 18446744073709551616 - limb b k - borrow a b k) % 18446744073709551616 := by
  obtain ⟨Q, hQ⟩ : ∃ Q, P256 = 2 ^ (64 * k) * (18446744073709551616 * Q) := ⟨2 ^ (64 * (3 - k)), by
    rw [m64_pow, ← Nat.pow_add, ← Nat.pow_add, P256_is]; congr 1; omega⟩
  have h1 := Nat.div_add_mod a (2 ^ (64 * k))
  have h2 := Nat.div_add_mod b (2 ^ (64 * k))
  have l1 := Nat.mod_lt a (Nat.two_pow_pos (64 * k))
  have l2 := Nat.mod_lt b (Nat.two_pow_pos (64 * k))
  have hp := Nat.two_pow_pos (64 * k)
  unfold limb borrow
  generalize hx : a % 2 ^ (64 * k) = x at *
  generalize hy : b % 2 ^ (64 * k) = y at *
  generalize hqa : a / 2 ^ (64 * k) = qa at *
  generalize hqb : b / 2 ^ (64 * k) = qb at *
  generalize 2 ^ (64 * k) = p at *
  rw [hQ] at hb ⊢
  by_cases hl : x < y
  · rw [if_pos hl]
    have hle : qb + 1 ≤ 18446744073709551616 * Q := by
      rcases Nat.lt_or_ge qb (18446744073709551616 * Q) with q | q
      · exact q
      · have := Nat.mul_le_mul_left p q; omega
    have hle2 := Nat.mul_le_mul_left p hle
    have e : a + p * (18446744073709551616 * Q) - b = p * (qa + 18446744073709551616 * Q - qb - 1) + (p + x - y) := by
      have e1 : p * (qa + 18446744073709551616 * Q - qb - 1) = p * qa + p * (18446744073709551616 * Q) - p * qb - p := by
        rw [Nat.mul_sub, Nat.mul_sub, Nat.mul_add, Nat.mul_one]
      rw [e1]
      rw [Nat.mul_add, Nat.mul_one] at hle2
      omega
    rw [e, Nat.mul_add_div hp, Nat.div_eq_of_lt (by omega : p + x - y < p)]
    omega
  · rw [if_neg hl]
    have hle : qb ≤ 18446744073709551616 * Q := by
      rcases Nat.lt_or_ge (18446744073709551616 * Q) qb with q | q
      · have := Nat.mul_le_mul_left p (Nat.succ_le_of_lt q); rw [Nat.mul_succ] at this; omega
      · exact q
    have hle2 := Nat.mul_le_mul_left p hle
    have e : a + p * (18446744073709551616 * Q) - b = p * (qa + 18446744073709551616 * Q - qb) + (x - y) := by
      have e1 : p * (qa + 18446744073709551616 * Q - qb) = p * qa + p * (18446744073709551616 * Q) - p * qb := by
        rw [Nat.mul_sub, Nat.mul_add]
      rw [e1]
      omega
    rw [e, Nat.mul_add_div hp, Nat.div_eq_of_lt (by omega : x - y < p)]
    omega
theorem borrow_end (a b : Nat) (ha : a < P256) (hb : b < P256) : borrow a b 4 = if a < b then 1 else 0 := by
  unfold borrow
  rw [← P256_is, Nat.mod_eq_of_lt ha, Nat.mod_eq_of_lt hb]

/-- Words of a shifted number. -/
theorem limb_shl (a n i : Nat) : limb (a * 2 ^ n) i = if i < n / 64 then 0 else (limb a (i - n / 64) * 2 ^ (n % 64)) % 18446744073709551616 ||| (if i = n / 64 then 0 else limb a (i - n / 64 - 1) / 2 ^ (64 - n % 64)) := by
  apply Nat.eq_of_testBit_eq
  intro j
  rw [limb_bit, Nat.mul_comm a, Nat.testBit_two_pow_mul]
  by_cases h : i < n / 64
  · rw [if_pos h]
    have : j < 64 → ¬ (64 * i + j ≥ n) := fun _ => by omega
    by_cases hj : j < 64
    · simp [this hj]
    · simp [hj]
  · rw [if_neg h, Nat.testBit_or, m64_pow, Nat.testBit_mod_two_pow, Nat.mul_comm (limb a _), Nat.testBit_two_pow_mul, limb_bit]
    by_cases hj : j < 64
    · by_cases hb : n % 64 ≤ j
      · have e : 64 * i + j - n = 64 * (i - n / 64) + (j - n % 64) := by omega
        have h2 : (if i = n / 64 then 0 else limb a (i - n / 64 - 1) / 2 ^ (64 - n % 64)).testBit j = false := by
          split
          · simp
          · rw [← Nat.shiftRight_eq_div_pow, Nat.testBit_shiftRight, limb_bit]
            simp; omega
        rw [h2, e]
        have h3 : n ≤ 64 * i + j := by omega
        have h4 : j - n % 64 < 64 := by omega
        simp [hj, hb, h3, h4]
      · by_cases hi : i = n / 64
        · have h3 : ¬ n ≤ 64 * i + j := by omega
          simp [hi, hj, hb]; omega
        · have h3 : n ≤ 64 * i + j := by omega
          have e : 64 * i + j - n = 64 * (i - n / 64 - 1) + (64 - n % 64 + j) := by omega
          rw [if_neg hi, ← Nat.shiftRight_eq_div_pow, Nat.testBit_shiftRight, limb_bit, e]
          have h4 : 64 - n % 64 + j < 64 := by omega
          simp [hj, hb, h3, h4]
    · have h2 : (if i = n / 64 then 0 else limb a (i - n / 64 - 1) / 2 ^ (64 - n % 64)).testBit j = false := by
        split
        · simp
        · rw [← Nat.shiftRight_eq_div_pow, Nat.testBit_shiftRight, limb_bit]
          simp; omega
      rw [h2]
      simp [hj]
theorem limb_shr (a n i : Nat) : limb (a / 2 ^ n) i = limb a (i + n / 64) / 2 ^ (n % 64) ||| (limb a (i + n / 64 + 1) * 2 ^ (64 - n % 64)) % 18446744073709551616 := by
  apply Nat.eq_of_testBit_eq
  intro j
  rw [limb_bit, ← Nat.shiftRight_eq_div_pow, Nat.testBit_shiftRight, Nat.testBit_or, ← Nat.shiftRight_eq_div_pow, Nat.testBit_shiftRight, limb_bit, m64_pow, Nat.testBit_mod_two_pow, Nat.mul_comm (limb a _), Nat.testBit_two_pow_mul, limb_bit]
  by_cases hj : j < 64
  · by_cases hb : n % 64 + j < 64
    · have e : n + (64 * i + j) = 64 * (i + n / 64) + (n % 64 + j) := by omega
      have h3 : ¬ 64 - n % 64 ≤ j := by omega
      rw [e]
      simp [hj, hb, h3]
    · have e : n + (64 * i + j) = 64 * (i + n / 64 + 1) + (j - (64 - n % 64)) := by omega
      have h3 : 64 - n % 64 ≤ j := by omega
      have h4 : j - (64 - n % 64) < 64 := by omega
      rw [e]
      simp [hj, hb, h3, h4]
  · have hb : ¬ n % 64 + j < 64 := by omega
    simp [hj, hb]
end Go.Proofs.Ytboffheklkhnkaa
