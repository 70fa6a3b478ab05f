/- Numbers of 256 bits and their words: plain mathematics. Nothing of the program's run stands here. -/
import Derived.WalkKit
namespace Go.Proofs.Ytboffheklkhnkaa

/-- Word i of a number. -/
def limb (n i : Nat) : Nat := n / 2 ^ (64 * i) % 18446744073709551616
theorem limb_lt (n i : Nat) : limb n i < 18446744073709551616 := Nat.mod_lt _ (by decide)
theorem m64_pow : 18446744073709551616 = 2 ^ 64 := by decide
theorem limb_bit (n i j : Nat) : (limb n i).testBit j = (decide (j < 64) && n.testBit (64 * i + j)) := by
  unfold limb
  rw [m64_pow, Nat.testBit_mod_two_pow, ← Nat.shiftRight_eq_div_pow, Nat.testBit_shiftRight]
theorem bit_of_limb (n k : Nat) : n.testBit k = (limb n (k / 64)).testBit (k % 64) := by
  rw [limb_bit, decide_eq_true (Nat.mod_lt k (by decide)), Bool.true_and, Nat.div_add_mod]
theorem limb_big {n m : Nat} (hn : n < 2 ^ (64 * m)) {i : Nat} (hi : m ≤ i) : limb n i = 0 := by
  unfold limb
  rw [Nat.div_eq_of_lt (Nat.lt_of_lt_of_le hn (Nat.pow_le_pow_right (by decide) (by omega)))]
theorem bit_big {n k : Nat} (hn : n < 2 ^ k) {i : Nat} (hi : k ≤ i) : n.testBit i = false :=
  Nat.testBit_lt_two_pow (Nat.lt_of_lt_of_le hn (Nat.pow_le_pow_right (by decide) hi))
/-- Numbers below 2^(64 m) with the same words are the same. -/
theorem limb_ext {m a b : Nat} (ha : a < 2 ^ (64 * m)) (hb : b < 2 ^ (64 * m)) (h : ∀ i, i < m → limb a i = limb b i) : a = b := by
  apply Nat.eq_of_testBit_eq
  intro k
  rcases Nat.lt_or_ge k (64 * m) with hk | hk
  · rw [bit_of_limb a, bit_of_limb b, h (k / 64) (by omega)]
  · rw [bit_big ha hk, bit_big hb hk]
/-- A number whose words are told. -/
def ofLimbs (f : Nat → Nat) : Nat → Nat
  | 0 => 0
  | k + 1 => ofLimbs f k + f k * 2 ^ (64 * k)
theorem ofLimbs_lt {f : Nat → Nat} : ∀ {m : Nat}, (∀ i, i < m → f i < 18446744073709551616) → ofLimbs f m < 2 ^ (64 * m)
  | 0, _ => by simp [ofLimbs]
  | m + 1, h => by
    have h1 := ofLimbs_lt (m := m) fun i hi => h i (by omega)
    have h2 := h m (by omega)
    rw [ofLimbs, Nat.mul_add, Nat.pow_add]
    have h3 : f m * 2 ^ (64 * m) ≤ 18446744073709551615 * 2 ^ (64 * m) := Nat.mul_le_mul_right _ (by omega)
    omega
theorem limb_add {n f m : Nat} (hn : n < 2 ^ (64 * m)) (hf : f < 18446744073709551616) (i : Nat) : limb (n + f * 2 ^ (64 * m)) i = if i = m then f else limb n i := by
  unfold limb
  rcases Nat.lt_trichotomy i m with h | h | h
  · rw [if_neg (by omega)]
    have e : f * 2 ^ (64 * m) = 2 ^ (64 * i) * (18446744073709551616 * (f * 2 ^ (64 * (m - i - 1)))) := by
      have : 64 * m = 64 * i + (64 + 64 * (m - i - 1)) := by omega
      rw [this, Nat.pow_add, Nat.pow_add, m64_pow]
      ac_rfl
    rw [e, Nat.add_mul_div_left _ _ (Nat.two_pow_pos _), Nat.add_mul_mod_self_left]
  · subst h
    rw [if_pos rfl, Nat.add_mul_div_right _ _ (Nat.two_pow_pos _), Nat.div_eq_of_lt hn, Nat.zero_add, Nat.mod_eq_of_lt hf]
  · rw [if_neg (by omega)]
    have h1 : n + f * 2 ^ (64 * m) < 2 ^ (64 * i) := by
      have e : 2 ^ (64 * (m + 1)) ≤ 2 ^ (64 * i) := Nat.pow_le_pow_right (by decide) (by omega)
      refine Nat.lt_of_lt_of_le ?_ e
      rw [Nat.mul_add, Nat.pow_add]
      have h3 : f * 2 ^ (64 * m) ≤ 18446744073709551615 * 2 ^ (64 * m) := Nat.mul_le_mul_right _ (by omega)
      omega
    have h2 : n < 2 ^ (64 * i) := by omega
    rw [Nat.div_eq_of_lt h1, Nat.div_eq_of_lt h2]
theorem limb_ofLimbs {f : Nat → Nat} : ∀ {m : Nat}, (∀ i, i < m → f i < 18446744073709551616) → ∀ i, i < m → limb (ofLimbs f m) i = f i
  | 0, _, i, hi => absurd hi (by omega)
  | m + 1, h, i, hi => by
    rw [ofLimbs, limb_add (ofLimbs_lt fun i hi => h i (by omega)) (h m (by omega))]
    rcases Nat.lt_or_ge i m with q | q
    · rw [if_neg (by omega), limb_ofLimbs (fun i hi => h i (by omega)) i q]
    · obtain rfl : i = m := by omega
      rw [if_pos rfl]
theorem mod_succ (a k : Nat) : a % 2 ^ (64 * (k + 1)) = a % 2 ^ (64 * k) + limb a k * 2 ^ (64 * k) := by
  unfold limb
  rw [Nat.mul_add, Nat.pow_add, Nat.mod_mul, Nat.mul_comm (2 ^ (64 * k))]
theorem mod_bit (a k : Nat) : a % 2 ^ (k + 1) = a % 2 ^ k + (a / 2 ^ k % 2) * 2 ^ k := by
  rw [Nat.pow_succ, Nat.mod_mul, Nat.mul_comm (2 ^ k)]
/-- One word turned. -/
theorem limb_or {n v k : Nat} (hv : v < 18446744073709551616) (i : Nat) : limb (n ||| v * 2 ^ (64 * k)) i = if i = k then limb n k ||| v else limb n i := by
  apply Nat.eq_of_testBit_eq
  intro j
  rw [limb_bit, Nat.testBit_or, Nat.mul_comm v, Nat.testBit_two_pow_mul]
  have hvb : 64 ≤ j → v.testBit j = false := fun h => bit_big (by simpa using hv) h
  by_cases e : i = k
  · subst e
    rw [if_pos rfl, Nat.testBit_or, limb_bit]
    by_cases hj : j < 64
    · simp [hj]
    · simp [hj, hvb (by omega)]
  · rw [if_neg e, limb_bit]
    by_cases hj : j < 64
    · simp only [hj, decide_true, Bool.true_and]
      by_cases hl : 64 * k ≤ 64 * i + j
      · have : 64 ≤ 64 * i + j - 64 * k := by omega
        rw [bit_big (n := v) (k := 64) (by simpa using hv) this]
        simp
      · simp [hl]
    · simp [hj]
/-- One bit more. -/
theorem or_bit {n k : Nat} (b : Nat) : n ||| b * 2 ^ k = n ||| (b * 2 ^ (k % 64)) * 2 ^ (64 * (k / 64)) := by
  rw [Nat.mul_assoc, ← Nat.pow_add]
  congr 3
  omega
theorem bitv_lt {b j : Nat} (hb : b < 2) (hj : j < 64) : b * 2 ^ j < 18446744073709551616 := by
  have h1 : 2 ^ j ≤ 2 ^ 63 := Nat.pow_le_pow_right (by decide) (by omega)
  have h2 : b * 2 ^ j ≤ 1 * 2 ^ j := Nat.mul_le_mul_right _ (by omega)
  omega
theorem limb_or_bit {n b k : Nat} (hb : b < 2) (i : Nat) : limb (n ||| b * 2 ^ k) i = if i = k / 64 then limb n (k / 64) ||| b * 2 ^ (k % 64) else limb n i := by
  rw [or_bit b, limb_or (bitv_lt hb (Nat.mod_lt _ (by decide)))]
theorem add_or {n b k : Nat} (hn : n < 2 ^ k) : n + b * 2 ^ k = n ||| b * 2 ^ k := by
  rw [Nat.add_comm, Nat.mul_comm b, Nat.or_comm, Nat.two_pow_add_eq_or_of_lt hn]

/-- How many bits a number has. -/
def blen (n : Nat) : Nat := if n = 0 then 0 else n.log2 + 1
theorem blen_zero : blen 0 = 0 := rfl
theorem blen_lt (n : Nat) : n < 2 ^ blen n := by
  unfold blen
  split
  · subst_vars; decide
  · exact Nat.lt_log2_self
theorem blen_le {n : Nat} (h : n ≠ 0) : 2 ^ (blen n - 1) ≤ n := by
  unfold blen
  rw [if_neg h]
  exact Nat.log2_self_le h
theorem blen_pos {n : Nat} (h : n ≠ 0) : 1 ≤ blen n := by unfold blen; rw [if_neg h]; omega
theorem blen_is {n k : Nat} (h1 : 2 ^ k ≤ n) (h2 : n < 2 ^ (k + 1)) : blen n = k + 1 := by
  have hp := Nat.two_pow_pos k
  have hn : n ≠ 0 := by omega
  unfold blen
  rw [if_neg hn, (Nat.log2_eq_iff hn).2 ⟨h1, h2⟩]
theorem blen_le_of {n k : Nat} (h : n < 2 ^ k) : blen n ≤ k := by
  unfold blen
  split
  · omega
  · have := (Nat.log2_lt ‹_›).2 h
    omega
theorem lt_of_blen {n k : Nat} (h : blen n ≤ k) : n < 2 ^ k := Nat.lt_of_lt_of_le (blen_lt n) (Nat.pow_le_pow_right (by decide) h)
theorem blen_gt {n k : Nat} (h : 2 ^ k ≤ n) : k < blen n := by
  rcases Nat.lt_or_ge k (blen n) with q | q
  · exact q
  · have := lt_of_blen q; omega
theorem blen_mul {n k : Nat} (h : n ≠ 0) : blen (n * 2 ^ k) = blen n + k := by
  have h1 := blen_lt n
  have h2 := blen_le h
  have h3 := blen_pos h
  have e : blen n + k = (blen n - 1 + k) + 1 := by omega
  rw [e]
  refine blen_is ?_ ?_
  · rw [Nat.pow_add]; exact Nat.mul_le_mul_right _ h2
  · rw [← e, Nat.pow_add]; exact Nat.mul_lt_mul_of_pos_right h1 (Nat.two_pow_pos _)
/-- A number by its word at i, all above it nought. -/
theorem blen_word {n i : Nat} (hn : n < 2 ^ (64 * (i + 1))) (h : limb n i ≠ 0) : blen n = i * 64 + blen (limb n i) := by
  have e : limb n i = n / 2 ^ (64 * i) := by
    unfold limb
    refine Nat.mod_eq_of_lt ?_
    refine Nat.div_lt_of_lt_mul ?_
    rw [m64_pow, ← Nat.pow_add]; exact hn
  have h1 := blen_lt (limb n i)
  have h2 := blen_le h
  have h3 := blen_pos h
  have e2 : i * 64 + blen (limb n i) = (i * 64 + (blen (limb n i) - 1)) + 1 := by omega
  rw [e2]
  refine blen_is ?_ ?_
  · rw [e] at h2 ⊢
    rw [Nat.pow_add, Nat.mul_comm i]
    have := (Nat.le_div_iff_mul_le (Nat.two_pow_pos (64 * i))).1 h2
    rw [Nat.mul_comm]; exact this
  · rw [← e2]
    rw [e] at h1 ⊢
    rw [Nat.pow_add, Nat.mul_comm i, Nat.mul_comm]
    exact (Nat.div_lt_iff_lt_mul (Nat.two_pow_pos _)).1 h1
/-- The order as -1, 0, 1. -/
def cmp3 (a b : Nat) : Int := if a < b then -1 else if a = b then 0 else 1
theorem cmp3_refl (a : Nat) : cmp3 a a = 0 := by simp [cmp3]
theorem cmp3_lt {a b : Nat} (h : a < b) : cmp3 a b = -1 := by simp [cmp3, h]
theorem cmp3_gt {a b : Nat} (h : b < a) : cmp3 a b = 1 := by
  unfold cmp3; rw [if_neg (by omega), if_neg (by omega)]
theorem cmp3_neg (a b : Nat) : cmp3 b a = - cmp3 a b := by
  unfold cmp3; (repeat' split) <;> omega
theorem cmp3_range (a b : Nat) : -1 ≤ cmp3 a b ∧ cmp3 a b ≤ 1 := by unfold cmp3; (repeat' split) <;> omega
theorem cmp3_neg_iff (a b : Nat) : cmp3 a b < 0 ↔ a < b := by unfold cmp3; (repeat' split) <;> omega
theorem cmp3_zero_iff (a b : Nat) : cmp3 a b = 0 ↔ a = b := by unfold cmp3; (repeat' split) <;> omega
theorem cmp3_le_iff (a b : Nat) : cmp3 a b ≤ 0 ↔ a ≤ b := by unfold cmp3; (repeat' split) <;> omega
theorem cmp3_pos_iff (a b : Nat) : 0 < cmp3 a b ↔ b < a := by unfold cmp3; (repeat' split) <;> omega
/-- The order of quotients goes to that of numbers. -/
theorem cmp3_div {a b p : Nat} (h : a / p < b / p) : cmp3 a b = -1 := by
  refine cmp3_lt ?_
  rcases Nat.lt_or_ge a b with q | q
  · exact q
  · have := Nat.div_le_div_right (c := p) q; omega
theorem cmp3_div' {a b p : Nat} (h : b / p < a / p) : cmp3 a b = 1 := by
  refine cmp3_gt ?_
  rcases Nat.lt_or_ge b a with q | q
  · exact q
  · have := Nat.div_le_div_right (c := p) q; omega
theorem div_word (a i : Nat) : a / 2 ^ (64 * i) = a / 2 ^ (64 * (i + 1)) * 18446744073709551616 + limb a i := by
  unfold limb
  rw [Nat.mul_add, Nat.pow_add, ← Nat.div_div_eq_div_mul]
  show _ = a / 2 ^ (64 * i) / 18446744073709551616 * 18446744073709551616 + _
  omega
theorem div_bit (a i : Nat) : a / 2 ^ i = a / 2 ^ (i + 1) * 2 + a / 2 ^ i % 2 := by
  rw [Nat.pow_succ, ← Nat.div_div_eq_div_mul]
  omega
/-- A bit as its word tells it. -/
theorem bit_word (a i : Nat) : limb a (i / 64) / 2 ^ (i % 64) % 2 = a / 2 ^ i % 2 := by
  have h := bit_of_limb a i
  rw [Nat.testBit_eq_decide_div_mod_eq, Nat.testBit_eq_decide_div_mod_eq, decide_eq_decide] at h
  omega
end Go.Proofs.Ytboffheklkhnkaa
