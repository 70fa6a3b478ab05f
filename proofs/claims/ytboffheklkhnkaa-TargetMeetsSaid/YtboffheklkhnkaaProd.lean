/- Products and quotients of numbers of 256 bits, as the program's and the document's loops come to them: plain mathematics. Nothing of the program's run stands here. -/
import Derived.Test.YtboffheklkhnkaaArith
namespace Go.Proofs.Ytboffheklkhnkaa

theorem P256_num : P256 = 115792089237316195423570985008687907853269984665640564039457584007913129639936 := by decide
theorem back_num (a b : Nat) (hb : b < P256) : ((a + b) % P256 + P256 - b) % P256 = a % P256 := by
  rw [P256_num] at *
  omega
theorem back_over (a b : Nat) (ha : a < P256) (hb : b < P256) : (a + b) % P256 < b ↔ P256 ≤ a + b := by
  rw [P256_num] at *
  omega
/-- One word turned. -/
def updN (f : Nat → Nat) (k v : Nat) : Nat → Nat := fun i => if i = k then v else f i
theorem ofLimbs_congr {f g : Nat → Nat} : ∀ {m : Nat}, (∀ i, i < m → f i = g i) → ofLimbs f m = ofLimbs g m
  | 0, _ => rfl
  | m + 1, h => by rw [ofLimbs, ofLimbs, ofLimbs_congr (fun i hi => h i (by omega)), h m (by omega)]
theorem ofLimbs_upd (f : Nat → Nat) (k v : Nat) : ∀ m : Nat, k < m → ofLimbs (updN f k v) m + f k * 2 ^ (64 * k) = ofLimbs f m + v * 2 ^ (64 * k)
  | 0, h => absurd h (by omega)
  | m + 1, h => by
    rw [ofLimbs, ofLimbs]
    by_cases e : k = m
    · subst e
      rw [ofLimbs_congr (g := f) (fun i hi => by unfold updN; rw [if_neg (by omega)])]
      have : updN f k v k = v := by unfold updN; rw [if_pos rfl]
      rw [this]
      omega
    · have := ofLimbs_upd f k v m (by omega)
      have e2 : updN f k v m = f m := by unfold updN; rw [if_neg (by omega)]
      rw [e2]
      omega
theorem ofLimbs_zero : ∀ m : Nat, ofLimbs (fun _ => 0) m = 0
  | 0 => rfl
  | m + 1 => by rw [ofLimbs, ofLimbs_zero m]; simp
/-- What the loops of a product keep: the words so far and the carry make what has been multiplied. -/
structure Part (a b : Nat) (i j : Nat) (f : Nat → Nat) (c : Nat) : Prop where
  is : ofLimbs f 8 + c * 2 ^ (64 * (i + j)) = a % 2 ^ (64 * i) * b + limb a i * (b % 2 ^ (64 * j)) * 2 ^ (64 * i)
  lt : ∀ k, f k < 18446744073709551616
  zero : ∀ k, i + 4 ≤ k → f k = 0
  carry : c < 18446744073709551616
theorem Part.start (a b : Nat) : Part a b 0 0 (fun _ => 0) 0 :=
  ⟨by rw [ofLimbs_zero]; simp [Nat.mod_one], fun _ => by decide, fun _ _ => rfl, by decide⟩
theorem muladd_le (x y c d : Nat) (hx : x < 18446744073709551616) (hy : y < 18446744073709551616) (hc : c < 18446744073709551616) (hd : d < 18446744073709551616) :
    x * y + c + d < 340282366920938463463374607431768211456 := by
  have := Nat.mul_le_mul (show x ≤ 18446744073709551615 by omega) (show y ≤ 18446744073709551615 by omega)
  omega
theorem part_eq (xy fk c p F G R T : Nat) (hF : F + fk * p = G + (xy + fk + c) % 18446744073709551616 * p) (hG : G + c * p = R + T) :
    F + (xy + fk + c) / 18446744073709551616 * (18446744073709551616 * p) = R + (T + xy * p) := by
  have e3 : (xy + fk + c) / 18446744073709551616 * (18446744073709551616 * p) + (xy + fk + c) % 18446744073709551616 * p = (xy + fk + c) * p := by
    rw [← Nat.mul_assoc, ← Nat.add_mul]
    congr 1
    omega
  rw [Nat.add_mul, Nat.add_mul] at e3
  omega
theorem pow_next (i j : Nat) : 2 ^ (64 * (i + (j + 1))) = 18446744073709551616 * 2 ^ (64 * (i + j)) := by
  have e0 : 64 * (i + (j + 1)) = 64 + 64 * (i + j) := by omega
  exact (congrArg (fun n => 2 ^ n) e0).trans ((Nat.pow_add 2 64 (64 * (i + j))).trans (congrArg (fun n => n * 2 ^ (64 * (i + j))) m64_pow.symm))
theorem term_next (x b i j : Nat) : x * (b % 2 ^ (64 * (j + 1))) * 2 ^ (64 * i) = x * (b % 2 ^ (64 * j)) * 2 ^ (64 * i) + (x * limb b j) * 2 ^ (64 * (i + j)) := by
  have e := Nat.pow_add 2 (64 * i) (64 * j)
  rw [mod_succ b j, Nat.mul_add 64 i j, e, Nat.mul_add x, Nat.add_mul]
  congr 1
  ac_rfl
theorem Part.step {a b i j c : Nat} {f : Nat → Nat} (h : Part a b i j f c) (hi : i < 4) (hj : j < 4) :
    Part a b i (j + 1) (updN f (i + j) ((limb a i * limb b j + f (i + j) + c) % 18446744073709551616)) ((limb a i * limb b j + f (i + j) + c) / 18446744073709551616) := by
  have hm := muladd_le _ _ _ _ (limb_lt a i) (limb_lt b j) (h.lt (i + j)) h.carry
  have hu := ofLimbs_upd f (i + j) ((limb a i * limb b j + f (i + j) + c) % 18446744073709551616) 8 (by omega)
  refine ⟨?_, ?_, ?_, by omega⟩
  · rw [pow_next, term_next]
    exact part_eq _ _ _ _ _ _ _ _ hu h.is
  · intro k
    unfold updN
    split
    · exact Nat.mod_lt _ (by decide)
    · exact h.lt k
  · intro k hk
    unfold updN
    rw [if_neg (by omega)]
    exact h.zero k hk
theorem Part.next {a b i c : Nat} {f : Nat → Nat} (hb : b < P256) (h : Part a b i 4 f c) (hi : i < 4) : Part a b (i + 1) 0 (updN f (i + 4) c) 0 := by
  have hu := ofLimbs_upd f (i + 4) c 8 (by omega)
  rw [h.zero (i + 4) (by omega), Nat.zero_mul, Nat.add_zero] at hu
  refine ⟨?_, ?_, ?_, by decide⟩
  · rw [hu, h.is, mod_succ a i, ← P256_is, Nat.mod_eq_of_lt hb, Nat.add_mul]
    simp [Nat.mod_one]
    ac_rfl
  · intro k
    unfold updN
    split
    · exact h.carry
    · exact h.lt k
  · intro k hk
    unfold updN
    rw [if_neg (by omega)]
    exact h.zero k (by omega)
theorem Part.done {a b : Nat} {f : Nat → Nat} (ha : a < P256) (h : Part a b 4 0 f 0) : ∀ k, k < 8 → f k = limb (a * b) k := by
  have h1 := h.is
  have e0 : b % 2 ^ (64 * 0) = 0 := by rw [Nat.mul_zero, Nat.pow_zero, Nat.mod_one]
  rw [← P256_is, Nat.mod_eq_of_lt ha, e0, Nat.mul_zero, Nat.zero_mul, Nat.add_zero, Nat.add_zero] at h1
  intro k hk
  rw [← h1]
  exact (limb_ofLimbs (fun i _ => h.lt i) k hk).symm
/-- The high words are all nought just where the product goes in. -/
theorem high_zero {n : Nat} (hn : n < P256 * P256) : (∀ i, i < 4 → limb n (i + 4) = 0) ↔ n < P256 := by
  have e : ∀ i, limb n (i + 4) = limb (n / P256) i := fun i => by
    unfold limb
    rw [Nat.div_div_eq_div_mul, P256_is, ← Nat.pow_add]
    congr 3
    omega
  have hq : n / P256 < 2 ^ (64 * 4) := by
    rw [Nat.div_lt_iff_lt_mul (by unfold P256; decide), ← P256_is]; exact hn
  constructor
  · intro h
    have h0 : n / P256 = 0 := limb_ext (m := 4) hq (by decide) fun i hi => by rw [← e, h i hi]; unfold limb; simp
    rcases Nat.lt_or_ge n P256 with q | q
    · exact q
    · have : 1 ≤ n / P256 := by rw [Nat.le_div_iff_mul_le (by unfold P256; decide)]; omega
      omega
  · intro h i _
    rw [e, Nat.div_eq_of_lt h]
    unfold limb
    simp

/-- The document's product, bit by bit. -/
theorem mul_bit (a b i : Nat) : a * (b % 2 ^ (i + 1)) = a * (b % 2 ^ i) + (b / 2 ^ i % 2) * (a * 2 ^ i) := by
  rw [mod_bit, Nat.mul_add]
  congr 1
  ac_rfl
theorem mul_over {a b i : Nat} (hi : i ≤ 256) (hb : b / 2 ^ i % 2 = 1) (X : Nat) (hX : X = a * (b % 2 ^ i)) :
    (P256 ≤ a * (b % 2 ^ (i + 1))) ↔ (P256 ≤ X ∨ 256 < blen a + i ∨ P256 ≤ X % P256 + (a * 2 ^ i) % P256) := by
  subst hX
  rw [mul_bit, hb, Nat.one_mul]
  by_cases ha : a = 0
  · subst ha
    have h0 : (0 : Nat) < P256 := by unfold P256; decide
    rw [blen_zero]
    simp only [Nat.zero_mul, Nat.add_zero, Nat.zero_mod]
    constructor
    · intro h; omega
    · omega
  · have hbl : 256 < blen a + i ↔ P256 ≤ a * 2 ^ i := by
      rw [← blen_mul (k := i) ha]
      constructor
      · intro h
        rcases Nat.lt_or_ge (a * 2 ^ i) P256 with q | q
        · have := blen_le_of q; omega
        · exact q
      · intro h
        exact blen_gt h
    rw [hbl]
    rcases Nat.lt_or_ge (a * (b % 2 ^ i)) P256 with q1 | q1
    · rcases Nat.lt_or_ge (a * 2 ^ i) P256 with q2 | q2
      · rw [Nat.mod_eq_of_lt q1, Nat.mod_eq_of_lt q2]; omega
      · constructor
        · intro _; exact Or.inr (Or.inl q2)
        · intro _; omega
    · constructor
      · intro _; exact Or.inl q1
      · intro _; omega

/-- What the program's division keeps. -/
structure Quo (a b k q r : Nat) : Prop where
  is : q * b + r = a
  lt : r < 2 ^ k * b
  low : q % 2 ^ k = 0
theorem Quo.start {a b : Nat} (hb : b ≠ 0) (k : Nat) (hk : blen a ≤ blen b + k - 1) : Quo a b k 0 a := by
  refine ⟨by simp, ?_, by simp⟩
  have h1 := blen_lt a
  have h2 := blen_le hb
  have h3 := blen_pos hb
  have h4 : 2 ^ blen a ≤ 2 ^ (k + (blen b - 1)) := Nat.pow_le_pow_right (by decide) (by omega)
  rw [Nat.pow_add] at h4
  have h5 := Nat.mul_le_mul_left (2 ^ k) h2
  omega
theorem Quo.bit {q k : Nat} (h : q % 2 ^ (k + 1) = 0) : q ||| 1 * 2 ^ k = q + 2 ^ k := by
  have h1 : 2 ^ k < 2 ^ (k + 1) := by rw [Nat.pow_succ]; have := Nat.two_pow_pos k; omega
  have h2 := Nat.div_add_mod q (2 ^ (k + 1))
  rw [h, Nat.add_zero] at h2
  rw [← h2, Nat.one_mul, Nat.two_pow_add_eq_or_of_lt h1]
theorem Quo.take {a b k q r : Nat} (h : Quo a b (k + 1) q r) (hr : b * 2 ^ k ≤ r) : Quo a b k (q ||| 1 * 2 ^ k) (r - b * 2 ^ k) := by
  have h1 := h.is
  have h2 := h.lt
  rw [Nat.pow_succ, Nat.mul_right_comm, Nat.mul_comm (2 ^ k) b] at h2
  rw [Quo.bit h.low]
  refine ⟨?_, ?_, ?_⟩
  · rw [Nat.add_mul, Nat.mul_comm (2 ^ k)]; omega
  · rw [Nat.mul_comm (2 ^ k)]; omega
  · have h3 := h.low
    rw [Nat.add_mod, Nat.mod_self, Nat.add_zero, Nat.mod_mod]
    rw [Nat.pow_succ, Nat.mod_mul] at h3
    omega
theorem Quo.pass {a b k q r : Nat} (h : Quo a b (k + 1) q r) (hr : r < b * 2 ^ k) : Quo a b k q r := by
  refine ⟨h.is, by rw [Nat.mul_comm]; exact hr, ?_⟩
  have h3 := h.low
  rw [Nat.pow_succ, Nat.mod_mul] at h3
  omega
theorem Quo.done {a b q r : Nat} (h : Quo a b 0 q r) : q = a / b ∧ r = a % b := by
  have h1 := h.is
  have h2 := h.lt
  rw [Nat.pow_zero, Nat.one_mul] at h2
  have hb : 0 < b := by omega
  rw [← h1, Nat.mul_comm q, Nat.mul_add_div hb, Nat.mul_add_mod, Nat.div_eq_of_lt h2, Nat.mod_eq_of_lt h2]
  omega

/-- What the document's division keeps: behind the bits from i on. -/
theorem ref_div (a b i : Nat) (hb : 0 < b) : a / 2 ^ i / b = 2 * (a / 2 ^ (i + 1) / b) + (if b ≤ 2 * (a / 2 ^ (i + 1) % b) + a / 2 ^ i % 2 then 1 else 0) ∧
    a / 2 ^ i % b = (2 * (a / 2 ^ (i + 1) % b) + a / 2 ^ i % 2) - (if b ≤ 2 * (a / 2 ^ (i + 1) % b) + a / 2 ^ i % 2 then b else 0) := by
  have h0 := div_bit a i
  have hr := Nat.mod_lt (a / 2 ^ (i + 1)) hb
  have hq := Nat.div_add_mod (a / 2 ^ (i + 1)) b
  generalize hA : a / 2 ^ (i + 1) = A at *
  generalize hX : a / 2 ^ i = X at *
  generalize hQ : A / b = Q at *
  generalize hR : A % b = R at *
  have hbit : X % 2 < 2 := Nat.mod_lt _ (by decide)
  have e : X = b * (2 * Q) + (2 * R + X % 2) := by
    rw [Nat.mul_left_comm b 2]; omega
  by_cases hc : b ≤ 2 * R + X % 2
  · rw [if_pos hc, if_pos hc]
    have e2 : X = b * (2 * Q + 1) + (2 * R + X % 2 - b) := by
      rw [Nat.mul_add, Nat.mul_one]; omega
    have hl : 2 * R + X % 2 - b < b := by omega
    constructor
    · rw [e2, Nat.mul_add_div hb, Nat.div_eq_of_lt hl]
    · conv => lhs; rw [e2, Nat.mul_add_mod, Nat.mod_eq_of_lt hl]
  · rw [if_neg hc, if_neg hc]
    have hl : 2 * R + X % 2 < b := by omega
    constructor
    · rw [e, Nat.mul_add_div hb, Nat.div_eq_of_lt hl]
    · rw [Nat.sub_zero]; conv => lhs; rw [e, Nat.mul_add_mod, Nat.mod_eq_of_lt hl]
end Go.Proofs.Ytboffheklkhnkaa
