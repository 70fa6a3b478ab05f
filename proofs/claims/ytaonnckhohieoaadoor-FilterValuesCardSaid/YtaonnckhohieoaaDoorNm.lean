/- A count's bytes, as plain functions on numbers. Nothing of the program's run stands here. -/
import Derived.Test.YtaonnckhohieoaaDoorCl
import Derived.Laws.BitsAll
namespace Go.Proofs.YtaonnckhohieoaaDoor
open Go.RowKit Go.Lib

/-- Byte i of a number. -/
def byteAt (n i : Nat) : Nat := n / 2 ^ (8 * i) % 256
theorem byteAt_lt (n i : Nat) : byteAt n i < 256 := Nat.mod_lt _ (by decide)
theorem mod_byte (n k : Nat) : n % 2 ^ (8 * (k + 1)) = n % 2 ^ (8 * k) + byteAt n k * 2 ^ (8 * k) := by
  unfold byteAt
  rw [Nat.mul_add, Nat.pow_add, Nat.mod_mul, Nat.mul_comm (2 ^ (8 * k))]
theorem byteAt_add {n f m : Nat} (hn : n < 2 ^ (8 * m)) (hf : f < 256) (i : Nat) : byteAt (n + f * 2 ^ (8 * m)) i = if i = m then f else byteAt n i := by
  unfold byteAt
  rcases Nat.lt_trichotomy i m with h | h | h
  · rw [if_neg (by omega)]
    have e : f * 2 ^ (8 * m) = 2 ^ (8 * i) * (256 * (f * 2 ^ (8 * (m - i - 1)))) := by
      have : 8 * m = 8 * i + (8 + 8 * (m - i - 1)) := by omega
      rw [this, Nat.pow_add, Nat.pow_add, show (2 : Nat) ^ 8 = 256 from rfl]
      ac_rfl
    rw [e, Nat.add_mul_div_left _ _ (Nat.two_pow_pos _), Nat.add_mul_mod_self_left]
  · subst h
    rw [if_pos rfl, Nat.add_mul_div_right _ _ (Nat.two_pow_pos _), Nat.div_eq_of_lt hn, Nat.zero_add, Nat.mod_eq_of_lt hf]
  · rw [if_neg (by omega)]
    have h1 : n + f * 2 ^ (8 * m) < 2 ^ (8 * i) := by
      have e : 2 ^ (8 * (m + 1)) ≤ 2 ^ (8 * i) := Nat.pow_le_pow_right (by decide) (by omega)
      refine Nat.lt_of_lt_of_le ?_ e
      rw [Nat.mul_add, Nat.pow_add]
      have h3 : f * 2 ^ (8 * m) ≤ 255 * 2 ^ (8 * m) := Nat.mul_le_mul_right _ (by omega)
      omega
    have h2 : n < 2 ^ (8 * i) := by omega
    rw [Nat.div_eq_of_lt h1, Nat.div_eq_of_lt h2]
/-- The number whose bytes are told. -/
def ofBytes (f : Nat → Nat) : Nat → Nat
  | 0 => 0
  | k + 1 => ofBytes f k + f k * 2 ^ (8 * k)
theorem ofBytes_lt {f : Nat → Nat} : ∀ {m : Nat}, (∀ i, i < m → f i < 256) → ofBytes f m < 2 ^ (8 * m)
  | 0, _ => by simp [ofBytes]
  | m + 1, h => by
    have h1 := ofBytes_lt (m := m) fun i hi => h i (by omega)
    have h2 := h m (by omega)
    rw [ofBytes, Nat.mul_add, Nat.pow_add]
    have h3 : f m * 2 ^ (8 * m) ≤ 255 * 2 ^ (8 * m) := Nat.mul_le_mul_right _ (by omega)
    omega
theorem byteAt_ofBytes {f : Nat → Nat} : ∀ {m : Nat}, (∀ i, i < m → f i < 256) → ∀ i, i < m → byteAt (ofBytes f m) i = f i
  | 0, _, i, hi => absurd hi (by omega)
  | m + 1, h, i, hi => by
    rw [ofBytes, byteAt_add (ofBytes_lt fun i hi => h i (by omega)) (h m (by omega))]
    rcases Nat.lt_or_ge i m with q | q
    · rw [if_neg (by omega), byteAt_ofBytes (fun i hi => h i (by omega)) i q]
    · obtain rfl : i = m := by omega
      rw [if_pos rfl]
theorem ofBytes_byteAt (n : Nat) : ∀ k, ofBytes (byteAt n) k = n % 2 ^ (8 * k)
  | 0 => by rw [ofBytes, Nat.mul_zero, Nat.pow_zero, Nat.mod_one]
  | k + 1 => by rw [ofBytes, ofBytes_byteAt n k, mod_byte]
theorem ofBytes_congr {f g : Nat → Nat} : ∀ {k : Nat}, (∀ i, i < k → f i = g i) → ofBytes f k = ofBytes g k
  | 0, _ => rfl
  | k + 1, h => by rw [ofBytes, ofBytes, ofBytes_congr (fun i hi => h i (by omega)), h k (by omega)]
theorem ofBytes_noughts {f : Nat → Nat} {k : Nat} : ∀ {m : Nat}, (∀ i, k ≤ i → f i = 0) → k ≤ m → ofBytes f m = ofBytes f k
  | 0, _, h => by obtain rfl : k = 0 := by omega
                  rfl
  | m + 1, hz, h => by
    rcases Nat.lt_or_ge m k with q | q
    · obtain rfl : k = m + 1 := by omega
      rfl
    · rw [ofBytes, ofBytes_noughts hz q, hz m q, Nat.zero_mul, Nat.add_zero]
theorem or_add {a f k : Nat} (ha : a < 2 ^ k) : a ||| f * 2 ^ k = a + f * 2 ^ k := by
  have := Nat.two_pow_add_eq_or_of_lt ha f
  rw [Nat.mul_comm f, Nat.or_comm, ← this, Nat.add_comm]
theorem or_byte64 {a f k : Nat} (hk : k < 8) (ha : a < 2 ^ (8 * k)) (hf : f < 256) : bits .or .u64 (a : Int) (IntKind.u64.wrap ((f : Int) * 2 ^ (8 * k))) = ((a + f * 2 ^ (8 * k) : Nat) : Int) := by
  have h1 : 2 ^ (8 * k) ≤ 2 ^ 56 := Nat.pow_le_pow_right (by decide) (by omega)
  have h2 : f * 2 ^ (8 * k) ≤ 255 * 2 ^ 56 := Nat.mul_le_mul (by omega) h1
  have e : ((f : Int) * 2 ^ (8 * k)) = ((f * 2 ^ (8 * k) : Nat) : Int) := by simp
  rw [e, IntKind.wrap_u64, Int.emod_eq_of_lt (by omega) (by omega), u64_or_nat _ _ (by omega) (by omega), or_add ha]
theorem or_byte32 {a f k : Nat} (hk : k < 4) (ha : a < 2 ^ (8 * k)) (hf : f < 256) : bits .or .u32 (a : Int) (IntKind.u32.wrap ((f : Int) * 2 ^ (8 * k))) = ((a + f * 2 ^ (8 * k) : Nat) : Int) := by
  have h1 : 2 ^ (8 * k) ≤ 2 ^ 24 := Nat.pow_le_pow_right (by decide) (by omega)
  have h2 : f * 2 ^ (8 * k) ≤ 255 * 2 ^ 24 := Nat.mul_le_mul (by omega) h1
  have e : ((f : Int) * 2 ^ (8 * k)) = ((f * 2 ^ (8 * k) : Nat) : Int) := by simp
  rw [e, IntKind.wrap_u32, Int.emod_eq_of_lt (by omega) (by omega), u32_or_nat _ _ (by omega) (by omega), or_add ha]
theorem byte_int (n k : Nat) : ((n : Int) / 2 ^ (8 * k)) % 256 = ((byteAt n k : Nat) : Int) := by
  unfold byteAt
  have e : ((n : Int) / 2 ^ (8 * k)) = ((n / 2 ^ (8 * k) : Nat) : Int) := by simp
  rw [e]
  omega

/-- How many bytes a count has that begins with b. -/
def wOf (b : Nat) : Nat := if b = 253 then 3 else if b = 254 then 5 else if b = 255 then 9 else 1
/-- A count's first byte. -/
def mk (n : Nat) : Nat := if n < 253 then n else if n ≤ 65535 then 253 else if n ≤ 4294967295 then 254 else 255
def wid (n : Nat) : Nat := wOf (mk n)
/-- A count's bytes. -/
def enc (n : Nat) : Nat → Nat := fun i => if i = 0 then mk n else byteAt n (i - 1)
/-- The first k of x, noughts behind. -/
def cut (x : Nat → Nat) (k : Nat) : Nat → Nat := fun i => if i < k then x i else 0
/-- What a form says. -/
def num (f : Nat → Nat) : Nat := if f 0 < 253 then f 0 else ofBytes (fun i => f (1 + i)) 8
/-- What bytes say as a count. -/
def val (x : Nat → Nat) : Nat := if x 0 < 253 then x 0 else ofBytes (fun i => x (1 + i)) (wOf (x 0) - 1)
theorem wOf_cases (b : Nat) : wOf b = 1 ∨ wOf b = 3 ∨ wOf b = 5 ∨ wOf b = 9 := by
  unfold wOf
  split
  · exact .inr (.inl rfl)
  · split
    · exact .inr (.inr (.inl rfl))
    · split
      · exact .inr (.inr (.inr rfl))
      · exact .inl rfl
theorem wOf_bd (b : Nat) : 1 ≤ wOf b ∧ wOf b ≤ 9 := by rcases wOf_cases b with h | h | h | h <;> omega
theorem wid_bd (n : Nat) : 1 ≤ wid n ∧ wid n ≤ 9 := wOf_bd _
theorem mk_lt (n : Nat) : mk n < 256 := by
  unfold mk
  split
  · omega
  · split
    · omega
    · split <;> omega
theorem enc_lt (n i : Nat) : enc n i < 256 := by
  unfold enc
  split
  · exact mk_lt n
  · exact byteAt_lt _ _
theorem cut_lt {x : Nat → Nat} (hx : ∀ i, x i < 256) (k i : Nat) : cut x k i < 256 := by
  unfold cut
  split
  · exact hx i
  · omega
theorem num_cut (x : Nat → Nat) : num (cut x (wOf (x 0))) = val x := by
  have h0 : cut x (wOf (x 0)) 0 = x 0 := by unfold cut; rw [if_pos (by have := wOf_bd (x 0); omega)]
  unfold num val
  rw [h0]
  split
  · rfl
  · have hw := wOf_bd (x 0)
    rw [ofBytes_noughts (k := wOf (x 0) - 1) (fun i hi => by unfold cut; rw [if_neg (by omega)]) (by omega)]
    exact ofBytes_congr fun i hi => by unfold cut; rw [if_pos (by omega)]
theorem val_lt {x : Nat → Nat} (hx : ∀ i, x i < 256) : val x < 18446744073709551616 := by
  unfold val
  split
  · have := hx 0; omega
  · have h := ofBytes_lt (f := fun i => x (1 + i)) (m := wOf (x 0) - 1) fun i _ => hx _
    have h2 : 2 ^ (8 * (wOf (x 0) - 1)) ≤ 2 ^ 64 := Nat.pow_le_pow_right (by decide) (by have := wOf_bd (x 0); omega)
    omega
theorem mk_of_wid {n b : Nat} (hb : b < 256) (h253 : 253 ≤ b) (h : wid n = wOf b) : mk n = b := by
  have h1 := mk_lt n
  unfold wid wOf at h
  repeat' split at h
  all_goals omega
/-- The shortest form of what bytes say is these bytes just where it has as many. -/
theorem form_same {x : Nat → Nat} (hx : ∀ i, x i < 256) (h : wid (val x) = wOf (x 0)) (i : Nat) : cut (enc (val x)) (wid (val x)) i = cut x (wOf (x 0)) i := by
  unfold cut
  rw [h]
  split
  · rename_i hi
    unfold enc
    by_cases h0 : x 0 < 253
    · have e : wOf (x 0) = 1 := by unfold wOf; rw [if_neg (by omega), if_neg (by omega), if_neg (by omega)]
      obtain rfl : i = 0 := by omega
      rw [if_pos rfl]
      unfold val mk
      rw [if_pos h0, if_pos h0]
    · split
      · subst i; exact mk_of_wid (hx 0) (by omega) h
      · unfold val
        rw [if_neg h0, byteAt_ofBytes (fun i _ => hx _) (i - 1) (by omega)]
        congr 1; omega
  · rfl
theorem form_other {x : Nat → Nat} (h : cut (enc (val x)) (wid (val x)) 0 = cut x (wOf (x 0)) 0) : wid (val x) = wOf (x 0) := by
  have h1 := wid_bd (val x)
  have h2 := wOf_bd (x 0)
  unfold cut at h
  rw [if_pos (by omega), if_pos (by omega)] at h
  unfold enc at h
  rw [if_pos rfl] at h
  unfold wid
  rw [h]
/-- A count's bytes say it. -/
theorem val_enc {n : Nat} {x : Nat → Nat} (hn : n < 18446744073709551616) (hx : ∀ i, i < wid n → x i = enc n i) : x 0 = mk n ∧ wOf (x 0) = wid n ∧ val x = n := by
  have hw := wid_bd n
  have h0 : x 0 = mk n := by rw [hx 0 (by omega)]; unfold enc; rw [if_pos rfl]
  have h1 : wOf (x 0) = wid n := by rw [h0]; rfl
  refine ⟨h0, h1, ?_⟩
  unfold val
  rw [h1]
  by_cases h253 : n < 253
  · have e : mk n = n := by unfold mk; rw [if_pos h253]
    rw [h0, e, if_pos h253]
  · have e : ¬ mk n < 253 := by
      unfold mk; rw [if_neg h253]; split
      · omega
      · split <;> omega
    rw [h0, if_neg e, ofBytes_congr (g := byteAt n) (fun i hi => by rw [hx (1 + i) (by omega)]; unfold enc; rw [if_neg (by omega)]; congr 1; omega), ofBytes_byteAt]
    refine Nat.mod_eq_of_lt ?_
    unfold wid mk wOf
    rw [if_neg h253]
    split
    · simp; omega
    · split
      · simp; omega
      · simp; omega
theorem wid_of {n : Nat} : wid n = if n < 253 then 1 else if n ≤ 65535 then 3 else if n ≤ 4294967295 then 5 else 9 := by
  unfold wid mk
  split
  · rename_i h
    unfold wOf
    rw [if_neg (by omega), if_neg (by omega), if_neg (by omega)]
  · split
    · rfl
    · split <;> rfl
/-- How a count's bytes are read. -/
def dec (n : Nat) (x : Nat → Nat) : Nat := if n < wOf (x 0) ∨ n = 0 then 50 else if wid (val x) = wOf (x 0) then 0 else 51
end Go.Proofs.YtaonnckhohieoaaDoor

