/- The last word of SipHash: what is left over, noughts behind it, and the count at the top. Plain arithmetic; nothing of the program stands here. -/
import Derived.Test.YthjoopgnhkopfaaDoorSSipSpec
import Derived.Laws.CopyOwn
namespace Go.Proofs.YthjoopgnhkopfaaDoor.S
open Go.RowKit

/-- Eight bytes as cells. -/
def B8 (x : Nat → Int) : Array Value := #[.int .u8 (x 0), .int .u8 (x 1), .int .u8 (x 2), .int .u8 (x 3), .int .u8 (x 4), .int .u8 (x 5), .int .u8 (x 6), .int .u8 (x 7)]
def lastStart (n : Nat) : Array Value := #[.int .u8 0, .int .u8 0, .int .u8 0, .int .u8 0, .int .u8 0, .int .u8 0, .int .u8 0, .int .u8 ((n : Int) % 256)]
def firstBytes (x : Nat → Int) (r : Nat) : List Value := (List.range r).map fun i => .int .u8 (x i)
def lastBytes (x : Nat → Int) (r n i : Nat) : Int := if i < r then x i else if i = 7 then (n : Int) % 256 else 0

theorem splice_last (x : Nat → Int) (n r : Nat) (h : r < 8) : (splice (lastStart n).toList 0 (firstBytes x r)).toArray = B8 (lastBytes x r n) := by
  match r, h with
  | 0, _ => rfl
  | 1, _ => rfl
  | 2, _ => rfl
  | 3, _ => rfl
  | 4, _ => rfl
  | 5, _ => rfl
  | 6, _ => rfl
  | 7, _ => rfl

def In64 (m : Int) : Prop := 0 ≤ m ∧ m < 18446744073709551616
theorem in_wrap (m : Int) : In64 (IntKind.u64.wrap m) := by rw [IntKind.wrap_u64]; unfold In64; omega
theorem in_or {a b : Int} (ha : In64 a) (hb : In64 b) : In64 (bits .or .u64 a b) := by
  rw [u64_or a b ha.1 ha.2 hb.1 hb.2]
  have h1 : a.toNat < 2 ^ 64 := by have := ha.1; have := ha.2; omega
  have h2 : b.toNat < 2 ^ 64 := by have := hb.1; have := hb.2; omega
  have h := Nat.or_lt_two_pow h1 h2
  unfold In64
  omega
theorem in_word (x : Nat → Int) : ∀ k, In64 (wordUpto x k)
  | 0 => ⟨Int.le_refl 0, (by decide : (0 : Int) < 18446744073709551616)⟩
  | k + 1 => in_or (in_word x k) (in_wrap _)
theorem or_zero {a : Int} (ha : In64 a) : bits .or .u64 a 0 = a := by
  rw [u64_or a 0 ha.1 ha.2 (by decide) (by decide)]
  simp
  have := ha.1
  omega
theorem setByte_zero {m : Int} (hm : In64 m) (i : Nat) : setByte m i 0 = m := by
  unfold setByte
  rw [Int.zero_mul]
  exact or_zero hm
theorem word_same (x : Nat → Int) (r n : Nat) : ∀ k, k ≤ r → wordUpto (lastBytes x r n) k = wordUpto x k
  | 0, _ => rfl
  | k + 1, h => by
    rw [wordUpto, wordUpto, word_same x r n k (by omega)]
    have : lastBytes x r n k = x k := by unfold lastBytes; rw [if_pos (by omega)]
    rw [this]
theorem word_zeros (x : Nat → Int) (r n : Nat) : ∀ k, r ≤ k → k ≤ 7 → wordUpto (lastBytes x r n) k = wordUpto x r
  | 0, h, _ => by obtain rfl : r = 0 := by omega
                  rfl
  | k + 1, h, h7 => by
    rcases Nat.lt_or_ge k r with q | q
    · obtain rfl : r = k + 1 := by omega
      exact word_same x _ n _ (Nat.le_refl _)
    · rw [wordUpto, word_zeros x r n k q (by omega)]
      have : lastBytes x r n k = 0 := by unfold lastBytes; rw [if_neg (by omega), if_neg (by omega)]
      rw [this]
      exact setByte_zero (in_word x r) k
theorem word_last (x : Nat → Int) (r n : Nat) (h : r < 8) : wordUpto (lastBytes x r n) 8 = bits .or .u64 (wordUpto x r) ((n : Int) % 256 * 72057594037927936) := by
  rw [wordUpto, word_zeros x r n 7 (by omega) (by omega)]
  have : lastBytes x r n 7 = (n : Int) % 256 := by unfold lastBytes; rw [if_neg (by omega), if_pos rfl]
  rw [this]
  unfold setByte
  have e : (2 : Int) ^ (8 * 7) = 72057594037927936 := by decide
  rw [e, IntKind.wrap_u64]
  congr 1
  omega
theorem last_word (x : Nat → Int) (n q r : Nat) (h : r < 8) (hn : 8 * q + r = n) : wordUpto (lastBytes (byteAt x q) r n) 8 = lastWord x n := by
  rw [word_last _ _ _ h, lastWord]
  obtain rfl : q = n / 8 := by omega
  obtain rfl : r = n % 8 := by omega
  rfl
theorem last_range (x : Nat → Int) (r n : Nat) (hx : ∀ i, 0 ≤ x i ∧ x i ≤ 255) (i : Nat) : 0 ≤ lastBytes x r n i ∧ lastBytes x r n i ≤ 255 := by
  unfold lastBytes
  split
  · exact hx i
  · split <;> omega
theorem firstBytes_length (x : Nat → Int) (r : Nat) : (firstBytes x r).length = r := by simp [firstBytes]
theorem firstBytes_get (x : Nat → Int) (r j : Nat) (v : Value) (h : (firstBytes x r)[j]? = some v) : j < r ∧ v = .int .u8 (x j) := by
  unfold firstBytes at h
  rw [List.getElem?_map, Option.map_eq_some_iff] at h
  obtain ⟨a, ha, rfl⟩ := h
  obtain ⟨hj, he⟩ := List.getElem?_eq_some_iff.1 ha
  simp at hj he
  subst he
  exact ⟨hj, rfl⟩
theorem firstBytes_one (x : Nat → Int) (r : Nat) : ∀ v ∈ firstBytes x r, v.oneCell' = true := by
  intro v hv
  unfold firstBytes at hv
  obtain ⟨a, _, rfl⟩ := List.mem_map.1 hv
  rfl
end Go.Proofs.YthjoopgnhkopfaaDoor.S
