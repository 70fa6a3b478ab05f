/- Texts of ours, merged: SSpec, SLeft, SSipSpec, SSipLast, SScale, SRefScale. -/
import Derived.Test.YtoopcmcmjaikhaaDoorRows
import Derived.WalkKit
import Derived.WalkSpells
import Derived.Lib.Hide
import Derived.Deep.QuietTactic
import Derived.BigQuiet
import Derived.Laws.BitsAll
import Derived.Laws.CopyOwn
import Derived.Lib.Mul64
import Derived.Laws.Bits64b
import Derived.LoopTactic
section
namespace Go.Proofs.YtoopcmcmjaikhaaDoor.S
open Go.RowKit

/-- A word turned left by n. -/
def rotl (x : Int) (n : Nat) : Int := bits .or .u64 (IntKind.u64.wrap (x * 2 ^ n)) (x / 2 ^ (64 - n))

/-- Four words as cells. -/
def W4 (a b c d : Int) : Array Value := #[.int .u64 a, .int .u64 b, .int .u64 c, .int .u64 d]

structure S4 where
  a : Int
  b : Int
  c : Int
  d : Int
def S4.cells (s : S4) : Array Value := W4 s.a s.b s.c s.d

def addLaw (x y : Int) : Int := IntKind.u64.wrap (x + y)
/-- The statements of a round, one by one. -/
def st0 (s : S4) : S4 := { s with a := IntKind.u64.wrap (s.a + s.b) }
def st1 (s : S4) : S4 := { s with b := bits .xor .u64 (rotl s.b 13) s.a }
def st2 (s : S4) : S4 := { s with a := rotl s.a 32 }
def st3 (s : S4) : S4 := { s with c := IntKind.u64.wrap (s.c + s.d) }
def st4 (s : S4) : S4 := { s with d := bits .xor .u64 (rotl s.d 16) s.c }
def st5 (s : S4) : S4 := { s with a := IntKind.u64.wrap (s.a + s.d) }
def st6 (s : S4) : S4 := { s with d := bits .xor .u64 (rotl s.d 21) s.a }
def st7 (s : S4) : S4 := { s with c := IntKind.u64.wrap (s.c + s.b) }
def st8 (s : S4) : S4 := { s with b := bits .xor .u64 (rotl s.b 17) s.c }
def st9 (s : S4) : S4 := { s with c := rotl s.c 32 }
def round (s : S4) : S4 := st9 (st8 (st7 (st6 (st5 (st4 (st3 (st2 (st1 (st0 s)))))))))
/-- So many rounds. -/
def rounds : Nat → S4 → S4
  | 0, s => s
  | n + 1, s => round (rounds n s)
/-- A word is worked in. -/
def mixed (s : S4) (m : Int) : S4 :=
  let t := rounds 2 { s with d := bits .xor .u64 s.d m }
  { t with a := bits .xor .u64 t.a m }
/-- A byte, set into a word at place i. -/
def setByte (m : Int) (i : Nat) (x : Int) : Int := bits .or .u64 m (IntKind.u64.wrap (x * 2 ^ (8 * i)))
end Go.Proofs.YtoopcmcmjaikhaaDoor.S
end
section
namespace Go.Proofs.YtoopcmcmjaikhaaDoor.S
open Go.RowKit Go.Lib

set_option maxHeartbeats 1000000 in
theorem rot13 (x : Int) (w : World) : Calls Tryd.prog 121 #[.int .u64 x, .int .i64 13] w fun e w' => e = .returned (.int .u64 (rotl x 13)) ∧ w = w' := by
  have e : bits .and .u64 13 63 = 13 := by decide
  go_enter Tryd.func121, Tryd.ntmps121
  go_wp2
  go_ret
  exact ⟨rfl, rfl⟩
set_option maxHeartbeats 1000000 in
theorem left13 (x : Int) (w : World) : Calls Tryd.prog 127 #[.int .u64 x, .int .i64 13] w fun e w' => e = .returned (.int .u64 (rotl x 13)) ∧ ∃ n, w' = w.drewN n := by
  go_enter Tryd.func127, Tryd.ntmps127
  go_wp2
  go_quiet (fail)
  go_wp2
  go_ret
  exact ⟨rfl, _, rfl⟩
set_option maxHeartbeats 1000000 in
theorem rot16 (x : Int) (w : World) : Calls Tryd.prog 121 #[.int .u64 x, .int .i64 16] w fun e w' => e = .returned (.int .u64 (rotl x 16)) ∧ w = w' := by
  have e : bits .and .u64 16 63 = 16 := by decide
  go_enter Tryd.func121, Tryd.ntmps121
  go_wp2
  go_ret
  exact ⟨rfl, rfl⟩
set_option maxHeartbeats 1000000 in
theorem left16 (x : Int) (w : World) : Calls Tryd.prog 127 #[.int .u64 x, .int .i64 16] w fun e w' => e = .returned (.int .u64 (rotl x 16)) ∧ ∃ n, w' = w.drewN n := by
  go_enter Tryd.func127, Tryd.ntmps127
  go_wp2
  go_quiet (fail)
  go_wp2
  go_ret
  exact ⟨rfl, _, rfl⟩
set_option maxHeartbeats 1000000 in
theorem rot17 (x : Int) (w : World) : Calls Tryd.prog 121 #[.int .u64 x, .int .i64 17] w fun e w' => e = .returned (.int .u64 (rotl x 17)) ∧ w = w' := by
  have e : bits .and .u64 17 63 = 17 := by decide
  go_enter Tryd.func121, Tryd.ntmps121
  go_wp2
  go_ret
  exact ⟨rfl, rfl⟩
set_option maxHeartbeats 1000000 in
theorem left17 (x : Int) (w : World) : Calls Tryd.prog 127 #[.int .u64 x, .int .i64 17] w fun e w' => e = .returned (.int .u64 (rotl x 17)) ∧ ∃ n, w' = w.drewN n := by
  go_enter Tryd.func127, Tryd.ntmps127
  go_wp2
  go_quiet (fail)
  go_wp2
  go_ret
  exact ⟨rfl, _, rfl⟩
set_option maxHeartbeats 1000000 in
theorem rot21 (x : Int) (w : World) : Calls Tryd.prog 121 #[.int .u64 x, .int .i64 21] w fun e w' => e = .returned (.int .u64 (rotl x 21)) ∧ w = w' := by
  have e : bits .and .u64 21 63 = 21 := by decide
  go_enter Tryd.func121, Tryd.ntmps121
  go_wp2
  go_ret
  exact ⟨rfl, rfl⟩
set_option maxHeartbeats 1000000 in
theorem left21 (x : Int) (w : World) : Calls Tryd.prog 127 #[.int .u64 x, .int .i64 21] w fun e w' => e = .returned (.int .u64 (rotl x 21)) ∧ ∃ n, w' = w.drewN n := by
  go_enter Tryd.func127, Tryd.ntmps127
  go_wp2
  go_quiet (fail)
  go_wp2
  go_ret
  exact ⟨rfl, _, rfl⟩
set_option maxHeartbeats 1000000 in
theorem rot32 (x : Int) (w : World) : Calls Tryd.prog 121 #[.int .u64 x, .int .i64 32] w fun e w' => e = .returned (.int .u64 (rotl x 32)) ∧ w = w' := by
  have e : bits .and .u64 32 63 = 32 := by decide
  go_enter Tryd.func121, Tryd.ntmps121
  go_wp2
  go_ret
  exact ⟨rfl, rfl⟩
set_option maxHeartbeats 1000000 in
theorem left32 (x : Int) (w : World) : Calls Tryd.prog 127 #[.int .u64 x, .int .i64 32] w fun e w' => e = .returned (.int .u64 (rotl x 32)) ∧ ∃ n, w' = w.drewN n := by
  go_enter Tryd.func127, Tryd.ntmps127
  go_wp2
  go_quiet (fail)
  go_wp2
  go_ret
  exact ⟨rfl, _, rfl⟩
end Go.Proofs.YtoopcmcmjaikhaaDoor.S
end
section
namespace Go.Proofs.YtoopcmcmjaikhaaDoor.S
open Go.RowKit

/-- The word of the first k bytes. -/
def wordUpto (x : Nat → Int) : Nat → Int
  | 0 => 0
  | k + 1 => setByte (wordUpto x k) k (x k)
def sipStart (k0 k1 : Int) : S4 := ⟨bits .xor .u64 k0 8317987319222330741, bits .xor .u64 k1 7237128888997146477, bits .xor .u64 k0 7816392313619706465, bits .xor .u64 k1 8387220255154660723⟩
/-- The bytes of word j. -/
def byteAt (x : Nat → Int) (j i : Nat) : Int := x (8 * j + i)
/-- The state behind so many whole words. -/
def sws (k0 k1 : Int) (x : Nat → Int) : Nat → S4
  | 0 => sipStart k0 k1
  | j + 1 => mixed (sws k0 k1 x j) (wordUpto (byteAt x j) 8)
/-- The last word: what is left over, and the count. -/
def lastWord (x : Nat → Int) (n : Nat) : Int := bits .or .u64 (wordUpto (byteAt x (n / 8)) (n % 8)) ((n : Int) % 256 * 72057594037927936)
def lastState (k0 k1 : Int) (x : Nat → Int) (n : Nat) : S4 := mixed (sws k0 k1 x (n / 8)) (lastWord x n)
def folded (t : S4) : Int := bits .xor .u64 (bits .xor .u64 (bits .xor .u64 t.a t.b) t.c) t.d
def sipEnd (s : S4) : Int := folded (rounds 4 { s with c := bits .xor .u64 s.c 255 })
def sipSum (k0 k1 : Int) (x : Nat → Int) (n : Nat) : Int := sipEnd (lastState k0 k1 x n)

theorem byteAt_here (x : Nat → Int) (j : Nat) : byteAt x (j / 8) (j % 8) = x j := by
  unfold byteAt; rw [Nat.div_add_mod]
theorem sws_step (k0 k1 : Int) (x : Nat → Int) (j : Nat) (h : j % 8 = 7) : sws k0 k1 x ((j + 1) / 8) = mixed (sws k0 k1 x (j / 8)) (setByte (wordUpto (byteAt x (j / 8)) (j % 8)) (j % 8) (x j)) := by
  have e : (j + 1) / 8 = j / 8 + 1 := by omega
  rw [e, sws, ← byteAt_here x j, h]
  rfl
theorem word_step (x : Nat → Int) (j : Nat) (h : j % 8 ≠ 7) : wordUpto (byteAt x ((j + 1) / 8)) ((j + 1) % 8) = setByte (wordUpto (byteAt x (j / 8)) (j % 8)) (j % 8) (x j) := by
  have e : (j + 1) / 8 = j / 8 := by omega
  have e2 : (j + 1) % 8 = j % 8 + 1 := by omega
  rw [e, e2, wordUpto, byteAt_here]
theorem word_none (x : Nat → Int) (j : Nat) (h : j % 8 = 7) : wordUpto (byteAt x ((j + 1) / 8)) ((j + 1) % 8) = 0 := by
  have e2 : (j + 1) % 8 = 0 := by omega
  rw [e2]; rfl
theorem sws_same (k0 k1 : Int) (x : Nat → Int) (j : Nat) (h : j % 8 ≠ 7) : sws k0 k1 x ((j + 1) / 8) = sws k0 k1 x (j / 8) := by
  have e : (j + 1) / 8 = j / 8 := by omega
  rw [e]
end Go.Proofs.YtoopcmcmjaikhaaDoor.S
end
section
namespace Go.Proofs.YtoopcmcmjaikhaaDoor.S
open Go.RowKit

/-- Eight bytes as cells. -/
def B8 (x : Nat → Int) : Array Value := #[.int .u8 (x 0), .int .u8 (x 1), .int .u8 (x 2), .int .u8 (x 3), .int .u8 (x 4), .int .u8 (x 5), .int .u8 (x 6), .int .u8 (x 7)]
def lastStart (n : Nat) : Array Value := #[.int .u8 0, .int .u8 0, .int .u8 0, .int .u8 0, .int .u8 0, .int .u8 0, .int .u8 0, .int .u8 ((n : Int) % 256)]
def firstBytes (x : Nat → Int) (r : Nat) : List Value := (List.range r).map fun i => .int .u8 (x i)
def lastBytes (x : Nat → Int) (r n i : Nat) : Int := if i < r then x i else if i = 7 then (n : Int) % 256 else 0

theorem splice_last (x : Nat → Int) (n r : Nat) (h : r < 8) : (splice (lastStart n).toList 0 (firstBytes x r)).toArray = B8 (lastBytes x r n) := by
  match r, h with
  | 0, _ => rfl
  | 1, _ => rfl
  | 2, _ => rfl
  | 3, _ => rfl
  | 4, _ => rfl
  | 5, _ => rfl
  | 6, _ => rfl
  | 7, _ => rfl

def In64 (m : Int) : Prop := 0 ≤ m ∧ m < 18446744073709551616
theorem in_wrap (m : Int) : In64 (IntKind.u64.wrap m) := by rw [IntKind.wrap_u64]; unfold In64; omega
theorem in_or {a b : Int} (ha : In64 a) (hb : In64 b) : In64 (bits .or .u64 a b) := by
  rw [u64_or a b ha.1 ha.2 hb.1 hb.2]
  have h1 : a.toNat < 2 ^ 64 := by have := ha.1; have := ha.2; omega
  have h2 : b.toNat < 2 ^ 64 := by have := hb.1; have := hb.2; omega
  have h := Nat.or_lt_two_pow h1 h2
  unfold In64
  omega
theorem in_word (x : Nat → Int) : ∀ k, In64 (wordUpto x k)
  | 0 => ⟨Int.le_refl 0, (by decide : (0 : Int) < 18446744073709551616)⟩
  | k + 1 => in_or (in_word x k) (in_wrap _)
theorem or_zero {a : Int} (ha : In64 a) : bits .or .u64 a 0 = a := by
  rw [u64_or a 0 ha.1 ha.2 (by decide) (by decide)]
  simp
  have := ha.1
  omega
theorem setByte_zero {m : Int} (hm : In64 m) (i : Nat) : setByte m i 0 = m := by
  unfold setByte
  rw [Int.zero_mul]
  exact or_zero hm
theorem word_same (x : Nat → Int) (r n : Nat) : ∀ k, k ≤ r → wordUpto (lastBytes x r n) k = wordUpto x k
  | 0, _ => rfl
  | k + 1, h => by
    rw [wordUpto, wordUpto, word_same x r n k (by omega)]
    have : lastBytes x r n k = x k := by unfold lastBytes; rw [if_pos (by omega)]
    rw [this]
theorem word_zeros (x : Nat → Int) (r n : Nat) : ∀ k, r ≤ k → k ≤ 7 → wordUpto (lastBytes x r n) k = wordUpto x r
  | 0, h, _ => by obtain rfl : r = 0 := by omega
                  rfl
  | k + 1, h, h7 => by
    rcases Nat.lt_or_ge k r with q | q
    · obtain rfl : r = k + 1 := by omega
      exact word_same x _ n _ (Nat.le_refl _)
    · rw [wordUpto, word_zeros x r n k q (by omega)]
      have : lastBytes x r n k = 0 := by unfold lastBytes; rw [if_neg (by omega), if_neg (by omega)]
      rw [this]
      exact setByte_zero (in_word x r) k
theorem word_last (x : Nat → Int) (r n : Nat) (h : r < 8) : wordUpto (lastBytes x r n) 8 = bits .or .u64 (wordUpto x r) ((n : Int) % 256 * 72057594037927936) := by
  rw [wordUpto, word_zeros x r n 7 (by omega) (by omega)]
  have : lastBytes x r n 7 = (n : Int) % 256 := by unfold lastBytes; rw [if_neg (by omega), if_pos rfl]
  rw [this]
  unfold setByte
  have e : (2 : Int) ^ (8 * 7) = 72057594037927936 := by decide
  rw [e, IntKind.wrap_u64]
  congr 1
  omega
theorem last_word (x : Nat → Int) (n q r : Nat) (h : r < 8) (hn : 8 * q + r = n) : wordUpto (lastBytes (byteAt x q) r n) 8 = lastWord x n := by
  rw [word_last _ _ _ h, lastWord]
  obtain rfl : q = n / 8 := by omega
  obtain rfl : r = n % 8 := by omega
  rfl
theorem last_range (x : Nat → Int) (r n : Nat) (hx : ∀ i, 0 ≤ x i ∧ x i ≤ 255) (i : Nat) : 0 ≤ lastBytes x r n i ∧ lastBytes x r n i ≤ 255 := by
  unfold lastBytes
  split
  · exact hx i
  · split <;> omega
theorem firstBytes_length (x : Nat → Int) (r : Nat) : (firstBytes x r).length = r := by simp [firstBytes]
theorem firstBytes_get (x : Nat → Int) (r j : Nat) (v : Value) (h : (firstBytes x r)[j]? = some v) : j < r ∧ v = .int .u8 (x j) := by
  unfold firstBytes at h
  rw [List.getElem?_map, Option.map_eq_some_iff] at h
  obtain ⟨a, ha, rfl⟩ := h
  obtain ⟨hj, he⟩ := List.getElem?_eq_some_iff.1 ha
  simp at hj he
  subst he
  exact ⟨hj, rfl⟩
theorem firstBytes_one (x : Nat → Int) (r : Nat) : ∀ v ∈ firstBytes x r, v.oneCell' = true := by
  intro v hv
  unfold firstBytes at hv
  obtain ⟨a, _, rfl⟩ := List.mem_map.1 hv
  rfl
end Go.Proofs.YtoopcmcmjaikhaaDoor.S
end
section
namespace Go.Proofs.YtoopcmcmjaikhaaDoor.S
open Go.RowKit Go.Lib

namespace M64
theorem maskN (a : Nat) (ha : a < 18446744073709551616) : bits .and .u64 (a : Int) 4294967295 = ((a % 4294967296 : Nat) : Int) := by
  have h := bits_and_u64_nat a 4294967295 ha (by omega)
  have e : a &&& 4294967295 = a % 4294967296 := Nat.and_two_pow_sub_one_eq_mod a 32
  rw [e] at h
  exact h
theorem divN (a : Nat) : (a : Int) / 4294967296 = ((a / 4294967296 : Nat) : Int) := by omega
theorem mulN (a b : Nat) : (a : Int) * (b : Int) = ((a * b : Nat) : Int) := (Int.natCast_mul a b).symm
theorem addN (a b : Nat) : (a : Int) + (b : Int) = ((a + b : Nat) : Int) := (Int.natCast_add a b).symm
theorem wrapN (a : Nat) (ha : a < 18446744073709551616) : IntKind.u64.wrap (a : Int) = (a : Int) := by rw [IntKind.wrap_u64]; omega
theorem wrapM (a : Nat) : IntKind.u64.wrap (a : Int) = ((a % 18446744073709551616 : Nat) : Int) := by rw [IntKind.wrap_u64]; omega
end M64

set_option maxHeartbeats 1000000 in
theorem mul64_any (x y : Nat) (hx : x < 18446744073709551616) (hy : y < 18446744073709551616) (w : World) :
    Calls Tryd.prog 96 #[.int .u64 x, .int .u64 y] w fun e w' => e = .returned (.tuple #[.int .u64 ((x * y / 18446744073709551616 : Nat) : Int), .int .u64 ((x * y % 18446744073709551616 : Nat) : Int)]) ∧ w = w' := by
  obtain ⟨bd, bt, bw, hhi⟩ := Lib.mul64_hi x y hx hy
  have ba := Lib.half_mul_le (a := x / 4294967296) (b := y / 4294967296) (by omega) (by omega)
  have bb := Lib.half_mul_le (a := x / 4294967296) (b := y % 4294967296) (by omega) (by omega)
  have bc := Lib.half_mul_le (a := x % 4294967296) (b := y / 4294967296) (by omega) (by omega)
  have ba' : x / 4294967296 * (y / 4294967296) < 18446744073709551616 := by omega
  have bb' : x / 4294967296 * (y % 4294967296) < 18446744073709551616 := by omega
  have bc' : x % 4294967296 * (y / 4294967296) < 18446744073709551616 := by omega
  have bh1 : x / 4294967296 * (y / 4294967296) + (x / 4294967296 * (y % 4294967296) + x % 4294967296 * (y % 4294967296) / 4294967296) / 4294967296 < 18446744073709551616 := by omega
  have bh : x / 4294967296 * (y / 4294967296) + (x / 4294967296 * (y % 4294967296) + x % 4294967296 * (y % 4294967296) / 4294967296) / 4294967296 + ((x / 4294967296 * (y % 4294967296) + x % 4294967296 * (y % 4294967296) / 4294967296) % 4294967296 + x % 4294967296 * (y / 4294967296)) / 4294967296 < 18446744073709551616 := by omega
  go_enter Tryd.func96, Tryd.ntmps96
  go_wp2
  simp only [M64.maskN x hx, M64.maskN y hy, M64.divN, M64.mulN, M64.addN, M64.wrapN _ bd, M64.wrapN _ bb', M64.wrapN _ bt, M64.maskN _ bt, M64.wrapN _ bc', M64.wrapN _ bw, M64.wrapN _ ba', M64.wrapN _ bh1, M64.wrapN _ bh, M64.wrapM (x * y)]
  rw [hhi]
  go_ret2
  exact ⟨rfl, rfl⟩

/-- The high half of a product. -/
def hi (x y : Nat) : Nat := x * y / 18446744073709551616
theorem hi_comm (x y : Nat) : hi x y = hi y x := by unfold hi; rw [Nat.mul_comm]
theorem hi_mono (x y n : Nat) (h : x ≤ y) : hi x n ≤ hi y n := by unfold hi; exact Nat.div_le_div_right (Nat.mul_le_mul_right n h)
theorem hi_lt (x n : Nat) (hx : x < 18446744073709551616) (hn : 0 < n) : hi x n < n := by
  unfold hi
  refine Nat.div_lt_of_lt_mul ?_
  rw [Nat.mul_comm _ n, Nat.mul_comm _ n]
  exact Nat.mul_lt_mul_of_pos_left hx hn
theorem hi_zero (x : Nat) : hi x 0 = 0 := by unfold hi; simp
theorem hi_le (x n : Nat) (hn : n < 18446744073709551616) (hx : x < 18446744073709551616) : hi x n < 18446744073709551616 := by
  rcases Nat.eq_zero_or_pos n with h | h
  · subst h; rw [hi_zero]; omega
  · have := hi_lt x n hx h; omega
theorem hi_quarter : hi 4611686018427387904 8 = 2 := by decide
theorem hi_half : hi 9223372036854775808 10 = 5 := by decide

set_option maxHeartbeats 1000000 in
theorem scale_any (x y : Nat) (hx : x < 18446744073709551616) (hy : y < 18446744073709551616) (w : World) :
    Calls Tryd.prog 65 #[.int .u64 x, .int .u64 y] w fun e w' => e = .returned (.int .u64 ((hi x y : Nat) : Int)) ∧ w = w' := by
  go_enter Tryd.func65, Tryd.ntmps65
  go_wp2_with (go_at_call 96; refine (mul64_any x y hx hy _).mono ?_; rintro e w' ⟨rfl, rfl⟩)
  go_ret
  exact ⟨rfl, rfl⟩

theorem scale_none (x : Nat) (hx : x < 18446744073709551616) (w : World) :
    Calls Tryd.prog 65 #[.int .u64 x, .int .u64 0] w fun e w' => e = .returned (.int .u64 0) ∧ w = w' := by
  have h := scale_any x 0 hx (by decide) w
  rw [hi_zero] at h
  exact h
theorem scale_quarter (w : World) :
    Calls Tryd.prog 65 #[.int .u64 4611686018427387904, .int .u64 8] w fun e w' => e = .returned (.int .u64 2) ∧ w = w' := by
  have h := scale_any 4611686018427387904 8 (by decide) (by decide) w
  rw [hi_quarter] at h
  exact h
theorem scale_half (w : World) :
    Calls Tryd.prog 65 #[.int .u64 9223372036854775808, .int .u64 10] w fun e w' => e = .returned (.int .u64 5) ∧ w = w' := by
  have h := scale_any 9223372036854775808 10 (by decide) (by decide) w
  rw [hi_half] at h
  exact h
end Go.Proofs.YtoopcmcmjaikhaaDoor.S
end
section
namespace Go.Proofs.YtoopcmcmjaikhaaDoor.S
open Go.RowKit Go.Lib

/-- The product of x's highest k bits with n: its high word, its low word. -/
def rp (x n k : Nat) : Nat := x / 2 ^ (64 - k) * n
def rh (x n k : Nat) : Nat := rp x n k / 18446744073709551616
def rl (x n k : Nat) : Nat := rp x n k % 18446744073709551616

theorem rp_lt (x n k : Nat) (hx : x < 18446744073709551616) (hn : n < 18446744073709551616) (hk : k < 64) : rp x n k < 170141183460469231731687303715884105728 := by
  unfold rp
  have h1 : x / 2 ^ (64 - k) < 9223372036854775808 := by
    have : x / 2 ^ (64 - k) ≤ x / 2 ^ 1 := Nat.div_le_div_left (Nat.pow_le_pow_right (by omega) (by omega)) (by decide)
    omega
  have h2 : x / 2 ^ (64 - k) * n ≤ 9223372036854775807 * 18446744073709551615 := Nat.mul_le_mul (by omega) (by omega)
  omega
theorem rp_zero (x n : Nat) (hx : x < 18446744073709551616) : rp x n 0 = 0 := by
  unfold rp
  have : x / 2 ^ (64 - 0) = 0 := Nat.div_eq_of_lt (by simpa using hx)
  rw [this, Nat.zero_mul]
theorem rp_succ (x n k : Nat) (hk : k < 64) : rp x n (k + 1) = 2 * rp x n k + x / 2 ^ (63 - k) % 2 * n := by
  unfold rp
  have e1 : 64 - (k + 1) = 63 - k := by omega
  have e2 : 64 - k = (63 - k) + 1 := by omega
  rw [e1, e2, Nat.pow_succ, ← Nat.div_div_eq_div_mul, ← Nat.mul_assoc, ← Nat.add_mul]
  congr 1
  omega
theorem rh_lt (x n k : Nat) (hx : x < 18446744073709551616) (hn : n < 18446744073709551616) (hk : k < 64) : rh x n k < 9223372036854775808 := by
  have := rp_lt x n k hx hn hk
  unfold rh
  omega
theorem rl_lt (x n k : Nat) : rl x n k < 18446744073709551616 := by unfold rl; omega

theorem or_is (h l : Nat) (hh : h < 9223372036854775808) (hl : l < 18446744073709551616) : bits .or .u64 ((h : Int) * 2) ((l : Int) / 9223372036854775808) = ((h * 2 + l / 9223372036854775808 : Nat) : Int) := by
  have e1 : ((h : Int) * 2) = ((h * 2 : Nat) : Int) := by omega
  have e2 : ((l : Int) / 9223372036854775808) = ((l / 9223372036854775808 : Nat) : Int) := by omega
  rw [e1, e2, u64_or_nat _ _ (by omega) (by omega), nat_join 1 _ _ (by omega) (by omega)]
theorem and_is (x k : Nat) (hx : x < 18446744073709551616) : bits .and .u64 ((x : Int) / 2 ^ (63 - k)) 1 = ((x / 2 ^ (63 - k) % 2 : Nat) : Int) := by
  have e1 : ((x : Int) / 2 ^ (63 - k)) = ((x / 2 ^ (63 - k) : Nat) : Int) := by simp
  have : x / 2 ^ (63 - k) ≤ x := Nat.div_le_self _ _
  have h := u64_and_nat (x / 2 ^ (63 - k)) 1 (by omega) (by omega)
  rw [e1]
  have e : (x / 2 ^ (63 - k)) &&& 1 = x / 2 ^ (63 - k) % 2 := Nat.and_two_pow_sub_one_eq_mod _ 1
  rw [e] at h
  exact h

theorem step_no (x n k : Nat) (hx : x < 18446744073709551616) (hn : n < 18446744073709551616) (hk : k < 64) (hb : (bits BinOp.and IntKind.u64 (↑x / 2 ^ (63 - k)) 1 == 1) = false) :
    bits BinOp.or IntKind.u64 (↑(rh x n k) * 2) (↑(rl x n k) / 9223372036854775808) = ((rh x n (k + 1) : Nat) : Int) ∧ IntKind.u64.wrap (↑(rl x n k) * 2) = ((rl x n (k + 1) : Nat) : Int) := by
  have l1 := rh_lt x n k hx hn hk
  have l2 := rl_lt x n k
  rw [or_is _ _ l1 l2, IntKind.wrap_u64]
  rw [and_is x k hx] at hb
  have hs := rp_succ x n k hk
  have hb' : x / 2 ^ (63 - k) % 2 = 0 := by
    rcases Nat.mod_two_eq_zero_or_one (x / 2 ^ (63 - k)) with h | h
    · exact h
    · rw [h] at hb; exact absurd hb (by decide)
  rw [hb'] at hs
  unfold rh rl at *
  constructor <;> omega
theorem step_over (x n k : Nat) (hx : x < 18446744073709551616) (hn : n < 18446744073709551616) (hk : k < 64) (hb : (bits BinOp.and IntKind.u64 (↑x / 2 ^ (63 - k)) 1 == 1) = true)
    (ho : IntKind.u64.wrap (IntKind.u64.wrap (↑(rl x n k) * 2) + ↑n) < ↑n) :
    IntKind.u64.wrap (bits BinOp.or IntKind.u64 (↑(rh x n k) * 2) (↑(rl x n k) / 9223372036854775808) + 1) = ((rh x n (k + 1) : Nat) : Int) ∧ IntKind.u64.wrap (IntKind.u64.wrap (↑(rl x n k) * 2) + ↑n) = ((rl x n (k + 1) : Nat) : Int) := by
  have l1 := rh_lt x n k hx hn hk
  have l2 := rl_lt x n k
  rw [or_is _ _ l1 l2]
  simp only [IntKind.wrap_u64] at *
  rw [and_is x k hx] at hb
  have hs := rp_succ x n k hk
  have hb' : x / 2 ^ (63 - k) % 2 = 1 := by
    rcases Nat.mod_two_eq_zero_or_one (x / 2 ^ (63 - k)) with h | h
    · rw [h] at hb; exact absurd hb (by decide)
    · exact h
  rw [hb'] at hs
  have hp : rp x n (k + 1) < 340282366920938463463374607431768211456 := by
    have h3 := rp_lt x n k hx hn hk
    have h4 : 2 * rp x n k + 1 * n = rp x n (k + 1) := hs.symm
    unfold rp at *
    have e1 : 64 - (k + 1) = 63 - k := by omega
    have : x / 2 ^ (63 - k) ≤ 18446744073709551615 := by have := Nat.div_le_self x (2 ^ (63 - k)); omega
    have : x / 2 ^ (64 - (k + 1)) * n ≤ 18446744073709551615 * 18446744073709551615 := by rw [e1]; exact Nat.mul_le_mul this (by omega)
    omega
  unfold rh rl at *
  constructor <;> omega
theorem step_in (x n k : Nat) (hx : x < 18446744073709551616) (hn : n < 18446744073709551616) (hk : k < 64) (hb : (bits BinOp.and IntKind.u64 (↑x / 2 ^ (63 - k)) 1 == 1) = true)
    (ho : ↑n ≤ IntKind.u64.wrap (IntKind.u64.wrap (↑(rl x n k) * 2) + ↑n)) :
    bits BinOp.or IntKind.u64 (↑(rh x n k) * 2) (↑(rl x n k) / 9223372036854775808) = ((rh x n (k + 1) : Nat) : Int) ∧ IntKind.u64.wrap (IntKind.u64.wrap (↑(rl x n k) * 2) + ↑n) = ((rl x n (k + 1) : Nat) : Int) := by
  have l1 := rh_lt x n k hx hn hk
  have l2 := rl_lt x n k
  rw [or_is _ _ l1 l2]
  simp only [IntKind.wrap_u64] at *
  rw [and_is x k hx] at hb
  have hs := rp_succ x n k hk
  have hb' : x / 2 ^ (63 - k) % 2 = 1 := by
    rcases Nat.mod_two_eq_zero_or_one (x / 2 ^ (63 - k)) with h | h
    · rw [h] at hb; exact absurd hb (by decide)
    · exact h
  rw [hb'] at hs
  unfold rh rl at *
  constructor <;> omega

theorem word_eq {a b : Int} (h : a = b) : Value.int .u64 a = Value.int .u64 b := by rw [h]

set_option maxHeartbeats 1000000 in
theorem ref_scale_any (x n : Nat) (hx : x < 18446744073709551616) (hn : n < 18446744073709551616) (w : World) :
    Calls Tryd.prog 76 #[.int .u64 x, .int .u64 n] w fun e w' => e = .returned (.int .u64 ((hi x n : Nat) : Int)) ∧ w = w' := by
  have z := rp_zero x n hx
  have Z : Hid (rp x n 0 = 0) := Lib.hid z
  clear z
  go_enter Tryd.func76, Tryd.ntmps76
  go_wp2
  go_loop [5, 6, 7] (fun h l i => ∃ k : Nat, k ≤ 64 ∧ i = .int .i64 (63 - (k : Int)) ∧ h = .int .u64 ((rh x n k : Nat) : Int) ∧ l = .int .u64 ((rl x n k : Nat) : Int)) (fun _ _ i => (intOf i + 1).toNat)
  case atStart => exact ⟨0, by omega, rfl, word_eq (by unfold rh; rw [Z.out]; rfl), word_eq (by unfold rl; rw [Z.out]; rfl)⟩
  case round =>
    obtain ⟨k, hk, rfl, rfl, rfl⟩ := hrel
    by_cases hlt : k < 64
    · have h1 := rh_lt x n k hx hn hlt
      have h2 := rl_lt x n k
      have e1 : (0 : Int) ≤ 63 - (k : Int) := by omega
      go_wp2
      · have hb : (bits BinOp.and IntKind.u64 (↑x / 2 ^ (63 - k)) 1 == 1) = true := by assumption
        have ho : IntKind.u64.wrap (IntKind.u64.wrap (↑(rl x n k) * 2) + ↑n) < ↑n := by assumption
        have hs := step_over x n k hx hn hlt hb ho
        go_round
        case rel => exact ⟨k + 1, by omega, by go_num, word_eq hs.1, word_eq hs.2⟩
        case measure => simp [intOf]; omega
      · have hb : (bits BinOp.and IntKind.u64 (↑x / 2 ^ (63 - k)) 1 == 1) = true := by assumption
        have ho : ↑n ≤ IntKind.u64.wrap (IntKind.u64.wrap (↑(rl x n k) * 2) + ↑n) := by assumption
        have hs := step_in x n k hx hn hlt hb ho
        go_round
        case rel => exact ⟨k + 1, by omega, by go_num, word_eq hs.1, word_eq hs.2⟩
        case measure => simp [intOf]; omega
      · have hb : (bits BinOp.and IntKind.u64 (↑x / 2 ^ (63 - k)) 1 == 1) = false := by assumption
        have hs := step_no x n k hx hn hlt hb
        go_round
        case rel => exact ⟨k + 1, by omega, by go_num, word_eq hs.1, word_eq hs.2⟩
        case measure => simp [intOf]; omega
    · obtain rfl : k = 64 := by omega
      have H : Hid (rh x n 64 = hi x n) := Lib.hid (by unfold rh rp hi; simp)
      go_wp2
      go_ret
      exact ⟨congrArg (fun m : Nat => Ending.returned (Value.int .u64 (m : Int))) H.out, rfl⟩
end Go.Proofs.YtoopcmcmjaikhaaDoor.S
end
