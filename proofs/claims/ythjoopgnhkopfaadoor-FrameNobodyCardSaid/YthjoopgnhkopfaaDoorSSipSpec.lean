/- SipHash-2-4 of a list of bytes under two words, as a plain function on integers. Nothing of the program stands here. -/
import Derived.Test.YthjoopgnhkopfaaDoorSSpec
import Derived.Laws.BitsAll
namespace Go.Proofs.YthjoopgnhkopfaaDoor.S
open Go.RowKit

/-- The word of the first k bytes. -/
def wordUpto (x : Nat → Int) : Nat → Int
  | 0 => 0
  | k + 1 => setByte (wordUpto x k) k (x k)
def sipStart (k0 k1 : Int) : S4 := ⟨bits .xor .u64 k0 8317987319222330741, bits .xor .u64 k1 7237128888997146477, bits .xor .u64 k0 7816392313619706465, bits .xor .u64 k1 8387220255154660723⟩
/-- The bytes of word j. -/
def byteAt (x : Nat → Int) (j i : Nat) : Int := x (8 * j + i)
/-- The state behind so many whole words. -/
def sws (k0 k1 : Int) (x : Nat → Int) : Nat → S4
  | 0 => sipStart k0 k1
  | j + 1 => mixed (sws k0 k1 x j) (wordUpto (byteAt x j) 8)
/-- The last word: what is left over, and the count. -/
def lastWord (x : Nat → Int) (n : Nat) : Int := bits .or .u64 (wordUpto (byteAt x (n / 8)) (n % 8)) ((n : Int) % 256 * 72057594037927936)
def lastState (k0 k1 : Int) (x : Nat → Int) (n : Nat) : S4 := mixed (sws k0 k1 x (n / 8)) (lastWord x n)
def folded (t : S4) : Int := bits .xor .u64 (bits .xor .u64 (bits .xor .u64 t.a t.b) t.c) t.d
def sipEnd (s : S4) : Int := folded (rounds 4 { s with c := bits .xor .u64 s.c 255 })
def sipSum (k0 k1 : Int) (x : Nat → Int) (n : Nat) : Int := sipEnd (lastState k0 k1 x n)

theorem byteAt_here (x : Nat → Int) (j : Nat) : byteAt x (j / 8) (j % 8) = x j := by
  unfold byteAt; rw [Nat.div_add_mod]
theorem sws_step (k0 k1 : Int) (x : Nat → Int) (j : Nat) (h : j % 8 = 7) : sws k0 k1 x ((j + 1) / 8) = mixed (sws k0 k1 x (j / 8)) (setByte (wordUpto (byteAt x (j / 8)) (j % 8)) (j % 8) (x j)) := by
  have e : (j + 1) / 8 = j / 8 + 1 := by omega
  rw [e, sws, ← byteAt_here x j, h]
  rfl
theorem word_step (x : Nat → Int) (j : Nat) (h : j % 8 ≠ 7) : wordUpto (byteAt x ((j + 1) / 8)) ((j + 1) % 8) = setByte (wordUpto (byteAt x (j / 8)) (j % 8)) (j % 8) (x j) := by
  have e : (j + 1) / 8 = j / 8 := by omega
  have e2 : (j + 1) % 8 = j % 8 + 1 := by omega
  rw [e, e2, wordUpto, byteAt_here]
theorem word_none (x : Nat → Int) (j : Nat) (h : j % 8 = 7) : wordUpto (byteAt x ((j + 1) / 8)) ((j + 1) % 8) = 0 := by
  have e2 : (j + 1) % 8 = 0 := by omega
  rw [e2]; rfl
theorem sws_same (k0 k1 : Int) (x : Nat → Int) (j : Nat) (h : j % 8 ≠ 7) : sws k0 k1 x ((j + 1) / 8) = sws k0 k1 x (j / 8) := by
  have e : (j + 1) / 8 = j / 8 := by omega
  rw [e]
end Go.Proofs.YthjoopgnhkopfaaDoor.S
