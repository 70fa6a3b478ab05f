/- SHA-256 as plain functions on integers. Nothing of the program's run stands here. -/
import Derived.Test.YtoopcmcmjaikhaaDoorSRot
namespace Go.Proofs.YtoopcmcmjaikhaaDoor.S
open Go.RowKit

def kList : List Int := [1116352408, 1899447441, 3049323471, 3921009573, 961987163, 1508970993, 2453635748, 2870763221, 3624381080, 310598401, 607225278, 1426881987, 1925078388, 2162078206, 2614888103, 3248222580, 3835390401, 4022224774, 264347078, 604807628, 770255983, 1249150122, 1555081692, 1996064986, 2554220882, 2821834349, 2952996808, 3210313671, 3336571891, 3584528711, 113926993, 338241895, 666307205, 773529912, 1294757372, 1396182291, 1695183700, 1986661051, 2177026350, 2456956037, 2730485921, 2820302411, 3259730800, 3345764771, 3516065817, 3600352804, 4094571909, 275423344, 430227734, 506948616, 659060556, 883997877, 958139571, 1322822218, 1537002063, 1747873779, 1955562222, 2024104815, 2227730452, 2361852424, 2428436474, 2756734187, 3204031479, 3329325298]
def kWord (i : Nat) : Int := kList.getD i 0

/-- Four bytes, the highest first. -/
def be32 (x : Nat → Int) (i : Nat) : Int := ((x (4 * i) * 256 + x (4 * i + 1)) * 256 + x (4 * i + 2)) * 256 + x (4 * i + 3)
def sig0 (v : Int) : Int := bits .xor .u32 (bits .xor .u32 (rotr v 7) (rotr v 18)) (v / 8)
def sig1 (v : Int) : Int := bits .xor .u32 (bits .xor .u32 (rotr v 17) (rotr v 19)) (v / 1024)
/-- A word out of earlier ones. -/
def laterWord (a x b y : Int) : Int := (a + sig0 x + b + sig1 y) % 4294967296
def nextWord (x : Nat → Int) (k : Nat) (v : Nat → Int) : Int := if k < 16 then be32 x k else laterWord (v (k - 16)) (v (k - 15)) (v (k - 7)) (v (k - 2))
def wordList (x : Nat → Int) : Nat → List Int
  | 0 => []
  | k + 1 => wordList x k ++ [nextWord x k fun i => (wordList x k).getD i 0]
/-- Word i of a block's 64. -/
def W (x : Nat → Int) (i : Nat) : Int := (wordList x (i + 1)).getD i 0
theorem wordList_length (x : Nat → Int) : ∀ k, (wordList x k).length = k
  | 0 => rfl
  | k + 1 => by rw [wordList, List.length_append, wordList_length x k]; rfl
theorem wordList_get (x : Nat → Int) (i : Nat) : ∀ k, i < k → (wordList x k).getD i 0 = W x i
  | 0, h => absurd h (by omega)
  | k + 1, h => by
    rcases Nat.lt_or_ge i k with q | q
    · rw [← wordList_get x i k q, wordList, List.getD_eq_getElem?_getD, List.getD_eq_getElem?_getD, List.getElem?_append_left (by rw [wordList_length]; exact q)]
    · obtain rfl : i = k := by omega
      rfl
theorem W_next (x : Nat → Int) (k : Nat) : W x k = nextWord x k fun i => (wordList x k).getD i 0 := by
  rw [W, wordList, List.getD_eq_getElem?_getD, List.getElem?_append_right (by rw [wordList_length]; exact Nat.le_refl _), wordList_length]
  simp
theorem W_low (x : Nat → Int) (k : Nat) (h : k < 16) : W x k = be32 x k := by rw [W_next, nextWord, if_pos h]
theorem W_high (x : Nat → Int) (k : Nat) (h : 16 ≤ k) : W x k = laterWord (W x (k - 16)) (W x (k - 15)) (W x (k - 7)) (W x (k - 2)) := by
  rw [W_next, nextWord, if_neg (by omega)]
  rw [wordList_get x (k - 16) k (by omega), wordList_get x (k - 15) k (by omega), wordList_get x (k - 7) k (by omega), wordList_get x (k - 2) k (by omega)]
theorem W_in (x : Nat → Int) (hx : ∀ i, 0 ≤ x i ∧ x i ≤ 255) (k : Nat) : In32 (W x k) := by
  rcases Nat.lt_or_ge k 16 with h | h
  · rw [W_low x k h]
    have h0 := hx (4 * k)
    have h1 := hx (4 * k + 1)
    have h2 := hx (4 * k + 2)
    have h3 := hx (4 * k + 3)
    unfold be32 In32
    omega
  · rw [W_high x k h]
    unfold laterWord In32
    omega

/-- Eight words. -/
structure R8 where
  a : Int
  b : Int
  c : Int
  d : Int
  e : Int
  f : Int
  g : Int
  h : Int
def R8.nth (s : R8) (i : Nat) : Int := if i = 0 then s.a else if i = 1 then s.b else if i = 2 then s.c else if i = 3 then s.d else if i = 4 then s.e else if i = 5 then s.f else if i = 6 then s.g else s.h
structure R8.In (s : R8) : Prop where
  a : In32 s.a
  b : In32 s.b
  c : In32 s.c
  d : In32 s.d
  e : In32 s.e
  f : In32 s.f
  g : In32 s.g
  h : In32 s.h
def big1 (e : Int) : Int := bits .xor .u32 (bits .xor .u32 (rotr e 6) (rotr e 11)) (rotr e 25)
def big0 (a : Int) : Int := bits .xor .u32 (bits .xor .u32 (rotr a 2) (rotr a 13)) (rotr a 22)
def maj (a b c : Int) : Int := bits .xor .u32 (bits .xor .u32 (bits .and .u32 a b) (bits .and .u32 a c)) (bits .and .u32 b c)
def cho (e f g : Int) : Int := bits .xor .u32 (bits .and .u32 e f) (bits .and .u32 (bits .xor .u32 IntKind.u32.max e) g)
def t1 (s : R8) (k w : Int) : Int := IntKind.u32.wrap (IntKind.u32.wrap (IntKind.u32.wrap (IntKind.u32.wrap (s.h + big1 s.e) + cho s.e s.f s.g) + k) + w)
def t2 (s : R8) : Int := IntKind.u32.wrap (big0 s.a + maj s.a s.b s.c)
/-- One round. -/
def rnd (s : R8) (k w : Int) : R8 := ⟨IntKind.u32.wrap (t1 s k w + t2 s), s.a, s.b, s.c, IntKind.u32.wrap (s.d + t1 s k w), s.e, s.f, s.g⟩
def rnds (x : Nat → Int) (s : R8) : Nat → R8
  | 0 => s
  | n + 1 => rnd (rnds x s n) (kWord n) (W x n)
def addS (s t : R8) : R8 := ⟨IntKind.u32.wrap (s.a + t.a), IntKind.u32.wrap (s.b + t.b), IntKind.u32.wrap (s.c + t.c), IntKind.u32.wrap (s.d + t.d), IntKind.u32.wrap (s.e + t.e), IntKind.u32.wrap (s.f + t.f), IntKind.u32.wrap (s.g + t.g), IntKind.u32.wrap (s.h + t.h)⟩
/-- A block, worked in. -/
def compress (s : R8) (x : Nat → Int) : R8 := addS s (rnds x s 64)
theorem rnd_in (s : R8) (h : s.In) (k w : Int) : (rnd s k w).In := ⟨in32_wrap _, h.a, h.b, h.c, in32_wrap _, h.e, h.f, h.g⟩
theorem rnds_in (x : Nat → Int) (s : R8) (h : s.In) : ∀ n, (rnds x s n).In
  | 0 => h
  | n + 1 => rnd_in _ (rnds_in x s h n) _ _
theorem compress_in (s : R8) (x : Nat → Int) : (compress s x).In := ⟨in32_wrap _, in32_wrap _, in32_wrap _, in32_wrap _, in32_wrap _, in32_wrap _, in32_wrap _, in32_wrap _⟩
theorem addS_nth (s t : R8) (i : Nat) : (addS s t).nth i = IntKind.u32.wrap (s.nth i + t.nth i) := by
  unfold R8.nth addS
  repeat' split
  all_goals rfl
/-- Words moved on by one, from place q + 1 on. -/
def moved (s : R8) (q i : Nat) : Int := if q < i then s.nth (i - 1) else s.nth i
theorem moved_0 (s : R8) (k w : Int) (i : Nat) (hi : i < 8) (h0 : i ≠ 0) (h4 : i ≠ 4) : moved s 0 i = (rnd s k w).nth i := by
  match i, hi, h0, h4 with
  | 1, _, _, _ => rfl
  | 2, _, _, _ => rfl
  | 3, _, _, _ => rfl
  | 5, _, _, _ => rfl
  | 6, _, _, _ => rfl
  | 7, _, _, _ => rfl
theorem moved_7 (s : R8) (i : Nat) (hi : i < 8) : s.nth i = moved s 7 i := by
  unfold moved; rw [if_neg (by omega)]
theorem moved_step (s : R8) (q i : Nat) (h : q + 1 ≠ i) : moved s (q + 1) i = moved s q i := by
  unfold moved
  by_cases e : q < i
  · rw [if_pos e, if_pos (by omega)]
  · rw [if_neg e, if_neg (by omega)]
theorem moved_at (s : R8) (q : Nat) : moved s q (q + 1) = s.nth q := by
  unfold moved; rw [if_pos (by omega)]; rfl
theorem moved_low (s : R8) (q i : Nat) (h : i ≤ q) : moved s q i = s.nth i := by
  unfold moved; rw [if_neg (by omega)]
end Go.Proofs.YtoopcmcmjaikhaaDoor.S

