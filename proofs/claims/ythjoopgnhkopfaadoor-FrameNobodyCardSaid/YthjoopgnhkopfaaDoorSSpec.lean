/- SipHash-2-4 as plain functions on integers. Nothing of the program stands here. -/
import Derived.Test.YthjoopgnhkopfaaDoorRows
import Derived.WalkKit
namespace Go.Proofs.YthjoopgnhkopfaaDoor.S
open Go.RowKit

/-- A word turned left by n. -/
def rotl (x : Int) (n : Nat) : Int := bits .or .u64 (IntKind.u64.wrap (x * 2 ^ n)) (x / 2 ^ (64 - n))

/-- Four words as cells. -/
def W4 (a b c d : Int) : Array Value := #[.int .u64 a, .int .u64 b, .int .u64 c, .int .u64 d]

structure S4 where
  a : Int
  b : Int
  c : Int
  d : Int
def S4.cells (s : S4) : Array Value := W4 s.a s.b s.c s.d

def addLaw (x y : Int) : Int := IntKind.u64.wrap (x + y)
/-- The statements of a round, one by one. -/
def st0 (s : S4) : S4 := { s with a := IntKind.u64.wrap (s.a + s.b) }
def st1 (s : S4) : S4 := { s with b := bits .xor .u64 (rotl s.b 13) s.a }
def st2 (s : S4) : S4 := { s with a := rotl s.a 32 }
def st3 (s : S4) : S4 := { s with c := IntKind.u64.wrap (s.c + s.d) }
def st4 (s : S4) : S4 := { s with d := bits .xor .u64 (rotl s.d 16) s.c }
def st5 (s : S4) : S4 := { s with a := IntKind.u64.wrap (s.a + s.d) }
def st6 (s : S4) : S4 := { s with d := bits .xor .u64 (rotl s.d 21) s.a }
def st7 (s : S4) : S4 := { s with c := IntKind.u64.wrap (s.c + s.b) }
def st8 (s : S4) : S4 := { s with b := bits .xor .u64 (rotl s.b 17) s.c }
def st9 (s : S4) : S4 := { s with c := rotl s.c 32 }
def round (s : S4) : S4 := st9 (st8 (st7 (st6 (st5 (st4 (st3 (st2 (st1 (st0 s)))))))))
/-- So many rounds. -/
def rounds : Nat → S4 → S4
  | 0, s => s
  | n + 1, s => round (rounds n s)
/-- A word is worked in. -/
def mixed (s : S4) (m : Int) : S4 :=
  let t := rounds 2 { s with d := bits .xor .u64 s.d m }
  { t with a := bits .xor .u64 t.a m }
/-- A byte, set into a word at place i. -/
def setByte (m : Int) (i : Nat) (x : Int) : Int := bits .or .u64 m (IntKind.u64.wrap (x * 2 ^ (8 * i)))
end Go.Proofs.YthjoopgnhkopfaaDoor.S
