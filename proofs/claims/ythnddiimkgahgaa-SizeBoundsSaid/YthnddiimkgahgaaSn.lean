/- A count that was taken, in the words of a text's walk. -/
import Derived.Test.YthnddiimkgahgaaSl
import Derived.Test.YthnddiimkgahgaaOp
namespace Go.Proofs.Ythnddiimkgahgaa
open Go.RowKit Go.Lib

theorem took_split {w : World} {p : Option Addr} {g o n c : Nat} {x : Nat → Nat} (R : Hid (Row w p g o n c x)) (hd : Hid (dec n x = 0)) : Calls Try.prog 24 #[.slice p n c] w (Took w (val x) (n - wOf (x 0)) (fun i => x (wOf (x 0) + i))) :=
  (split_good R hd).mono fun _ _ ⟨p', h1, h2, h3⟩ => ⟨p', _, _, _, h1, h2, h3⟩
theorem took_dec {w : World} {p : Option Addr} {g o n c : Nat} {x : Nat → Nat} (R : Hid (Row w p g o n c x)) (hd : Hid (dec n x = 0)) (hn : n ≤ 140737488351232) : Calls Try.prog 13 #[.slice p n c] w (Took w (val x) (n - wOf (x 0)) (fun i => x (wOf (x 0) + i))) :=
  (ref_decode_good R hd hn).mono fun _ _ ⟨p', g', c', h1, h2, h3⟩ => ⟨p', g', 0, c', h1, h2, h3⟩
end Go.Proofs.Ythnddiimkgahgaa
