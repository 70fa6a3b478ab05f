/- A text read: the four ways. -/
import Derived.Test.YthnddiimkgahgaaSn
namespace Go.Proofs.Ythnddiimkgahgaa
open Go.RowKit Go.Lib

theorem lim_of {most : Int} (h : (Lit.int .i64 most).wf = true) : ∃ lim : Nat, (if most < 0 then 0 else most) = ((lim : Nat) : Int) ∧ ((lim : Nat) : Int) ≤ 9223372036854775807 ∧ lim = (max most 0).toNat := by
  have := int_range h
  by_cases h0 : most < 0
  · exact ⟨0, by rw [if_pos h0]; rfl, by omega, by omega⟩
  · exact ⟨most.toNat, by rw [if_neg h0]; omega, by omega, by omega⟩
section
variable {w : World} {p : Option Addr} {g o n c : Nat} {x : Nat → Nat} {most : Int}
theorem read_bad {k : Nat} (R : Hid (Row w p g o n c x)) (hd : Hid (dec n x = k)) (hk : k ≠ 0) : Calls Try.prog 17 #[.slice p n c, .int .i64 most] w (ReadBad w k) :=
  read_bad_walk (Lib.hid (split_bad R hd (Lib.hid hk))) (by simp; omega)
theorem rread_bad {k : Nat} (R : Hid (Row w p g o n c x)) (hd : Hid (dec n x = k)) (hk : k ≠ 0) (hn : n ≤ 140737488351232) : Calls Try.prog 18 #[.slice p n c, .int .i64 most] w (ReadBad w k) :=
  rread_bad_walk (Lib.hid (ref_decode_bad R hd hk hn)) (by simp; omega)
structure Lim (most : Int) (lim : Nat) : Prop where
  is : (if most < 0 then 0 else most) = ((lim : Nat) : Int)
  le : ((lim : Nat) : Int) ≤ 9223372036854775807
theorem read_full {lim : Nat} (R : Hid (Row w p g o n c x)) (hd : Hid (dec n x = 0)) (hn : n ≤ 140737488355328) (L : Hid (Lim most lim)) (t : lim < val x) : Calls Try.prog 17 #[.slice p n c, .int .i64 most] w (ReadBad w 4) :=
  read_full_walk (Lib.hid (took_split R hd)) L.out.is L.out.le (by omega) t
theorem rread_full {lim : Nat} (R : Hid (Row w p g o n c x)) (hd : Hid (dec n x = 0)) (hn : n ≤ 140737488351232) (L : Hid (Lim most lim)) (t : lim < val x) : Calls Try.prog 18 #[.slice p n c, .int .i64 most] w (ReadBad w 4) :=
  rread_full_walk (Lib.hid (took_dec R hd hn)) L.out.is L.out.le (by omega) t
theorem read_short {lim : Nat} (R : Hid (Row w p g o n c x)) (hd : Hid (dec n x = 0)) (hn : n ≤ 140737488355328) (L : Hid (Lim most lim)) (t : ¬ lim < val x) (t2 : n - wOf (x 0) < val x) : Calls Try.prog 17 #[.slice p n c, .int .i64 most] w (ReadBad w 50) :=
  read_short_walk (Lib.hid (took_split R hd)) L.out.is L.out.le (by omega) t t2
theorem rread_short {lim : Nat} (R : Hid (Row w p g o n c x)) (hd : Hid (dec n x = 0)) (hn : n ≤ 140737488351232) (L : Hid (Lim most lim)) (t : ¬ lim < val x) (t2 : n - wOf (x 0) < val x) : Calls Try.prog 18 #[.slice p n c, .int .i64 most] w (ReadBad w 50) :=
  rread_short_walk (Lib.hid (took_dec R hd hn)) L.out.is L.out.le (by omega) t t2
theorem read_ok {lim : Nat} (R : Hid (Row w p g o n c x)) (hd : Hid (dec n x = 0)) (hn : n ≤ 140737488355328) (L : Hid (Lim most lim)) (t : ¬ lim < val x) (t2 : ¬ n - wOf (x 0) < val x) : Calls Try.prog 17 #[.slice p n c, .int .i64 most] w (ReadGood w (val x) (n - wOf (x 0)) (fun i => x (wOf (x 0) + i))) :=
  read_ok_walk (Lib.hid (took_split R hd)) L.out.is L.out.le (by omega) t t2
theorem rread_ok {lim : Nat} (R : Hid (Row w p g o n c x)) (hd : Hid (dec n x = 0)) (hn : n ≤ 140737488351232) (L : Hid (Lim most lim)) (t : ¬ lim < val x) (t2 : ¬ n - wOf (x 0) < val x) : Calls Try.prog 18 #[.slice p n c, .int .i64 most] w (ReadGood w (val x) (n - wOf (x 0)) (fun i => x (wOf (x 0) + i))) :=
  rread_ok_walk (Lib.hid (took_dec R hd hn)) L.out.is L.out.le (by omega) t t2
end
end Go.Proofs.Ythnddiimkgahgaa
