/- SHA-256 of any bytes as a plain function. Nothing of the program's run stands here. -/
import Derived.Test.YtghjgkgfpblijaaDoorSRefMix
import Derived.Test.YtghjgkgfpblijaaDoorSPadded
namespace Go.Proofs.YtghjgkgfpblijaaDoor.S
open Go.RowKit

def H0 : R8 := ⟨1779033703, 3144134277, 1013904242, 2773480762, 1359893119, 2600822924, 528734635, 1541459225⟩
theorem H0_in : H0.In := by constructor <;> exact ⟨by decide, by decide⟩
/-- The words behind so many blocks. -/
def mst (x : Nat → Int) : Nat → R8
  | 0 => H0
  | j + 1 => compress (mst x j) (fun i => x (64 * j + i))
theorem mst_in (x : Nat → Int) : ∀ j, (mst x j).In
  | 0 => H0_in
  | _ + 1 => compress_in _ _
/-- Words as bytes. -/
def digest (s : R8) : Nat → Value := fun i => .int .u8 (s.nth (i / 4) / 2 ^ (24 - 8 * (i % 4)) % 256)
def sha (x : Nat → Int) (n : Nat) : Nat → Value := digest (mst (padByte x n) ((ahead n + 8) / 64))
theorem pad_range (x : Nat → Int) (hx : ∀ i, 0 ≤ x i ∧ x i ≤ 255) (n i : Nat) : 0 ≤ padByte x n i ∧ padByte x n i ≤ 255 := by
  unfold padByte
  split
  · exact hx i
  · split
    · omega
    · split
      · omega
      · omega
/-- Eight words, written out. -/
def lit8 (s : R8) : Array Value := #[.int .u32 s.a, .int .u32 s.b, .int .u32 s.c, .int .u32 s.d, .int .u32 s.e, .int .u32 s.f, .int .u32 s.g, .int .u32 s.h]
theorem lit8_eq (s : R8) : arr 8 (rv s) = lit8 s := rfl
end Go.Proofs.YtghjgkgfpblijaaDoor.S
