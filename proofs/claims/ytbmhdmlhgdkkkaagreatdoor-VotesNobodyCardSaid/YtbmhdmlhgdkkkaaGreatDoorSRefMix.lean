/- The document's mix: of eight words and a block of 64 bytes it returns SHA-256's eight words behind that block; what lay in memory stays. -/
import Derived.Test.YtbmhdmlhgdkkkaaGreatDoorSA8
import Derived.Lib.QuietBelow
set_option maxRecDepth 100000
namespace Go.Proofs.YtbmhdmlhgdkkkaaGreatDoor.S
open Go.RowKit Go.Lib Go.Sort
attribute [local go_sem ↓] Go.wp_at_zero Go.wp_at_succ

def rv (s : R8) : Nat → Value := fun i => .int .u32 (s.nth i)

/-- The 64 words of a block as cells; noughts. -/
def wv (x : Nat → Int) : Nat → Value := fun i => .int .u32 (W x i)
def zv : Nat → Value := fun _ => .int .u32 0

end Go.Proofs.YtbmhdmlhgdkkkaaGreatDoor.S

