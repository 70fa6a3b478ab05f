/- The two tables of sha, as the rows list them: the door lays them. -/
import Derived.Test.YtlbbnaihhagfdaaDoorRows
import Derived.WalkKit
import Derived.ProofKit
import Derived.LaidMore
import Derived.OpenShut
import Derived.Stop.Joined
set_option maxRecDepth 100000
namespace Go.Proofs.YtlbbnaihhagfdaaDoor.S
open Go.ChangeShapes Go.WideShapes Go.ChangeAt Go.RowKit
/-- What the rows over sha list. -/
def shaLaid : List (String × DataW Unit) := [("sporran/sha.startWords", Rows.laid_sporran_sha_startWords), ("sporran/sha.roundWords", Rows.laid_sporran_sha_roundWords)]
theorem sha_door_met (os : Os) (args : Array Value) : laidMetH Tryd.prog shaLaid ((World.doorLaid Tryd.prog 400 os).forCall (fun _ _ => 0) ⟨#[], args, []⟩).memory :=
  laidMetH_of_parts3 (fuel := 8) (laidMet_of_run' 8 (by kernel_rfl) (by kernel_rfl)) (by kernel_rfl) (by kernel_rfl)
end Go.Proofs.YtlbbnaihhagfdaaDoor.S
