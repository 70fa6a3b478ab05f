/- What the two tables of sha, laid as the rows list them, give to a walk: the cells of each variable. -/
import Derived.Test.YtoopcmcmjaikhaaDoorSLaid
import Derived.Test.YtoopcmcmjaikhaaDoorSEnd
set_option maxRecDepth 100000
namespace Go.Proofs.YtoopcmcmjaikhaaDoor.S
open Go.ChangeShapes Go.WideShapes Go.ChangeAt Go.RowKit

/-- What the rows over sha list. -/
def shaLaid : List (String × DataW Unit) := [("sporran/sha.startWords", Rows.laid_sporran_sha_startWords), ("sporran/sha.roundWords", Rows.laid_sporran_sha_roundWords)]
theorem gStart : Tryd.prog.globalNamed "sporran/sha.startWords" = some 1 := by kernel_rfl
theorem gRound : Tryd.prog.globalNamed "sporran/sha.roundWords" = some 2 := by kernel_rfl
theorem tStart : (Tryd.prog.globals[1]?).map (·.type) = some 133 := by kernel_rfl
theorem tRound : (Tryd.prog.globals[2]?).map (·.type) = some 159 := by kernel_rfl
theorem cU32 : Tryd.prog.cellsOf 26 = 1 := by kernel_rfl
theorem sha_door_met (os : Os) (args : Array Value) : laidMetH Tryd.prog shaLaid ((World.doorLaid Tryd.prog 400 os).forCall (fun _ _ => 0) ⟨#[], args, []⟩).memory :=
  laidMetH_of_parts3 (fuel := 8) (laidMet_of_run' 8 (by kernel_rfl) (by kernel_rfl)) (by kernel_rfl) (by kernel_rfl)
def startList : List Int := [1779033703, 3144134277, 1013904242, 2773480762, 1359893119, 2600822924, 528734635, 1541459225]
theorem roundList : (Rows.laid_sporran_sha_roundWords : DataW Unit) = .agg (kList.map fun z => .lit (.int .u32 z)) := by kernel_rfl
/-- The words of the start lie where they are laid. -/
def SLaid (w : World) : Prop := ∀ i, i < 8 → w.cell? ⟨1, i, none⟩ = some (rv H0 i)
theorem of_sha {W : World} (h : laidMetH Tryd.prog shaLaid W) : SLaid W ∧ KLaid W := by
  rw [MakeChecks.laidMetH_plain _ _ _ (by kernel_rfl)] at h
  obtain ⟨ps, ⟨g0, t0, cs0, f0, p0, q0, hg0, ht0, hv0, hd0, ⟨g1, t1, cs1, f1, p1, q1, hg1, ht1, hv1, hd1, _, _⟩, _⟩, _, _⟩ := h
  obtain rfl := Option.some.inj (gStart.symm.trans hg0)
  obtain rfl := Option.some.inj (tStart.symm.trans ht0)
  obtain rfl := Option.some.inj (gRound.symm.trans hg1)
  obtain rfl := Option.some.inj (tRound.symm.trans ht1)
  constructor
  · intro i hi
    have hd : DataW.trod _ Tryd.prog W 0 _ _ f0 133 cs0.toList = some (.agg (startList.map fun z => .lit (.int .u32 z)), p0) := hd0
    have hz : startList[i]? = some (startList.getD i 0) := by
      rw [List.getD_eq_getElem?_getD, List.getElem?_eq_getElem (by show i < 8; exact hi)]; rfl
    have h1 := ints_of_trod Tryd.underlying133 Tryd.underlying26 cU32 hd i _ hz
    rw [World.var?_cell hg0 hv0 i]
    have e : rv H0 i = .int .u32 (startList.getD i 0) := by
      match i, hi with
      | 0, _ => rfl
      | 1, _ => rfl
      | 2, _ => rfl
      | 3, _ => rfl
      | 4, _ => rfl
      | 5, _ => rfl
      | 6, _ => rfl
      | 7, _ => rfl
    rw [e]
    simpa using h1
  · intro i hi
    rw [roundList] at hd1
    have hz : kList[i]? = some (kWord i) := by
      unfold kWord
      rw [List.getD_eq_getElem?_getD, List.getElem?_eq_getElem (by show i < 64; exact hi)]; rfl
    have h1 := ints_of_trod Tryd.underlying159 Tryd.underlying26 cU32 hd1 i _ hz
    rw [World.var?_cell hg1 hv1 i]
    simpa using h1
end Go.Proofs.YtoopcmcmjaikhaaDoor.S

