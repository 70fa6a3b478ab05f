/- What the two tables of sha and the four words of sip, laid as the rows list them, give to a walk: the cells of each variable. -/
import Derived.Test.YtbiobejfjhmccaaDoorRows
import Derived.WalkKit
import Derived.ProofKit
import Derived.LaidMore
import Derived.OpenShut
import Derived.Stop.Joined
namespace Go.Proofs.YtbiobejfjhmccaaDoor
open Go.ChangeShapes Go.WideShapes Go.ChangeAt Go.RowKit

theorem own : ownKnob Tryd.prog.godebug = none := by kernel_rfl
theorem laidOut : laidOutB Tryd.prog = true := by kernel_rfl

theorem ints_of_trod {H : Type} {enc : TypeId × Value → H} {w : World} {base : Nat} {spare : Nat → Bool} {held : Bool} {fuel n : Nat} {t e : TypeId} {k : IntKind} {cs : List Value} {p : List MemPlace} {ns : List Int}
    (ht : Tryd.prog.underlying t = some (.array n e)) (he : Tryd.prog.underlying e = some (.int k)) (hc : Tryd.prog.cellsOf e = 1)
    (h : DataW.trod enc Tryd.prog w base spare held fuel t cs = some (.agg (ns.map fun z => .lit (.int k z)), p)) (i : Nat) (z : Int) (hz : ns[i]? = some z) : cs[i]? = some (.int k z) := by
  obtain ⟨xs, m, rfl, hx, hlen, hn, hel⟩ := DataW.trod_array ht h
  simp only [Prod.mk.injEq, DataW.agg.injEq] at hx
  have h1 : (ns.map fun z => (DataW.lit (.int k z) : DataW H))[i]? = (xs.map (·.1))[i]? := by rw [hx.1]
  rw [List.getElem?_map, List.getElem?_map, hz] at h1
  rcases hxi : xs[i]? with _ | y
  · rw [hxi] at h1; simp at h1
  · rw [hxi] at h1
    have hi : i < n := by have := (List.getElem?_eq_some_iff.1 hxi).1; omega
    have h2 := hel i hi
    rw [hxi, hc] at h2
    obtain ⟨r, e1, e2, _⟩ := DataW.trod_int he h2
    rw [e2] at h1
    simp at h1
    subst h1
    have h3 : ((cs.drop (i * 1)).take 1)[0]? = some (.int k z) := by rw [e1]; rfl
    simpa using h3

/-- What the rows over sip list. -/
def sipLaid : List (String × DataW Unit) := [("sporran/sip.startWords", Rows.laid_sporran_sip_startWords)]
theorem gSip : Tryd.prog.globalNamed "sporran/sip.startWords" = some 1 := by kernel_rfl
theorem tSip : (Tryd.prog.globals[1]?).map (·.type) = some 51 := by kernel_rfl
theorem c42 : Tryd.prog.cellsOf 42 = 1 := by kernel_rfl
theorem sip_door_met (os : Os) (args : Array Value) : laidMetH Tryd.prog sipLaid ((World.doorLaid Tryd.prog 400 os).forCall (fun _ _ => 0) ⟨#[], args, []⟩).memory :=
  laidMetH_of_parts3 (fuel := 8) (laidMet_of_run' 8 (by kernel_rfl) (by kernel_rfl)) (by kernel_rfl) (by kernel_rfl)
def sipWords : List Int := [8317987319222330741, 7237128888997146477, 7816392313619706465, 8387220255154660723]
theorem of_sip {W : World} (h : laidMetH Tryd.prog sipLaid W) (i : Nat) (z : Int) (hz : sipWords[i]? = some z) : W.cell? ⟨1, i, none⟩ = some (.int .u64 z) := by
  rw [MakeChecks.laidMetH_plain _ _ _ (by kernel_rfl)] at h
  obtain ⟨ps, ⟨g0, t0, cs0, f0, p0, q0, hg0, ht0, hv0, hd0, _, _⟩, _, _⟩ := h
  obtain rfl := Option.some.inj (gSip.symm.trans hg0)
  obtain rfl := Option.some.inj (tSip.symm.trans ht0)
  have hd : DataW.trod _ Tryd.prog W 0 _ _ f0 51 cs0.toList = some (.agg (sipWords.map fun z => .lit (.int .u64 z)), p0) := hd0
  have h1 := ints_of_trod Tryd.underlying51 Tryd.underlying42 c42 hd i z hz
  rw [World.var?_cell hg0 hv0 i]
  simpa using h1
end Go.Proofs.YtbiobejfjhmccaaDoor
