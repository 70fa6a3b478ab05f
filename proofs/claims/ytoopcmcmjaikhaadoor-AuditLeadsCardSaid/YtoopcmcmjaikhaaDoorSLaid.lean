/- What the two tables of sha and the four words of sip, laid as the rows list them, give to a walk: the cells of each variable. -/
import Derived.Test.YtoopcmcmjaikhaaDoorRows
import Derived.WalkKit
import Derived.ProofKit
import Derived.LaidMore
import Derived.OpenShut
import Derived.Stop.Joined
namespace Go.Proofs.YtoopcmcmjaikhaaDoor.S
open Go.ChangeShapes Go.WideShapes Go.ChangeAt Go.RowKit

theorem own : ownKnob Tryd.prog.godebug = none := by kernel_rfl
theorem laidOut : laidOutB Tryd.prog = true := by kernel_rfl

theorem ints_of_trod {H : Type} {enc : TypeId × Value → H} {w : World} {base : Nat} {spare : Nat → Bool} {held : Bool} {fuel n : Nat} {t e : TypeId} {k : IntKind} {cs : List Value} {p : List MemPlace} {ns : List Int}
    (ht : Tryd.prog.underlying t = some (.array n e)) (he : Tryd.prog.underlying e = some (.int k)) (hc : Tryd.prog.cellsOf e = 1)
    (h : DataW.trod enc Tryd.prog w base spare held fuel t cs = some (.agg (ns.map fun z => .lit (.int k z)), p)) (i : Nat) (z : Int) (hz : ns[i]? = some z) : cs[i]? = some (.int k z) := by
  obtain ⟨xs, m, rfl, hx, hlen, hn, hel⟩ := DataW.trod_array ht h
  simp only [Prod.mk.injEq, DataW.agg.injEq] at hx
  have h1 : (ns.map fun z => (DataW.lit (.int k z) : DataW H))[i]? = (xs.map (·.1))[i]? := by rw [hx.1]
  rw [List.getElem?_map, List.getElem?_map, hz] at h1
  rcases hxi : xs[i]? with _ | y
  · rw [hxi] at h1; simp at h1
  · rw [hxi] at h1
    have hi : i < n := by have := (List.getElem?_eq_some_iff.1 hxi).1; omega
    have h2 := hel i hi
    rw [hxi, hc] at h2
    obtain ⟨r, e1, e2, _⟩ := DataW.trod_int he h2
    rw [e2] at h1
    simp at h1
    subst h1
    have h3 : ((cs.drop (i * 1)).take 1)[0]? = some (.int k z) := by rw [e1]; rfl
    simpa using h3

end Go.Proofs.YtoopcmcmjaikhaaDoor.S

