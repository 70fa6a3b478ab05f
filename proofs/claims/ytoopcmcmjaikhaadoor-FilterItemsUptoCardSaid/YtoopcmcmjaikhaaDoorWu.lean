/- A writer's calls. -/
import Derived.Test.YtoopcmcmjaikhaaDoorWt
set_option linter.unusedSimpArgs false
set_option linter.unusedVariables false
set_option maxRecDepth 100000
namespace Go.Proofs.YtoopcmcmjaikhaaDoor
open Go.RowKit Go.Lib Go.Sort

/-- A writer in block b. -/
structure Wtr (D w : World) (b bf bw : Nat) (l : List Bool) : Prop where
  box : w.heap[b]? = some (.cells #[.func (.func 69) #[] #[.pointer (some ⟨bf, 0, none⟩), .pointer (some ⟨bw, 0, none⟩)], .func (.func 70) #[] #[.pointer (some ⟨bw, 0, none⟩)]] 111 (0, 0))
  at' : WAt D w bf bw l
  len : l.length ≤ 1000000000000
/-- What a call of it leaves. -/
def WtPost (D w : World) (b bf bw : Nat) (l : List Bool) (r : Value) (e : Ending) (w' : World) : Prop := e = .returned r ∧ Wtr D w' b bf bw l ∧ Below D.heap.size w w' ∧ Kw w w'
section
variable {D w : World} {b bf bw : Nat} {l : List Bool}
theorem wmade_any (h : Wtr D w b bf bw l) : Calls Tryd.prog 71 #[.pointer (some ⟨b, 0, none⟩)] w fun e w' => e = .returned (.bool true) ∧ w = w' := by
  have c0 := cell_of_here h.box 0 (v := .func (.func 69) #[] #[.pointer (some ⟨bf, 0, none⟩), .pointer (some ⟨bw, 0, none⟩)]) rfl
  have q0 := run_nq_func
  clear h
  go_enter Tryd.func71, Tryd.ntmps71
  go_wp2
  go_ret
  exact ⟨rfl, rfl⟩
theorem Wtr.put (h : Wtr D w b bf bw l) {l' : List Bool} {w' : World} (k : WAt D w' bf bw l') (q : Kw w w') (hl : l'.length ≤ 1000000000000) : Wtr D w' b bf bw l' :=
  ⟨q.keep _ _ _ (by decide) (by decide) (by decide) h.box, k, hl⟩
end
end Go.Proofs.YtoopcmcmjaikhaaDoor

