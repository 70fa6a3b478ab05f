/- A writer's calls. -/
import Derived.Test.YtmjaimiehhgidaaWt
set_option linter.unusedSimpArgs false
set_option linter.unusedVariables false
set_option maxRecDepth 100000
namespace Go.Proofs.Ytmjaimiehhgidaa
open Go.RowKit Go.Lib Go.Sort

/-- A writer in block b. -/
structure Wtr (D w : World) (b bf bw : Nat) (l : List Bool) : Prop where
  box : w.heap[b]? = some (.cells #[.func (.func 22) #[] #[.pointer (some ⟨bf, 0, none⟩), .pointer (some ⟨bw, 0, none⟩)], .func (.func 23) #[] #[.pointer (some ⟨bw, 0, none⟩)]] 50 (0, 0))
  at' : WAt D w bf bw l
  len : l.length ≤ 1000000000000
/-- What a call of it leaves. -/
def WtPost (D w : World) (b bf bw : Nat) (l : List Bool) (r : Value) (e : Ending) (w' : World) : Prop := e = .returned r ∧ Wtr D w' b bf bw l ∧ Below D.heap.size w w' ∧ Kw w w'
section
variable {D w : World} {b bf bw : Nat} {l : List Bool}
theorem wmade_any (h : Wtr D w b bf bw l) : Calls Try.prog 25 #[.pointer (some ⟨b, 0, none⟩)] w fun e w' => e = .returned (.bool true) ∧ w = w' := by
  have c0 := cell_of_here h.box 0 (v := .func (.func 22) #[] #[.pointer (some ⟨bf, 0, none⟩), .pointer (some ⟨bw, 0, none⟩)]) rfl
  have q0 := run_nq_func
  clear h
  go_enter Try.func25, Try.ntmps25
  go_wp2
  go_ret
  exact ⟨rfl, rfl⟩
theorem Wtr.put (h : Wtr D w b bf bw l) {l' : List Bool} {w' : World} (k : WAt D w' bf bw l') (q : Kw w w') (hl : l'.length ≤ 1000000000000) : Wtr D w' b bf bw l' :=
  ⟨q.keep _ _ _ (by decide) (by decide) (by decide) h.box, k, hl⟩
set_option maxHeartbeats 2000000 in
theorem wbit_any (h : Wtr D w b bf bw l) (x : Bool) (hl : l.length + 1 ≤ 1000000000000) : Calls Try.prog 8 #[.pointer (some ⟨b, 0, none⟩), .bool x] w (WtPost D w b bf bw (l ++ [x]) (.int .i64 0)) := by
  have M := Lib.hid (wmade_any h)
  have c0 := cell_of_here h.box 0 (v := .func (.func 22) #[] #[.pointer (some ⟨bf, 0, none⟩), .pointer (some ⟨bw, 0, none⟩)]) rfl
  have P := Lib.hid (put_any h.at' x h.len)
  have H := Lib.hid (show ∀ w', WPost D w bf bw (l ++ [x]) (.tuple #[]) (.returned (.tuple #[])) w' → WtPost D w b bf bw (l ++ [x]) (.int .i64 0) (.returned (.int .i64 0)) w' from fun w' k => ⟨rfl, h.put k.2.1 k.2.2.2 (by simpa using hl), k.2.2.1, k.2.2.2⟩)
  clear h hl
  go_enter Try.func8, Try.ntmps8
  go_wp2_with (first
    | (go_at_call 25; refine M.out.mono ?_; rintro e w2 ⟨rfl, rfl⟩)
    | (go_at_call 22; refine P.out.mono ?_; intro e w3 hp; have HP := Lib.hid hp; obtain ⟨rfl, _⟩ := hp))
  go_ret
  exact H.out _ HP.out
end
end Go.Proofs.Ytmjaimiehhgidaa
