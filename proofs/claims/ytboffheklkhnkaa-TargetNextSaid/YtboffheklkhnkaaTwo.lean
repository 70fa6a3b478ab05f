/- Two boxes and the result's block, as the walk lays them. -/
import Derived.Test.YtboffheklkhnkaaEnv
namespace Go.Proofs.Ytboffheklkhnkaa
open Go.RowKit Go.Lib
/-- The cells of a number that the walk reads one by one. -/
theorem env_cells {w0 w : World} {l : List (Nat × (Nat → Value))} (E : Env w0 l w) {b n : Nat} (h : (b, wl n) ∈ l) :
    w.cell? ⟨b, 0, none⟩ = some (.int .u64 ((limb n 0 : Nat) : Int)) ∧ w.cell? ⟨b, 1, none⟩ = some (.int .u64 ((limb n 1 : Nat) : Int)) ∧ w.cell? ⟨b, 2, none⟩ = some (.int .u64 ((limb n 2 : Nat) : Int)) ∧ w.cell? ⟨b, 3, none⟩ = some (.int .u64 ((limb n 3 : Nat) : Int)) :=
  ⟨(E.get h).cell 0 (by omega), (E.get h).cell 1 (by omega), (E.get h).cell 2 (by omega), (E.get h).cell 3 (by omega)⟩
/-- Two boxes, and the result's block. -/
theorem env_two (w : World) (a b : Nat) : Env w [(w.heap.size + 1 + 1, wl 0), (w.heap.size + 1, wl b), (w.heap.size, wl a)] (((w.alloc (.cells (arr 4 (wl a)) 24)).alloc (.cells (arr 4 (wl b)) 24)).alloc (.cells z4 24)) :=
  ((Env.box1 w (wl a)).next (b := w.heap.size + 1) (by simp) (wl b)).nextz (b := w.heap.size + 1 + 1) (by simp)
end Go.Proofs.Ytboffheklkhnkaa
