/- What the laws of addresses lean on: the address of a script that is known; the script of a kind. -/
import Derived.Test.YtghjgkgfpblijaaDoorB4
import Derived.Test.YtghjgkgfpblijaaDoorPs
import Derived.Test.YtghjgkgfpblijaaDoorZA
set_option linter.unusedSimpArgs false
set_option linter.unusedVariables false
set_option maxRecDepth 100000
namespace Go.Proofs.YtghjgkgfpblijaaDoor
open Go.ChangeShapes Go.WideShapes Go.RowKit Go.Lib Go.Sort

theorem atext_known {w : World} (L : Hid (S.Both w)) (PL : Hid (PLaid w)) (CL : Hid (S.CLaid w)) {p : Option Addr} {g o n c k : Nat} {r b : List Nat} (R : Hid (Row w p g o n c (lf r))) (hr : Hid (n = r.length)) (hn : n ≤ 140737488355328) (hc : Cls r k b) :
    Calls Tryd.prog 8 #[.slice p n c] w fun e w' => e = .returned (.tuple #[.string (tK k b).1, .int .i64 (tK k b).2]) ∧ Below w.heap.size w w' :=
  (atext_any L PL CL R hn).mono fun e w' h => by
    obtain ⟨⟨k2, b2, hc2, he⟩, hb⟩ := h
    rw [hr.out, tl_lf] at hc2
    obtain ⟨h1, h2⟩ := hc.same hc2
    subst h1 h2
    exact ⟨he, hb⟩
theorem make_known {w : World} (PL : PLaid w) {K : Int} {p : Option Addr} {g o n c : Nat} {x : Nat → Nat} (R : Hid (Row w p g o n c x)) (hn : n ≤ 140737488351232) {r : List Nat} (h : mkOf K (tl x n) = some r) :
    Calls Tryd.prog 15 #[.int .i64 K, .slice p n c] w fun e w' => ∃ p2 g2 c2, e = .returned (.tuple #[.slice p2 r.length c2, .bool true]) ∧ Row w' p2 g2 0 r.length c2 (lf r) ∧ Below w.heap.size w w' :=
  (make_any PL K R hn).mono fun e w' hE => by
    obtain ⟨r2, ok, p2, g2, c2, he, ho, hr, N, hb⟩ := hE
    rw [h] at ho hr
    subst ho
    obtain rfl : r = r2 := hr.symm
    exact ⟨p2, g2, c2, he, N, hb⟩
theorem mk_sizes {j : Nat} (hj : j < 5) {b : List Nat} (h : b.length = cC j) : mkOf ((j + 1 : Nat) : Int) b = some (hL j ++ b ++ tL j) ∧ Cls (hL j ++ b ++ tL j) (j + 1) b ∧ (hL j ++ b ++ tL j).length ≤ 60 := by
  have h1 : mkOf ((j + 1 : Nat) : Int) b = some (hL j ++ b ++ tL j) := mkOf_yes (by omega) rfl (by rw [cC_ok j hj]; simpa using h)
  refine ⟨h1, cls_mkA (by omega) h1, ?_⟩
  have h2 : (hL j).length ≤ 3 := by rw [← hB_bytes, bytL_length]; exact (hB_size j).2
  have h3 : (tL j).length ≤ 3 := by rw [← tB_bytes, bytL_length]; exact tB_size j
  simp only [List.length_append]
  have := cC_le j
  omega
theorem exec_eqE3 {o : Oper} {ev : Operand → Value} {W : World} {x y : Operand} {z z2 : Int} {q : Bool} (ho : o.op = .binOp .eql 23 x y 23) (hx : ev x = .int .i64 z) (hy : ev y = .int .i64 z2) (hq : decide (z = z2) = q) : (execOp ev o).run Tryd.prog W = .ok (.value (.bool q)) W := by
  subst hq
  unfold execOp
  by_cases h : z = z2
  · subst h
    simp [ho, hx, hy, go_sem, Tryd.underlying23]
  · simp [ho, hx, hy, go_sem, Tryd.underlying23, h]
theorem exec_eql3v {o : Oper} {ev : Operand → Value} {W : World} {x y : Operand} {a b : Nat} {q : Bool} (ho : o.op = .binOp .eql 3 x y 3) (hx : ev x = .int .i64 (a : Int)) (hy : ev y = .int .i64 (b : Int)) (hq : decide (a = b) = q) : (execOp ev o).run Tryd.prog W = .ok (.value (.bool q)) W := by
  subst hq
  unfold execOp
  by_cases h : a = b
  · subst h
    simp [ho, hx, hy, go_sem, Tryd.underlying3]
  · have h2 : ¬ ((a : Int) = (b : Int)) := by omega
    simp [ho, hx, hy, go_sem, Tryd.underlying3, h, h2]
theorem nth_of (a : Int) (n : Nat) (hn : 0 < n) (hn2 : n < 1000) : ∃ j : Nat, j < n ∧ IntKind.i64.wrap ((IntKind.u64.wrap a).tmod n) = (j : Int) := by
  have h2 : 0 ≤ (a % 18446744073709551616) % (n : Int) := Int.emod_nonneg _ (by omega)
  have h3 : (a % 18446744073709551616) % (n : Int) < n := Int.emod_lt_of_pos _ (by omega)
  refine ⟨((a % 18446744073709551616) % (n : Int)).toNat, by omega, ?_⟩
  rw [IntKind.wrap_u64, Int.tmod_eq_emod_of_nonneg (by omega), Int.toNat_of_nonneg h2, IntKind.wrap_i64]
  omega
end Go.Proofs.YtghjgkgfpblijaaDoor
