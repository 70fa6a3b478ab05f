/- The lemmas of Fvs that the sort has no part in. -/
import Derived.Test.YtoopcmcmjaikhaaDoorFm0
import Derived.Test.YtoopcmcmjaikhaaDoorIt
import Derived.Test.YtoopcmcmjaikhaaDoorRop
import Derived.Test.YtoopcmcmjaikhaaDoorLt2
set_option linter.unusedSimpArgs false
set_option linter.unusedVariables false
set_option maxRecDepth 100000
namespace Go.Proofs.YtoopcmcmjaikhaaDoor
open Go.ChangeShapes Go.WideShapes Go.ChangeAt Go.RowKit Go.Lib Go.Sort

theorem exec_eqE {o : Oper} {ev : Operand → Value} {W : World} {x y : Operand} {a : Int} (ho : o.op = .binOp .eql 33 x y 33) (hx : ev x = .int .i64 a) (hy : ev y = .int .i64 a) : (execOp ev o).run Tryd.prog W = .ok (.value (.bool true)) W := by
  unfold execOp
  simp [ho, hx, hy, go_sem, Tryd.underlying33]
theorem exec_eqB {o : Oper} {ev : Operand → Value} {W : World} {x y : Operand} {a : Bool} (ho : o.op = .binOp .eql 4 x y 4) (hx : ev x = .bool a) (hy : ev y = .bool a) : (execOp ev o).run Tryd.prog W = .ok (.value (.bool true)) W := by
  unfold execOp
  simp [ho, hx, hy, go_sem, Tryd.underlying4]
/-- The first ones. -/
theorem texts_take {w : World} {p : Option Addr} {c m : Nat} {ts : List (List Nat)} (A : TextsAt w (.slice p ts.length c) ts) (hm : m ≤ ts.length) : ∃ q, sliced p 0 m c 1 = .slice q m c ∧ m ≤ c ∧ TextsAt w (.slice q (ts.take m).length c) (ts.take m) := by
  obtain ⟨p2, g, o, c2, V, hv, hc, R, hi⟩ := A
  injection hv with e1 _ e3
  subst e1 e3
  have hl : (ts.take m).length = m := by rw [List.length_take]; omega
  obtain ⟨q, hq, R2⟩ := R.slice (l := 0) (h := m) (m := c) (by omega) hm (by have := R.le; omega) (Nat.le_refl _)
  refine ⟨q, by simpa using hq, by have := R.le; omega, q, g, o, c, V, rfl, by rw [hl]; omega, ?_, fun i h => ?_⟩
  · rw [hl]
    have R3 := R2.to (U := V) (fun i hi => by simp)
    simpa using R3
  · rw [List.getElem_take]
    exact hi i (by omega)
theorem exec_remU {o : Oper} {ev : Operand → Value} {W : World} {x y : Operand} {m q z : Nat} (ho : o.op = .binOp .rem 50 x y 50) (hx : ev x = .int .u64 (m : Int)) (hy : ev y = .int .u64 (q : Int)) (hq : 0 < q) (hz : m % q = z) (hm : q ≤ 1000000) : (execOp ev o).run Tryd.prog W = .ok (.value (.int .u64 (z : Int))) W := by
  have h0 : ¬ q = 0 := by omega
  have h1 : z < q := by rw [← hz]; exact Nat.mod_lt _ hq
  have e0 : (m : Int).tmod (q : Int) = (z : Int) := by rw [← hz]; rfl
  have e : IntKind.u64.wrap (z : Int) = (z : Int) := by rw [IntKind.wrap_u64]; omega
  unfold execOp
  simp [ho, hx, hy, go_sem, Tryd.underlying50, h0, e0, e]
theorem exec_eqBB {o : Oper} {ev : Operand → Value} {W : World} {x y : Operand} {a b : Bool} (ho : o.op = .binOp .eql 4 x y 4) (hx : ev x = .bool a) (hy : ev y = .bool b) (h : a = b) : (execOp ev o).run Tryd.prog W = .ok (.value (.bool true)) W := by
  subst h
  unfold execOp
  simp [ho, hx, hy, go_sem, Tryd.underlying4]
/-- A new list of one text. -/
theorem texts_one {w : World} {p : Option Addr} {B g c : Nat} {v : Value} {t : List Nat} (N : VOwn 32 1 B w p g 1 c (fun _ => v)) (hv : TextAt w v t) : TextsAt w (.slice p 1 c) [t] :=
  ⟨p, g, 0, c, fun _ => v, rfl, (by simp), N.row, fun i hi => by
    obtain rfl : i = 0 := by simp at hi; omega
    exact hv⟩
theorem once_any_len (ts : List (List Nat)) : (onceL ts).length ≤ ts.length := by
  rw [← onceJ_all]
  exact onceJ_le ts ts.length
theorem mem_stepO {acc : List (List Nat)} {t x : List Nat} : x ∈ stepO acc t ↔ x ∈ acc ∨ (x = t ∧ t.length ≠ 0) := by
  unfold stepO
  split
  · rename_i h
    constructor
    · exact .inl
    · rintro (q | ⟨rfl, q⟩)
      · exact q
      · rcases h with h | h
        · exact absurd h q
        · exact h
  · rename_i h
    rw [List.mem_append, List.mem_singleton]
    constructor
    · rintro (q | q)
      · exact .inl q
      · exact .inr ⟨q, fun e => h (.inl e)⟩
    · rintro (q | ⟨q, _⟩)
      · exact .inl q
      · exact .inr q
theorem mem_fold : ∀ (ts acc : List (List Nat)) {x : List Nat}, x ∈ ts.foldl stepO acc ↔ x ∈ acc ∨ (x ∈ ts ∧ x.length ≠ 0)
  | [], acc, x => by simp
  | t :: ts, acc, x => by
    rw [List.foldl_cons, mem_fold ts, mem_stepO, List.mem_cons]
    constructor
    · rintro ((h | ⟨rfl, h⟩) | ⟨h, k⟩)
      · exact .inl h
      · exact .inr ⟨.inl rfl, h⟩
      · exact .inr ⟨.inr h, k⟩
    · rintro (h | ⟨rfl | h, k⟩)
      · exact .inl (.inl h)
      · exact .inl (.inr ⟨rfl, k⟩)
      · exact .inr ⟨h, k⟩
theorem mem_once {ts : List (List Nat)} {x : List Nat} : x ∈ onceL ts ↔ x ∈ ts ∧ x.length ≠ 0 := by
  unfold onceL
  rw [mem_fold]
  simp
theorem bs_one1 (W : World) : (Instr.buildSlice 32 1 #[(0, .int .u8 1)]).run Tryd.prog W = .ok (.slice (some ⟨W.heap.size, 0, none⟩) 1 1) (W.alloc (.cells #[.int .u8 1] 5)) := by kernel_rfl
theorem row_o1 (w : World) : Row (w.alloc (.cells #[.int .u8 1] 5)) (some ⟨w.heap.size, 0, none⟩) w.heap.size 0 1 1 (lf [1]) :=
  ⟨by omega, by unfold maxLen; omega, fun e => (by cases e), fun _ => rfl, fun i hi => by
    obtain rfl : i = 0 := by omega
    exact cell_of_here (here_new w #[.int .u8 1] 5) 0 rfl, lf_lt fun x hx => by obtain rfl := List.mem_singleton.1 hx; omega⟩
theorem wpList_bs1 {ops : Array Oper} {rest : List Oper} {Q : Exit → Act → World → Prop} {op : Oper} {a : Act} {w : World} {parts : Array (Nat × Operand)} (hw : Region.wanted op (yielded ops a.tmps) = true) (ho : op.op = .buildSlice 32 1 parts) (hp : (parts.map fun (i, y) => (i, a.eval y)) = #[(0, .int .u8 1)])
    (k : ∀ p g w', Hid (Row w' p g 0 1 1 (lf [1])) → Hid (Below w.heap.size w w') → wpList Tryd.prog ops Q rest (a.put op.dst (.slice p 1 1)) w') : wpList Tryd.prog ops Q (op :: rest) a w :=
  BigFrame.wpList_want hw fun K hK => mo_known _ _ (exec_bsz ho hp (bs_one1 w)) (hK _ _ (k _ _ _ (Lib.hid (row_o1 w)) (Lib.hid (below_new w _))))
end Go.Proofs.YtoopcmcmjaikhaaDoor
