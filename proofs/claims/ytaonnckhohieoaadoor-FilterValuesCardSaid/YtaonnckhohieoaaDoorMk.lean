/- An append, and what of other kinds lies in memory. -/
import Derived.Test.YtaonnckhohieoaaDoorMo
set_option linter.unusedSimpArgs false
set_option maxRecDepth 100000
namespace Go.Proofs.YtaonnckhohieoaaDoor
open Go.RowKit Go.Lib

/-- Blocks of cells of another type than bytes are as they were. -/
def Keeps (w w' : World) : Prop := ∀ (k : Nat) (c : Array Value) (T : TypeId), T ≠ 5 → w.heap[k]? = some (.cells c T (0, 0)) → w'.heap[k]? = some (.cells c T (0, 0))
section
variable {Q : Exit → Act → World → Prop} {op : Oper} {a : Act} {w : World} {K : Act → World → Prop}
/-- An append to a slice of the call's own. -/
theorem mo_appk (s t : Operand) (ho : op.op = .call { callee := .builtin .append, args := #[s, t], argTypes := #[22, 22] }) {B g n c : Nat} {p : Option Addr} {x : Nat → Nat} (hs : a.eval s = .slice p n c) (N : Hid (Own B w p g n c x))
    {q : Option Addr} {h o m d : Nat} {y : Nat → Nat} (ht : a.eval t = .slice q m d) (R : Hid (Row w q h o m d y)) (hlen : n + m ≤ 140737488355328)
    (k : ∀ p' g' c' w', Hid (Own B w' p' g' (n + m) c' (cat x n y)) → Hid (Below B w w') → Hid (Keeps w w') → K (a.put op.dst (.slice p' (n + m) c')) w') : op.wp Tryd.prog a w K Q := by
  obtain ⟨i0, hi, hz0, hz1, hz2⟩ := info_parts infoB
  cases q with
  | none =>
    obtain ⟨rfl, rfl⟩ := R.out.nil rfl
    have hrun := run_append_owned_none (P := Tryd.prog) (w := w) B 22 op.type 5 i0 1 Tryd.underlying22 hi _ n _ N.out.own
    refine mo_known (.slice p n c) w ?_ (k p g c w (Lib.hid (N.out.to (fun i hi => by unfold cat; rw [if_pos hi]) (cat_byte n N.out.byte R.out.byte))) (Lib.hid (Below.refl _ _)) (Lib.hid fun _ _ _ _ h => h))
    simp [execOp, ho, resolve, invoke, builtin, hs, ht, hrun, Result.andThen]
  | some ad =>
    refine wp_append_own (P := Tryd.prog) w s t 22 ho B 5 i0 (.int .u8 0) 1 1 Tryd.underlying22 hi hz0 hz1 hz2 rfl (by decide) _ _ _ hs N.out.own ad m d (fbs y m) ht (by rw [fbs_length]; omega) ?_ (fbs_one y m) (by unfold maxLen; omega) (by omega) N.out.low ?_
    · intro j u hu
      obtain ⟨hj, rfl⟩ := fbs_get _ _ _ _ hu
      obtain rfl := Option.some.inj (R.out.head (by omega))
      rw [row_add]
      exact R.out.cell j hj
    · intro v' w' hown hgrow hnil
      rw [fbs_cat] at hown
      have hb : Below B w w' := (Below.refl _ _).grown hgrow N.out.low fun k hk => (World.ownsRow.lt N.out.own k hk).1
      obtain ⟨p', g', c', rfl, N'⟩ := own_of hown (cat_byte n N.out.byte R.out.byte) (Nat.le_trans N.out.low hb.size)
      refine k p' g' c' w' (Lib.hid N') (Lib.hid hb) (Lib.hid fun q cc T hT hq => ?_)
      rw [hgrow.block q (heap_lt hq) (fun e => ?_)]
      · exact hq
      · obtain ⟨_, h1⟩ := N.out.own
        rcases h1 with ⟨h1, _⟩ | ⟨g1, cap, cur, h1, _, h3, _⟩
        · rw [h1] at e; cases e
        · rw [h1] at e
          have e2 : q = g1 := by simpa [Value.ownBlock] using e
          rw [e2, h3] at hq
          injection hq with hq
          injection hq with _ hq _
          exact hT hq.symm
end
section
variable {ops : Array Oper} {rest : List Oper} {Q : Exit → Act → World → Prop} {op : Oper} {a : Act} {w : World}
theorem wpList_appk (hw : Region.wanted op (yielded ops a.tmps) = true) (s t : Operand) (ho : op.op = .call { callee := .builtin .append, args := #[s, t], argTypes := #[22, 22] }) {B g n c : Nat} {p : Option Addr} {x : Nat → Nat} (hs : a.eval s = .slice p n c) (N : Hid (Own B w p g n c x))
    {q : Option Addr} {h o m d : Nat} {y : Nat → Nat} (ht : a.eval t = .slice q m d) (R : Hid (Row w q h o m d y)) (hlen : n + m ≤ 140737488355328)
    (k : ∀ p' g' c' w', Hid (Own B w' p' g' (n + m) c' (cat x n y)) → Hid (Below B w w') → Hid (Keeps w w') → wpList Tryd.prog ops Q rest (a.put op.dst (.slice p' (n + m) c')) w') : wpList Tryd.prog ops Q (op :: rest) a w :=
  BigFrame.wpList_want hw fun _ hK => mo_appk s t ho hs N ht R hlen fun p' g' c' w' N' hb kp => hK _ _ (k p' g' c' w' N' hb kp)
end
theorem Keeps.below {w w' : World} (h : Below w.heap.size w w') : Keeps w w' := fun _ _ _ _ hk => by rw [h.block _ (heap_lt hk)]; exact hk
end Go.Proofs.YtaonnckhohieoaaDoor

