/- A tape of the document: what lies in memory; its calls. -/
import Derived.Test.YtlbbnaihhagfdaaTz8
import Derived.Test.YtlbbnaihhagfdaaBs
set_option linter.unusedSimpArgs false
set_option linter.unusedVariables false
set_option maxRecDepth 100000
namespace Go.Proofs.Ytlbbnaihhagfdaa
open Go.RowKit Go.Lib Go.Sort

set_option maxHeartbeats 8000000
/-- A document's tape, whatever its first field holds, and a row of bytes of the call's own. -/
def Xq (D : World) (bx : Nat) (v : Value) (s r u : Int) (p : Option Addr) (g c : Nat) (xs : List Nat) (w : World) : Prop :=
  Wb D [(bx, 61, #[v, .int .i64 s, .int .i64 r, .int .i64 u])] p g c xs w
abbrev Xp (D : World) (bx : Nat) (s r u : Int) (p : Option Addr) (g c : Nat) (xs : List Nat) (w : World) : Prop := Xq D bx (.slice p xs.length c) s r u p g c xs w
def XTurns (D : World) (bx : Nat) (s r u : Int) (xs : List Nat) (w w' : World) : Prop := ∃ p' g' c', Xp D bx s r u p' g' c' xs w' ∧ Fr bx none w w' ∧ (∀ k, ob p' = some k → w.heap.size ≤ k)
/-- A call that makes a document's tape. -/
def XMakes (s r u : Int) (xs : List Nat) (w : World) (v : Value) (w' : World) : Prop := ∃ bx p g c, v = .pointer (some ⟨bx, 0, none⟩) ∧ Xp w bx s r u p g c xs w' ∧ Below w.heap.size w w'
section
variable {D w w' : World} {bx : Nat} {v z : Value} {s r u x : Int} {p : Option Addr} {g c : Nat} {xs : List Nat}
theorem Xq.cX (T : Xq D bx v s r u p g c xs w) : w.heap[bx]? = some (.cells #[v, .int .i64 s, .int .i64 r, .int .i64 u] 61 (0, 0)) := T.mem.get List.mem_cons_self
theorem Xq.drew (T : Xq D bx v s r u p g c xs w) : Xq D bx v s r u p g c xs w.drew := Wb.drew T
theorem Xq.call (T : Xq D bx v s r u p g c xs w) (h : Below w.heap.size w w') : Xq D bx v s r u p g c xs w' := Wb.call T h
theorem Xq.set0 (T : Xq D bx v s r u p g c xs w) : Xq D bx z s r u p g c xs (w.setCell ⟨bx, 0, none⟩ z) := Wb.setc T (i := 0) rfl rfl
theorem Xq.set1 (T : Xq D bx v s r u p g c xs w) : Xq D bx v x r u p g c xs (w.setCell ⟨bx, 1, none⟩ (.int .i64 x)) := Wb.setc T (i := 0) rfl rfl
theorem Xq.set2 (T : Xq D bx v s r u p g c xs w) : Xq D bx v s x u p g c xs (w.setCell ⟨bx, 2, none⟩ (.int .i64 x)) := Wb.setc T (i := 0) rfl rfl
theorem Xq.set3 (T : Xq D bx v s r u p g c xs w) : Xq D bx v s r x p g c xs (w.setCell ⟨bx, 3, none⟩ (.int .i64 x)) := Wb.setc T (i := 0) rfl rfl
theorem Xq.row (T : Xq D bx v s r u p g c xs w) : Row w p g 0 xs.length c (lf xs) := T.own.row
theorem Xq.fresh {p' : Option Addr} {g' c' : Nat} {zs : List Nat} (T : Xq D bx v s r u p g c xs w) (N : Own w.heap.size w' p' g' zs.length c' (lf zs)) (hb : Below w.heap.size w w') : Xq D bx v s r u p' g' c' zs w' ∧ (∀ k, ob p' = some k → w.heap.size ≤ k) :=
  ⟨⟨T.mem.call hb, N.mono T.mem.below.size, T.nb⟩, fun j e => (World.ownsRow.lt N.own j (by rw [ob_own]; exact e)).1⟩
theorem Xq.mono {E : World} (T : Xq D bx v s r u p g c xs w) (h : Below E.heap.size E D) : Xq E bx v s r u p g c xs w :=
  ⟨⟨h.trans (T.mem.below.mono h.size), T.mem.has, T.mem.nd, fun q hq => Nat.le_trans h.size (T.mem.ge q hq)⟩, T.own.mono h.size, T.nb⟩
theorem Xq.lies (T : Xq D bx v s r u p g c xs w) : ∀ j, ob p = some j → D.heap.size ≤ j ∧ j < w.heap.size := fun j e => World.ownsRow.lt T.own.own j (by rw [ob_own]; exact e)
theorem Xq.geb (T : Xq D bx v s r u p g c xs w) : D.heap.size ≤ bx := T.mem.ge _ List.mem_cons_self
theorem Xq.under0 (T : Xq D bx v s r u p g c xs w) : Below D.heap.size D w := T.mem.below
/-- The fuse of the document's tape still burns. -/
def xok (u : Int) : Bool := decide (u ≠ 0)
def xk (u : Int) : Int := if 0 < u then u - 1 else u
theorem run_nothing (w : World) : (Instr.buildSlice 22 0 #[]).run Try.prog w = .ok (.slice (some ⟨w.heap.size, 0, none⟩) 0 0) (w.alloc (.cells #[] 5)) := run_bs0 Try.underlying22 infoB w
theorem Wb.fresh0 (w : World) : Wb w [] (some ⟨w.heap.size, 0, Option.none⟩) w.heap.size 0 [] (w.alloc (.cells #[] 5)) :=
  ⟨(Mem.nil w).call (below_new w _), own_start w (lf []) (lf_lt isB_nil), fun q hq => by cases hq⟩
end
section
variable {ops : Array Oper} {rest : List Oper} {Q : Exit → Act → World → Prop} {op : Oper} {a : Act} {w : World} {K : Act → World → Prop}
/-- A slice without elements, in a new block. -/
theorem mo_bs0 (parts : Array (Nat × Operand)) (ho : op.op = .buildSlice 22 0 parts) (hp : (parts.map fun (i, y) => (i, a.eval y)) = #[]) (k : ∀ p g c w', Hid (Wb w [] p g c [] w') → K (a.put op.dst (.slice p 0 c)) w') : op.wp Try.prog a w K Q := by
  refine mo_known _ _ ?_ (k _ _ _ _ (Lib.hid (Wb.fresh0 w)))
  unfold execOp
  simp only [ho, hp, Sem.run_bind, run_nothing w, Result.andThen_ok]
  rfl
theorem wpList_bs0 (hw : Region.wanted op (yielded ops a.tmps) = true) (parts : Array (Nat × Operand)) (ho : op.op = .buildSlice 22 0 parts) (hp : (parts.map fun (i, y) => (i, a.eval y)) = #[]) (k : ∀ p g c w', Hid (Wb w [] p g c [] w') → wpList Try.prog ops Q rest (a.put op.dst (.slice p 0 c)) w') : wpList Try.prog ops Q (op :: rest) a w :=
  BigFrame.wpList_want hw fun _ hK => mo_bs0 parts ho hp fun p g c w' h => hK _ _ (k p g c w' h)
end
section
variable {D w : World} {bx : Nat} {v : Value} {s r u : Int} {p : Option Addr} {g c : Nat} {xs : List Nat} {q : Option Addr} {h o m d : Nat} {y : Nat → Nat}
theorem xburn_any (T : Hid (Xq D bx v s r u p g c xs w)) (hu : -1 ≤ u ∧ u ≤ 9223372036854775807) : Calls Try.prog 34 #[.pointer (some ⟨bx, 0, none⟩)] w fun e w' => e = .returned (.bool (xok u)) ∧ Xq D bx v s r (xk u) p g c xs w' ∧ Fr bx none w w' := by
  have d3 := cell_of_here T.out.cX 3 (v := .int .i64 u) rfl
  by_cases h0 : u = 0
  · subst h0
    go_enter Try.func34, Try.ntmps34
    go_wp2
    go_ret
    exact ⟨rfl, T.out, Fr.refl _ _ _⟩
  · have e1 : xok u = true := by simp [xok, h0]
    rw [e1]
    clear e1
    by_cases h1 : 0 < u
    · have e2 : xk u = u - 1 := by simp [xk, h1]
      rw [e2]
      clear e2
      have W1 : IntKind.i64.wrap (u - 1) = u - 1 := IntWalk.i64_in _ (by omega)
      go_enter Try.func34, Try.ntmps34
      go_wp2_with (first
        | ((with_reducible refine wpList_atn rfl ?_); refine wpList_setc (v := .int .i64 (u - 1)) T.out.cX rfl 3 (.tmp 19) (.tmp 17) rfl rfl rfl (by kernel_rfl) rfl rfl rfl ?_))
      go_ret
      exact ⟨rfl, T.out.set3, (Fr.refl _ _ _).set _ _⟩
    · have e2 : xk u = u := by simp [xk, h1]
      rw [e2]
      clear e2
      go_enter Try.func34, Try.ntmps34
      go_wp2
      go_ret
      exact ⟨rfl, T.out, Fr.refl _ _ _⟩
theorem xsync_dead (T : Hid (Xq D bx v s r u p g c xs w)) (hu : -1 ≤ u ∧ u ≤ 9223372036854775807) (ho : xok u = false) : Calls Try.prog 28 #[.pointer (some ⟨bx, 0, none⟩)] w fun e w' => e = .returned (.int .i64 150) ∧ Xq D bx v s r (xk u) p g c xs w' ∧ Fr bx none w w' := by
  have HU := Lib.hid hu
  have HO := Lib.hid ho
  clear hu ho
  go_enter Try.func28, Try.ntmps28
  go_wp2_with (go_at_call 34; refine (xburn_any T HU.out).mono ?_; rintro e w2 ⟨rfl, hT, hF⟩; rw [HO.out]; have T2 := Lib.hid hT; have F2 := Lib.hid hF; clear hT hF)
  go_ret
  exact ⟨rfl, T2.out, F2.out⟩
theorem xsync_ok (T : Hid (Xp D bx s r u p g c xs w)) (hu : -1 ≤ u ∧ u ≤ 9223372036854775807) (ho : xok u = true) : Calls Try.prog 28 #[.pointer (some ⟨bx, 0, none⟩)] w fun e w' => e = .returned (.int .i64 0) ∧ Xp D bx xs.length r (xk u) p g c xs w' ∧ Fr bx none w w' := by
  have HU := Lib.hid hu
  have HO := Lib.hid ho
  clear hu ho
  go_enter Try.func28, Try.ntmps28
  go_wp2_with (first
    | (go_at_call 34; refine (xburn_any T HU.out).mono ?_; rintro e w2 ⟨rfl, hT, hF⟩; rw [HO.out]; have T2 := Lib.hid hT; have F2 := Lib.hid hF; have d0 := cell_of_here hT.cX 0 (v := .slice p xs.length c) rfl; clear hT hF)
    | ((with_reducible refine wpList_atn rfl ?_); refine wpList_setc (v := .int .i64 xs.length) T2.out.cX rfl 3 (.tmp 13) (.tmp 11) rfl rfl rfl (by kernel_rfl) rfl rfl rfl ?_))
  go_ret
  exact ⟨rfl, T2.out.set1, F2.out.set _ _⟩
theorem xfuse_bad (n : Int) (hn : n < 0) (a : Value) : Calls Try.prog 30 #[a, .int .i64 n] w fun e w' => e = .returned (.int .i64 1) ∧ w = w' := by
  go_enter Try.func30, Try.ntmps30
  go_wp2
  go_ret
  exact ⟨rfl, rfl⟩
theorem xfuse_ok (T : Hid (Xp D bx s r u p g c xs w)) (n : Int) (hn : 0 ≤ n) : Calls Try.prog 30 #[.pointer (some ⟨bx, 0, none⟩), .int .i64 n] w fun e w' => e = .returned (.int .i64 0) ∧ Xp D bx s r n p g c xs w' ∧ Fr bx none w w' := by
  have h1 : ¬ (n < 0) := by omega
  clear hn
  go_enter Try.func30, Try.ntmps30
  go_wp2_with (first
    | ((with_reducible refine wpList_atn rfl ?_); refine wpList_setc (v := .int .i64 n) T.out.cX rfl 3 (.tmp 10) (.tmp 8) rfl rfl rfl (by kernel_rfl) rfl rfl rfl ?_))
  go_ret
  exact ⟨rfl, T.out.set3, (Fr.refl _ _ _).set _ _⟩
theorem xroom_bad (n : Int) (hn : ¬ (0 ≤ n ∧ n ≤ 16777216)) (a : Value) : Calls Try.prog 31 #[a, .int .i64 n] w fun e w' => e = .returned (.int .i64 1) ∧ w = w' := by
  by_cases h1 : n < 0
  · clear hn
    go_enter Try.func31, Try.ntmps31
    go_wp2
    go_ret
    exact ⟨rfl, rfl⟩
  · have h2 : (16777216 : Int) < n := by omega
    clear hn
    go_enter Try.func31, Try.ntmps31
    go_wp2
    go_ret
    exact ⟨rfl, rfl⟩
theorem xroom_ok (T : Hid (Xp D bx s r u p g c xs w)) (n : Int) (hn : 0 ≤ n ∧ n ≤ 16777216) : Calls Try.prog 31 #[.pointer (some ⟨bx, 0, none⟩), .int .i64 n] w fun e w' => e = .returned (.int .i64 0) ∧ Xp D bx s n u p g c xs w' ∧ Fr bx none w w' := by
  have h1 : ¬ (n < 0) := by omega
  have h2 : ¬ ((16777216 : Int) < n) := by omega
  clear hn
  go_enter Try.func31, Try.ntmps31
  go_wp2_with (first
    | ((with_reducible refine wpList_atn rfl ?_); refine wpList_setc (v := .int .i64 n) T.out.cX rfl 3 (.tmp 14) (.tmp 12) rfl rfl rfl (by kernel_rfl) rfl rfl rfl ?_))
  go_ret
  exact ⟨rfl, T.out.set2, (Fr.refl _ _ _).set _ _⟩
end
end Go.Proofs.Ytlbbnaihhagfdaa
