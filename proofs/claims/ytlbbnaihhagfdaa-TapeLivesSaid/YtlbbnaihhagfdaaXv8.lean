/- A call done on both tapes: they go on together. -/
import Derived.Test.YtlbbnaihhagfdaaXu
set_option linter.unusedSimpArgs false
set_option linter.unusedVariables false
set_option maxRecDepth 100000
namespace Go.Proofs.Ytlbbnaihhagfdaa
open Go.RowKit Go.Lib Go.Sort

set_option maxHeartbeats 8000000
/-- What a call done on both tapes leaves. -/
def Does (D : World) (a : Ad) (W W' : World) : Prop := ∃ a' t', Jo D a' t' W' ∧ Mv a a' W W'
/-- A call on the program's tape, then one on the document's. -/
theorem does_tx {D W w1 w3 : World} {bt bs bx : Nat} {p p2 p' p2' : Option Addr} {g c g2 c2 g' c' g2' c2' : Nat} {t' : St} (B : Below W.heap.size W w1) (ok : t'.Ok)
    (hb : ∀ k, Ad.blk ⟨bt, bs, bx, p, g, c, p2, g2, c2⟩ k → k < W.heap.size ∧ D.heap.size ≤ k)
    (T : TS D bt bs t' p' g' c' w3) (X : XS D bx t' p2' g2' c2' w3) (ap : ∀ k, ob p' = some k → ob p2' ≠ some k) (C : Chg (fun k => k = bs ∨ k = bx ∨ some k = ob p ∨ W.heap.size ≤ k) w1 w3) (L : Lies w1 (ob p) (ob p')) (L2 : Lies w1 (ob p2) (ob p2')) : Does D ⟨bt, bs, bx, p, g, c, p2, g2, c2⟩ W w3 := by
  refine ⟨⟨bt, bs, bx, p', g', c', p2', g2', c2'⟩, t', ⟨T, X, ap, ok⟩, ⟨(Chg.below B).trans C (fun j hj hs => ?_), fun k hk => ?_, rfl, rfl, rfl⟩⟩
  · rcases hs with h | h | h | h
    · exact .inr (.inl h)
    · exact .inr (.inr (.inl h))
    · exact .inr (.inr (.inr (.inl h.symm)))
    · omega
  · rcases hk with h | h | h | h | h
    · exact .inl (.inl h)
    · exact .inl (.inr (.inl h))
    · exact .inl (.inr (.inr (.inl h)))
    · rcases L k h with e | e
      · exact .inl (.inr (.inr (.inr (.inl e))))
      · exact .inr (Nat.le_trans B.size e)
    · rcases L2 k h with e | e
      · exact .inl (.inr (.inr (.inr (.inr e))))
      · exact .inr (Nat.le_trans B.size e)
theorem chg_tx {W w1 w2 w3 : World} {bs bx : Nat} {o : Option Nat} (F : Fr bs o w1 w2) (G : Fr bx none w2 w3) : Chg (fun k => k = bs ∨ k = bx ∨ some k = o ∨ W.heap.size ≤ k) w1 w3 := by
  refine Chg.trans (S' := fun k => k = bx ∨ some k = none) ⟨F.os, F.tape, F.output, F.size, fun k hk hn => F.block k hk (fun e => hn (.inl e)) (fun e => hn (.inr (.inr (.inl e))))⟩ (Chg.fr G) (fun j _ hs => ?_)
  rcases hs with h | h
  · exact .inr (.inl h)
  · cases h
theorem exec_eqerr {o : Oper} {ev : Operand → Value} {W : World} {x y : Operand} {a : Int} (ho : o.op = .binOp .eql 25 x y 25) (hx : ev x = .int .i64 a) (hy : ev y = .int .i64 a) : (execOp ev o).run Try.prog W = .ok (.value (.bool true)) W := by
  unfold execOp
  simp [ho, hx, hy, go_sem, Try.underlying25]
theorem exec_xor8 {o : Oper} {ev : Operand → Value} {W : World} {x y : Operand} {a : Nat} (ho : o.op = .binOp .xor 5 x y 5) (hx : ev x = .int .u8 (a : Int)) (hy : ev y = .int .u8 1) (ha : a < 256) : (execOp ev o).run Try.prog W = .ok (.value (.int .u8 ((a ^^^ 1 : Nat) : Int))) W := by
  have h := u8_xor_nat a 1 ha (by omega)
  have h2 : bits .xor .u8 (a : Int) 1 = ((a ^^^ 1 : Nat) : Int) := h
  unfold execOp
  simp [ho, hx, hy, go_sem, h2]
section
variable {ops : Array Oper} {rest : List Oper} {Q : Exit → Act → World → Prop} {op : Oper} {a : Act} {w : World}
/-- A byte, stored into a row of the call's own; what else lies in memory stays. -/
theorem wpList_bputf (hg : op.guard = none) (x y : Operand) (ho : op.op = .store 5 x y) {B g n c i v : Nat} {p : Option Addr} {f : Nat → Nat} (N : Hid (Own B w p g n c f)) (hx : a.eval x = .pointer (some ⟨g, i, none⟩)) (hy : a.eval y = .int .u8 (v : Int)) (hi : i < n) (hv : v < 256)
    (k : ∀ w', Hid (Own B w' p g n c fun k => if k = i then v else f k) → Hid (Fr g none w w') → wpList Try.prog ops Q rest (a.put op.dst undef) w') : wpList Try.prog ops Q (op :: rest) a w := by
  obtain ⟨O, hb, hf⟩ := own_put N.out hi hv
  have hc := N.out.row.cell i hi
  rw [Nat.zero_add] at hc
  refine wpList_plain hg fun K hK => ?_
  unfold Oper.wp execOp
  simp only [ho, hx, hy, Sem.run_bind, Sem.run_pure, run_store_one (P := Try.prog) (ty := 5) (v := .int .u8 (v : Int)) (by kernel_rfl) rfl rfl hc hf, Result.andThen_ok]
  exact hK _ _ (k _ (Lib.hid O) (Lib.hid ((Fr.refl g none w).set _ _)))
end
theorem own_ge {B n : Nat} {w : World} {p : Option Addr} {g c : Nat} {x : Nat → Nat} (N : Own B w p g n c x) (h : 0 < n) : B ≤ g ∧ ob p = some g := by
  have e := N.row.head h
  subst e
  exact ⟨(World.ownsRow.lt N.own g rfl).1, rfl⟩
theorem does_sync (W : World) (D : World) (a : Ad) (t : St) (J0 : Jo D a t W) (op n : Int) (hn : -9223372036854775808 ≤ n ∧ n ≤ 9223372036854775807) (u rv : Int) (x1' : IntKind.u64.wrap op = u) (x3' : u.tmod 9 = rv) (x4' : IntKind.i64.wrap rv = 4) (q : Option Addr) (h o m d : Nat) (y : Nat → Nat) (R : Row W q h o m d y) (hm : m ≤ 140737488351232) (hR : 0 < m → ¬ a.blk h) :
    Calls Try.prog 12 #[.pointer (some ⟨a.bt, 0, none⟩), .pointer (some ⟨a.bx, 0, none⟩), .agg #[.int .i64 op, .int .i64 n, .slice q m d]] W fun e w' => e = .returned (.bool true) ∧ Does D a W w' := by
  have E := Lib.hid (Mem.nil W)
  have ok := J0.ok
  have HN := Lib.hid hn
  obtain ⟨bt, bs, bx, p, g, c, p2, g2, c2⟩ := a
  have T0 := J0.T
  have X0 := J0.X
  have A0 := Lib.hid J0.ap
  have OK := Lib.hid ok
  have BL := Lib.hid (fun k (hk : Ad.blk ⟨bt, bs, bx, p, g, c, p2, g2, c2⟩ k) => (J0.blk_lt hk))
  have RR := Lib.hid R
  have HM := Lib.hid hm
  have HR := Lib.hid hR
  have JJ := Lib.hid J0
  have TA := Lib.hid T0
  have XA := Lib.hid X0
  clear J0 R hm hR ok hn T0 X0
  go_enter Try.func12, Try.ntmps12
  go_upto_region 1 with ((with_reducible refine wpList_at 5 rfl ?_); refine mem_box E 32 rfl _ rfl rfl (c := #[.int .i64 op, .int .i64 n, .slice q m d]) rfl ?_; intro b5 w1 E1; try simp only [Act.put, List.setIfInBounds_toArray, List.set_cons_zero, List.set_cons_succ])
  have BX : Hid (w1.heap[b5]? = some (.cells #[.int .i64 op, .int .i64 n, .slice q m d] 32 (0, 0)) ∧ W.heap.size ≤ b5) := Lib.hid ⟨E1.out.get List.mem_cons_self, E1.out.ge _ List.mem_cons_self⟩
  have T1 := Lib.hid (TA.out.call E1.out.below)
  have X1 := Lib.hid (XA.out.call E1.out.below)
  have B1 := Lib.hid E1.out.below
  have LB1 := Lib.hid (heap_lt BX.out.1)
  have NB : Hid (b5 ≠ bs ∧ b5 ≠ bx ∧ some b5 ≠ ob p ∧ some b5 ≠ ob p2) := Lib.hid ⟨fun e => by have := (BL.out b5 (.inr (.inl e))).1; have := BX.out.2; omega, fun e => by have := (BL.out b5 (.inr (.inr (.inl e)))).1; have := BX.out.2; omega, fun e => by have := (BL.out b5 (.inr (.inr (.inr (.inl e.symm))))).1; have := BX.out.2; omega, fun e => by have := (BL.out b5 (.inr (.inr (.inr (.inr e.symm))))).1; have := BX.out.2; omega⟩
  clear E E1 TA XA
  go_wp2_with (first
    | ((with_reducible refine wpList_at 11 rfl ?_); refine wpList_ld1 3 (.tmp 10) rfl rfl rfl Try.underlying3 rfl (cell_of_here BX.out.1 0 rfl) ?_; try simp only [Act.put, List.setIfInBounds_toArray, List.set_cons_zero, List.set_cons_succ])
    | (go_at_call 17; refine (tsync_all T1 OK.out).mono ?_; rintro e w2 ⟨rfl, hT⟩; obtain ⟨p', g', c', hT', hX', hA', hF', hL'⟩ := t_step T1.out X1.out A0.out hT; have T2 := Lib.hid hT'; have X2 := Lib.hid hX'; have A2 := Lib.hid hA'; have F2 := Lib.hid hF'; have L2 := Lib.hid hL'; replace BX := Lib.hid (And.intro ((hF'.block b5 (heap_lt BX.out.1) NB.out.1 NB.out.2.2.1).trans BX.out.1) BX.out.2); clear hT hT' hX' hA' hF' hL')
    | (go_at_call 28; refine (xsync_all X2 OK.out).mono ?_; rintro e w3 ⟨rfl, hX⟩; obtain ⟨p'', g'', c'', hX', hT', hA', hF', hL'⟩ := x_step T2.out X2.out A2.out hX; have T3 := Lib.hid hT'; have X3 := Lib.hid hX'; have A3 := Lib.hid hA'; have F3 := Lib.hid hF'; have L3 := Lib.hid hL'; replace BX := Lib.hid (And.intro ((hF'.block b5 (heap_lt BX.out.1) NB.out.2.1 (by simp)).trans BX.out.1) BX.out.2); clear hX hT' hX' hA' hF' hL')
    | ((with_reducible refine wpList_at 59 rfl ?_); refine wpList_known4 rfl (.bool true) _ (exec_eqerr rfl rfl rfl) ?_; try simp only [Act.put, List.setIfInBounds_toArray, List.set_cons_zero, List.set_cons_succ]))
  go_ret
  exact ⟨rfl, does_tx B1.out (syncF_ok OK.out) BL.out T3.out X3.out A3.out (chg_tx F2.out F3.out) L2.out (fun j e => (L3.out j e).imp id fun q => Nat.le_trans F2.out.size q)⟩
theorem does_crash (W : World) (D : World) (a : Ad) (t : St) (J0 : Jo D a t W) (op n : Int) (hn : -9223372036854775808 ≤ n ∧ n ≤ 9223372036854775807) (u rv : Int) (x1' : IntKind.u64.wrap op = u) (x3' : u.tmod 9 = rv) (x4' : IntKind.i64.wrap rv = 8) (q : Option Addr) (h o m d : Nat) (y : Nat → Nat) (R : Row W q h o m d y) (hm : m ≤ 140737488351232) (hR : 0 < m → ¬ a.blk h) :
    Calls Try.prog 12 #[.pointer (some ⟨a.bt, 0, none⟩), .pointer (some ⟨a.bx, 0, none⟩), .agg #[.int .i64 op, .int .i64 n, .slice q m d]] W fun e w' => e = .returned (.bool true) ∧ Does D a W w' := by
  have E := Lib.hid (Mem.nil W)
  have ok := J0.ok
  have HN := Lib.hid hn
  obtain ⟨bt, bs, bx, p, g, c, p2, g2, c2⟩ := a
  have T0 := J0.T
  have X0 := J0.X
  have A0 := Lib.hid J0.ap
  have OK := Lib.hid ok
  have BL := Lib.hid (fun k (hk : Ad.blk ⟨bt, bs, bx, p, g, c, p2, g2, c2⟩ k) => (J0.blk_lt hk))
  have RR := Lib.hid R
  have HM := Lib.hid hm
  have HR := Lib.hid hR
  have JJ := Lib.hid J0
  have TA := Lib.hid T0
  have XA := Lib.hid X0
  clear J0 R hm hR ok hn T0 X0
  go_enter Try.func12, Try.ntmps12
  go_upto_region 1 with ((with_reducible refine wpList_at 5 rfl ?_); refine mem_box E 32 rfl _ rfl rfl (c := #[.int .i64 op, .int .i64 n, .slice q m d]) rfl ?_; intro b5 w1 E1; try simp only [Act.put, List.setIfInBounds_toArray, List.set_cons_zero, List.set_cons_succ])
  have BX : Hid (w1.heap[b5]? = some (.cells #[.int .i64 op, .int .i64 n, .slice q m d] 32 (0, 0)) ∧ W.heap.size ≤ b5) := Lib.hid ⟨E1.out.get List.mem_cons_self, E1.out.ge _ List.mem_cons_self⟩
  have T1 := Lib.hid (TA.out.call E1.out.below)
  have X1 := Lib.hid (XA.out.call E1.out.below)
  have B1 := Lib.hid E1.out.below
  have LB1 := Lib.hid (heap_lt BX.out.1)
  have NB : Hid (b5 ≠ bs ∧ b5 ≠ bx ∧ some b5 ≠ ob p ∧ some b5 ≠ ob p2) := Lib.hid ⟨fun e => by have := (BL.out b5 (.inr (.inl e))).1; have := BX.out.2; omega, fun e => by have := (BL.out b5 (.inr (.inr (.inl e)))).1; have := BX.out.2; omega, fun e => by have := (BL.out b5 (.inr (.inr (.inr (.inl e.symm))))).1; have := BX.out.2; omega, fun e => by have := (BL.out b5 (.inr (.inr (.inr (.inr e.symm))))).1; have := BX.out.2; omega⟩
  clear E E1 TA XA
  go_wp2_with (first
    | ((with_reducible refine wpList_at 11 rfl ?_); refine wpList_ld1 3 (.tmp 10) rfl rfl rfl Try.underlying3 rfl (cell_of_here BX.out.1 0 rfl) ?_; try simp only [Act.put, List.setIfInBounds_toArray, List.set_cons_zero, List.set_cons_succ])
    | ((with_reducible refine wpList_at 17 rfl ?_); refine wpList_ld1 3 (.tmp 16) rfl rfl rfl Try.underlying3 rfl (cell_of_here BX.out.1 1 rfl) ?_; try simp only [Act.put, List.setIfInBounds_toArray, List.set_cons_zero, List.set_cons_succ])
    | (go_at_call 32; refine (xcrash_all X1 OK.out n).mono ?_; rintro e w2 ⟨rfl, hX⟩; obtain ⟨p'', g'', c'', hX', hT', hA', hF', hL'⟩ := x_step T1.out X1.out A0.out hX; have T2 := Lib.hid hT'; have X2 := Lib.hid hX'; have A2 := Lib.hid hA'; have F2 := Lib.hid hF'; have L2 := Lib.hid hL'; replace BX := Lib.hid (And.intro ((hF'.block b5 (heap_lt BX.out.1) NB.out.2.1 (by simp)).trans BX.out.1) BX.out.2); clear hX hT' hX' hA' hF' hL')
    | ((with_reducible refine wpList_at 21 rfl ?_); refine wpList_ld1 3 (.tmp 20) rfl rfl rfl Try.underlying3 rfl (cell_of_here BX.out.1 1 rfl) ?_; try simp only [Act.put, List.setIfInBounds_toArray, List.set_cons_zero, List.set_cons_succ])
    | (go_at_call 19; refine (tcrash_all T2 OK.out n).mono ?_; rintro e w3 ⟨rfl, hT⟩; obtain ⟨p', g', c', hT', hX', hA', hF', hL'⟩ := t_step T2.out X2.out A2.out hT; have T3 := Lib.hid hT'; have X3 := Lib.hid hX'; have A3 := Lib.hid hA'; have F3 := Lib.hid hF'; have L3 := Lib.hid hL'; replace BX := Lib.hid (And.intro ((hF'.block b5 (heap_lt BX.out.1) NB.out.1 NB.out.2.2.1).trans BX.out.1) BX.out.2); clear hT hT' hX' hA' hF' hL'))
  go_ret
  refine ⟨rfl, does_tx B1.out (crashF_ok OK.out) BL.out T3.out X3.out A3.out ?_ (fun j e => (L3.out j e).imp id fun q => Nat.le_trans F2.out.size q) L2.out⟩
  refine Chg.trans (S' := fun k => k = bs ∨ some k = ob p) ⟨F2.out.os, F2.out.tape, F2.out.output, F2.out.size, fun k hk hn => F2.out.block k hk (fun e => hn (.inr (.inl e))) (by simp)⟩ (Chg.fr F3.out) (fun j _ hs => ?_)
  rcases hs with h | h
  · exact .inl h
  · exact .inr (.inr (.inl h))
end Go.Proofs.Ytlbbnaihhagfdaa
