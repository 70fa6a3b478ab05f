/- The document's frame at the beginning of bytes: none yet, or a fault. -/
import Derived.Test.YtkjcljobcidhfaaDoorRga
import Derived.Test.YtkjcljobcidhfaaDoorGr
import Derived.WideShapes
set_option linter.unusedSimpArgs false
set_option linter.unusedVariables false
set_option maxRecDepth 100000
namespace Go.Proofs.YtkjcljobcidhfaaDoor
open Go.RowKit Go.Lib Go.Sort Go.WideShapes

theorem bas_inj {s t : ByteArray} (h : s.toList = t.toList) : s = t := by
  rw [ByteArray.toList_eq, ByteArray.toList_eq] at h
  exact bytes_inj h
theorem exec_eqS {o : Oper} {ev : Operand → Value} {W : World} {x y : Operand} {s t : ByteArray} (r : Bool) (ho : o.op = .binOp .eql 9 x y 9) (hx : ev x = .string s) (hy : ev y = .string t) (hr : s = t ↔ r = true) : (execOp ev o).run Tryd.prog W = .ok (.value (.bool r)) W := by
  unfold execOp
  by_cases h : s = t
  · have hr2 := hr.1 h
    subst h hr2
    simp [ho, hx, hy, go_sem, binOp, Tryd.underlying9, Op.stringOp]
  · have hr2 : r = false := by simpa using (fun q => h (hr.2 q))
    subst hr2
    have h2 : ¬ s.toList = t.toList := fun q => h (bas_inj q)
    simp [ho, hx, hy, go_sem, binOp, Tryd.underlying9, Op.stringOp, h2]

section
variable {ops : Array Oper} {rest : List Oper} {Q : Exit → Act → World → Prop} {op : Oper} {a : Act} {w0 w : World} {l : List (Nat × TypeId × Array Value)}
theorem mem_store_cellk (i : Nat) (E : Hid (Mem w0 l w)) (ty : TypeId) (hg : op.guard = none) (x y : Operand) (ho : op.op = .store ty x y) {b T j : Nat} {c : Array Value} {v : Value} (hx : a.eval x = .pointer (some ⟨b, j, none⟩)) (hy : a.eval y = v) (hi : l[i]? = some (b, T, c))
    (hs : (Tryd.prog.info? ty).map (·.size) = some 1) (h1 : v.cells = #[v]) (h2 : v.oneCell' = true) (hj : j < c.size)
    (h : ∀ w', Hid (Mem w0 (l.set i (b, T, c.setIfInBounds j v)) w') → Hid (KeepT T w w') → wpList Tryd.prog ops Q rest (a.put op.dst undef) w') : wpList Tryd.prog ops Q (op :: rest) a w := by
  have hg' := E.out.get (List.mem_of_getElem? hi)
  have hH : Holds b T (c.setIfInBounds j v) w (w.setCell ⟨b, j, none⟩ v) := (Holds.start hg').set rfl
  refine wpList_plain hg fun K hK => ?_
  unfold Oper.wp execOp
  simp only [ho, hx, hy, Sem.run_bind, Sem.run_pure, run_store_one hs h1 h2 (cell_of_here hg' j (Array.getElem?_eq_getElem hj)) (free_of_here hg' j), Result.andThen_ok]
  exact hK _ _ (h _ (Lib.hid (E.out.turn hi hH.here hH.only)) (Lib.hid (KeepT.of_only hg' hH.only)))
theorem mem_store_rowk (i : Nat) (E : Hid (Mem w0 l w)) (ty : TypeId) (hg : op.guard = none) (x y : Operand) (ho : op.op = .store ty x y) {b T : Nat} {c c' : Array Value} (hx : a.eval x = .pointer (some ⟨b, 0, none⟩)) (hy : a.eval y = .agg c') (hi : l[i]? = some (b, T, c))
    (hs : (Tryd.prog.info? ty).map (·.size) = some c'.size) (hl : c.size = c'.size) (h1 : c'.all (·.oneCell') = true)
    (h : ∀ w', Hid (Mem w0 (l.set i (b, T, c')) w') → Hid (KeepT T w w') → wpList Tryd.prog ops Q rest (a.put op.dst undef) w') : wpList Tryd.prog ops Q (op :: rest) a w := by
  have hg' := E.out.get (List.mem_of_getElem? hi)
  have ho' : Only b w (w.setRow b c') := ⟨rfl, rfl, rfl, by simp, fun k _ hk => setRow_other w b k c' hk⟩
  exact wpList_plain hg fun K hK => wp_store_row ty x y ho b c' hx hy T c hg' hs hl h1 (hK _ _ (h _ (Lib.hid (E.out.turn hi (setRow_heap w b c c' T _ hg') ho')) (Lib.hid (KeepT.of_only hg' ho'))))
end
theorem res_ct {P : Program} {fn : Func} {p u : Tmp} {ty : TypeId} (h : fn.results = #[.cell p ty, .tmp u]) (tmps : Array Value) (w : World) {g T : Nat} {cs : Array Value} (d : TypeDesc)
    (hp : tmps.getD p undef = .pointer (some ⟨g, 0, none⟩)) (hg : w.heap[g]? = some (.cells cs T (0, 0))) (hu : P.underlying ty = some d) (hd : (match d with | .struct _ | .array _ _ => true | _ => false) = true) (hi : (P.info? ty).map (·.size) = some cs.size) :
    (results fn tmps).run P w = .ok (.tuple #[.agg cs, tmps.getD u undef]) w := by
  have hp' : tmps[p]?.getD undef = .pointer (some ⟨g, 0, none⟩) := by simpa using hp
  have e := run_loadVar_row (P := P) w g T ty cs (0, 0) d hg hu hd hi
  simp [results, h, hp', asAddr, e]
/-- A cell of an old block stored, in both worlds. -/
theorem Mem.setOld {W w : World} {l : List (Nat × TypeId × Array Value)} (E : Mem W l w) {b j T : Nat} {cs : Array Value} {v : Value} (hW : W.heap[b]? = some (.cells cs T (0, 0))) : Mem (W.setCell ⟨b, j, none⟩ v) l (w.setCell ⟨b, j, none⟩ v) := by
  have hw : w.heap[b]? = some (.cells cs T (0, 0)) := by rw [E.below.block b (heap_lt hW)]; exact hW
  have H1 := ((Holds.start hW).set (i := j) (v := v) rfl)
  have H2 := ((Holds.start hw).set (i := j) (v := v) rfl)
  have s1 : (W.setCell ⟨b, j, none⟩ v).heap.size = W.heap.size := by simp [World.setCell]
  have s2 : (w.setCell ⟨b, j, none⟩ v).heap.size = w.heap.size := by simp [World.setCell]
  refine ⟨⟨E.below.os, E.below.tape, E.below.output, by rw [s1, s2]; exact E.below.size, fun k hk => ?_⟩, fun p hp => ?_, E.nd, fun p hp => by rw [s1]; exact E.ge p hp⟩
  · rw [s1] at hk
    by_cases e : k = b
    · subst e
      exact H2.here.trans H1.here.symm
    · rw [Below.heap_setCell _ _ _ _ e, Below.heap_setCell _ _ _ _ e, E.below.block k hk]
  · have h1 := E.ge p hp
    have h2 := heap_lt hW
    rw [Below.heap_setCell _ _ _ _ (show p.1 ≠ b by omega)]
    exact E.has p hp
theorem exec_subc {o : Oper} {ev : Operand → Value} {W : World} {x : Operand} {a : Nat} (ho : o.op = .convert 3 66 x) (hx : ev x = .int .i64 (a : Int)) (hr : (a : Int) ≤ 9223372036854775807) : (execOp ev o).run Tryd.prog W = .ok (.value (.int .u64 (a : Int))) W := by
  have e : IntKind.u64.wrap (a : Int) = (a : Int) := by rw [IntKind.wrap_u64]; omega
  unfold execOp
  simp [ho, hx, go_sem, convert, Tryd.underlying66, Tryd.underlying3, e]
theorem exec_lss64 {o : Oper} {ev : Operand → Value} {W : World} {x y : Operand} {a b : Int} {q : Bool} (ho : o.op = .binOp .lss 66 x y 66) (hx : ev x = .int .u64 a) (hy : ev y = .int .u64 b) (hq : decide (a < b) = q) : (execOp ev o).run Tryd.prog W = .ok (.value (.bool q)) W := by
  subst hq
  unfold execOp
  by_cases h : a < b
  · simp [ho, hx, hy, go_sem, Tryd.underlying66, h]
  · simp [ho, hx, hy, go_sem, Tryd.underlying66, h]
/-- How the document's first ends: the reader at bx is as it was, told a fault, or holds what is left. -/
def RFirstEnd (bx : Nat) (zs : List Nat) (W : World) (r : FrR) (e : Ending) (w' : World) : Prop := match r with
  | .wait => e = .returned (.tuple #[.agg fr0, .bool false]) ∧ Below W.heap.size W w'
  | .bad q => e = .returned (.tuple #[.agg fr0, .bool false]) ∧ Below W.heap.size (W.setCell ⟨bx, 1, none⟩ (.int .i64 q)) w'
  | .frame k s pay => ∃ p8 g8 c8 p' g' c', e = .returned (.tuple #[.agg (frV s (.slice p8 pay.length c8)), .bool true]) ∧ Own W.heap.size w' p8 g8 pay.length c8 (lf pay) ∧ Own W.heap.size w' p' g' (zs.drop (24 + pay.length)).length c' (lf (zs.drop (24 + pay.length))) ∧ Below W.heap.size (W.setCell ⟨bx, 0, none⟩ (.slice p' (zs.drop (24 + pay.length)).length c')) w'
theorem size_set (W : World) (a : Addr) (v : Value) : (W.setCell a v).heap.size = W.heap.size := by simp [World.setCell]
theorem exec_eqSt {o : Oper} {ev : Operand → Value} {W : World} {x y : Operand} {s t : ByteArray} (ho : o.op = .binOp .eql 9 x y 9) (hx : ev x = .string s) (hy : ev y = .string t) (hr : s = t) : (execOp ev o).run Tryd.prog W = .ok (.value (.bool true)) W := exec_eqS true ho hx hy ⟨fun _ => rfl, fun _ => hr⟩
theorem built_frs (s : ByteArray) : Tryd.prog.built 42 (#[(0, .string s)] : Array (Nat × Value)).toList = some (frV s (.slice none 0 0)) := by kernel_rfl

set_option maxHeartbeats 4000000 in
theorem rfirst_short {W : World} {bx : Nat} {p : Option Addr} {n c : Nat} {zs : List Nat} (h : n < 24)
    (CX : Hid (∀ w', Below W.heap.size W w' → w'.cell? ⟨bx, 0, none⟩ = some (.slice p n c))) : Calls Tryd.prog 22 #[.pointer (some ⟨bx, 0, none⟩)] W (RFirstEnd bx zs W .wait) := by
  have E := Lib.hid (Mem.nil W)
  have HL := Lib.hid (show decide ((n : Int) < 24) = true from decide_eq_true (by omega))
  clear h
  go_enter Tryd.func22, Tryd.ntmps22
  go_wp2_with (first
      | ((with_reducible refine wpList_at 2 rfl ?_); refine mem_alloc E 42 rfl rfl infoFr ?_; clear E; intro b2 w2 E2; have E := Lib.hid (show Mem W [(b2, 42, fr0)] w2 from E2.out); clear E2)
      | ((with_reducible refine wpList_at 10 rfl ?_); refine wpList_ld1 26 (.tmp 9) rfl rfl rfl Tryd.underlying26 rfl (CX.out _ E.out.below) ?_)
      | ((with_reducible refine wpList_at 12 rfl ?_); refine wpList_kn rfl (.bool true) (by exact exec_lssi rfl rfl rfl HL.out) ?_)
      | ((with_reducible refine wpList_at 13 rfl ?_); refine wpList_bld 42 _ rfl rfl (ps := #[]) (by kernel_rfl) built_fr0 ?_)
      | ((with_reducible refine wpList_atn rfl ?_); refine mem_store_row 0 E 42 rfl (.tmp 2) (.tmp 13) rfl rfl rfl rfl (by kernel_rfl) rfl fr0_one ?_; clear E; intro w3 E3; have E := Lib.hid (show Mem W [(b2, 42, fr0)] w3 from E3.out); clear E3))
  exact bodyPost_ret (res_ct (fn := Tryd.f22) rfl _ _ _ rfl (E.out.get (List.mem_cons_self)) Tryd.underlying42 rfl (by kernel_rfl)) rfl ⟨rfl, E.out.below⟩

set_option maxHeartbeats 4000000 in
theorem rfirst_magic {W : World} {bx : Nat} {p p0 p4 p16 : Option Addr} {n c c0 c4 c16 L m : Nat} {cs : ByteArray} {zs : List Nat} (h : 24 ≤ n)
    (CX : Hid (∀ w', Below W.heap.size W w' → w'.cell? ⟨bx, 0, none⟩ = some (.slice p n c)))
    (CB : Hid (W.heap[bx]? = some (.cells #[.slice p n c, .int .i64 0] 29 (0, 0))))
    (S4 : Hid (∀ W', (Instr.sliceAt 26 (.slice p n c) (some (.int .i64 4)) (some (.int .i64 16)) none).run Tryd.prog W' = .ok (.slice p4 12 c4) W'))
    (T4 : Hid (∀ w', Below W.heap.size W w' → Calls Tryd.prog 31 #[.slice p4 12 c4] w' fun e w'' => e = .returned (.string cs) ∧ w' = w''))
    (S0 : Hid (∀ W', (Instr.sliceAt 26 (.slice p n c) none (some (.int .i64 4)) none).run Tryd.prog W' = .ok (.slice p0 4 c0) W'))
    (N0 : Hid (∀ w', Below W.heap.size W w' → Calls Tryd.prog 32 #[.slice p0 4 c0] w' fun e w'' => e = .returned (.int .u64 (m : Int)) ∧ w' = w'')) (hm : m ≠ 3652501241) : Calls Tryd.prog 22 #[.pointer (some ⟨bx, 0, none⟩)] W (RFirstEnd bx zs W (.bad 90)) := by
  have E := Lib.hid (Mem.nil W)
  have HL := Lib.hid (show decide ((n : Int) < 24) = false from decide_eq_false (by omega))
  clear h
  have HM := Lib.hid (show decide ((m : Int) = 3652501241) = !true from decide_eq_false (by omega))
  clear hm

  go_enter Tryd.func22, Tryd.ntmps22
  go_wp2_with (first
      | ((with_reducible refine wpList_at 2 rfl ?_); refine mem_alloc E 42 rfl rfl infoFr ?_; clear E; intro b2 w2 E2; have E := Lib.hid (show Mem W [(b2, 42, fr0)] w2 from E2.out); clear E2)
      | ((with_reducible refine wpList_at 10 rfl ?_); refine wpList_ld1 26 (.tmp 9) rfl rfl rfl Tryd.underlying26 rfl (CX.out _ E.out.below) ?_)
      | ((with_reducible refine wpList_at 12 rfl ?_); refine wpList_kn rfl (.bool false) (by exact exec_lssi rfl rfl rfl HL.out) ?_)
      | ((with_reducible refine wpList_at 17 rfl ?_); refine wpList_ld1 26 (.tmp 16) rfl rfl rfl Tryd.underlying26 rfl (CX.out _ E.out.below) ?_)
      | ((with_reducible refine wpList_at 18 rfl ?_); refine wpList_kn rfl (.slice p4 12 c4) (by exact exec_sl rfl (S4.out _)) ?_)
      | (go_at_call 31; (with_reducible refine (T4.out _ E.out.below).mono ?_); rintro e w4 ⟨rfl, rfl⟩)
      | ((with_reducible refine wpList_at 20 rfl ?_); refine wpList_bld 42 _ rfl rfl (ps := #[(0, .string cs)]) (by kernel_rfl) (built_frs cs) ?_)
      | ((with_reducible refine wpList_at 4 rfl ?_); refine mem_alloc E 42 rfl rfl infoFr ?_; clear E; intro b4 w4 E4; have E := Lib.hid (show Mem W [(b4, 42, fr0), (b2, 42, fr0)] w4 from E4.out); clear E4)
      | ((with_reducible refine wpList_atn rfl ?_); refine mem_store_row 0 E 42 rfl (.tmp 4) (.tmp 20) rfl rfl rfl rfl (by kernel_rfl) rfl (frV_one _ _ _ _) ?_; clear E; intro w5 E5; have E := Lib.hid (show Mem W [(b4, 42, frV cs (.slice none 0 0)), (b2, 42, fr0)] w5 from E5.out); clear E5)
      | ((with_reducible refine wpList_at 24 rfl ?_); refine wpList_ld1 26 (.tmp 23) rfl rfl rfl Tryd.underlying26 rfl (CX.out _ E.out.below) ?_)
      | ((with_reducible refine wpList_at 25 rfl ?_); refine wpList_kn rfl (.slice p0 4 c0) (by exact exec_sl rfl (S0.out _)) ?_)
      | (go_at_call 32; (with_reducible refine (N0.out _ E.out.below).mono ?_); rintro e w4 ⟨rfl, rfl⟩)
      | ((with_reducible refine wpList_at 27 rfl ?_); refine wpList_kn rfl (.bool true) (by exact exec_neq64 rfl rfl rfl HM.out) ?_)
      | ((with_reducible refine wpList_atn rfl ?_); refine wpList_setc (show _ = some (Obj.cells #[.slice p n c, .int .i64 0] 29 (0, 0)) by rw [E.out.below.block bx (heap_lt CB.out)]; exact CB.out) rfl 27 (.tmp 35) (.const (.int .i64 90)) rfl rfl rfl (by kernel_rfl) rfl rfl rfl ?_; replace E := Lib.hid (E.out.setOld (j := 1) (v := .int .i64 90) CB.out))
      | ((with_reducible refine wpList_at 36 rfl ?_); refine wpList_bld 42 _ rfl rfl (ps := #[]) (by kernel_rfl) built_fr0 ?_)
      | ((with_reducible refine wpList_atn rfl ?_); refine mem_store_row 1 E 42 rfl (.tmp 2) (.tmp 36) rfl rfl rfl rfl (by kernel_rfl) rfl fr0_one ?_; clear E; intro w3 E3; have E := Lib.hid (show Mem (W.setCell ⟨bx, 1, none⟩ (.int .i64 90)) [(b4, 42, frV cs (.slice none 0 0)), (b2, 42, fr0)] w3 from E3.out); clear E3))
  exact bodyPost_ret (res_ct (fn := Tryd.f22) rfl _ _ _ rfl (E.out.get (List.mem_cons_of_mem _ List.mem_cons_self)) Tryd.underlying42 rfl (by kernel_rfl)) rfl ⟨rfl, by have := E.out.below; rwa [size_set] at this⟩

set_option maxHeartbeats 4000000 in
theorem rfirst_com {W : World} {bx : Nat} {p p0 p4 p16 : Option Addr} {n c c0 c4 c16 L m : Nat} {cs : ByteArray} {zs : List Nat} (h : 24 ≤ n)
    (CX : Hid (∀ w', Below W.heap.size W w' → w'.cell? ⟨bx, 0, none⟩ = some (.slice p n c)))
    (CB : Hid (W.heap[bx]? = some (.cells #[.slice p n c, .int .i64 0] 29 (0, 0))))
    (S4 : Hid (∀ W', (Instr.sliceAt 26 (.slice p n c) (some (.int .i64 4)) (some (.int .i64 16)) none).run Tryd.prog W' = .ok (.slice p4 12 c4) W'))
    (T4 : Hid (∀ w', Below W.heap.size W w' → Calls Tryd.prog 31 #[.slice p4 12 c4] w' fun e w'' => e = .returned (.string cs) ∧ w' = w''))
    (S0 : Hid (∀ W', (Instr.sliceAt 26 (.slice p n c) none (some (.int .i64 4)) none).run Tryd.prog W' = .ok (.slice p0 4 c0) W'))
    (N0 : Hid (∀ w', Below W.heap.size W w' → Calls Tryd.prog 32 #[.slice p0 4 c0] w' fun e w'' => e = .returned (.int .u64 (m : Int)) ∧ w' = w'')) (hm : m = 3652501241) (hc : cs = ⟨#[]⟩) : Calls Tryd.prog 22 #[.pointer (some ⟨bx, 0, none⟩)] W (RFirstEnd bx zs W (.bad 90)) := by
  have E := Lib.hid (Mem.nil W)
  have HL := Lib.hid (show decide ((n : Int) < 24) = false from decide_eq_false (by omega))
  clear h
  have HM := Lib.hid (show decide ((m : Int) = 3652501241) = !false from decide_eq_true (by omega))
  clear hm
  have HC := Lib.hid hc
  clear hc

  go_enter Tryd.func22, Tryd.ntmps22
  go_wp2_with (first
      | ((with_reducible refine wpList_at 2 rfl ?_); refine mem_alloc E 42 rfl rfl infoFr ?_; clear E; intro b2 w2 E2; have E := Lib.hid (show Mem W [(b2, 42, fr0)] w2 from E2.out); clear E2)
      | ((with_reducible refine wpList_at 10 rfl ?_); refine wpList_ld1 26 (.tmp 9) rfl rfl rfl Tryd.underlying26 rfl (CX.out _ E.out.below) ?_)
      | ((with_reducible refine wpList_at 12 rfl ?_); refine wpList_kn rfl (.bool false) (by exact exec_lssi rfl rfl rfl HL.out) ?_)
      | ((with_reducible refine wpList_at 17 rfl ?_); refine wpList_ld1 26 (.tmp 16) rfl rfl rfl Tryd.underlying26 rfl (CX.out _ E.out.below) ?_)
      | ((with_reducible refine wpList_at 18 rfl ?_); refine wpList_kn rfl (.slice p4 12 c4) (by exact exec_sl rfl (S4.out _)) ?_)
      | (go_at_call 31; (with_reducible refine (T4.out _ E.out.below).mono ?_); rintro e w4 ⟨rfl, rfl⟩)
      | ((with_reducible refine wpList_at 20 rfl ?_); refine wpList_bld 42 _ rfl rfl (ps := #[(0, .string cs)]) (by kernel_rfl) (built_frs cs) ?_)
      | ((with_reducible refine wpList_at 4 rfl ?_); refine mem_alloc E 42 rfl rfl infoFr ?_; clear E; intro b4 w4 E4; have E := Lib.hid (show Mem W [(b4, 42, fr0), (b2, 42, fr0)] w4 from E4.out); clear E4)
      | ((with_reducible refine wpList_atn rfl ?_); refine mem_store_row 0 E 42 rfl (.tmp 4) (.tmp 20) rfl rfl rfl rfl (by kernel_rfl) rfl (frV_one _ _ _ _) ?_; clear E; intro w5 E5; have E := Lib.hid (show Mem W [(b4, 42, frV cs (.slice none 0 0)), (b2, 42, fr0)] w5 from E5.out); clear E5)
      | ((with_reducible refine wpList_at 24 rfl ?_); refine wpList_ld1 26 (.tmp 23) rfl rfl rfl Tryd.underlying26 rfl (CX.out _ E.out.below) ?_)
      | ((with_reducible refine wpList_at 25 rfl ?_); refine wpList_kn rfl (.slice p0 4 c0) (by exact exec_sl rfl (S0.out _)) ?_)
      | (go_at_call 32; (with_reducible refine (N0.out _ E.out.below).mono ?_); rintro e w4 ⟨rfl, rfl⟩)
      | ((with_reducible refine wpList_at 27 rfl ?_); refine wpList_kn rfl (.bool false) (by exact exec_neq64 rfl rfl rfl HM.out) ?_)
      | ((with_reducible refine wpList_at 30 rfl ?_); refine mem_load_cell E 9 (by first | rfl | kernel_rfl) (.tmp 29) rfl rfl List.mem_cons_self Tryd.underlying9 rfl (v := .string cs) rfl ?_)
      | ((with_reducible refine wpList_at 31 rfl ?_); refine wpList_kn rfl (.bool true) (by exact exec_eqSt rfl rfl rfl HC.out) ?_)
      | ((with_reducible refine wpList_atn rfl ?_); refine wpList_setc (show _ = some (Obj.cells #[.slice p n c, .int .i64 0] 29 (0, 0)) by rw [E.out.below.block bx (heap_lt CB.out)]; exact CB.out) rfl 27 (.tmp 35) (.const (.int .i64 90)) rfl rfl rfl (by kernel_rfl) rfl rfl rfl ?_; replace E := Lib.hid (E.out.setOld (j := 1) (v := .int .i64 90) CB.out))
      | ((with_reducible refine wpList_at 36 rfl ?_); refine wpList_bld 42 _ rfl rfl (ps := #[]) (by kernel_rfl) built_fr0 ?_)
      | ((with_reducible refine wpList_atn rfl ?_); refine mem_store_row 1 E 42 rfl (.tmp 2) (.tmp 36) rfl rfl rfl rfl (by kernel_rfl) rfl fr0_one ?_; clear E; intro w3 E3; have E := Lib.hid (show Mem (W.setCell ⟨bx, 1, none⟩ (.int .i64 90)) [(b4, 42, frV cs (.slice none 0 0)), (b2, 42, fr0)] w3 from E3.out); clear E3))
  exact bodyPost_ret (res_ct (fn := Tryd.f22) rfl _ _ _ rfl (E.out.get (List.mem_cons_of_mem _ List.mem_cons_self)) Tryd.underlying42 rfl (by kernel_rfl)) rfl ⟨rfl, by have := E.out.below; rwa [size_set] at this⟩

set_option maxHeartbeats 4000000 in
theorem rfirst_long {W : World} {bx : Nat} {p p0 p4 p16 : Option Addr} {n c c0 c4 c16 L m : Nat} {cs : ByteArray} {zs : List Nat} (h : 24 ≤ n)
    (CX : Hid (∀ w', Below W.heap.size W w' → w'.cell? ⟨bx, 0, none⟩ = some (.slice p n c)))
    (CB : Hid (W.heap[bx]? = some (.cells #[.slice p n c, .int .i64 0] 29 (0, 0))))
    (S4 : Hid (∀ W', (Instr.sliceAt 26 (.slice p n c) (some (.int .i64 4)) (some (.int .i64 16)) none).run Tryd.prog W' = .ok (.slice p4 12 c4) W'))
    (T4 : Hid (∀ w', Below W.heap.size W w' → Calls Tryd.prog 31 #[.slice p4 12 c4] w' fun e w'' => e = .returned (.string cs) ∧ w' = w''))
    (S0 : Hid (∀ W', (Instr.sliceAt 26 (.slice p n c) none (some (.int .i64 4)) none).run Tryd.prog W' = .ok (.slice p0 4 c0) W'))
    (N0 : Hid (∀ w', Below W.heap.size W w' → Calls Tryd.prog 32 #[.slice p0 4 c0] w' fun e w'' => e = .returned (.int .u64 (m : Int)) ∧ w' = w'')) (hm : m = 3652501241) (hc : cs ≠ ⟨#[]⟩)
    (S16 : Hid (∀ W', (Instr.sliceAt 26 (.slice p n c) (some (.int .i64 16)) (some (.int .i64 20)) none).run Tryd.prog W' = .ok (.slice p16 4 c16) W'))
    (N16 : Hid (∀ w', Below W.heap.size W w' → Calls Tryd.prog 32 #[.slice p16 4 c16] w' fun e w'' => e = .returned (.int .u64 (L : Int)) ∧ w' = w'')) (hl : 200000 < L) : Calls Tryd.prog 22 #[.pointer (some ⟨bx, 0, none⟩)] W (RFirstEnd bx zs W (.bad 91)) := by
  have E := Lib.hid (Mem.nil W)
  have HL := Lib.hid (show decide ((n : Int) < 24) = false from decide_eq_false (by omega))
  clear h
  have HM := Lib.hid (show decide ((m : Int) = 3652501241) = !false from decide_eq_true (by omega))
  clear hm
  have HC := Lib.hid (show cs = ⟨#[]⟩ ↔ false = true from ⟨fun q => absurd q hc, fun q => by cases q⟩)
  clear hc
  have HG := Lib.hid (show decide ((200000 : Int) < (L : Int)) = true from decide_eq_true (by omega))
  clear hl

  go_enter Tryd.func22, Tryd.ntmps22
  go_wp2_with (first
      | ((with_reducible refine wpList_at 2 rfl ?_); refine mem_alloc E 42 rfl rfl infoFr ?_; clear E; intro b2 w2 E2; have E := Lib.hid (show Mem W [(b2, 42, fr0)] w2 from E2.out); clear E2)
      | ((with_reducible refine wpList_at 10 rfl ?_); refine wpList_ld1 26 (.tmp 9) rfl rfl rfl Tryd.underlying26 rfl (CX.out _ E.out.below) ?_)
      | ((with_reducible refine wpList_at 12 rfl ?_); refine wpList_kn rfl (.bool false) (by exact exec_lssi rfl rfl rfl HL.out) ?_)
      | ((with_reducible refine wpList_at 17 rfl ?_); refine wpList_ld1 26 (.tmp 16) rfl rfl rfl Tryd.underlying26 rfl (CX.out _ E.out.below) ?_)
      | ((with_reducible refine wpList_at 18 rfl ?_); refine wpList_kn rfl (.slice p4 12 c4) (by exact exec_sl rfl (S4.out _)) ?_)
      | (go_at_call 31; (with_reducible refine (T4.out _ E.out.below).mono ?_); rintro e w4 ⟨rfl, rfl⟩)
      | ((with_reducible refine wpList_at 20 rfl ?_); refine wpList_bld 42 _ rfl rfl (ps := #[(0, .string cs)]) (by kernel_rfl) (built_frs cs) ?_)
      | ((with_reducible refine wpList_at 4 rfl ?_); refine mem_alloc E 42 rfl rfl infoFr ?_; clear E; intro b4 w4 E4; have E := Lib.hid (show Mem W [(b4, 42, fr0), (b2, 42, fr0)] w4 from E4.out); clear E4)
      | ((with_reducible refine wpList_atn rfl ?_); refine mem_store_row 0 E 42 rfl (.tmp 4) (.tmp 20) rfl rfl rfl rfl (by kernel_rfl) rfl (frV_one _ _ _ _) ?_; clear E; intro w5 E5; have E := Lib.hid (show Mem W [(b4, 42, frV cs (.slice none 0 0)), (b2, 42, fr0)] w5 from E5.out); clear E5)
      | ((with_reducible refine wpList_at 24 rfl ?_); refine wpList_ld1 26 (.tmp 23) rfl rfl rfl Tryd.underlying26 rfl (CX.out _ E.out.below) ?_)
      | ((with_reducible refine wpList_at 25 rfl ?_); refine wpList_kn rfl (.slice p0 4 c0) (by exact exec_sl rfl (S0.out _)) ?_)
      | (go_at_call 32; (with_reducible refine (N0.out _ E.out.below).mono ?_); rintro e w4 ⟨rfl, rfl⟩)
      | ((with_reducible refine wpList_at 27 rfl ?_); refine wpList_kn rfl (.bool false) (by exact exec_neq64 rfl rfl rfl HM.out) ?_)
      | ((with_reducible refine wpList_at 30 rfl ?_); refine mem_load_cell E 9 (by first | rfl | kernel_rfl) (.tmp 29) rfl rfl List.mem_cons_self Tryd.underlying9 rfl (v := .string cs) rfl ?_)
      | ((with_reducible refine wpList_at 31 rfl ?_); refine wpList_kn rfl (.bool false) (by exact exec_eqS false rfl rfl rfl HC.out) ?_)
      | ((with_reducible refine wpList_at 40 rfl ?_); refine wpList_ld1 26 (.tmp 39) rfl rfl rfl Tryd.underlying26 rfl (CX.out _ E.out.below) ?_)
      | ((with_reducible refine wpList_at 41 rfl ?_); refine wpList_kn rfl (.slice p16 4 c16) (by exact exec_sl rfl (S16.out _)) ?_)
      | (go_at_call 32; (with_reducible refine (N16.out _ E.out.below).mono ?_); rintro e w4 ⟨rfl, rfl⟩)
      | ((with_reducible refine wpList_at 44 rfl ?_); refine wpList_kn rfl (.bool true) (by exact exec_gtr64 rfl rfl rfl HG.out) ?_)
      | ((with_reducible refine wpList_atn rfl ?_); refine wpList_setc (show _ = some (Obj.cells #[.slice p n c, .int .i64 0] 29 (0, 0)) by rw [E.out.below.block bx (heap_lt CB.out)]; exact CB.out) rfl 27 (.tmp 47) (.const (.int .i64 91)) rfl rfl rfl (by kernel_rfl) rfl rfl rfl ?_; replace E := Lib.hid (E.out.setOld (j := 1) (v := .int .i64 91) CB.out))
      | ((with_reducible refine wpList_at 48 rfl ?_); refine wpList_bld 42 _ rfl rfl (ps := #[]) (by kernel_rfl) built_fr0 ?_)
      | ((with_reducible refine wpList_atn rfl ?_); refine mem_store_row 1 E 42 rfl (.tmp 2) (.tmp 48) rfl rfl rfl rfl (by kernel_rfl) rfl fr0_one ?_; clear E; intro w3 E3; have E := Lib.hid (show Mem (W.setCell ⟨bx, 1, none⟩ (.int .i64 91)) [(b4, 42, frV cs (.slice none 0 0)), (b2, 42, fr0)] w3 from E3.out); clear E3))
  exact bodyPost_ret (res_ct (fn := Tryd.f22) rfl _ _ _ rfl (E.out.get (List.mem_cons_of_mem _ List.mem_cons_self)) Tryd.underlying42 rfl (by kernel_rfl)) rfl ⟨rfl, by have := E.out.below; rwa [size_set] at this⟩

set_option maxHeartbeats 4000000 in
theorem rfirst_wait {W : World} {bx : Nat} {p p0 p4 p16 : Option Addr} {n c c0 c4 c16 L m : Nat} {cs : ByteArray} {zs : List Nat} (h : 24 ≤ n)
    (CX : Hid (∀ w', Below W.heap.size W w' → w'.cell? ⟨bx, 0, none⟩ = some (.slice p n c)))
    (S4 : Hid (∀ W', (Instr.sliceAt 26 (.slice p n c) (some (.int .i64 4)) (some (.int .i64 16)) none).run Tryd.prog W' = .ok (.slice p4 12 c4) W'))
    (T4 : Hid (∀ w', Below W.heap.size W w' → Calls Tryd.prog 31 #[.slice p4 12 c4] w' fun e w'' => e = .returned (.string cs) ∧ w' = w''))
    (S0 : Hid (∀ W', (Instr.sliceAt 26 (.slice p n c) none (some (.int .i64 4)) none).run Tryd.prog W' = .ok (.slice p0 4 c0) W'))
    (N0 : Hid (∀ w', Below W.heap.size W w' → Calls Tryd.prog 32 #[.slice p0 4 c0] w' fun e w'' => e = .returned (.int .u64 (m : Int)) ∧ w' = w'')) (hm : m = 3652501241) (hc : cs ≠ ⟨#[]⟩)
    (S16 : Hid (∀ W', (Instr.sliceAt 26 (.slice p n c) (some (.int .i64 16)) (some (.int .i64 20)) none).run Tryd.prog W' = .ok (.slice p16 4 c16) W'))
    (N16 : Hid (∀ w', Below W.heap.size W w' → Calls Tryd.prog 32 #[.slice p16 4 c16] w' fun e w'' => e = .returned (.int .u64 (L : Int)) ∧ w' = w'')) (hn : n ≤ 140737488351232) (hl : L ≤ 200000) (hw : n < 24 + L) : Calls Tryd.prog 22 #[.pointer (some ⟨bx, 0, none⟩)] W (RFirstEnd bx zs W .wait) := by
  have HW := Lib.hid (show decide (((n - 24 : Nat) : Int) < (L : Int)) = true from decide_eq_true (by omega))
  have HS := Lib.hid (show IntKind.i64.wrap ((n : Int) - 24) = ((n - 24 : Nat) : Int) by rw [IntKind.wrap_i64]; omega)
  have HS2 := Lib.hid (show ((n - 24 : Nat) : Int) ≤ 9223372036854775807 by omega)
  have E := Lib.hid (Mem.nil W)
  have HL := Lib.hid (show decide ((n : Int) < 24) = false from decide_eq_false (by omega))
  clear h
  have HM := Lib.hid (show decide ((m : Int) = 3652501241) = !false from decide_eq_true (by omega))
  clear hm
  have HC := Lib.hid (show cs = ⟨#[]⟩ ↔ false = true from ⟨fun q => absurd q hc, fun q => by cases q⟩)
  clear hc
  have HG := Lib.hid (show decide ((200000 : Int) < (L : Int)) = false from decide_eq_false (by omega))
  clear hl hw
  go_enter Tryd.func22, Tryd.ntmps22
  go_wp2_with (first
      | ((with_reducible refine wpList_at 2 rfl ?_); refine mem_alloc E 42 rfl rfl infoFr ?_; clear E; intro b2 w2 E2; have E := Lib.hid (show Mem W [(b2, 42, fr0)] w2 from E2.out); clear E2)
      | ((with_reducible refine wpList_at 10 rfl ?_); refine wpList_ld1 26 (.tmp 9) rfl rfl rfl Tryd.underlying26 rfl (CX.out _ E.out.below) ?_)
      | ((with_reducible refine wpList_at 12 rfl ?_); refine wpList_kn rfl (.bool false) (by exact exec_lssi rfl rfl rfl HL.out) ?_)
      | ((with_reducible refine wpList_at 17 rfl ?_); refine wpList_ld1 26 (.tmp 16) rfl rfl rfl Tryd.underlying26 rfl (CX.out _ E.out.below) ?_)
      | ((with_reducible refine wpList_at 18 rfl ?_); refine wpList_kn rfl (.slice p4 12 c4) (by exact exec_sl rfl (S4.out _)) ?_)
      | (go_at_call 31; (with_reducible refine (T4.out _ E.out.below).mono ?_); rintro e w4 ⟨rfl, rfl⟩)
      | ((with_reducible refine wpList_at 20 rfl ?_); refine wpList_bld 42 _ rfl rfl (ps := #[(0, .string cs)]) (by kernel_rfl) (built_frs cs) ?_)
      | ((with_reducible refine wpList_at 4 rfl ?_); refine mem_alloc E 42 rfl rfl infoFr ?_; clear E; intro b4 w4 E4; have E := Lib.hid (show Mem W [(b4, 42, fr0), (b2, 42, fr0)] w4 from E4.out); clear E4)
      | ((with_reducible refine wpList_atn rfl ?_); refine mem_store_row 0 E 42 rfl (.tmp 4) (.tmp 20) rfl rfl rfl rfl (by kernel_rfl) rfl (frV_one _ _ _ _) ?_; clear E; intro w5 E5; have E := Lib.hid (show Mem W [(b4, 42, frV cs (.slice none 0 0)), (b2, 42, fr0)] w5 from E5.out); clear E5)
      | ((with_reducible refine wpList_at 24 rfl ?_); refine wpList_ld1 26 (.tmp 23) rfl rfl rfl Tryd.underlying26 rfl (CX.out _ E.out.below) ?_)
      | ((with_reducible refine wpList_at 25 rfl ?_); refine wpList_kn rfl (.slice p0 4 c0) (by exact exec_sl rfl (S0.out _)) ?_)
      | (go_at_call 32; (with_reducible refine (N0.out _ E.out.below).mono ?_); rintro e w4 ⟨rfl, rfl⟩)
      | ((with_reducible refine wpList_at 27 rfl ?_); refine wpList_kn rfl (.bool false) (by exact exec_neq64 rfl rfl rfl HM.out) ?_)
      | ((with_reducible refine wpList_at 30 rfl ?_); refine mem_load_cell E 9 (by first | rfl | kernel_rfl) (.tmp 29) rfl rfl List.mem_cons_self Tryd.underlying9 rfl (v := .string cs) rfl ?_)
      | ((with_reducible refine wpList_at 31 rfl ?_); refine wpList_kn rfl (.bool false) (by exact exec_eqS false rfl rfl rfl HC.out) ?_)
      | ((with_reducible refine wpList_at 40 rfl ?_); refine wpList_ld1 26 (.tmp 39) rfl rfl rfl Tryd.underlying26 rfl (CX.out _ E.out.below) ?_)
      | ((with_reducible refine wpList_at 41 rfl ?_); refine wpList_kn rfl (.slice p16 4 c16) (by exact exec_sl rfl (S16.out _)) ?_)
      | (go_at_call 32; (with_reducible refine (N16.out _ E.out.below).mono ?_); rintro e w4 ⟨rfl, rfl⟩)
      | ((with_reducible refine wpList_at 44 rfl ?_); refine wpList_kn rfl (.bool false) (by exact exec_gtr64 rfl rfl rfl HG.out) ?_)
      | ((with_reducible refine wpList_at 52 rfl ?_); refine wpList_ld1 26 (.tmp 51) rfl rfl rfl Tryd.underlying26 rfl (CX.out _ E.out.below) ?_)
      | ((with_reducible refine wpList_at 54 rfl ?_); refine wpList_kn rfl (.int .i64 ((n - 24 : Nat) : Int)) (by exact exec_sub rfl rfl rfl HS.out) ?_)
      | ((with_reducible refine wpList_at 55 rfl ?_); refine wpList_kn rfl (.int .u64 ((n - 24 : Nat) : Int)) (by exact exec_subc rfl rfl HS2.out) ?_)
      | ((with_reducible refine wpList_at 57 rfl ?_); refine wpList_kn rfl (.bool true) (by exact exec_lss64 rfl rfl rfl HW.out) ?_)
      | ((with_reducible refine wpList_at 58 rfl ?_); refine wpList_bld 42 _ rfl rfl (ps := #[]) (by kernel_rfl) built_fr0 ?_)
      | ((with_reducible refine wpList_atn rfl ?_); refine mem_store_row 1 E 42 rfl (.tmp 2) (.tmp 58) rfl rfl rfl rfl (by kernel_rfl) rfl fr0_one ?_; clear E; intro w3 E3; have E := Lib.hid (show Mem (W) [(b4, 42, frV cs (.slice none 0 0)), (b2, 42, fr0)] w3 from E3.out); clear E3))
  exact bodyPost_ret (res_ct (fn := Tryd.f22) rfl _ _ _ rfl (E.out.get (List.mem_cons_of_mem _ List.mem_cons_self)) Tryd.underlying42 rfl (by kernel_rfl)) rfl ⟨rfl, E.out.below⟩
end Go.Proofs.YtkjcljobcidhfaaDoor
