/- The frame at the beginning of bytes, the program's. -/
import Derived.Test.YtkjcljobcidhfaaDoorGa
import Derived.Test.YtkjcljobcidhfaaDoorGt
import Derived.Test.YtkjcljobcidhfaaDoorNb
set_option linter.unusedSimpArgs false
set_option linter.unusedVariables false
set_option maxRecDepth 100000
namespace Go.Proofs.YtkjcljobcidhfaaDoor
open Go.RowKit Go.Lib Go.Sort

section
variable {ops : Array Oper} {rest : List Oper} {Q : Exit → Act → World → Prop} {op : Oper} {a : Act} {w : World}
theorem wpList_at {P : Program} (t : Nat) (hd : op.dst = some t) (h : wpList P ops Q (op :: rest) a w) : wpList P ops Q (op :: rest) a w := h
theorem wpList_atn {P : Program} (hd : op.dst = none) (h : wpList P ops Q (op :: rest) a w) : wpList P ops Q (op :: rest) a w := h
theorem wpList_kn {P : Program} (hw : Region.wanted op (yielded ops a.tmps) = true) (v : Value) (hrun : (execOp a.eval op).run P w = .ok (.value v) w) (h : wpList P ops Q rest (a.put op.dst v) w) : wpList P ops Q (op :: rest) a w := BigFrame.wpList_want hw fun K hK => mo_known v w hrun (hK _ _ h)
end
theorem res_ctt {P : Program} {fn : Func} {p q u : Tmp} {ty : TypeId} (h : fn.results = #[.cell p ty, .tmp u, .tmp q]) (tmps : Array Value) (w : World) {g T : Nat} {cs : Array Value} (d : TypeDesc)
    (hp : tmps.getD p undef = .pointer (some ⟨g, 0, none⟩)) (hg : w.heap[g]? = some (.cells cs T (0, 0))) (hu : P.underlying ty = some d) (hd : (match d with | .struct _ | .array _ _ => true | _ => false) = true) (hi : (P.info? ty).map (·.size) = some cs.size) :
    (results fn tmps).run P w = .ok (.tuple #[.agg cs, tmps.getD u undef, tmps.getD q undef]) w := by
  have hp' : tmps[p]?.getD undef = .pointer (some ⟨g, 0, none⟩) := by simpa using hp
  have e := run_loadVar_row (P := P) w g T ty cs (0, 0) d hg hu hd hi
  simp [results, h, hp', asAddr, e]
theorem exec_neq64 {o : Oper} {ev : Operand → Value} {W : World} {x y : Operand} {a b : Int} {q : Bool} (ho : o.op = .binOp .neq 66 x y 66) (hx : ev x = .int .u64 a) (hy : ev y = .int .u64 b) (hq : decide (a = b) = !q) : (execOp ev o).run Tryd.prog W = .ok (.value (.bool q)) W := by
  obtain rfl : q = !decide (a = b) := by rw [hq]; simp
  unfold execOp
  by_cases h : a = b
  · subst h
    simp [ho, hx, hy, go_sem, Tryd.underlying66]
  · simp [ho, hx, hy, go_sem, Tryd.underlying66, h]
theorem exec_gtr64 {o : Oper} {ev : Operand → Value} {W : World} {x y : Operand} {a b : Int} {q : Bool} (ho : o.op = .binOp .gtr 66 x y 66) (hx : ev x = .int .u64 a) (hy : ev y = .int .u64 b) (hq : decide (b < a) = q) : (execOp ev o).run Tryd.prog W = .ok (.value (.bool q)) W := by
  subst hq
  unfold execOp
  by_cases h : b < a
  · simp [ho, hx, hy, go_sem, Tryd.underlying66, h]
  · simp [ho, hx, hy, go_sem, Tryd.underlying66, h]
theorem exec_lssi {o : Oper} {ev : Operand → Value} {W : World} {x y : Operand} {a b : Int} {q : Bool} (ho : o.op = .binOp .lss 3 x y 3) (hx : ev x = .int .i64 a) (hy : ev y = .int .i64 b) (hq : decide (a < b) = q) : (execOp ev o).run Tryd.prog W = .ok (.value (.bool q)) W := by
  subst hq
  unfold execOp
  by_cases h : a < b
  · simp [ho, hx, hy, go_sem, Tryd.underlying3, h]
  · simp [ho, hx, hy, go_sem, Tryd.underlying3, h]
theorem exec_cvi {o : Oper} {ev : Operand → Value} {W : World} {x : Operand} {a : Nat} (ho : o.op = .convert 66 3 x) (hx : ev x = .int .u64 (a : Int)) (hr : (a : Int) ≤ 9223372036854775807) : (execOp ev o).run Tryd.prog W = .ok (.value (.int .i64 (a : Int))) W := by
  have e : IntKind.i64.wrap (a : Int) = (a : Int) := by rw [IntKind.wrap_i64]; omega
  unfold execOp
  simp [ho, hx, go_sem, convert, Tryd.underlying66, Tryd.underlying3, e]
theorem exec_cvs {o : Oper} {ev : Operand → Value} {W W' : World} {S T : TypeId} {x : Operand} {u : Value} (ho : o.op = .convert S T x) (h : (convert S T (ev x)).run Tryd.prog W = .ok u W') : (execOp ev o).run Tryd.prog W = .ok (.value u) W' := by
  unfold execOp
  simp [ho, h]
theorem exec_neqA {o : Oper} {ev : Operand → Value} {T R : TypeId} {x y : Operand} {a b : Array Value} {W : World} (ho : o.op = .binOp .neq T x y R) (hx : ev x = .agg a) (hy : ev y = .agg b) (hm : Tryd.prog.eqGuardType Tryd.prog.depth T = false) {r : Bool} (h : (Op.equalIn 10000 T (.agg a) (.agg b)).run Tryd.prog W = .ok r W) : (execOp ev o).run Tryd.prog W = .ok (.value (.bool (!r))) W := by
  unfold execOp
  simp only [ho, hx, hy, Sem.run_bind, run_eqGuard_agg W .neq T x y a b hm, run_neq_struct, h, Result.andThen_ok]
  rfl
def frV (s : ByteArray) (v : Value) : Array Value := #[.string s, v]
def fr0 : Array Value := frV ⟨#[]⟩ (.slice none 0 0)
theorem infoFr : (Tryd.prog.info? 42).map (fun i => (i.zero, i.size)) = some (some (.agg fr0), 2) := by kernel_rfl
theorem built_fr0 : Tryd.prog.built 42 (#[] : Array (Nat × Value)).toList = some fr0 := by kernel_rfl
theorem built_frv (s : ByteArray) (p : Option Addr) (n c : Nat) : Tryd.prog.built 42 (#[(0, .string s), (1, .slice p n c)] : Array (Nat × Value)).toList = some (frV s (.slice p n c)) := by kernel_rfl
theorem frV_one (s : ByteArray) (p : Option Addr) (n c : Nat) : (frV s (.slice p n c)).all (·.oneCell') = true := Array.all_eq_true_iff_forall_mem.2 fun v hv => by
  simp [frV] at hv
  rcases hv with rfl | rfl <;> rfl
theorem fr0_one : fr0.all (·.oneCell') = true := frV_one _ _ _ _
/-- How first ends. -/
def FirstEnd (W : World) (r : FrR) (e : Ending) (w' : World) : Prop :=
  Below W.heap.size W w' ∧ match r with
  | .wait => e = .returned (.tuple #[.agg fr0, .int .i64 0, .int .i64 0])
  | .bad q => e = .returned (.tuple #[.agg fr0, .int .i64 0, .int .i64 q])
  | .frame k s pay => ∃ p g c, e = .returned (.tuple #[.agg (frV s (.slice p pay.length c)), .int .i64 ((24 + pay.length : Nat) : Int), .int .i64 0]) ∧ Own W.heap.size w' p g pay.length c (lf pay)

set_option maxHeartbeats 4000000 in
theorem first_short {W : World} {p : Option Addr} {n c : Nat} (h : n < 24) : Calls Tryd.prog 18 #[.slice p n c] W (FirstEnd W .wait) := by
  have E := Lib.hid (Mem.nil W)
  have HL := Lib.hid (show decide ((n : Int) < 24) = true from decide_eq_true (by omega))
  clear h
  go_enter Tryd.func18, Tryd.ntmps18
  go_wp2_with (first
      | (refine mem_alloc E 42 rfl rfl infoFr ?_; clear E; intro b2 w2 E2; have E := Lib.hid (show Mem W [(b2, 42, fr0)] w2 from E2.out); clear E2)
      | ((with_reducible refine wpList_at 11 rfl ?_); refine wpList_kn rfl (.bool true) (by exact exec_lssi rfl rfl rfl HL.out) ?_)
      | ((with_reducible refine wpList_at 12 rfl ?_); refine wpList_bld 42 _ rfl rfl (ps := #[]) (by kernel_rfl) built_fr0 ?_)
      | ((with_reducible refine wpList_atn rfl ?_); refine mem_store_row 0 E 42 rfl (.tmp 2) (.tmp 12) rfl rfl rfl rfl (by kernel_rfl) rfl fr0_one ?_; clear E; intro w3 E3; have E := Lib.hid (show Mem W [(b2, 42, fr0)] w3 from E3.out); clear E3))
  exact bodyPost_ret (res_ctt (fn := Tryd.f18) rfl _ _ _ rfl (E.out.get List.mem_cons_self) Tryd.underlying42 rfl (by kernel_rfl)) rfl ⟨E.out.below, rfl⟩

set_option maxHeartbeats 4000000 in
theorem first_magic {W : World} {p p0 p4 : Option Addr} {n c c0 c4 k m : Nat} {s : ByteArray} (h : 24 ≤ n)
    (S4 : Hid (∀ W', (Instr.sliceAt 26 (.slice p n c) (some (.int .i64 4)) (some (.int .i64 16)) none).run Tryd.prog W' = .ok (.slice p4 12 c4) W'))
    (T4 : Hid (∀ w', Below W.heap.size W w' → Calls Tryd.prog 29 #[.slice p4 12 c4, .string ⟨#[0]⟩] w' fun e w'' => e = .returned (.slice p4 k c4) ∧ w' = w''))
    (V4 : Hid (∀ w', Below W.heap.size W w' → (convert 26 9 (.slice p4 k c4)).run Tryd.prog w' = .ok (.string s) w'))
    (S0 : Hid (∀ W', (Instr.sliceAt 26 (.slice p n c) none (some (.int .i64 4)) none).run Tryd.prog W' = .ok (.slice p0 4 c0) W'))
    (N0 : Hid (∀ w', Below W.heap.size W w' → Calls Tryd.prog 30 #[.slice p0 4 c0] w' fun e w'' => e = .returned (.int .u64 (m : Int)) ∧ w' = w'')) (hm : m ≠ 3652501241) : Calls Tryd.prog 18 #[.slice p n c] W (FirstEnd W (.bad 90)) := by
  have E := Lib.hid (Mem.nil W)
  have HL := Lib.hid (show decide ((n : Int) < 24) = false from decide_eq_false (by omega))
  clear h
  have HM := Lib.hid (show decide ((m : Int) = 3652501241) = !true from decide_eq_false (by omega))
  clear hm
  go_enter Tryd.func18, Tryd.ntmps18
  go_wp2_with (first
      | (refine mem_alloc E 42 rfl rfl infoFr ?_; clear E; intro b2 w2 E2; have E := Lib.hid (show Mem W [(b2, 42, fr0)] w2 from E2.out); clear E2)
      | ((with_reducible refine wpList_at 11 rfl ?_); refine wpList_kn rfl (.bool false) (by exact exec_lssi rfl rfl rfl HL.out) ?_)
      | ((with_reducible refine wpList_at 14 rfl ?_); refine wpList_kn rfl (.slice p4 12 c4) (by exact exec_sl rfl (S4.out _)) ?_)
      | (go_at_call 29; (with_reducible refine (T4.out _ E.out.below).mono ?_); rintro e w4 ⟨rfl, rfl⟩)
      | ((with_reducible refine wpList_at 16 rfl ?_); refine wpList_kn rfl (.string s) (by exact exec_cvs rfl (V4.out _ E.out.below)) ?_)
      | ((with_reducible refine wpList_at 18 rfl ?_); refine wpList_kn rfl (.slice p0 4 c0) (by exact exec_sl rfl (S0.out _)) ?_)
      | (go_at_call 30; (with_reducible refine (N0.out _ E.out.below).mono ?_); rintro e w4 ⟨rfl, rfl⟩)
      | ((with_reducible refine wpList_at 20 rfl ?_); refine wpList_kn rfl (.bool true) (by exact exec_neq64 rfl rfl rfl HM.out) ?_)
      | ((with_reducible refine wpList_at 26 rfl ?_); refine wpList_bld 42 _ rfl rfl (ps := #[]) (by kernel_rfl) built_fr0 ?_)
      | ((with_reducible refine wpList_atn rfl ?_); refine mem_store_row 0 E 42 rfl (.tmp 2) (.tmp 26) rfl rfl rfl rfl (by kernel_rfl) rfl fr0_one ?_; clear E; intro w3 E3; have E := Lib.hid (show Mem W [(b2, 42, fr0)] w3 from E3.out); clear E3))
  exact bodyPost_ret (res_ctt (fn := Tryd.f18) rfl _ _ _ rfl (E.out.get List.mem_cons_self) Tryd.underlying42 rfl (by kernel_rfl)) rfl ⟨E.out.below, rfl⟩

set_option maxHeartbeats 4000000 in
theorem first_com {W : World} {p p0 p4 : Option Addr} {n c c0 c4 k m : Nat} {s : ByteArray} (h : 24 ≤ n)
    (S4 : Hid (∀ W', (Instr.sliceAt 26 (.slice p n c) (some (.int .i64 4)) (some (.int .i64 16)) none).run Tryd.prog W' = .ok (.slice p4 12 c4) W'))
    (T4 : Hid (∀ w', Below W.heap.size W w' → Calls Tryd.prog 29 #[.slice p4 12 c4, .string ⟨#[0]⟩] w' fun e w'' => e = .returned (.slice p4 k c4) ∧ w' = w''))
    (V4 : Hid (∀ w', Below W.heap.size W w' → (convert 26 9 (.slice p4 k c4)).run Tryd.prog w' = .ok (.string s) w'))
    (S0 : Hid (∀ W', (Instr.sliceAt 26 (.slice p n c) none (some (.int .i64 4)) none).run Tryd.prog W' = .ok (.slice p0 4 c0) W'))
    (N0 : Hid (∀ w', Below W.heap.size W w' → Calls Tryd.prog 30 #[.slice p0 4 c0] w' fun e w'' => e = .returned (.int .u64 (m : Int)) ∧ w' = w''))
    (I : Hid (∀ w', Calls Tryd.prog 26 #[.string s] w' fun e w'' => e = .returned (.bool false) ∧ Below w'.heap.size w' w'')) (hm : m = 3652501241) : Calls Tryd.prog 18 #[.slice p n c] W (FirstEnd W (.bad 90)) := by
  have E := Lib.hid (Mem.nil W)
  have HL := Lib.hid (show decide ((n : Int) < 24) = false from decide_eq_false (by omega))
  clear h
  have HM := Lib.hid (show decide ((m : Int) = 3652501241) = !false from decide_eq_true (by omega))
  clear hm
  go_enter Tryd.func18, Tryd.ntmps18
  go_wp2_with (first
      | (refine mem_alloc E 42 rfl rfl infoFr ?_; clear E; intro b2 w2 E2; have E := Lib.hid (show Mem W [(b2, 42, fr0)] w2 from E2.out); clear E2)
      | ((with_reducible refine wpList_at 11 rfl ?_); refine wpList_kn rfl (.bool false) (by exact exec_lssi rfl rfl rfl HL.out) ?_)
      | ((with_reducible refine wpList_at 14 rfl ?_); refine wpList_kn rfl (.slice p4 12 c4) (by exact exec_sl rfl (S4.out _)) ?_)
      | (go_at_call 29; (with_reducible refine (T4.out _ E.out.below).mono ?_); rintro e w4 ⟨rfl, rfl⟩)
      | ((with_reducible refine wpList_at 16 rfl ?_); refine wpList_kn rfl (.string s) (by exact exec_cvs rfl (V4.out _ E.out.below)) ?_)
      | ((with_reducible refine wpList_at 18 rfl ?_); refine wpList_kn rfl (.slice p0 4 c0) (by exact exec_sl rfl (S0.out _)) ?_)
      | (go_at_call 30; (with_reducible refine (N0.out _ E.out.below).mono ?_); rintro e w4 ⟨rfl, rfl⟩)
      | ((with_reducible refine wpList_at 20 rfl ?_); refine wpList_kn rfl (.bool false) (by exact exec_neq64 rfl rfl rfl HM.out) ?_)
      | (go_at_call 26; refine (I.out _).mono ?_; rintro e w4 ⟨rfl, hb⟩; replace E := Lib.hid (E.out.call hb); clear hb)
      | ((with_reducible refine wpList_at 26 rfl ?_); refine wpList_bld 42 _ rfl rfl (ps := #[]) (by kernel_rfl) built_fr0 ?_)
      | ((with_reducible refine wpList_atn rfl ?_); refine mem_store_row 0 E 42 rfl (.tmp 2) (.tmp 26) rfl rfl rfl rfl (by kernel_rfl) rfl fr0_one ?_; clear E; intro w3 E3; have E := Lib.hid (show Mem W [(b2, 42, fr0)] w3 from E3.out); clear E3))
  exact bodyPost_ret (res_ctt (fn := Tryd.f18) rfl _ _ _ rfl (E.out.get List.mem_cons_self) Tryd.underlying42 rfl (by kernel_rfl)) rfl ⟨E.out.below, rfl⟩

set_option maxHeartbeats 4000000 in
theorem first_long {W : World} {p p0 p4 p16 : Option Addr} {n c c0 c4 c16 L k m : Nat} {s : ByteArray} (h : 24 ≤ n)
    (S4 : Hid (∀ W', (Instr.sliceAt 26 (.slice p n c) (some (.int .i64 4)) (some (.int .i64 16)) none).run Tryd.prog W' = .ok (.slice p4 12 c4) W'))
    (T4 : Hid (∀ w', Below W.heap.size W w' → Calls Tryd.prog 29 #[.slice p4 12 c4, .string ⟨#[0]⟩] w' fun e w'' => e = .returned (.slice p4 k c4) ∧ w' = w''))
    (V4 : Hid (∀ w', Below W.heap.size W w' → (convert 26 9 (.slice p4 k c4)).run Tryd.prog w' = .ok (.string s) w'))
    (S0 : Hid (∀ W', (Instr.sliceAt 26 (.slice p n c) none (some (.int .i64 4)) none).run Tryd.prog W' = .ok (.slice p0 4 c0) W'))
    (N0 : Hid (∀ w', Below W.heap.size W w' → Calls Tryd.prog 30 #[.slice p0 4 c0] w' fun e w'' => e = .returned (.int .u64 (m : Int)) ∧ w' = w''))
    (I : Hid (∀ w', Calls Tryd.prog 26 #[.string s] w' fun e w'' => e = .returned (.bool true) ∧ Below w'.heap.size w' w'')) (hm : m = 3652501241)
    (S16 : Hid (∀ W', (Instr.sliceAt 26 (.slice p n c) (some (.int .i64 16)) (some (.int .i64 20)) none).run Tryd.prog W' = .ok (.slice p16 4 c16) W'))
    (N16 : Hid (∀ w', Below W.heap.size W w' → Calls Tryd.prog 30 #[.slice p16 4 c16] w' fun e w'' => e = .returned (.int .u64 (L : Int)) ∧ w' = w'')) (hl : 200000 < L) : Calls Tryd.prog 18 #[.slice p n c] W (FirstEnd W (.bad 91)) := by
  have E := Lib.hid (Mem.nil W)
  have HL := Lib.hid (show decide ((n : Int) < 24) = false from decide_eq_false (by omega))
  clear h
  have HM := Lib.hid (show decide ((m : Int) = 3652501241) = !false from decide_eq_true (by omega))
  clear hm
  have HG := Lib.hid (show decide ((200000 : Int) < (L : Int)) = true from decide_eq_true (by omega))
  clear hl
  go_enter Tryd.func18, Tryd.ntmps18
  go_wp2_with (first
      | (refine mem_alloc E 42 rfl rfl infoFr ?_; clear E; intro b2 w2 E2; have E := Lib.hid (show Mem W [(b2, 42, fr0)] w2 from E2.out); clear E2)
      | ((with_reducible refine wpList_at 11 rfl ?_); refine wpList_kn rfl (.bool false) (by exact exec_lssi rfl rfl rfl HL.out) ?_)
      | ((with_reducible refine wpList_at 14 rfl ?_); refine wpList_kn rfl (.slice p4 12 c4) (by exact exec_sl rfl (S4.out _)) ?_)
      | (go_at_call 29; (with_reducible refine (T4.out _ E.out.below).mono ?_); rintro e w4 ⟨rfl, rfl⟩)
      | ((with_reducible refine wpList_at 16 rfl ?_); refine wpList_kn rfl (.string s) (by exact exec_cvs rfl (V4.out _ E.out.below)) ?_)
      | ((with_reducible refine wpList_at 18 rfl ?_); refine wpList_kn rfl (.slice p0 4 c0) (by exact exec_sl rfl (S0.out _)) ?_)
      | (go_at_call 30; (with_reducible refine (N0.out _ E.out.below).mono ?_); rintro e w4 ⟨rfl, rfl⟩)
      | ((with_reducible refine wpList_at 20 rfl ?_); refine wpList_kn rfl (.bool false) (by exact exec_neq64 rfl rfl rfl HM.out) ?_)
      | (go_at_call 26; refine (I.out _).mono ?_; rintro e w4 ⟨rfl, hb⟩; replace E := Lib.hid (E.out.call hb); clear hb)
      | ((with_reducible refine wpList_at 28 rfl ?_); refine wpList_kn rfl (.slice p16 4 c16) (by exact exec_sl rfl (S16.out _)) ?_)
      | (go_at_call 30; (with_reducible refine (N16.out _ E.out.below).mono ?_); rintro e w4 ⟨rfl, rfl⟩)
      | ((with_reducible refine wpList_at 31 rfl ?_); refine wpList_kn rfl (.bool true) (by exact exec_gtr64 rfl rfl rfl HG.out) ?_)
      | ((with_reducible refine wpList_at 32 rfl ?_); refine wpList_bld 42 _ rfl rfl (ps := #[]) (by kernel_rfl) built_fr0 ?_)
      | ((with_reducible refine wpList_atn rfl ?_); refine mem_store_row 0 E 42 rfl (.tmp 2) (.tmp 32) rfl rfl rfl rfl (by kernel_rfl) rfl fr0_one ?_; clear E; intro w3 E3; have E := Lib.hid (show Mem W [(b2, 42, fr0)] w3 from E3.out); clear E3))
  exact bodyPost_ret (res_ctt (fn := Tryd.f18) rfl _ _ _ rfl (E.out.get List.mem_cons_self) Tryd.underlying42 rfl (by kernel_rfl)) rfl ⟨E.out.below, rfl⟩

set_option maxHeartbeats 4000000 in
theorem first_wait {W : World} {p p0 p4 p16 : Option Addr} {n c c0 c4 c16 L k m : Nat} {s : ByteArray} (h : 24 ≤ n)
    (S4 : Hid (∀ W', (Instr.sliceAt 26 (.slice p n c) (some (.int .i64 4)) (some (.int .i64 16)) none).run Tryd.prog W' = .ok (.slice p4 12 c4) W'))
    (T4 : Hid (∀ w', Below W.heap.size W w' → Calls Tryd.prog 29 #[.slice p4 12 c4, .string ⟨#[0]⟩] w' fun e w'' => e = .returned (.slice p4 k c4) ∧ w' = w''))
    (V4 : Hid (∀ w', Below W.heap.size W w' → (convert 26 9 (.slice p4 k c4)).run Tryd.prog w' = .ok (.string s) w'))
    (S0 : Hid (∀ W', (Instr.sliceAt 26 (.slice p n c) none (some (.int .i64 4)) none).run Tryd.prog W' = .ok (.slice p0 4 c0) W'))
    (N0 : Hid (∀ w', Below W.heap.size W w' → Calls Tryd.prog 30 #[.slice p0 4 c0] w' fun e w'' => e = .returned (.int .u64 (m : Int)) ∧ w' = w''))
    (I : Hid (∀ w', Calls Tryd.prog 26 #[.string s] w' fun e w'' => e = .returned (.bool true) ∧ Below w'.heap.size w' w'')) (hm : m = 3652501241)
    (S16 : Hid (∀ W', (Instr.sliceAt 26 (.slice p n c) (some (.int .i64 16)) (some (.int .i64 20)) none).run Tryd.prog W' = .ok (.slice p16 4 c16) W'))
    (N16 : Hid (∀ w', Below W.heap.size W w' → Calls Tryd.prog 30 #[.slice p16 4 c16] w' fun e w'' => e = .returned (.int .u64 (L : Int)) ∧ w' = w'')) (hl : L ≤ 200000) (hw : n < 24 + L) : Calls Tryd.prog 18 #[.slice p n c] W (FirstEnd W .wait) := by
  have E := Lib.hid (Mem.nil W)
  have HL := Lib.hid (show decide ((n : Int) < 24) = false from decide_eq_false (by omega))
  clear h
  have HM := Lib.hid (show decide ((m : Int) = 3652501241) = !false from decide_eq_true (by omega))
  clear hm
  have HG := Lib.hid (show decide ((200000 : Int) < (L : Int)) = false from decide_eq_false (by omega))
  have HG2 := Lib.hid (show (L : Int) ≤ 9223372036854775807 by omega)
  have HG3 := Lib.hid (show IntKind.i64.wrap ((24 : Int) + (L : Int)) = ((24 + L : Nat) : Int) by rw [IntKind.wrap_i64]; omega)
  have HW := Lib.hid (show decide ((n : Int) < ((24 + L : Nat) : Int)) = true from decide_eq_true (by omega))
  clear hl hw
  go_enter Tryd.func18, Tryd.ntmps18
  go_wp2_with (first
      | (refine mem_alloc E 42 rfl rfl infoFr ?_; clear E; intro b2 w2 E2; have E := Lib.hid (show Mem W [(b2, 42, fr0)] w2 from E2.out); clear E2)
      | ((with_reducible refine wpList_at 11 rfl ?_); refine wpList_kn rfl (.bool false) (by exact exec_lssi rfl rfl rfl HL.out) ?_)
      | ((with_reducible refine wpList_at 14 rfl ?_); refine wpList_kn rfl (.slice p4 12 c4) (by exact exec_sl rfl (S4.out _)) ?_)
      | (go_at_call 29; (with_reducible refine (T4.out _ E.out.below).mono ?_); rintro e w4 ⟨rfl, rfl⟩)
      | ((with_reducible refine wpList_at 16 rfl ?_); refine wpList_kn rfl (.string s) (by exact exec_cvs rfl (V4.out _ E.out.below)) ?_)
      | ((with_reducible refine wpList_at 18 rfl ?_); refine wpList_kn rfl (.slice p0 4 c0) (by exact exec_sl rfl (S0.out _)) ?_)
      | (go_at_call 30; (with_reducible refine (N0.out _ E.out.below).mono ?_); rintro e w4 ⟨rfl, rfl⟩)
      | ((with_reducible refine wpList_at 20 rfl ?_); refine wpList_kn rfl (.bool false) (by exact exec_neq64 rfl rfl rfl HM.out) ?_)
      | (go_at_call 26; refine (I.out _).mono ?_; rintro e w4 ⟨rfl, hb⟩; replace E := Lib.hid (E.out.call hb); clear hb)
      | ((with_reducible refine wpList_at 28 rfl ?_); refine wpList_kn rfl (.slice p16 4 c16) (by exact exec_sl rfl (S16.out _)) ?_)
      | (go_at_call 30; (with_reducible refine (N16.out _ E.out.below).mono ?_); rintro e w4 ⟨rfl, rfl⟩)
      | ((with_reducible refine wpList_at 31 rfl ?_); refine wpList_kn rfl (.bool false) (by exact exec_gtr64 rfl rfl rfl HG.out) ?_)
      | ((with_reducible refine wpList_at 34 rfl ?_); refine wpList_kn rfl (.int .i64 (L : Int)) (by exact exec_cvi rfl rfl HG2.out) ?_)
      | ((with_reducible refine wpList_at 35 rfl ?_); refine wpList_kn rfl (.int .i64 ((24 + L : Nat) : Int)) (by exact exec_add rfl rfl rfl HG3.out) ?_)
      | ((with_reducible refine wpList_at 39 rfl ?_); refine wpList_kn rfl (.bool true) (by exact exec_lssi rfl rfl rfl HW.out) ?_)
      | ((with_reducible refine wpList_at 40 rfl ?_); refine wpList_bld 42 _ rfl rfl (ps := #[]) (by kernel_rfl) built_fr0 ?_)
      | ((with_reducible refine wpList_atn rfl ?_); refine mem_store_row 0 E 42 rfl (.tmp 2) (.tmp 40) rfl rfl rfl rfl (by kernel_rfl) rfl fr0_one ?_; clear E; intro w3 E3; have E := Lib.hid (show Mem W [(b2, 42, fr0)] w3 from E3.out); clear E3))
  exact bodyPost_ret (res_ctt (fn := Tryd.f18) rfl _ _ _ rfl (E.out.get List.mem_cons_self) Tryd.underlying42 rfl (by kernel_rfl)) rfl ⟨E.out.below, rfl⟩
end Go.Proofs.YtkjcljobcidhfaaDoor
