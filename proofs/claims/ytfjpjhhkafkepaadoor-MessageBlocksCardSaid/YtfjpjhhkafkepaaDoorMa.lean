/- A small message is read: awake of the messages' statements. -/
import Derived.Test.YtfjpjhhkafkepaaDoorMl
import Derived.Defers
import Derived.Recover
import Derived.Deep.LoopGhost
set_option linter.unusedSimpArgs false
set_option linter.unusedVariables false
set_option maxRecDepth 100000
namespace Go.Proofs.YtfjpjhhkafkepaaDoor
open Go.RowKit Go.Lib Go.Sort Go.WideShapes

theorem wp_region_T {P : Program} {ops : Array Oper} {Q : Exit → Act → World → Prop} {Φ S : World → Prop} {w : World} {id : Nat} {a : Act} (hT : Hid (Φ w)) (hd : ∀ w, Φ w → Φ w.drew) (hS : ∀ w, Φ w → S w) (hm : P.follows .mixedOrders = true)
    (h : ∀ w', Hid (Φ w') → Hid (S w') → wpAnyH P .any ops Q S ops.size (Array.replicate ops.size false) a w') : (Code.region id ops true).wp P Q a w :=
  wp_region_held hm (h _ (hd _ hT.out) (hS _ (hd _ hT.out)))
theorem Mem.nilB {w0 w : World} (hb : Below w0.heap.size w0 w) : Mem w0 [] w := ⟨hb, fun _ h => (by cases h), List.nodup_nil, fun _ h => by cases h⟩
section
variable {ops : Array Oper} {rest : List Oper} {Q : Exit → Act → World → Prop} {op : Oper} {a : Act} {w : World}
theorem wpList_at {P : Program} (t : Nat) (hd : op.dst = some t) (h : wpList P ops Q (op :: rest) a w) : wpList P ops Q (op :: rest) a w := h
theorem wpList_atn {P : Program} (hd : op.dst = none) (h : wpList P ops Q (op :: rest) a w) : wpList P ops Q (op :: rest) a w := h
theorem wpList_kn {P : Program} (hw : Region.wanted op (yielded ops a.tmps) = true) (v : Value) (hrun : (execOp a.eval op).run P w = .ok (.value v) w) (h : wpList P ops Q rest (a.put op.dst v) w) : wpList P ops Q (op :: rest) a w := BigFrame.wpList_want hw fun K hK => mo_known v w hrun (hK _ _ h)
end
theorem res_ctt {P : Program} {fn : Func} {p q u : Tmp} {ty : TypeId} (h : fn.results = #[.cell p ty, .tmp u, .tmp q]) (tmps : Array Value) (w : World) {g T : Nat} {cs : Array Value} (d : TypeDesc)
    (hp : tmps.getD p undef = .pointer (some ⟨g, 0, none⟩)) (hg : w.heap[g]? = some (.cells cs T (0, 0))) (hu : P.underlying ty = some d) (hd : (match d with | .struct _ | .array _ _ => true | _ => false) = true) (hi : (P.info? ty).map (·.size) = some cs.size) :
    (results fn tmps).run P w = .ok (.tuple #[.agg cs, tmps.getD u undef, tmps.getD q undef]) w := by
  have hp' : tmps[p]?.getD undef = .pointer (some ⟨g, 0, none⟩) := by simpa using hp
  have e := run_loadVar_row (P := P) w g T ty cs (0, 0) d hg hu hd hi
  simp [results, h, hp', asAddr, e]
theorem need_ok (v : Value) (e : Int) (w : World) : Calls Tryd.prog 50 #[v, .bool true, .int .i64 e] w fun en w' => (∃ r, en = .returned r) ∧ w' = w := by
  go_enter Tryd.func50, Tryd.ntmps50
  go_wp2
  go_end0
  exact ⟨⟨_, rfl⟩, rfl⟩
theorem catchm_idle (p : Addr) (w : World) :
    CallsD Tryd.prog 37 #[.pointer (some p)] .returning w fun e u' w' => e = .returned (.tuple #[]) ∧ u' = .returning ∧ w' = w := by
  refine callsD_of_wpS Tryd.func37 rfl fun c₀ cs hu => ?_
  apply wpS_seq
  apply wpS_region
  simp [wpOpsS, go_sem, recoverD, hu, Tryd.ntmps37, Exit.thenS]
  refine wpS_of_wp ?_
  go_wp2
  cases c₀
  simp_all [bodyPostS, results, Tryd.results37]
theorem res_cell3 {P : Program} {fn : Func} {p q u : Tmp} {ty ty2 : TypeId} (h : fn.results = #[.cell p ty, .tmp u, .cell q ty2]) (tmps : Array Value) (w : World) {g g2 T T2 : Nat} {cs : Array Value} {v2 : Value} (d : TypeDesc) (d2 : TypeDesc)
    (hp : tmps.getD p undef = .pointer (some ⟨g, 0, none⟩)) (hg : w.heap[g]? = some (.cells cs T (0, 0))) (hu : P.underlying ty = some d) (hd : (match d with | .struct _ | .array _ _ => true | _ => false) = true) (hi : (P.info? ty).map (·.size) = some cs.size)
    (hq : tmps.getD q undef = .pointer (some ⟨g2, 0, none⟩)) (hg2 : w.heap[g2]? = some (.cells #[v2] T2 (0, 0))) (hu2 : P.underlying ty2 = some d2) (hd2 : d2.isRow = false) :
    (results fn tmps).run P w = .ok (.tuple #[.agg cs, tmps.getD u undef, v2]) w := by
  have hp' : tmps[p]?.getD undef = .pointer (some ⟨g, 0, none⟩) := by simpa using hp
  have hq' : tmps[q]?.getD undef = .pointer (some ⟨g2, 0, none⟩) := by simpa using hq
  have e := run_loadVar_row (P := P) w g T ty cs (0, 0) d hg hu hd hi
  have e2 : (loadVar ty2 ⟨g2, 0, none⟩).run P w = .ok v2 w := by
    have := run_load_one (P := P) hu2 hd2 (cell_of_here hg2 0 rfl)
    simpa [Instr.loadAt, Instr.sureAddr, Sem.run_bind] using this
  simp [results, h, hp', hq', asAddr, e, e2]
/-- As Q asks, and no panic. -/
def noPanic (Q : Exit → Act → World → Prop) : Exit → Act → World → Prop
  | .panic _, _, _ => False
  | e, a, w => Q e a w
theorem noPanic_of {Q : Exit → Act → World → Prop} : ∀ e a w, noPanic Q e a w → Q e a w := fun e a w h => by
  cases e <;> first | exact h | exact h.elim

def vkS : ByteArray := ⟨#[118, 101, 114, 97, 99, 107]⟩
/-- A message's cells: its kind, its block, all else nought. -/
def zB (j : Nat) : Value := if j = 0 then .int .u32 0 else if j ≤ 64 then .int .u8 0 else if j ≤ 67 then .int .u32 0 else .slice none 0 0
def msgV (k : Int) (B : Nat → Value) : Nat → Value := fun i => if i = 0 then .int .i64 k else if i = 1 then .int .u32 0 else if i = 2 then .int .u64 0 else if i ≤ 66 then .int .u8 0 else if i ≤ 69 then .slice none 0 0 else B (i - 70)
theorem infoMsg : (Tryd.prog.info? 40).map (fun i => (i.zero, i.size)) = some (some (.agg (arr 139 (msgV 0 zB))), 139) := by kernel_rfl
theorem built_msg (k : Int) : Tryd.prog.built 40 (#[(0, .int .i64 k)] : Array (Nat × Value)).toList = some (arr 139 (msgV k zB)) := by kernel_rfl
theorem built_msg0 : Tryd.prog.built 40 (#[] : Array (Nat × Value)).toList = some (arr 139 (msgV 0 zB)) := by kernel_rfl
theorem msg_one (k : Int) : (arr 139 (msgV k zB)).all (·.oneCell') = true := Array.all_eq_true_iff_forall_mem.2 fun v hv => by
  simp only [arr, List.mem_toArray, List.mem_map] at hv
  obtain ⟨i, _, rfl⟩ := hv
  unfold msgV zB
  repeat' split
  all_goals rfl
def lay0 : Nat → Value := fun i => if i = 0 then .string ⟨#[]⟩ else .int .i64 0
theorem infoLay : (Tryd.prog.info? 49).map (fun i => (i.zero, i.size)) = some (some (.agg (arr 8 lay0)), 8) := by kernel_rfl
theorem lay_one (j : Nat) : (arr 8 (mcell j)).all (·.oneCell') = true := Array.all_eq_true_iff_forall_mem.2 fun v hv => by
  simp only [arr, List.mem_toArray, List.mem_map] at hv
  obtain ⟨i, _, rfl⟩ := hv
  unfold mcell
  split <;> rfl
theorem lay_index (j : Nat) (hj : j < 3) (w : World) : (Instr.index 50 (.agg (arr 112 mv)) (.int .i64 (j : Int))).run Tryd.prog w = .ok (.agg (arr 8 (mcell j))) w := by
  match j, hj with
  | 0, _ => (show _ = _; kernel_rfl)
  | 1, _ => (show _ = _; kernel_rfl)
  | 2, _ => (show _ = _; kernel_rfl)
theorem exec_indexL {T : TypeId} {o : Oper} {ev : Operand → Value} {W : World} {x y : Operand} (ho : o.op = .index T x y) {v : Value} (h : (Instr.index T (ev x) (ev y)).run Tryd.prog W = .ok v W) : (execOp ev o).run Tryd.prog W = .ok (.value v) W := by
  unfold execOp
  simp only [ho, Sem.run_bind, h, Result.andThen_ok]
  rfl
theorem bas_inj {s t : ByteArray} (h : s.toList = t.toList) : s = t := by
  rw [ByteArray.toList_eq, ByteArray.toList_eq] at h
  exact bytes_inj h
theorem exec_eqlS {o : Oper} {ev : Operand → Value} {W : World} {x y : Operand} {s t : ByteArray} {r : Bool} (ho : o.op = .binOp .eql 9 x y 9) (hx : ev x = .string s) (hy : ev y = .string t) (hr : decide (s = t) = r) : (execOp ev o).run Tryd.prog W = .ok (.value (.bool r)) W := by
  subst hr
  unfold execOp
  by_cases h : s = t
  · subst h
    simp [ho, hx, hy, go_sem, Tryd.underlying9]
  · simp [ho, hx, hy, go_sem, Tryd.underlying9, h]
    exact fun q => h (bas_inj q)
set_option maxHeartbeats 8000000 in
theorem kindof_vk {w : World} (L : Hid (MLaid w)) : Calls Tryd.prog 26 #[.string vkS] w fun e w' => e = .returned (.int .i64 2) ∧ Below w.heap.size w w' := by
  have B0 := Lib.hid (Below.refl w.heap.size w)
  go_enter Tryd.func26, Tryd.ntmps26
  go_wp2_with ((with_reducible refine wpList_at 5 rfl ?_); refine wpList_ld 50 (.global 0) rfl rfl rfl L.out.load ?_)
  go_loopg [6] 2 (fun k i wr => ∃ j : Nat, j + k = 2 ∧ i = .int .i64 (j : Int) ∧ Hid (Below w.heap.size w wr))
  case atStart => exact ⟨0, by omega, rfl, B0⟩
  case round =>
    clear B0
    obtain ⟨j, hj, rfl, BB⟩ := hrel
    have E := Lib.hid (Mem.nil wr)
    obtain rfl | rfl | rfl : j = 0 ∨ j = 1 ∨ j = 2 := by omega
    · go_wp2_with (first
    | ((with_reducible refine wpList_at 9 rfl ?_); refine wpList_kn rfl (.agg (arr 8 (mcell 0))) (by exact exec_indexL rfl (lay_index 0 (by omega) _)) ?_)
    | ((with_reducible refine wpList_at 4 rfl ?_); refine mem_alloc E 49 rfl rfl infoLay ?_; clear E; intro b4 w4 E; simp only [arr_cells'] at E)
    | ((with_reducible refine wpList_atn rfl ?_); refine mem_store_row 0 E 49 rfl (.tmp 4) (.tmp 9) rfl rfl rfl rfl (by kernel_rfl) (by simp only [arr_size]) (lay_one _) ?_; clear E; intro w5 E; simp only [List.set_cons_zero] at E)
    | ((with_reducible refine wpList_at 11 rfl ?_); refine mem_load_cell E 9 rfl (.tmp 10) rfl rfl List.mem_cons_self Tryd.underlying9 rfl (v := .string (mcom 0)) rfl ?_)
    | ((with_reducible refine wpList_at 13 rfl ?_); refine wpList_kn rfl (.bool false) (by exact exec_eqlS rfl rfl rfl (by decide)) ?_))
      go_roundg 1
      case measure => omega
      case rel => exact ⟨1, by omega, by go_num, Lib.hid (BB.out.trans (E.out.below.mono BB.out.size))⟩
    · go_wp2_with (first
    | ((with_reducible refine wpList_at 9 rfl ?_); refine wpList_kn rfl (.agg (arr 8 (mcell 1))) (by exact exec_indexL rfl (lay_index 1 (by omega) _)) ?_)
    | ((with_reducible refine wpList_at 4 rfl ?_); refine mem_alloc E 49 rfl rfl infoLay ?_; clear E; intro b4 w4 E; simp only [arr_cells'] at E)
    | ((with_reducible refine wpList_atn rfl ?_); refine mem_store_row 0 E 49 rfl (.tmp 4) (.tmp 9) rfl rfl rfl rfl (by kernel_rfl) (by simp only [arr_size]) (lay_one _) ?_; clear E; intro w5 E; simp only [List.set_cons_zero] at E)
    | ((with_reducible refine wpList_at 11 rfl ?_); refine mem_load_cell E 9 rfl (.tmp 10) rfl rfl List.mem_cons_self Tryd.underlying9 rfl (v := .string (mcom 1)) rfl ?_)
    | ((with_reducible refine wpList_at 13 rfl ?_); refine wpList_kn rfl (.bool false) (by exact exec_eqlS rfl rfl rfl (by decide)) ?_))
      go_roundg 0
      case measure => omega
      case rel => exact ⟨2, by omega, by go_num, Lib.hid (BB.out.trans (E.out.below.mono BB.out.size))⟩
    · go_wp2_with (first
    | ((with_reducible refine wpList_at 9 rfl ?_); refine wpList_kn rfl (.agg (arr 8 (mcell 2))) (by exact exec_indexL rfl (lay_index 2 (by omega) _)) ?_)
    | ((with_reducible refine wpList_at 4 rfl ?_); refine mem_alloc E 49 rfl rfl infoLay ?_; clear E; intro b4 w4 E; simp only [arr_cells'] at E)
    | ((with_reducible refine wpList_atn rfl ?_); refine mem_store_row 0 E 49 rfl (.tmp 4) (.tmp 9) rfl rfl rfl rfl (by kernel_rfl) (by simp only [arr_size]) (lay_one _) ?_; clear E; intro w5 E; simp only [List.set_cons_zero] at E)
    | ((with_reducible refine wpList_at 11 rfl ?_); refine mem_load_cell E 9 rfl (.tmp 10) rfl rfl List.mem_cons_self Tryd.underlying9 rfl (v := .string (mcom 2)) rfl ?_)
    | ((with_reducible refine wpList_at 13 rfl ?_); refine wpList_kn rfl (.bool true) (by exact exec_eqlS rfl rfl rfl (by decide)) ?_))
      go_ret
      exact ⟨rfl, BB.out.trans (E.out.below.mono BB.out.size)⟩
set_option maxHeartbeats 8000000 in
theorem pread_none {w : World} {r m : Value} {k : Value} : Calls Tryd.prog 29 #[.int .i64 0, r, m, k] w fun e w' => e = .returned (.tuple #[]) ∧ w = w' := by
  go_enter Tryd.func29, Tryd.ntmps29
  go_wp2_with fail
  go_end0
  exact ⟨rfl, rfl⟩
theorem pend_nil {w : World} {b : Nat} (hb : w.heap[b]? = some (.cells #[.slice none 0 0] 91 (0, 0))) : Calls Tryd.prog 30 #[.pointer (some ⟨b, 0, none⟩)] w fun e w' => e = .returned (.tuple #[]) ∧ w = w' := by
  have c0 := cell_of_here hb 0 (v := .slice none 0 0) rfl
  go_enter Tryd.func30, Tryd.ntmps30
  go_wp2_with (go_at_call 50; refine (need_ok _ _ _).mono ?_; rintro e w2 ⟨⟨r, rfl⟩, rfl⟩)
  go_end0
  exact ⟨rfl, rfl⟩
theorem par_index (j : Nat) (hj : j < 6) (w : World) : (Instr.index 47 (.agg (arr 6 fun i => mcell 2 (1 + i))) (.int .i64 (j : Int))).run Tryd.prog w = .ok (.int .i64 0) w := by
  match j, hj with
  | 0, _ => (show _ = _; kernel_rfl)
  | 1, _ => (show _ = _; kernel_rfl)
  | 2, _ => (show _ = _; kernel_rfl)
  | 3, _ => (show _ = _; kernel_rfl)
  | 4, _ => (show _ = _; kernel_rfl)
  | 5, _ => (show _ = _; kernel_rfl)
theorem par_load {W : World} {b : Nat} (hb : W.heap[b]? = some (.cells (arr 8 (mcell 2)) 49 (0, 0))) : (Instr.loadAt 47 (.pointer (some ⟨b, 1, none⟩))).run Tryd.prog W = .ok (.agg (arr 6 fun i => mcell 2 (1 + i))) W := by
  have hr : W.rangeAt b 1 (vs (fun i => mcell 2 (1 + i)) 6) := fun j v hj => by
    obtain ⟨h, rfl⟩ := vs_get _ _ _ _ hj
    exact cell_of_here hb (1 + j) (arr_get 8 _ (1 + j) (by omega))
  have := run_loadAt_mid (P := Tryd.prog) W b 1 47 (vs (fun i => mcell 2 (1 + i)) 6) _ hr Tryd.underlying47 rfl (by rw [vs_length]; kernel_rfl)
  rwa [vs_arr] at this
set_option maxHeartbeats 8000000 in
theorem mdec1_vk {w : World} {b7 b5 b6 : Nat} (h7 : w.heap[b7]? = some (.cells #[.slice none 0 0] 91 (0, 0))) (h5 : w.heap[b5]? = some (.cells #[.int .i64 2] 3 (0, 0))) (h6 : w.heap[b6]? = some (.cells (arr 8 (mcell 2)) 49 (0, 0))) :
    Calls Tryd.prog 28 #[.pointer (some ⟨b7, 0, none⟩), .pointer (some ⟨b5, 0, none⟩), .pointer (some ⟨b6, 0, none⟩)] w fun e w' => e = .returned (.agg (arr 139 (msgV 2 zB))) ∧ Below w.heap.size w w' := by
  have E := Lib.hid (Mem.nil w)
  have H7 := Lib.hid h7
  have H5 := Lib.hid h5
  have H6 := Lib.hid h6
  clear h7 h5 h6
  go_enter Tryd.func28, Tryd.ntmps28
  go_wp2_with (first
    | ((with_reducible refine wpList_at 4 rfl ?_); refine mem_alloc E 40 rfl rfl infoMsg ?_; clear E; intro b4 w4 E; simp only [arr_cells'] at E)
    | ((with_reducible refine wpList_at 8 rfl ?_); refine wpList_ld1 3 (.tmp 1) rfl rfl rfl Tryd.underlying3 rfl (cell_of_here ((E.out.below.block b5 (heap_lt H5.out)).trans H5.out) 0 rfl) ?_)
    | ((with_reducible refine wpList_at 9 rfl ?_); refine wpList_bld 40 _ rfl rfl (ps := #[(0, .int .i64 2)]) (by kernel_rfl) (built_msg 2) ?_)
    | ((with_reducible refine wpList_at 5 rfl ?_); refine mem_alloc E 40 rfl rfl infoMsg ?_; clear E; intro b8 w8 E; simp only [arr_cells'] at E)
    | ((with_reducible refine wpList_atn rfl ?_); refine mem_store_row 0 E 40 rfl (.tmp 5) (.tmp 9) rfl rfl rfl rfl (by kernel_rfl) (by simp only [arr_size]) (msg_one _) ?_; clear E; intro w9 E; simp only [List.set_cons_zero] at E)
    | ((with_reducible refine wpList_at 11 rfl ?_); refine wpList_ld 47 (.tmp 10) rfl rfl rfl (par_load ((E.out.below.block b6 (heap_lt H6.out)).trans H6.out)) ?_))
  go_loopg [12] 6 (fun k i wr => ∃ j : Nat, j + k = 6 ∧ i = .int .i64 (j : Int) ∧ wr = w9)
  case atStart => exact ⟨0, by omega, rfl, rfl⟩
  case round =>
    obtain ⟨j, hj, rfl, rfl⟩ := hrel
    obtain ⟨kk, hkk⟩ : ∃ kk : Nat, kk = gk := ⟨_, rfl⟩
    rw [← hkk] at hj
    by_cases hlt : j < 6
    · have PI := Lib.hid (fun W => par_index j hlt W)
      go_wp2_with (first
        | ((with_reducible refine wpList_at 14 rfl ?_); refine wpList_kn rfl (.int .i64 0) (by exact exec_indexL rfl (PI.out _)) ?_)
        | ((with_reducible refine wpList_at 18 rfl ?_); refine wpList_ld1 3 (.tmp 17) rfl rfl rfl Tryd.underlying3 rfl (cell_of_here ((E.out.below.block b6 (heap_lt H6.out)).trans H6.out) 7 (v := .int .i64 0) rfl) ?_)
        | (go_at_call 29; refine pread_none.mono ?_; rintro e w10 ⟨rfl, rfl⟩))
      go_roundg (kk - 1)
      case measure => omega
      case rel => exact ⟨j + 1, by omega, by go_num, rfl⟩
    · obtain rfl : j = 6 := by omega
      go_wp2_with (first
        | (go_at_call 30; refine (pend_nil ((E.out.below.block b7 (heap_lt H7.out)).trans H7.out)).mono ?_; rintro e w10 ⟨rfl, rfl⟩)
        | ((with_reducible refine wpList_at 23 rfl ?_); refine mem_load_row E 40 rfl (.tmp 5) rfl rfl List.mem_cons_self Tryd.underlying40 rfl (by rw [arr_size]; kernel_rfl) ?_)
        | ((with_reducible refine wpList_atn rfl ?_); refine mem_store_row 1 E 40 rfl (.tmp 4) (.tmp 23) rfl rfl rfl rfl (by kernel_rfl) (by simp only [arr_size]) (msg_one _) ?_; clear E; intro w11 E; simp only [List.set_cons_zero, List.set_cons_succ] at E))
      exact bodyPost_ret (results_cell_row (fn := Tryd.f28) rfl _ _ b4 40 _ (0, 0) _ rfl (E.out.get (List.mem_cons_of_mem _ List.mem_cons_self)) Tryd.underlying40 rfl (by rw [arr_size]; kernel_rfl)) rfl ⟨rfl, E.out.below⟩
theorem load_msg {W : World} {b T : Nat} {V : Nat → Value} (hb : W.heap[b]? = some (.cells (arr 139 V) T (0, 0))) : (Instr.loadAt 40 (.pointer (some ⟨b, 0, none⟩))).run Tryd.prog W = .ok (.agg (arr 139 V)) W := by
  have := run_loadAt_mid (P := Tryd.prog) W b 0 40 (arr 139 V).toList _ (range_all hb) Tryd.underlying40 rfl (by rw [Array.length_toList, arr_size]; kernel_rfl)
  simpa using this
set_option maxHeartbeats 16000000 in
theorem preadm_vk {w : World} {c5 c6 : Nat} (h5 : w.heap[c5]? = some (.cells #[.int .i64 2] 3 (0, 0))) (h6 : w.heap[c6]? = some (.cells (arr 8 (mcell 2)) 49 (0, 0))) :
    Calls Tryd.prog 27 #[.slice none 0 0, .func (.func 28) #[] #[.pointer (some ⟨c5, 0, none⟩), .pointer (some ⟨c6, 0, none⟩)]] w fun e w' => (∃ v, e = .returned (.tuple #[.agg (arr 139 (msgV 2 zB)), v, .int .i64 0])) ∧ Below w.heap.size w w' := by
  have E := Lib.hid (Mem.nil w)
  have H5 := Lib.hid h5
  have H6 := Lib.hid h6
  have hmf : ∀ (fn : Fn) (first cap : Array Value) (w : World), (Instr.makeFunc fn first cap).run Tryd.prog w = .ok (.func fn first cap) w := fun _ _ _ _ => rfl
  clear h5 h6
  go_enter_defers Tryd.func27, Tryd.ntmps27
  go_upto_region 4 with (first
    | (refine mem_alloc E 40 rfl rfl infoMsg ?_; clear E; intro b4 w4 E; simp only [arr_cells'] at E)
    | (refine mem_alloc E 33 rfl rfl (z := .int .i64 0) (n := 1) (by kernel_rfl) ?_; clear E; intro b6 w6 E)
    | (refine wpList_build_to rfl 91 _ rfl #[(0, .slice none 0 0)] (by kernel_rfl) #[.slice none 0 0] (by kernel_rfl) ?_)
    | (refine mem_box E 91 rfl _ rfl rfl (c := #[.slice none 0 0]) rfl ?_; clear E; intro b7 w7 E)
    | (go_at_call 28; refine (mdec1_vk (E.out.get List.mem_cons_self) ((E.out.below.block c5 (heap_lt H5.out)).trans H5.out) ((E.out.below.block c6 (heap_lt H6.out)).trans H6.out)).mono ?_; rintro e w8 ⟨rfl, hb⟩; replace E := Lib.hid (E.out.call hb); clear hb)
    | (refine mem_store_row 2 E 40 rfl (.tmp 4) (.tmp 14) rfl rfl rfl rfl (by kernel_rfl) (by simp only [arr_size]) (msg_one _) ?_; clear E; intro w9 E; simp only [List.set_cons_zero, List.set_cons_succ] at E))
  refine Go.wp_mono (Q := noPanic _) ?_ noPanic_of
  have CX := Lib.hid (And.intro (E.out.get (b := b4) (T := 40) (c := arr 139 (msgV 2 zB)) (List.mem_cons_of_mem _ (List.mem_cons_of_mem _ List.mem_cons_self))) (E.out.get (b := b7) (T := 91) (c := #[.slice none 0 0]) List.mem_cons_self))
  refine wp_region_T (Φ := fun X => Below w9.heap.size w9 X) (S := fun X => X.heap[b4]? = some (.cells (arr 139 (msgV 2 zB)) 40 (0, 0)) ∧ X.heap[b7]? = some (.cells #[.slice none 0 0] 91 (0, 0))) (Lib.hid (Below.refl _ _)) (fun _ h => h.drew) (fun X h => ⟨(h.block b4 (heap_lt CX.out.1)).trans CX.out.1, (h.block b7 (heap_lt CX.out.2)).trans CX.out.2⟩) (by kernel_rfl) ?_
  intro wx TT S0
  replace E := Lib.hid (E.out.call TT.out)
  clear CX
  refine hm_run 0 15 (.agg (arr 139 (msgV 2 zB))) rfl rfl (by kernel_rfl) (by kernel_rfl) (by kernel_rfl) (fun _ _ _ h => h) rfl (fun W hW => exec_load rfl (load_msg hW.1)) S0.out ?_
  try simp only [Act.put, List.getElem_toArray, List.getElem_cons_succ, List.getElem_cons_zero, List.setIfInBounds_toArray, List.set_cons_zero, List.set_cons_succ]
  refine hm_run 1 16 (.pointer (some ⟨b7, 0, none⟩)) rfl rfl (by kernel_rfl) (by kernel_rfl) (by kernel_rfl) (fun _ _ _ h => h) rfl (fun _ _ => rfl) S0.out ?_
  try simp only [Act.put, List.getElem_toArray, List.getElem_cons_succ, List.getElem_cons_zero, List.setIfInBounds_toArray, List.set_cons_zero, List.set_cons_succ]
  refine hm_run 2 17 (.pointer (some ⟨b7, 0, none⟩)) rfl rfl (by kernel_rfl) (by kernel_rfl) (by kernel_rfl) (fun _ _ _ h => h) rfl (fun _ _ => rfl) S0.out ?_
  try simp only [Act.put, List.getElem_toArray, List.getElem_cons_succ, List.getElem_cons_zero, List.setIfInBounds_toArray, List.set_cons_zero, List.set_cons_succ]
  refine hm_run 3 18 (.pointer (some ⟨b7, 0, none⟩)) rfl rfl (by kernel_rfl) (by kernel_rfl) (by kernel_rfl) (fun _ _ _ h => h) rfl (fun _ _ => rfl) S0.out ?_
  try simp only [Act.put, List.getElem_toArray, List.getElem_cons_succ, List.getElem_cons_zero, List.setIfInBounds_toArray, List.set_cons_zero, List.set_cons_succ]
  refine hm_run 4 19 (.slice none 0 0) rfl rfl (by kernel_rfl) (by kernel_rfl) (by kernel_rfl) (fun _ _ _ h => h) rfl (fun W hW => exec_load rfl (run_load_one Tryd.underlying30 rfl (cell_of_here hW.2 0 rfl))) S0.out ?_
  try simp only [Act.put, List.getElem_toArray, List.getElem_cons_succ, List.getElem_cons_zero, List.setIfInBounds_toArray, List.set_cons_zero, List.set_cons_succ]
  refine hm_one (i := 5) (by kernel_rfl) ?_
  refine hm_step 5 rfl (by kernel_rfl) fun K hK => ?_
  try simp only [Act.put, List.getElem_toArray, List.getElem_cons_succ, List.getElem_cons_zero, List.setIfInBounds_toArray, List.set_cons_zero, List.set_cons_succ]
  go_simp
  go_at_call 38
  refine (clone_any (Lib.hid (Row.nothing _ (lf []) (lf_lt isB_nil))) (by omega)).mono ?_
  rintro e2 w10 ⟨p2, g2, c2, rfl, _, hb2⟩
  replace E := Lib.hid (E.out.call hb2)
  have S5_5 := Lib.hid (And.intro (E.out.get (b := b4) (T := 40) (c := arr 139 (msgV 2 zB)) (List.mem_cons_of_mem _ (List.mem_cons_of_mem _ List.mem_cons_self))) (E.out.get (b := b7) (T := 91) (c := #[.slice none 0 0]) List.mem_cons_self))
  clear hb2
  refine hK _ _ S5_5.out ?_
  clear hK K
  try simp only [Act.put, List.getElem_toArray, List.getElem_cons_succ, List.getElem_cons_zero, List.setIfInBounds_toArray, List.set_cons_zero, List.set_cons_succ]
  refine hm_one (i := 6) (by kernel_rfl) ?_
  refine hm_step 6 rfl (by kernel_rfl) fun K hK => ?_
  try simp only [Act.put, List.getElem_toArray, List.getElem_cons_succ, List.getElem_cons_zero, List.setIfInBounds_toArray, List.set_cons_zero, List.set_cons_succ]
  refine mo_store_row 2 E 40 (.tmp 4) (.tmp 15) rfl rfl rfl rfl (by kernel_rfl) (by simp only [arr_size]) (msg_one _) ?_
  clear E
  intro w11 E
  simp only [List.set_cons_zero, List.set_cons_succ] at E
  have S6_6 := Lib.hid (And.intro (E.out.get (b := b4) (T := 40) (c := arr 139 (msgV 2 zB)) (List.mem_cons_of_mem _ (List.mem_cons_of_mem _ List.mem_cons_self))) (E.out.get (b := b7) (T := 91) (c := #[.slice none 0 0]) List.mem_cons_self))
  refine hK _ _ S6_6.out ?_
  clear hK K
  try simp only [Act.put, List.getElem_toArray, List.getElem_cons_succ, List.getElem_cons_zero, List.setIfInBounds_toArray, List.set_cons_zero, List.set_cons_succ]
  refine hm_run 7 5 (.slice p2 0 c2) rfl rfl (by kernel_rfl) (by kernel_rfl) (by kernel_rfl) (fun _ _ _ h => h) rfl (fun _ _ => rfl) S6_6.out ?_
  try simp only [Act.put, List.getElem_toArray, List.getElem_cons_succ, List.getElem_cons_zero, List.setIfInBounds_toArray, List.set_cons_zero, List.set_cons_succ]
  refine hm_one (i := 8) (by kernel_rfl) ?_
  refine hm_step 8 rfl (by kernel_rfl) fun K hK => ?_
  try simp only [Act.put, List.getElem_toArray, List.getElem_cons_succ, List.getElem_cons_zero, List.setIfInBounds_toArray, List.set_cons_zero, List.set_cons_succ]
  refine mo_store_cell 1 E 33 (.tmp 6) (.const (.int .i64 0)) rfl rfl rfl rfl (by kernel_rfl) (v := .int .i64 0) (u := .int .i64 0) (c' := #[.int .i64 0]) rfl rfl rfl rfl ?_
  clear E
  intro w12 E
  simp only [List.set_cons_zero, List.set_cons_succ] at E
  have S8_8 := Lib.hid (And.intro (E.out.get (b := b4) (T := 40) (c := arr 139 (msgV 2 zB)) (List.mem_cons_of_mem _ (List.mem_cons_of_mem _ List.mem_cons_self))) (E.out.get (b := b7) (T := 91) (c := #[.slice none 0 0]) List.mem_cons_self))
  refine hK _ _ S8_8.out ?_
  clear hK K
  try simp only [Act.put, List.getElem_toArray, List.getElem_cons_succ, List.getElem_cons_zero, List.setIfInBounds_toArray, List.set_cons_zero, List.set_cons_succ]
  refine wpAnyH_done (by kernel_rfl) ?_ _
  simp only [noPanic]
  go_wp2
  refine leaves_cons (f := 37) (args := #[.pointer (some ⟨b6, 0, none⟩)]) (by simp) (by simp [go_sem]) ?_
  refine (catchm_idle ⟨b6, 0, none⟩ _).mono ?_
  rintro e u' w'' ⟨rfl, rfl, rfl⟩
  refine ⟨_, res_cell3 (fn := Tryd.f27) rfl _ _ _ _ rfl (E.out.get (b := b4) (T := 40) (c := arr 139 (msgV 2 zB)) (List.mem_cons_of_mem _ (List.mem_cons_of_mem _ List.mem_cons_self))) Tryd.underlying40 rfl (by rw [arr_size]; kernel_rfl) rfl (E.out.get (b := b6) (T := 33) (c := #[.int .i64 0]) (List.mem_cons_of_mem _ List.mem_cons_self)) Tryd.underlying33 rfl, ?_⟩
  exact ⟨⟨_, rfl⟩, E.out.below⟩
theorem lay_at (w : World) : (Instr.indexAt 50 (.pointer (some ⟨0, 0, none⟩)) (.int .i64 2)).run Tryd.prog w = .ok (.pointer (some ⟨0, 16, none⟩)) w := by kernel_rfl
set_option maxHeartbeats 16000000 in
theorem mdec_vk {w : World} (L : Hid (MLaid w)) : Calls Tryd.prog 13 #[.agg #[.string vkS, .slice none 0 0]] w fun e w' => e = .returned (.tuple #[.agg (arr 139 (msgV 2 zB)), .bool true, .int .i64 0]) ∧ Below w.heap.size w w' := by
  have E := Lib.hid (Mem.nil w)
  have hmf : ∀ (fn : Fn) (first cap : Array Value) (w : World), (Instr.makeFunc fn first cap).run Tryd.prog w = .ok (.func fn first cap) w := fun _ _ _ _ => rfl
  go_enter Tryd.func13, Tryd.ntmps13
  go_wp2_with (first
    | ((with_reducible refine wpList_at 1 rfl ?_); refine mem_box (c := #[.string vkS, .slice none 0 0]) E 32 rfl _ rfl rfl rfl ?_; clear E; intro b1 w1 E)
    | ((with_reducible refine wpList_at 2 rfl ?_); refine mem_alloc E 40 rfl rfl infoMsg ?_; clear E; intro b2 w2 E; simp only [arr_cells'] at E)
    | ((with_reducible refine wpList_at 8 rfl ?_); refine mem_load_cell E 9 rfl (.tmp 7) rfl rfl (List.mem_cons_of_mem _ List.mem_cons_self) Tryd.underlying9 rfl (v := .string vkS) rfl ?_)
    | (go_at_call 26; refine (kindof_vk (Lib.hid (L.out.below E.out.below))).mono ?_; rintro e w3 ⟨rfl, hb⟩; replace E := Lib.hid (E.out.call hb); clear hb)
    | ((with_reducible refine wpList_at 5 rfl ?_); refine mem_alloc E 3 rfl rfl (z := .int .i64 0) (n := 1) (by kernel_rfl) ?_; clear E; intro b5 w5 E)
    | ((with_reducible refine wpList_at 10 rfl ?_); refine mem_load_cell E 3 rfl (.tmp 5) rfl rfl List.mem_cons_self Tryd.underlying3 rfl (v := .int .i64 2) rfl ?_)
    | ((with_reducible refine wpList_at 13 rfl ?_); refine mem_load_cell E 3 rfl (.tmp 5) rfl rfl List.mem_cons_self Tryd.underlying3 rfl (v := .int .i64 2) rfl ?_)
    | ((with_reducible refine wpList_at 14 rfl ?_); refine wpList_kn rfl (.pointer (some ⟨0, 16, none⟩)) (by exact exec_ix rfl (lay_at _)) ?_)
    | ((with_reducible refine wpList_at 15 rfl ?_); refine wpList_ld 49 (.tmp 14) rfl rfl rfl (show _ = Result.ok (.agg (arr 8 (mcell 2))) _ from (L.out.below E.out.below).one (j := 2) (by omega)) ?_)
    | ((with_reducible refine wpList_at 6 rfl ?_); refine mem_alloc E 49 rfl rfl infoLay ?_; clear E; intro b6 w6 E; simp only [arr_cells'] at E)
    | ((with_reducible refine wpList_at 18 rfl ?_); refine mem_load_cell E 30 rfl (.tmp 17) rfl rfl (List.mem_cons_of_mem _ (List.mem_cons_of_mem _ (List.mem_cons_of_mem _ List.mem_cons_self))) Tryd.underlying30 rfl (v := .slice none 0 0) rfl ?_)
    | (go_at_call 27; refine (preadm_vk (E.out.get (List.mem_cons_of_mem _ List.mem_cons_self)) (E.out.get List.mem_cons_self)).mono ?_; rintro e w8 ⟨⟨vr, rfl⟩, hb⟩; replace E := Lib.hid (E.out.call hb); clear hb)
    | ((with_reducible refine wpList_at 24 rfl ?_); refine mem_load_row E 40 rfl (.tmp 2) rfl rfl (List.mem_cons_of_mem _ (List.mem_cons_of_mem _ List.mem_cons_self)) Tryd.underlying40 rfl (by rw [arr_size]; kernel_rfl) ?_)
    | ((with_reducible refine wpList_atn rfl ?_); first
        | (refine mem_store_cell 0 E 3 rfl (.tmp 5) (.tmp 9) rfl rfl rfl rfl (by kernel_rfl) (v := .int .i64 2) rfl rfl rfl (c' := #[.int .i64 2]) rfl ?_; clear E; intro w9 E; simp only [List.set_cons_zero] at E)
        | (refine mem_store_row 0 E 49 rfl (.tmp 6) (.tmp 15) rfl rfl rfl rfl (by kernel_rfl) (by simp only [arr_size]) (lay_one _) ?_; clear E; intro w10 E; simp only [List.set_cons_zero] at E)
        | (refine mem_store_row 2 E 40 rfl (.tmp 2) (.tmp 21) rfl rfl rfl rfl (by kernel_rfl) (by simp only [arr_size]) (msg_one _) ?_; clear E; intro w11 E; simp only [List.set_cons_zero, List.set_cons_succ] at E)
        | (refine mem_store_row 2 E 40 rfl (.tmp 2) (.tmp 24) rfl rfl rfl rfl (by kernel_rfl) (by simp only [arr_size]) (msg_one _) ?_; clear E; intro w12 E; simp only [List.set_cons_zero, List.set_cons_succ] at E)))
  exact bodyPost_ret (res_row_tmp_tmp (fn := Tryd.f13) rfl _ _ b2 139 40 _ _ rfl (E.out.get (List.mem_cons_of_mem _ (List.mem_cons_of_mem _ List.mem_cons_self))) Tryd.underlying40 rfl (by kernel_rfl)) rfl ⟨rfl, E.out.below⟩
theorem built_fvk : Tryd.prog.built 32 (#[(0, .string vkS)] : Array (Nat × Value)).toList = some #[.string vkS, .slice none 0 0] := by kernel_rfl
set_option maxHeartbeats 8000000 in
theorem awake10_any {w : World} (L : Hid (MLaid w)) : Calls Tryd.prog 7 #[] w fun e w' => e = .returned (.bool true) ∧ Below w.heap.size w w' := by
  have E := Lib.hid (Mem.nil w)
  go_enter Tryd.func7, Tryd.ntmps7
  go_wp2_with (first
    | ((with_reducible refine wpList_at 5 rfl ?_); refine wpList_bld 32 _ rfl rfl (ps := #[(0, .string vkS)]) (by kernel_rfl) built_fvk ?_)
    | (go_at_call 13; refine (mdec_vk L).mono ?_; rintro e w3 ⟨rfl, hb⟩; replace E := Lib.hid (E.out.call hb); clear hb)
    | ((with_reducible refine wpList_at 1 rfl ?_); refine mem_alloc E 40 rfl rfl infoMsg ?_; clear E; intro b1 w4 E; simp only [arr_cells'] at E)
    | ((with_reducible refine wpList_atn rfl ?_); refine mem_store_row 0 E 40 rfl (.tmp 1) (.tmp 7) rfl rfl rfl rfl (by kernel_rfl) (by simp only [arr_size]) (msg_one _) ?_; clear E; intro w5 E; simp only [List.set_cons_zero] at E)
    | ((with_reducible refine wpList_at 17 rfl ?_); refine mem_load_cell E 3 rfl (.tmp 16) rfl rfl List.mem_cons_self Tryd.underlying3 rfl (v := .int .i64 2) rfl ?_))
  go_ret
  exact ⟨rfl, E.out.below⟩
end Go.Proofs.YtfjpjhhkafkepaaDoor
