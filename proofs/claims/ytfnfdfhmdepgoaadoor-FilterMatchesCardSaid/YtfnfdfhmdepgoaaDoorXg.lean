/- The document's reader of bits. -/
import Derived.Test.YtfnfdfhmdepgoaaDoorWq
import Derived.Test.YtfnfdfhmdepgoaaDoorZA
set_option linter.unusedSimpArgs false
set_option linter.unusedVariables false
set_option maxRecDepth 100000
namespace Go.Proofs.YtfnfdfhmdepgoaaDoor
open Go.RowKit Go.Lib Go.Sort

structure Xdr (D w : World) (b : Nat) (p : Option Addr) (g c : Nat) (xs : List Nat) (t : Nat) : Prop where
  box : w.heap[b]? = some (.cells #[.slice p xs.length c, .int .i64 (t : Int)] 153 (0, 0))
  row : Row w p g 0 xs.length c (lf xs)
  typ : 0 < xs.length → ∃ cur, w.heap[g]? = some (.cells cur 5 (0, 0))
  lo : D.heap.size ≤ b
  le : t ≤ 8 * xs.length
  len : xs.length ≤ 140737488351232
theorem Xdr.typed {D w : World} {b : Nat} {p : Option Addr} {g c : Nat} {xs : List Nat} {t : Nat} (h : Xdr D w b p g c xs t) : 0 < xs.length → g ≠ b := fun h0 e => by
  obtain ⟨cur, hc⟩ := h.typ h0
  have hb := h.box
  rw [e] at hc
  rw [hc] at hb
  injection hb with hb
  injection hb with _ h2 _
  exact absurd h2 (by decide)
theorem Xdr.call {D w w' : World} {b : Nat} {p : Option Addr} {g c : Nat} {xs : List Nat} {t : Nat} (h : Xdr D w b p g c xs t) (hb : Below w.heap.size w w') : Xdr D w' b p g c xs t :=
  ⟨by rw [hb.block b (heap_lt h.box)]; exact h.box, h.row.below hb, fun h0 => by obtain ⟨cur, hc⟩ := h.typ h0; exact ⟨cur, by rw [hb.block g (heap_lt hc)]; exact hc⟩, h.lo, h.le, h.len⟩
theorem Xdr.kw {D w w' : World} {b : Nat} {p : Option Addr} {g c : Nat} {xs : List Nat} {t : Nat} (h : Xdr D w b p g c xs t) (t' : Nat) (ht : t' ≤ 8 * xs.length) (hb : w'.heap[b]? = some (.cells #[.slice p xs.length c, .int .i64 (t' : Int)] 153 (0, 0))) (ho : Only b w w') : Xdr D w' b p g c xs t' :=
  ⟨hb, ⟨h.row.le, h.row.cap, h.row.nil, h.row.head, fun i hi => by
    refine ho.cell (h.typed (by omega)) (h.row.cell i hi), h.row.byte⟩, fun h0 => by obtain ⟨cur, hc⟩ := h.typ h0; exact ⟨cur, ho.heap (h.typed h0) hc⟩, h.lo, ht, h.len⟩
/-- What a call of it leaves. -/
def XrPost (D w : World) (b : Nat) (p : Option Addr) (g c : Nat) (xs : List Nat) (t : Nat) (r : Value) (e : Ending) (w' : World) : Prop := e = .returned r ∧ Xdr D w' b p g c xs t ∧ Only b w w'
theorem exec_8mul {o : Oper} {ev : Operand → Value} {W : World} {x y : Operand} {n : Nat} (ho : o.op = .binOp .mul 3 x y 3) (hx : ev x = .int .i64 8) (hy : ev y = .int .i64 (n : Int)) (hn : n ≤ 2000000000000000) : (execOp ev o).run Tryd.prog W = .ok (.value (.int .i64 ((8 * n : Nat) : Int))) W := by
  unfold execOp
  simp [ho, hx, hy, go_sem]
  all_goals (try (simp only [IntKind.wrap_i64, wrap64] at *))
  all_goals omega
theorem exec_pre1 {o : Oper} {ev : Operand → Value} {W : World} {x y : Operand} {n : Nat} (ho : o.op = .binOp .sub 3 x y 3) (hx : ev x = .int .i64 ((n + 1 : Nat) : Int)) (hy : ev y = .int .i64 1) (hn : n ≤ 2000000000000000) : (execOp ev o).run Tryd.prog W = .ok (.value (.int .i64 (n : Int))) W := by
  unfold execOp
  simp [ho, hx, hy, go_sem]
  all_goals (try (simp only [IntKind.wrap_i64, wrap64] at *))
  all_goals omega
theorem exec_succ3 {o : Oper} {ev : Operand → Value} {W : World} {x y : Operand} {n : Nat} (ho : o.op = .binOp .add 3 x y 3) (hx : ev x = .int .i64 (n : Int)) (hy : ev y = .int .i64 1) (hn : n ≤ 2000000000000000) : (execOp ev o).run Tryd.prog W = .ok (.value (.int .i64 ((n + 1 : Nat) : Int))) W := by
  unfold execOp
  simp [ho, hx, hy, go_sem]
  all_goals (try (simp only [IntKind.wrap_i64, wrap64] at *))
  all_goals omega
theorem exec_7sub {o : Oper} {ev : Operand → Value} {W : World} {x y : Operand} {m : Nat} (ho : o.op = .binOp .sub 3 x y 3) (hx : ev x = .int .i64 7) (hy : ev y = .int .i64 (m : Int)) (hm : m < 8) : (execOp ev o).run Tryd.prog W = .ok (.value (.int .i64 ((7 - m : Nat) : Int))) W := by
  unfold execOp
  simp [ho, hx, hy, go_sem]
  all_goals (try (simp only [IntKind.wrap_i64, wrap64] at *))
  all_goals omega
theorem exec_shr8v {o : Oper} {ev : Operand → Value} {W : World} {x y : Operand} {n k : Nat} (ho : o.op = .binOp .shr 5 x y 3) (hx : ev x = .int .u8 (n : Int)) (hy : ev y = .int .i64 (k : Int)) (hk : k < 8) : (execOp ev o).run Tryd.prog W = .ok (.value (.int .u8 ((n / 2 ^ k : Nat) : Int))) W := by
  have h1 : min k 8 = k := by omega
  unfold execOp
  simp [ho, hx, hy, go_sem, IntKind.bits, h1]
theorem exec_and8 {o : Oper} {ev : Operand → Value} {W : World} {x y : Operand} {n : Nat} (ho : o.op = .binOp .and 5 x y 5) (hx : ev x = .int .u8 (n : Int)) (hy : ev y = .int .u8 1) (hn : n < 256) : (execOp ev o).run Tryd.prog W = .ok (.value (.int .u8 ((n % 2 : Nat) : Int))) W := by
  have h : bits .and .u8 (n : Int) 1 = ((n &&& 1 : Nat) : Int) := u8_and_nat n 1 hn (by omega)
  have h2 : n &&& 1 = n % 2 := Nat.and_one_is_mod n
  rw [h2] at h
  unfold execOp
  simp [ho, hx, hy, go_sem, h]
theorem exec_eq8 {o : Oper} {ev : Operand → Value} {W : World} {x y : Operand} {n : Nat} {r : Bool} (ho : o.op = .binOp .eql 5 x y 5) (hx : ev x = .int .u8 (n : Int)) (hy : ev y = .int .u8 1) (hr : decide (n = 1) = r) : (execOp ev o).run Tryd.prog W = .ok (.value (.bool r)) W := by
  subst hr
  unfold execOp
  by_cases h : n = 1
  · subst h
    simp [ho, hx, hy, go_sem, Tryd.underlying5]
  · have h2 : ¬ ((n : Int) = 1) := by omega
    simp [ho, hx, hy, go_sem, Tryd.underlying5, h, h2]
theorem exec_ne0 {o : Oper} {ev : Operand → Value} {W : World} {x y : Operand} {a : Int} (ho : o.op = .binOp .eql 3 x y 3) (hx : ev x = .int .i64 a) (hy : ev y = .int .i64 0) (ha : (a == 0) = false) : (execOp ev o).run Tryd.prog W = .ok (.value (.bool false)) W := by
  have h : ¬ a = 0 := by simpa using ha
  unfold execOp
  simp [ho, hx, hy, go_sem, Tryd.underlying3, h]
section
variable {ops : Array Oper} {rest : List Oper} {Q : Exit → Act → World → Prop} {op : Oper} {a : Act} {w : World}
theorem wpL_at {P : Program} (t : Nat) (hd : op.dst = some t) (h : wpList P ops Q (op :: rest) a w) : wpList P ops Q (op :: rest) a w := h
theorem wpL_atn {P : Program} (hd : op.dst = none) (h : wpList P ops Q (op :: rest) a w) : wpList P ops Q (op :: rest) a w := h
end
theorem bit_low (n k : Nat) : decide (n / 2 ^ k % 2 = 1) = n.testBit k := by
  rw [Nat.testBit_eq_decide_div_mod_eq]
theorem xd_store {ops : Array Oper} {rest : List Oper} {Q : Exit → Act → World → Prop} {op : Oper} {a : Act} {w : World} {b T : Nat} {u z : Value} (S0 : Hid (w.heap[b]? = some (.cells #[u, z] T (0, 0)))) (hg : op.guard = none) (x y : Operand) (ho : op.op = .store 3 x y) (hx : a.eval x = .pointer (some ⟨b, 1, none⟩)) {k : Int} (hy : a.eval y = .int .i64 k)
    (h : ∀ w', Hid (w'.heap[b]? = some (.cells #[u, .int .i64 k] T (0, 0)) ∧ Only b w w') → wpList Tryd.prog ops Q rest (a.put op.dst undef) w') : wpList Tryd.prog ops Q (op :: rest) a w := by
  have hb := S0.out
  have hH : Holds b T #[u, .int .i64 k] w (w.setCell ⟨b, 1, none⟩ (.int .i64 k)) := (Holds.start hb).set rfl
  refine wpList_plain hg fun K hK => ?_
  unfold Oper.wp execOp
  simp only [ho, hx, hy, Sem.run_bind, Sem.run_pure, run_store_one (P := Tryd.prog) (ty := 3) (v := .int .i64 k) (by kernel_rfl) rfl rfl (cell_of_here hb 1 rfl) (free_of_here hb 1), Result.andThen_ok]
  exact hK _ _ (h _ (Lib.hid ⟨hH.here, hH.only⟩))
section
variable {D w : World} {b : Nat} {p : Option Addr} {g c : Nat} {xs : List Nat} {t : Nat}
set_option maxHeartbeats 4000000 in
theorem xleft_any (h : Xdr D w b p g c xs t) : Calls Tryd.prog 82 #[.pointer (some ⟨b, 0, none⟩)] w fun e w' => e = .returned (.int .i64 ((8 * xs.length - t : Nat) : Int)) ∧ Below w.heap.size w w' := by
  have L := Lib.hid (And.intro h.le h.len)
  obtain ⟨n, hn⟩ : ∃ n, n = xs.length := ⟨_, rfl⟩
  have BX := Lib.hid h.box
  rw [← hn] at BX L ⊢
  obtain ⟨d, hd⟩ : ∃ d, d = 8 * n - t := ⟨_, rfl⟩
  have HD := Lib.hid hd
  rw [← hd]
  clear h hn hd
  go_enter Tryd.func82, Tryd.ntmps82
  go_upto_region 1 with fail
  have E1 := Lib.hid (Mem.nil w)
  refine wp_region_memS (S := fun W' => W'.heap[b]? = some (.cells #[.slice p n c, .int .i64 (t : Int)] 153 (0, 0))) E1 (by kernel_rfl) ?_
  clear E1
  intro wx E0
  have S0 := Lib.hid (show wx.heap[b]? = some (.cells #[.slice p n c, .int .i64 (t : Int)] 153 (0, 0)) by rw [E0.out.below.block b (heap_lt BX.out)]; exact BX.out)
  try simp only [Act.put, List.getElem_toArray, List.getElem_cons_succ, List.getElem_cons_zero, List.setIfInBounds_toArray, List.set_cons_zero, List.set_cons_succ]
  refine hm_run 0 3 (.pointer (some ⟨b, 0, none⟩)) rfl rfl (by kernel_rfl) (by kernel_rfl) (by kernel_rfl) (fun _ _ _ h => h) rfl (fun _ _ => rfl) S0.out ?_
  try simp only [Act.put, List.getElem_toArray, List.getElem_cons_succ, List.getElem_cons_zero, List.setIfInBounds_toArray, List.set_cons_zero, List.set_cons_succ]
  refine hm_run 1 4 (.pointer (some ⟨b, 0, none⟩)) rfl rfl (by kernel_rfl) (by kernel_rfl) (by kernel_rfl) (fun _ _ _ h => h) rfl (fun _ _ => rfl) S0.out ?_
  try simp only [Act.put, List.getElem_toArray, List.getElem_cons_succ, List.getElem_cons_zero, List.setIfInBounds_toArray, List.set_cons_zero, List.set_cons_succ]
  refine hm_run 2 5 (.pointer (some ⟨b, 0, none⟩)) rfl rfl (by kernel_rfl) (by kernel_rfl) (by kernel_rfl) (fun _ _ _ h => h) rfl (fun _ _ => rfl) S0.out ?_
  try simp only [Act.put, List.getElem_toArray, List.getElem_cons_succ, List.getElem_cons_zero, List.setIfInBounds_toArray, List.set_cons_zero, List.set_cons_succ]
  refine hm_run 3 6 (.slice p n c) rfl rfl (by kernel_rfl) (by kernel_rfl) (by kernel_rfl) (fun _ _ _ h => h) rfl (fun W hW => exec_load rfl (run_load_one Tryd.underlying26 rfl (cell_of_here hW 0 rfl))) S0.out ?_
  try simp only [Act.put, List.getElem_toArray, List.getElem_cons_succ, List.getElem_cons_zero, List.setIfInBounds_toArray, List.set_cons_zero, List.set_cons_succ]
  refine hm_run 4 7 (.int .i64 (n : Int)) rfl rfl (by kernel_rfl) (by kernel_rfl) (by kernel_rfl) (fun _ _ _ h => h) rfl (fun _ _ => exec_lenb rfl rfl) S0.out ?_
  try simp only [Act.put, List.getElem_toArray, List.getElem_cons_succ, List.getElem_cons_zero, List.setIfInBounds_toArray, List.set_cons_zero, List.set_cons_succ]
  refine hm_run 5 8 (.int .i64 ((8 * n : Nat) : Int)) rfl rfl (by kernel_rfl) (by kernel_rfl) (by kernel_rfl) (fun _ _ _ h => h) rfl (fun _ _ => exec_8mul rfl rfl rfl (by have := L.out; omega)) S0.out ?_
  try simp only [Act.put, List.getElem_toArray, List.getElem_cons_succ, List.getElem_cons_zero, List.setIfInBounds_toArray, List.set_cons_zero, List.set_cons_succ]
  refine hm_run 6 9 (.pointer (some ⟨b, 0, none⟩)) rfl rfl (by kernel_rfl) (by kernel_rfl) (by kernel_rfl) (fun _ _ _ h => h) rfl (fun _ _ => rfl) S0.out ?_
  try simp only [Act.put, List.getElem_toArray, List.getElem_cons_succ, List.getElem_cons_zero, List.setIfInBounds_toArray, List.set_cons_zero, List.set_cons_succ]
  refine hm_run 7 10 (.pointer (some ⟨b, 0, none⟩)) rfl rfl (by kernel_rfl) (by kernel_rfl) (by kernel_rfl) (fun _ _ _ h => h) rfl (fun _ _ => rfl) S0.out ?_
  try simp only [Act.put, List.getElem_toArray, List.getElem_cons_succ, List.getElem_cons_zero, List.setIfInBounds_toArray, List.set_cons_zero, List.set_cons_succ]
  refine hm_run 8 11 (.pointer (some ⟨b, 1, none⟩)) rfl rfl (by kernel_rfl) (by kernel_rfl) (by kernel_rfl) (fun _ _ _ h => h) rfl (fun _ _ => rfl) S0.out ?_
  try simp only [Act.put, List.getElem_toArray, List.getElem_cons_succ, List.getElem_cons_zero, List.setIfInBounds_toArray, List.set_cons_zero, List.set_cons_succ]
  refine hm_run 9 12 (.int .i64 (t : Int)) rfl rfl (by kernel_rfl) (by kernel_rfl) (by kernel_rfl) (fun _ _ _ h => h) rfl (fun W hW => exec_load rfl (run_load_one Tryd.underlying3 rfl (cell_of_here hW 1 rfl))) S0.out ?_
  try simp only [Act.put, List.getElem_toArray, List.getElem_cons_succ, List.getElem_cons_zero, List.setIfInBounds_toArray, List.set_cons_zero, List.set_cons_succ]
  refine hm_run 10 13 (.int .i64 (d : Int)) rfl rfl (by kernel_rfl) (by kernel_rfl) (by kernel_rfl) (fun _ _ _ h => h) rfl (fun _ _ => exec_subn rfl rfl rfl HD.out (by have := L.out; omega)) S0.out ?_
  try simp only [Act.put, List.getElem_toArray, List.getElem_cons_succ, List.getElem_cons_zero, List.setIfInBounds_toArray, List.set_cons_zero, List.set_cons_succ]
  refine hm_run 11 2 (.int .i64 (d : Int)) rfl rfl (by kernel_rfl) (by kernel_rfl) (by kernel_rfl) (fun _ _ _ h => h) rfl (fun _ _ => rfl) S0.out ?_
  try simp only [Act.put, List.getElem_toArray, List.getElem_cons_succ, List.getElem_cons_zero, List.setIfInBounds_toArray, List.set_cons_zero, List.set_cons_succ]
  refine wpAnyH_done (by kernel_rfl) ?_ _
  go_wp2
  go_ret
  exact ⟨rfl, E0.out.below⟩
theorem xbit_end (h : Xdr D w b p g c xs t) (ht : t = 8 * xs.length) : Calls Tryd.prog 107 #[.pointer (some ⟨b, 0, none⟩)] w fun e w' => e = .returned (.tuple #[.bool false, .int .i64 50]) ∧ Below w.heap.size w w' := by
  have LF := Lib.hid (xleft_any h)
  rw [show 8 * xs.length - t = 0 by omega] at LF
  clear h
  go_enter Tryd.func107, Tryd.ntmps107
  go_wp2_with (go_at_call 82; refine LF.out.mono ?_; rintro e w3 ⟨rfl, hb⟩; have HB := Lib.hid hb; clear hb)
  go_ret2
  exact ⟨rfl, HB.out⟩
set_option maxHeartbeats 8000000 in
theorem xbit_any (h : Xdr D w b p g c xs t) (ht : t < 8 * xs.length) : Calls Tryd.prog 107 #[.pointer (some ⟨b, 0, none⟩)] w (XrPost D w b p g c xs (t + 1) (.tuple #[.bool (bitAt xs t), .int .i64 0])) := by
  have LF := Lib.hid (xleft_any h)
  obtain ⟨d, hd⟩ : ∃ d, d = 8 * xs.length - t := ⟨_, rfl⟩
  rw [← hd] at LF
  have c0 : ((d : Int) == 0) = false := by have : ¬ ((d : Int) = 0) := by omega
                                           simpa using this
  have H := Lib.hid h
  obtain ⟨n, hn⟩ : ∃ n, n = xs.length := ⟨_, rfl⟩
  have h0 : 0 < xs.length := by omega
  have hp := h.row.head h0
  subst hp
  obtain ⟨q, hq⟩ : ∃ q, q = t / 8 := ⟨_, rfl⟩
  obtain ⟨m, hm⟩ : ∃ m, m = t % 8 := ⟨_, rfl⟩
  obtain ⟨x, hx⟩ : ∃ x, x = lf xs q := ⟨_, rfl⟩
  obtain ⟨t1, ht1⟩ : ∃ t1, t1 = t + 1 := ⟨_, rfl⟩
  have Q := Lib.hid (show q < n ∧ m < 8 ∧ t ≤ 2000000000000000 by have := h.len; omega)
  have HQ := Lib.hid hq
  have HM := Lib.hid hm
  have HX := Lib.hid hx
  have HT := Lib.hid ht
  have T1 := Lib.hid ht1
  have XB := Lib.hid (show x < 256 by rw [hx]; exact h.row.byte q)
  have BT := Lib.hid (show bitAt xs t = x.testBit (7 - m) by unfold bitAt; rw [hx, hq, hm])
  rw [BT.out, ← ht1]
  have BX := Lib.hid (show w.heap[b]? = some (.cells #[.slice (some ⟨g, 0, none⟩) n c, .int .i64 (t : Int)] 153 (0, 0)) by rw [hn]; exact h.box)
  have CX := Lib.hid (show w.cell? ⟨g, q, none⟩ = some (.int .u8 (x : Int)) by have := h.row.cell q (by have := Q.out.1; omega); rw [Nat.zero_add] at this; rw [hx]; exact this)
  have C0 := Lib.hid c0
  have GB := Lib.hid (h.typed h0)
  have HN := Lib.hid hn
  clear h ht hq hm hx h0 hn hd ht1 c0
  go_enter Tryd.func107, Tryd.ntmps107
  go_upto_region 4 with (first
    | (go_at_call 82; refine LF.out.mono ?_; rintro e w3 ⟨rfl, hb⟩; have OB := Lib.hid (only_of_below (b := b) hb); replace H := Lib.hid (H.out.call hb); replace BX := Lib.hid (show w3.heap[b]? = some (.cells #[.slice (some ⟨g, 0, none⟩) n c, .int .i64 (t : Int)] 153 (0, 0)) by rw [hb.block b (heap_lt BX.out)]; exact BX.out); replace CX := Lib.hid (show w3.cell? ⟨g, q, none⟩ = some (.int .u8 (x : Int)) by rw [hb.cell (cell_lt CX.out)]; exact CX.out); clear hb)
    | ((with_reducible refine wpL_at 6 rfl ?_); refine wpList_known rfl (.bool false) _ (exec_ne0 rfl rfl rfl C0.out) ?_)
    | ((with_reducible refine wpL_at 10 rfl ?_); refine wpList_known rfl (.int .i64 (t : Int)) _ (exec_load rfl (run_load_one Tryd.underlying3 rfl (cell_of_here BX.out 1 rfl))) ?_)
    | ((with_reducible refine wpL_at 11 rfl ?_); refine wpList_known rfl (.int .i64 (t1 : Int)) _ (by rw [T1.out]; exact exec_succ3 rfl rfl rfl (by have := Q.out; omega)) ?_)
    | ((with_reducible refine wpL_atn rfl ?_); refine xd_store BX rfl (.tmp 13) (.tmp 11) rfl rfl rfl ?_; intro w4 O3))
  have CX4 := Lib.hid (show w4.cell? ⟨g, q, none⟩ = some (.int .u8 (x : Int)) from O3.out.2.cell GB.out CX.out)
  have BX4 := Lib.hid O3.out.1
  have E1 := Lib.hid (Mem.nil w4)
  refine wp_region_memS (S := fun W' => W'.heap[b]? = some (.cells #[.slice (some ⟨g, 0, none⟩) n c, .int .i64 (t1 : Int)] 153 (0, 0)) ∧ W'.cell? ⟨g, q, none⟩ = some (.int .u8 (x : Int))) E1 (by kernel_rfl) ?_
  clear E1
  intro wx E0
  have OX := Lib.hid (only_of_below (b := b) E0.out.below)
  have S0 := Lib.hid (And.intro (show wx.heap[b]? = some (.cells #[.slice (some ⟨g, 0, none⟩) n c, .int .i64 (t1 : Int)] 153 (0, 0)) by rw [E0.out.below.block b (heap_lt BX4.out)]; exact BX4.out) (show wx.cell? ⟨g, q, none⟩ = some (.int .u8 (x : Int)) by rw [E0.out.below.cell (cell_lt CX4.out)]; exact CX4.out))
  try simp only [Act.put, List.getElem_toArray, List.getElem_cons_succ, List.getElem_cons_zero, List.setIfInBounds_toArray, List.set_cons_zero, List.set_cons_succ]
  refine hm_run 0 14 (.pointer (some ⟨b, 0, none⟩)) rfl rfl (by kernel_rfl) (by kernel_rfl) (by kernel_rfl) (fun _ _ _ h => h) rfl (fun _ _ => rfl) S0.out ?_
  try simp only [Act.put, List.getElem_toArray, List.getElem_cons_succ, List.getElem_cons_zero, List.setIfInBounds_toArray, List.set_cons_zero, List.set_cons_succ]
  refine hm_run 1 15 (.pointer (some ⟨b, 0, none⟩)) rfl rfl (by kernel_rfl) (by kernel_rfl) (by kernel_rfl) (fun _ _ _ h => h) rfl (fun _ _ => rfl) S0.out ?_
  try simp only [Act.put, List.getElem_toArray, List.getElem_cons_succ, List.getElem_cons_zero, List.setIfInBounds_toArray, List.set_cons_zero, List.set_cons_succ]
  refine hm_run 2 16 (.pointer (some ⟨b, 0, none⟩)) rfl rfl (by kernel_rfl) (by kernel_rfl) (by kernel_rfl) (fun _ _ _ h => h) rfl (fun _ _ => rfl) S0.out ?_
  try simp only [Act.put, List.getElem_toArray, List.getElem_cons_succ, List.getElem_cons_zero, List.setIfInBounds_toArray, List.set_cons_zero, List.set_cons_succ]
  refine hm_run 3 17 (.slice (some ⟨g, 0, none⟩) n c) rfl rfl (by kernel_rfl) (by kernel_rfl) (by kernel_rfl) (fun _ _ _ h => h) rfl (fun W hW => exec_load rfl (run_load_one Tryd.underlying26 rfl (cell_of_here hW.1 0 rfl))) S0.out ?_
  try simp only [Act.put, List.getElem_toArray, List.getElem_cons_succ, List.getElem_cons_zero, List.setIfInBounds_toArray, List.set_cons_zero, List.set_cons_succ]
  refine hm_run 4 18 (.pointer (some ⟨b, 0, none⟩)) rfl rfl (by kernel_rfl) (by kernel_rfl) (by kernel_rfl) (fun _ _ _ h => h) rfl (fun _ _ => rfl) S0.out ?_
  try simp only [Act.put, List.getElem_toArray, List.getElem_cons_succ, List.getElem_cons_zero, List.setIfInBounds_toArray, List.set_cons_zero, List.set_cons_succ]
  refine hm_run 5 19 (.pointer (some ⟨b, 0, none⟩)) rfl rfl (by kernel_rfl) (by kernel_rfl) (by kernel_rfl) (fun _ _ _ h => h) rfl (fun _ _ => rfl) S0.out ?_
  try simp only [Act.put, List.getElem_toArray, List.getElem_cons_succ, List.getElem_cons_zero, List.setIfInBounds_toArray, List.set_cons_zero, List.set_cons_succ]
  refine hm_run 6 20 (.pointer (some ⟨b, 1, none⟩)) rfl rfl (by kernel_rfl) (by kernel_rfl) (by kernel_rfl) (fun _ _ _ h => h) rfl (fun _ _ => rfl) S0.out ?_
  try simp only [Act.put, List.getElem_toArray, List.getElem_cons_succ, List.getElem_cons_zero, List.setIfInBounds_toArray, List.set_cons_zero, List.set_cons_succ]
  refine hm_run 7 21 (.int .i64 (t1 : Int)) rfl rfl (by kernel_rfl) (by kernel_rfl) (by kernel_rfl) (fun _ _ _ h => h) rfl (fun W hW => exec_load rfl (run_load_one Tryd.underlying3 rfl (cell_of_here hW.1 1 rfl))) S0.out ?_
  try simp only [Act.put, List.getElem_toArray, List.getElem_cons_succ, List.getElem_cons_zero, List.setIfInBounds_toArray, List.set_cons_zero, List.set_cons_succ]
  refine hm_run 8 22 (.int .i64 (t : Int)) rfl rfl (by kernel_rfl) (by kernel_rfl) (by kernel_rfl) (fun _ _ _ h => h) rfl (fun _ _ => exec_pre1 rfl (by rw [← T1.out]; rfl) rfl (by have := Q.out; omega)) S0.out ?_
  try simp only [Act.put, List.getElem_toArray, List.getElem_cons_succ, List.getElem_cons_zero, List.setIfInBounds_toArray, List.set_cons_zero, List.set_cons_succ]
  refine hm_run 9 23 (.int .i64 (q : Int)) rfl rfl (by kernel_rfl) (by kernel_rfl) (by kernel_rfl) (fun _ _ _ h => h) rfl (fun _ _ => by rw [HQ.out]; exact exec_quo8 rfl rfl rfl Q.out.2.2) S0.out ?_
  try simp only [Act.put, List.getElem_toArray, List.getElem_cons_succ, List.getElem_cons_zero, List.setIfInBounds_toArray, List.set_cons_zero, List.set_cons_succ]
  refine hm_run 10 24 (.pointer (some ⟨g, 0 + q * 1, none⟩)) rfl rfl (by kernel_rfl) (by kernel_rfl) (by kernel_rfl) (fun _ _ _ h => h) rfl (fun W hW => exec_ix rfl (run_ix Tryd.underlying26 (by kernel_rfl) Q.out.1 rfl W)) S0.out ?_
  try simp only [Act.put, List.getElem_toArray, List.getElem_cons_succ, List.getElem_cons_zero, List.setIfInBounds_toArray, List.set_cons_zero, List.set_cons_succ]
  refine hm_run 11 25 (.int .u8 (x : Int)) rfl rfl (by kernel_rfl) (by kernel_rfl) (by kernel_rfl) (fun _ _ _ h => h) rfl (fun W hW => exec_load rfl (run_load_one Tryd.underlying5 rfl (by rw [Nat.zero_add, Nat.mul_one]; exact hW.2))) S0.out ?_
  try simp only [Act.put, List.getElem_toArray, List.getElem_cons_succ, List.getElem_cons_zero, List.setIfInBounds_toArray, List.set_cons_zero, List.set_cons_succ]
  refine hm_run 12 26 (.pointer (some ⟨b, 0, none⟩)) rfl rfl (by kernel_rfl) (by kernel_rfl) (by kernel_rfl) (fun _ _ _ h => h) rfl (fun _ _ => rfl) S0.out ?_
  try simp only [Act.put, List.getElem_toArray, List.getElem_cons_succ, List.getElem_cons_zero, List.setIfInBounds_toArray, List.set_cons_zero, List.set_cons_succ]
  refine hm_run 13 27 (.pointer (some ⟨b, 0, none⟩)) rfl rfl (by kernel_rfl) (by kernel_rfl) (by kernel_rfl) (fun _ _ _ h => h) rfl (fun _ _ => rfl) S0.out ?_
  try simp only [Act.put, List.getElem_toArray, List.getElem_cons_succ, List.getElem_cons_zero, List.setIfInBounds_toArray, List.set_cons_zero, List.set_cons_succ]
  refine hm_run 14 28 (.pointer (some ⟨b, 1, none⟩)) rfl rfl (by kernel_rfl) (by kernel_rfl) (by kernel_rfl) (fun _ _ _ h => h) rfl (fun _ _ => rfl) S0.out ?_
  try simp only [Act.put, List.getElem_toArray, List.getElem_cons_succ, List.getElem_cons_zero, List.setIfInBounds_toArray, List.set_cons_zero, List.set_cons_succ]
  refine hm_run 15 29 (.int .i64 (t1 : Int)) rfl rfl (by kernel_rfl) (by kernel_rfl) (by kernel_rfl) (fun _ _ _ h => h) rfl (fun W hW => exec_load rfl (run_load_one Tryd.underlying3 rfl (cell_of_here hW.1 1 rfl))) S0.out ?_
  try simp only [Act.put, List.getElem_toArray, List.getElem_cons_succ, List.getElem_cons_zero, List.setIfInBounds_toArray, List.set_cons_zero, List.set_cons_succ]
  refine hm_run 16 30 (.int .i64 (t : Int)) rfl rfl (by kernel_rfl) (by kernel_rfl) (by kernel_rfl) (fun _ _ _ h => h) rfl (fun _ _ => exec_pre1 rfl (by rw [← T1.out]; rfl) rfl (by have := Q.out; omega)) S0.out ?_
  try simp only [Act.put, List.getElem_toArray, List.getElem_cons_succ, List.getElem_cons_zero, List.setIfInBounds_toArray, List.set_cons_zero, List.set_cons_succ]
  refine hm_run 17 31 (.int .i64 (m : Int)) rfl rfl (by kernel_rfl) (by kernel_rfl) (by kernel_rfl) (fun _ _ _ h => h) rfl (fun _ _ => by rw [HM.out]; exact exec_rem8 rfl rfl rfl Q.out.2.2) S0.out ?_
  try simp only [Act.put, List.getElem_toArray, List.getElem_cons_succ, List.getElem_cons_zero, List.setIfInBounds_toArray, List.set_cons_zero, List.set_cons_succ]
  refine hm_run 18 32 (.int .i64 ((7 - m : Nat) : Int)) rfl rfl (by kernel_rfl) (by kernel_rfl) (by kernel_rfl) (fun _ _ _ h => h) rfl (fun _ _ => exec_7sub rfl rfl rfl Q.out.2.1) S0.out ?_
  try simp only [Act.put, List.getElem_toArray, List.getElem_cons_succ, List.getElem_cons_zero, List.setIfInBounds_toArray, List.set_cons_zero, List.set_cons_succ]
  refine hm_run 19 33 (.int .u8 ((x / 2 ^ (7 - m) : Nat) : Int)) rfl rfl (by kernel_rfl) (by kernel_rfl) (by kernel_rfl) (fun _ _ _ h => h) rfl (fun _ _ => exec_shr8v rfl rfl rfl (by omega)) S0.out ?_
  try simp only [Act.put, List.getElem_toArray, List.getElem_cons_succ, List.getElem_cons_zero, List.setIfInBounds_toArray, List.set_cons_zero, List.set_cons_succ]
  refine hm_run 20 34 (.int .u8 ((x / 2 ^ (7 - m) % 2 : Nat) : Int)) rfl rfl (by kernel_rfl) (by kernel_rfl) (by kernel_rfl) (fun _ _ _ h => h) rfl (fun _ _ => exec_and8 rfl rfl rfl (Nat.lt_of_le_of_lt (Nat.div_le_self _ _) XB.out)) S0.out ?_
  try simp only [Act.put, List.getElem_toArray, List.getElem_cons_succ, List.getElem_cons_zero, List.setIfInBounds_toArray, List.set_cons_zero, List.set_cons_succ]
  refine hm_run 21 35 (.bool (x.testBit (7 - m))) rfl rfl (by kernel_rfl) (by kernel_rfl) (by kernel_rfl) (fun _ _ _ h => h) rfl (fun _ _ => exec_eq8 rfl rfl rfl (bit_low _ _)) S0.out ?_
  try simp only [Act.put, List.getElem_toArray, List.getElem_cons_succ, List.getElem_cons_zero, List.setIfInBounds_toArray, List.set_cons_zero, List.set_cons_succ]
  refine hm_run 22 2 (.bool (x.testBit (7 - m))) rfl rfl (by kernel_rfl) (by kernel_rfl) (by kernel_rfl) (fun _ _ _ h => h) rfl (fun _ _ => rfl) S0.out ?_
  try simp only [Act.put, List.getElem_toArray, List.getElem_cons_succ, List.getElem_cons_zero, List.setIfInBounds_toArray, List.set_cons_zero, List.set_cons_succ]
  refine hm_run 23 3 _ rfl rfl (by kernel_rfl) (by kernel_rfl) (by kernel_rfl) (fun _ _ _ h => h) rfl (fun _ _ => rfl) S0.out ?_
  try simp only [Act.put, List.getElem_toArray, List.getElem_cons_succ, List.getElem_cons_zero, List.setIfInBounds_toArray, List.set_cons_zero, List.set_cons_succ]
  refine wpAnyH_done (by kernel_rfl) ?_ _
  go_wp2
  go_ret2
  refine ⟨rfl, Xdr.kw H.out t1 (by have := HT.out; have := T1.out; omega) ?_ ?_, OB.out.trans (O3.out.2.trans OX.out)⟩
  · rw [← HN.out]; exact S0.out.1
  · exact O3.out.2.trans OX.out
end
end Go.Proofs.YtfnfdfhmdepgoaaDoor

