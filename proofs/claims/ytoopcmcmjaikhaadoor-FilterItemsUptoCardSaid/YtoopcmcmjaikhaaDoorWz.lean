/- A reader of bits. -/
import Derived.Test.YtoopcmcmjaikhaaDoorWy
set_option linter.unusedSimpArgs false
set_option linter.unusedVariables false
set_option maxRecDepth 100000
namespace Go.Proofs.YtoopcmcmjaikhaaDoor
open Go.RowKit Go.Lib Go.Sort

/-- Bit i of bytes. -/
def bitAt (xs : List Nat) (i : Nat) : Bool := (lf xs (i / 8)).testBit (7 - i % 8)
/-- The number that c bits say. -/
def vF (f : Nat → Bool) : Nat → Nat
  | 0 => 0
  | c + 1 => 2 * vF f c + (f c).toNat
theorem vF_bit (f : Nat → Bool) (c k : Nat) : (vF f c).testBit k = (decide (k < c) && f (c - 1 - k)) := by
  induction c generalizing k with
  | zero => simp [vF]
  | succ c ih =>
    cases k with
    | zero =>
      have h : (2 * vF f c + (f c).toNat) % 2 = (f c).toNat := by cases f c <;> simp <;> omega
      rw [vF, Nat.testBit_zero, h]
      cases hf : f c <;> simp [hf]
    | succ k =>
      have h : (2 * vF f c + (f c).toNat) / 2 = vF f c := by cases f c <;> simp <;> omega
      rw [vF, Nat.testBit_succ, h, ih, decide_eq_decide.2 (show k < c ↔ k + 1 < c + 1 by omega), show c + 1 - 1 - (k + 1) = c - 1 - k by omega]
theorem vF_lt (f : Nat → Bool) (c : Nat) : vF f c < 2 ^ c := by
  refine Nat.lt_pow_two_of_testBit _ fun k hk => ?_
  rw [vF_bit, decide_eq_false (by omega)]
  rfl
theorem vF_of {f : Nat → Bool} {n c : Nat} (h : ∀ i, i < c → f i = n.testBit (c - 1 - i)) : vF f c = n % 2 ^ c := by
  refine Nat.eq_of_testBit_eq fun k => ?_
  rw [vF_bit, Nat.testBit_mod_two_pow]
  by_cases hk : k < c
  · rw [decide_eq_true hk, h _ (by omega), show c - 1 - (c - 1 - k) = k by omega]
  · rw [decide_eq_false hk]; rfl
/-- The number of the next c bits. -/
abbrev valFrom (xs : List Nat) (t c : Nat) : Nat := vF (fun i => bitAt xs (t + i)) c
/-- A reader of xs of which t bits are taken. -/
structure Rdr (D w : World) (b : Nat) (p : Option Addr) (g c : Nat) (xs : List Nat) (t : Nat) : Prop where
  box : w.heap[b]? = some (.cells #[.bool true, .slice p xs.length c, .int .i64 (t : Int)] 129 (0, 0))
  row : Row w p g 0 xs.length c (lf xs)
  typ : 0 < xs.length → ∃ cur, w.heap[g]? = some (.cells cur 5 (0, 0))
  lo : D.heap.size ≤ b
  le : t ≤ 8 * xs.length
  len : xs.length ≤ 140737488351232
theorem Rdr.typed {D w : World} {b : Nat} {p : Option Addr} {g c : Nat} {xs : List Nat} {t : Nat} (h : Rdr D w b p g c xs t) : 0 < xs.length → g ≠ b := fun h0 e => by
  obtain ⟨cur, hc⟩ := h.typ h0
  have hb := h.box
  rw [e] at hc
  rw [hc] at hb
  injection hb with hb
  injection hb with _ h2 _
  exact absurd h2 (by decide)
theorem Rdr.call {D w w' : World} {b : Nat} {p : Option Addr} {g c : Nat} {xs : List Nat} {t : Nat} (h : Rdr D w b p g c xs t) (hb : Below w.heap.size w w') : Rdr D w' b p g c xs t :=
  ⟨by rw [hb.block b (heap_lt h.box)]; exact h.box, h.row.below hb, fun h0 => by obtain ⟨cur, hc⟩ := h.typ h0; exact ⟨cur, by rw [hb.block g (heap_lt hc)]; exact hc⟩, h.lo, h.le, h.len⟩
theorem Rdr.kw {D w w' : World} {b : Nat} {p : Option Addr} {g c : Nat} {xs : List Nat} {t : Nat} (h : Rdr D w b p g c xs t) (t' : Nat) (ht : t' ≤ 8 * xs.length) (hb : w'.heap[b]? = some (.cells #[.bool true, .slice p xs.length c, .int .i64 (t' : Int)] 129 (0, 0))) (ho : Only b w w') : Rdr D w' b p g c xs t' :=
  ⟨hb, ⟨h.row.le, h.row.cap, h.row.nil, h.row.head, fun i hi => by
    refine ho.cell (h.typed (by omega)) (h.row.cell i hi), h.row.byte⟩, fun h0 => by obtain ⟨cur, hc⟩ := h.typ h0; exact ⟨cur, ho.heap (h.typed h0) hc⟩, h.lo, ht, h.len⟩
/-- What a call of it leaves. -/
def RrPost (D w : World) (b : Nat) (p : Option Addr) (g c : Nat) (xs : List Nat) (t : Nat) (r : Value) (e : Ending) (w' : World) : Prop := e = .returned r ∧ Rdr D w' b p g c xs t ∧ Only b w w'
theorem exec_shl8v {o : Oper} {ev : Operand → Value} {W : World} {x y : Operand} {n k : Nat} (ho : o.op = .binOp .shl 5 x y 3) (hx : ev x = .int .u8 (n : Int)) (hy : ev y = .int .i64 (k : Int)) (hk : k < 8) : (execOp ev o).run Tryd.prog W = .ok (.value (.int .u8 ((n * 2 ^ k % 256 : Nat) : Int))) W := by
  have h1 : min k 8 = k := by omega
  unfold execOp
  simp [ho, hx, hy, go_sem, IntKind.bits, h1, IntKind.wrap_u8']
theorem exec_and128 {o : Oper} {ev : Operand → Value} {W : World} {x y : Operand} {n : Nat} (ho : o.op = .binOp .and 5 x y 5) (hx : ev x = .int .u8 (n : Int)) (hy : ev y = .int .u8 128) (hn : n < 256) : (execOp ev o).run Tryd.prog W = .ok (.value (.int .u8 ((n &&& 128 : Nat) : Int))) W := by
  have h : bits .and .u8 (n : Int) 128 = ((n &&& 128 : Nat) : Int) := u8_and_nat n 128 hn (by omega)
  unfold execOp
  simp [ho, hx, hy, go_sem, h]
theorem exec_nz8 {o : Oper} {ev : Operand → Value} {W : World} {x y : Operand} {n : Nat} {r : Bool} (ho : o.op = .binOp .neq 5 x y 5) (hx : ev x = .int .u8 (n : Int)) (hy : ev y = .int .u8 0) (hr : decide (n ≠ 0) = r) : (execOp ev o).run Tryd.prog W = .ok (.value (.bool r)) W := by
  subst hr
  unfold execOp
  by_cases h : n = 0
  · subst h
    simp [ho, hx, hy, go_sem, Tryd.underlying5]
  · have h2 : ¬ ((n : Int) = 0) := by omega
    simp [ho, hx, hy, go_sem, Tryd.underlying5, h, h2]
theorem exec_quo8 {o : Oper} {ev : Operand → Value} {W : World} {x y : Operand} {n : Nat} (ho : o.op = .binOp .quo 3 x y 3) (hx : ev x = .int .i64 (n : Int)) (hy : ev y = .int .i64 8) (hn : n ≤ 2000000000000000) : (execOp ev o).run Tryd.prog W = .ok (.value (.int .i64 ((n / 8 : Nat) : Int))) W := by
  have h : IntKind.i64.wrap ((n : Int).tdiv 8) = ((n / 8 : Nat) : Int) := by rw [Int.tdiv_eq_ediv_of_nonneg (by omega), IntKind.wrap_i64]; omega
  unfold execOp
  simp [ho, hx, hy, go_sem]
  all_goals (try (simp only [IntKind.wrap_i64, wrap64] at *))
  all_goals (try (rw [Int.tdiv_eq_ediv_of_nonneg (by omega)]))
  all_goals omega
theorem exec_rem8 {o : Oper} {ev : Operand → Value} {W : World} {x y : Operand} {n : Nat} (ho : o.op = .binOp .rem 3 x y 3) (hx : ev x = .int .i64 (n : Int)) (hy : ev y = .int .i64 8) (hn : n ≤ 2000000000000000) : (execOp ev o).run Tryd.prog W = .ok (.value (.int .i64 ((n % 8 : Nat) : Int))) W := by
  unfold execOp
  simp [ho, hx, hy, go_sem]
  all_goals (try (simp only [IntKind.wrap_i64, wrap64] at *))
  all_goals (try (rw [Int.tmod_eq_emod_of_nonneg (by omega)]))
  all_goals omega
theorem exec_mul8 {o : Oper} {ev : Operand → Value} {W : World} {x y : Operand} {n : Nat} (ho : o.op = .binOp .mul 3 x y 3) (hx : ev x = .int .i64 (n : Int)) (hy : ev y = .int .i64 8) (hn : n ≤ 2000000000000000) : (execOp ev o).run Tryd.prog W = .ok (.value (.int .i64 ((8 * n : Nat) : Int))) W := by
  unfold execOp
  simp [ho, hx, hy, go_sem]
  all_goals (try (simp only [IntKind.wrap_i64, wrap64] at *))
  all_goals omega
theorem exec_subn {o : Oper} {ev : Operand → Value} {W : World} {x y : Operand} {n m d : Nat} (ho : o.op = .binOp .sub 3 x y 3) (hx : ev x = .int .i64 (n : Int)) (hy : ev y = .int .i64 (m : Int)) (hd : d = n - m) (hn : m ≤ n ∧ n ≤ 2000000000000000) : (execOp ev o).run Tryd.prog W = .ok (.value (.int .i64 (d : Int))) W := by
  unfold execOp
  simp [ho, hx, hy, go_sem]
  all_goals (try (simp only [IntKind.wrap_i64, wrap64] at *))
  all_goals omega
theorem bit_top (n k : Nat) (hk : k < 8) : decide ((n * 2 ^ k % 256) &&& 128 ≠ 0) = n.testBit (7 - k) := by
  have h : (n * 2 ^ k % 256).testBit 7 = n.testBit (7 - k) := by
    rw [show (256 : Nat) = 2 ^ 8 from rfl, Nat.testBit_mod_two_pow, Nat.testBit_mul_two_pow]
    simp
    omega
  have h2 : ∀ x : Fin 256, decide (x.val &&& 128 ≠ 0) = x.val.testBit 7 := by decide +kernel
  rw [← h]
  exact h2 ⟨n * 2 ^ k % 256, Nat.mod_lt _ (by omega)⟩
theorem only_of_below {b : Nat} {w w' : World} (h : Below w.heap.size w w') : Only b w w' := ⟨h.os, h.tape, h.output, h.size, fun k hk _ => h.block k hk⟩
theorem rd_store {ops : Array Oper} {rest : List Oper} {Q : Exit → Act → World → Prop} {op : Oper} {a : Act} {w : World} {b T : Nat} {u v z : Value} {X : Prop} (S0 : Hid (w.heap[b]? = some (.cells #[u, v, z] T (0, 0)) ∧ X)) (hg : op.guard = none) (x y : Operand) (ho : op.op = .store 3 x y) (hx : a.eval x = .pointer (some ⟨b, 2, none⟩)) {k : Int} (hy : a.eval y = .int .i64 k)
    (h : ∀ w', Hid (w'.heap[b]? = some (.cells #[u, v, .int .i64 k] T (0, 0)) ∧ Only b w w') → wpList Tryd.prog ops Q rest (a.put op.dst undef) w') : wpList Tryd.prog ops Q (op :: rest) a w := by
  have hb := S0.out.1
  have hH : Holds b T #[u, v, .int .i64 k] w (w.setCell ⟨b, 2, none⟩ (.int .i64 k)) := (Holds.start hb).set rfl
  refine wpList_plain hg fun K hK => ?_
  unfold Oper.wp execOp
  simp only [ho, hx, hy, Sem.run_bind, Sem.run_pure, run_store_one (P := Tryd.prog) (ty := 3) (v := .int .i64 k) (by kernel_rfl) rfl rfl (cell_of_here hb 2 rfl) (free_of_here hb 2), Result.andThen_ok]
  exact hK _ _ (h _ (Lib.hid ⟨hH.here, hH.only⟩))
section
variable {D w : World} {b : Nat} {p : Option Addr} {g c : Nat} {xs : List Nat} {t : Nat}
theorem rmade_any (h : Rdr D w b p g c xs t) : Calls Tryd.prog 87 #[.pointer (some ⟨b, 0, none⟩)] w fun e w' => e = .returned (.bool true) ∧ w = w' := by
  have c0 := cell_of_here h.box 0 (v := .bool true) rfl
  clear h
  go_enter Tryd.func87, Tryd.ntmps87
  go_wp2
  go_ret
  exact ⟨rfl, rfl⟩
set_option maxHeartbeats 4000000 in
theorem rtake_any (h : Rdr D w b p g c xs t) (ht : t < 8 * xs.length) : Calls Tryd.prog 114 #[.pointer (some ⟨b, 0, none⟩)] w (RrPost D w b p g c xs (t + 1) (.bool (bitAt xs t))) := by
  have H := Lib.hid h
  obtain ⟨n, hn⟩ : ∃ n, n = xs.length := ⟨_, rfl⟩
  have h0 : 0 < xs.length := by omega
  have hp := h.row.head h0
  subst hp
  obtain ⟨q, hq⟩ : ∃ q, q = t / 8 := ⟨_, rfl⟩
  obtain ⟨m, hm⟩ : ∃ m, m = t % 8 := ⟨_, rfl⟩
  obtain ⟨x, hx⟩ : ∃ x, x = lf xs q := ⟨_, rfl⟩
  have Q := Lib.hid (show q < n ∧ m < 8 ∧ t ≤ 2000000000000000 by have := h.len; omega)
  have HQ := Lib.hid hq
  have HM := Lib.hid hm
  have HX := Lib.hid hx
  have HT := Lib.hid ht
  have XB := Lib.hid (show x < 256 by rw [hx]; exact h.row.byte q)
  have BT := Lib.hid (show bitAt xs t = x.testBit (7 - m) by unfold bitAt; rw [hx, hq, hm])
  rw [BT.out]
  have BX : w.heap[b]? = some (.cells #[.bool true, .slice (some ⟨g, 0, none⟩) n c, .int .i64 (t : Int)] 129 (0, 0)) := by rw [hn]; exact h.box
  have CX : w.cell? ⟨g, q, none⟩ = some (.int .u8 (x : Int)) := by have := h.row.cell q (by have := Q.out.1; omega); rw [Nat.zero_add] at this; rw [hx]; exact this
  have BB := Lib.hid (And.intro BX CX)
  have HN := Lib.hid hn
  clear BX CX h ht hq hm hx h0 hn
  go_enter Tryd.func114, Tryd.ntmps114
  go_upto_region 1 with fail
  have E1 := Lib.hid (Mem.nil w)
  refine wp_region_memS (S := fun W' => W'.heap[b]? = some (.cells #[.bool true, .slice (some ⟨g, 0, none⟩) n c, .int .i64 (t : Int)] 129 (0, 0)) ∧ W'.cell? ⟨g, q, none⟩ = some (.int .u8 (x : Int))) E1 (by kernel_rfl) ?_
  clear E1
  intro wx E0
  replace H := Lib.hid (H.out.call E0.out.below)
  have OX := Lib.hid (Only.refl b w |>.trans (only_of_below (b := b) E0.out.below))
  have S0 := Lib.hid (And.intro (show wx.heap[b]? = some (.cells #[.bool true, .slice (some ⟨g, 0, none⟩) n c, .int .i64 (t : Int)] 129 (0, 0)) by rw [E0.out.below.block b (heap_lt BB.out.1)]; exact BB.out.1) (show wx.cell? ⟨g, q, none⟩ = some (.int .u8 (x : Int)) by rw [E0.out.below.cell (cell_lt BB.out.2)]; exact BB.out.2))
  clear E0 BB
  try simp only [Act.put, List.getElem_toArray, List.getElem_cons_succ, List.getElem_cons_zero, List.setIfInBounds_toArray, List.set_cons_zero, List.set_cons_succ]
  refine hm_run 0 5 (.pointer (some ⟨b, 0, none⟩)) rfl rfl (by kernel_rfl) (by kernel_rfl) (by kernel_rfl) (fun _ _ _ h => h) rfl (fun W' hW => rfl) S0.out ?_
  try simp only [Act.put, List.getElem_toArray, List.getElem_cons_succ, List.getElem_cons_zero, List.setIfInBounds_toArray, List.set_cons_zero, List.set_cons_succ]
  refine hm_run 1 6 (.pointer (some ⟨b, 0, none⟩)) rfl rfl (by kernel_rfl) (by kernel_rfl) (by kernel_rfl) (fun _ _ _ h => h) rfl (fun W' hW => rfl) S0.out ?_
  try simp only [Act.put, List.getElem_toArray, List.getElem_cons_succ, List.getElem_cons_zero, List.setIfInBounds_toArray, List.set_cons_zero, List.set_cons_succ]
  refine hm_run 2 7 (.pointer (some ⟨b, 1, none⟩)) rfl rfl (by kernel_rfl) (by kernel_rfl) (by kernel_rfl) (fun _ _ _ h => h) rfl (fun W' hW => rfl) S0.out ?_
  try simp only [Act.put, List.getElem_toArray, List.getElem_cons_succ, List.getElem_cons_zero, List.setIfInBounds_toArray, List.set_cons_zero, List.set_cons_succ]
  refine hm_run 3 8 (.slice (some ⟨g, 0, none⟩) n c) rfl rfl (by kernel_rfl) (by kernel_rfl) (by kernel_rfl) (fun _ _ _ h => h) rfl (fun W' hW => exec_load rfl (run_load_one Tryd.underlying32 rfl (cell_of_here hW.1 1 rfl))) S0.out ?_
  try simp only [Act.put, List.getElem_toArray, List.getElem_cons_succ, List.getElem_cons_zero, List.setIfInBounds_toArray, List.set_cons_zero, List.set_cons_succ]
  refine hm_run 4 9 (.pointer (some ⟨b, 0, none⟩)) rfl rfl (by kernel_rfl) (by kernel_rfl) (by kernel_rfl) (fun _ _ _ h => h) rfl (fun W' hW => rfl) S0.out ?_
  try simp only [Act.put, List.getElem_toArray, List.getElem_cons_succ, List.getElem_cons_zero, List.setIfInBounds_toArray, List.set_cons_zero, List.set_cons_succ]
  refine hm_run 5 10 (.pointer (some ⟨b, 0, none⟩)) rfl rfl (by kernel_rfl) (by kernel_rfl) (by kernel_rfl) (fun _ _ _ h => h) rfl (fun W' hW => rfl) S0.out ?_
  try simp only [Act.put, List.getElem_toArray, List.getElem_cons_succ, List.getElem_cons_zero, List.setIfInBounds_toArray, List.set_cons_zero, List.set_cons_succ]
  refine hm_run 6 11 (.pointer (some ⟨b, 2, none⟩)) rfl rfl (by kernel_rfl) (by kernel_rfl) (by kernel_rfl) (fun _ _ _ h => h) rfl (fun W' hW => rfl) S0.out ?_
  try simp only [Act.put, List.getElem_toArray, List.getElem_cons_succ, List.getElem_cons_zero, List.setIfInBounds_toArray, List.set_cons_zero, List.set_cons_succ]
  refine hm_run 7 12 (.int .i64 (t : Int)) rfl rfl (by kernel_rfl) (by kernel_rfl) (by kernel_rfl) (fun _ _ _ h => h) rfl (fun W' hW => exec_load rfl (run_load_one Tryd.underlying3 rfl (cell_of_here hW.1 2 rfl))) S0.out ?_
  try simp only [Act.put, List.getElem_toArray, List.getElem_cons_succ, List.getElem_cons_zero, List.setIfInBounds_toArray, List.set_cons_zero, List.set_cons_succ]
  refine hm_run 8 13 (.int .i64 (q : Int)) rfl rfl (by kernel_rfl) (by kernel_rfl) (by kernel_rfl) (fun _ _ _ h => h) rfl (fun W' hW => by rw [HQ.out]; exact exec_quo8 rfl rfl rfl Q.out.2.2) S0.out ?_
  try simp only [Act.put, List.getElem_toArray, List.getElem_cons_succ, List.getElem_cons_zero, List.setIfInBounds_toArray, List.set_cons_zero, List.set_cons_succ]
  refine hm_run 9 14 (.pointer (some ⟨g, 0 + q * 1, none⟩)) rfl rfl (by kernel_rfl) (by kernel_rfl) (by kernel_rfl) (fun _ _ _ h => h) rfl (fun W' hW => exec_ix rfl (run_ix Tryd.underlying32 (by kernel_rfl) Q.out.1 rfl W')) S0.out ?_
  try simp only [Act.put, List.getElem_toArray, List.getElem_cons_succ, List.getElem_cons_zero, List.setIfInBounds_toArray, List.set_cons_zero, List.set_cons_succ]
  refine hm_run 10 15 (.int .u8 (x : Int)) rfl rfl (by kernel_rfl) (by kernel_rfl) (by kernel_rfl) (fun _ _ _ h => h) rfl (fun W' hW => exec_load rfl (run_load_one Tryd.underlying5 rfl (by rw [Nat.zero_add, Nat.mul_one]; exact hW.2))) S0.out ?_
  try simp only [Act.put, List.getElem_toArray, List.getElem_cons_succ, List.getElem_cons_zero, List.setIfInBounds_toArray, List.set_cons_zero, List.set_cons_succ]
  refine hm_run 11 16 (.pointer (some ⟨b, 0, none⟩)) rfl rfl (by kernel_rfl) (by kernel_rfl) (by kernel_rfl) (fun _ _ _ h => h) rfl (fun W' hW => rfl) S0.out ?_
  try simp only [Act.put, List.getElem_toArray, List.getElem_cons_succ, List.getElem_cons_zero, List.setIfInBounds_toArray, List.set_cons_zero, List.set_cons_succ]
  refine hm_run 12 17 (.pointer (some ⟨b, 0, none⟩)) rfl rfl (by kernel_rfl) (by kernel_rfl) (by kernel_rfl) (fun _ _ _ h => h) rfl (fun W' hW => rfl) S0.out ?_
  try simp only [Act.put, List.getElem_toArray, List.getElem_cons_succ, List.getElem_cons_zero, List.setIfInBounds_toArray, List.set_cons_zero, List.set_cons_succ]
  refine hm_run 13 18 (.pointer (some ⟨b, 2, none⟩)) rfl rfl (by kernel_rfl) (by kernel_rfl) (by kernel_rfl) (fun _ _ _ h => h) rfl (fun W' hW => rfl) S0.out ?_
  try simp only [Act.put, List.getElem_toArray, List.getElem_cons_succ, List.getElem_cons_zero, List.setIfInBounds_toArray, List.set_cons_zero, List.set_cons_succ]
  refine hm_run 14 19 (.int .i64 (t : Int)) rfl rfl (by kernel_rfl) (by kernel_rfl) (by kernel_rfl) (fun _ _ _ h => h) rfl (fun W' hW => exec_load rfl (run_load_one Tryd.underlying3 rfl (cell_of_here hW.1 2 rfl))) S0.out ?_
  try simp only [Act.put, List.getElem_toArray, List.getElem_cons_succ, List.getElem_cons_zero, List.setIfInBounds_toArray, List.set_cons_zero, List.set_cons_succ]
  refine hm_run 15 20 (.int .i64 (m : Int)) rfl rfl (by kernel_rfl) (by kernel_rfl) (by kernel_rfl) (fun _ _ _ h => h) rfl (fun W' hW => by rw [HM.out]; exact exec_rem8 rfl rfl rfl Q.out.2.2) S0.out ?_
  try simp only [Act.put, List.getElem_toArray, List.getElem_cons_succ, List.getElem_cons_zero, List.setIfInBounds_toArray, List.set_cons_zero, List.set_cons_succ]
  refine hm_run 16 3 (.int .u8 (x : Int)) rfl rfl (by kernel_rfl) (by kernel_rfl) (by kernel_rfl) (fun _ _ _ h => h) rfl (fun W' hW => rfl) S0.out ?_
  try simp only [Act.put, List.getElem_toArray, List.getElem_cons_succ, List.getElem_cons_zero, List.setIfInBounds_toArray, List.set_cons_zero, List.set_cons_succ]
  refine hm_run 17 4 (.int .i64 (m : Int)) rfl rfl (by kernel_rfl) (by kernel_rfl) (by kernel_rfl) (fun _ _ _ h => h) rfl (fun W' hW => rfl) S0.out ?_
  try simp only [Act.put, List.getElem_toArray, List.getElem_cons_succ, List.getElem_cons_zero, List.setIfInBounds_toArray, List.set_cons_zero, List.set_cons_succ]
  refine wpAnyH_done (by kernel_rfl) ?_ _
  have bx := S0.out.1
  have c2 := cell_of_here bx 2 (v := .int .i64 (t : Int)) rfl
  have ct : wrap64 ((t : Int) + 1) = ((t + 1 : Nat) : Int) := by have := Q.out; unfold wrap64; omega
  clear bx
  go_upto_region 3 with (first
    | (refine rd_store S0 rfl (.tmp 27) (.tmp 25) rfl rfl rfl ?_; intro w3 O3))
  clear c2
  go_wp2_with (first
    | (refine wpList_known rfl (.int .u8 ((x * 2 ^ m % 256 : Nat) : Int)) _ (exec_shl8v rfl rfl rfl Q.out.2.1) ?_)
    | (refine wpList_known rfl (.int .u8 ((x * 2 ^ m % 256 &&& 128 : Nat) : Int)) _ (exec_and128 rfl rfl rfl (Nat.mod_lt _ (by omega))) ?_)
    | (refine wpList_known rfl (.bool (x.testBit (7 - m))) _ (exec_nz8 rfl rfl rfl (bit_top x m Q.out.2.1)) ?_))
  go_ret
  exact ⟨rfl, H.out.kw (t + 1) (by have := HT.out; omega) (by have h := O3.out.1; rw [ct, HN.out] at h; exact h) O3.out.2, OX.out.trans O3.out.2⟩
set_option maxHeartbeats 4000000 in
theorem rleft_any (h : Rdr D w b p g c xs t) : Calls Tryd.prog 90 #[.pointer (some ⟨b, 0, none⟩)] w fun e w' => e = .returned (.int .i64 ((8 * xs.length - t : Nat) : Int)) ∧ Below w.heap.size w w' := by
  have M := Lib.hid (rmade_any h)
  have L := Lib.hid (And.intro h.le h.len)
  obtain ⟨n, hn⟩ : ∃ n, n = xs.length := ⟨_, rfl⟩
  have BX := Lib.hid h.box
  rw [← hn] at BX L ⊢
  obtain ⟨d, hd⟩ : ∃ d, d = 8 * n - t := ⟨_, rfl⟩
  have HD := Lib.hid hd
  rw [← hd]
  clear h hn hd
  go_enter Tryd.func90, Tryd.ntmps90
  go_upto_region 3 with (go_at_call 87; refine M.out.mono ?_; rintro e w2 ⟨rfl, rfl⟩)
  have E1 := Lib.hid (Mem.nil w)
  refine wp_region_memS (S := fun W' => W'.heap[b]? = some (.cells #[.bool true, .slice p n c, .int .i64 (t : Int)] 129 (0, 0))) E1 (by kernel_rfl) ?_
  clear E1
  intro wx E0
  have S0 := Lib.hid (show wx.heap[b]? = some (.cells #[.bool true, .slice p n c, .int .i64 (t : Int)] 129 (0, 0)) by rw [E0.out.below.block b (heap_lt BX.out)]; exact BX.out)
  try simp only [Act.put, List.getElem_toArray, List.getElem_cons_succ, List.getElem_cons_zero, List.setIfInBounds_toArray, List.set_cons_zero, List.set_cons_succ]
  refine hm_run 0 6 (.pointer (some ⟨b, 0, none⟩)) rfl rfl (by kernel_rfl) (by kernel_rfl) (by kernel_rfl) (fun _ _ _ h => h) rfl (fun W' hW => rfl) S0.out ?_
  try simp only [Act.put, List.getElem_toArray, List.getElem_cons_succ, List.getElem_cons_zero, List.setIfInBounds_toArray, List.set_cons_zero, List.set_cons_succ]
  refine hm_run 1 7 (.pointer (some ⟨b, 0, none⟩)) rfl rfl (by kernel_rfl) (by kernel_rfl) (by kernel_rfl) (fun _ _ _ h => h) rfl (fun W' hW => rfl) S0.out ?_
  try simp only [Act.put, List.getElem_toArray, List.getElem_cons_succ, List.getElem_cons_zero, List.setIfInBounds_toArray, List.set_cons_zero, List.set_cons_succ]
  refine hm_run 2 8 (.pointer (some ⟨b, 1, none⟩)) rfl rfl (by kernel_rfl) (by kernel_rfl) (by kernel_rfl) (fun _ _ _ h => h) rfl (fun W' hW => rfl) S0.out ?_
  try simp only [Act.put, List.getElem_toArray, List.getElem_cons_succ, List.getElem_cons_zero, List.setIfInBounds_toArray, List.set_cons_zero, List.set_cons_succ]
  refine hm_run 3 9 (.slice p n c) rfl rfl (by kernel_rfl) (by kernel_rfl) (by kernel_rfl) (fun _ _ _ h => h) rfl (fun W' hW => exec_load rfl (run_load_one Tryd.underlying32 rfl (cell_of_here hW 1 rfl))) S0.out ?_
  try simp only [Act.put, List.getElem_toArray, List.getElem_cons_succ, List.getElem_cons_zero, List.setIfInBounds_toArray, List.set_cons_zero, List.set_cons_succ]
  refine hm_run 4 10 (.int .i64 (n : Int)) rfl rfl (by kernel_rfl) (by kernel_rfl) (by kernel_rfl) (fun _ _ _ h => h) rfl (fun W' hW => exec_lenb rfl rfl) S0.out ?_
  try simp only [Act.put, List.getElem_toArray, List.getElem_cons_succ, List.getElem_cons_zero, List.setIfInBounds_toArray, List.set_cons_zero, List.set_cons_succ]
  refine hm_run 5 11 (.int .i64 ((8 * n : Nat) : Int)) rfl rfl (by kernel_rfl) (by kernel_rfl) (by kernel_rfl) (fun _ _ _ h => h) rfl (fun W' hW => exec_mul8 rfl rfl rfl (by have := L.out; omega)) S0.out ?_
  try simp only [Act.put, List.getElem_toArray, List.getElem_cons_succ, List.getElem_cons_zero, List.setIfInBounds_toArray, List.set_cons_zero, List.set_cons_succ]
  refine hm_run 6 12 (.pointer (some ⟨b, 0, none⟩)) rfl rfl (by kernel_rfl) (by kernel_rfl) (by kernel_rfl) (fun _ _ _ h => h) rfl (fun W' hW => rfl) S0.out ?_
  try simp only [Act.put, List.getElem_toArray, List.getElem_cons_succ, List.getElem_cons_zero, List.setIfInBounds_toArray, List.set_cons_zero, List.set_cons_succ]
  refine hm_run 7 13 (.pointer (some ⟨b, 0, none⟩)) rfl rfl (by kernel_rfl) (by kernel_rfl) (by kernel_rfl) (fun _ _ _ h => h) rfl (fun W' hW => rfl) S0.out ?_
  try simp only [Act.put, List.getElem_toArray, List.getElem_cons_succ, List.getElem_cons_zero, List.setIfInBounds_toArray, List.set_cons_zero, List.set_cons_succ]
  refine hm_run 8 14 (.pointer (some ⟨b, 2, none⟩)) rfl rfl (by kernel_rfl) (by kernel_rfl) (by kernel_rfl) (fun _ _ _ h => h) rfl (fun W' hW => rfl) S0.out ?_
  try simp only [Act.put, List.getElem_toArray, List.getElem_cons_succ, List.getElem_cons_zero, List.setIfInBounds_toArray, List.set_cons_zero, List.set_cons_succ]
  refine hm_run 9 15 (.int .i64 (t : Int)) rfl rfl (by kernel_rfl) (by kernel_rfl) (by kernel_rfl) (fun _ _ _ h => h) rfl (fun W' hW => exec_load rfl (run_load_one Tryd.underlying3 rfl (cell_of_here hW 2 rfl))) S0.out ?_
  try simp only [Act.put, List.getElem_toArray, List.getElem_cons_succ, List.getElem_cons_zero, List.setIfInBounds_toArray, List.set_cons_zero, List.set_cons_succ]
  refine hm_run 10 16 (.int .i64 (d : Int)) rfl rfl (by kernel_rfl) (by kernel_rfl) (by kernel_rfl) (fun _ _ _ h => h) rfl (fun W' hW => exec_subn rfl rfl rfl HD.out (by have := L.out; omega)) S0.out ?_
  try simp only [Act.put, List.getElem_toArray, List.getElem_cons_succ, List.getElem_cons_zero, List.setIfInBounds_toArray, List.set_cons_zero, List.set_cons_succ]
  refine hm_run 11 2 (.int .i64 (d : Int)) rfl rfl (by kernel_rfl) (by kernel_rfl) (by kernel_rfl) (fun _ _ _ h => h) rfl (fun W' hW => rfl) S0.out ?_
  try simp only [Act.put, List.getElem_toArray, List.getElem_cons_succ, List.getElem_cons_zero, List.setIfInBounds_toArray, List.set_cons_zero, List.set_cons_succ]
  refine wpAnyH_done (by kernel_rfl) ?_ _
  go_wp2
  go_ret
  exact ⟨rfl, E0.out.below⟩
theorem rbit_end (h : Rdr D w b p g c xs t) (ht : t = 8 * xs.length) : Calls Tryd.prog 88 #[.pointer (some ⟨b, 0, none⟩)] w fun e w' => e = .returned (.tuple #[.bool false, .int .i64 50]) ∧ Below w.heap.size w w' := by
  have M := Lib.hid (rmade_any h)
  have LF := Lib.hid (rleft_any h)
  rw [show 8 * xs.length - t = 0 by omega] at LF
  clear h
  go_enter Tryd.func88, Tryd.ntmps88
  go_wp2_with (first
    | (go_at_call 87; refine M.out.mono ?_; rintro e w2 ⟨rfl, rfl⟩)
    | (go_at_call 90; refine LF.out.mono ?_; rintro e w3 ⟨rfl, hb⟩; have HB := Lib.hid hb; clear hb))
  go_ret2
  exact ⟨rfl, HB.out⟩
theorem rbit_any (h : Rdr D w b p g c xs t) (ht : t < 8 * xs.length) : Calls Tryd.prog 88 #[.pointer (some ⟨b, 0, none⟩)] w (RrPost D w b p g c xs (t + 1) (.tuple #[.bool (bitAt xs t), .int .i64 0])) := by
  have M := Lib.hid (rmade_any h)
  have LF := Lib.hid (rleft_any h)
  obtain ⟨d, hd⟩ : ∃ d, d = 8 * xs.length - t := ⟨_, rfl⟩
  rw [← hd] at LF
  have c0 : ¬ ((d : Int) = 0) := by omega
  have H := Lib.hid h
  have HT := Lib.hid ht
  clear h hd ht
  go_enter Tryd.func88, Tryd.ntmps88
  go_wp2_with (first
    | (go_at_call 87; refine M.out.mono ?_; rintro e w2 ⟨rfl, rfl⟩)
    | (go_at_call 90; refine LF.out.mono ?_; rintro e w3 ⟨rfl, hb⟩; have OB := Lib.hid (only_of_below (b := b) hb); replace H := Lib.hid (H.out.call hb); clear hb)
    | (go_at_call 114; refine (rtake_any H.out HT.out).mono ?_; rintro e w4 ⟨rfl, hR, hO⟩; have HR := Lib.hid hR; have HO := Lib.hid hO; clear hR hO))
  go_ret2
  exact ⟨rfl, HR.out, OB.out.trans HO.out⟩
end
end Go.Proofs.YtoopcmcmjaikhaaDoor

