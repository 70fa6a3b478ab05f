/- One bit more, by the writer's own closure. -/
import Derived.Test.YtoopcmcmjaikhaaDoorZW
set_option linter.unusedSimpArgs false
set_option linter.unusedVariables false
set_option maxRecDepth 100000
namespace Go.Proofs.YtoopcmcmjaikhaaDoor
open Go.RowKit Go.Lib Go.Sort

/-- A writer that has written the bits l. -/
def WAt (D w : World) (bf bw : Nat) (l : List Bool) : Prop := ∃ p g c, Wb D (wl2 bf bw ((8 * nB l.length - l.length : Nat) : Int) (.slice p (nB l.length) c)) p g c (pk l) w
/-- What a call of it leaves. -/
def WPost (D w : World) (bf bw : Nat) (l : List Bool) (r : Value) (e : Ending) (w' : World) : Prop := e = .returned r ∧ WAt D w' bf bw l ∧ Below D.heap.size w w' ∧ Kw w w'
theorem exec_shl8 {o : Oper} {ev : Operand → Value} {W : World} {x y : Operand} {k : Nat} (ho : o.op = .binOp .shl 5 x y 3) (hx : ev x = .int .u8 1) (hy : ev y = .int .i64 (k : Int)) (hk : k < 8) : (execOp ev o).run Tryd.prog W = .ok (.value (.int .u8 ((2 ^ k : Nat) : Int))) W := by
  unfold execOp
  have h : k = 0 ∨ k = 1 ∨ k = 2 ∨ k = 3 ∨ k = 4 ∨ k = 5 ∨ k = 6 ∨ k = 7 := by omega
  rcases h with rfl | rfl | rfl | rfl | rfl | rfl | rfl | rfl <;> (simp [ho, hx, hy, go_sem]; decide)
theorem exec_or8 {o : Oper} {ev : Operand → Value} {W : World} {x y : Operand} {a b : Nat} (ho : o.op = .binOp .or 5 x y 5) (hx : ev x = .int .u8 (a : Int)) (hy : ev y = .int .u8 (b : Int)) (ha : a < 256) (hb : b < 256) : (execOp ev o).run Tryd.prog W = .ok (.value (.int .u8 ((a ||| b : Nat) : Int))) W := by
  unfold execOp
  have h := u8_or_nat a b ha hb
  simp [ho, hx, hy, go_sem, h]
theorem exec_lenb {o : Oper} {ev : Operand → Value} {W : World} {x : Operand} {p : Option Addr} {n c : Nat} (ho : o.op = .call { callee := .builtin .len, args := #[x], argTypes := #[32] }) (hx : ev x = .slice p n c) : (execOp ev o).run Tryd.prog W = .ok (.value (.int .i64 (n : Int))) W := by
  unfold execOp
  simp [ho, hx, resolve, invoke, builtin, go_sem]
theorem exec_pred {o : Oper} {ev : Operand → Value} {W : World} {x : Operand} {q : Nat} (ho : o.op = .binOp .sub 3 x (.const (.int .i64 1)) 3) (hx : ev x = .int .i64 ((q + 1 : Nat) : Int)) (hq : q ≤ 1000000000000000) (h1 : ev (.const (.int .i64 1)) = .int .i64 1 := by rfl) : (execOp ev o).run Tryd.prog W = .ok (.value (.int .i64 (q : Int))) W := by
  have h : IntKind.i64.wrap (((q + 1 : Nat) : Int) - 1) = (q : Int) := by rw [IntKind.wrap_i64]; omega
  unfold execOp
  simp [ho, hx, h1, go_sem]
  all_goals (simp only [IntKind.wrap_i64] at *; omega)
theorem pow8 {k : Nat} (h : k < 8) : 2 ^ k < 256 := Nat.lt_of_lt_of_le (Nat.pow_lt_pow_right (by omega) h) (by decide)
theorem or8 {a b : Nat} (ha : a < 256) (hb : b < 256) : a ||| b < 256 := Nat.or_lt_two_pow (n := 8) ha hb
theorem Pw.call {D w0 w w' : World} {bf bw : Nat} {fr : Int} {p0 p : Option Addr} {n0 c0 g c : Nat} {xs : List Nat} (N : Pw D w0 bf bw fr p0 n0 c0 p g c xs w) (hb : Below w.heap.size w w') : Pw D w0 bf bw fr p0 n0 c0 p g c xs w' := ⟨N.wb.call hb, N.kw.trans (Kw.below hb)⟩
theorem mo_pwset {K : Act → World → Prop} {Q : Exit → Act → World → Prop} {op : Oper} {a : Act} {D w0 w : World} {bf bw : Nat} {fr : Int} {p0 p : Option Addr} {n0 c0 g c : Nat} {xs : List Nat} (N : Hid (Pw D w0 bf bw fr p0 n0 c0 p g c xs w)) (x y : Operand) (ho : op.op = .store 5 x y) {i v : Nat} (hx : a.eval x = .pointer (some ⟨g, i, none⟩)) (hy : a.eval y = .int .u8 (v : Int)) (hi : i < xs.length) (hv : v < 256)
    (h : ∀ w', Hid (Pw D w0 bf bw fr p0 n0 c0 p g c (xs.set i v) w') → K (a.put op.dst undef) w') : op.wp Tryd.prog a w K Q := by
  obtain ⟨O, hO, hp, hg, cur, hc, hcs⟩ := own_set N.out.wb.own hi v hv
  unfold Oper.wp execOp
  simp only [ho, hx, hy, Sem.run_bind, Sem.run_pure, run_store_one (P := Tryd.prog) (ty := 5) (v := .int .u8 (v : Int)) (by kernel_rfl) rfl rfl (cell_of_here hc i (Array.getElem?_eq_getElem hcs)) (free_of_here hc i), Result.andThen_ok]
  exact h _ (Lib.hid (N.out.set hi v hv))
theorem below_since {B : Nat} {x y z : World} (h : Below B x y) (k : Below B x z) (hs : y.heap.size ≤ z.heap.size) : Below B y z := ⟨k.os.trans h.os.symm, k.tape.trans h.tape.symm, k.output.trans h.output.symm, hs, fun i hi => (k.block i hi).trans (h.block i hi).symm⟩
theorem lf_app0 (xs : List Nat) {i : Nat} (h : i < xs.length + 1) : lf (xs ++ [0]) i = if i < xs.length then lf xs i else 0 := by
  unfold lf
  rw [List.getD_eq_getElem?_getD]
  split
  · rw [List.getElem?_append_left (by assumption), List.getD_eq_getElem?_getD]
  · rw [List.getElem?_append_right (by omega), show i - xs.length = 0 by omega]
    rfl
/-- The bytes with a new one, before its bit is set. -/
theorem pk_new (l : List Bool) (h8 : l.length % 8 = 0) : (pk l ++ [0]).length = l.length / 8 + 1 ∧ ∀ i, i < (pk l ++ [0]).length → lf (pk l ++ [0]) i = pbf (lb l) l.length i := by
  have h1 : (pk l).length = l.length / 8 := by rw [pk_length]; unfold nB; omega
  have h2 : (pk l ++ [0]).length = l.length / 8 + 1 := by rw [List.length_append, h1]; rfl
  refine ⟨h2, fun i hi => ?_⟩
  rw [h2] at hi
  rw [lf_app0 (pk l) (i := i) (by omega)]
  split
  · rename_i hlt
    rw [lf_pk _ (by rw [← pk_length]; exact hlt)]
  · rename_i hge
    rw [pbf_zero _ (by rw [h1] at hge; omega)]
theorem pk_old (l : List Bool) (h8 : l.length % 8 ≠ 0) : (pk l).length = l.length / 8 + 1 ∧ ∀ i, i < (pk l).length → lf (pk l) i = pbf (lb l) l.length i := by
  have h1 : (pk l).length = l.length / 8 + 1 := by rw [pk_length]; unfold nB; omega
  refine ⟨h1, fun i hi => ?_⟩
  rw [pk_length] at hi
  exact lf_pk _ hi
section
variable {D w : World} {bf bw : Nat} {l : List Bool}
/-- What the closure's walk leaves is what it is to leave. -/
theorem wpost_of {D w w' : World} {bf bw : Nat} {l : List Bool} {x : Bool} {p : Option Addr} {g c fr n : Nat} {ys : List Nat} (hw : Below D.heap.size D w) (N : Pw D w bf bw (fr : Int) p n c p g c ys w') (hy : ys = pk (l ++ [x])) (hf : fr = 7 - l.length % 8) (hn : n = l.length / 8 + 1) (hb : Below D.heap.size w w') : WPost D w bf bw (l ++ [x]) (.tuple #[]) (.returned (.tuple #[])) w' := by
  refine ⟨rfl, ⟨p, g, c, ?_⟩, hb, N.kw⟩
  have e1 : (l ++ [x]).length = l.length + 1 := by simp
  rw [e1, nB_snoc, ← hy]
  have e2 : 8 * (l.length / 8 + 1) - (l.length + 1) = fr := by omega
  rw [e2, ← hn]
  exact N.wb
set_option maxHeartbeats 4000000 in
theorem put_new0 (h : WAt D w bf bw l) (h8 : l.length % 8 = 0) (hl : l.length ≤ 1000000000000) : Calls Tryd.prog 69 #[.bool false, .pointer (some ⟨bf, 0, none⟩), .pointer (some ⟨bw, 0, none⟩)] w (WPost D w bf bw (l ++ [false]) (.tuple #[])) := by
  obtain ⟨p, g, c, K⟩ := h
  have e0 : ((8 * nB l.length - l.length : Nat) : Int) = 0 := by unfold nB; omega
  rw [e0] at K
  have N : Hid (Pw D w bf bw 0 p (nB l.length) c p g c (pk l) w) := Lib.hid ⟨K, Kw.refl w⟩
  obtain ⟨n, hn⟩ : ∃ n, n = nB l.length := ⟨_, rfl⟩
  have HN := Lib.hid (show n = (pk l).length ∧ n + 1 ≤ 140737488355328 by rw [pk_length, ← hn]; unfold nB at hn; omega)
  have HQ8 := Lib.hid (show 7 < 8 ∧ 7 - l.length % 8 = 7 by omega)
  rw [← hn] at N
  clear K e0 hn
  have DW := Lib.hid (N.out.wb.mem.below)
  go_enter Tryd.func69, Tryd.ntmps69
  go_wp2_with (first
    | (refine pw_ldf N rfl _ rfl rfl ?_)
    | (refine pw_ldw N rfl _ rfl rfl ?_)
    | (refine pw_bs N _ rfl rfl (by kernel_rfl) ?_; clear N; intro b1 w1 R1 N)
    | (refine pw_app N rfl (.tmp 6) (.tmp 7) rfl rfl HN.out.1 rfl R1 HN.out.2 ?_; clear N R1; intro p2 g2 c2 w2 zs hz N)
    | (refine pw_stw N rfl (.tmp 2) (.tmp 8) rfl rfl rfl ?_; clear N; intro w3 N)
    | (refine pw_stf N rfl (.tmp 1) _ rfl rfl rfl ?_; clear N; intro w4 N))
  have ZE := Lib.hid (show zs = pk l ++ [0] by rw [hz.out]; rfl)
  go_end0
  have L8 := pk_new l h8
  rw [← ZE.out] at L8
  exact wpost_of DW.out N.out (pk_same l zs L8.1 L8.2).symm (HQ8.out.2.symm) L8.1 (below_since DW.out N.out.wb.mem.below N.out.kw.size)
set_option maxHeartbeats 4000000 in
theorem put_old0 (h : WAt D w bf bw l) (h8 : l.length % 8 ≠ 0) (hl : l.length ≤ 1000000000000) : Calls Tryd.prog 69 #[.bool false, .pointer (some ⟨bf, 0, none⟩), .pointer (some ⟨bw, 0, none⟩)] w (WPost D w bf bw (l ++ [false]) (.tuple #[])) := by
  obtain ⟨p, g, c, K⟩ := h
  obtain ⟨f, hf⟩ : ∃ f, 8 * nB l.length - l.length = f + 1 := ⟨7 - l.length % 8, by unfold nB; omega⟩
  have HF := Lib.hid (show f = 7 - l.length % 8 ∧ f < 8 by unfold nB at hf; omega)
  rw [hf] at K
  obtain ⟨zs, hz0⟩ : ∃ zs, zs = pk l := ⟨_, rfl⟩
  have hz := Lib.hid hz0
  have e1 : nB l.length = zs.length := by rw [hz0, pk_length]
  rw [e1, ← hz0] at K
  have N : Hid (Pw D w bf bw ((f + 1 : Nat) : Int) p zs.length c p g c zs w) := Lib.hid ⟨K, Kw.refl w⟩
  have c1 : ¬ ((f + 1 : Nat) : Int) = 0 := by omega
  have c2 : ((f + 1 : Nat) : Int) - 1 = (f : Int) := by omega
  have c3 := Lib.hid (show wrap64 (f : Int) = (f : Int) by have := HF.out; unfold wrap64; omega)
  clear K e1 hz0 hf
  have DW := Lib.hid (N.out.wb.mem.below)
  go_enter Tryd.func69, Tryd.ntmps69
  go_wp2_with (first
    | (refine pw_ldf N rfl _ rfl rfl ?_)
    | (refine pw_stf N rfl (.tmp 1) _ rfl rfl rfl ?_; clear N; intro w4 N))
  rw [c3.out] at N
  have HZ := Lib.hid (show 0 < zs.length by rw [hz.out, pk_length]; unfold nB; omega)
  go_end0
  have L8 := pk_old l h8
  rw [← hz.out] at L8
  exact wpost_of DW.out N.out (pk_same l zs L8.1 L8.2).symm HF.out.1 L8.1 (below_since DW.out N.out.wb.mem.below N.out.kw.size)
set_option maxHeartbeats 4000000 in
theorem put_new1 (h : WAt D w bf bw l) (h8 : l.length % 8 = 0) (hl : l.length ≤ 1000000000000) : Calls Tryd.prog 69 #[.bool true, .pointer (some ⟨bf, 0, none⟩), .pointer (some ⟨bw, 0, none⟩)] w (WPost D w bf bw (l ++ [true]) (.tuple #[])) := by
  obtain ⟨p, g, c, K⟩ := h
  have e0 : ((8 * nB l.length - l.length : Nat) : Int) = 0 := by unfold nB; omega
  rw [e0] at K
  have N : Hid (Pw D w bf bw 0 p (nB l.length) c p g c (pk l) w) := Lib.hid ⟨K, Kw.refl w⟩
  obtain ⟨n, hn⟩ : ∃ n, n = nB l.length := ⟨_, rfl⟩
  have HN := Lib.hid (show n = (pk l).length ∧ n + 1 ≤ 140737488355328 by rw [pk_length, ← hn]; unfold nB at hn; omega)
  have HQ8 := Lib.hid (show 7 < 8 ∧ 7 - l.length % 8 = 7 by omega)
  rw [← hn] at N
  clear K e0 hn
  have DW := Lib.hid (N.out.wb.mem.below)
  go_enter Tryd.func69, Tryd.ntmps69
  go_upto_region 5 with (first
    | (refine pw_ldf N rfl _ rfl rfl ?_)
    | (refine pw_ldw N rfl _ rfl rfl ?_)
    | (refine pw_bs N _ rfl rfl (by kernel_rfl) ?_; clear N; intro b1 w1 R1 N)
    | (refine pw_app N rfl (.tmp 6) (.tmp 7) rfl rfl HN.out.1 rfl R1 HN.out.2 ?_; clear N R1; intro p2 g2 c2 w2 zs hz N)
    | (refine pw_stw N rfl (.tmp 2) (.tmp 8) rfl rfl rfl ?_; clear N; intro w3 N)
    | (refine pw_stf N rfl (.tmp 1) _ rfl rfl rfl ?_; clear N; intro w4 N))
  have HZ := Lib.hid (show 0 < zs.length by rw [hz.out]; simp [tl])
  have ZE := Lib.hid (show zs = pk l ++ [0] by rw [hz.out]; rfl)
  have HQ := Lib.hid (show zs.length ≤ 1000000000000 by rw [ZE.out, (pk_new l h8).1]; omega)
  have E1 := Lib.hid (Mem.nil w4)
  obtain ⟨m, hm⟩ : ∃ m, m = zs.length := ⟨_, rfl⟩
  obtain ⟨q, hq⟩ : ∃ q, m = q + 1 := ⟨m - 1, by have := HZ.out; omega⟩
  have QL := Lib.hid (show q < zs.length by omega)
  have HM := Lib.hid hm
  obtain ⟨x, hx⟩ : ∃ x, x = lf zs q := ⟨_, rfl⟩
  have XB := Lib.hid (show x < 256 by rw [hx]; exact N.out.wb.own.byte q)
  have HX := Lib.hid hx
  obtain ⟨_, _, hp, _, _⟩ := own_set N.out.wb.own QL.out 0 (by omega)
  subst hp
  have HQ2 := Lib.hid (show q ≤ 1000000000000000 by have := HQ.out; omega)
  subst hq
  simp only [← hm] at N ⊢
  clear hm hx
  refine wp_region_memS (S := fun W' => W'.heap[bf]? = some (.cells #[.int .i64 7] 3 (0, 0)) ∧ W'.heap[bw]? = some (.cells #[.slice (some ⟨g2, 0, none⟩) (q + 1) c2] 32 (0, 0))) E1 (by kernel_rfl) ?_
  clear E1
  intro wx E0
  replace N := Lib.hid (N.out.call E0.out.below)
  have S0 := Lib.hid (And.intro (N.out.wb.mem.get (b := bf) List.mem_cons_self) (N.out.wb.mem.get (b := bw) (List.mem_cons_of_mem _ List.mem_cons_self)))
  have CX := Lib.hid (show wx.cell? ⟨g2, q, none⟩ = some (.int .u8 (x : Int)) by have := N.out.wb.row.cell q QL.out; rw [Nat.zero_add] at this; rw [HX.out]; exact this)
  clear E0
  try simp only [Act.put, List.getElem_toArray, List.getElem_cons_succ, List.getElem_cons_zero, List.setIfInBounds_toArray, List.set_cons_zero, List.set_cons_succ]
  refine hm_run 0 12 (.slice (some ⟨g2, 0, none⟩) (q + 1) c2) rfl rfl (by kernel_rfl) (by kernel_rfl) (by kernel_rfl) (fun _ _ _ h => h) rfl (fun W' hW => exec_load rfl (run_load_one Tryd.underlying32 rfl (cell_of_here hW.2 0 rfl))) S0.out ?_
  try simp only [Act.put, List.getElem_toArray, List.getElem_cons_succ, List.getElem_cons_zero, List.setIfInBounds_toArray, List.set_cons_zero, List.set_cons_succ]
  refine hm_run 1 13 (.slice (some ⟨g2, 0, none⟩) (q + 1) c2) rfl rfl (by kernel_rfl) (by kernel_rfl) (by kernel_rfl) (fun _ _ _ h => h) rfl (fun W' hW => exec_load rfl (run_load_one Tryd.underlying32 rfl (cell_of_here hW.2 0 rfl))) S0.out ?_
  try simp only [Act.put, List.getElem_toArray, List.getElem_cons_succ, List.getElem_cons_zero, List.setIfInBounds_toArray, List.set_cons_zero, List.set_cons_succ]
  refine hm_run 2 14 (.int .i64 ((q + 1 : Nat) : Int)) rfl rfl (by kernel_rfl) (by kernel_rfl) (by kernel_rfl) (fun _ _ _ h => h) rfl (fun W' hW => exec_lenb rfl rfl) S0.out ?_
  try simp only [Act.put, List.getElem_toArray, List.getElem_cons_succ, List.getElem_cons_zero, List.setIfInBounds_toArray, List.set_cons_zero, List.set_cons_succ]
  refine hm_run 3 15 (.int .i64 (q : Int)) rfl rfl (by kernel_rfl) (by kernel_rfl) (by kernel_rfl) (fun _ _ _ h => h) rfl (fun W' hW => exec_pred rfl rfl HQ2.out) S0.out ?_
  try simp only [Act.put, List.getElem_toArray, List.getElem_cons_succ, List.getElem_cons_zero, List.setIfInBounds_toArray, List.set_cons_zero, List.set_cons_succ]
  refine hm_run 4 16 (.pointer (some ⟨g2, 0 + q * 1, none⟩)) rfl rfl (by kernel_rfl) (by kernel_rfl) (by kernel_rfl) (fun _ _ _ h => h) rfl (fun W' hW => exec_ix rfl (run_ix Tryd.underlying32 (by kernel_rfl) (by omega) rfl W')) S0.out ?_
  try simp only [Act.put, List.getElem_toArray, List.getElem_cons_succ, List.getElem_cons_zero, List.setIfInBounds_toArray, List.set_cons_zero, List.set_cons_succ]
  refine hm_run 6 18 (.int .i64 7) rfl rfl (by kernel_rfl) (by kernel_rfl) (by kernel_rfl) (fun _ _ _ h => h) rfl (fun W' hW => exec_load rfl (run_load_one Tryd.underlying3 rfl (cell_of_here hW.1 0 rfl))) S0.out ?_
  try simp only [Act.put, List.getElem_toArray, List.getElem_cons_succ, List.getElem_cons_zero, List.setIfInBounds_toArray, List.set_cons_zero, List.set_cons_succ]
  refine hm_run 7 19 (.int .u8 ((2 ^ 7 : Nat) : Int)) rfl rfl (by kernel_rfl) (by kernel_rfl) (by kernel_rfl) (fun _ _ _ h => h) rfl (fun W' hW => exec_shl8 rfl rfl rfl HQ8.out.1) S0.out ?_
  try simp only [Act.put, List.getElem_toArray, List.getElem_cons_succ, List.getElem_cons_zero, List.setIfInBounds_toArray, List.set_cons_zero, List.set_cons_succ]
  refine hm_one (i := 5) (by kernel_rfl) ?_
  refine hm_step 5 rfl (by kernel_rfl) fun K hK => ?_
  try simp only [Act.put, List.getElem_toArray, List.getElem_cons_succ, List.getElem_cons_zero, List.setIfInBounds_toArray, List.set_cons_zero, List.set_cons_succ]
  refine mo_known (.int .u8 (x : Int)) wx (exec_load rfl (run_load_one Tryd.underlying5 rfl (by rw [Nat.zero_add, Nat.mul_one]; exact CX.out))) ?_
  refine hK _ _ S0.out ?_
  clear hK K
  try simp only [Act.put, List.getElem_toArray, List.getElem_cons_succ, List.getElem_cons_zero, List.setIfInBounds_toArray, List.set_cons_zero, List.set_cons_succ]
  refine hm_run 8 20 (.int .u8 ((x ||| 2 ^ 7 : Nat) : Int)) rfl rfl (by kernel_rfl) (by kernel_rfl) (by kernel_rfl) (fun _ _ _ h => h) rfl (fun W' hW => exec_or8 rfl rfl rfl XB.out (pow8 HQ8.out.1)) S0.out ?_
  try simp only [Act.put, List.getElem_toArray, List.getElem_cons_succ, List.getElem_cons_zero, List.setIfInBounds_toArray, List.set_cons_zero, List.set_cons_succ]
  refine hm_run 9 21 (.pointer (some ⟨g2, 0 + q * 1, none⟩)) rfl rfl (by kernel_rfl) (by kernel_rfl) (by kernel_rfl) (fun _ _ _ h => h) rfl (fun W' hW => exec_ix rfl (run_ix Tryd.underlying32 (by kernel_rfl) (by omega) rfl W')) S0.out ?_
  try simp only [Act.put, List.getElem_toArray, List.getElem_cons_succ, List.getElem_cons_zero, List.setIfInBounds_toArray, List.set_cons_zero, List.set_cons_succ]
  refine hm_one (i := 10) (by kernel_rfl) ?_
  refine hm_step 10 rfl (by kernel_rfl) fun K hK => ?_
  try simp only [Act.put, List.getElem_toArray, List.getElem_cons_succ, List.getElem_cons_zero, List.setIfInBounds_toArray, List.set_cons_zero, List.set_cons_succ]
  refine mo_pwset N (.tmp 21) (.tmp 20) rfl (by show Value.pointer (some ⟨g2, 0 + q * 1, none⟩) = _; rw [Nat.zero_add, Nat.mul_one]) rfl QL.out (or8 XB.out (pow8 HQ8.out.1)) ?_
  intro w5 N5
  refine hK _ _ (And.intro (N5.out.wb.mem.get (b := bf) List.mem_cons_self) (N5.out.wb.mem.get (b := bw) (List.mem_cons_of_mem _ List.mem_cons_self))) ?_
  clear hK K N S0
  refine wpAnyH_done (by kernel_rfl) ?_ _
  go_wp2
  go_end0
  have L8 := pk_new l h8
  rw [← ZE.out] at L8
  have QE : q = l.length / 8 := by have := HM.out; omega
  refine wpost_of DW.out N5.out ?_ (HQ8.out.2.symm) (by omega) (below_since DW.out N5.out.wb.mem.below N5.out.kw.size)
  rw [HX.out]
  subst QE
  refine (pk_snoc l true zs L8.1 L8.2 _ ?_).symm
  rw [if_pos rfl, ← (HQ8.out.2.symm)]
set_option maxHeartbeats 4000000 in
theorem put_old1 (h : WAt D w bf bw l) (h8 : l.length % 8 ≠ 0) (hl : l.length ≤ 1000000000000) : Calls Tryd.prog 69 #[.bool true, .pointer (some ⟨bf, 0, none⟩), .pointer (some ⟨bw, 0, none⟩)] w (WPost D w bf bw (l ++ [true]) (.tuple #[])) := by
  obtain ⟨p, g, c, K⟩ := h
  obtain ⟨f, hf⟩ : ∃ f, 8 * nB l.length - l.length = f + 1 := ⟨7 - l.length % 8, by unfold nB; omega⟩
  have HF := Lib.hid (show f = 7 - l.length % 8 ∧ f < 8 by unfold nB at hf; omega)
  rw [hf] at K
  obtain ⟨zs, hz0⟩ : ∃ zs, zs = pk l := ⟨_, rfl⟩
  have hz := Lib.hid hz0
  have e1 : nB l.length = zs.length := by rw [hz0, pk_length]
  rw [e1, ← hz0] at K
  have N : Hid (Pw D w bf bw ((f + 1 : Nat) : Int) p zs.length c p g c zs w) := Lib.hid ⟨K, Kw.refl w⟩
  have c1 : ¬ ((f + 1 : Nat) : Int) = 0 := by omega
  have c2 : ((f + 1 : Nat) : Int) - 1 = (f : Int) := by omega
  have c3 := Lib.hid (show wrap64 (f : Int) = (f : Int) by have := HF.out; unfold wrap64; omega)
  clear K e1 hz0 hf
  have DW := Lib.hid (N.out.wb.mem.below)
  go_enter Tryd.func69, Tryd.ntmps69
  go_upto_region 5 with (first
    | (refine pw_ldf N rfl _ rfl rfl ?_)
    | (refine pw_stf N rfl (.tmp 1) _ rfl rfl rfl ?_; clear N; intro w4 N))
  rw [c3.out] at N
  have HZ := Lib.hid (show 0 < zs.length by rw [hz.out, pk_length]; unfold nB; omega)
  have HQ := Lib.hid (show zs.length ≤ 1000000000000 by rw [hz.out, pk_length]; unfold nB; omega)
  have E1 := Lib.hid (Mem.nil w4)
  obtain ⟨m, hm⟩ : ∃ m, m = zs.length := ⟨_, rfl⟩
  obtain ⟨q, hq⟩ : ∃ q, m = q + 1 := ⟨m - 1, by have := HZ.out; omega⟩
  have QL := Lib.hid (show q < zs.length by omega)
  have HM := Lib.hid hm
  obtain ⟨x, hx⟩ : ∃ x, x = lf zs q := ⟨_, rfl⟩
  have XB := Lib.hid (show x < 256 by rw [hx]; exact N.out.wb.own.byte q)
  have HX := Lib.hid hx
  obtain ⟨_, _, hp, _, _⟩ := own_set N.out.wb.own QL.out 0 (by omega)
  subst hp
  have HQ2 := Lib.hid (show q ≤ 1000000000000000 by have := HQ.out; omega)
  subst hq
  simp only [← hm] at N ⊢
  clear hm hx
  refine wp_region_memS (S := fun W' => W'.heap[bf]? = some (.cells #[.int .i64 (f : Int)] 3 (0, 0)) ∧ W'.heap[bw]? = some (.cells #[.slice (some ⟨g, 0, none⟩) (q + 1) c] 32 (0, 0))) E1 (by kernel_rfl) ?_
  clear E1
  intro wx E0
  replace N := Lib.hid (N.out.call E0.out.below)
  have S0 := Lib.hid (And.intro (N.out.wb.mem.get (b := bf) List.mem_cons_self) (N.out.wb.mem.get (b := bw) (List.mem_cons_of_mem _ List.mem_cons_self)))
  have CX := Lib.hid (show wx.cell? ⟨g, q, none⟩ = some (.int .u8 (x : Int)) by have := N.out.wb.row.cell q QL.out; rw [Nat.zero_add] at this; rw [HX.out]; exact this)
  clear E0
  try simp only [Act.put, List.getElem_toArray, List.getElem_cons_succ, List.getElem_cons_zero, List.setIfInBounds_toArray, List.set_cons_zero, List.set_cons_succ]
  refine hm_run 0 12 (.slice (some ⟨g, 0, none⟩) (q + 1) c) rfl rfl (by kernel_rfl) (by kernel_rfl) (by kernel_rfl) (fun _ _ _ h => h) rfl (fun W' hW => exec_load rfl (run_load_one Tryd.underlying32 rfl (cell_of_here hW.2 0 rfl))) S0.out ?_
  try simp only [Act.put, List.getElem_toArray, List.getElem_cons_succ, List.getElem_cons_zero, List.setIfInBounds_toArray, List.set_cons_zero, List.set_cons_succ]
  refine hm_run 1 13 (.slice (some ⟨g, 0, none⟩) (q + 1) c) rfl rfl (by kernel_rfl) (by kernel_rfl) (by kernel_rfl) (fun _ _ _ h => h) rfl (fun W' hW => exec_load rfl (run_load_one Tryd.underlying32 rfl (cell_of_here hW.2 0 rfl))) S0.out ?_
  try simp only [Act.put, List.getElem_toArray, List.getElem_cons_succ, List.getElem_cons_zero, List.setIfInBounds_toArray, List.set_cons_zero, List.set_cons_succ]
  refine hm_run 2 14 (.int .i64 ((q + 1 : Nat) : Int)) rfl rfl (by kernel_rfl) (by kernel_rfl) (by kernel_rfl) (fun _ _ _ h => h) rfl (fun W' hW => exec_lenb rfl rfl) S0.out ?_
  try simp only [Act.put, List.getElem_toArray, List.getElem_cons_succ, List.getElem_cons_zero, List.setIfInBounds_toArray, List.set_cons_zero, List.set_cons_succ]
  refine hm_run 3 15 (.int .i64 (q : Int)) rfl rfl (by kernel_rfl) (by kernel_rfl) (by kernel_rfl) (fun _ _ _ h => h) rfl (fun W' hW => exec_pred rfl rfl HQ2.out) S0.out ?_
  try simp only [Act.put, List.getElem_toArray, List.getElem_cons_succ, List.getElem_cons_zero, List.setIfInBounds_toArray, List.set_cons_zero, List.set_cons_succ]
  refine hm_run 4 16 (.pointer (some ⟨g, 0 + q * 1, none⟩)) rfl rfl (by kernel_rfl) (by kernel_rfl) (by kernel_rfl) (fun _ _ _ h => h) rfl (fun W' hW => exec_ix rfl (run_ix Tryd.underlying32 (by kernel_rfl) (by omega) rfl W')) S0.out ?_
  try simp only [Act.put, List.getElem_toArray, List.getElem_cons_succ, List.getElem_cons_zero, List.setIfInBounds_toArray, List.set_cons_zero, List.set_cons_succ]
  refine hm_run 6 18 (.int .i64 (f : Int)) rfl rfl (by kernel_rfl) (by kernel_rfl) (by kernel_rfl) (fun _ _ _ h => h) rfl (fun W' hW => exec_load rfl (run_load_one Tryd.underlying3 rfl (cell_of_here hW.1 0 rfl))) S0.out ?_
  try simp only [Act.put, List.getElem_toArray, List.getElem_cons_succ, List.getElem_cons_zero, List.setIfInBounds_toArray, List.set_cons_zero, List.set_cons_succ]
  refine hm_run 7 19 (.int .u8 ((2 ^ f : Nat) : Int)) rfl rfl (by kernel_rfl) (by kernel_rfl) (by kernel_rfl) (fun _ _ _ h => h) rfl (fun W' hW => exec_shl8 rfl rfl rfl HF.out.2) S0.out ?_
  try simp only [Act.put, List.getElem_toArray, List.getElem_cons_succ, List.getElem_cons_zero, List.setIfInBounds_toArray, List.set_cons_zero, List.set_cons_succ]
  refine hm_one (i := 5) (by kernel_rfl) ?_
  refine hm_step 5 rfl (by kernel_rfl) fun K hK => ?_
  try simp only [Act.put, List.getElem_toArray, List.getElem_cons_succ, List.getElem_cons_zero, List.setIfInBounds_toArray, List.set_cons_zero, List.set_cons_succ]
  refine mo_known (.int .u8 (x : Int)) wx (exec_load rfl (run_load_one Tryd.underlying5 rfl (by rw [Nat.zero_add, Nat.mul_one]; exact CX.out))) ?_
  refine hK _ _ S0.out ?_
  clear hK K
  try simp only [Act.put, List.getElem_toArray, List.getElem_cons_succ, List.getElem_cons_zero, List.setIfInBounds_toArray, List.set_cons_zero, List.set_cons_succ]
  refine hm_run 8 20 (.int .u8 ((x ||| 2 ^ f : Nat) : Int)) rfl rfl (by kernel_rfl) (by kernel_rfl) (by kernel_rfl) (fun _ _ _ h => h) rfl (fun W' hW => exec_or8 rfl rfl rfl XB.out (pow8 HF.out.2)) S0.out ?_
  try simp only [Act.put, List.getElem_toArray, List.getElem_cons_succ, List.getElem_cons_zero, List.setIfInBounds_toArray, List.set_cons_zero, List.set_cons_succ]
  refine hm_run 9 21 (.pointer (some ⟨g, 0 + q * 1, none⟩)) rfl rfl (by kernel_rfl) (by kernel_rfl) (by kernel_rfl) (fun _ _ _ h => h) rfl (fun W' hW => exec_ix rfl (run_ix Tryd.underlying32 (by kernel_rfl) (by omega) rfl W')) S0.out ?_
  try simp only [Act.put, List.getElem_toArray, List.getElem_cons_succ, List.getElem_cons_zero, List.setIfInBounds_toArray, List.set_cons_zero, List.set_cons_succ]
  refine hm_one (i := 10) (by kernel_rfl) ?_
  refine hm_step 10 rfl (by kernel_rfl) fun K hK => ?_
  try simp only [Act.put, List.getElem_toArray, List.getElem_cons_succ, List.getElem_cons_zero, List.setIfInBounds_toArray, List.set_cons_zero, List.set_cons_succ]
  refine mo_pwset N (.tmp 21) (.tmp 20) rfl (by show Value.pointer (some ⟨g, 0 + q * 1, none⟩) = _; rw [Nat.zero_add, Nat.mul_one]) rfl QL.out (or8 XB.out (pow8 HF.out.2)) ?_
  intro w5 N5
  refine hK _ _ (And.intro (N5.out.wb.mem.get (b := bf) List.mem_cons_self) (N5.out.wb.mem.get (b := bw) (List.mem_cons_of_mem _ List.mem_cons_self))) ?_
  clear hK K N S0
  refine wpAnyH_done (by kernel_rfl) ?_ _
  go_wp2
  go_end0
  have L8 := pk_old l h8
  rw [← hz.out] at L8
  have QE : q = l.length / 8 := by have := HM.out; omega
  refine wpost_of DW.out N5.out ?_ HF.out.1 (by omega) (below_since DW.out N5.out.wb.mem.below N5.out.kw.size)
  rw [HX.out]
  subst QE
  refine (pk_snoc l true zs L8.1 L8.2 _ ?_).symm
  rw [if_pos rfl, ← HF.out.1]
/-- One bit more. -/
theorem put_any (h : WAt D w bf bw l) (x : Bool) (hl : l.length ≤ 1000000000000) : Calls Tryd.prog 69 #[.bool x, .pointer (some ⟨bf, 0, none⟩), .pointer (some ⟨bw, 0, none⟩)] w (WPost D w bf bw (l ++ [x]) (.tuple #[])) := by
  by_cases h8 : l.length % 8 = 0
  · cases x
    · exact put_new0 h h8 hl
    · exact put_new1 h h8 hl
  · cases x
    · exact put_old0 h h8 hl
    · exact put_old1 h h8 hl
end
end Go.Proofs.YtoopcmcmjaikhaaDoor

