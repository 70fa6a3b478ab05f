/- The document's reader: inputs, outputs. -/
import Derived.Test.YtllndneplkigpaaYc
set_option linter.unusedSimpArgs false
set_option linter.unusedVariables false
set_option maxRecDepth 100000
namespace Go.Proofs.Ytllndneplkigpaa
open Go.RowKit Go.Lib Go.Sort

theorem splice_in (N off k : Nat) (F : Nat → Value) (y : Nat → Nat) (h : off + k ≤ N) : ((arr N F).toList.take off ++ (fbs y k ++ (arr N F).toList.drop (off + (fbs y k).length))).toArray = arr N (fun i => if off ≤ i ∧ i < off + k then .int .u8 ((y (i - off) : Nat) : Int) else F i) := by
  have hl : (arr N F).toList.length = N := by rw [Array.length_toList, arr_size]
  refine arr_of ?_ ?_
  · rw [List.size_toArray, List.length_append, List.length_append, List.length_take, fbs_length, List.length_drop, hl]; omega
  · intro i hi
    rw [List.getElem?_toArray, fbs_length]
    rcases Nat.lt_or_ge i off with q | q
    · rw [List.getElem?_append_left (by rw [List.length_take, hl]; omega), List.getElem?_take, if_pos q, Array.getElem?_toList, arr_get N _ i hi]
      simp only [if_neg (show ¬ (off ≤ i ∧ i < off + k) by omega)]
    · rw [List.getElem?_append_right (by rw [List.length_take, hl]; omega), List.length_take, hl, Nat.min_eq_left (by omega)]
      rcases Nat.lt_or_ge i (off + k) with q2 | q2
      · rw [List.getElem?_append_left (by rw [fbs_length]; omega), fbs_at _ _ _ (by omega)]
        simp only [if_pos (show off ≤ i ∧ i < off + k from ⟨q, q2⟩)]
      · rw [List.getElem?_append_right (by rw [fbs_length]; omega), fbs_length, List.getElem?_drop, Array.getElem?_toList, show off + k + (i - off - k) = i by omega, arr_get N _ i hi]
        simp only [if_neg (show ¬ (off ≤ i ∧ i < off + k) by omega)]
section
variable {K : Act → World → Prop} {Q : Exit → Act → World → Prop} {op : Oper} {a : Act} {w w0 : World} {l : List (Nat × TypeId × Array Value)}
/-- 32 bytes copied into a block of the call's own. -/
theorem mo_copy_in (i : Nat) (E : Hid (Mem w0 l w)) (d s : Operand) (ho : op.op = .call { callee := .builtin .copy, args := #[d, s], argTypes := #[22, 22] }) {b T N off : Nat} {F : Nat → Value} (hi : l[i]? = some (b, T, arr N F))
    (hd : a.eval d = .slice (some ⟨b, off, none⟩) 32 32) {q : Option Addr} {g o c : Nat} {y : Nat → Nat} (hs : a.eval s = .slice q 32 c) (R : Hid (Row w q g o 32 c y)) (hn : off + 32 ≤ N)
    (h : ∀ w', Hid (Mem w0 (l.set i (b, T, arr N (fun i => if off ≤ i ∧ i < off + 32 then .int .u8 ((y (i - off) : Nat) : Int) else F i))) w') → Hid (w.heap[b]? = some (.cells (arr N F) T (0, 0)) ∧ Only b w w') → K (a.put op.dst (.int .i64 32)) w') : op.wp Try.prog a w K Q := by
  obtain rfl := R.out.head (by omega)
  have hg := E.out.get (List.mem_of_getElem? hi)
  have hrun := run_copy_row (P := Try.prog) w 22 22 op.type 5 b off 32 32 ⟨g, o, none⟩ 32 c (arr N F) T (fbs y 32) Try.underlying22 (by kernel_rfl) hg (by rw [fbs_length]; rfl) (fun j v hv => by
    obtain ⟨hj, rfl⟩ := fbs_get _ _ _ _ hv
    rw [row_add]
    exact R.out.cell j hj) (by rw [fbs_length, arr_size]; omega) (fbs_one y 32)
  rw [List.append_assoc, splice_in N off 32 F y hn, fbs_length] at hrun
  have ho' : Only b w (w.setRow b (arr N (fun i => if off ≤ i ∧ i < off + 32 then .int .u8 ((y (i - off) : Nat) : Int) else F i))) := ⟨rfl, rfl, rfl, by simp, fun k _ hk => setRow_other w b k _ hk⟩
  unfold Oper.wp
  simp [execOp, ho, resolve, invoke, builtin, hd, hs, hrun, Result.andThen]
  exact h _ (Lib.hid (E.out.turn hi (setRow_heap w b _ _ T _ hg) ho')) (Lib.hid ⟨hg, ho'⟩)
end
theorem exec_geq {o : Oper} {ev : Operand → Value} {W : World} {x y : Operand} {a b : Int} {r : Bool} (ho : o.op = .binOp .geq 59 x y 59) (hx : ev x = .int .u64 a) (hy : ev y = .int .u64 b) (hr : decide (a ≥ b) = r) : (execOp ev o).run Try.prog W = .ok (.value (.bool r)) W := by
  subst hr
  unfold execOp
  simp [ho, hx, hy, go_sem]
theorem wpList_known {P : Program} {ops : Array Oper} {rest : List Oper} {Q : Exit → Act → World → Prop} {op : Oper} {a : Act} {w : World} (hw : Region.wanted op (yielded ops a.tmps) = true) (v : Value) (w' : World) (hrun : (execOp a.eval op).run P w = .ok (.value v) w') (h : wpList P ops Q rest (a.put op.dst v) w') : wpList P ops Q (op :: rest) a w :=
  BigFrame.wpList_want hw fun _ hK => mo_known v w' hrun (hK _ _ h)
section
variable {ops : Array Oper} {rest : List Oper} {Q : Exit → Act → World → Prop} {op : Oper} {a : Act} {w w0 : World} {l : List (Nat × TypeId × Array Value)}
theorem mem_store_cello (i : Nat) (E : Hid (Mem w0 l w)) (ty : TypeId) (hg : op.guard = none) (x y : Operand) (ho : op.op = .store ty x y) {b T j : Nat} {c : Array Value} {v : Value} (hx : a.eval x = .pointer (some ⟨b, j, none⟩)) (hy : a.eval y = v) (hi : l[i]? = some (b, T, c))
    (hs : (Try.prog.info? ty).map (·.size) = some 1) (h1 : v.cells = #[v]) (h2 : v.oneCell' = true) (hj : j < c.size)
    (h : ∀ w', Hid (Mem w0 (l.set i (b, T, c.setIfInBounds j v)) w') → Hid (w.heap[b]? = some (.cells c T (0, 0)) ∧ Only b w w') → wpList Try.prog ops Q rest (a.put op.dst undef) w') : wpList Try.prog ops Q (op :: rest) a w := by
  have hg' := E.out.get (List.mem_of_getElem? hi)
  have hH : Holds b T (c.setIfInBounds j v) w (w.setCell ⟨b, j, none⟩ v) := (Holds.start hg').set rfl
  refine wpList_plain hg fun K hK => ?_
  unfold Oper.wp execOp
  simp only [ho, hx, hy, Sem.run_bind, Sem.run_pure, run_store_one hs h1 h2 (cell_of_here hg' j (Array.getElem?_eq_getElem hj)) (free_of_here hg' j), Result.andThen_ok]
  exact hK _ _ (h _ (Lib.hid (E.out.turn hi hH.here hH.only)) (Lib.hid ⟨hg', hH.only⟩))
theorem mem_store_rowo (i : Nat) (E : Hid (Mem w0 l w)) (ty : TypeId) (hg : op.guard = none) (x y : Operand) (ho : op.op = .store ty x y) {b T : Nat} {c c' : Array Value} (hx : a.eval x = .pointer (some ⟨b, 0, none⟩)) (hy : a.eval y = .agg c') (hi : l[i]? = some (b, T, c))
    (hs : (Try.prog.info? ty).map (·.size) = some c'.size) (hl : c.size = c'.size) (h1 : c'.all (·.oneCell') = true)
    (h : ∀ w', Hid (Mem w0 (l.set i (b, T, c')) w') → Hid (w.heap[b]? = some (.cells c T (0, 0)) ∧ Only b w w') → wpList Try.prog ops Q rest (a.put op.dst undef) w') : wpList Try.prog ops Q (op :: rest) a w := by
  have hg' := E.out.get (List.mem_of_getElem? hi)
  have ho' : Only b w (w.setRow b c') := ⟨rfl, rfl, rfl, by simp, fun k _ hk => setRow_other w b k c' hk⟩
  exact wpList_plain hg fun K hK => wp_store_row ty x y ho b c' hx hy T c hg' hs hl h1 (hK _ _ (h _ (Lib.hid (E.out.turn hi (setRow_heap w b c c' T _ hg') ho')) (Lib.hid ⟨hg', ho'⟩)))
end
section
variable {γ : Type} {D W w w' : World} {b : Nat} {u u0 : Value} {e e0 : Int} {xs xs0 : List Nat} {whole : Res γ} {l : List (Nat × TypeId × Array Value)} {cs : Array Value}
theorem Qd.under (R : Qd D W b u0 e0 xs0) (E : Mem (rb W b cs) l w) {q : Nat × TypeId × Array Value} (h : q ∈ l) : D.heap.size ≤ q.1 := by
  have := E.ge q h
  rw [rb_size] at this
  exact Nat.le_trans R.old.size this
/-- What the first 32 cells of an input are, behind the copy. -/
theorem copied_id {x : Nat → Nat} {V : Nat → Value} {j : Nat} (h : j < 32) : (fun i => if 0 ≤ i ∧ i < 0 + 32 then Value.int .u8 ((x (i - 0) : Nat) : Int) else V i) j = byv (x j) := by
  show (if 0 ≤ j ∧ j < 0 + 32 then Value.int .u8 ((x (j - 0) : Nat) : Int) else V j) = _
  rw [if_pos ⟨Nat.zero_le _, by omega⟩, Nat.sub_zero]
  rfl
/-- An input that was just read: it has no witnesses, and no memory for them. -/
def InNil (B : Nat) (w : World) (V : Nat → Value) (t : TIn) : Prop := InOwn B w V t ∧ V 35 = .slice none 0 0 ∧ t.wit = []
set_option maxHeartbeats 8000000 in
theorem qin_any {f : TIn → List Nat → Res γ} (R : Hid (Qd D W b u e xs)) (I : Hid (Inv whole e ((pIn xs).bind f))) : Calls Try.prog 28 #[.pointer (some ⟨b, 0, none⟩)] W (QPost D W b (fun w' v a => ∃ V, v = .agg (arr 36 V) ∧ InNil W.heap.size w' V a) whole f) := by
  have E := Lib.hid R.out.start
  have sh := run_hash
  have I0 := Lib.hid (I.out.eq (Res.bind_assoc _ _ _))
  clear I
  go_enter Try.func28, Try.ntmps28
  go_upto_region 1 with (refine mem_alloc E 67 rfl rfl infoIn ?_; clear E; intro b0 w0 E; simp only [arr_cells'] at E)
  go_upto_region 2 with (refine mem_alloc E 67 rfl rfl infoIn ?_; clear E; intro b2 w2 E; simp only [arr_cells'] at E)
  have QD := Lib.hid (R.out.dat.keep (qonly_below R.out E.out.ronly) (rkeep (cs' := #[u, .int .i64 e]) R.out.box E.out.rbelow) (by decide))
  have E1 := Lib.hid (Mem.nil w2)
  refine wp_region_memS (S := fun _ => True) E1 (by kernel_rfl) ?_
  clear E1
  intro wx E0
  replace E := Lib.hid (E.out.call E0.out.below)
  replace QD := Lib.hid (QD.out.below E0.out.below)
  clear E0
  try simp only [Act.put, List.getElem_toArray, List.getElem_cons_succ, List.getElem_cons_zero, List.setIfInBounds_toArray, List.set_cons_zero, List.set_cons_succ]
  refine hm_run 0 4 (.pointer (some ⟨b2, 0, none⟩)) rfl rfl (by kernel_rfl) (by kernel_rfl) (by kernel_rfl) (fun _ _ _ h => h) rfl (fun _ _ => rfl) trivial ?_
  try simp only [Act.put, List.getElem_toArray, List.getElem_cons_succ, List.getElem_cons_zero, List.setIfInBounds_toArray, List.set_cons_zero, List.set_cons_succ]
  refine hm_run 1 5 (.pointer (some ⟨b2, 0, none⟩)) rfl rfl (by kernel_rfl) (by kernel_rfl) (by kernel_rfl) (fun _ _ _ h => h) rfl (fun _ _ => rfl) trivial ?_
  try simp only [Act.put, List.getElem_toArray, List.getElem_cons_succ, List.getElem_cons_zero, List.setIfInBounds_toArray, List.set_cons_zero, List.set_cons_succ]
  refine hm_run 2 6 (.slice (some ⟨b2, 0, none⟩) 32 32) rfl rfl (by kernel_rfl) (by kernel_rfl) (by kernel_rfl) (fun _ _ _ h => h) rfl (fun W' _ => exec_sl rfl (sh b2 0 W')) trivial ?_
  try simp only [Act.put, List.getElem_toArray, List.getElem_cons_succ, List.getElem_cons_zero, List.setIfInBounds_toArray, List.set_cons_zero, List.set_cons_succ]
  refine hm_run 3 7 (.pointer (some ⟨b, 0, none⟩)) rfl rfl (by kernel_rfl) (by kernel_rfl) (by kernel_rfl) (fun _ _ _ h => h) rfl (fun _ _ => rfl) trivial ?_
  try simp only [Act.put, List.getElem_toArray, List.getElem_cons_succ, List.getElem_cons_zero, List.setIfInBounds_toArray, List.set_cons_zero, List.set_cons_succ]
  refine hm_one (i := 4) (by kernel_rfl) ?_
  refine hm_step 4 rfl (by kernel_rfl) fun K hK => ?_
  try simp only [Act.put, List.getElem_toArray, List.getElem_cons_succ, List.getElem_cons_zero, List.setIfInBounds_toArray, List.set_cons_zero, List.set_cons_succ]
  go_simp
  go_at_call 26
  refine (qtake32 (Lib.hid (E.out.qnext R.out QD.out)) I0).mono ?_
  rintro e1' w1 ⟨v1, a1, u1, e1, xs1, rfl, hb, hq, ⟨⟨p1, g1, o1, c1, rfl, hl1, RW, hg1⟩, ha⟩, hI⟩
  have HB1 := Lib.hid (isB_row RW)
  rw [ha] at RW ⊢
  have RR := Lib.hid RW
  have HL1 := Lib.hid ha
  have HI := Lib.hid (hI.eq (Res.bind_assoc _ _ _))
  have HQ := Lib.hid hq
  replace E := Lib.hid (E.out.rcall R.out.box hb)
  clear hI hq hb RW hg1 hl1 ha I0 QD
  refine hK _ _ trivial ?_
  clear hK K
  try simp only [Act.put, List.getElem_toArray, List.getElem_cons_succ, List.getElem_cons_zero, List.setIfInBounds_toArray, List.set_cons_zero, List.set_cons_succ]
  refine hm_one (i := 5) (by kernel_rfl) ?_
  refine hm_step 5 rfl (by kernel_rfl) fun K hK => ?_
  try simp only [Act.put, List.getElem_toArray, List.getElem_cons_succ, List.getElem_cons_zero, List.setIfInBounds_toArray, List.set_cons_zero, List.set_cons_succ]
  refine mo_copy_in 0 E (.tmp 6) (.tmp 8) rfl rfl rfl rfl RR (by omega) ?_
  intro w3 E3 HO
  simp only [List.set_cons_zero] at E3
  have HQ3 := Lib.hid (HQ.out.xst (R.out.under E.out List.mem_cons_self) HO.out (by decide))
  refine hK _ _ trivial ?_
  clear hK K HO E RR HQ
  try simp only [Act.put, List.getElem_toArray, List.getElem_cons_succ, List.getElem_cons_zero, List.setIfInBounds_toArray, List.set_cons_zero, List.set_cons_succ]
  refine wpAnyH_done (by kernel_rfl) ?_ _
  obtain ⟨F1, hF1⟩ : ∃ F1 : Nat → Value, F1 = fun i => if 0 ≤ i ∧ i < 0 + 32 then .int .u8 ((lf a1 (i - 0) : Nat) : Int) else inz i := ⟨_, rfl⟩
  have E : Hid (Mem (rb W b #[u1, .int .i64 e1]) [(b2, 67, arr 36 F1), (b0, 67, arr 36 inz)] w3) := by rw [hF1]; exact E3
  have F1a : Hid (∀ j, j < 32 → F1 j = byv (lf a1 j)) := Lib.hid (fun j hj => by rw [hF1]; exact copied_id hj)
  have F1b : Hid (F1 35 = .slice none 0 0) := Lib.hid (by rw [hF1]; rfl)
  clear hF1 E3
  go_upto_region 6 with (first
    | (go_at_call 25; have := TS; refine (qlow4 (Lib.hid (E.out.qnext R.out HQ3.out)) HI).mono ?_; rintro e4' w4 ⟨v4, a4, u4, e4, xs4, rfl, hb, hq, ⟨rfl, hN4⟩, hI⟩
       (clear this; have cw4 : IntKind.u32.wrap (a4 : Int) = (a4 : Int) := (by rw [IntKind.wrap_u32]; omega); clear HI; have HI := Lib.hid hI; replace HQ3 := Lib.hid hq; replace TS := Lib.hid (TS.out.keep (rkeep (E.out.rbox R.out.box) hb) (by decide)); replace E := Lib.hid (E.out.rcall R.out.box hb); clear hI hq hb))
    | (go_at_call 25; refine (qlow4 (Lib.hid (E.out.qnext R.out HQ3.out)) HI).mono ?_; rintro e2' w4 ⟨v2, a2, u2, e2, xs2, rfl, hb, hq, ⟨rfl, hN2⟩, hI⟩
       (have cw2 : IntKind.u32.wrap (a2 : Int) = (a2 : Int) := (by rw [IntKind.wrap_u32]; omega); clear HI; have HI := Lib.hid (hI.eq (Res.bind_assoc _ _ _)); replace HQ3 := Lib.hid hq; replace E := Lib.hid (E.out.rcall R.out.box hb); clear hI hq hb))
    | (refine mem_store_cello (v := .int .u32 (a2 : Int)) 0 E 24 rfl (.tmp 14) (.tmp 12) rfl rfl rfl rfl (by kernel_rfl) rfl rfl (by rw [arr_size]; omega) ?_; intro w5 E5 HO; simp only [List.set_cons_zero, List.set_cons_succ, arr_ups] at E5; replace HQ3 := Lib.hid (HQ3.out.xst (R.out.under E.out List.mem_cons_self) HO.out (by decide)); clear E HO; have E := E5; clear E5)
    | (go_at_call 30; refine (qtext_any (Lib.hid (E.out.qnext R.out HQ3.out)) HI).mono ?_; rintro e3' w6 ⟨v3, a3, u3, e3, xs3, rfl, hb, hq, ⟨hv, hl3⟩, hI⟩
       (clear HI; have HI := Lib.hid (hI.eq (Res.bind_assoc _ _ _)); replace HQ3 := Lib.hid hq; have TS := Lib.hid (hv.mono E.out.rsize); have T1 := Lib.hid (textOwn_one hv); replace E := Lib.hid (E.out.rcall R.out.box hb); clear hI hq hb hv))
    | (refine mem_store_cello (v := v3) 0 E 22 rfl (.tmp 17) (.tmp 16) rfl rfl rfl rfl (by kernel_rfl) T1.out.1 T1.out.2 (by rw [arr_size]; omega) ?_; intro w7 E7 HO; simp only [List.set_cons_zero, List.set_cons_succ, arr_ups] at E7; replace HQ3 := Lib.hid (HQ3.out.xst (R.out.under E.out List.mem_cons_self) HO.out (by decide)); replace TS := Lib.hid (TS.out.keep (KeepT.of_only HO.out.1 HO.out.2) (by decide)); clear E HO; have E := E7; clear E7)
    | (refine mem_store_cello (v := .int .u32 (a4 : Int)) 0 E 24 rfl (.tmp 21) (.tmp 20) rfl rfl rfl rfl (by kernel_rfl) rfl rfl (by rw [arr_size]; omega) ?_; intro w8 E8 HO; simp only [List.set_cons_zero, List.set_cons_succ, arr_ups] at E8; replace HQ3 := Lib.hid (HQ3.out.xst (R.out.under E.out List.mem_cons_self) HO.out (by decide)); replace TS := Lib.hid (TS.out.keep (KeepT.of_only HO.out.1 HO.out.2) (by decide)); clear E HO; have E := E8; clear E8))
  have IO : InOwn W.heap.size w8 (ups (ups (ups F1 32 (.int .u32 (a2 : Int))) 33 v3) 34 (.int .u32 (a4 : Int))) ⟨a1, a2, a3, a4, []⟩ := by
    refine ⟨HL1.out, HB1.out, fun j hj => ?_, ?_, by omega, ?_, ?_, by omega, ?_⟩
    · rw [ups_ne _ _ (by omega), ups_ne _ _ (by omega), ups_ne _ _ (by omega)]
      exact F1a.out j hj
    · rw [ups_ne _ _ (by omega), ups_ne _ _ (by omega), ups_at]; rfl
    · rw [ups_ne _ _ (by omega), ups_at]; exact TS.out
    · rw [ups_at]; rfl
    · rw [ups_ne _ _ (by omega), ups_ne _ _ (by omega), ups_ne _ _ (by omega), F1b.out]
      exact texts_none _ _ E.out.rsize
  have IO := Lib.hid IO
  obtain ⟨V9, hV9⟩ : ∃ V9 : Nat → Value, V9 = ups (ups (ups F1 32 (.int .u32 (a2 : Int))) 33 v3) 34 (.int .u32 (a4 : Int)) := ⟨_, rfl⟩
  have N35 : Hid (V9 35 = .slice none 0 0) := Lib.hid (by rw [hV9, ups_ne _ _ (by omega), ups_ne _ _ (by omega), ups_ne _ _ (by omega), F1b.out])
  rw [← hV9] at IO E
  clear hV9
  go_wp2_with (first
    | (refine mem_load_row E 67 rfl (.tmp 3) rfl rfl List.mem_cons_self Try.underlying67 rfl (by simp only [arr_size]; kernel_rfl) ?_)
    | (refine mem_store_rowo 1 E 67 rfl (.tmp 2) (.tmp 22) rfl rfl rfl rfl (by kernel_rfl) (by simp only [arr_size]) (all_of IO.out.at.one) ?_; intro w9 E9 HO; simp only [List.set_cons_zero, List.set_cons_succ] at E9; replace HQ3 := Lib.hid (HQ3.out.xst (R.out.under E.out (List.mem_cons_of_mem _ List.mem_cons_self)) HO.out (by decide)); replace IO := Lib.hid (IO.out.keep (KeepT.of_only HO.out.1 HO.out.2) (by decide) (by decide)); clear HO E; have E := E9; clear E9))
  refine bodyPost_ret (results_cell_row (fn := Try.f28) rfl _ _ b0 67 _ (0, 0) _ rfl (E.out.get (List.mem_cons_of_mem _ List.mem_cons_self)) Try.underlying67 rfl (by rw [arr_size]; kernel_rfl)) rfl ?_
  exact QPost.of E.out HQ3.out ⟨_, rfl, IO.out, N35.out, rfl⟩ HI.out
set_option maxHeartbeats 8000000 in
theorem qout_any {f : TOut → List Nat → Res γ} (R : Hid (Qd D W b u e xs)) (I : Hid (Inv whole e ((pOut xs).bind f))) : Calls Try.prog 29 #[.pointer (some ⟨b, 0, none⟩)] W (QPost D W b (fun w' v a => ∃ V, v = .agg (arr 2 V) ∧ OutOwn W.heap.size w' V a) whole f) := by
  have E := Lib.hid R.out.start
  have I0 := Lib.hid (I.out.eq (Res.bind_assoc _ _ _))
  clear I
  go_enter Try.func29, Try.ntmps29
  go_upto_region 1 with (refine mem_alloc E 70 rfl rfl infoOut ?_; clear E; intro b0 w0 E)
  obtain ⟨zc, hzc⟩ : ∃ zc : Array Value, zc = (Value.agg #[.int .i64 0, .slice none 0 0]).cells := ⟨_, rfl⟩
  have ZC : Hid (zc.size = 2) := Lib.hid (by rw [hzc]; rfl)
  rw [← hzc] at E
  clear hzc
  have QD := Lib.hid (R.out.dat.keep (qonly_below R.out E.out.ronly) (rkeep (cs' := #[u, .int .i64 e]) R.out.box E.out.rbelow) (by decide))
  go_upto_region 2 with (first
    | (go_at_call 25; refine (qlow8 (Lib.hid (E.out.qnext R.out QD.out)) I0).mono ?_; rintro e1' w1 ⟨v1, a1, u1, e1, xs1, rfl, hb, hq, ⟨rfl, hN1⟩, hI⟩
       (have I1 := Lib.hid hI; have HQ := Lib.hid hq; replace E := Lib.hid (E.out.rcall R.out.box hb); clear hI hq hb QD)))
  obtain ⟨z, hz⟩ : ∃ z, z = IntKind.i64.wrap (a1 : Int) := ⟨_, rfl⟩
  have cwz : IntKind.i64.wrap (a1 : Int) = z := hz.symm
  have ZR := Lib.hid (show -9223372036854775808 ≤ z ∧ z ≤ 9223372036854775807 by rw [hz, IntKind.wrap_i64]; omega)
  by_cases h0 : e1 = 0
  · subst h0
    by_cases hle : a1 ≤ 9223372036854775807
    · have hza : z = (a1 : Int) := by rw [hz, IntKind.wrap_i64]; omega
      have IX : Hid (Inv whole 0 ((pText 10000 xs1).bind fun sc r => f ⟨z, sc⟩ r)) := Lib.hid (I1.out.good (by rw [hza]; show (if a1 ≤ 9223372036854775807 then _ else _ : Res TOut).bind f = _; rw [if_pos hle]; exact Res.bind_assoc _ _ _))
      have HG := Lib.hid (show decide ((a1 : Int) ≥ 9223372036854775808) = false by simp; omega)
      clear I1 hle hz hza hN1
      go_wp2_with (first
        | (refine wpList_known rfl (.bool false) _ (exec_geq (a := (a1 : Int)) (b := 9223372036854775808) rfl rfl rfl HG.out) ?_)
        | (refine wpList_xld E R.out.hbox 29 _ rfl rfl rfl Try.underlying29 rfl rfl ?_)
        | (refine wpList_xstk E R.out.hbox 29 (.tmp 17) (.const (.int .i64 51)) rfl rfl rfl (v := .int .i64 51) rfl (by kernel_rfl) rfl rfl rfl (cs' := #[u1, .int .i64 51]) rfl ?_; clear E; intro w3 E HO; replace HQ := Lib.hid (HQ.out.xst R.out.lo HO.out (by decide)); clear HO)
        | (go_at_call 30; refine (qtext_any (Lib.hid (E.out.qnext R.out HQ.out)) IX).mono ?_; rintro e3' w6 ⟨v3, a3, u3, e3, xs3, rfl, hb, hq, ⟨hv, hl3⟩, hI⟩
           (have HI := Lib.hid hI; replace HQ := Lib.hid hq; have TS := Lib.hid (hv.mono E.out.rsize); obtain ⟨p3, g3, c3, rfl, hx3⟩ := hv; replace E := Lib.hid (E.out.rcall R.out.box hb); clear hI hq hb hx3))
        | (refine wpList_build_to rfl 70 _ rfl #[(0, .int .i64 z), (1, .slice p3 a3.length c3)] (by kernel_rfl) (arr 2 (o2 (.int .i64 z) (.slice p3 a3.length c3))) (by kernel_rfl) ?_)
        | (refine mem_store_rowo 0 E 70 rfl (.tmp 2) (.tmp 22) rfl rfl rfl rfl (by kernel_rfl) (by rw [arr_size]; exact ZC.out) (all_of (o2_one rfl rfl)) ?_; intro w9 E9 HO; simp only [List.set_cons_zero, List.set_cons_succ] at E9; replace HQ := Lib.hid (HQ.out.xst (R.out.under E.out List.mem_cons_self) HO.out (by decide)); replace TS := Lib.hid (TS.out.keep (KeepT.of_only HO.out.1 HO.out.2) (by decide)); clear HO E; have E := E9; clear E9))
      refine bodyPost_ret (results_cell_row (fn := Try.f29) rfl _ _ b0 70 _ (0, 0) _ rfl (E.out.get List.mem_cons_self) Try.underlying70 rfl (by rw [arr_size]; kernel_rfl)) rfl ?_
      exact QPost.of (a := (⟨z, a3⟩ : TOut)) E.out HQ.out ⟨o2 (.int .i64 z) (.slice p3 a3.length c3), rfl, rfl, ZR.out, TS.out⟩ HI.out
    · have IX : Hid (Inv whole 51 ((pText 10000 xs1).bind fun sc r => f ⟨z, sc⟩ r)) := Lib.hid (I1.out.bad (by show (if a1 ≤ 9223372036854775807 then _ else _ : Res TOut).bind f = _; rw [if_neg hle]; rfl) (by decide) _)
      have HG := Lib.hid (show decide ((a1 : Int) ≥ 9223372036854775808) = true by simp; omega)
      clear I1 hle hz hN1
      go_wp2_with (first
        | (refine wpList_known rfl (.bool true) _ (exec_geq (a := (a1 : Int)) (b := 9223372036854775808) rfl rfl rfl HG.out) ?_)
        | (refine wpList_xld E R.out.hbox 29 _ rfl rfl rfl Try.underlying29 rfl rfl ?_)
        | (refine wpList_xstk E R.out.hbox 29 (.tmp 17) (.const (.int .i64 51)) rfl rfl rfl (v := .int .i64 51) rfl (by kernel_rfl) rfl rfl rfl (cs' := #[u1, .int .i64 51]) rfl ?_; clear E; intro w3 E HO; replace HQ := Lib.hid (HQ.out.xst R.out.lo HO.out (by decide)); clear HO)
        | (go_at_call 30; refine (qtext_any (Lib.hid (E.out.qnext R.out HQ.out)) IX).mono ?_; rintro e3' w6 ⟨v3, a3, u3, e3, xs3, rfl, hb, hq, ⟨hv, hl3⟩, hI⟩
           (have HI := Lib.hid hI; replace HQ := Lib.hid hq; have TS := Lib.hid (hv.mono E.out.rsize); obtain ⟨p3, g3, c3, rfl, hx3⟩ := hv; replace E := Lib.hid (E.out.rcall R.out.box hb); clear hI hq hb hx3))
        | (refine wpList_build_to rfl 70 _ rfl #[(0, .int .i64 z), (1, .slice p3 a3.length c3)] (by kernel_rfl) (arr 2 (o2 (.int .i64 z) (.slice p3 a3.length c3))) (by kernel_rfl) ?_)
        | (refine mem_store_rowo 0 E 70 rfl (.tmp 2) (.tmp 22) rfl rfl rfl rfl (by kernel_rfl) (by rw [arr_size]; exact ZC.out) (all_of (o2_one rfl rfl)) ?_; intro w9 E9 HO; simp only [List.set_cons_zero, List.set_cons_succ] at E9; replace HQ := Lib.hid (HQ.out.xst (R.out.under E.out List.mem_cons_self) HO.out (by decide)); replace TS := Lib.hid (TS.out.keep (KeepT.of_only HO.out.1 HO.out.2) (by decide)); clear HO E; have E := E9; clear E9))
      refine bodyPost_ret (results_cell_row (fn := Try.f29) rfl _ _ b0 70 _ (0, 0) _ rfl (E.out.get List.mem_cons_self) Try.underlying70 rfl (by rw [arr_size]; kernel_rfl)) rfl ?_
      exact QPost.of (a := (⟨z, a3⟩ : TOut)) E.out HQ.out ⟨o2 (.int .i64 z) (.slice p3 a3.length c3), rfl, rfl, ZR.out, TS.out⟩ HI.out
  · have IX : Hid (Inv whole e1 ((pText 10000 xs1).bind fun sc r => f ⟨z, sc⟩ r)) := Lib.hid (I1.out.fail h0 _)
    have h1 : (e1 == 0) = false := by simp; exact h0
    clear I1 hz hN1 h0
    go_wp2_with (first
      | (refine wpList_known rfl (.bool false) _ (exec_geq (a := (a1 : Int)) (b := 9223372036854775808) rfl rfl rfl rfl) ?_)
      | (refine wpList_xld E R.out.hbox 29 _ rfl rfl rfl Try.underlying29 rfl rfl ?_)
      | (refine wpList_xstk E R.out.hbox 29 (.tmp 17) (.const (.int .i64 51)) rfl rfl rfl (v := .int .i64 51) rfl (by kernel_rfl) rfl rfl rfl (cs' := #[u1, .int .i64 51]) rfl ?_; clear E; intro w3 E HO; replace HQ := Lib.hid (HQ.out.xst R.out.lo HO.out (by decide)); clear HO)
      | (go_at_call 30; refine (qtext_any (Lib.hid (E.out.qnext R.out HQ.out)) IX).mono ?_; rintro e3' w6 ⟨v3, a3, u3, e3, xs3, rfl, hb, hq, ⟨hv, hl3⟩, hI⟩
         (have HI := Lib.hid hI; replace HQ := Lib.hid hq; have TS := Lib.hid (hv.mono E.out.rsize); obtain ⟨p3, g3, c3, rfl, hx3⟩ := hv; replace E := Lib.hid (E.out.rcall R.out.box hb); clear hI hq hb hx3))
      | (refine wpList_build_to rfl 70 _ rfl #[(0, .int .i64 z), (1, .slice p3 a3.length c3)] (by kernel_rfl) (arr 2 (o2 (.int .i64 z) (.slice p3 a3.length c3))) (by kernel_rfl) ?_)
      | (refine mem_store_rowo 0 E 70 rfl (.tmp 2) (.tmp 22) rfl rfl rfl rfl (by kernel_rfl) (by rw [arr_size]; exact ZC.out) (all_of (o2_one rfl rfl)) ?_; intro w9 E9 HO; simp only [List.set_cons_zero, List.set_cons_succ] at E9; replace HQ := Lib.hid (HQ.out.xst (R.out.under E.out List.mem_cons_self) HO.out (by decide)); replace TS := Lib.hid (TS.out.keep (KeepT.of_only HO.out.1 HO.out.2) (by decide)); clear HO E; have E := E9; clear E9))
    refine bodyPost_ret (results_cell_row (fn := Try.f29) rfl _ _ b0 70 _ (0, 0) _ rfl (E.out.get List.mem_cons_self) Try.underlying70 rfl (by rw [arr_size]; kernel_rfl)) rfl ?_
    exact QPost.of (a := (⟨z, a3⟩ : TOut)) E.out HQ.out ⟨o2 (.int .i64 z) (.slice p3 a3.length c3), rfl, rfl, ZR.out, TS.out⟩ HI.out
end
end Go.Proofs.Ytllndneplkigpaa
