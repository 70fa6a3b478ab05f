/- Transactions that are the same are told to be. -/
import Derived.Test.YtoopcmcmjaikhaaDoorTl
set_option linter.unusedSimpArgs false
set_option linter.unusedVariables false
set_option maxRecDepth 100000
namespace Go.Proofs.YtoopcmcmjaikhaaDoor
open Go.RowKit Go.Lib Go.Sort

set_option maxHeartbeats 2000000 in
theorem same_out {w : World} {V V' : Nat → Value} {t : TOut} (A : Hid (OutCells w V t)) (A' : Hid (OutCells w V' t)) : Calls Tryd.prog 83 #[.agg (arr 2 V), .agg (arr 2 V')] w fun e w' => e = .returned (.bool true) ∧ Below w.heap.size w w' := by
  have E := Lib.hid (Mem.nil w)
  have c0 : (arr 2 V)[0]? = some (.int .i64 t.val) := by rw [arr_get 2 V 0 (by omega), A.out.val]
  have c0' : (arr 2 V')[0]? = some (.int .i64 t.val) := by rw [arr_get 2 V' 0 (by omega), A'.out.val]
  have c1 : (arr 2 V)[1]? = some (V 1) := arr_get 2 V 1 (by omega)
  have c1' : (arr 2 V')[1]? = some (V' 1) := arr_get 2 V' 1 (by omega)
  have S := Lib.hid fun w' (hb : Below w.heap.size w w') => same_text (Lib.hid (A.out.sc.below hb)) (Lib.hid (A'.out.sc.below hb))
  clear A A'
  go_enter Tryd.func83, Tryd.ntmps83
  go_wp2_with (first
    | (refine mem_box E 83 rfl (.tmp 0) rfl rfl (arr_cells' 2 V) ?_; clear E; intro b2 w2 E)
    | (refine mem_box E 83 rfl (.tmp 1) rfl rfl (arr_cells' 2 V') ?_; clear E; intro b3 w3 E)
    | (refine mem_load_cell E 2 rfl (.tmp 5) rfl rfl (List.mem_cons_of_mem _ List.mem_cons_self) Tryd.underlying2 rfl c0 ?_)
    | (refine mem_load_cell E 2 rfl (.tmp 7) rfl rfl List.mem_cons_self Tryd.underlying2 rfl c0' ?_)
    | (refine mem_load_cell E 32 rfl (.tmp 11) rfl rfl (List.mem_cons_of_mem _ List.mem_cons_self) Tryd.underlying32 rfl c1 ?_)
    | (refine mem_load_cell E 32 rfl (.tmp 13) rfl rfl List.mem_cons_self Tryd.underlying32 rfl c1' ?_)
    | (go_at_call 15; refine (S.out _ E.out.below).mono ?_; rintro e w4 ⟨rfl, hb⟩; replace E := Lib.hid (E.out.call hb); clear hb))
  go_ret
  exact ⟨rfl, E.out.below⟩
/-- The cells of a point. -/
def pcell (t : TIn) : Nat → Value := fun j => if j < 32 then byv (lf t.id j) else w32 t.idx
theorem point_fields : (Tryd.prog.fieldsOf 119).toList.map (fun f => (f.type, f.offset)) = [(23, 0), (26, 32)] := by kernel_rfl
theorem point_is : Tryd.prog.underlying 119 = some (.struct (Tryd.prog.fieldsOf 119)) := by kernel_rfl
theorem part_id (t : TIn) (w : World) : (part 23 (arr 33 (pcell t)) 0).run Tryd.prog w = .ok (.agg (arr 32 (bv (lf t.id)))) w := by kernel_rfl
theorem part_idx (t : TIn) (w : World) : (part 26 (arr 33 (pcell t)) 32).run Tryd.prog w = .ok (.int .u32 ((t.idx : Nat) : Int)) w := by kernel_rfl
theorem same_point (t : TIn) (w : World) : (Op.equalIn 10000 119 (.agg (arr 33 (pcell t))) (.agg (arr 33 (pcell t)))).run Tryd.prog w = .ok true w := by
  rw [run_equalIn_struct w 9999 119 _ _ point_is (by kernel_rfl)]
  refine eqFields_all _ fun f hf => ?_
  have hm : (f.type, f.offset) ∈ [(23, 0), (26, 32)] := by
    rw [← point_fields]
    exact List.mem_map.2 ⟨f, hf, rfl⟩
  simp only [List.mem_cons, List.not_mem_nil, or_false, Prod.mk.injEq] at hm
  rcases hm with ⟨e1, e2⟩ | ⟨e1, e2⟩
  · rw [e1, e2]; exact ⟨_, part_id t w, same_bytes_at (d := 9997) Tryd.underlying23 _ w⟩
  · rw [e1, e2]
    refine ⟨_, part_idx t w, ?_⟩
    rw [run_equalIn_int w 9998 26 .u32 .u32 _ _ Tryd.underlying26]
    simp
theorem load_point {w W : World} {b T : Nat} {V : Nat → Value} {t : TIn} (hh : w.heap[b]? = some (.cells (arr 36 V) T (0, 0))) (A : InCells W V t) : (Instr.loadAt 119 (.pointer (some ⟨b, 0, none⟩))).run Tryd.prog w = .ok (.agg (arr 33 (pcell t))) w := by
  have hr : w.rangeAt b 0 (vs (pcell t) 33) := fun j v hj => by
    obtain ⟨h, rfl⟩ := vs_get _ _ _ _ hj
    rw [Nat.zero_add, cell_of_here hh j (arr_get 36 V j (by omega))]
    unfold pcell
    split
    · rw [A.id j (by assumption)]
    · rw [show j = 32 by omega, A.idx]
  have := run_loadAt_mid (P := Tryd.prog) w b 0 119 (vs (pcell t) 33) _ hr point_is rfl (by rw [vs_length]; kernel_rfl)
  rwa [vs_arr] at this
set_option maxHeartbeats 4000000 in
theorem same_in {w : World} {V V' : Nat → Value} {t : TIn} (A : Hid (InCells w V t)) (A' : Hid (InCells w V' t)) : Calls Tryd.prog 80 #[.agg (arr 36 V), .agg (arr 36 V')] w fun e w' => e = .returned (.bool true) ∧ Below w.heap.size w w' := by
  have E := Lib.hid (Mem.nil w)
  have c34 : (arr 36 V)[34]? = some (.int .u32 ((t.sq : Nat) : Int)) := by rw [arr_get 36 V 34 (by omega), A.out.sq]; rfl
  have c34' : (arr 36 V')[34]? = some (.int .u32 ((t.sq : Nat) : Int)) := by rw [arr_get 36 V' 34 (by omega), A'.out.sq]; rfl
  have c33 : (arr 36 V)[33]? = some (V 33) := arr_get 36 V 33 (by omega)
  have c33' : (arr 36 V')[33]? = some (V' 33) := arr_get 36 V' 33 (by omega)
  have c35 : (arr 36 V)[35]? = some (V 35) := arr_get 36 V 35 (by omega)
  have c35' : (arr 36 V')[35]? = some (V' 35) := arr_get 36 V' 35 (by omega)
  have S := Lib.hid fun w' (hb : Below w.heap.size w w') => same_text (Lib.hid (A.out.sc.below hb)) (Lib.hid (A'.out.sc.below hb))
  have S2 := Lib.hid fun w' (hb : Below w.heap.size w w') => same_texts (Lib.hid (A.out.wit.below hb)) (Lib.hid (A'.out.wit.below hb))
  have SP := same_point t
  go_enter Tryd.func80, Tryd.ntmps80
  go_wp2_with (first
    | (refine mem_box E 121 rfl (.tmp 0) rfl rfl (arr_cells' 36 V) ?_; clear E; intro b2 w2 E)
    | (refine mem_box E 121 rfl (.tmp 1) rfl rfl (arr_cells' 36 V') ?_; clear E; intro b3 w3 E)
    | (refine wpList_ld 119 (.tmp 5) rfl rfl rfl (load_point (E.out.get (List.mem_cons_of_mem _ List.mem_cons_self)) A.out) ?_)
    | (refine wpList_ld 119 (.tmp 7) rfl rfl rfl (load_point (E.out.get List.mem_cons_self) A'.out) ?_)
    | (refine mem_load_cell E 26 rfl (.tmp 11) rfl rfl (List.mem_cons_of_mem _ List.mem_cons_self) Tryd.underlying26 rfl c34 ?_)
    | (refine mem_load_cell E 26 rfl (.tmp 13) rfl rfl List.mem_cons_self Tryd.underlying26 rfl c34' ?_)
    | (refine mem_load_cell E 32 rfl (.tmp 18) rfl rfl (List.mem_cons_of_mem _ List.mem_cons_self) Tryd.underlying32 rfl c33 ?_)
    | (refine mem_load_cell E 32 rfl (.tmp 20) rfl rfl List.mem_cons_self Tryd.underlying32 rfl c33' ?_)
    | (refine mem_load_cell E 30 rfl (.tmp 25) rfl rfl (List.mem_cons_of_mem _ List.mem_cons_self) Tryd.underlying30 rfl c35 ?_)
    | (refine mem_load_cell E 30 rfl (.tmp 27) rfl rfl List.mem_cons_self Tryd.underlying30 rfl c35' ?_)
    | (go_at_call 15; refine (S.out _ E.out.below).mono ?_; rintro e w4 ⟨rfl, hb⟩; replace E := Lib.hid (E.out.call hb); clear hb)
    | (go_at_call 16; refine (S2.out _ E.out.below).mono ?_; rintro e w4 ⟨rfl, hb⟩; replace E := Lib.hid (E.out.call hb); clear hb))
  go_ret
  exact ⟨rfl, E.out.below⟩

set_option maxHeartbeats 4000000 in
theorem efin_any {w : World} {v v' : Value} {ts : List TIn} (A : Hid (InsAt w v ts)) (A' : Hid (InsAt w v' ts)) :
    Calls Tryd.prog 81 #[v, v', .func (.func 80) #[] #[]] w fun e w' => e = .returned (.bool true) ∧ Below w.heap.size w w' := by
  obtain ⟨p, g, o, c, V, hv, hc, R0, hi⟩ := A.out
  obtain ⟨p', g', o', c', V', hv', hc', R0', hi'⟩ := A'.out
  subst hv hv'
  have RR := Lib.hid R0
  have SS := Lib.hid R0'
  have TT := Lib.hid hi
  have TU := Lib.hid hi'
  clear R0 hi A R0' hi' A' hc'
  have E := Lib.hid (Mem.nil w)
  obtain ⟨n, hn⟩ : ∃ n, n = ts.length := ⟨_, rfl⟩
  have HN := Lib.hid hn
  rw [← hn] at RR SS hc ⊢
  have hn3 : n ≤ 140737488355328 := by omega
  clear hn hc
  go_enter Tryd.func81, Tryd.ntmps81
  go_wp2
  go_loopg [17] n (fun k i wr => ∃ j : Nat, j + k = n ∧ i = .int .i64 (j : Int) ∧ Hid (Mem w [] wr))
  case atStart => exact ⟨0, by omega, rfl, E⟩
  case round =>
    clear E
    obtain ⟨j, hj, rfl, E⟩ := hrel
    obtain ⟨kk, rfl⟩ : ∃ kk : Nat, kk = gk := ⟨_, rfl⟩
    by_cases hlt : j < n
    · obtain rfl := RR.out.head (by omega)
      obtain rfl := SS.out.head (by omega)
      have ht : j < ts.length := by rw [← HN.out]; exact hlt
      have EC := Lib.hid (TT.out j ht)
      have ED := Lib.hid (TU.out j ht)
      go_wp2_with (first
        | (refine wpList_ix (k := 36) (j := j) Tryd.underlying77 (by kernel_rfl) (.tmp 15) (.tmp 17) rfl rfl rfl rfl hlt rfl ?_)
        | (refine wpList_ix (k := 36) (j := j) Tryd.underlying77 (by kernel_rfl) (.tmp 22) (.tmp 23) rfl rfl rfl rfl hlt rfl ?_)
        | (refine wpList_ld 121 (.tmp 20) rfl rfl rfl ((RR.out.below E.out.below).load hlt Tryd.underlying121 rfl (by kernel_rfl)) ?_)
        | (refine wpList_ld 121 (.tmp 24) rfl rfl rfl ((SS.out.below E.out.below).load hlt Tryd.underlying121 rfl (by kernel_rfl)) ?_)
        | (refine mem_alloc E 121 rfl rfl infoIn ?_; clear E; intro bn wn E; simp only [arr_cells'] at E)
        | (refine mem_store_row 0 E 121 rfl (.tmp 8) (.tmp 21) rfl rfl rfl rfl (by kernel_rfl) (by simp only [arr_size]) (RR.out.arr_one hlt) ?_; clear E; intro w5 E; simp only [List.set_cons_zero, List.set_cons_succ] at E)
        | (refine mem_store_row 0 E 121 rfl (.tmp 9) (.tmp 25) rfl rfl rfl rfl (by kernel_rfl) (by simp only [arr_size]) (SS.out.arr_one hlt) ?_; clear E; intro w6 E; simp only [List.set_cons_zero, List.set_cons_succ] at E)
        | (refine mem_load_row E 121 rfl (.tmp 8) rfl rfl (List.mem_cons_of_mem _ List.mem_cons_self) Tryd.underlying121 rfl (by simp only [arr_size]; kernel_rfl) ?_)
        | (refine mem_load_row E 121 rfl (.tmp 9) rfl rfl List.mem_cons_self Tryd.underlying121 rfl (by simp only [arr_size]; kernel_rfl) ?_)
        | (go_at_call 80; refine (same_in (Lib.hid (EC.out.below E.out.below)) (Lib.hid (ED.out.below E.out.below))).mono ?_; rintro e w7 ⟨rfl, hb⟩; replace E := Lib.hid (E.out.call hb); clear hb))
      go_roundg (n - (j + 1))
      case measure => omega
      case rel => exact ⟨j + 1, by omega, by go_num, Lib.hid E.out.tail.tail⟩
    · obtain rfl : j = n := by omega
      go_wp2
      go_ret
      exact ⟨rfl, E.out.below⟩

set_option maxHeartbeats 4000000 in
theorem efout_any {w : World} {v v' : Value} {ts : List TOut} (A : Hid (OutsAt w v ts)) (A' : Hid (OutsAt w v' ts)) :
    Calls Tryd.prog 82 #[v, v', .func (.func 83) #[] #[]] w fun e w' => e = .returned (.bool true) ∧ Below w.heap.size w w' := by
  obtain ⟨p, g, o, c, V, hv, hc, R0, hi⟩ := A.out
  obtain ⟨p', g', o', c', V', hv', hc', R0', hi'⟩ := A'.out
  subst hv hv'
  have RR := Lib.hid R0
  have SS := Lib.hid R0'
  have TT := Lib.hid hi
  have TU := Lib.hid hi'
  clear R0 hi A R0' hi' A' hc'
  have E := Lib.hid (Mem.nil w)
  obtain ⟨n, hn⟩ : ∃ n, n = ts.length := ⟨_, rfl⟩
  have HN := Lib.hid hn
  rw [← hn] at RR SS hc ⊢
  have hn3 : n ≤ 140737488355328 := by omega
  clear hn hc
  go_enter Tryd.func82, Tryd.ntmps82
  go_wp2
  go_loopg [17] n (fun k i wr => ∃ j : Nat, j + k = n ∧ i = .int .i64 (j : Int) ∧ Hid (Mem w [] wr))
  case atStart => exact ⟨0, by omega, rfl, E⟩
  case round =>
    clear E
    obtain ⟨j, hj, rfl, E⟩ := hrel
    obtain ⟨kk, rfl⟩ : ∃ kk : Nat, kk = gk := ⟨_, rfl⟩
    by_cases hlt : j < n
    · obtain rfl := RR.out.head (by omega)
      obtain rfl := SS.out.head (by omega)
      have ht : j < ts.length := by rw [← HN.out]; exact hlt
      have EC := Lib.hid (TT.out j ht)
      have ED := Lib.hid (TU.out j ht)
      go_wp2_with (first
        | (refine wpList_ix (k := 2) (j := j) Tryd.underlying78 (by kernel_rfl) (.tmp 15) (.tmp 17) rfl rfl rfl rfl hlt rfl ?_)
        | (refine wpList_ix (k := 2) (j := j) Tryd.underlying78 (by kernel_rfl) (.tmp 22) (.tmp 23) rfl rfl rfl rfl hlt rfl ?_)
        | (refine wpList_ld 83 (.tmp 20) rfl rfl rfl ((RR.out.below E.out.below).load hlt Tryd.underlying83 rfl (by kernel_rfl)) ?_)
        | (refine wpList_ld 83 (.tmp 24) rfl rfl rfl ((SS.out.below E.out.below).load hlt Tryd.underlying83 rfl (by kernel_rfl)) ?_)
        | (refine mem_alloc E 83 rfl rfl infoOut ?_; clear E; intro bn wn E)
        | (refine mem_store_row 0 E 83 rfl (.tmp 8) (.tmp 21) rfl rfl rfl rfl (by kernel_rfl) (by rw [arr_size]; rfl) (RR.out.arr_one hlt) ?_; clear E; intro w5 E; simp only [List.set_cons_zero, List.set_cons_succ] at E)
        | (refine mem_store_row 0 E 83 rfl (.tmp 9) (.tmp 25) rfl rfl rfl rfl (by kernel_rfl) (by rw [arr_size]; rfl) (SS.out.arr_one hlt) ?_; clear E; intro w6 E; simp only [List.set_cons_zero, List.set_cons_succ] at E)
        | (refine mem_load_row E 83 rfl (.tmp 8) rfl rfl (List.mem_cons_of_mem _ List.mem_cons_self) Tryd.underlying83 rfl (by simp only [arr_size]; kernel_rfl) ?_)
        | (refine mem_load_row E 83 rfl (.tmp 9) rfl rfl List.mem_cons_self Tryd.underlying83 rfl (by simp only [arr_size]; kernel_rfl) ?_)
        | (go_at_call 83; refine (same_out (Lib.hid (EC.out.below E.out.below)) (Lib.hid (ED.out.below E.out.below))).mono ?_; rintro e w7 ⟨rfl, hb⟩; replace E := Lib.hid (E.out.call hb); clear hb))
      go_roundg (n - (j + 1))
      case measure => omega
      case rel => exact ⟨j + 1, by omega, by go_num, Lib.hid E.out.tail.tail⟩
    · obtain rfl : j = n := by omega
      go_wp2
      go_ret
      exact ⟨rfl, E.out.below⟩

set_option maxHeartbeats 4000000 in
theorem same_tx {w : World} {V V' : Nat → Value} {t : TTx} (A : Hid (TxCells w V t)) (A' : Hid (TxCells w V' t)) : Calls Tryd.prog 49 #[.agg (arr 4 V), .agg (arr 4 V')] w fun e w' => e = .returned (.bool true) ∧ Below w.heap.size w w' := by
  have E := Lib.hid (Mem.nil w)
  have c0 : (arr 4 V)[0]? = some (.int .u32 ((t.ver : Nat) : Int)) := by rw [arr_get 4 V 0 (by omega), A.out.ver]; rfl
  have c0' : (arr 4 V')[0]? = some (.int .u32 ((t.ver : Nat) : Int)) := by rw [arr_get 4 V' 0 (by omega), A'.out.ver]; rfl
  have c3 : (arr 4 V)[3]? = some (.int .u32 ((t.lock : Nat) : Int)) := by rw [arr_get 4 V 3 (by omega), A.out.lock]; rfl
  have c3' : (arr 4 V')[3]? = some (.int .u32 ((t.lock : Nat) : Int)) := by rw [arr_get 4 V' 3 (by omega), A'.out.lock]; rfl
  have c1 : (arr 4 V)[1]? = some (V 1) := arr_get 4 V 1 (by omega)
  have c1' : (arr 4 V')[1]? = some (V' 1) := arr_get 4 V' 1 (by omega)
  have c2 : (arr 4 V)[2]? = some (V 2) := arr_get 4 V 2 (by omega)
  have c2' : (arr 4 V')[2]? = some (V' 2) := arr_get 4 V' 2 (by omega)
  have S := Lib.hid fun w' (hb : Below w.heap.size w w') => efin_any (Lib.hid (A.out.ins.below hb)) (Lib.hid (A'.out.ins.below hb))
  have S2 := Lib.hid fun w' (hb : Below w.heap.size w w') => efout_any (Lib.hid (A.out.outs.below hb)) (Lib.hid (A'.out.outs.below hb))
  clear A A'
  go_enter Tryd.func49, Tryd.ntmps49
  go_wp2_with (first
    | (refine mem_box E 80 rfl (.tmp 0) rfl rfl (arr_cells' 4 V) ?_; clear E; intro b2 w2 E)
    | (refine mem_box E 80 rfl (.tmp 1) rfl rfl (arr_cells' 4 V') ?_; clear E; intro b3 w3 E)
    | (refine mem_load_cell E 26 rfl (.tmp 6) rfl rfl (List.mem_cons_of_mem _ List.mem_cons_self) Tryd.underlying26 rfl c0 ?_)
    | (refine mem_load_cell E 26 rfl (.tmp 8) rfl rfl List.mem_cons_self Tryd.underlying26 rfl c0' ?_)
    | (refine mem_load_cell E 26 rfl (.tmp 12) rfl rfl (List.mem_cons_of_mem _ List.mem_cons_self) Tryd.underlying26 rfl c3 ?_)
    | (refine mem_load_cell E 26 rfl (.tmp 14) rfl rfl List.mem_cons_self Tryd.underlying26 rfl c3' ?_)
    | (refine mem_load_cell E 77 rfl (.tmp 19) rfl rfl (List.mem_cons_of_mem _ List.mem_cons_self) Tryd.underlying77 rfl c1 ?_)
    | (refine mem_load_cell E 77 rfl (.tmp 21) rfl rfl List.mem_cons_self Tryd.underlying77 rfl c1' ?_)
    | (refine mem_load_cell E 78 rfl (.tmp 27) rfl rfl (List.mem_cons_of_mem _ List.mem_cons_self) Tryd.underlying78 rfl c2 ?_)
    | (refine mem_load_cell E 78 rfl (.tmp 29) rfl rfl List.mem_cons_self Tryd.underlying78 rfl c2' ?_)
    | (go_at_call 81; refine (S.out _ E.out.below).mono ?_; rintro e w4 ⟨rfl, hb⟩; replace E := Lib.hid (E.out.call hb); clear hb)
    | (go_at_call 82; refine (S2.out _ E.out.below).mono ?_; rintro e w4 ⟨rfl, hb⟩; replace E := Lib.hid (E.out.call hb); clear hb))
  go_ret
  exact ⟨rfl, E.out.below⟩
end Go.Proofs.YtoopcmcmjaikhaaDoor

