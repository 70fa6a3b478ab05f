/- Transactions that are the same are told to be; a copy of one in memory of its own. -/
import Derived.Test.YtgicnmfodbenlaaDoorTd
import Derived.Test.YtgicnmfodbenlaaDoorBs
section
set_option linter.unusedSimpArgs false
set_option linter.unusedVariables false
set_option maxRecDepth 100000
namespace Go.Proofs.YtgicnmfodbenlaaDoor
open Go.RowKit Go.Lib Go.Sort

theorem same_text {w : World} {v v' : Value} {t : List Nat} (A : Hid (TextAt w v t)) (A' : Hid (TextAt w v' t)) : Calls Tryd.prog 8 #[v, v'] w fun e w' => e = .returned (.bool true) ∧ Below w.heap.size w w' := by
  obtain ⟨p, g, o, c, rfl, hc, R⟩ := A.out
  obtain ⟨p', g', o', c', rfl, hc', R'⟩ := A'.out
  refine (equal_any (Lib.hid R) (Lib.hid R') rfl (Lib.hid fun _ _ => rfl)).mono ?_
  rintro e w' ⟨rfl, rfl⟩
  exact ⟨rfl, Below.refl _ _⟩

set_option maxHeartbeats 4000000 in
theorem eftext_any {w : World} {v v' : Value} {ts : List (List Nat)} (A : Hid (TextsAt w v ts)) (A' : Hid (TextsAt w v' ts)) :
    Calls Tryd.prog 69 #[v, v', .func (.func 8) #[] #[]] w fun e w' => e = .returned (.bool true) ∧ Below w.heap.size w w' := by
  obtain ⟨p, g, o, c, V, hv, hc, R0, hi⟩ := A.out
  obtain ⟨p', g', o', c', V', hv', hc', R0', hi'⟩ := A'.out
  subst hv hv'
  have RR := Lib.hid R0
  have SS := Lib.hid R0'
  have TT := Lib.hid hi
  have TU := Lib.hid hi'
  clear R0 hi A R0' hi' A' hc'
  have E := Lib.hid (Mem.nil w)
  obtain ⟨n, hn⟩ : ∃ n, n = ts.length := ⟨_, rfl⟩
  have HN := Lib.hid hn
  rw [← hn] at RR SS hc ⊢
  have hn3 : n ≤ 140737488355328 := by omega
  clear hn hc
  go_enter Tryd.func69, Tryd.ntmps69
  go_wp2
  go_loopg [17] n (fun k i wr => ∃ j : Nat, j + k = n ∧ i = .int .i64 (j : Int) ∧ Hid (Mem w [] wr))
  case atStart => exact ⟨0, by omega, rfl, E⟩
  case round =>
    clear E
    obtain ⟨j, hj, rfl, E⟩ := hrel
    obtain ⟨kk, rfl⟩ : ∃ kk : Nat, kk = gk := ⟨_, rfl⟩
    by_cases hlt : j < n
    · obtain rfl := RR.out.head (by omega)
      obtain rfl := SS.out.head (by omega)
      have ht : j < ts.length := by rw [← HN.out]; exact hlt
      have EC := Lib.hid (TT.out j ht)
      have ED := Lib.hid (TU.out j ht)
      have CC := Lib.hid ((RR.out.below E.out.below).cell j (by omega))
      have CD := Lib.hid ((SS.out.below E.out.below).cell j (by omega))
      go_wp2_with (first
        | (refine wpList_ix (k := 1) (j := j) Tryd.underlying62 (by kernel_rfl) (.tmp 15) (.tmp 17) rfl rfl rfl rfl hlt rfl ?_; rw [Nat.mul_one])
        | (refine wpList_ix (k := 1) (j := j) Tryd.underlying62 (by kernel_rfl) (.tmp 22) (.tmp 23) rfl rfl rfl rfl hlt rfl ?_; rw [Nat.mul_one])
        | (refine wpList_ld1 31 (.tmp 20) rfl rfl rfl Tryd.underlying31 rfl CC.out ?_)
        | (refine wpList_ld1 31 (.tmp 24) rfl rfl rfl Tryd.underlying31 rfl CD.out ?_)
        | (go_at_call 8; refine (same_text (Lib.hid (EC.out.below E.out.below)) (Lib.hid (ED.out.below E.out.below))).mono ?_; rintro e w7 ⟨rfl, hb⟩; replace E := Lib.hid (E.out.call hb); clear hb))
      go_roundg (n - (j + 1))
      case measure => omega
      case rel => exact ⟨j + 1, by omega, by go_num, E⟩
    · obtain rfl : j = n := by omega
      go_wp2
      go_ret
      exact ⟨rfl, E.out.below⟩

set_option maxHeartbeats 2000000 in
theorem same_texts {w : World} {v v' : Value} {ts : List (List Nat)} (A : Hid (TextsAt w v ts)) (A' : Hid (TextsAt w v' ts)) : Calls Tryd.prog 52 #[v, v'] w fun e w' => e = .returned (.bool true) ∧ Below w.heap.size w w' := by
  have I := Lib.hid (eftext_any A A')
  clear A A'
  go_enter Tryd.func52, Tryd.ntmps52
  go_wp2_with (go_at_call 69; refine I.out.mono ?_; rintro e w1 ⟨rfl, hb⟩; have B := Lib.hid hb; clear hb)
  go_ret
  exact ⟨rfl, B.out⟩
set_option maxHeartbeats 2000000 in
theorem same_out {w : World} {V V' : Nat → Value} {t : TOut} (A : Hid (OutCells w V t)) (A' : Hid (OutCells w V' t)) : Calls Tryd.prog 55 #[.agg (arr 2 V), .agg (arr 2 V')] w fun e w' => e = .returned (.bool true) ∧ Below w.heap.size w w' := by
  have E := Lib.hid (Mem.nil w)
  have c0 : (arr 2 V)[0]? = some (.int .i64 t.val) := by rw [arr_get 2 V 0 (by omega), A.out.val]
  have c0' : (arr 2 V')[0]? = some (.int .i64 t.val) := by rw [arr_get 2 V' 0 (by omega), A'.out.val]
  have c1 : (arr 2 V)[1]? = some (V 1) := arr_get 2 V 1 (by omega)
  have c1' : (arr 2 V')[1]? = some (V' 1) := arr_get 2 V' 1 (by omega)
  have S := Lib.hid fun w' (hb : Below w.heap.size w w') => same_text (Lib.hid (A.out.sc.below hb)) (Lib.hid (A'.out.sc.below hb))
  clear A A'
  go_enter Tryd.func55, Tryd.ntmps55
  go_wp2_with (first
    | (refine mem_box E 66 rfl (.tmp 0) rfl rfl (arr_cells' 2 V) ?_; clear E; intro b2 w2 E)
    | (refine mem_box E 66 rfl (.tmp 1) rfl rfl (arr_cells' 2 V') ?_; clear E; intro b3 w3 E)
    | (refine mem_load_cell E 2 rfl (.tmp 5) rfl rfl (List.mem_cons_of_mem _ List.mem_cons_self) Tryd.underlying2 rfl c0 ?_)
    | (refine mem_load_cell E 2 rfl (.tmp 7) rfl rfl List.mem_cons_self Tryd.underlying2 rfl c0' ?_)
    | (refine mem_load_cell E 31 rfl (.tmp 11) rfl rfl (List.mem_cons_of_mem _ List.mem_cons_self) Tryd.underlying31 rfl c1 ?_)
    | (refine mem_load_cell E 31 rfl (.tmp 13) rfl rfl List.mem_cons_self Tryd.underlying31 rfl c1' ?_)
    | (go_at_call 8; refine (S.out _ E.out.below).mono ?_; rintro e w4 ⟨rfl, hb⟩; replace E := Lib.hid (E.out.call hb); clear hb))
  go_ret
  exact ⟨rfl, E.out.below⟩
/-- The cells of a point. -/
def pcell (t : TIn) : Nat → Value := fun j => if j < 32 then byv (lf t.id j) else w32 t.idx
theorem point_fields : (Tryd.prog.fieldsOf 61).toList.map (fun f => (f.type, f.offset)) = [(24, 0), (22, 32)] := by kernel_rfl
theorem point_is : Tryd.prog.underlying 61 = some (.struct (Tryd.prog.fieldsOf 61)) := by kernel_rfl
theorem part_id (t : TIn) (w : World) : (part 24 (arr 33 (pcell t)) 0).run Tryd.prog w = .ok (.agg (arr 32 (bv (lf t.id)))) w := by kernel_rfl
theorem part_idx (t : TIn) (w : World) : (part 22 (arr 33 (pcell t)) 32).run Tryd.prog w = .ok (.int .u32 ((t.idx : Nat) : Int)) w := by kernel_rfl
theorem same_point (t : TIn) (w : World) : (Op.equalIn 10000 61 (.agg (arr 33 (pcell t))) (.agg (arr 33 (pcell t)))).run Tryd.prog w = .ok true w := by
  rw [run_equalIn_struct w 9999 61 _ _ point_is (by kernel_rfl)]
  refine eqFields_all _ fun f hf => ?_
  have hm : (f.type, f.offset) ∈ [(24, 0), (22, 32)] := by
    rw [← point_fields]
    exact List.mem_map.2 ⟨f, hf, rfl⟩
  simp only [List.mem_cons, List.not_mem_nil, or_false, Prod.mk.injEq] at hm
  rcases hm with ⟨e1, e2⟩ | ⟨e1, e2⟩
  · rw [e1, e2]; exact ⟨_, part_id t w, same_bytes_at (d := 9997) Tryd.underlying24 _ w⟩
  · rw [e1, e2]
    refine ⟨_, part_idx t w, ?_⟩
    rw [run_equalIn_int w 9998 22 .u32 .u32 _ _ Tryd.underlying22]
    simp
theorem load_point {w W : World} {b T : Nat} {V : Nat → Value} {t : TIn} (hh : w.heap[b]? = some (.cells (arr 36 V) T (0, 0))) (A : InCells W V t) : (Instr.loadAt 61 (.pointer (some ⟨b, 0, none⟩))).run Tryd.prog w = .ok (.agg (arr 33 (pcell t))) w := by
  have hr : w.rangeAt b 0 (vs (pcell t) 33) := fun j v hj => by
    obtain ⟨h, rfl⟩ := vs_get _ _ _ _ hj
    rw [Nat.zero_add, cell_of_here hh j (arr_get 36 V j (by omega))]
    unfold pcell
    split
    · rw [A.id j (by assumption)]
    · rw [show j = 32 by omega, A.idx]
  have := run_loadAt_mid (P := Tryd.prog) w b 0 61 (vs (pcell t) 33) _ hr point_is rfl (by rw [vs_length]; kernel_rfl)
  rwa [vs_arr] at this
set_option maxHeartbeats 4000000 in
theorem same_in {w : World} {V V' : Nat → Value} {t : TIn} (A : Hid (InCells w V t)) (A' : Hid (InCells w V' t)) : Calls Tryd.prog 51 #[.agg (arr 36 V), .agg (arr 36 V')] w fun e w' => e = .returned (.bool true) ∧ Below w.heap.size w w' := by
  have E := Lib.hid (Mem.nil w)
  have c34 : (arr 36 V)[34]? = some (.int .u32 ((t.sq : Nat) : Int)) := by rw [arr_get 36 V 34 (by omega), A.out.sq]; rfl
  have c34' : (arr 36 V')[34]? = some (.int .u32 ((t.sq : Nat) : Int)) := by rw [arr_get 36 V' 34 (by omega), A'.out.sq]; rfl
  have c33 : (arr 36 V)[33]? = some (V 33) := arr_get 36 V 33 (by omega)
  have c33' : (arr 36 V')[33]? = some (V' 33) := arr_get 36 V' 33 (by omega)
  have c35 : (arr 36 V)[35]? = some (V 35) := arr_get 36 V 35 (by omega)
  have c35' : (arr 36 V')[35]? = some (V' 35) := arr_get 36 V' 35 (by omega)
  have S := Lib.hid fun w' (hb : Below w.heap.size w w') => same_text (Lib.hid (A.out.sc.below hb)) (Lib.hid (A'.out.sc.below hb))
  have S2 := Lib.hid fun w' (hb : Below w.heap.size w w') => same_texts (Lib.hid (A.out.wit.below hb)) (Lib.hid (A'.out.wit.below hb))
  have SP := same_point t
  go_enter Tryd.func51, Tryd.ntmps51
  go_wp2_with (first
    | (refine mem_box E 64 rfl (.tmp 0) rfl rfl (arr_cells' 36 V) ?_; clear E; intro b2 w2 E)
    | (refine mem_box E 64 rfl (.tmp 1) rfl rfl (arr_cells' 36 V') ?_; clear E; intro b3 w3 E)
    | (refine wpList_ld 61 (.tmp 5) rfl rfl rfl (load_point (E.out.get (List.mem_cons_of_mem _ List.mem_cons_self)) A.out) ?_)
    | (refine wpList_ld 61 (.tmp 7) rfl rfl rfl (load_point (E.out.get List.mem_cons_self) A'.out) ?_)
    | (refine mem_load_cell E 22 rfl (.tmp 11) rfl rfl (List.mem_cons_of_mem _ List.mem_cons_self) Tryd.underlying22 rfl c34 ?_)
    | (refine mem_load_cell E 22 rfl (.tmp 13) rfl rfl List.mem_cons_self Tryd.underlying22 rfl c34' ?_)
    | (refine mem_load_cell E 31 rfl (.tmp 18) rfl rfl (List.mem_cons_of_mem _ List.mem_cons_self) Tryd.underlying31 rfl c33 ?_)
    | (refine mem_load_cell E 31 rfl (.tmp 20) rfl rfl List.mem_cons_self Tryd.underlying31 rfl c33' ?_)
    | (refine mem_load_cell E 62 rfl (.tmp 25) rfl rfl (List.mem_cons_of_mem _ List.mem_cons_self) Tryd.underlying62 rfl c35 ?_)
    | (refine mem_load_cell E 62 rfl (.tmp 27) rfl rfl List.mem_cons_self Tryd.underlying62 rfl c35' ?_)
    | (go_at_call 8; refine (S.out _ E.out.below).mono ?_; rintro e w4 ⟨rfl, hb⟩; replace E := Lib.hid (E.out.call hb); clear hb)
    | (go_at_call 52; refine (S2.out _ E.out.below).mono ?_; rintro e w4 ⟨rfl, hb⟩; replace E := Lib.hid (E.out.call hb); clear hb))
  go_ret
  exact ⟨rfl, E.out.below⟩

set_option maxHeartbeats 4000000 in
theorem efin_any {w : World} {v v' : Value} {ts : List TIn} (A : Hid (InsAt w v ts)) (A' : Hid (InsAt w v' ts)) :
    Calls Tryd.prog 53 #[v, v', .func (.func 51) #[] #[]] w fun e w' => e = .returned (.bool true) ∧ Below w.heap.size w w' := by
  obtain ⟨p, g, o, c, V, hv, hc, R0, hi⟩ := A.out
  obtain ⟨p', g', o', c', V', hv', hc', R0', hi'⟩ := A'.out
  subst hv hv'
  have RR := Lib.hid R0
  have SS := Lib.hid R0'
  have TT := Lib.hid hi
  have TU := Lib.hid hi'
  clear R0 hi A R0' hi' A' hc'
  have E := Lib.hid (Mem.nil w)
  obtain ⟨n, hn⟩ : ∃ n, n = ts.length := ⟨_, rfl⟩
  have HN := Lib.hid hn
  rw [← hn] at RR SS hc ⊢
  have hn3 : n ≤ 140737488355328 := by omega
  clear hn hc
  go_enter Tryd.func53, Tryd.ntmps53
  go_wp2
  go_loopg [17] n (fun k i wr => ∃ j : Nat, j + k = n ∧ i = .int .i64 (j : Int) ∧ Hid (Mem w [] wr))
  case atStart => exact ⟨0, by omega, rfl, E⟩
  case round =>
    clear E
    obtain ⟨j, hj, rfl, E⟩ := hrel
    obtain ⟨kk, rfl⟩ : ∃ kk : Nat, kk = gk := ⟨_, rfl⟩
    by_cases hlt : j < n
    · obtain rfl := RR.out.head (by omega)
      obtain rfl := SS.out.head (by omega)
      have ht : j < ts.length := by rw [← HN.out]; exact hlt
      have EC := Lib.hid (TT.out j ht)
      have ED := Lib.hid (TU.out j ht)
      go_wp2_with (first
        | (refine wpList_ix (k := 36) (j := j) Tryd.underlying41 (by kernel_rfl) (.tmp 15) (.tmp 17) rfl rfl rfl rfl hlt rfl ?_)
        | (refine wpList_ix (k := 36) (j := j) Tryd.underlying41 (by kernel_rfl) (.tmp 22) (.tmp 23) rfl rfl rfl rfl hlt rfl ?_)
        | (refine wpList_ld 64 (.tmp 20) rfl rfl rfl ((RR.out.below E.out.below).load hlt Tryd.underlying64 rfl (by kernel_rfl)) ?_)
        | (refine wpList_ld 64 (.tmp 24) rfl rfl rfl ((SS.out.below E.out.below).load hlt Tryd.underlying64 rfl (by kernel_rfl)) ?_)
        | (refine mem_alloc E 64 rfl rfl infoIn ?_; clear E; intro bn wn E; simp only [arr_cells'] at E)
        | (refine mem_store_row 0 E 64 rfl (.tmp 8) (.tmp 21) rfl rfl rfl rfl (by kernel_rfl) (by simp only [arr_size]) (RR.out.arr_one hlt) ?_; clear E; intro w5 E; simp only [List.set_cons_zero, List.set_cons_succ] at E)
        | (refine mem_store_row 0 E 64 rfl (.tmp 9) (.tmp 25) rfl rfl rfl rfl (by kernel_rfl) (by simp only [arr_size]) (SS.out.arr_one hlt) ?_; clear E; intro w6 E; simp only [List.set_cons_zero, List.set_cons_succ] at E)
        | (refine mem_load_row E 64 rfl (.tmp 8) rfl rfl (List.mem_cons_of_mem _ List.mem_cons_self) Tryd.underlying64 rfl (by simp only [arr_size]; kernel_rfl) ?_)
        | (refine mem_load_row E 64 rfl (.tmp 9) rfl rfl List.mem_cons_self Tryd.underlying64 rfl (by simp only [arr_size]; kernel_rfl) ?_)
        | (go_at_call 51; refine (same_in (Lib.hid (EC.out.below E.out.below)) (Lib.hid (ED.out.below E.out.below))).mono ?_; rintro e w7 ⟨rfl, hb⟩; replace E := Lib.hid (E.out.call hb); clear hb))
      go_roundg (n - (j + 1))
      case measure => omega
      case rel => exact ⟨j + 1, by omega, by go_num, Lib.hid E.out.tail.tail⟩
    · obtain rfl : j = n := by omega
      go_wp2
      go_ret
      exact ⟨rfl, E.out.below⟩

set_option maxHeartbeats 4000000 in
theorem efout_any {w : World} {v v' : Value} {ts : List TOut} (A : Hid (OutsAt w v ts)) (A' : Hid (OutsAt w v' ts)) :
    Calls Tryd.prog 54 #[v, v', .func (.func 55) #[] #[]] w fun e w' => e = .returned (.bool true) ∧ Below w.heap.size w w' := by
  obtain ⟨p, g, o, c, V, hv, hc, R0, hi⟩ := A.out
  obtain ⟨p', g', o', c', V', hv', hc', R0', hi'⟩ := A'.out
  subst hv hv'
  have RR := Lib.hid R0
  have SS := Lib.hid R0'
  have TT := Lib.hid hi
  have TU := Lib.hid hi'
  clear R0 hi A R0' hi' A' hc'
  have E := Lib.hid (Mem.nil w)
  obtain ⟨n, hn⟩ : ∃ n, n = ts.length := ⟨_, rfl⟩
  have HN := Lib.hid hn
  rw [← hn] at RR SS hc ⊢
  have hn3 : n ≤ 140737488355328 := by omega
  clear hn hc
  go_enter Tryd.func54, Tryd.ntmps54
  go_wp2
  go_loopg [17] n (fun k i wr => ∃ j : Nat, j + k = n ∧ i = .int .i64 (j : Int) ∧ Hid (Mem w [] wr))
  case atStart => exact ⟨0, by omega, rfl, E⟩
  case round =>
    clear E
    obtain ⟨j, hj, rfl, E⟩ := hrel
    obtain ⟨kk, rfl⟩ : ∃ kk : Nat, kk = gk := ⟨_, rfl⟩
    by_cases hlt : j < n
    · obtain rfl := RR.out.head (by omega)
      obtain rfl := SS.out.head (by omega)
      have ht : j < ts.length := by rw [← HN.out]; exact hlt
      have EC := Lib.hid (TT.out j ht)
      have ED := Lib.hid (TU.out j ht)
      go_wp2_with (first
        | (refine wpList_ix (k := 2) (j := j) Tryd.underlying42 (by kernel_rfl) (.tmp 15) (.tmp 17) rfl rfl rfl rfl hlt rfl ?_)
        | (refine wpList_ix (k := 2) (j := j) Tryd.underlying42 (by kernel_rfl) (.tmp 22) (.tmp 23) rfl rfl rfl rfl hlt rfl ?_)
        | (refine wpList_ld 66 (.tmp 20) rfl rfl rfl ((RR.out.below E.out.below).load hlt Tryd.underlying66 rfl (by kernel_rfl)) ?_)
        | (refine wpList_ld 66 (.tmp 24) rfl rfl rfl ((SS.out.below E.out.below).load hlt Tryd.underlying66 rfl (by kernel_rfl)) ?_)
        | (refine mem_alloc E 66 rfl rfl infoOut ?_; clear E; intro bn wn E)
        | (refine mem_store_row 0 E 66 rfl (.tmp 8) (.tmp 21) rfl rfl rfl rfl (by kernel_rfl) (by rw [arr_size]; rfl) (RR.out.arr_one hlt) ?_; clear E; intro w5 E; simp only [List.set_cons_zero, List.set_cons_succ] at E)
        | (refine mem_store_row 0 E 66 rfl (.tmp 9) (.tmp 25) rfl rfl rfl rfl (by kernel_rfl) (by rw [arr_size]; rfl) (SS.out.arr_one hlt) ?_; clear E; intro w6 E; simp only [List.set_cons_zero, List.set_cons_succ] at E)
        | (refine mem_load_row E 66 rfl (.tmp 8) rfl rfl (List.mem_cons_of_mem _ List.mem_cons_self) Tryd.underlying66 rfl (by simp only [arr_size]; kernel_rfl) ?_)
        | (refine mem_load_row E 66 rfl (.tmp 9) rfl rfl List.mem_cons_self Tryd.underlying66 rfl (by simp only [arr_size]; kernel_rfl) ?_)
        | (go_at_call 55; refine (same_out (Lib.hid (EC.out.below E.out.below)) (Lib.hid (ED.out.below E.out.below))).mono ?_; rintro e w7 ⟨rfl, hb⟩; replace E := Lib.hid (E.out.call hb); clear hb))
      go_roundg (n - (j + 1))
      case measure => omega
      case rel => exact ⟨j + 1, by omega, by go_num, Lib.hid E.out.tail.tail⟩
    · obtain rfl : j = n := by omega
      go_wp2
      go_ret
      exact ⟨rfl, E.out.below⟩

set_option maxHeartbeats 4000000 in
theorem same_tx {w : World} {V V' : Nat → Value} {t : TTx} (A : Hid (TxCells w V t)) (A' : Hid (TxCells w V' t)) : Calls Tryd.prog 28 #[.agg (arr 4 V), .agg (arr 4 V')] w fun e w' => e = .returned (.bool true) ∧ Below w.heap.size w w' := by
  have E := Lib.hid (Mem.nil w)
  have c0 : (arr 4 V)[0]? = some (.int .u32 ((t.ver : Nat) : Int)) := by rw [arr_get 4 V 0 (by omega), A.out.ver]; rfl
  have c0' : (arr 4 V')[0]? = some (.int .u32 ((t.ver : Nat) : Int)) := by rw [arr_get 4 V' 0 (by omega), A'.out.ver]; rfl
  have c3 : (arr 4 V)[3]? = some (.int .u32 ((t.lock : Nat) : Int)) := by rw [arr_get 4 V 3 (by omega), A.out.lock]; rfl
  have c3' : (arr 4 V')[3]? = some (.int .u32 ((t.lock : Nat) : Int)) := by rw [arr_get 4 V' 3 (by omega), A'.out.lock]; rfl
  have c1 : (arr 4 V)[1]? = some (V 1) := arr_get 4 V 1 (by omega)
  have c1' : (arr 4 V')[1]? = some (V' 1) := arr_get 4 V' 1 (by omega)
  have c2 : (arr 4 V)[2]? = some (V 2) := arr_get 4 V 2 (by omega)
  have c2' : (arr 4 V')[2]? = some (V' 2) := arr_get 4 V' 2 (by omega)
  have S := Lib.hid fun w' (hb : Below w.heap.size w w') => efin_any (Lib.hid (A.out.ins.below hb)) (Lib.hid (A'.out.ins.below hb))
  have S2 := Lib.hid fun w' (hb : Below w.heap.size w w') => efout_any (Lib.hid (A.out.outs.below hb)) (Lib.hid (A'.out.outs.below hb))
  clear A A'
  go_enter Tryd.func28, Tryd.ntmps28
  go_wp2_with (first
    | (refine mem_box E 44 rfl (.tmp 0) rfl rfl (arr_cells' 4 V) ?_; clear E; intro b2 w2 E)
    | (refine mem_box E 44 rfl (.tmp 1) rfl rfl (arr_cells' 4 V') ?_; clear E; intro b3 w3 E)
    | (refine mem_load_cell E 22 rfl (.tmp 6) rfl rfl (List.mem_cons_of_mem _ List.mem_cons_self) Tryd.underlying22 rfl c0 ?_)
    | (refine mem_load_cell E 22 rfl (.tmp 8) rfl rfl List.mem_cons_self Tryd.underlying22 rfl c0' ?_)
    | (refine mem_load_cell E 22 rfl (.tmp 12) rfl rfl (List.mem_cons_of_mem _ List.mem_cons_self) Tryd.underlying22 rfl c3 ?_)
    | (refine mem_load_cell E 22 rfl (.tmp 14) rfl rfl List.mem_cons_self Tryd.underlying22 rfl c3' ?_)
    | (refine mem_load_cell E 41 rfl (.tmp 19) rfl rfl (List.mem_cons_of_mem _ List.mem_cons_self) Tryd.underlying41 rfl c1 ?_)
    | (refine mem_load_cell E 41 rfl (.tmp 21) rfl rfl List.mem_cons_self Tryd.underlying41 rfl c1' ?_)
    | (refine mem_load_cell E 42 rfl (.tmp 27) rfl rfl (List.mem_cons_of_mem _ List.mem_cons_self) Tryd.underlying42 rfl c2 ?_)
    | (refine mem_load_cell E 42 rfl (.tmp 29) rfl rfl List.mem_cons_self Tryd.underlying42 rfl c2' ?_)
    | (go_at_call 53; refine (S.out _ E.out.below).mono ?_; rintro e w4 ⟨rfl, hb⟩; replace E := Lib.hid (E.out.call hb); clear hb)
    | (go_at_call 54; refine (S2.out _ E.out.below).mono ?_; rintro e w4 ⟨rfl, hb⟩; replace E := Lib.hid (E.out.call hb); clear hb))
  go_ret
  exact ⟨rfl, E.out.below⟩
end Go.Proofs.YtgicnmfodbenlaaDoor
end
section
set_option linter.unusedSimpArgs false
set_option linter.unusedVariables false
set_option maxRecDepth 100000
namespace Go.Proofs.YtgicnmfodbenlaaDoor
open Go.RowKit Go.Lib Go.Sort

/-- Blocks of another type than T are as they were. -/
structure KeepT (T : TypeId) (w w' : World) : Prop where
  keep : ∀ (q : Nat) (cc : Array Value) (T' : TypeId), T' ≠ T → w.heap[q]? = some (.cells cc T' (0, 0)) → w'.heap[q]? = some (.cells cc T' (0, 0))
  size : w.heap.size ≤ w'.heap.size
theorem KeepT.of_below {w w' : World} (T : TypeId) (h : Below w.heap.size w w') : KeepT T w w' := ⟨fun q cc T' _ hq => by rw [h.block _ (heap_lt hq)]; exact hq, h.size⟩
theorem KeepT.of_grown {w w' : World} {T k B : Nat} {p : Option Addr} {g n c : Nat} {V : Nat → Value} (N : VOwn T k B w p g n c V) (hg : w.grownBy w' ((Value.slice p n c).ownBlock)) : KeepT T w w' := ⟨fun q cc T' hT hq => N.other hg hT hq, hg.size⟩
theorem KeepT.of_only {w w' : World} {b T : Nat} {cs : Array Value} (hb : w.heap[b]? = some (.cells cs T (0, 0))) (h : Only b w w') : KeepT T w w' := ⟨fun q cc T' hT hq => h.heap (fun e => by
  rw [e, hb] at hq
  injection hq with hq
  injection hq with _ hq _
  exact hT hq.symm) hq, h.size⟩
theorem ownsRow_keep {w w' : World} {base : Nat} {e T : TypeId} {size : Nat} {v : Value} {n : Nat} {xs : List Value} (h : w.ownsRow base e size v n xs) (k : KeepT T w w') (hT : e ≠ T) : w'.ownsRow base e size v n xs := by
  refine ⟨h.1, ?_⟩
  rcases h.2 with hn | ⟨g, cap, cur, rfl, hb, hgg, rest⟩
  · exact .inl hn
  · exact .inr ⟨g, cap, cur, rfl, hb, k.keep g cur e hT hgg, rest⟩
def TextOwn (B : Nat) (w : World) (v : Value) (t : List Nat) : Prop := ∃ p g c, v = .slice p t.length c ∧ t.length ≤ 140737488351232 ∧ Own B w p g t.length c (lf t)
def TextsOwn (B : Nat) (w : World) (v : Value) (ts : List (List Nat)) : Prop :=
  ∃ p g c V, v = .slice p ts.length c ∧ ts.length * 24 ≤ 140737488351232 ∧ VOwn 31 1 B w p g ts.length c V ∧ ∀ i (h : i < ts.length), TextOwn B w (V i) ts[i]
structure InOwn (B : Nat) (w : World) (V : Nat → Value) (t : TIn) : Prop where
  len : t.id.length = 32
  idB : IsB t.id
  id : ∀ j, j < 32 → V j = byv (lf t.id j)
  idx : V 32 = w32 t.idx
  idxB : t.idx < 4294967296
  sc : TextOwn B w (V 33) t.sc
  sq : V 34 = w32 t.sq
  sqB : t.sq < 4294967296
  wit : TextsOwn B w (V 35) t.wit
structure OutOwn (B : Nat) (w : World) (V : Nat → Value) (t : TOut) : Prop where
  val : V 0 = .int .i64 t.val
  valB : -9223372036854775808 ≤ t.val ∧ t.val ≤ 9223372036854775807
  sc : TextOwn B w (V 1) t.sc
def InsOwn (B : Nat) (w : World) (v : Value) (ts : List TIn) : Prop :=
  ∃ p g c V, v = .slice p ts.length c ∧ ts.length * 96 ≤ 140737488351232 ∧ VOwn 64 36 B w p g ts.length c V ∧ ∀ i (h : i < ts.length), InOwn B w (fun j => V (i * 36 + j)) ts[i]
def OutsOwn (B : Nat) (w : World) (v : Value) (ts : List TOut) : Prop :=
  ∃ p g c V, v = .slice p ts.length c ∧ ts.length * 32 ≤ 140737488351232 ∧ VOwn 66 2 B w p g ts.length c V ∧ ∀ i (h : i < ts.length), OutOwn B w (fun j => V (i * 2 + j)) ts[i]
structure TxOwn (B : Nat) (w : World) (V : Nat → Value) (t : TTx) : Prop where
  ver : V 0 = w32 t.ver
  verB : t.ver < 4294967296
  ins : InsOwn B w (V 1) t.ins
  outs : OutsOwn B w (V 2) t.outs
  lock : V 3 = w32 t.lock
  lockB : t.lock < 4294967296
section
variable {B B' : Nat} {w w' : World} {V : Nat → Value} {v : Value}
theorem TextOwn.at {t : List Nat} (h : TextOwn B w v t) : TextAt w v t := by
  obtain ⟨p, g, c, rfl, hl, N⟩ := h
  exact ⟨p, g, 0, c, rfl, hl, N.row⟩
theorem TextsOwn.at {ts : List (List Nat)} (h : TextsOwn B w v ts) : TextsAt w v ts := by
  obtain ⟨p, g, c, V, rfl, hl, N, hi⟩ := h
  exact ⟨p, g, 0, c, V, rfl, hl, N.row, fun i h => (hi i h).at⟩
theorem InOwn.at {t : TIn} (h : InOwn B w V t) : InCells w V t := ⟨h.len, h.idB, h.id, h.idx, h.idxB, h.sc.at, h.sq, h.sqB, h.wit.at⟩
theorem OutOwn.at {t : TOut} (h : OutOwn B w V t) : OutCells w V t := ⟨h.val, h.valB, h.sc.at⟩
theorem InsOwn.at {ts : List TIn} (h : InsOwn B w v ts) : InsAt w v ts := by
  obtain ⟨p, g, c, V, rfl, hl, N, hi⟩ := h
  exact ⟨p, g, 0, c, V, rfl, hl, N.row, fun i h => (hi i h).at⟩
theorem OutsOwn.at {ts : List TOut} (h : OutsOwn B w v ts) : OutsAt w v ts := by
  obtain ⟨p, g, c, V, rfl, hl, N, hi⟩ := h
  exact ⟨p, g, 0, c, V, rfl, hl, N.row, fun i h => (hi i h).at⟩
theorem TxOwn.at {t : TTx} (h : TxOwn B w V t) : TxCells w V t := ⟨h.ver, h.verB, h.ins.at, h.outs.at, h.lock, h.lockB⟩
theorem TextOwn.keep {T : TypeId} {t : List Nat} (h : TextOwn B w v t) (k : KeepT T w w') (hT : (5 : TypeId) ≠ T) : TextOwn B w' v t := by
  obtain ⟨p, g, c, rfl, hl, N⟩ := h
  exact ⟨p, g, c, rfl, hl, ownsRow_keep N.own k hT, N.spot, N.byte, Nat.le_trans N.low k.size⟩
theorem VOwn.keep {T T' k' : Nat} {p : Option Addr} {g n c : Nat} (h : VOwn T' k' B w p g n c V) (k : KeepT T w w') (hT : T' ≠ T) : VOwn T' k' B w' p g n c V := ⟨ownsRow_keep h.own k hT, h.spot, h.one, Nat.le_trans h.low k.size⟩
theorem TextsOwn.keep {T : TypeId} {ts : List (List Nat)} (h : TextsOwn B w v ts) (k : KeepT T w w') (hT : (5 : TypeId) ≠ T) (hT2 : 31 ≠ T) : TextsOwn B w' v ts := by
  obtain ⟨p, g, c, V, rfl, hl, N, hi⟩ := h
  exact ⟨p, g, c, V, rfl, hl, N.keep k hT2, fun i h => (hi i h).keep k hT⟩
theorem InOwn.keep {T : TypeId} {t : TIn} (h : InOwn B w V t) (k : KeepT T w w') (hT : (5 : TypeId) ≠ T) (hT2 : 31 ≠ T) : InOwn B w' V t := ⟨h.len, h.idB, h.id, h.idx, h.idxB, h.sc.keep k hT, h.sq, h.sqB, h.wit.keep k hT hT2⟩
theorem OutOwn.keep {T : TypeId} {t : TOut} (h : OutOwn B w V t) (k : KeepT T w w') (hT : (5 : TypeId) ≠ T) : OutOwn B w' V t := ⟨h.val, h.valB, h.sc.keep k hT⟩
theorem TextOwn.mono {t : List Nat} (h : TextOwn B w v t) (hB : B' ≤ B) : TextOwn B' w v t := by
  obtain ⟨p, g, c, rfl, hl, N⟩ := h
  exact ⟨p, g, c, rfl, hl, N.mono hB⟩
theorem TextsOwn.mono {ts : List (List Nat)} (h : TextsOwn B w v ts) (hB : B' ≤ B) : TextsOwn B' w v ts := by
  obtain ⟨p, g, c, V, rfl, hl, N, hi⟩ := h
  exact ⟨p, g, c, V, rfl, hl, N.mono hB, fun i h => (hi i h).mono hB⟩
theorem TextOwn.below {t : List Nat} (h : TextOwn B w v t) (hb : Below w.heap.size w w') : TextOwn B w' v t := by
  obtain ⟨p, g, c, rfl, hl, N⟩ := h
  exact ⟨p, g, c, rfl, hl, N.below hb⟩
theorem TextsOwn.below {ts : List (List Nat)} (h : TextsOwn B w v ts) (hb : Below w.heap.size w w') : TextsOwn B w' v ts := by
  obtain ⟨p, g, c, V, rfl, hl, N, hi⟩ := h
  exact ⟨p, g, c, V, rfl, hl, N.below hb, fun i h => (hi i h).below hb⟩
theorem InOwn.below {t : TIn} (h : InOwn B w V t) (hb : Below w.heap.size w w') : InOwn B w' V t := ⟨h.len, h.idB, h.id, h.idx, h.idxB, h.sc.below hb, h.sq, h.sqB, h.wit.below hb⟩
theorem OutOwn.below {t : TOut} (h : OutOwn B w V t) (hb : Below w.heap.size w w') : OutOwn B w' V t := ⟨h.val, h.valB, h.sc.below hb⟩
theorem InsOwn.below {ts : List TIn} (h : InsOwn B w v ts) (hb : Below w.heap.size w w') : InsOwn B w' v ts := by
  obtain ⟨p, g, c, V, rfl, hl, N, hi⟩ := h
  exact ⟨p, g, c, V, rfl, hl, N.below hb, fun i h => (hi i h).below hb⟩
theorem InsOwn.keep {T : TypeId} {ts : List TIn} (h : InsOwn B w v ts) (k : KeepT T w w') (hT : (5 : TypeId) ≠ T) (hT2 : 31 ≠ T) (hT3 : 64 ≠ T) : InsOwn B w' v ts := by
  obtain ⟨p, g, c, V, rfl, hl, N, hi⟩ := h
  exact ⟨p, g, c, V, rfl, hl, N.keep k hT3, fun i h => (hi i h).keep k hT hT2⟩
theorem OutsOwn.keep {T : TypeId} {ts : List TOut} (h : OutsOwn B w v ts) (k : KeepT T w w') (hT : (5 : TypeId) ≠ T) (hT3 : 66 ≠ T) : OutsOwn B w' v ts := by
  obtain ⟨p, g, c, V, rfl, hl, N, hi⟩ := h
  exact ⟨p, g, c, V, rfl, hl, N.keep k hT3, fun i h => (hi i h).keep k hT⟩
theorem OutsOwn.below {ts : List TOut} (h : OutsOwn B w v ts) (hb : Below w.heap.size w w') : OutsOwn B w' v ts := by
  obtain ⟨p, g, c, V, rfl, hl, N, hi⟩ := h
  exact ⟨p, g, c, V, rfl, hl, N.below hb, fun i h => (hi i h).below hb⟩
theorem TxOwn.below {t : TTx} (h : TxOwn B w V t) (hb : Below w.heap.size w w') : TxOwn B w' V t := ⟨h.ver, h.verB, h.ins.below hb, h.outs.below hb, h.lock, h.lockB⟩
theorem TxOwn.keep {T : TypeId} {t : TTx} (h : TxOwn B w V t) (k : KeepT T w w') (hT : (5 : TypeId) ≠ T) (hT2 : 31 ≠ T) (hT3 : 64 ≠ T) (hT4 : 66 ≠ T) : TxOwn B w' V t := ⟨h.ver, h.verB, h.ins.keep k hT hT2 hT3, h.outs.keep k hT hT4, h.lock, h.lockB⟩
theorem InOwn.mono {t : TIn} (h : InOwn B w V t) (hB : B' ≤ B) : InOwn B' w V t := ⟨h.len, h.idB, h.id, h.idx, h.idxB, h.sc.mono hB, h.sq, h.sqB, h.wit.mono hB⟩
theorem OutOwn.mono {t : TOut} (h : OutOwn B w V t) (hB : B' ≤ B) : OutOwn B' w V t := ⟨h.val, h.valB, h.sc.mono hB⟩
theorem OutsOwn.mono {ts : List TOut} (h : OutsOwn B w v ts) (hB : B' ≤ B) : OutsOwn B' w v ts := by
  obtain ⟨p, g, c, V, rfl, hl, N, hi⟩ := h
  exact ⟨p, g, c, V, rfl, hl, N.mono hB, fun i h => (hi i h).mono hB⟩
theorem InsOwn.mono {ts : List TIn} (h : InsOwn B w v ts) (hB : B' ≤ B) : InsOwn B' w v ts := by
  obtain ⟨p, g, c, V, rfl, hl, N, hi⟩ := h
  exact ⟨p, g, c, V, rfl, hl, N.mono hB, fun i h => (hi i h).mono hB⟩
theorem Wb.textOwn {w0 : World} {l : List (Nat × TypeId × Array Value)} {p : Option Addr} {g c : Nat} {zs t : List Nat} (K : Wb w0 l p g c zs w) (h : zs = t) (hl : t.length ≤ 140737488351232) : TextOwn w0.heap.size w (.slice p zs.length c) t := by
  subst h
  exact ⟨p, g, c, rfl, hl, K.own⟩
end
section
variable {ops : Array Oper} {rest : List Oper} {Q : Exit → Act → World → Prop} {op : Oper} {a : Act} {w w0 : World} {l : List (Nat × TypeId × Array Value)}
theorem wpList_bs0 (hw : Region.wanted op (yielded ops a.tmps) = true) (ho : op.op = .buildSlice 31 0 #[]) (E : Hid (Mem w0 l w)) (nb : ∀ q, q ∈ l → q.2.1 ≠ 5)
    (k : ∀ p g w', Hid (Wb w0 l p g 0 [] w') → Hid (Below w.heap.size w w') → wpList Tryd.prog ops Q rest (a.put op.dst (.slice p 0 0)) w') : wpList Tryd.prog ops Q (op :: rest) a w :=
  BigFrame.wpList_want hw fun _ hK => by
    refine mo_known (.slice (some ⟨w.heap.size, 0, none⟩) 0 0) (w.alloc (.cells #[] 5)) ?_ (hK _ _ (k _ _ _ (Lib.hid (Wb.start E.out nb (own_start w (lf []) (lf_lt isB_nil)) (below_new w _))) (Lib.hid (below_new w _))))
    unfold execOp
    simp only [ho, Array.map_empty, Sem.run_bind, run_bs0 Tryd.underlying31 infoB w, Result.andThen_ok]
    rfl
/-- An append to bytes of the call's own, and what of old memory stays. -/
theorem wpList_wbl2 (hw : Region.wanted op (yielded ops a.tmps) = true) (s t : Operand) (ho : op.op = .call { callee := .builtin .append, args := #[s, t], argTypes := #[31, 31] }) {p : Option Addr} {g c : Nat} {xs : List Nat} (N : Hid (Wb w0 l p g c xs w)) {n : Nat} (hs : a.eval s = .slice p n c) (hn : n = xs.length)
    {q : Option Addr} {h o d : Nat} {ys : List Nat} (ht : a.eval t = .slice q ys.length d) (R : Hid (Row w q h o ys.length d (lf ys))) (hlen : xs.length + ys.length ≤ 140737488355328)
    (k : ∀ p' g' c' w' zs, Hid (zs = xs ++ ys) → Hid (Wb w0 l p' g' c' zs w') → wpList Tryd.prog ops Q rest (a.put op.dst (.slice p' zs.length c')) w') : wpList Tryd.prog ops Q (op :: rest) a w :=
  wpList_wb hw s t ho N hs hn ht R (by subst hn; exact hlen) fun p' g' c' w' zs e N' => k p' g' c' w' zs (Lib.hid (by rw [e.out, tl_lf])) N'
theorem mem_store_cellk (i : Nat) (E : Hid (Mem w0 l w)) (ty : TypeId) (hg : op.guard = none) (x y : Operand) (ho : op.op = .store ty x y) {b T j : Nat} {c : Array Value} {v : Value} (hx : a.eval x = .pointer (some ⟨b, j, none⟩)) (hy : a.eval y = v) (hi : l[i]? = some (b, T, c))
    (hs : (Tryd.prog.info? ty).map (·.size) = some 1) (h1 : v.cells = #[v]) (h2 : v.oneCell' = true) (hj : j < c.size)
    (h : ∀ w', Hid (Mem w0 (l.set i (b, T, c.setIfInBounds j v)) w') → Hid (KeepT T w w') → wpList Tryd.prog ops Q rest (a.put op.dst undef) w') : wpList Tryd.prog ops Q (op :: rest) a w := by
  have hg' := E.out.get (List.mem_of_getElem? hi)
  have hH : Holds b T (c.setIfInBounds j v) w (w.setCell ⟨b, j, none⟩ v) := (Holds.start hg').set rfl
  refine wpList_plain hg fun K hK => ?_
  unfold Oper.wp execOp
  simp only [ho, hx, hy, Sem.run_bind, Sem.run_pure, run_store_one hs h1 h2 (cell_of_here hg' j (Array.getElem?_eq_getElem hj)) (free_of_here hg' j), Result.andThen_ok]
  exact hK _ _ (h _ (Lib.hid (E.out.turn hi hH.here hH.only)) (Lib.hid (KeepT.of_only hg' hH.only)))
theorem mem_allocb (E : Hid (Mem w0 l w)) (T : TypeId) (hg : op.guard = none) (ho : op.op = .alloc T) {z : Value} {n : Nat} (hz : (Tryd.prog.info? T).map (fun i => (i.zero, i.size)) = some (some z, n))
    (h : ∀ b w', Hid (Mem w0 ((b, T, z.cells) :: l) w') → Hid (Below w.heap.size w w') → wpList Tryd.prog ops Q rest (a.put op.dst (.pointer (some ⟨b, 0, none⟩))) w') : wpList Tryd.prog ops Q (op :: rest) a w := by
  refine mem_known hg (.pointer (some ⟨w.heap.size, 0, none⟩)) (w.alloc (.cells z.cells T)) ?_ (h _ _ (Lib.hid (E.out.new T _)) (Lib.hid (below_new w _)))
  unfold execOp
  simp only [ho, Sem.run_bind, Instr.alloc, (zero_of_info hz).1, Result.andThen_ok]
  rfl
theorem mem_store_rowk (i : Nat) (E : Hid (Mem w0 l w)) (ty : TypeId) (hg : op.guard = none) (x y : Operand) (ho : op.op = .store ty x y) {b T : Nat} {c c' : Array Value} (hx : a.eval x = .pointer (some ⟨b, 0, none⟩)) (hy : a.eval y = .agg c') (hi : l[i]? = some (b, T, c))
    (hs : (Tryd.prog.info? ty).map (·.size) = some c'.size) (hl : c.size = c'.size) (h1 : c'.all (·.oneCell') = true)
    (h : ∀ w', Hid (Mem w0 (l.set i (b, T, c')) w') → Hid (KeepT T w w') → wpList Tryd.prog ops Q rest (a.put op.dst undef) w') : wpList Tryd.prog ops Q (op :: rest) a w := by
  have hg' := E.out.get (List.mem_of_getElem? hi)
  have ho' : Only b w (w.setRow b c') := ⟨rfl, rfl, rfl, by simp, fun k _ hk => setRow_other w b k c' hk⟩
  exact wpList_plain hg fun K hK => wp_store_row ty x y ho b c' hx hy T c hg' hs hl h1 (hK _ _ (h _ (Lib.hid (E.out.turn hi (setRow_heap w b c c' T _ hg') ho')) (Lib.hid (KeepT.of_only hg' ho'))))
end
/-- V with v at place i. -/
def ups (V : Nat → Value) (i : Nat) (v : Value) : Nat → Value := fun j => if j = i then v else V j
theorem arr_ups (n : Nat) (V : Nat → Value) (i : Nat) (v : Value) : (arr n V).setIfInBounds i v = arr n (ups V i v) := by
  apply Array.ext_getElem?
  intro j
  rw [Array.getElem?_setIfInBounds, arr_size]
  by_cases h : j < n
  · rw [arr_get n (ups V i v) j h]
    unfold ups
    by_cases e : i = j
    · subst e
      rw [if_pos rfl, if_pos h, if_pos rfl]
    · rw [if_neg e, if_neg (fun h => e h.symm), arr_get n V j h]
  · rw [Array.getElem?_eq_none (by rw [arr_size]; omega : (arr n (ups V i v)).size ≤ j)]
    by_cases e : i = j
    · subst e
      rw [if_pos rfl, if_neg h]
    · rw [if_neg e, Array.getElem?_eq_none (by rw [arr_size]; omega)]
theorem ups_at (V : Nat → Value) (i : Nat) (v : Value) : ups V i v i = v := by unfold ups; rw [if_pos rfl]
theorem ups_ne (V : Nat → Value) {i j : Nat} (v : Value) (h : j ≠ i) : ups V i v j = V j := by unfold ups; rw [if_neg h]
end Go.Proofs.YtgicnmfodbenlaaDoor
end
section
set_option linter.unusedSimpArgs false
set_option linter.unusedVariables false
set_option maxRecDepth 100000
namespace Go.Proofs.YtgicnmfodbenlaaDoor
open Go.RowKit Go.Lib Go.Sort

theorem nb_of {b T : Nat} {cs : Array Value} (hT : T ≠ 5) : ∀ q : Nat × TypeId × Array Value, q ∈ [(b, T, cs)] → q.2.1 ≠ 5 := fun q hq => by obtain rfl := List.mem_singleton.1 hq; exact hT
theorem vs_const (a : Value) : (#[a] : Array Value).toList = vs (fun _ => a) (1 * 1) := rfl
theorem arr_vs (n : Nat) (V : Nat → Value) : (arr n V).toList = vs V (1 * n) := by
  rw [Nat.one_mul, ← vs_arr]
theorem one_arr {n : Nat} {V : Nat → Value} (h : ∀ j, j < n → (V j).oneCell' = true) : ∀ i, i < 1 * n → (V i).oneCell' = true := fun i hi => h i (by omega)
theorem vcat_lo {V U : Nat → Value} {j k i x : Nat} (hi : i < j) (hx : x < k) : vcat V (j * k) U (i * k + x) = V (i * k + x) := by
  unfold vcat
  have : (i + 1) * k ≤ j * k := Nat.mul_le_mul_right k hi
  rw [Nat.add_mul] at this
  rw [if_pos (by omega)]
theorem vcat_hi {V U : Nat → Value} {j k x : Nat} : vcat V (j * k) U (j * k + x) = U x := by
  unfold vcat
  rw [if_neg (by omega)]
  congr 1
  omega
theorem InOwn.to {B : Nat} {w : World} {V U : Nat → Value} {t : TIn} (h : InOwn B w V t) (e : ∀ x, x < 36 → V x = U x) : InOwn B w U t :=
  ⟨h.len, h.idB, fun j hj => by rw [← e j (by omega)]; exact h.id j hj, by rw [← e 32 (by omega)]; exact h.idx, h.idxB, by rw [← e 33 (by omega)]; exact h.sc, by rw [← e 34 (by omega)]; exact h.sq, h.sqB, by rw [← e 35 (by omega)]; exact h.wit⟩
theorem OutOwn.to {B : Nat} {w : World} {V U : Nat → Value} {t : TOut} (h : OutOwn B w V t) (e : ∀ x, x < 2 → V x = U x) : OutOwn B w U t :=
  ⟨by rw [← e 0 (by omega)]; exact h.val, h.valB, by rw [← e 1 (by omega)]; exact h.sc⟩
theorem TextOwn.cells1 {B : Nat} {w : World} {v : Value} {t : List Nat} (h : TextOwn B w v t) : v.cells = #[v] ∧ v.oneCell' = true := by
  obtain ⟨p, g, c, rfl, _⟩ := h
  exact ⟨rfl, rfl⟩
theorem InCells.copied {W w : World} {B : Nat} {U : Nat → Value} {x : TIn} (h : InCells W U x) {a b : Value} (ha : TextOwn B w a x.sc) (hb : TextsOwn B w b x.wit) : InOwn B w (ups (ups U 33 a) 35 b) x :=
  ⟨h.len, h.idB, fun j hj => by rw [ups_ne _ _ (by omega), ups_ne _ _ (by omega)]; exact h.id j hj, by rw [ups_ne _ _ (by omega), ups_ne _ _ (by omega)]; exact h.idx, h.idxB,
   by rw [ups_ne _ _ (by omega), ups_at]; exact ha, by rw [ups_ne _ _ (by omega), ups_ne _ _ (by omega)]; exact h.sq, h.sqB, by rw [ups_at]; exact hb⟩
theorem OutCells.copied {W w : World} {B : Nat} {U : Nat → Value} {x : TOut} (h : OutCells W U x) {a : Value} (ha : TextOwn B w a x.sc) : OutOwn B w (ups U 1 a) x :=
  ⟨by rw [ups_ne _ _ (by omega)]; exact h.val, h.valB, by rw [ups_at]; exact ha⟩
theorem InCells.one_ups {W : World} {U : Nat → Value} {x : TIn} (h : InCells W U x) {a b : Value} (ha : a.oneCell' = true) (hb : b.oneCell' = true) : ∀ j, j < 36 → (ups (ups U 33 a) 35 b j).oneCell' = true := fun j hj => by
  unfold ups
  split
  · exact hb
  · split
    · exact ha
    · exact h.one j hj
theorem OutCells.one_ups {W : World} {U : Nat → Value} {x : TOut} (h : OutCells W U x) {a : Value} (ha : a.oneCell' = true) : ∀ j, j < 2 → (ups U 1 a j).oneCell' = true := fun j hj => by
  unfold ups
  split
  · exact ha
  · obtain rfl : j = 0 := by omega
    rw [h.val]
    rfl
theorem all_of {n : Nat} {V : Nat → Value} (h : ∀ j, j < n → (V j).oneCell' = true) : (arr n V).all (·.oneCell') = true := Array.all_eq_true_iff_forall_mem.2 fun v hv => by
  obtain ⟨j, hj, rfl⟩ := Array.getElem_of_mem hv
  rw [arr_size] at hj
  have e : (arr n V)[j]? = some (V j) := arr_get n V j hj
  rw [Array.getElem?_eq_getElem (by rw [arr_size]; exact hj)] at e
  injection e with e
  rw [e]
  exact h j hj

set_option maxHeartbeats 16000000 in
theorem rcopy_any {W : World} {V : Nat → Value} {t : TTx} (A : Hid (TxCells W V t)) : Calls Tryd.prog 15 #[.agg (arr 4 V)] W fun e w' => ∃ V', e = .returned (.agg (arr 4 V')) ∧ TxOwn W.heap.size w' V' t ∧ Below W.heap.size W w' := by
  have E := Lib.hid (Mem.nil W)
  obtain ⟨pi, gi, oi, ci, Vi, hvi, hci, Ri, hii⟩ := A.out.ins
  obtain ⟨po, go, oo, co, Vo, hvo, hco, Ro, hoo⟩ := A.out.outs
  have RI := Lib.hid Ri
  have RO := Lib.hid Ro
  have TI := Lib.hid hii
  have TO := Lib.hid hoo
  obtain ⟨n, hn⟩ : ∃ n, n = t.ins.length := ⟨_, rfl⟩
  obtain ⟨m, hm⟩ : ∃ m, m = t.outs.length := ⟨_, rfl⟩
  have HN := Lib.hid hn
  have HM := Lib.hid hm
  rw [← hn] at RI hvi hci
  rw [← hm] at RO hvo hco
  have c1 : (arr 4 V)[1]? = some (.slice pi n ci) := by rw [arr_get 4 V 1 (by omega), hvi]
  have c2 : (arr 4 V)[2]? = some (.slice po m co) := by rw [arr_get 4 V 2 (by omega), hvo]
  have TXO := Lib.hid (show ∀ i, i < 4 → (V i).oneCell' = true from fun i hi => by
    have h4 : i = 0 ∨ i = 1 ∨ i = 2 ∨ i = 3 := by omega
    rcases h4 with rfl | rfl | rfl | rfl
    · rw [A.out.ver]; rfl
    · rw [hvi]; rfl
    · rw [hvo]; rfl
    · rw [A.out.lock]; rfl)
  clear hn hm hvi Ri hii hvo Ro hoo
  go_enter Tryd.func15, Tryd.ntmps15
  go_wp2_with (first
    | (refine mem_box E 44 rfl _ rfl rfl (arr_cells' 4 V) ?_; clear E; intro b1 w1 E)
    | (refine mem_alloc E 44 rfl rfl infoTx ?_; clear E; intro b2 w2 E)
    | (refine mem_load_cell E 41 rfl (.tmp 12) rfl rfl (List.mem_cons_of_mem _ List.mem_cons_self) Tryd.underlying41 rfl c1 ?_))
  have HB : Hid (W.heap.size ≤ w2.heap.size ∧ b1 < w2.heap.size ∧ b2 < w2.heap.size) := Lib.hid ⟨E.out.below.size, E.out.lt _ (List.mem_cons_of_mem _ List.mem_cons_self), E.out.lt _ List.mem_cons_self⟩
  obtain ⟨zc, hzc⟩ : ∃ zc : Array Value, zc = (Value.agg #[.int .u32 0, .slice none 0 0, .slice none 0 0, .int .u32 0]).cells := ⟨_, rfl⟩
  have ZC : Hid (zc.size = 4) := Lib.hid (by rw [hzc]; rfl)
  rw [← hzc] at E
  clear hzc
  go_loopg [3, 15] n (fun k s i wr => ∃ (j : Nat) (p : Option Addr) (g c : Nat) (V3 : Nat → Value), j + k = n ∧ i = .int .i64 (j : Int) ∧ s = .slice p j c ∧ Hid (VOwn 64 36 w2.heap.size wr p g j c V3) ∧ Hid (∀ i (h : i < t.ins.length), i < j → InOwn w2.heap.size wr (fun x => V3 (i * 36 + x)) t.ins[i]) ∧ Hid (Mem W [(b2, 44, zc), (b1, 44, arr 4 V)] wr))
  case atStart => exact ⟨0, none, 0, 0, fun _ => undef, by omega, rfl, rfl, Lib.hid (vown_nothing _ _ _ _ _ (Nat.le_refl _)), Lib.hid (fun i _ h => absurd h (by omega)), E⟩
  case round =>
    clear E
    obtain ⟨j, p3, g3, c3, V3, hj, rfl, rfl, N3, I3, EM⟩ := hrel
    obtain ⟨kk, rfl⟩ : ∃ kk : Nat, kk = gk := ⟨_, rfl⟩
    obtain ⟨wo, rfl⟩ : ∃ wo : World, wo = wr := ⟨_, rfl⟩
    by_cases hlt : j < n
    · obtain rfl := RI.out.head (by omega)
      have ht : j < t.ins.length := by rw [← HN.out]; exact hlt
      obtain ⟨x, hx⟩ : ∃ x, x = t.ins[j] := ⟨_, rfl⟩
      have HX := Lib.hid hx
      obtain ⟨U, hU⟩ : ∃ U : Nat → Value, U = fun i => Vi (j * 36 + i) := ⟨_, rfl⟩
      have IC : Hid (InCells W U x) := Lib.hid (by rw [hx, hU]; exact TI.out j ht)
      have LD := Lib.hid (fun w' (hb : Below W.heap.size W w') => (RI.out.below hb).load (P := Tryd.prog) hlt Tryd.underlying64 rfl (by kernel_rfl))
      have ONE := Lib.hid (RI.out.arr_one hlt)
      rw [← hU] at LD ONE
      obtain ⟨ps, gs, os, cs, hvs, hcs, Rs⟩ := IC.out.sc
      obtain ⟨pw, gw, ow, cw, Vw, hvw, hcw, Rw, Tw⟩ := IC.out.wit
      have RS := Lib.hid Rs
      have RW := Lib.hid Rw
      have TW := Lib.hid Tw
      have a33 : (arr 36 U)[33]? = some (.slice ps x.sc.length cs) := by rw [arr_get 36 _ 33 (by omega), hvs]
      have LS := Lib.hid hcs
      obtain ⟨nw, hnw⟩ : ∃ nw, nw = x.wit.length := ⟨_, rfl⟩
      have HNW := Lib.hid hnw
      have HW := Lib.hid hcw
      rw [← hnw] at RW hvw
      have nw3 : nw ≤ 140737488355328 := by omega
      have a35 : Hid (U 35 = .slice pw nw cw) := Lib.hid hvw
      have E1 := Lib.hid (Mem.nil wo)
      clear hx hU hvs hcs Rs hvw hcw Rw Tw hnw
      go_wp2_with (first
        | (refine wpList_ix (k := 36) (j := j) Tryd.underlying41 (by kernel_rfl) (.tmp 13) (.tmp 15) rfl rfl rfl rfl hlt rfl ?_)
        | (refine wpList_ld 64 (.tmp 17) rfl rfl rfl (LD.out _ (EM.out.call E1.out.below).below) ?_)
        | (refine mem_alloc E1 64 rfl rfl infoIn ?_; clear E1; intro b5 w4 E1; simp only [arr_cells'] at E1)
        | (refine mem_store_row 0 E1 64 rfl (.tmp 5) (.tmp 18) rfl rfl rfl rfl (by kernel_rfl) (by simp only [arr_size]) ONE.out ?_; clear E1; intro w5 E1; simp only [List.set_cons_zero, List.set_cons_succ] at E1)
        | (refine wpList_bs0 rfl rfl E1 (nb_of (by decide)) ?_; clear E1; intro pb gb wb K HBb; clear HBb)
        | (refine mem_load_cell (Lib.hid K.out.mem) 31 rfl (.tmp 20) rfl rfl List.mem_cons_self Tryd.underlying31 rfl a33 ?_)
        | (at_builtin; refine wpList_wbl2 rfl (.tmp 19) (.tmp 21) rfl K rfl rfl rfl (Lib.hid (RS.out.below (EM.out.call K.out.mem.below).below)) (by have := LS.out; simp only [List.length_nil]; omega) ?_; clear K; intro p6 g6 c6 w6 zs Z K; have TS := Lib.hid (K.out.textOwn (by rw [Z.out]; rfl) LS.out); have E1 := Lib.hid K.out.mem; clear K Z)
        | (refine mem_store_cellk 0 E1 31 rfl (.tmp 23) (.tmp 22) rfl rfl rfl rfl (by kernel_rfl) rfl rfl (by rw [arr_size]; omega) ?_; clear E1; intro w7 E1 KT; simp only [List.set_cons_zero, List.set_cons_succ, arr_ups] at E1; replace TS := Lib.hid (TS.out.keep KT.out (by decide)); clear KT)
        | (refine mem_load_cell E1 62 rfl (.tmp 24) rfl rfl List.mem_cons_self Tryd.underlying62 rfl (by rw [arr_get 36 _ 35 (by omega), ups_ne _ _ (by omega), a35.out]) ?_))
      have TSZ := Lib.hid (show wo.heap.size ≤ w7.heap.size from E1.out.below.size)
      go_loopg [6, 27] nw (fun k s i wx => ∃ (j2 : Nat) (p : Option Addr) (g c : Nat) (V6 : Nat → Value), j2 + k = nw ∧ i = .int .i64 (j2 : Int) ∧ s = .slice p j2 c ∧ Hid (VOwn 31 1 w7.heap.size wx p g j2 c V6) ∧ Hid (∀ i (h : i < x.wit.length), i < j2 → TextOwn w7.heap.size wx (V6 i) x.wit[i]) ∧ Hid (Below w7.heap.size w7 wx))
      case atStart => exact ⟨0, none, 0, 0, fun _ => undef, by omega, rfl, rfl, Lib.hid (vown_nothing _ _ _ _ _ (Nat.le_refl _)), Lib.hid (fun i _ h => absurd h (by omega)), Lib.hid (Below.refl _ _)⟩
      case round =>
        obtain ⟨j2, p8, g8, c8, V6, hj2, rfl, rfl, N6, I6, B6⟩ := hrel
        obtain ⟨k2, rfl⟩ : ∃ k2 : Nat, k2 = gk := ⟨_, rfl⟩
        by_cases hlt2 : j2 < nw
        · obtain rfl := RW.out.head (by omega)
          have ht2 : j2 < x.wit.length := by rw [← HNW.out]; exact hlt2
          obtain ⟨y, hy⟩ : ∃ y, y = x.wit[j2] := ⟨_, rfl⟩
          have HY := Lib.hid hy
          obtain ⟨py, gy, oy, cy, hvy, hcy, Ry⟩ := TW.out j2 ht2
          rw [← hy] at hvy hcy Ry
          have BW := Lib.hid ((EM.out.call E1.out.below).below.trans (B6.out.mono ((EM.out.call E1.out.below).below.size)))
          have CC := Lib.hid ((RW.out.below BW.out).cell j2 (by omega))
          rw [hvy] at CC
          have RY := Lib.hid (Ry.below BW.out)
          have LY := Lib.hid hcy
          have E2 := Lib.hid (Mem.nil wr)
          clear hvy hcy Ry hy
          go_wp2_with (first
            | (refine wpList_ix (k := 1) (j := j2) Tryd.underlying62 (by kernel_rfl) (.tmp 25) (.tmp 27) rfl rfl rfl rfl hlt2 rfl ?_; rw [Nat.mul_one])
            | (refine wpList_ld1 31 (.tmp 29) rfl rfl rfl Tryd.underlying31 rfl CC ?_)
            | (refine wpList_bs0 rfl rfl E2 (fun _ h => by cases h) ?_; clear E2; intro pb gb wb K HBb; clear HBb)
            | (at_builtin; refine wpList_wbl2 rfl (.tmp 32) (.tmp 33) rfl K rfl rfl rfl (Lib.hid (RY.out.below K.out.mem.below)) (by have := LY.out; simp only [List.length_nil]; omega) ?_; clear K; intro p9 g9 c9 w9 z9 Z9 K; have TY := Lib.hid (K.out.textOwn (by rw [Z9.out]; rfl) LY.out); have E2 := Lib.hid K.out.mem; clear K Z9)
            | (refine wpList_vbs 62 31 1 1 rfl _ rfl (fun _ => .slice p9 z9.length c9) (fun _ _ => rfl) (by unfold maxLen; omega) (ps := #[(0, .slice p9 z9.length c9)]) (by kernel_rfl) (fun W => run_bs1v Tryd.underlying62 infoText3 _ rfl W) (vs_const _) ?_; intro p10 g10 w10 N10 hb10; replace E2 := Lib.hid (E2.out.call hb10.out); replace TY := Lib.hid (TY.out.below hb10.out); clear hb10)
            | (at_builtin; refine wpList_vapp 62 31 1 24 Tryd.underlying62 infoText3 rfl (by omega) rfl (.tmp 31) (.tmp 35) rfl rfl (Lib.hid (N6.out.below E2.out.below)) rfl (Lib.hid N10.out.row) (by unfold maxLen; omega) (by have := HW.out; have := HNW.out; omega) ?_; intro p11 g11 c11 w11 N11 hg11))
          have KT := Lib.hid (KeepT.of_grown (N6.out.below E2.out.below) hg11.out)
          have B11 := Lib.hid ((B6.out.trans (E2.out.below.mono B6.out.size)).trans ((N6.out.below E2.out.below).under hg11.out (Nat.le_refl _) (Nat.le_trans B6.out.size E2.out.below.size)))
          have I11 : Hid (∀ i (h : i < x.wit.length), i < j2 + 1 → TextOwn w7.heap.size w11 (vcat V6 (j2 * 1) (fun _ => .slice p9 z9.length c9) i) x.wit[i]) := Lib.hid (fun i h hi => by
            by_cases e : i = j2
            · subst e
              have e2 : vcat V6 (i * 1) (fun _ => Value.slice p9 z9.length c9) i = .slice p9 z9.length c9 := by unfold vcat; rw [if_neg (by omega)]
              rw [e2, ← HY.out]
              exact (TY.out.keep KT.out (by decide)).mono B6.out.size
            · have e2 : vcat V6 (j2 * 1) (fun _ => Value.slice p9 z9.length c9) i = V6 i := by unfold vcat; rw [if_pos (by omega)]
              rw [e2]
              exact ((I6.out i h (by omega)).below E2.out.below).keep KT.out (by decide))
          clear KT hg11 N10 TY
          go_roundg (nw - (j2 + 1))
          case measure => omega
          case rel => exact ⟨j2 + 1, p11, g11, c11, _, by omega, by go_num, rfl, N11, I11, B11⟩
        · obtain rfl : j2 = nw := by omega
          have WT : Hid (TextsOwn w7.heap.size wr (.slice p8 j2 c8) x.wit) := Lib.hid (by
            rw [HNW.out]
            exact ⟨p8, g8, c8, V6, rfl, HW.out, by rw [← HNW.out]; exact N6.out, fun i h => I6.out i h (by rw [HNW.out]; exact h)⟩)
          replace E1 := Lib.hid (E1.out.call B6.out)
          replace TS := Lib.hid (TS.out.below B6.out)
          clear N6 I6 B6
          go_wp2_with (first
            | (refine mem_store_cellk 0 E1 62 rfl (.tmp 39) (.tmp 38) rfl rfl rfl rfl (by kernel_rfl) rfl rfl (by rw [arr_size]; omega) ?_; clear E1; intro w12 E1 KT; simp only [List.set_cons_zero, List.set_cons_succ, arr_ups] at E1; replace TS := Lib.hid (TS.out.keep KT.out (by decide)); replace WT := Lib.hid (WT.out.keep KT.out (by decide) (by decide)); clear KT)
            | (refine mem_load_row E1 64 rfl (.tmp 5) rfl rfl List.mem_cons_self Tryd.underlying64 rfl (by simp only [arr_size]; kernel_rfl) ?_)
            | (refine wpList_vbs 41 64 36 1 rfl _ rfl (ups (ups U 33 (.slice p6 zs.length c6)) 35 (.slice p8 j2 c8)) (one_arr (IC.out.one_ups rfl rfl)) (by unfold maxLen; omega) (ps := #[(0, .agg (arr 36 (ups (ups U 33 (.slice p6 zs.length c6)) 35 (.slice p8 j2 c8))))]) (by kernel_rfl) (fun W => run_bs1 Tryd.underlying41 infoIn3 (by omega) (by omega) _ (arr_size _ _) W) (arr_vs _ _) ?_; intro p13 g13 w13 N13 hb13; replace E1 := Lib.hid (E1.out.call hb13.out); replace TS := Lib.hid (TS.out.below hb13.out); replace WT := Lib.hid (WT.out.below hb13.out); clear hb13)
            | (at_builtin; refine wpList_vapp 41 64 36 96 Tryd.underlying41 infoIn3 (arr_size _ _) (by omega) rfl (.tmp 40) (.tmp 42) rfl rfl (Lib.hid (N3.out.below E1.out.below)) rfl (Lib.hid N13.out.row) (by unfold maxLen; omega) (by omega) ?_; intro p14 g14 c14 w14 N14 hg14))
          have KT := Lib.hid (KeepT.of_grown (N3.out.below E1.out.below) hg14.out)
          have SZ := Lib.hid (show w2.heap.size ≤ w7.heap.size from Nat.le_trans N3.out.low (by have := TSZ.out; omega))
          have BU := Lib.hid ((N3.out.below E1.out.below).under hg14.out (Nat.le_refl _) (Nat.le_trans N3.out.low E1.out.below.size))
          have EM2 := Lib.hid ((EM.out.call E1.out.below).part BU.out HB.out.1 (fun q hq => by
            simp only [List.mem_cons, List.not_mem_nil, or_false] at hq
            rcases hq with rfl | rfl
            · exact HB.out.2.2
            · exact HB.out.2.1))
          have I14 : Hid (∀ i (h : i < t.ins.length), i < j + 1 → InOwn w2.heap.size w14 (fun y => vcat V3 (j * 36) (ups (ups U 33 (.slice p6 zs.length c6)) 35 (.slice p8 j2 c8)) (i * 36 + y)) t.ins[i]) := Lib.hid (fun i h hi => by
            by_cases e : i = j
            · subst e
              rw [← HX.out]
              exact (IC.out.copied ((TS.out.mono N3.out.low).keep KT.out (by decide)) ((WT.out.mono SZ.out).keep KT.out (by decide) (by decide))).to fun y hy => vcat_hi.symm
            · exact (((I3.out i h (by omega)).below E1.out.below).keep KT.out (by decide) (by decide)).to fun y hy => (vcat_lo (by omega) hy).symm)
          clear KT BU hg14 N13 E1 TS WT
          go_roundg (n - (j + 1))
          case measure => omega
          case rel => exact ⟨j + 1, p14, g14, c14, _, by omega, by go_num, rfl, N14, I14, EM2⟩
    · obtain rfl : j = n := by omega
      have INS : Hid (InsOwn w2.heap.size wo (.slice p3 j c3) t.ins) := Lib.hid (by
        rw [HN.out]
        exact ⟨p3, g3, c3, V3, rfl, by rw [← HN.out]; exact hci, by rw [← HN.out]; exact N3.out, fun i h => I3.out i h (by rw [HN.out]; exact h)⟩)
      have HBZ := Lib.hid EM.out.below.size
      clear N3 I3
      go_wp2_with (refine mem_load_cell EM 42 rfl (.tmp 45) rfl rfl (List.mem_cons_of_mem _ List.mem_cons_self) Tryd.underlying42 rfl c2 ?_)
      go_loopg [9, 48] m (fun k s i wx => ∃ (j2 : Nat) (p : Option Addr) (g c : Nat) (V6 : Nat → Value), j2 + k = m ∧ i = .int .i64 (j2 : Int) ∧ s = .slice p j2 c ∧ Hid (VOwn 66 2 wo.heap.size wx p g j2 c V6) ∧ Hid (∀ i (h : i < t.outs.length), i < j2 → OutOwn wo.heap.size wx (fun x => V6 (i * 2 + x)) t.outs[i]) ∧ Hid (Below wo.heap.size wo wx))
      case atStart => exact ⟨0, none, 0, 0, fun _ => undef, by omega, rfl, rfl, Lib.hid (vown_nothing _ _ _ _ _ (Nat.le_refl _)), Lib.hid (fun i _ h => absurd h (by omega)), Lib.hid (Below.refl _ _)⟩
      case round =>
        obtain ⟨j2, p8, g8, c8, V6, hj2, rfl, rfl, N6, I6, B6⟩ := hrel
        obtain ⟨k2, rfl⟩ : ∃ k2 : Nat, k2 = gk := ⟨_, rfl⟩
        by_cases hlt2 : j2 < m
        · obtain rfl := RO.out.head (by omega)
          have ht2 : j2 < t.outs.length := by rw [← HM.out]; exact hlt2
          obtain ⟨x, hx⟩ : ∃ x, x = t.outs[j2] := ⟨_, rfl⟩
          have HX := Lib.hid hx
          obtain ⟨U, hU⟩ : ∃ U : Nat → Value, U = fun i => Vo (j2 * 2 + i) := ⟨_, rfl⟩
          have OC : Hid (OutCells W U x) := Lib.hid (by rw [hx, hU]; exact TO.out j2 ht2)
          have LD := Lib.hid (fun w' (hb : Below W.heap.size W w') => (RO.out.below hb).load (P := Tryd.prog) hlt2 Tryd.underlying66 rfl (by kernel_rfl))
          have ONE := Lib.hid (RO.out.arr_one hlt2)
          rw [← hU] at LD ONE
          obtain ⟨ps, gs, os, cs, hvs, hcs, Rs⟩ := OC.out.sc
          have RS := Lib.hid Rs
          have a1 : (arr 2 U)[1]? = some (.slice ps x.sc.length cs) := by rw [arr_get 2 _ 1 (by omega), hvs]
          have LS := Lib.hid hcs
          have BW := Lib.hid (EM.out.below.trans (B6.out.mono EM.out.below.size))
          have E1 := Lib.hid (Mem.nil wr)
          clear hx hU hvs hcs Rs
          go_wp2_with (first
            | (refine wpList_ix (k := 2) (j := j2) Tryd.underlying42 (by kernel_rfl) (.tmp 46) (.tmp 48) rfl rfl rfl rfl hlt2 rfl ?_)
            | (refine wpList_ld 66 (.tmp 50) rfl rfl rfl (LD.out _ (BW.out.trans (E1.out.below.mono BW.out.size))) ?_)
            | (refine mem_alloc E1 66 rfl rfl infoOut ?_; clear E1; intro b5 w4 E1)
            | (refine mem_store_row 0 E1 66 rfl (.tmp 11) (.tmp 51) rfl rfl rfl rfl (by kernel_rfl) (by rw [arr_size]; rfl) ONE.out ?_; clear E1; intro w5 E1; simp only [List.set_cons_zero, List.set_cons_succ] at E1)
            | (refine wpList_bs0 rfl rfl E1 (nb_of (by decide)) ?_; clear E1; intro pb gb wb K HBb; clear HBb)
            | (refine mem_load_cell (Lib.hid K.out.mem) 31 rfl (.tmp 53) rfl rfl List.mem_cons_self Tryd.underlying31 rfl a1 ?_)
            | (at_builtin; refine wpList_wbl2 rfl (.tmp 52) (.tmp 54) rfl K rfl rfl rfl (Lib.hid (RS.out.below (BW.out.trans (K.out.mem.below.mono BW.out.size)))) (by have := LS.out; simp only [List.length_nil]; omega) ?_; clear K; intro p6 g6 c6 w6 zs Z K; have TS := Lib.hid (K.out.textOwn (by rw [Z.out]; rfl) LS.out); have E1 := Lib.hid K.out.mem; clear K Z)
            | (refine mem_store_cellk 0 E1 31 rfl (.tmp 56) (.tmp 55) rfl rfl rfl rfl (by kernel_rfl) rfl rfl (by rw [arr_size]; omega) ?_; clear E1; intro w7 E1 KT; simp only [List.set_cons_zero, List.set_cons_succ, arr_ups] at E1; replace TS := Lib.hid (TS.out.keep KT.out (by decide)); clear KT)
            | (refine mem_load_row E1 66 rfl (.tmp 11) rfl rfl List.mem_cons_self Tryd.underlying66 rfl (by simp only [arr_size]; kernel_rfl) ?_)
            | (refine wpList_vbs 42 66 2 1 rfl _ rfl (ups U 1 (.slice p6 zs.length c6)) (one_arr (OC.out.one_ups rfl)) (by unfold maxLen; omega) (ps := #[(0, .agg (arr 2 (ups U 1 (.slice p6 zs.length c6))))]) (by kernel_rfl) (fun W => run_bs1 Tryd.underlying42 infoOut3 (by omega) (by omega) _ (arr_size _ _) W) (arr_vs _ _) ?_; intro p13 g13 w13 N13 hb13; replace E1 := Lib.hid (E1.out.call hb13.out); replace TS := Lib.hid (TS.out.below hb13.out); clear hb13)
            | (at_builtin; refine wpList_vapp 42 66 2 32 Tryd.underlying42 infoOut3 rfl (by omega) rfl (.tmp 57) (.tmp 59) rfl rfl (Lib.hid (N6.out.below E1.out.below)) rfl (Lib.hid N13.out.row) (by unfold maxLen; omega) (by omega) ?_; intro p14 g14 c14 w14 N14 hg14))
          have KT := Lib.hid (KeepT.of_grown (N6.out.below E1.out.below) hg14.out)
          have B14 := Lib.hid ((B6.out.trans (E1.out.below.mono B6.out.size)).trans ((N6.out.below E1.out.below).under hg14.out (Nat.le_refl _) (Nat.le_trans B6.out.size E1.out.below.size)))
          have I14 : Hid (∀ i (h : i < t.outs.length), i < j2 + 1 → OutOwn wo.heap.size w14 (fun y => vcat V6 (j2 * 2) (ups U 1 (.slice p6 zs.length c6)) (i * 2 + y)) t.outs[i]) := Lib.hid (fun i h hi => by
            by_cases e : i = j2
            · subst e
              rw [← HX.out]
              exact (OC.out.copied ((TS.out.mono B6.out.size).keep KT.out (by decide))).to fun y hy => vcat_hi.symm
            · exact (((I6.out i h (by omega)).below E1.out.below).keep KT.out (by decide)).to fun y hy => (vcat_lo (by omega) hy).symm)
          clear KT hg14 N13 E1 TS
          go_roundg (m - (j2 + 1))
          case measure => omega
          case rel => exact ⟨j2 + 1, p14, g14, c14, _, by omega, by go_num, rfl, N14, I14, B14⟩
        · obtain rfl : j2 = m := by omega
          have OUTS : Hid (OutsOwn wo.heap.size wr (.slice p8 j2 c8) t.outs) := Lib.hid (by
            rw [HM.out]
            exact ⟨p8, g8, c8, V6, rfl, by rw [← HM.out]; exact hco, by rw [← HM.out]; exact N6.out, fun i h => I6.out i h (by rw [HM.out]; exact h)⟩)
          replace EM := Lib.hid (EM.out.call B6.out)
          replace INS := Lib.hid (INS.out.below B6.out)
          have SZ := Lib.hid (show W.heap.size ≤ wo.heap.size ∧ W.heap.size ≤ w2.heap.size from ⟨HBZ.out, HB.out.1⟩)
          clear N6 I6 B6
          go_wp2_with (first
            | (refine mem_store_cellk 1 EM 41 rfl (.tmp 64) (.tmp 62) rfl rfl rfl rfl (by kernel_rfl) rfl rfl (by rw [arr_size]; omega) ?_; clear EM; intro w12 EM KT; simp only [List.set_cons_zero, List.set_cons_succ, arr_ups] at EM; replace INS := Lib.hid (INS.out.keep KT.out (by decide) (by decide) (by decide)); replace OUTS := Lib.hid (OUTS.out.keep KT.out (by decide) (by decide)); clear KT)
            | (refine mem_store_cellk 1 EM 42 rfl (.tmp 65) (.tmp 63) rfl rfl rfl rfl (by kernel_rfl) rfl rfl (by rw [arr_size]; omega) ?_; clear EM; intro w13 EM KT; simp only [List.set_cons_zero, List.set_cons_succ, arr_ups] at EM; replace INS := Lib.hid (INS.out.keep KT.out (by decide) (by decide) (by decide)); replace OUTS := Lib.hid (OUTS.out.keep KT.out (by decide) (by decide)); clear KT)
            | (refine mem_load_row EM 44 rfl (.tmp 1) rfl rfl (List.mem_cons_of_mem _ List.mem_cons_self) Tryd.underlying44 rfl (by simp only [arr_size]; kernel_rfl) ?_)
            | (refine mem_store_rowk 0 EM 44 rfl (.tmp 2) (.tmp 66) rfl rfl rfl rfl (by kernel_rfl) (by rw [arr_size]; exact ZC.out) (all_of (fun i hi => by
                unfold ups
                split
                · rfl
                · split
                  · rfl
                  · exact TXO.out i hi)) ?_; clear EM; intro w14 EM KT; simp only [List.set_cons_zero, List.set_cons_succ] at EM; replace INS := Lib.hid (INS.out.keep KT.out (by decide) (by decide) (by decide)); replace OUTS := Lib.hid (OUTS.out.keep KT.out (by decide) (by decide)); clear KT))
          refine bodyPost_ret (results_cell_row (fn := Tryd.f15) rfl _ _ b2 44 _ (0, 0) _ rfl (EM.out.get List.mem_cons_self) Tryd.underlying44 rfl (by rw [arr_size]; kernel_rfl)) rfl ⟨_, rfl, ?_, EM.out.below⟩
          exact ⟨by rw [ups_ne _ _ (by omega), ups_ne _ _ (by omega)]; exact A.out.ver, A.out.verB, by rw [ups_ne _ _ (by omega), ups_at]; exact INS.out.mono SZ.out.2, by rw [ups_at]; exact OUTS.out.mono SZ.out.1, by rw [ups_ne _ _ (by omega), ups_ne _ _ (by omega)]; exact A.out.lock, A.out.lockB⟩
end Go.Proofs.YtgicnmfodbenlaaDoor
end
