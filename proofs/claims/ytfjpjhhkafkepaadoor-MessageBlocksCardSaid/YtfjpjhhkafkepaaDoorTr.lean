/- A transaction written, the document's. -/
import Derived.Test.YtfjpjhhkafkepaaDoorTg
import Derived.Test.YtfjpjhhkafkepaaDoorTh
set_option linter.unusedSimpArgs false
set_option linter.unusedVariables false
set_option maxRecDepth 100000
namespace Go.Proofs.YtfjpjhhkafkepaaDoor
open Go.RowKit Go.Lib Go.Sort

theorem inB_length {x : TIn} (h : x.id.length = 32) : (inB x).length = 32 + 4 + (text x.sc).length + 4 := by
  unfold inB
  simp only [List.length_append, low_length, h]
theorem outB_length (x : TOut) : (outB x).length = 8 + (text x.sc).length := by
  unfold outB
  simp only [List.length_append, low_length]
theorem witB_length (x : TIn) : (witB x).length = (cnt x.wit.length).length + ((x.wit.map text).flatten).length := by
  unfold witB listB
  rw [List.length_append]
theorem low4 (n : Nat) (w : World) : Calls Tryd.prog 22 #[.int .u64 ((n : Nat) : Int), .int .i64 4] w (GetsL w (low n 4)) := (low_any n 4 (by omega) w).mono fun _ _ h => h.l
theorem low8 (n : Nat) (w : World) : Calls Tryd.prog 22 #[.int .u64 ((n : Nat) : Int), .int .i64 8] w (GetsL w (low n 8)) := (low_any n 8 (by omega) w).mono fun _ _ h => h.l
theorem rcnt_any (n : Nat) (w : World) : Calls Tryd.prog 11 #[.int .u64 ((n : Nat) : Int)] w (GetsL w (cnt n)) := (ref_encode_any n w).mono fun _ _ h => h.l
theorem rtext_any {w : World} {v : Value} {t : List Nat} (A : Hid (TextAt w v t)) : Calls Tryd.prog 25 #[v] w (GetsL w (text t)) := by
  have hn := A.out.len
  obtain ⟨p, g, o, c, rfl, hc, R⟩ := A.out
  rw [← tl_txt]
  exact (ref_text_any (Lib.hid R) hn).mono fun _ _ h => h.l
theorem exec_cv {o : Oper} {ev : Operand → Value} {W : World} {S : TypeId} {x : Operand} {k : IntKind} {n r : Int} (ho : o.op = .convert S 36 x) (hx : ev x = .int k n) (hr : (Tryd.prog.underlying S).isSome = true ∧ IntKind.u64.wrap n = r) : (execOp ev o).run Tryd.prog W = .ok (.value (.int .u64 r)) W := by
  have hk : Tryd.prog.intKind 36 = .u64 := by kernel_rfl
  have h := run_convert_int (P := Tryd.prog) W S 36 k n hr.1 (by rw [hk]; exact Tryd.underlying36)
  rw [hk, hr.2] at h
  unfold execOp
  simp only [ho, hx, Sem.run_bind, h, Result.andThen_ok]
  rfl
theorem wp_region_wb {P : Program} {ops : Array Oper} {Q : Exit → Act → World → Prop} {S : World → Prop} {w0 w : World} {l : List (Nat × TypeId × Array Value)} {g c : Nat} {p : Option Addr} {xs : List Nat} {id : Nat} {a : Act} (K : Hid (Wb w0 l p g c xs w)) (hm : P.follows .mixedOrders = true)
    (h : ∀ w', Hid (Wb w0 l p g c xs w') → wpAnyH P .any ops Q S ops.size (Array.replicate ops.size false) a w') : (Code.region id ops true).wp P Q a w :=
  wp_region_held hm (h _ (Lib.hid ⟨⟨⟨K.out.mem.below.os, K.out.mem.below.tape, K.out.mem.below.output, K.out.mem.below.size, K.out.mem.below.block⟩, K.out.mem.has, K.out.mem.nd, K.out.mem.ge⟩, ⟨K.out.own.own, K.out.own.spot, K.out.own.byte, K.out.own.low⟩, K.out.nb⟩))
section
variable {Q : Exit → Act → World → Prop} {op : Oper} {a : Act} {w w0 : World} {l : List (Nat × TypeId × Array Value)} {K : Act → World → Prop} {ops : Array Oper} {rest : List Oper} {g c : Nat} {p : Option Addr} {xs : List Nat}
theorem mo_wbl (s t : Operand) (ho : op.op = .call { callee := .builtin .append, args := #[s, t], argTypes := #[30, 30] }) (N : Hid (Wb w0 l p g c xs w)) {n : Nat} (hs : a.eval s = .slice p n c) (hn : n = xs.length)
    {q : Option Addr} {h o d : Nat} {ys : List Nat} (ht : a.eval t = .slice q ys.length d) (R : Hid (Row w q h o ys.length d (lf ys))) (hlen : xs.length + ys.length ≤ 140737488355328)
    (k : ∀ p' g' c' w' zs, Hid (zs = xs ++ ys) → Hid (Wb w0 l p' g' c' zs w') → K (a.put op.dst (.slice p' zs.length c')) w') : op.wp Tryd.prog a w K Q :=
  mo_wb s t ho N hs hn ht R (by subst hn; exact hlen) fun p' g' c' w' zs e N' => k p' g' c' w' zs (Lib.hid (by rw [e.out, tl_lf])) N'
theorem wpList_wbl (hw : Region.wanted op (yielded ops a.tmps) = true) (s t : Operand) (ho : op.op = .call { callee := .builtin .append, args := #[s, t], argTypes := #[30, 30] }) (N : Hid (Wb w0 l p g c xs w)) {n : Nat} (hs : a.eval s = .slice p n c) (hn : n = xs.length)
    {q : Option Addr} {h o d : Nat} {ys : List Nat} (ht : a.eval t = .slice q ys.length d) (R : Hid (Row w q h o ys.length d (lf ys))) (hlen : xs.length + ys.length ≤ 140737488355328)
    (k : ∀ p' g' c' w' zs, Hid (zs = xs ++ ys) → Hid (Wb w0 l p' g' c' zs w') → wpList Tryd.prog ops Q rest (a.put op.dst (.slice p' zs.length c')) w') : wpList Tryd.prog ops Q (op :: rest) a w :=
  BigFrame.wpList_want hw fun _ hK => mo_wbl s t ho N hs hn ht R hlen fun p' g' c' w' zs e N' => hK _ _ (k p' g' c' w' zs e N')
end

set_option maxHeartbeats 4000000 in
theorem rtxenc_bad {W : World} {V : Nat → Value} {t : TTx} (A : Hid (TxCells W V t)) (hc : canB t = false) (b m : Bool) : Calls Tryd.prog 12 #[.agg (arr 4 V), .bool b] W (Enc W t m) := by
  have E := Lib.hid (Mem.nil W)
  have AT : TxAt W (.agg (arr 4 V)) t := ⟨V, rfl, A.out⟩
  have CAN := Lib.hid (show ∀ w', Below W.heap.size W w' → Calls Tryd.prog 23 #[.agg (arr 4 V)] w' fun e w'' => e = .returned (.bool false) ∧ Below w'.heap.size w' w'' from fun w' hb => by
    have := rcan_any (Lib.hid (AT.below hb))
    rwa [hc] at this)
  have HC := Lib.hid hc
  clear A AT hc
  go_enter Tryd.func12, Tryd.ntmps12
  go_wp2_with (first
    | (refine mem_box E 58 rfl _ rfl rfl (arr_cells' 4 V) ?_; clear E; intro b2 w2 E)
    | (refine mem_load_row E 58 rfl (.tmp 2) rfl rfl List.mem_cons_self Tryd.underlying58 rfl (by simp only [arr_size]; kernel_rfl) ?_)
    | (go_at_call 23; refine (CAN.out _ E.out.below).mono ?_; rintro e w3 ⟨rfl, hb⟩; replace E := Lib.hid (E.out.call hb); clear hb))
  refine bodyPost_ret (res2 (fn := Tryd.f12) rfl _ _) rfl ?_
  unfold Enc
  rw [HC.out]
  exact ⟨rfl, E.out.below⟩

set_option maxHeartbeats 16000000 in
theorem rtxenc_bare {W : World} {V : Nat → Value} {t : TTx} (A : Hid (TxCells W V t)) (hc : canB t = true) : Calls Tryd.prog 12 #[.agg (arr 4 V), .bool false] W (Enc W t false) := by
  have E := Lib.hid (Mem.nil W)
  have AT : TxAt W (.agg (arr 4 V)) t := ⟨V, rfl, A.out⟩
  have c0 : (arr 4 V)[0]? = some (.int .u32 ((t.ver : Nat) : Int)) := by rw [arr_get 4 V 0 (by omega), A.out.ver]; rfl
  have c3 : (arr 4 V)[3]? = some (.int .u32 ((t.lock : Nat) : Int)) := by rw [arr_get 4 V 3 (by omega), A.out.lock]; rfl
  have cw0 : IntKind.u64.wrap (t.ver : Int) = (t.ver : Int) := wrap_u32 A.out.verB
  have cw3 : IntKind.u64.wrap (t.lock : Int) = (t.lock : Int) := wrap_u32 A.out.lockB
  have HC := Lib.hid hc
  have CF := can_facts hc
  have BD0 := Lib.hid (parts_le CF A.out.idlen)
  have CAN := Lib.hid (show ∀ w', Below W.heap.size W w' → Calls Tryd.prog 23 #[.agg (arr 4 V)] w' fun e w'' => e = .returned (.bool true) ∧ Below w'.heap.size w' w'' from fun w' hb => by
    have := rcan_any (Lib.hid (AT.below hb))
    rwa [hc] at this)
  obtain ⟨pi, gi, oi, ci, Vi, hvi, hci, Ri, hii⟩ := A.out.ins
  obtain ⟨po, go, oo, co, Vo, hvo, hco, Ro, hoo⟩ := A.out.outs
  have RI := Lib.hid Ri
  have RO := Lib.hid Ro
  have TI := Lib.hid hii
  have TO := Lib.hid hoo
  have n0 := CF.n0
  have N1 := CF.n1
  have M1 := CF.m1
  have SI := Lib.hid (show ∀ j, j ≤ t.ins.length → (fl (t.ins.map inB) j).length ≤ ((t.ins.map inB).flatten).length from fun j hj => by
    rw [← fl_all, fl_length, fl_length]; exact sm_le _ (by rw [List.length_map]; exact hj))
  have SO := Lib.hid (show ∀ j, j ≤ t.outs.length → (fl (t.outs.map outB) j).length ≤ ((t.outs.map outB).flatten).length from fun j hj => by
    rw [← fl_all, fl_length, fl_length]; exact sm_le _ (by rw [List.length_map]; exact hj))
  have SW := Lib.hid (show ∀ j, j ≤ t.ins.length → (fl (t.ins.map witB) j).length ≤ ((t.ins.map witB).flatten).length from fun j hj => by
    rw [← fl_all, fl_length, fl_length]; exact sm_le _ (by rw [List.length_map]; exact hj))
  obtain ⟨n, hn⟩ : ∃ n, n = t.ins.length := ⟨_, rfl⟩
  obtain ⟨m, hm⟩ : ∃ m, m = t.outs.length := ⟨_, rfl⟩
  have HN := Lib.hid hn
  have HM := Lib.hid hm
  rw [← hn] at RI N1 SI SW n0 hvi
  rw [← hm] at RO M1 SO hvo
  have c1 : (arr 4 V)[1]? = some (.slice pi n ci) := by rw [arr_get 4 V 1 (by omega), hvi]
  have c2 : (arr 4 V)[2]? = some (.slice po m co) := by rw [arr_get 4 V 2 (by omega), hvo]
  have cwn : IntKind.u64.wrap (n : Int) = (n : Int) := by rw [IntKind.wrap_u64]; omega
  have cwm : IntKind.u64.wrap (m : Int) = (m : Int) := by rw [IntKind.wrap_u64]; omega
  have LB : Hid ((cnt n).length ≤ 9 ∧ (cnt m).length ≤ 9 ∧ ((t.ins.map inB).flatten).length ≤ 20098009 ∧ ((t.outs.map outB).flatten).length ≤ 20034009 ∧ ((t.ins.map witB).flatten).length ≤ 2001818000) := Lib.hid (by
    have h := BD0.out
    unfold listB at h
    simp only [List.length_append] at h
    have h1 := (cnt_le n).2
    have h2 := (cnt_le m).2
    omega)
  clear hn hm hvi hci Ri hii hvo hco Ro hoo A AT hc CF BD0
  go_enter Tryd.func12, Tryd.ntmps12
  go_wp2_with (first
    | (refine mem_box E 58 rfl _ rfl rfl (arr_cells' 4 V) ?_; clear E; intro b2 w2 E)
    | (refine mem_load_row E 58 rfl (.tmp 2) rfl rfl List.mem_cons_self Tryd.underlying58 rfl (by simp only [arr_size]; kernel_rfl) ?_)
    | (go_at_call 23; refine (CAN.out _ E.out.below).mono ?_; rintro e w3 ⟨rfl, hb⟩; replace E := Lib.hid (E.out.call hb); clear hb)
    | (refine mem_load_cell E 22 rfl (.tmp 23) rfl rfl List.mem_cons_self Tryd.underlying22 rfl c0 ?_)
    | (go_at_call 22; (with_reducible refine (low4 t.ver _).mono ?_); rintro e w5 ⟨p5, g5, c5, rfl, N5, hb5⟩; obtain ⟨z5, hz5⟩ : ∃ z, z = low t.ver 4 := ⟨_, rfl⟩; rw [← hz5] at N5 ⊢; have Z5 := Lib.hid hz5; have K := Lib.hid (Wb.start E.out (nb_one (by decide)) N5 hb5); clear hb5 N5 E hz5)
    | (refine mem_load_cell (Lib.hid K.out.mem) 55 rfl (.tmp 32) rfl rfl List.mem_cons_self Tryd.underlying55 rfl c1 ?_)
    | (refine mem_load_cell (Lib.hid K.out.mem) 55 rfl (.tmp 38) rfl rfl List.mem_cons_self Tryd.underlying55 rfl c1 ?_)
    | (go_at_call 11; (with_reducible refine (rcnt_any n _).mono ?_); rintro e wn7 ⟨p_n, g_n, c_n, rfl, N_n, hb_n⟩; replace K := Lib.hid (K.out.call hb_n); have R7 := Lib.hid N_n.row; clear hb_n N_n)
    | (at_builtin; refine wpList_wbl rfl (.tmp 31) (.tmp 36) rfl K rfl rfl rfl R7 (by have := LB.out; simp only [Z5.out, List.length_append, low_length, List.length_cons, List.length_nil]; omega) ?_; clear K; intro p7 g7 c7 w7 z7 Z7 K))
  have Z7' : Hid (z7 = low t.ver 4 ++ cnt n) := Lib.hid (by rw [Z7.out, Z5.out])
  clear Z5  Z7
  go_loopg [6, 41] n (fun k s i wr => ∃ (j : Nat) (p : Option Addr) (g c : Nat) (zs : List Nat), j + k = n ∧ i = .int .i64 (j : Int) ∧ s = .slice p zs.length c ∧ Hid (zs = z7 ++ fl (t.ins.map inB) j) ∧ Hid (Wb W [(b2, 58, arr 4 V)] p g c zs wr))
  case atStart => exact ⟨0, p7, g7, c7, z7, by omega, rfl, rfl, Lib.hid (by simp [fl]), K⟩
  case round =>
    clear K
    obtain ⟨j, p, g, c, zs, hj, rfl, rfl, Z, K⟩ := hrel
    obtain ⟨kk, rfl⟩ : ∃ kk : Nat, kk = gk := ⟨_, rfl⟩
    by_cases hlt : j < n
    · obtain rfl := RI.out.head (by omega)
      have ht : j < t.ins.length := by rw [← HN.out]; exact hlt
      obtain ⟨x, hx⟩ : ∃ x, x = t.ins[j] := ⟨_, rfl⟩
      have IC : Hid (InCells W (fun i => Vi (j * 36 + i)) x) := Lib.hid (by rw [hx]; exact TI.out j ht)
      have FS := Lib.hid (show fl (t.ins.map inB) (j + 1) = fl (t.ins.map inB) j ++ inB x by rw [fl_succ _ (by rw [List.length_map]; exact ht), List.getElem_map, hx])
      have BD : Hid (zs.length + 32 + 4 + (text x.sc).length + 4 ≤ 140737488355328) := Lib.hid (by
        have h1 := SI.out (j + 1) (by omega)
        have h2 := LB.out
        rw [FS.out, List.length_append] at h1
        rw [inB_length IC.out.len] at h1
        rw [Z.out, Z7'.out]
        simp only [List.length_append, low_length, List.length_cons, List.length_nil]
        omega)
      have IL := Lib.hid IC.out.len
      have SC := Lib.hid IC.out.sc
      obtain ⟨Vs, hVs⟩ : ∃ Vs, Vs = Vi (j * 36 + 33) := ⟨_, rfl⟩
      have SC : Hid (TextAt W Vs x.sc) := Lib.hid (by rw [hVs]; exact SC.out)
      have a32 : (arr 36 fun i => Vi (j * 36 + i))[32]? = some (.int .u32 ((x.idx : Nat) : Int)) := by rw [arr_get 36 _ 32 (by omega), IC.out.idx]; rfl
      have a33 : (arr 36 fun i => Vi (j * 36 + i))[33]? = some Vs := by rw [arr_get 36 _ 33 (by omega), hVs]
      have a34 : (arr 36 fun i => Vi (j * 36 + i))[34]? = some (.int .u32 ((x.sq : Nat) : Int)) := by rw [arr_get 36 _ 34 (by omega), IC.out.sq]; rfl
      have wr1 : Hid ((Tryd.prog.underlying 22).isSome = true ∧ IntKind.u64.wrap (x.idx : Int) = (x.idx : Int)) := Lib.hid ⟨by kernel_rfl, wrap_u32 IC.out.idxB⟩
      have wr2 : Hid ((Tryd.prog.underlying 22).isSome = true ∧ IntKind.u64.wrap (x.sq : Int) = (x.sq : Int)) := Lib.hid ⟨by kernel_rfl, wrap_u32 IC.out.sqB⟩
      clear hx hVs
      go_upto_region 11 with (first
        | (refine wpList_ix (k := 36) (j := j) Tryd.underlying55 (by kernel_rfl) (.tmp 39) (.tmp 41) rfl rfl rfl rfl hlt rfl ?_)
        | (refine wpList_ld 75 (.tmp 43) rfl rfl rfl ((RI.out.below K.out.mem.below).load hlt Tryd.underlying75 rfl (by kernel_rfl)) ?_)
        | (refine wb_alloc K 75 (by decide) rfl rfl infoIn ?_; clear K; intro b8 w4 K; simp only [arr_cells'] at K)
        | (refine wb_store_row 0 K 75 rfl (.tmp 8) (.tmp 44) rfl rfl rfl rfl (by kernel_rfl) (by simp only [arr_size]) (RI.out.arr_one hlt) ?_; clear K; intro w5 K; simp only [List.set_cons_zero, List.set_cons_succ] at K))
      refine wp_region_wb (S := fun W' => W'.heap[b8]? = some (.cells (arr 36 fun i => Vi (j * 36 + i)) 75 (0, 0))) K (by kernel_rfl) ?_
      clear K
      intro wx E1
      refine hm_run 0 45 _ rfl rfl (by kernel_rfl) (by kernel_rfl) (by kernel_rfl) (fun _ _ _ h => h) rfl (fun _ _ => rfl) (E1.out.mem.get List.mem_cons_self) ?_
      try simp only [Act.put, List.getElem_toArray, List.getElem_cons_succ, List.getElem_cons_zero, List.setIfInBounds_toArray, List.set_cons_zero, List.set_cons_succ]
      refine hm_run 1 46 (.pointer (some ⟨b8, 0, none⟩)) rfl rfl (by kernel_rfl) (by kernel_rfl) (by kernel_rfl) (fun _ _ _ h => h) rfl (fun _ _ => by kernel_rfl) (E1.out.mem.get List.mem_cons_self) ?_
      try simp only [Act.put, List.getElem_toArray, List.getElem_cons_succ, List.getElem_cons_zero, List.setIfInBounds_toArray, List.set_cons_zero, List.set_cons_succ]
      refine hm_run 2 47 (.pointer (some ⟨b8, 0, none⟩)) rfl rfl (by kernel_rfl) (by kernel_rfl) (by kernel_rfl) (fun _ _ _ h => h) rfl (fun _ _ => by kernel_rfl) (E1.out.mem.get List.mem_cons_self) ?_
      try simp only [Act.put, List.getElem_toArray, List.getElem_cons_succ, List.getElem_cons_zero, List.setIfInBounds_toArray, List.set_cons_zero, List.set_cons_succ]
      refine hm_run 3 48 (.slice (some ⟨b8, 0, none⟩) 32 32) rfl rfl (by kernel_rfl) (by kernel_rfl) (by kernel_rfl) (fun _ _ _ h => h) rfl (fun W _ => exec_sl rfl (run_hash b8 0 W)) (E1.out.mem.get List.mem_cons_self) ?_
      try simp only [Act.put, List.getElem_toArray, List.getElem_cons_succ, List.getElem_cons_zero, List.setIfInBounds_toArray, List.set_cons_zero, List.set_cons_succ]
      refine hm_run 5 50 (.pointer (some ⟨b8, 0, none⟩)) rfl rfl (by kernel_rfl) (by kernel_rfl) (by kernel_rfl) (fun _ _ _ h => h) rfl (fun _ _ => by kernel_rfl) (E1.out.mem.get List.mem_cons_self) ?_
      try simp only [Act.put, List.getElem_toArray, List.getElem_cons_succ, List.getElem_cons_zero, List.setIfInBounds_toArray, List.set_cons_zero, List.set_cons_succ]
      refine hm_run 6 51 (.pointer (some ⟨b8, 32, none⟩)) rfl rfl (by kernel_rfl) (by kernel_rfl) (by kernel_rfl) (fun _ _ _ h => h) rfl (fun _ _ => by kernel_rfl) (E1.out.mem.get List.mem_cons_self) ?_
      try simp only [Act.put, List.getElem_toArray, List.getElem_cons_succ, List.getElem_cons_zero, List.setIfInBounds_toArray, List.set_cons_zero, List.set_cons_succ]
      refine hm_run 7 52 (.int .u32 ((x.idx : Nat) : Int)) rfl rfl (by kernel_rfl) (by kernel_rfl) (by kernel_rfl) (fun _ _ _ h => h) rfl (fun W hW => exec_load rfl (run_load_one Tryd.underlying22 rfl (cell_of_here hW 32 a32))) (E1.out.mem.get List.mem_cons_self) ?_
      try simp only [Act.put, List.getElem_toArray, List.getElem_cons_succ, List.getElem_cons_zero, List.setIfInBounds_toArray, List.set_cons_zero, List.set_cons_succ]
      refine hm_run 8 53 (.int .u64 ((x.idx : Nat) : Int)) rfl rfl (by kernel_rfl) (by kernel_rfl) (by kernel_rfl) (fun _ _ _ h => h) rfl (fun W _ => exec_cv rfl rfl wr1.out) (E1.out.mem.get List.mem_cons_self) ?_
      try simp only [Act.put, List.getElem_toArray, List.getElem_cons_succ, List.getElem_cons_zero, List.setIfInBounds_toArray, List.set_cons_zero, List.set_cons_succ]
      refine hm_one (i := 4) (by kernel_rfl) ?_
      refine hm_step 4 rfl (by kernel_rfl) fun K hK => ?_
      try simp only [Act.put, List.getElem_toArray, List.getElem_cons_succ, List.getElem_cons_zero, List.setIfInBounds_toArray, List.set_cons_zero, List.set_cons_succ]
      refine mo_wb (.tmp 45) (.tmp 48) rfl E1 rfl rfl rfl (Lib.hid (IC.out.idRow (E1.out.mem.get List.mem_cons_self))) (by have := BD.out; omega) ?_
      intro p1 g1 c1 w1 z1 Z1 E8_4
      rw [IC.out.idTl] at Z1
      refine hK _ _ (E8_4.out.mem.get List.mem_cons_self) ?_
      clear hK K
      try simp only [Act.put, List.getElem_toArray, List.getElem_cons_succ, List.getElem_cons_zero, List.setIfInBounds_toArray, List.set_cons_zero, List.set_cons_succ]
      refine hm_one (i := 9) (by kernel_rfl) ?_
      refine hm_step 9 rfl (by kernel_rfl) fun K hK => ?_
      try simp only [Act.put, List.getElem_toArray, List.getElem_cons_succ, List.getElem_cons_zero, List.setIfInBounds_toArray, List.set_cons_zero, List.set_cons_succ]
      go_simp
      go_at_call 22
      refine (low4 x.idx _).mono ?_
      rintro e w_a ⟨p_a, g_a, c_a, rfl, N_a, hb_a⟩
      have E9_9 := Lib.hid (E8_4.out.call hb_a)
      have R_a := Lib.hid N_a.row
      clear hb_a N_a
      refine hK _ _ (E9_9.out.mem.get List.mem_cons_self) ?_
      clear hK K
      try simp only [Act.put, List.getElem_toArray, List.getElem_cons_succ, List.getElem_cons_zero, List.setIfInBounds_toArray, List.set_cons_zero, List.set_cons_succ]
      refine hm_one (i := 10) (by kernel_rfl) ?_
      refine hm_step 10 rfl (by kernel_rfl) fun K hK => ?_
      try simp only [Act.put, List.getElem_toArray, List.getElem_cons_succ, List.getElem_cons_zero, List.setIfInBounds_toArray, List.set_cons_zero, List.set_cons_succ]
      refine mo_wbl (.tmp 49) (.tmp 54) rfl E9_9 rfl rfl rfl R_a (by have := BD.out; have := IL.out; simp only [Z1.out, List.length_append, low_length]; omega) ?_
      intro p2 g2 c2 w2 z2 Z2 E10_10
      refine hK _ _ (E10_10.out.mem.get List.mem_cons_self) ?_
      clear hK K
      try simp only [Act.put, List.getElem_toArray, List.getElem_cons_succ, List.getElem_cons_zero, List.setIfInBounds_toArray, List.set_cons_zero, List.set_cons_succ]
      refine hm_run 11 6 _ rfl rfl (by kernel_rfl) (by kernel_rfl) (by kernel_rfl) (fun _ _ _ h => h) rfl (fun _ _ => rfl) (E10_10.out.mem.get List.mem_cons_self) ?_
      try simp only [Act.put, List.getElem_toArray, List.getElem_cons_succ, List.getElem_cons_zero, List.setIfInBounds_toArray, List.set_cons_zero, List.set_cons_succ]
      refine wpAnyH_done (by kernel_rfl) ?_ _
      clear R_a
      have K2 := E10_10
      go_upto_region 12 with fail
      refine wp_region_wb (S := fun W' => W'.heap[b8]? = some (.cells (arr 36 fun i => Vi (j * 36 + i)) 75 (0, 0))) K2 (by kernel_rfl) ?_
      intro wy E2
      refine hm_run 0 56 _ rfl rfl (by kernel_rfl) (by kernel_rfl) (by kernel_rfl) (fun _ _ _ h => h) rfl (fun _ _ => rfl) (E2.out.mem.get List.mem_cons_self) ?_
      try simp only [Act.put, List.getElem_toArray, List.getElem_cons_succ, List.getElem_cons_zero, List.setIfInBounds_toArray, List.set_cons_zero, List.set_cons_succ]
      refine hm_run 1 57 (.pointer (some ⟨b8, 33, none⟩)) rfl rfl (by kernel_rfl) (by kernel_rfl) (by kernel_rfl) (fun _ _ _ h => h) rfl (fun _ _ => by kernel_rfl) (E2.out.mem.get List.mem_cons_self) ?_
      try simp only [Act.put, List.getElem_toArray, List.getElem_cons_succ, List.getElem_cons_zero, List.setIfInBounds_toArray, List.set_cons_zero, List.set_cons_succ]
      refine hm_run 2 58 Vs rfl rfl (by kernel_rfl) (by kernel_rfl) (by kernel_rfl) (fun _ _ _ h => h) rfl (fun W hW => exec_load rfl (run_load_one Tryd.underlying30 rfl (cell_of_here hW 33 a33))) (E2.out.mem.get List.mem_cons_self) ?_
      try simp only [Act.put, List.getElem_toArray, List.getElem_cons_succ, List.getElem_cons_zero, List.setIfInBounds_toArray, List.set_cons_zero, List.set_cons_succ]
      refine hm_run 5 61 (.pointer (some ⟨b8, 34, none⟩)) rfl rfl (by kernel_rfl) (by kernel_rfl) (by kernel_rfl) (fun _ _ _ h => h) rfl (fun _ _ => by kernel_rfl) (E2.out.mem.get List.mem_cons_self) ?_
      try simp only [Act.put, List.getElem_toArray, List.getElem_cons_succ, List.getElem_cons_zero, List.setIfInBounds_toArray, List.set_cons_zero, List.set_cons_succ]
      refine hm_run 6 62 (.int .u32 ((x.sq : Nat) : Int)) rfl rfl (by kernel_rfl) (by kernel_rfl) (by kernel_rfl) (fun _ _ _ h => h) rfl (fun W hW => exec_load rfl (run_load_one Tryd.underlying22 rfl (cell_of_here hW 34 a34))) (E2.out.mem.get List.mem_cons_self) ?_
      try simp only [Act.put, List.getElem_toArray, List.getElem_cons_succ, List.getElem_cons_zero, List.setIfInBounds_toArray, List.set_cons_zero, List.set_cons_succ]
      refine hm_run 7 63 (.int .u64 ((x.sq : Nat) : Int)) rfl rfl (by kernel_rfl) (by kernel_rfl) (by kernel_rfl) (fun _ _ _ h => h) rfl (fun W _ => exec_cv rfl rfl wr2.out) (E2.out.mem.get List.mem_cons_self) ?_
      try simp only [Act.put, List.getElem_toArray, List.getElem_cons_succ, List.getElem_cons_zero, List.setIfInBounds_toArray, List.set_cons_zero, List.set_cons_succ]
      refine hm_one (i := 3) (by kernel_rfl) ?_
      refine hm_step 3 rfl (by kernel_rfl) fun K hK => ?_
      try simp only [Act.put, List.getElem_toArray, List.getElem_cons_succ, List.getElem_cons_zero, List.setIfInBounds_toArray, List.set_cons_zero, List.set_cons_succ]
      go_simp
      go_at_call 25
      refine (rtext_any (Lib.hid (SC.out.below E2.out.mem.below))).mono ?_
      rintro e w_a ⟨p_a, g_a, c_a, rfl, N_a, hb_a⟩
      have E6_3 := Lib.hid (E2.out.call hb_a)
      have R_a := Lib.hid N_a.row
      clear hb_a N_a
      refine hK _ _ (E6_3.out.mem.get List.mem_cons_self) ?_
      clear hK K
      try simp only [Act.put, List.getElem_toArray, List.getElem_cons_succ, List.getElem_cons_zero, List.setIfInBounds_toArray, List.set_cons_zero, List.set_cons_succ]
      refine hm_one (i := 4) (by kernel_rfl) ?_
      refine hm_step 4 rfl (by kernel_rfl) fun K hK => ?_
      try simp only [Act.put, List.getElem_toArray, List.getElem_cons_succ, List.getElem_cons_zero, List.setIfInBounds_toArray, List.set_cons_zero, List.set_cons_succ]
      refine mo_wbl (.tmp 56) (.tmp 59) rfl E6_3 rfl rfl rfl R_a (by have := BD.out; have := IL.out; simp only [Z2.out, Z1.out, List.length_append, low_length]; omega) ?_
      intro p3 g3 c3 w3 z3 Z3 E7_4
      refine hK _ _ (E7_4.out.mem.get List.mem_cons_self) ?_
      clear hK K
      try simp only [Act.put, List.getElem_toArray, List.getElem_cons_succ, List.getElem_cons_zero, List.setIfInBounds_toArray, List.set_cons_zero, List.set_cons_succ]
      refine hm_one (i := 8) (by kernel_rfl) ?_
      refine hm_step 8 rfl (by kernel_rfl) fun K hK => ?_
      try simp only [Act.put, List.getElem_toArray, List.getElem_cons_succ, List.getElem_cons_zero, List.setIfInBounds_toArray, List.set_cons_zero, List.set_cons_succ]
      clear R_a
      go_simp
      go_at_call 22
      refine (low4 x.sq _).mono ?_
      rintro e w_a ⟨p_a, g_a, c_a, rfl, N_a, hb_a⟩
      have E8_8 := Lib.hid (E7_4.out.call hb_a)
      have R_a := Lib.hid N_a.row
      clear hb_a N_a
      refine hK _ _ (E8_8.out.mem.get List.mem_cons_self) ?_
      clear hK K
      try simp only [Act.put, List.getElem_toArray, List.getElem_cons_succ, List.getElem_cons_zero, List.setIfInBounds_toArray, List.set_cons_zero, List.set_cons_succ]
      refine hm_one (i := 9) (by kernel_rfl) ?_
      refine hm_step 9 rfl (by kernel_rfl) fun K hK => ?_
      try simp only [Act.put, List.getElem_toArray, List.getElem_cons_succ, List.getElem_cons_zero, List.setIfInBounds_toArray, List.set_cons_zero, List.set_cons_succ]
      refine mo_wbl (.tmp 60) (.tmp 64) rfl E8_8 rfl rfl rfl R_a (by have := BD.out; have := IL.out; simp only [Z3.out, Z2.out, Z1.out, List.length_append, low_length]; omega) ?_
      intro p4 g4 c4 w4 z4 Z4 E9_9
      refine hK _ _ (E9_9.out.mem.get List.mem_cons_self) ?_
      clear hK K
      try simp only [Act.put, List.getElem_toArray, List.getElem_cons_succ, List.getElem_cons_zero, List.setIfInBounds_toArray, List.set_cons_zero, List.set_cons_succ]
      refine hm_run 10 6 _ rfl rfl (by kernel_rfl) (by kernel_rfl) (by kernel_rfl) (fun _ _ _ h => h) rfl (fun _ _ => rfl) (E9_9.out.mem.get List.mem_cons_self) ?_
      try simp only [Act.put, List.getElem_toArray, List.getElem_cons_succ, List.getElem_cons_zero, List.setIfInBounds_toArray, List.set_cons_zero, List.set_cons_succ]
      refine wpAnyH_done (by kernel_rfl) ?_ _
      go_wp2_with fail
      go_roundg (n - (j + 1))
      case measure => omega
      case rel => exact ⟨j + 1, p4, g4, c4, z4, by omega, by go_num, rfl, Lib.hid (by rw [Z4.out, Z3.out, Z2.out, Z1.out, Z.out, FS.out]; unfold inB; simp only [List.append_assoc]), Lib.hid E9_9.out.tail⟩
    · obtain rfl : j = n := by omega
      have FI := Lib.hid (show fl (t.ins.map inB) j = (t.ins.map inB).flatten by
        have e := fl_all (t.ins.map inB)
        rwa [List.length_map, ← HN.out] at e)
      go_wp2_with (first
    | (refine mem_load_cell (Lib.hid K.out.mem) 56 rfl (.tmp 68) rfl rfl List.mem_cons_self Tryd.underlying56 rfl c2 ?_)
    | (refine mem_load_cell (Lib.hid K.out.mem) 56 rfl (.tmp 74) rfl rfl List.mem_cons_self Tryd.underlying56 rfl c2 ?_)
    | (go_at_call 11; (with_reducible refine (rcnt_any m _).mono ?_); rintro e wn8 ⟨p_n, g_n, c_n, rfl, N_n, hb_n⟩; replace K := Lib.hid (K.out.call hb_n); have R8 := Lib.hid N_n.row; clear hb_n N_n)
    | (at_builtin; refine wpList_wbl rfl (.tmp 67) (.tmp 72) rfl K rfl rfl rfl R8 (by have := LB.out; have h1 := SI.out j (Nat.le_refl _); rw [Z.out, Z7'.out]; simp only [List.length_append, low_length, List.length_cons, List.length_nil]; omega) ?_; clear K; intro p8 g8 c8 w8 z8 Z8 K))
      have Z8' : Hid (z8 = low t.ver 4 ++ listB inB t.ins ++ cnt m) := Lib.hid (by rw [Z8.out, Z.out, FI.out, Z7'.out]; unfold listB; rw [← HN.out]; simp only [List.append_assoc])
      clear Z8 Z Z7' FI
      go_loopg [6, 77] m (fun k s i wr => ∃ (j2 : Nat) (p : Option Addr) (g c : Nat) (zs : List Nat), j2 + k = m ∧ i = .int .i64 (j2 : Int) ∧ s = .slice p zs.length c ∧ Hid (zs = z8 ++ fl (t.outs.map outB) j2) ∧ Hid (Wb W [(b2, 58, arr 4 V)] p g c zs wr))
      case atStart => exact ⟨0, p8, g8, c8, z8, by omega, rfl, rfl, Lib.hid (by simp [fl]), K⟩
      case round =>
        clear K
        obtain ⟨j2, p, g, c, zs, hj2, rfl, rfl, Z, K⟩ := hrel
        obtain ⟨k2, rfl⟩ : ∃ k2 : Nat, k2 = gk := ⟨_, rfl⟩
        by_cases hlt2 : j2 < m
        · obtain rfl := RO.out.head (by omega)
          have ht : j2 < t.outs.length := by rw [← HM.out]; exact hlt2
          obtain ⟨x, hx⟩ : ∃ x, x = t.outs[j2] := ⟨_, rfl⟩
          have OC : Hid (OutCells W (fun i => Vo (j2 * 2 + i)) x) := Lib.hid (by rw [hx]; exact TO.out j2 ht)
          have FS := Lib.hid (show fl (t.outs.map outB) (j2 + 1) = fl (t.outs.map outB) j2 ++ outB x by rw [fl_succ _ (by rw [List.length_map]; exact ht), List.getElem_map, hx])
          have BD : Hid (zs.length + 8 + (text x.sc).length ≤ 140737488355328) := Lib.hid (by
            have h1 := SO.out (j2 + 1) (by omega)
            have h2 := LB.out
            have h3 := SI.out j (Nat.le_refl _)
            rw [FS.out, List.length_append] at h1
            rw [outB_length] at h1
            rw [Z.out, Z8'.out]
            unfold listB
            rw [← HN.out]
            simp only [List.length_append, low_length, List.length_cons, List.length_nil]
            omega)
          have IL := Lib.hid (rfl : (0 : Nat) = 0)
          have SC := Lib.hid OC.out.sc
          obtain ⟨Vs, hVs⟩ : ∃ Vs, Vs = Vo (j2 * 2 + 1) := ⟨_, rfl⟩
          have SC : Hid (TextAt W Vs x.sc) := Lib.hid (by rw [hVs]; exact SC.out)
          have a0 : (arr 2 fun i => Vo (j2 * 2 + i))[0]? = some (.int .i64 x.val) := by rw [arr_get 2 _ 0 (by omega), OC.out.val]
          have a1 : (arr 2 fun i => Vo (j2 * 2 + i))[1]? = some Vs := by rw [arr_get 2 _ 1 (by omega), hVs]
          have wr1 : Hid ((Tryd.prog.underlying 2).isSome = true ∧ IntKind.u64.wrap x.val = ((val64 x.val : Nat) : Int)) := Lib.hid ⟨by kernel_rfl, by rw [IntKind.wrap_u64]; unfold val64; rw [Int.toNat_of_nonneg (by omega)]⟩
          clear hx hVs
          go_upto_region 18 with (first
            | (refine wpList_ix (k := 2) (j := j2) Tryd.underlying56 (by kernel_rfl) (.tmp 75) (.tmp 77) rfl rfl rfl rfl hlt2 rfl ?_)
            | (refine wpList_ld 77 (.tmp 79) rfl rfl rfl ((RO.out.below K.out.mem.below).load hlt2 Tryd.underlying77 rfl (by kernel_rfl)) ?_)
            | (refine wb_alloc K 77 (by decide) rfl rfl infoOut ?_; clear K; intro b10 w4 K)
            | (refine wb_store_row 0 K 77 rfl (.tmp 10) (.tmp 80) rfl rfl rfl rfl (by kernel_rfl) (by rw [arr_size]; rfl) (RO.out.arr_one hlt2) ?_; clear K; intro w5 K; simp only [List.set_cons_zero, List.set_cons_succ] at K))
          refine wp_region_wb (S := fun W' => W'.heap[b10]? = some (.cells (arr 2 fun i => Vo (j2 * 2 + i)) 77 (0, 0))) K (by kernel_rfl) ?_
          clear K
          intro wx E1
          refine hm_run 0 81 _ rfl rfl (by kernel_rfl) (by kernel_rfl) (by kernel_rfl) (fun _ _ _ h => h) rfl (fun _ _ => rfl) (E1.out.mem.get List.mem_cons_self) ?_
          try simp only [Act.put, List.getElem_toArray, List.getElem_cons_succ, List.getElem_cons_zero, List.setIfInBounds_toArray, List.set_cons_zero, List.set_cons_succ]
          refine hm_run 1 82 (.pointer (some ⟨b10, 0, none⟩)) rfl rfl (by kernel_rfl) (by kernel_rfl) (by kernel_rfl) (fun _ _ _ h => h) rfl (fun _ _ => by kernel_rfl) (E1.out.mem.get List.mem_cons_self) ?_
          try simp only [Act.put, List.getElem_toArray, List.getElem_cons_succ, List.getElem_cons_zero, List.setIfInBounds_toArray, List.set_cons_zero, List.set_cons_succ]
          refine hm_run 2 83 (.int .i64 x.val) rfl rfl (by kernel_rfl) (by kernel_rfl) (by kernel_rfl) (fun _ _ _ h => h) rfl (fun W hW => exec_load rfl (run_load_one Tryd.underlying2 rfl (cell_of_here hW 0 a0))) (E1.out.mem.get List.mem_cons_self) ?_
          try simp only [Act.put, List.getElem_toArray, List.getElem_cons_succ, List.getElem_cons_zero, List.setIfInBounds_toArray, List.set_cons_zero, List.set_cons_succ]
          refine hm_run 3 84 (.int .u64 ((val64 x.val : Nat) : Int)) rfl rfl (by kernel_rfl) (by kernel_rfl) (by kernel_rfl) (fun _ _ _ h => h) rfl (fun W _ => exec_cv rfl rfl wr1.out) (E1.out.mem.get List.mem_cons_self) ?_
          try simp only [Act.put, List.getElem_toArray, List.getElem_cons_succ, List.getElem_cons_zero, List.setIfInBounds_toArray, List.set_cons_zero, List.set_cons_succ]
          refine hm_run 6 87 (.pointer (some ⟨b10, 1, none⟩)) rfl rfl (by kernel_rfl) (by kernel_rfl) (by kernel_rfl) (fun _ _ _ h => h) rfl (fun _ _ => by kernel_rfl) (E1.out.mem.get List.mem_cons_self) ?_
          try simp only [Act.put, List.getElem_toArray, List.getElem_cons_succ, List.getElem_cons_zero, List.setIfInBounds_toArray, List.set_cons_zero, List.set_cons_succ]
          refine hm_run 7 88 Vs rfl rfl (by kernel_rfl) (by kernel_rfl) (by kernel_rfl) (fun _ _ _ h => h) rfl (fun W hW => exec_load rfl (run_load_one Tryd.underlying30 rfl (cell_of_here hW 1 a1))) (E1.out.mem.get List.mem_cons_self) ?_
          try simp only [Act.put, List.getElem_toArray, List.getElem_cons_succ, List.getElem_cons_zero, List.setIfInBounds_toArray, List.set_cons_zero, List.set_cons_succ]
          refine hm_one (i := 4) (by kernel_rfl) ?_
          refine hm_step 4 rfl (by kernel_rfl) fun K hK => ?_
          try simp only [Act.put, List.getElem_toArray, List.getElem_cons_succ, List.getElem_cons_zero, List.setIfInBounds_toArray, List.set_cons_zero, List.set_cons_succ]
          go_simp
          go_at_call 22
          refine (low8 (val64 x.val) _).mono ?_
          rintro e w_a ⟨p_a, g_a, c_a, rfl, N_a, hb_a⟩
          have E6_4 := Lib.hid (E1.out.call hb_a)
          have R_a := Lib.hid N_a.row
          clear hb_a N_a
          refine hK _ _ (E6_4.out.mem.get List.mem_cons_self) ?_
          clear hK K
          try simp only [Act.put, List.getElem_toArray, List.getElem_cons_succ, List.getElem_cons_zero, List.setIfInBounds_toArray, List.set_cons_zero, List.set_cons_succ]
          refine hm_one (i := 5) (by kernel_rfl) ?_
          refine hm_step 5 rfl (by kernel_rfl) fun K hK => ?_
          try simp only [Act.put, List.getElem_toArray, List.getElem_cons_succ, List.getElem_cons_zero, List.setIfInBounds_toArray, List.set_cons_zero, List.set_cons_succ]
          refine mo_wbl (.tmp 81) (.tmp 85) rfl E6_4 rfl rfl rfl R_a (by have := BD.out; have := IL.out; simp only [low_length]; omega) ?_
          intro p1 g1 c1 w1 z1 Z1 E7_5
          refine hK _ _ (E7_5.out.mem.get List.mem_cons_self) ?_
          clear hK K
          try simp only [Act.put, List.getElem_toArray, List.getElem_cons_succ, List.getElem_cons_zero, List.setIfInBounds_toArray, List.set_cons_zero, List.set_cons_succ]
          refine hm_one (i := 8) (by kernel_rfl) ?_
          refine hm_step 8 rfl (by kernel_rfl) fun K hK => ?_
          try simp only [Act.put, List.getElem_toArray, List.getElem_cons_succ, List.getElem_cons_zero, List.setIfInBounds_toArray, List.set_cons_zero, List.set_cons_succ]
          clear R_a
          go_simp
          go_at_call 25
          refine (rtext_any (Lib.hid (SC.out.below E7_5.out.mem.below))).mono ?_
          rintro e w_a ⟨p_a, g_a, c_a, rfl, N_a, hb_a⟩
          have E8_8 := Lib.hid (E7_5.out.call hb_a)
          have R_a := Lib.hid N_a.row
          clear hb_a N_a
          refine hK _ _ (E8_8.out.mem.get List.mem_cons_self) ?_
          clear hK K
          try simp only [Act.put, List.getElem_toArray, List.getElem_cons_succ, List.getElem_cons_zero, List.setIfInBounds_toArray, List.set_cons_zero, List.set_cons_succ]
          refine hm_one (i := 9) (by kernel_rfl) ?_
          refine hm_step 9 rfl (by kernel_rfl) fun K hK => ?_
          try simp only [Act.put, List.getElem_toArray, List.getElem_cons_succ, List.getElem_cons_zero, List.setIfInBounds_toArray, List.set_cons_zero, List.set_cons_succ]
          refine mo_wbl (.tmp 86) (.tmp 89) rfl E8_8 rfl rfl rfl R_a (by have := BD.out; have := IL.out; simp only [Z1.out, List.length_append, low_length]; omega) ?_
          intro p2 g2 c2 w2 z2 Z2 E9_9
          refine hK _ _ (E9_9.out.mem.get List.mem_cons_self) ?_
          clear hK K
          try simp only [Act.put, List.getElem_toArray, List.getElem_cons_succ, List.getElem_cons_zero, List.setIfInBounds_toArray, List.set_cons_zero, List.set_cons_succ]
          refine hm_run 10 6 _ rfl rfl (by kernel_rfl) (by kernel_rfl) (by kernel_rfl) (fun _ _ _ h => h) rfl (fun _ _ => rfl) (E9_9.out.mem.get List.mem_cons_self) ?_
          try simp only [Act.put, List.getElem_toArray, List.getElem_cons_succ, List.getElem_cons_zero, List.setIfInBounds_toArray, List.set_cons_zero, List.set_cons_succ]
          refine wpAnyH_done (by kernel_rfl) ?_ _
          go_wp2_with fail
          go_roundg (m - (j2 + 1))
          case measure => omega
          case rel => exact ⟨j2 + 1, p2, g2, c2, z2, by omega, by go_num, rfl, Lib.hid (by rw [Z2.out, Z1.out, Z.out, FS.out]; unfold outB; simp only [List.append_assoc]), Lib.hid E9_9.out.tail⟩
        · obtain rfl : j2 = m := by omega
          have FO := Lib.hid (show fl (t.outs.map outB) j2 = (t.outs.map outB).flatten by
            have e := fl_all (t.outs.map outB)
            rwa [List.length_map, ← HM.out] at e)
          have Z9 : Hid (zs = low t.ver 4 ++ listB inB t.ins ++ listB outB t.outs) := Lib.hid (by rw [Z.out, FO.out, Z8'.out]; unfold listB; rw [← HM.out]; simp only [List.append_assoc])
          have LZ : Hid (zs.length ≤ 40132100) := Lib.hid (by
            have h := LB.out
            rw [Z9.out]
            unfold listB
            rw [← HN.out, ← HM.out]
            simp only [List.length_append, low_length, List.length_cons, List.length_nil]
            omega)
          clear Z FO Z8'
          go_wp2_with (refine mem_load_cell (Lib.hid K.out.mem) 55 rfl (.tmp 92) rfl rfl List.mem_cons_self Tryd.underlying55 rfl c1 ?_)
          obtain ⟨n', rfl⟩ : ∃ n', j = n' + 1 := ⟨j - 1, by omega⟩
          obtain rfl := RI.out.head (by omega)
          go_loopg [6, 95] 0 (fun k s i wr => i = .int .i64 0 ∧ s = .slice p zs.length c ∧ Hid (Wb W [(b2, 58, arr 4 V)] p g c zs wr))
          case atStart => exact ⟨rfl, rfl, K⟩
          case round =>
            clear K
            obtain ⟨rfl, rfl, K⟩ := hrel
            have hlt3 : (0 : Int) < ((n' + 1 : Nat) : Int) := by omega
            go_wp2_with (first
              | (refine mem_load_cell (Lib.hid K.out.mem) 22 rfl (.tmp 122) rfl rfl List.mem_cons_self Tryd.underlying22 rfl c3 ?_)
              | (go_at_call 22; (with_reducible refine (low4 t.lock _).mono ?_); rintro e wl ⟨p_l, g_l, c_l, rfl, N_l, hb_l⟩; replace K := Lib.hid (K.out.call hb_l); have RL := Lib.hid N_l.row; clear hb_l N_l)
              | (at_builtin; refine wpList_wbl rfl (.tmp 121) (.tmp 125) rfl K rfl rfl rfl RL (by have := LZ.out; rw [low_length]; omega) ?_; clear K; intro p9 g9 c9 w9 z9 Z10 K)
              | (refine wpList_ix (k := 36) (j := 0) Tryd.underlying55 (by kernel_rfl) (.tmp 93) (.tmp 95) rfl rfl rfl rfl (by omega) rfl ?_)
              | (refine wpList_ld 75 (.tmp 97) rfl rfl rfl ((RI.out.below K.out.mem.below).load (i := 0) (by omega) Tryd.underlying75 rfl (by kernel_rfl)) ?_)
              | (refine wb_alloc K 75 (by decide) rfl rfl infoIn ?_; clear K; intro b12 w4 K; simp only [arr_cells'] at K)
              | (refine wb_store_row 0 K 75 rfl (.tmp 12) (.tmp 98) rfl rfl rfl rfl (by kernel_rfl) (by simp only [arr_size]) (RI.out.arr_one (i := 0) (by omega)) ?_; clear K; intro w5 K; simp only [List.set_cons_zero, List.set_cons_succ] at K; replace K := Lib.hid K.out.tail))
            refine bodyPost_ret (res2 (fn := Tryd.f12) rfl _ _) rfl ?_
            exact Enc.of HC.out (by rw [Z10.out, Z9.out]; unfold txB; simp) K.out

set_option maxHeartbeats 16000000 in
theorem rtxenc_none {W : World} {V : Nat → Value} {t : TTx} (A : Hid (TxCells W V t)) (hc : canB t = true) (hh : t.ins.any hasB = false) : Calls Tryd.prog 12 #[.agg (arr 4 V), .bool true] W (Enc W t false) := by
  have E := Lib.hid (Mem.nil W)
  have AT : TxAt W (.agg (arr 4 V)) t := ⟨V, rfl, A.out⟩
  have c0 : (arr 4 V)[0]? = some (.int .u32 ((t.ver : Nat) : Int)) := by rw [arr_get 4 V 0 (by omega), A.out.ver]; rfl
  have c3 : (arr 4 V)[3]? = some (.int .u32 ((t.lock : Nat) : Int)) := by rw [arr_get 4 V 3 (by omega), A.out.lock]; rfl
  have cw0 : IntKind.u64.wrap (t.ver : Int) = (t.ver : Int) := wrap_u32 A.out.verB
  have cw3 : IntKind.u64.wrap (t.lock : Int) = (t.lock : Int) := wrap_u32 A.out.lockB
  have HC := Lib.hid hc
  have CF := can_facts hc
  have BD0 := Lib.hid (parts_le CF A.out.idlen)
  have CAN := Lib.hid (show ∀ w', Below W.heap.size W w' → Calls Tryd.prog 23 #[.agg (arr 4 V)] w' fun e w'' => e = .returned (.bool true) ∧ Below w'.heap.size w' w'' from fun w' hb => by
    have := rcan_any (Lib.hid (AT.below hb))
    rwa [hc] at this)
  have HASW := Lib.hid (show ∀ w', Below W.heap.size W w' → Calls Tryd.prog 24 #[.agg (arr 4 V)] w' fun e w'' => e = .returned (.bool false) ∧ Below w'.heap.size w' w'' from fun w' hb => by
    have := rhas_any (Lib.hid (AT.below hb))
    rwa [hh] at this)
  obtain ⟨pi, gi, oi, ci, Vi, hvi, hci, Ri, hii⟩ := A.out.ins
  obtain ⟨po, go, oo, co, Vo, hvo, hco, Ro, hoo⟩ := A.out.outs
  have RI := Lib.hid Ri
  have RO := Lib.hid Ro
  have TI := Lib.hid hii
  have TO := Lib.hid hoo
  have n0 := CF.n0
  have N1 := CF.n1
  have M1 := CF.m1
  have SI := Lib.hid (show ∀ j, j ≤ t.ins.length → (fl (t.ins.map inB) j).length ≤ ((t.ins.map inB).flatten).length from fun j hj => by
    rw [← fl_all, fl_length, fl_length]; exact sm_le _ (by rw [List.length_map]; exact hj))
  have SO := Lib.hid (show ∀ j, j ≤ t.outs.length → (fl (t.outs.map outB) j).length ≤ ((t.outs.map outB).flatten).length from fun j hj => by
    rw [← fl_all, fl_length, fl_length]; exact sm_le _ (by rw [List.length_map]; exact hj))
  have SW := Lib.hid (show ∀ j, j ≤ t.ins.length → (fl (t.ins.map witB) j).length ≤ ((t.ins.map witB).flatten).length from fun j hj => by
    rw [← fl_all, fl_length, fl_length]; exact sm_le _ (by rw [List.length_map]; exact hj))
  obtain ⟨n, hn⟩ : ∃ n, n = t.ins.length := ⟨_, rfl⟩
  obtain ⟨m, hm⟩ : ∃ m, m = t.outs.length := ⟨_, rfl⟩
  have HN := Lib.hid hn
  have HM := Lib.hid hm
  rw [← hn] at RI N1 SI SW n0 hvi
  rw [← hm] at RO M1 SO hvo
  have c1 : (arr 4 V)[1]? = some (.slice pi n ci) := by rw [arr_get 4 V 1 (by omega), hvi]
  have c2 : (arr 4 V)[2]? = some (.slice po m co) := by rw [arr_get 4 V 2 (by omega), hvo]
  have cwn : IntKind.u64.wrap (n : Int) = (n : Int) := by rw [IntKind.wrap_u64]; omega
  have cwm : IntKind.u64.wrap (m : Int) = (m : Int) := by rw [IntKind.wrap_u64]; omega
  have LB : Hid ((cnt n).length ≤ 9 ∧ (cnt m).length ≤ 9 ∧ ((t.ins.map inB).flatten).length ≤ 20098009 ∧ ((t.outs.map outB).flatten).length ≤ 20034009 ∧ ((t.ins.map witB).flatten).length ≤ 2001818000) := Lib.hid (by
    have h := BD0.out
    unfold listB at h
    simp only [List.length_append] at h
    have h1 := (cnt_le n).2
    have h2 := (cnt_le m).2
    omega)
  clear hn hm hvi hci Ri hii hvo hco Ro hoo A AT hc CF BD0
  go_enter Tryd.func12, Tryd.ntmps12
  go_wp2_with (first
    | (refine mem_box E 58 rfl _ rfl rfl (arr_cells' 4 V) ?_; clear E; intro b2 w2 E)
    | (refine mem_load_row E 58 rfl (.tmp 2) rfl rfl List.mem_cons_self Tryd.underlying58 rfl (by simp only [arr_size]; kernel_rfl) ?_)
    | (go_at_call 23; refine (CAN.out _ E.out.below).mono ?_; rintro e w3 ⟨rfl, hb⟩; replace E := Lib.hid (E.out.call hb); clear hb)
    | (go_at_call 24; refine (HASW.out _ E.out.below).mono ?_; rintro e w4 ⟨rfl, hb⟩; replace E := Lib.hid (E.out.call hb); clear hb)
    | (refine mem_load_cell E 22 rfl (.tmp 23) rfl rfl List.mem_cons_self Tryd.underlying22 rfl c0 ?_)
    | (go_at_call 22; (with_reducible refine (low4 t.ver _).mono ?_); rintro e w5 ⟨p5, g5, c5, rfl, N5, hb5⟩; obtain ⟨z5, hz5⟩ : ∃ z, z = low t.ver 4 := ⟨_, rfl⟩; rw [← hz5] at N5 ⊢; have Z5 := Lib.hid hz5; have K := Lib.hid (Wb.start E.out (nb_one (by decide)) N5 hb5); clear hb5 N5 E hz5)
    | (refine mem_load_cell (Lib.hid K.out.mem) 55 rfl (.tmp 32) rfl rfl List.mem_cons_self Tryd.underlying55 rfl c1 ?_)
    | (refine mem_load_cell (Lib.hid K.out.mem) 55 rfl (.tmp 38) rfl rfl List.mem_cons_self Tryd.underlying55 rfl c1 ?_)
    | (go_at_call 11; (with_reducible refine (rcnt_any n _).mono ?_); rintro e wn7 ⟨p_n, g_n, c_n, rfl, N_n, hb_n⟩; replace K := Lib.hid (K.out.call hb_n); have R7 := Lib.hid N_n.row; clear hb_n N_n)
    | (at_builtin; refine wpList_wbl rfl (.tmp 31) (.tmp 36) rfl K rfl rfl rfl R7 (by have := LB.out; simp only [Z5.out, List.length_append, low_length, List.length_cons, List.length_nil]; omega) ?_; clear K; intro p7 g7 c7 w7 z7 Z7 K))
  have Z7' : Hid (z7 = low t.ver 4 ++ cnt n) := Lib.hid (by rw [Z7.out, Z5.out])
  clear Z5  Z7
  go_loopg [6, 41] n (fun k s i wr => ∃ (j : Nat) (p : Option Addr) (g c : Nat) (zs : List Nat), j + k = n ∧ i = .int .i64 (j : Int) ∧ s = .slice p zs.length c ∧ Hid (zs = z7 ++ fl (t.ins.map inB) j) ∧ Hid (Wb W [(b2, 58, arr 4 V)] p g c zs wr))
  case atStart => exact ⟨0, p7, g7, c7, z7, by omega, rfl, rfl, Lib.hid (by simp [fl]), K⟩
  case round =>
    clear K
    obtain ⟨j, p, g, c, zs, hj, rfl, rfl, Z, K⟩ := hrel
    obtain ⟨kk, rfl⟩ : ∃ kk : Nat, kk = gk := ⟨_, rfl⟩
    by_cases hlt : j < n
    · obtain rfl := RI.out.head (by omega)
      have ht : j < t.ins.length := by rw [← HN.out]; exact hlt
      obtain ⟨x, hx⟩ : ∃ x, x = t.ins[j] := ⟨_, rfl⟩
      have IC : Hid (InCells W (fun i => Vi (j * 36 + i)) x) := Lib.hid (by rw [hx]; exact TI.out j ht)
      have FS := Lib.hid (show fl (t.ins.map inB) (j + 1) = fl (t.ins.map inB) j ++ inB x by rw [fl_succ _ (by rw [List.length_map]; exact ht), List.getElem_map, hx])
      have BD : Hid (zs.length + 32 + 4 + (text x.sc).length + 4 ≤ 140737488355328) := Lib.hid (by
        have h1 := SI.out (j + 1) (by omega)
        have h2 := LB.out
        rw [FS.out, List.length_append] at h1
        rw [inB_length IC.out.len] at h1
        rw [Z.out, Z7'.out]
        simp only [List.length_append, low_length, List.length_cons, List.length_nil]
        omega)
      have IL := Lib.hid IC.out.len
      have SC := Lib.hid IC.out.sc
      obtain ⟨Vs, hVs⟩ : ∃ Vs, Vs = Vi (j * 36 + 33) := ⟨_, rfl⟩
      have SC : Hid (TextAt W Vs x.sc) := Lib.hid (by rw [hVs]; exact SC.out)
      have a32 : (arr 36 fun i => Vi (j * 36 + i))[32]? = some (.int .u32 ((x.idx : Nat) : Int)) := by rw [arr_get 36 _ 32 (by omega), IC.out.idx]; rfl
      have a33 : (arr 36 fun i => Vi (j * 36 + i))[33]? = some Vs := by rw [arr_get 36 _ 33 (by omega), hVs]
      have a34 : (arr 36 fun i => Vi (j * 36 + i))[34]? = some (.int .u32 ((x.sq : Nat) : Int)) := by rw [arr_get 36 _ 34 (by omega), IC.out.sq]; rfl
      have wr1 : Hid ((Tryd.prog.underlying 22).isSome = true ∧ IntKind.u64.wrap (x.idx : Int) = (x.idx : Int)) := Lib.hid ⟨by kernel_rfl, wrap_u32 IC.out.idxB⟩
      have wr2 : Hid ((Tryd.prog.underlying 22).isSome = true ∧ IntKind.u64.wrap (x.sq : Int) = (x.sq : Int)) := Lib.hid ⟨by kernel_rfl, wrap_u32 IC.out.sqB⟩
      clear hx hVs
      go_upto_region 11 with (first
        | (refine wpList_ix (k := 36) (j := j) Tryd.underlying55 (by kernel_rfl) (.tmp 39) (.tmp 41) rfl rfl rfl rfl hlt rfl ?_)
        | (refine wpList_ld 75 (.tmp 43) rfl rfl rfl ((RI.out.below K.out.mem.below).load hlt Tryd.underlying75 rfl (by kernel_rfl)) ?_)
        | (refine wb_alloc K 75 (by decide) rfl rfl infoIn ?_; clear K; intro b8 w4 K; simp only [arr_cells'] at K)
        | (refine wb_store_row 0 K 75 rfl (.tmp 8) (.tmp 44) rfl rfl rfl rfl (by kernel_rfl) (by simp only [arr_size]) (RI.out.arr_one hlt) ?_; clear K; intro w5 K; simp only [List.set_cons_zero, List.set_cons_succ] at K))
      refine wp_region_wb (S := fun W' => W'.heap[b8]? = some (.cells (arr 36 fun i => Vi (j * 36 + i)) 75 (0, 0))) K (by kernel_rfl) ?_
      clear K
      intro wx E1
      refine hm_run 0 45 _ rfl rfl (by kernel_rfl) (by kernel_rfl) (by kernel_rfl) (fun _ _ _ h => h) rfl (fun _ _ => rfl) (E1.out.mem.get List.mem_cons_self) ?_
      try simp only [Act.put, List.getElem_toArray, List.getElem_cons_succ, List.getElem_cons_zero, List.setIfInBounds_toArray, List.set_cons_zero, List.set_cons_succ]
      refine hm_run 1 46 (.pointer (some ⟨b8, 0, none⟩)) rfl rfl (by kernel_rfl) (by kernel_rfl) (by kernel_rfl) (fun _ _ _ h => h) rfl (fun _ _ => by kernel_rfl) (E1.out.mem.get List.mem_cons_self) ?_
      try simp only [Act.put, List.getElem_toArray, List.getElem_cons_succ, List.getElem_cons_zero, List.setIfInBounds_toArray, List.set_cons_zero, List.set_cons_succ]
      refine hm_run 2 47 (.pointer (some ⟨b8, 0, none⟩)) rfl rfl (by kernel_rfl) (by kernel_rfl) (by kernel_rfl) (fun _ _ _ h => h) rfl (fun _ _ => by kernel_rfl) (E1.out.mem.get List.mem_cons_self) ?_
      try simp only [Act.put, List.getElem_toArray, List.getElem_cons_succ, List.getElem_cons_zero, List.setIfInBounds_toArray, List.set_cons_zero, List.set_cons_succ]
      refine hm_run 3 48 (.slice (some ⟨b8, 0, none⟩) 32 32) rfl rfl (by kernel_rfl) (by kernel_rfl) (by kernel_rfl) (fun _ _ _ h => h) rfl (fun W _ => exec_sl rfl (run_hash b8 0 W)) (E1.out.mem.get List.mem_cons_self) ?_
      try simp only [Act.put, List.getElem_toArray, List.getElem_cons_succ, List.getElem_cons_zero, List.setIfInBounds_toArray, List.set_cons_zero, List.set_cons_succ]
      refine hm_run 5 50 (.pointer (some ⟨b8, 0, none⟩)) rfl rfl (by kernel_rfl) (by kernel_rfl) (by kernel_rfl) (fun _ _ _ h => h) rfl (fun _ _ => by kernel_rfl) (E1.out.mem.get List.mem_cons_self) ?_
      try simp only [Act.put, List.getElem_toArray, List.getElem_cons_succ, List.getElem_cons_zero, List.setIfInBounds_toArray, List.set_cons_zero, List.set_cons_succ]
      refine hm_run 6 51 (.pointer (some ⟨b8, 32, none⟩)) rfl rfl (by kernel_rfl) (by kernel_rfl) (by kernel_rfl) (fun _ _ _ h => h) rfl (fun _ _ => by kernel_rfl) (E1.out.mem.get List.mem_cons_self) ?_
      try simp only [Act.put, List.getElem_toArray, List.getElem_cons_succ, List.getElem_cons_zero, List.setIfInBounds_toArray, List.set_cons_zero, List.set_cons_succ]
      refine hm_run 7 52 (.int .u32 ((x.idx : Nat) : Int)) rfl rfl (by kernel_rfl) (by kernel_rfl) (by kernel_rfl) (fun _ _ _ h => h) rfl (fun W hW => exec_load rfl (run_load_one Tryd.underlying22 rfl (cell_of_here hW 32 a32))) (E1.out.mem.get List.mem_cons_self) ?_
      try simp only [Act.put, List.getElem_toArray, List.getElem_cons_succ, List.getElem_cons_zero, List.setIfInBounds_toArray, List.set_cons_zero, List.set_cons_succ]
      refine hm_run 8 53 (.int .u64 ((x.idx : Nat) : Int)) rfl rfl (by kernel_rfl) (by kernel_rfl) (by kernel_rfl) (fun _ _ _ h => h) rfl (fun W _ => exec_cv rfl rfl wr1.out) (E1.out.mem.get List.mem_cons_self) ?_
      try simp only [Act.put, List.getElem_toArray, List.getElem_cons_succ, List.getElem_cons_zero, List.setIfInBounds_toArray, List.set_cons_zero, List.set_cons_succ]
      refine hm_one (i := 4) (by kernel_rfl) ?_
      refine hm_step 4 rfl (by kernel_rfl) fun K hK => ?_
      try simp only [Act.put, List.getElem_toArray, List.getElem_cons_succ, List.getElem_cons_zero, List.setIfInBounds_toArray, List.set_cons_zero, List.set_cons_succ]
      refine mo_wb (.tmp 45) (.tmp 48) rfl E1 rfl rfl rfl (Lib.hid (IC.out.idRow (E1.out.mem.get List.mem_cons_self))) (by have := BD.out; omega) ?_
      intro p1 g1 c1 w1 z1 Z1 E8_4
      rw [IC.out.idTl] at Z1
      refine hK _ _ (E8_4.out.mem.get List.mem_cons_self) ?_
      clear hK K
      try simp only [Act.put, List.getElem_toArray, List.getElem_cons_succ, List.getElem_cons_zero, List.setIfInBounds_toArray, List.set_cons_zero, List.set_cons_succ]
      refine hm_one (i := 9) (by kernel_rfl) ?_
      refine hm_step 9 rfl (by kernel_rfl) fun K hK => ?_
      try simp only [Act.put, List.getElem_toArray, List.getElem_cons_succ, List.getElem_cons_zero, List.setIfInBounds_toArray, List.set_cons_zero, List.set_cons_succ]
      go_simp
      go_at_call 22
      refine (low4 x.idx _).mono ?_
      rintro e w_a ⟨p_a, g_a, c_a, rfl, N_a, hb_a⟩
      have E9_9 := Lib.hid (E8_4.out.call hb_a)
      have R_a := Lib.hid N_a.row
      clear hb_a N_a
      refine hK _ _ (E9_9.out.mem.get List.mem_cons_self) ?_
      clear hK K
      try simp only [Act.put, List.getElem_toArray, List.getElem_cons_succ, List.getElem_cons_zero, List.setIfInBounds_toArray, List.set_cons_zero, List.set_cons_succ]
      refine hm_one (i := 10) (by kernel_rfl) ?_
      refine hm_step 10 rfl (by kernel_rfl) fun K hK => ?_
      try simp only [Act.put, List.getElem_toArray, List.getElem_cons_succ, List.getElem_cons_zero, List.setIfInBounds_toArray, List.set_cons_zero, List.set_cons_succ]
      refine mo_wbl (.tmp 49) (.tmp 54) rfl E9_9 rfl rfl rfl R_a (by have := BD.out; have := IL.out; simp only [Z1.out, List.length_append, low_length]; omega) ?_
      intro p2 g2 c2 w2 z2 Z2 E10_10
      refine hK _ _ (E10_10.out.mem.get List.mem_cons_self) ?_
      clear hK K
      try simp only [Act.put, List.getElem_toArray, List.getElem_cons_succ, List.getElem_cons_zero, List.setIfInBounds_toArray, List.set_cons_zero, List.set_cons_succ]
      refine hm_run 11 6 _ rfl rfl (by kernel_rfl) (by kernel_rfl) (by kernel_rfl) (fun _ _ _ h => h) rfl (fun _ _ => rfl) (E10_10.out.mem.get List.mem_cons_self) ?_
      try simp only [Act.put, List.getElem_toArray, List.getElem_cons_succ, List.getElem_cons_zero, List.setIfInBounds_toArray, List.set_cons_zero, List.set_cons_succ]
      refine wpAnyH_done (by kernel_rfl) ?_ _
      clear R_a
      have K2 := E10_10
      go_upto_region 12 with fail
      refine wp_region_wb (S := fun W' => W'.heap[b8]? = some (.cells (arr 36 fun i => Vi (j * 36 + i)) 75 (0, 0))) K2 (by kernel_rfl) ?_
      intro wy E2
      refine hm_run 0 56 _ rfl rfl (by kernel_rfl) (by kernel_rfl) (by kernel_rfl) (fun _ _ _ h => h) rfl (fun _ _ => rfl) (E2.out.mem.get List.mem_cons_self) ?_
      try simp only [Act.put, List.getElem_toArray, List.getElem_cons_succ, List.getElem_cons_zero, List.setIfInBounds_toArray, List.set_cons_zero, List.set_cons_succ]
      refine hm_run 1 57 (.pointer (some ⟨b8, 33, none⟩)) rfl rfl (by kernel_rfl) (by kernel_rfl) (by kernel_rfl) (fun _ _ _ h => h) rfl (fun _ _ => by kernel_rfl) (E2.out.mem.get List.mem_cons_self) ?_
      try simp only [Act.put, List.getElem_toArray, List.getElem_cons_succ, List.getElem_cons_zero, List.setIfInBounds_toArray, List.set_cons_zero, List.set_cons_succ]
      refine hm_run 2 58 Vs rfl rfl (by kernel_rfl) (by kernel_rfl) (by kernel_rfl) (fun _ _ _ h => h) rfl (fun W hW => exec_load rfl (run_load_one Tryd.underlying30 rfl (cell_of_here hW 33 a33))) (E2.out.mem.get List.mem_cons_self) ?_
      try simp only [Act.put, List.getElem_toArray, List.getElem_cons_succ, List.getElem_cons_zero, List.setIfInBounds_toArray, List.set_cons_zero, List.set_cons_succ]
      refine hm_run 5 61 (.pointer (some ⟨b8, 34, none⟩)) rfl rfl (by kernel_rfl) (by kernel_rfl) (by kernel_rfl) (fun _ _ _ h => h) rfl (fun _ _ => by kernel_rfl) (E2.out.mem.get List.mem_cons_self) ?_
      try simp only [Act.put, List.getElem_toArray, List.getElem_cons_succ, List.getElem_cons_zero, List.setIfInBounds_toArray, List.set_cons_zero, List.set_cons_succ]
      refine hm_run 6 62 (.int .u32 ((x.sq : Nat) : Int)) rfl rfl (by kernel_rfl) (by kernel_rfl) (by kernel_rfl) (fun _ _ _ h => h) rfl (fun W hW => exec_load rfl (run_load_one Tryd.underlying22 rfl (cell_of_here hW 34 a34))) (E2.out.mem.get List.mem_cons_self) ?_
      try simp only [Act.put, List.getElem_toArray, List.getElem_cons_succ, List.getElem_cons_zero, List.setIfInBounds_toArray, List.set_cons_zero, List.set_cons_succ]
      refine hm_run 7 63 (.int .u64 ((x.sq : Nat) : Int)) rfl rfl (by kernel_rfl) (by kernel_rfl) (by kernel_rfl) (fun _ _ _ h => h) rfl (fun W _ => exec_cv rfl rfl wr2.out) (E2.out.mem.get List.mem_cons_self) ?_
      try simp only [Act.put, List.getElem_toArray, List.getElem_cons_succ, List.getElem_cons_zero, List.setIfInBounds_toArray, List.set_cons_zero, List.set_cons_succ]
      refine hm_one (i := 3) (by kernel_rfl) ?_
      refine hm_step 3 rfl (by kernel_rfl) fun K hK => ?_
      try simp only [Act.put, List.getElem_toArray, List.getElem_cons_succ, List.getElem_cons_zero, List.setIfInBounds_toArray, List.set_cons_zero, List.set_cons_succ]
      go_simp
      go_at_call 25
      refine (rtext_any (Lib.hid (SC.out.below E2.out.mem.below))).mono ?_
      rintro e w_a ⟨p_a, g_a, c_a, rfl, N_a, hb_a⟩
      have E6_3 := Lib.hid (E2.out.call hb_a)
      have R_a := Lib.hid N_a.row
      clear hb_a N_a
      refine hK _ _ (E6_3.out.mem.get List.mem_cons_self) ?_
      clear hK K
      try simp only [Act.put, List.getElem_toArray, List.getElem_cons_succ, List.getElem_cons_zero, List.setIfInBounds_toArray, List.set_cons_zero, List.set_cons_succ]
      refine hm_one (i := 4) (by kernel_rfl) ?_
      refine hm_step 4 rfl (by kernel_rfl) fun K hK => ?_
      try simp only [Act.put, List.getElem_toArray, List.getElem_cons_succ, List.getElem_cons_zero, List.setIfInBounds_toArray, List.set_cons_zero, List.set_cons_succ]
      refine mo_wbl (.tmp 56) (.tmp 59) rfl E6_3 rfl rfl rfl R_a (by have := BD.out; have := IL.out; simp only [Z2.out, Z1.out, List.length_append, low_length]; omega) ?_
      intro p3 g3 c3 w3 z3 Z3 E7_4
      refine hK _ _ (E7_4.out.mem.get List.mem_cons_self) ?_
      clear hK K
      try simp only [Act.put, List.getElem_toArray, List.getElem_cons_succ, List.getElem_cons_zero, List.setIfInBounds_toArray, List.set_cons_zero, List.set_cons_succ]
      refine hm_one (i := 8) (by kernel_rfl) ?_
      refine hm_step 8 rfl (by kernel_rfl) fun K hK => ?_
      try simp only [Act.put, List.getElem_toArray, List.getElem_cons_succ, List.getElem_cons_zero, List.setIfInBounds_toArray, List.set_cons_zero, List.set_cons_succ]
      clear R_a
      go_simp
      go_at_call 22
      refine (low4 x.sq _).mono ?_
      rintro e w_a ⟨p_a, g_a, c_a, rfl, N_a, hb_a⟩
      have E8_8 := Lib.hid (E7_4.out.call hb_a)
      have R_a := Lib.hid N_a.row
      clear hb_a N_a
      refine hK _ _ (E8_8.out.mem.get List.mem_cons_self) ?_
      clear hK K
      try simp only [Act.put, List.getElem_toArray, List.getElem_cons_succ, List.getElem_cons_zero, List.setIfInBounds_toArray, List.set_cons_zero, List.set_cons_succ]
      refine hm_one (i := 9) (by kernel_rfl) ?_
      refine hm_step 9 rfl (by kernel_rfl) fun K hK => ?_
      try simp only [Act.put, List.getElem_toArray, List.getElem_cons_succ, List.getElem_cons_zero, List.setIfInBounds_toArray, List.set_cons_zero, List.set_cons_succ]
      refine mo_wbl (.tmp 60) (.tmp 64) rfl E8_8 rfl rfl rfl R_a (by have := BD.out; have := IL.out; simp only [Z3.out, Z2.out, Z1.out, List.length_append, low_length]; omega) ?_
      intro p4 g4 c4 w4 z4 Z4 E9_9
      refine hK _ _ (E9_9.out.mem.get List.mem_cons_self) ?_
      clear hK K
      try simp only [Act.put, List.getElem_toArray, List.getElem_cons_succ, List.getElem_cons_zero, List.setIfInBounds_toArray, List.set_cons_zero, List.set_cons_succ]
      refine hm_run 10 6 _ rfl rfl (by kernel_rfl) (by kernel_rfl) (by kernel_rfl) (fun _ _ _ h => h) rfl (fun _ _ => rfl) (E9_9.out.mem.get List.mem_cons_self) ?_
      try simp only [Act.put, List.getElem_toArray, List.getElem_cons_succ, List.getElem_cons_zero, List.setIfInBounds_toArray, List.set_cons_zero, List.set_cons_succ]
      refine wpAnyH_done (by kernel_rfl) ?_ _
      go_wp2_with fail
      go_roundg (n - (j + 1))
      case measure => omega
      case rel => exact ⟨j + 1, p4, g4, c4, z4, by omega, by go_num, rfl, Lib.hid (by rw [Z4.out, Z3.out, Z2.out, Z1.out, Z.out, FS.out]; unfold inB; simp only [List.append_assoc]), Lib.hid E9_9.out.tail⟩
    · obtain rfl : j = n := by omega
      have FI := Lib.hid (show fl (t.ins.map inB) j = (t.ins.map inB).flatten by
        have e := fl_all (t.ins.map inB)
        rwa [List.length_map, ← HN.out] at e)
      go_wp2_with (first
    | (refine mem_load_cell (Lib.hid K.out.mem) 56 rfl (.tmp 68) rfl rfl List.mem_cons_self Tryd.underlying56 rfl c2 ?_)
    | (refine mem_load_cell (Lib.hid K.out.mem) 56 rfl (.tmp 74) rfl rfl List.mem_cons_self Tryd.underlying56 rfl c2 ?_)
    | (go_at_call 11; (with_reducible refine (rcnt_any m _).mono ?_); rintro e wn8 ⟨p_n, g_n, c_n, rfl, N_n, hb_n⟩; replace K := Lib.hid (K.out.call hb_n); have R8 := Lib.hid N_n.row; clear hb_n N_n)
    | (at_builtin; refine wpList_wbl rfl (.tmp 67) (.tmp 72) rfl K rfl rfl rfl R8 (by have := LB.out; have h1 := SI.out j (Nat.le_refl _); rw [Z.out, Z7'.out]; simp only [List.length_append, low_length, List.length_cons, List.length_nil]; omega) ?_; clear K; intro p8 g8 c8 w8 z8 Z8 K))
      have Z8' : Hid (z8 = low t.ver 4 ++ listB inB t.ins ++ cnt m) := Lib.hid (by rw [Z8.out, Z.out, FI.out, Z7'.out]; unfold listB; rw [← HN.out]; simp only [List.append_assoc])
      clear Z8 Z Z7' FI
      go_loopg [6, 77] m (fun k s i wr => ∃ (j2 : Nat) (p : Option Addr) (g c : Nat) (zs : List Nat), j2 + k = m ∧ i = .int .i64 (j2 : Int) ∧ s = .slice p zs.length c ∧ Hid (zs = z8 ++ fl (t.outs.map outB) j2) ∧ Hid (Wb W [(b2, 58, arr 4 V)] p g c zs wr))
      case atStart => exact ⟨0, p8, g8, c8, z8, by omega, rfl, rfl, Lib.hid (by simp [fl]), K⟩
      case round =>
        clear K
        obtain ⟨j2, p, g, c, zs, hj2, rfl, rfl, Z, K⟩ := hrel
        obtain ⟨k2, rfl⟩ : ∃ k2 : Nat, k2 = gk := ⟨_, rfl⟩
        by_cases hlt2 : j2 < m
        · obtain rfl := RO.out.head (by omega)
          have ht : j2 < t.outs.length := by rw [← HM.out]; exact hlt2
          obtain ⟨x, hx⟩ : ∃ x, x = t.outs[j2] := ⟨_, rfl⟩
          have OC : Hid (OutCells W (fun i => Vo (j2 * 2 + i)) x) := Lib.hid (by rw [hx]; exact TO.out j2 ht)
          have FS := Lib.hid (show fl (t.outs.map outB) (j2 + 1) = fl (t.outs.map outB) j2 ++ outB x by rw [fl_succ _ (by rw [List.length_map]; exact ht), List.getElem_map, hx])
          have BD : Hid (zs.length + 8 + (text x.sc).length ≤ 140737488355328) := Lib.hid (by
            have h1 := SO.out (j2 + 1) (by omega)
            have h2 := LB.out
            have h3 := SI.out j (Nat.le_refl _)
            rw [FS.out, List.length_append] at h1
            rw [outB_length] at h1
            rw [Z.out, Z8'.out]
            unfold listB
            rw [← HN.out]
            simp only [List.length_append, low_length, List.length_cons, List.length_nil]
            omega)
          have IL := Lib.hid (rfl : (0 : Nat) = 0)
          have SC := Lib.hid OC.out.sc
          obtain ⟨Vs, hVs⟩ : ∃ Vs, Vs = Vo (j2 * 2 + 1) := ⟨_, rfl⟩
          have SC : Hid (TextAt W Vs x.sc) := Lib.hid (by rw [hVs]; exact SC.out)
          have a0 : (arr 2 fun i => Vo (j2 * 2 + i))[0]? = some (.int .i64 x.val) := by rw [arr_get 2 _ 0 (by omega), OC.out.val]
          have a1 : (arr 2 fun i => Vo (j2 * 2 + i))[1]? = some Vs := by rw [arr_get 2 _ 1 (by omega), hVs]
          have wr1 : Hid ((Tryd.prog.underlying 2).isSome = true ∧ IntKind.u64.wrap x.val = ((val64 x.val : Nat) : Int)) := Lib.hid ⟨by kernel_rfl, by rw [IntKind.wrap_u64]; unfold val64; rw [Int.toNat_of_nonneg (by omega)]⟩
          clear hx hVs
          go_upto_region 18 with (first
            | (refine wpList_ix (k := 2) (j := j2) Tryd.underlying56 (by kernel_rfl) (.tmp 75) (.tmp 77) rfl rfl rfl rfl hlt2 rfl ?_)
            | (refine wpList_ld 77 (.tmp 79) rfl rfl rfl ((RO.out.below K.out.mem.below).load hlt2 Tryd.underlying77 rfl (by kernel_rfl)) ?_)
            | (refine wb_alloc K 77 (by decide) rfl rfl infoOut ?_; clear K; intro b10 w4 K)
            | (refine wb_store_row 0 K 77 rfl (.tmp 10) (.tmp 80) rfl rfl rfl rfl (by kernel_rfl) (by rw [arr_size]; rfl) (RO.out.arr_one hlt2) ?_; clear K; intro w5 K; simp only [List.set_cons_zero, List.set_cons_succ] at K))
          refine wp_region_wb (S := fun W' => W'.heap[b10]? = some (.cells (arr 2 fun i => Vo (j2 * 2 + i)) 77 (0, 0))) K (by kernel_rfl) ?_
          clear K
          intro wx E1
          refine hm_run 0 81 _ rfl rfl (by kernel_rfl) (by kernel_rfl) (by kernel_rfl) (fun _ _ _ h => h) rfl (fun _ _ => rfl) (E1.out.mem.get List.mem_cons_self) ?_
          try simp only [Act.put, List.getElem_toArray, List.getElem_cons_succ, List.getElem_cons_zero, List.setIfInBounds_toArray, List.set_cons_zero, List.set_cons_succ]
          refine hm_run 1 82 (.pointer (some ⟨b10, 0, none⟩)) rfl rfl (by kernel_rfl) (by kernel_rfl) (by kernel_rfl) (fun _ _ _ h => h) rfl (fun _ _ => by kernel_rfl) (E1.out.mem.get List.mem_cons_self) ?_
          try simp only [Act.put, List.getElem_toArray, List.getElem_cons_succ, List.getElem_cons_zero, List.setIfInBounds_toArray, List.set_cons_zero, List.set_cons_succ]
          refine hm_run 2 83 (.int .i64 x.val) rfl rfl (by kernel_rfl) (by kernel_rfl) (by kernel_rfl) (fun _ _ _ h => h) rfl (fun W hW => exec_load rfl (run_load_one Tryd.underlying2 rfl (cell_of_here hW 0 a0))) (E1.out.mem.get List.mem_cons_self) ?_
          try simp only [Act.put, List.getElem_toArray, List.getElem_cons_succ, List.getElem_cons_zero, List.setIfInBounds_toArray, List.set_cons_zero, List.set_cons_succ]
          refine hm_run 3 84 (.int .u64 ((val64 x.val : Nat) : Int)) rfl rfl (by kernel_rfl) (by kernel_rfl) (by kernel_rfl) (fun _ _ _ h => h) rfl (fun W _ => exec_cv rfl rfl wr1.out) (E1.out.mem.get List.mem_cons_self) ?_
          try simp only [Act.put, List.getElem_toArray, List.getElem_cons_succ, List.getElem_cons_zero, List.setIfInBounds_toArray, List.set_cons_zero, List.set_cons_succ]
          refine hm_run 6 87 (.pointer (some ⟨b10, 1, none⟩)) rfl rfl (by kernel_rfl) (by kernel_rfl) (by kernel_rfl) (fun _ _ _ h => h) rfl (fun _ _ => by kernel_rfl) (E1.out.mem.get List.mem_cons_self) ?_
          try simp only [Act.put, List.getElem_toArray, List.getElem_cons_succ, List.getElem_cons_zero, List.setIfInBounds_toArray, List.set_cons_zero, List.set_cons_succ]
          refine hm_run 7 88 Vs rfl rfl (by kernel_rfl) (by kernel_rfl) (by kernel_rfl) (fun _ _ _ h => h) rfl (fun W hW => exec_load rfl (run_load_one Tryd.underlying30 rfl (cell_of_here hW 1 a1))) (E1.out.mem.get List.mem_cons_self) ?_
          try simp only [Act.put, List.getElem_toArray, List.getElem_cons_succ, List.getElem_cons_zero, List.setIfInBounds_toArray, List.set_cons_zero, List.set_cons_succ]
          refine hm_one (i := 4) (by kernel_rfl) ?_
          refine hm_step 4 rfl (by kernel_rfl) fun K hK => ?_
          try simp only [Act.put, List.getElem_toArray, List.getElem_cons_succ, List.getElem_cons_zero, List.setIfInBounds_toArray, List.set_cons_zero, List.set_cons_succ]
          go_simp
          go_at_call 22
          refine (low8 (val64 x.val) _).mono ?_
          rintro e w_a ⟨p_a, g_a, c_a, rfl, N_a, hb_a⟩
          have E6_4 := Lib.hid (E1.out.call hb_a)
          have R_a := Lib.hid N_a.row
          clear hb_a N_a
          refine hK _ _ (E6_4.out.mem.get List.mem_cons_self) ?_
          clear hK K
          try simp only [Act.put, List.getElem_toArray, List.getElem_cons_succ, List.getElem_cons_zero, List.setIfInBounds_toArray, List.set_cons_zero, List.set_cons_succ]
          refine hm_one (i := 5) (by kernel_rfl) ?_
          refine hm_step 5 rfl (by kernel_rfl) fun K hK => ?_
          try simp only [Act.put, List.getElem_toArray, List.getElem_cons_succ, List.getElem_cons_zero, List.setIfInBounds_toArray, List.set_cons_zero, List.set_cons_succ]
          refine mo_wbl (.tmp 81) (.tmp 85) rfl E6_4 rfl rfl rfl R_a (by have := BD.out; have := IL.out; simp only [low_length]; omega) ?_
          intro p1 g1 c1 w1 z1 Z1 E7_5
          refine hK _ _ (E7_5.out.mem.get List.mem_cons_self) ?_
          clear hK K
          try simp only [Act.put, List.getElem_toArray, List.getElem_cons_succ, List.getElem_cons_zero, List.setIfInBounds_toArray, List.set_cons_zero, List.set_cons_succ]
          refine hm_one (i := 8) (by kernel_rfl) ?_
          refine hm_step 8 rfl (by kernel_rfl) fun K hK => ?_
          try simp only [Act.put, List.getElem_toArray, List.getElem_cons_succ, List.getElem_cons_zero, List.setIfInBounds_toArray, List.set_cons_zero, List.set_cons_succ]
          clear R_a
          go_simp
          go_at_call 25
          refine (rtext_any (Lib.hid (SC.out.below E7_5.out.mem.below))).mono ?_
          rintro e w_a ⟨p_a, g_a, c_a, rfl, N_a, hb_a⟩
          have E8_8 := Lib.hid (E7_5.out.call hb_a)
          have R_a := Lib.hid N_a.row
          clear hb_a N_a
          refine hK _ _ (E8_8.out.mem.get List.mem_cons_self) ?_
          clear hK K
          try simp only [Act.put, List.getElem_toArray, List.getElem_cons_succ, List.getElem_cons_zero, List.setIfInBounds_toArray, List.set_cons_zero, List.set_cons_succ]
          refine hm_one (i := 9) (by kernel_rfl) ?_
          refine hm_step 9 rfl (by kernel_rfl) fun K hK => ?_
          try simp only [Act.put, List.getElem_toArray, List.getElem_cons_succ, List.getElem_cons_zero, List.setIfInBounds_toArray, List.set_cons_zero, List.set_cons_succ]
          refine mo_wbl (.tmp 86) (.tmp 89) rfl E8_8 rfl rfl rfl R_a (by have := BD.out; have := IL.out; simp only [Z1.out, List.length_append, low_length]; omega) ?_
          intro p2 g2 c2 w2 z2 Z2 E9_9
          refine hK _ _ (E9_9.out.mem.get List.mem_cons_self) ?_
          clear hK K
          try simp only [Act.put, List.getElem_toArray, List.getElem_cons_succ, List.getElem_cons_zero, List.setIfInBounds_toArray, List.set_cons_zero, List.set_cons_succ]
          refine hm_run 10 6 _ rfl rfl (by kernel_rfl) (by kernel_rfl) (by kernel_rfl) (fun _ _ _ h => h) rfl (fun _ _ => rfl) (E9_9.out.mem.get List.mem_cons_self) ?_
          try simp only [Act.put, List.getElem_toArray, List.getElem_cons_succ, List.getElem_cons_zero, List.setIfInBounds_toArray, List.set_cons_zero, List.set_cons_succ]
          refine wpAnyH_done (by kernel_rfl) ?_ _
          go_wp2_with fail
          go_roundg (m - (j2 + 1))
          case measure => omega
          case rel => exact ⟨j2 + 1, p2, g2, c2, z2, by omega, by go_num, rfl, Lib.hid (by rw [Z2.out, Z1.out, Z.out, FS.out]; unfold outB; simp only [List.append_assoc]), Lib.hid E9_9.out.tail⟩
        · obtain rfl : j2 = m := by omega
          have FO := Lib.hid (show fl (t.outs.map outB) j2 = (t.outs.map outB).flatten by
            have e := fl_all (t.outs.map outB)
            rwa [List.length_map, ← HM.out] at e)
          have Z9 : Hid (zs = low t.ver 4 ++ listB inB t.ins ++ listB outB t.outs) := Lib.hid (by rw [Z.out, FO.out, Z8'.out]; unfold listB; rw [← HM.out]; simp only [List.append_assoc])
          have LZ : Hid (zs.length ≤ 40132100) := Lib.hid (by
            have h := LB.out
            rw [Z9.out]
            unfold listB
            rw [← HN.out, ← HM.out]
            simp only [List.length_append, low_length, List.length_cons, List.length_nil]
            omega)
          clear Z FO Z8'
          go_wp2_with (refine mem_load_cell (Lib.hid K.out.mem) 55 rfl (.tmp 92) rfl rfl List.mem_cons_self Tryd.underlying55 rfl c1 ?_)
          obtain ⟨n', rfl⟩ : ∃ n', j = n' + 1 := ⟨j - 1, by omega⟩
          obtain rfl := RI.out.head (by omega)
          go_loopg [6, 95] 0 (fun k s i wr => i = .int .i64 0 ∧ s = .slice p zs.length c ∧ Hid (Wb W [(b2, 58, arr 4 V)] p g c zs wr))
          case atStart => exact ⟨rfl, rfl, K⟩
          case round =>
            clear K
            obtain ⟨rfl, rfl, K⟩ := hrel
            have hlt3 : (0 : Int) < ((n' + 1 : Nat) : Int) := by omega
            go_wp2_with (first
              | (refine mem_load_cell (Lib.hid K.out.mem) 22 rfl (.tmp 122) rfl rfl List.mem_cons_self Tryd.underlying22 rfl c3 ?_)
              | (go_at_call 22; (with_reducible refine (low4 t.lock _).mono ?_); rintro e wl ⟨p_l, g_l, c_l, rfl, N_l, hb_l⟩; replace K := Lib.hid (K.out.call hb_l); have RL := Lib.hid N_l.row; clear hb_l N_l)
              | (at_builtin; refine wpList_wbl rfl (.tmp 121) (.tmp 125) rfl K rfl rfl rfl RL (by have := LZ.out; rw [low_length]; omega) ?_; clear K; intro p9 g9 c9 w9 z9 Z10 K)
              | (refine wpList_ix (k := 36) (j := 0) Tryd.underlying55 (by kernel_rfl) (.tmp 93) (.tmp 95) rfl rfl rfl rfl (by omega) rfl ?_)
              | (refine wpList_ld 75 (.tmp 97) rfl rfl rfl ((RI.out.below K.out.mem.below).load (i := 0) (by omega) Tryd.underlying75 rfl (by kernel_rfl)) ?_)
              | (refine wb_alloc K 75 (by decide) rfl rfl infoIn ?_; clear K; intro b12 w4 K; simp only [arr_cells'] at K)
              | (refine wb_store_row 0 K 75 rfl (.tmp 12) (.tmp 98) rfl rfl rfl rfl (by kernel_rfl) (by simp only [arr_size]) (RI.out.arr_one (i := 0) (by omega)) ?_; clear K; intro w5 K; simp only [List.set_cons_zero, List.set_cons_succ] at K; replace K := Lib.hid K.out.tail))
            refine bodyPost_ret (res2 (fn := Tryd.f12) rfl _ _) rfl ?_
            exact Enc.of HC.out (by rw [Z10.out, Z9.out]; unfold txB; simp) K.out

set_option maxHeartbeats 16000000 in
theorem rtxenc_marked {W : World} {V : Nat → Value} {t : TTx} (A : Hid (TxCells W V t)) (hc : canB t = true) (hh : t.ins.any hasB = true) : Calls Tryd.prog 12 #[.agg (arr 4 V), .bool true] W (Enc W t true) := by
  have E := Lib.hid (Mem.nil W)
  have AT : TxAt W (.agg (arr 4 V)) t := ⟨V, rfl, A.out⟩
  have c0 : (arr 4 V)[0]? = some (.int .u32 ((t.ver : Nat) : Int)) := by rw [arr_get 4 V 0 (by omega), A.out.ver]; rfl
  have c3 : (arr 4 V)[3]? = some (.int .u32 ((t.lock : Nat) : Int)) := by rw [arr_get 4 V 3 (by omega), A.out.lock]; rfl
  have cw0 : IntKind.u64.wrap (t.ver : Int) = (t.ver : Int) := wrap_u32 A.out.verB
  have cw3 : IntKind.u64.wrap (t.lock : Int) = (t.lock : Int) := wrap_u32 A.out.lockB
  have HC := Lib.hid hc
  have CF := can_facts hc
  have BD0 := Lib.hid (parts_le CF A.out.idlen)
  have CAN := Lib.hid (show ∀ w', Below W.heap.size W w' → Calls Tryd.prog 23 #[.agg (arr 4 V)] w' fun e w'' => e = .returned (.bool true) ∧ Below w'.heap.size w' w'' from fun w' hb => by
    have := rcan_any (Lib.hid (AT.below hb))
    rwa [hc] at this)
  have HASW := Lib.hid (show ∀ w', Below W.heap.size W w' → Calls Tryd.prog 24 #[.agg (arr 4 V)] w' fun e w'' => e = .returned (.bool true) ∧ Below w'.heap.size w' w'' from fun w' hb => by
    have := rhas_any (Lib.hid (AT.below hb))
    rwa [hh] at this)
  obtain ⟨pi, gi, oi, ci, Vi, hvi, hci, Ri, hii⟩ := A.out.ins
  obtain ⟨po, go, oo, co, Vo, hvo, hco, Ro, hoo⟩ := A.out.outs
  have RI := Lib.hid Ri
  have RO := Lib.hid Ro
  have TI := Lib.hid hii
  have TO := Lib.hid hoo
  have n0 := CF.n0
  have N1 := CF.n1
  have M1 := CF.m1
  have SI := Lib.hid (show ∀ j, j ≤ t.ins.length → (fl (t.ins.map inB) j).length ≤ ((t.ins.map inB).flatten).length from fun j hj => by
    rw [← fl_all, fl_length, fl_length]; exact sm_le _ (by rw [List.length_map]; exact hj))
  have SO := Lib.hid (show ∀ j, j ≤ t.outs.length → (fl (t.outs.map outB) j).length ≤ ((t.outs.map outB).flatten).length from fun j hj => by
    rw [← fl_all, fl_length, fl_length]; exact sm_le _ (by rw [List.length_map]; exact hj))
  have SW := Lib.hid (show ∀ j, j ≤ t.ins.length → (fl (t.ins.map witB) j).length ≤ ((t.ins.map witB).flatten).length from fun j hj => by
    rw [← fl_all, fl_length, fl_length]; exact sm_le _ (by rw [List.length_map]; exact hj))
  obtain ⟨n, hn⟩ : ∃ n, n = t.ins.length := ⟨_, rfl⟩
  obtain ⟨m, hm⟩ : ∃ m, m = t.outs.length := ⟨_, rfl⟩
  have HN := Lib.hid hn
  have HM := Lib.hid hm
  rw [← hn] at RI N1 SI SW n0 hvi
  rw [← hm] at RO M1 SO hvo
  have c1 : (arr 4 V)[1]? = some (.slice pi n ci) := by rw [arr_get 4 V 1 (by omega), hvi]
  have c2 : (arr 4 V)[2]? = some (.slice po m co) := by rw [arr_get 4 V 2 (by omega), hvo]
  have cwn : IntKind.u64.wrap (n : Int) = (n : Int) := by rw [IntKind.wrap_u64]; omega
  have cwm : IntKind.u64.wrap (m : Int) = (m : Int) := by rw [IntKind.wrap_u64]; omega
  have LB : Hid ((cnt n).length ≤ 9 ∧ (cnt m).length ≤ 9 ∧ ((t.ins.map inB).flatten).length ≤ 20098009 ∧ ((t.outs.map outB).flatten).length ≤ 20034009 ∧ ((t.ins.map witB).flatten).length ≤ 2001818000) := Lib.hid (by
    have h := BD0.out
    unfold listB at h
    simp only [List.length_append] at h
    have h1 := (cnt_le n).2
    have h2 := (cnt_le m).2
    omega)
  clear hn hm hvi hci Ri hii hvo hco Ro hoo A AT hc CF BD0
  go_enter Tryd.func12, Tryd.ntmps12
  go_wp2_with (first
    | (refine mem_box E 58 rfl _ rfl rfl (arr_cells' 4 V) ?_; clear E; intro b2 w2 E)
    | (refine mem_load_row E 58 rfl (.tmp 2) rfl rfl List.mem_cons_self Tryd.underlying58 rfl (by simp only [arr_size]; kernel_rfl) ?_)
    | (go_at_call 23; refine (CAN.out _ E.out.below).mono ?_; rintro e w3 ⟨rfl, hb⟩; replace E := Lib.hid (E.out.call hb); clear hb)
    | (go_at_call 24; refine (HASW.out _ E.out.below).mono ?_; rintro e w4 ⟨rfl, hb⟩; replace E := Lib.hid (E.out.call hb); clear hb)
    | (refine mem_load_cell E 22 rfl (.tmp 23) rfl rfl List.mem_cons_self Tryd.underlying22 rfl c0 ?_)
    | (go_at_call 22; (with_reducible refine (low4 t.ver _).mono ?_); rintro e w5 ⟨p5, g5, c5, rfl, N5, hb5⟩; obtain ⟨z5, hz5⟩ : ∃ z, z = low t.ver 4 := ⟨_, rfl⟩; rw [← hz5] at N5 ⊢; have Z5 := Lib.hid hz5; have K := Lib.hid (Wb.start E.out (nb_one (by decide)) N5 hb5); clear hb5 N5 E hz5)
    | (refine wb_bs K _ rfl rfl [0, 1] isB_01 (ps := #[(0, .int .u8 0), (1, .int .u8 1)]) (by kernel_rfl) (cs := #[.int .u8 0, .int .u8 1]) (fun W => run_bs2v Tryd.underlying30 infoB _ _ rfl rfl W) fbs_01 (by unfold maxLen; omega) ?_; clear K; intro bm wm Rm K)
    | (at_builtin; refine wpList_wbl rfl (.tmp 28) (.tmp 29) rfl K rfl rfl (ys := [0, 1]) rfl Rm (by rw [Z5.out, low_length]; simp) ?_; clear K; intro p6 g6 c6 w6 z6 Z6 K)
    | (refine mem_load_cell (Lib.hid K.out.mem) 55 rfl (.tmp 32) rfl rfl List.mem_cons_self Tryd.underlying55 rfl c1 ?_)
    | (refine mem_load_cell (Lib.hid K.out.mem) 55 rfl (.tmp 38) rfl rfl List.mem_cons_self Tryd.underlying55 rfl c1 ?_)
    | (go_at_call 11; (with_reducible refine (rcnt_any n _).mono ?_); rintro e wn7 ⟨p_n, g_n, c_n, rfl, N_n, hb_n⟩; replace K := Lib.hid (K.out.call hb_n); have R7 := Lib.hid N_n.row; clear hb_n N_n)
    | (at_builtin; refine wpList_wbl rfl (.tmp 31) (.tmp 36) rfl K rfl rfl rfl R7 (by have := LB.out; simp only [Z6.out, Z5.out, List.length_append, low_length, List.length_cons, List.length_nil]; omega) ?_; clear K; intro p7 g7 c7 w7 z7 Z7 K))
  have Z7' : Hid (z7 = low t.ver 4 ++ [0, 1] ++ cnt n) := Lib.hid (by rw [Z7.out, Z6.out, Z5.out])
  clear Z5 Z6 Z7
  go_loopg [6, 41] n (fun k s i wr => ∃ (j : Nat) (p : Option Addr) (g c : Nat) (zs : List Nat), j + k = n ∧ i = .int .i64 (j : Int) ∧ s = .slice p zs.length c ∧ Hid (zs = z7 ++ fl (t.ins.map inB) j) ∧ Hid (Wb W [(b2, 58, arr 4 V)] p g c zs wr))
  case atStart => exact ⟨0, p7, g7, c7, z7, by omega, rfl, rfl, Lib.hid (by simp [fl]), K⟩
  case round =>
    clear K
    obtain ⟨j, p, g, c, zs, hj, rfl, rfl, Z, K⟩ := hrel
    obtain ⟨kk, rfl⟩ : ∃ kk : Nat, kk = gk := ⟨_, rfl⟩
    by_cases hlt : j < n
    · obtain rfl := RI.out.head (by omega)
      have ht : j < t.ins.length := by rw [← HN.out]; exact hlt
      obtain ⟨x, hx⟩ : ∃ x, x = t.ins[j] := ⟨_, rfl⟩
      have IC : Hid (InCells W (fun i => Vi (j * 36 + i)) x) := Lib.hid (by rw [hx]; exact TI.out j ht)
      have FS := Lib.hid (show fl (t.ins.map inB) (j + 1) = fl (t.ins.map inB) j ++ inB x by rw [fl_succ _ (by rw [List.length_map]; exact ht), List.getElem_map, hx])
      have BD : Hid (zs.length + 32 + 4 + (text x.sc).length + 4 ≤ 140737488355328) := Lib.hid (by
        have h1 := SI.out (j + 1) (by omega)
        have h2 := LB.out
        rw [FS.out, List.length_append] at h1
        rw [inB_length IC.out.len] at h1
        rw [Z.out, Z7'.out]
        simp only [List.length_append, low_length, List.length_cons, List.length_nil]
        omega)
      have IL := Lib.hid IC.out.len
      have SC := Lib.hid IC.out.sc
      obtain ⟨Vs, hVs⟩ : ∃ Vs, Vs = Vi (j * 36 + 33) := ⟨_, rfl⟩
      have SC : Hid (TextAt W Vs x.sc) := Lib.hid (by rw [hVs]; exact SC.out)
      have a32 : (arr 36 fun i => Vi (j * 36 + i))[32]? = some (.int .u32 ((x.idx : Nat) : Int)) := by rw [arr_get 36 _ 32 (by omega), IC.out.idx]; rfl
      have a33 : (arr 36 fun i => Vi (j * 36 + i))[33]? = some Vs := by rw [arr_get 36 _ 33 (by omega), hVs]
      have a34 : (arr 36 fun i => Vi (j * 36 + i))[34]? = some (.int .u32 ((x.sq : Nat) : Int)) := by rw [arr_get 36 _ 34 (by omega), IC.out.sq]; rfl
      have wr1 : Hid ((Tryd.prog.underlying 22).isSome = true ∧ IntKind.u64.wrap (x.idx : Int) = (x.idx : Int)) := Lib.hid ⟨by kernel_rfl, wrap_u32 IC.out.idxB⟩
      have wr2 : Hid ((Tryd.prog.underlying 22).isSome = true ∧ IntKind.u64.wrap (x.sq : Int) = (x.sq : Int)) := Lib.hid ⟨by kernel_rfl, wrap_u32 IC.out.sqB⟩
      clear hx hVs
      go_upto_region 11 with (first
        | (refine wpList_ix (k := 36) (j := j) Tryd.underlying55 (by kernel_rfl) (.tmp 39) (.tmp 41) rfl rfl rfl rfl hlt rfl ?_)
        | (refine wpList_ld 75 (.tmp 43) rfl rfl rfl ((RI.out.below K.out.mem.below).load hlt Tryd.underlying75 rfl (by kernel_rfl)) ?_)
        | (refine wb_alloc K 75 (by decide) rfl rfl infoIn ?_; clear K; intro b8 w4 K; simp only [arr_cells'] at K)
        | (refine wb_store_row 0 K 75 rfl (.tmp 8) (.tmp 44) rfl rfl rfl rfl (by kernel_rfl) (by simp only [arr_size]) (RI.out.arr_one hlt) ?_; clear K; intro w5 K; simp only [List.set_cons_zero, List.set_cons_succ] at K))
      refine wp_region_wb (S := fun W' => W'.heap[b8]? = some (.cells (arr 36 fun i => Vi (j * 36 + i)) 75 (0, 0))) K (by kernel_rfl) ?_
      clear K
      intro wx E1
      refine hm_run 0 45 _ rfl rfl (by kernel_rfl) (by kernel_rfl) (by kernel_rfl) (fun _ _ _ h => h) rfl (fun _ _ => rfl) (E1.out.mem.get List.mem_cons_self) ?_
      try simp only [Act.put, List.getElem_toArray, List.getElem_cons_succ, List.getElem_cons_zero, List.setIfInBounds_toArray, List.set_cons_zero, List.set_cons_succ]
      refine hm_run 1 46 (.pointer (some ⟨b8, 0, none⟩)) rfl rfl (by kernel_rfl) (by kernel_rfl) (by kernel_rfl) (fun _ _ _ h => h) rfl (fun _ _ => by kernel_rfl) (E1.out.mem.get List.mem_cons_self) ?_
      try simp only [Act.put, List.getElem_toArray, List.getElem_cons_succ, List.getElem_cons_zero, List.setIfInBounds_toArray, List.set_cons_zero, List.set_cons_succ]
      refine hm_run 2 47 (.pointer (some ⟨b8, 0, none⟩)) rfl rfl (by kernel_rfl) (by kernel_rfl) (by kernel_rfl) (fun _ _ _ h => h) rfl (fun _ _ => by kernel_rfl) (E1.out.mem.get List.mem_cons_self) ?_
      try simp only [Act.put, List.getElem_toArray, List.getElem_cons_succ, List.getElem_cons_zero, List.setIfInBounds_toArray, List.set_cons_zero, List.set_cons_succ]
      refine hm_run 3 48 (.slice (some ⟨b8, 0, none⟩) 32 32) rfl rfl (by kernel_rfl) (by kernel_rfl) (by kernel_rfl) (fun _ _ _ h => h) rfl (fun W _ => exec_sl rfl (run_hash b8 0 W)) (E1.out.mem.get List.mem_cons_self) ?_
      try simp only [Act.put, List.getElem_toArray, List.getElem_cons_succ, List.getElem_cons_zero, List.setIfInBounds_toArray, List.set_cons_zero, List.set_cons_succ]
      refine hm_run 5 50 (.pointer (some ⟨b8, 0, none⟩)) rfl rfl (by kernel_rfl) (by kernel_rfl) (by kernel_rfl) (fun _ _ _ h => h) rfl (fun _ _ => by kernel_rfl) (E1.out.mem.get List.mem_cons_self) ?_
      try simp only [Act.put, List.getElem_toArray, List.getElem_cons_succ, List.getElem_cons_zero, List.setIfInBounds_toArray, List.set_cons_zero, List.set_cons_succ]
      refine hm_run 6 51 (.pointer (some ⟨b8, 32, none⟩)) rfl rfl (by kernel_rfl) (by kernel_rfl) (by kernel_rfl) (fun _ _ _ h => h) rfl (fun _ _ => by kernel_rfl) (E1.out.mem.get List.mem_cons_self) ?_
      try simp only [Act.put, List.getElem_toArray, List.getElem_cons_succ, List.getElem_cons_zero, List.setIfInBounds_toArray, List.set_cons_zero, List.set_cons_succ]
      refine hm_run 7 52 (.int .u32 ((x.idx : Nat) : Int)) rfl rfl (by kernel_rfl) (by kernel_rfl) (by kernel_rfl) (fun _ _ _ h => h) rfl (fun W hW => exec_load rfl (run_load_one Tryd.underlying22 rfl (cell_of_here hW 32 a32))) (E1.out.mem.get List.mem_cons_self) ?_
      try simp only [Act.put, List.getElem_toArray, List.getElem_cons_succ, List.getElem_cons_zero, List.setIfInBounds_toArray, List.set_cons_zero, List.set_cons_succ]
      refine hm_run 8 53 (.int .u64 ((x.idx : Nat) : Int)) rfl rfl (by kernel_rfl) (by kernel_rfl) (by kernel_rfl) (fun _ _ _ h => h) rfl (fun W _ => exec_cv rfl rfl wr1.out) (E1.out.mem.get List.mem_cons_self) ?_
      try simp only [Act.put, List.getElem_toArray, List.getElem_cons_succ, List.getElem_cons_zero, List.setIfInBounds_toArray, List.set_cons_zero, List.set_cons_succ]
      refine hm_one (i := 4) (by kernel_rfl) ?_
      refine hm_step 4 rfl (by kernel_rfl) fun K hK => ?_
      try simp only [Act.put, List.getElem_toArray, List.getElem_cons_succ, List.getElem_cons_zero, List.setIfInBounds_toArray, List.set_cons_zero, List.set_cons_succ]
      refine mo_wb (.tmp 45) (.tmp 48) rfl E1 rfl rfl rfl (Lib.hid (IC.out.idRow (E1.out.mem.get List.mem_cons_self))) (by have := BD.out; omega) ?_
      intro p1 g1 c1 w1 z1 Z1 E8_4
      rw [IC.out.idTl] at Z1
      refine hK _ _ (E8_4.out.mem.get List.mem_cons_self) ?_
      clear hK K
      try simp only [Act.put, List.getElem_toArray, List.getElem_cons_succ, List.getElem_cons_zero, List.setIfInBounds_toArray, List.set_cons_zero, List.set_cons_succ]
      refine hm_one (i := 9) (by kernel_rfl) ?_
      refine hm_step 9 rfl (by kernel_rfl) fun K hK => ?_
      try simp only [Act.put, List.getElem_toArray, List.getElem_cons_succ, List.getElem_cons_zero, List.setIfInBounds_toArray, List.set_cons_zero, List.set_cons_succ]
      go_simp
      go_at_call 22
      refine (low4 x.idx _).mono ?_
      rintro e w_a ⟨p_a, g_a, c_a, rfl, N_a, hb_a⟩
      have E9_9 := Lib.hid (E8_4.out.call hb_a)
      have R_a := Lib.hid N_a.row
      clear hb_a N_a
      refine hK _ _ (E9_9.out.mem.get List.mem_cons_self) ?_
      clear hK K
      try simp only [Act.put, List.getElem_toArray, List.getElem_cons_succ, List.getElem_cons_zero, List.setIfInBounds_toArray, List.set_cons_zero, List.set_cons_succ]
      refine hm_one (i := 10) (by kernel_rfl) ?_
      refine hm_step 10 rfl (by kernel_rfl) fun K hK => ?_
      try simp only [Act.put, List.getElem_toArray, List.getElem_cons_succ, List.getElem_cons_zero, List.setIfInBounds_toArray, List.set_cons_zero, List.set_cons_succ]
      refine mo_wbl (.tmp 49) (.tmp 54) rfl E9_9 rfl rfl rfl R_a (by have := BD.out; have := IL.out; simp only [Z1.out, List.length_append, low_length]; omega) ?_
      intro p2 g2 c2 w2 z2 Z2 E10_10
      refine hK _ _ (E10_10.out.mem.get List.mem_cons_self) ?_
      clear hK K
      try simp only [Act.put, List.getElem_toArray, List.getElem_cons_succ, List.getElem_cons_zero, List.setIfInBounds_toArray, List.set_cons_zero, List.set_cons_succ]
      refine hm_run 11 6 _ rfl rfl (by kernel_rfl) (by kernel_rfl) (by kernel_rfl) (fun _ _ _ h => h) rfl (fun _ _ => rfl) (E10_10.out.mem.get List.mem_cons_self) ?_
      try simp only [Act.put, List.getElem_toArray, List.getElem_cons_succ, List.getElem_cons_zero, List.setIfInBounds_toArray, List.set_cons_zero, List.set_cons_succ]
      refine wpAnyH_done (by kernel_rfl) ?_ _
      clear R_a
      have K2 := E10_10
      go_upto_region 12 with fail
      refine wp_region_wb (S := fun W' => W'.heap[b8]? = some (.cells (arr 36 fun i => Vi (j * 36 + i)) 75 (0, 0))) K2 (by kernel_rfl) ?_
      intro wy E2
      refine hm_run 0 56 _ rfl rfl (by kernel_rfl) (by kernel_rfl) (by kernel_rfl) (fun _ _ _ h => h) rfl (fun _ _ => rfl) (E2.out.mem.get List.mem_cons_self) ?_
      try simp only [Act.put, List.getElem_toArray, List.getElem_cons_succ, List.getElem_cons_zero, List.setIfInBounds_toArray, List.set_cons_zero, List.set_cons_succ]
      refine hm_run 1 57 (.pointer (some ⟨b8, 33, none⟩)) rfl rfl (by kernel_rfl) (by kernel_rfl) (by kernel_rfl) (fun _ _ _ h => h) rfl (fun _ _ => by kernel_rfl) (E2.out.mem.get List.mem_cons_self) ?_
      try simp only [Act.put, List.getElem_toArray, List.getElem_cons_succ, List.getElem_cons_zero, List.setIfInBounds_toArray, List.set_cons_zero, List.set_cons_succ]
      refine hm_run 2 58 Vs rfl rfl (by kernel_rfl) (by kernel_rfl) (by kernel_rfl) (fun _ _ _ h => h) rfl (fun W hW => exec_load rfl (run_load_one Tryd.underlying30 rfl (cell_of_here hW 33 a33))) (E2.out.mem.get List.mem_cons_self) ?_
      try simp only [Act.put, List.getElem_toArray, List.getElem_cons_succ, List.getElem_cons_zero, List.setIfInBounds_toArray, List.set_cons_zero, List.set_cons_succ]
      refine hm_run 5 61 (.pointer (some ⟨b8, 34, none⟩)) rfl rfl (by kernel_rfl) (by kernel_rfl) (by kernel_rfl) (fun _ _ _ h => h) rfl (fun _ _ => by kernel_rfl) (E2.out.mem.get List.mem_cons_self) ?_
      try simp only [Act.put, List.getElem_toArray, List.getElem_cons_succ, List.getElem_cons_zero, List.setIfInBounds_toArray, List.set_cons_zero, List.set_cons_succ]
      refine hm_run 6 62 (.int .u32 ((x.sq : Nat) : Int)) rfl rfl (by kernel_rfl) (by kernel_rfl) (by kernel_rfl) (fun _ _ _ h => h) rfl (fun W hW => exec_load rfl (run_load_one Tryd.underlying22 rfl (cell_of_here hW 34 a34))) (E2.out.mem.get List.mem_cons_self) ?_
      try simp only [Act.put, List.getElem_toArray, List.getElem_cons_succ, List.getElem_cons_zero, List.setIfInBounds_toArray, List.set_cons_zero, List.set_cons_succ]
      refine hm_run 7 63 (.int .u64 ((x.sq : Nat) : Int)) rfl rfl (by kernel_rfl) (by kernel_rfl) (by kernel_rfl) (fun _ _ _ h => h) rfl (fun W _ => exec_cv rfl rfl wr2.out) (E2.out.mem.get List.mem_cons_self) ?_
      try simp only [Act.put, List.getElem_toArray, List.getElem_cons_succ, List.getElem_cons_zero, List.setIfInBounds_toArray, List.set_cons_zero, List.set_cons_succ]
      refine hm_one (i := 3) (by kernel_rfl) ?_
      refine hm_step 3 rfl (by kernel_rfl) fun K hK => ?_
      try simp only [Act.put, List.getElem_toArray, List.getElem_cons_succ, List.getElem_cons_zero, List.setIfInBounds_toArray, List.set_cons_zero, List.set_cons_succ]
      go_simp
      go_at_call 25
      refine (rtext_any (Lib.hid (SC.out.below E2.out.mem.below))).mono ?_
      rintro e w_a ⟨p_a, g_a, c_a, rfl, N_a, hb_a⟩
      have E6_3 := Lib.hid (E2.out.call hb_a)
      have R_a := Lib.hid N_a.row
      clear hb_a N_a
      refine hK _ _ (E6_3.out.mem.get List.mem_cons_self) ?_
      clear hK K
      try simp only [Act.put, List.getElem_toArray, List.getElem_cons_succ, List.getElem_cons_zero, List.setIfInBounds_toArray, List.set_cons_zero, List.set_cons_succ]
      refine hm_one (i := 4) (by kernel_rfl) ?_
      refine hm_step 4 rfl (by kernel_rfl) fun K hK => ?_
      try simp only [Act.put, List.getElem_toArray, List.getElem_cons_succ, List.getElem_cons_zero, List.setIfInBounds_toArray, List.set_cons_zero, List.set_cons_succ]
      refine mo_wbl (.tmp 56) (.tmp 59) rfl E6_3 rfl rfl rfl R_a (by have := BD.out; have := IL.out; simp only [Z2.out, Z1.out, List.length_append, low_length]; omega) ?_
      intro p3 g3 c3 w3 z3 Z3 E7_4
      refine hK _ _ (E7_4.out.mem.get List.mem_cons_self) ?_
      clear hK K
      try simp only [Act.put, List.getElem_toArray, List.getElem_cons_succ, List.getElem_cons_zero, List.setIfInBounds_toArray, List.set_cons_zero, List.set_cons_succ]
      refine hm_one (i := 8) (by kernel_rfl) ?_
      refine hm_step 8 rfl (by kernel_rfl) fun K hK => ?_
      try simp only [Act.put, List.getElem_toArray, List.getElem_cons_succ, List.getElem_cons_zero, List.setIfInBounds_toArray, List.set_cons_zero, List.set_cons_succ]
      clear R_a
      go_simp
      go_at_call 22
      refine (low4 x.sq _).mono ?_
      rintro e w_a ⟨p_a, g_a, c_a, rfl, N_a, hb_a⟩
      have E8_8 := Lib.hid (E7_4.out.call hb_a)
      have R_a := Lib.hid N_a.row
      clear hb_a N_a
      refine hK _ _ (E8_8.out.mem.get List.mem_cons_self) ?_
      clear hK K
      try simp only [Act.put, List.getElem_toArray, List.getElem_cons_succ, List.getElem_cons_zero, List.setIfInBounds_toArray, List.set_cons_zero, List.set_cons_succ]
      refine hm_one (i := 9) (by kernel_rfl) ?_
      refine hm_step 9 rfl (by kernel_rfl) fun K hK => ?_
      try simp only [Act.put, List.getElem_toArray, List.getElem_cons_succ, List.getElem_cons_zero, List.setIfInBounds_toArray, List.set_cons_zero, List.set_cons_succ]
      refine mo_wbl (.tmp 60) (.tmp 64) rfl E8_8 rfl rfl rfl R_a (by have := BD.out; have := IL.out; simp only [Z3.out, Z2.out, Z1.out, List.length_append, low_length]; omega) ?_
      intro p4 g4 c4 w4 z4 Z4 E9_9
      refine hK _ _ (E9_9.out.mem.get List.mem_cons_self) ?_
      clear hK K
      try simp only [Act.put, List.getElem_toArray, List.getElem_cons_succ, List.getElem_cons_zero, List.setIfInBounds_toArray, List.set_cons_zero, List.set_cons_succ]
      refine hm_run 10 6 _ rfl rfl (by kernel_rfl) (by kernel_rfl) (by kernel_rfl) (fun _ _ _ h => h) rfl (fun _ _ => rfl) (E9_9.out.mem.get List.mem_cons_self) ?_
      try simp only [Act.put, List.getElem_toArray, List.getElem_cons_succ, List.getElem_cons_zero, List.setIfInBounds_toArray, List.set_cons_zero, List.set_cons_succ]
      refine wpAnyH_done (by kernel_rfl) ?_ _
      go_wp2_with fail
      go_roundg (n - (j + 1))
      case measure => omega
      case rel => exact ⟨j + 1, p4, g4, c4, z4, by omega, by go_num, rfl, Lib.hid (by rw [Z4.out, Z3.out, Z2.out, Z1.out, Z.out, FS.out]; unfold inB; simp only [List.append_assoc]), Lib.hid E9_9.out.tail⟩
    · obtain rfl : j = n := by omega
      have FI := Lib.hid (show fl (t.ins.map inB) j = (t.ins.map inB).flatten by
        have e := fl_all (t.ins.map inB)
        rwa [List.length_map, ← HN.out] at e)
      go_wp2_with (first
    | (refine mem_load_cell (Lib.hid K.out.mem) 56 rfl (.tmp 68) rfl rfl List.mem_cons_self Tryd.underlying56 rfl c2 ?_)
    | (refine mem_load_cell (Lib.hid K.out.mem) 56 rfl (.tmp 74) rfl rfl List.mem_cons_self Tryd.underlying56 rfl c2 ?_)
    | (go_at_call 11; (with_reducible refine (rcnt_any m _).mono ?_); rintro e wn8 ⟨p_n, g_n, c_n, rfl, N_n, hb_n⟩; replace K := Lib.hid (K.out.call hb_n); have R8 := Lib.hid N_n.row; clear hb_n N_n)
    | (at_builtin; refine wpList_wbl rfl (.tmp 67) (.tmp 72) rfl K rfl rfl rfl R8 (by have := LB.out; have h1 := SI.out j (Nat.le_refl _); rw [Z.out, Z7'.out]; simp only [List.length_append, low_length, List.length_cons, List.length_nil]; omega) ?_; clear K; intro p8 g8 c8 w8 z8 Z8 K))
      have Z8' : Hid (z8 = low t.ver 4 ++ [0, 1] ++ listB inB t.ins ++ cnt m) := Lib.hid (by rw [Z8.out, Z.out, FI.out, Z7'.out]; unfold listB; rw [← HN.out]; simp only [List.append_assoc])
      clear Z8 Z Z7' FI
      go_loopg [6, 77] m (fun k s i wr => ∃ (j2 : Nat) (p : Option Addr) (g c : Nat) (zs : List Nat), j2 + k = m ∧ i = .int .i64 (j2 : Int) ∧ s = .slice p zs.length c ∧ Hid (zs = z8 ++ fl (t.outs.map outB) j2) ∧ Hid (Wb W [(b2, 58, arr 4 V)] p g c zs wr))
      case atStart => exact ⟨0, p8, g8, c8, z8, by omega, rfl, rfl, Lib.hid (by simp [fl]), K⟩
      case round =>
        clear K
        obtain ⟨j2, p, g, c, zs, hj2, rfl, rfl, Z, K⟩ := hrel
        obtain ⟨k2, rfl⟩ : ∃ k2 : Nat, k2 = gk := ⟨_, rfl⟩
        by_cases hlt2 : j2 < m
        · obtain rfl := RO.out.head (by omega)
          have ht : j2 < t.outs.length := by rw [← HM.out]; exact hlt2
          obtain ⟨x, hx⟩ : ∃ x, x = t.outs[j2] := ⟨_, rfl⟩
          have OC : Hid (OutCells W (fun i => Vo (j2 * 2 + i)) x) := Lib.hid (by rw [hx]; exact TO.out j2 ht)
          have FS := Lib.hid (show fl (t.outs.map outB) (j2 + 1) = fl (t.outs.map outB) j2 ++ outB x by rw [fl_succ _ (by rw [List.length_map]; exact ht), List.getElem_map, hx])
          have BD : Hid (zs.length + 8 + (text x.sc).length ≤ 140737488355328) := Lib.hid (by
            have h1 := SO.out (j2 + 1) (by omega)
            have h2 := LB.out
            have h3 := SI.out j (Nat.le_refl _)
            rw [FS.out, List.length_append] at h1
            rw [outB_length] at h1
            rw [Z.out, Z8'.out]
            unfold listB
            rw [← HN.out]
            simp only [List.length_append, low_length, List.length_cons, List.length_nil]
            omega)
          have IL := Lib.hid (rfl : (0 : Nat) = 0)
          have SC := Lib.hid OC.out.sc
          obtain ⟨Vs, hVs⟩ : ∃ Vs, Vs = Vo (j2 * 2 + 1) := ⟨_, rfl⟩
          have SC : Hid (TextAt W Vs x.sc) := Lib.hid (by rw [hVs]; exact SC.out)
          have a0 : (arr 2 fun i => Vo (j2 * 2 + i))[0]? = some (.int .i64 x.val) := by rw [arr_get 2 _ 0 (by omega), OC.out.val]
          have a1 : (arr 2 fun i => Vo (j2 * 2 + i))[1]? = some Vs := by rw [arr_get 2 _ 1 (by omega), hVs]
          have wr1 : Hid ((Tryd.prog.underlying 2).isSome = true ∧ IntKind.u64.wrap x.val = ((val64 x.val : Nat) : Int)) := Lib.hid ⟨by kernel_rfl, by rw [IntKind.wrap_u64]; unfold val64; rw [Int.toNat_of_nonneg (by omega)]⟩
          clear hx hVs
          go_upto_region 18 with (first
            | (refine wpList_ix (k := 2) (j := j2) Tryd.underlying56 (by kernel_rfl) (.tmp 75) (.tmp 77) rfl rfl rfl rfl hlt2 rfl ?_)
            | (refine wpList_ld 77 (.tmp 79) rfl rfl rfl ((RO.out.below K.out.mem.below).load hlt2 Tryd.underlying77 rfl (by kernel_rfl)) ?_)
            | (refine wb_alloc K 77 (by decide) rfl rfl infoOut ?_; clear K; intro b10 w4 K)
            | (refine wb_store_row 0 K 77 rfl (.tmp 10) (.tmp 80) rfl rfl rfl rfl (by kernel_rfl) (by rw [arr_size]; rfl) (RO.out.arr_one hlt2) ?_; clear K; intro w5 K; simp only [List.set_cons_zero, List.set_cons_succ] at K))
          refine wp_region_wb (S := fun W' => W'.heap[b10]? = some (.cells (arr 2 fun i => Vo (j2 * 2 + i)) 77 (0, 0))) K (by kernel_rfl) ?_
          clear K
          intro wx E1
          refine hm_run 0 81 _ rfl rfl (by kernel_rfl) (by kernel_rfl) (by kernel_rfl) (fun _ _ _ h => h) rfl (fun _ _ => rfl) (E1.out.mem.get List.mem_cons_self) ?_
          try simp only [Act.put, List.getElem_toArray, List.getElem_cons_succ, List.getElem_cons_zero, List.setIfInBounds_toArray, List.set_cons_zero, List.set_cons_succ]
          refine hm_run 1 82 (.pointer (some ⟨b10, 0, none⟩)) rfl rfl (by kernel_rfl) (by kernel_rfl) (by kernel_rfl) (fun _ _ _ h => h) rfl (fun _ _ => by kernel_rfl) (E1.out.mem.get List.mem_cons_self) ?_
          try simp only [Act.put, List.getElem_toArray, List.getElem_cons_succ, List.getElem_cons_zero, List.setIfInBounds_toArray, List.set_cons_zero, List.set_cons_succ]
          refine hm_run 2 83 (.int .i64 x.val) rfl rfl (by kernel_rfl) (by kernel_rfl) (by kernel_rfl) (fun _ _ _ h => h) rfl (fun W hW => exec_load rfl (run_load_one Tryd.underlying2 rfl (cell_of_here hW 0 a0))) (E1.out.mem.get List.mem_cons_self) ?_
          try simp only [Act.put, List.getElem_toArray, List.getElem_cons_succ, List.getElem_cons_zero, List.setIfInBounds_toArray, List.set_cons_zero, List.set_cons_succ]
          refine hm_run 3 84 (.int .u64 ((val64 x.val : Nat) : Int)) rfl rfl (by kernel_rfl) (by kernel_rfl) (by kernel_rfl) (fun _ _ _ h => h) rfl (fun W _ => exec_cv rfl rfl wr1.out) (E1.out.mem.get List.mem_cons_self) ?_
          try simp only [Act.put, List.getElem_toArray, List.getElem_cons_succ, List.getElem_cons_zero, List.setIfInBounds_toArray, List.set_cons_zero, List.set_cons_succ]
          refine hm_run 6 87 (.pointer (some ⟨b10, 1, none⟩)) rfl rfl (by kernel_rfl) (by kernel_rfl) (by kernel_rfl) (fun _ _ _ h => h) rfl (fun _ _ => by kernel_rfl) (E1.out.mem.get List.mem_cons_self) ?_
          try simp only [Act.put, List.getElem_toArray, List.getElem_cons_succ, List.getElem_cons_zero, List.setIfInBounds_toArray, List.set_cons_zero, List.set_cons_succ]
          refine hm_run 7 88 Vs rfl rfl (by kernel_rfl) (by kernel_rfl) (by kernel_rfl) (fun _ _ _ h => h) rfl (fun W hW => exec_load rfl (run_load_one Tryd.underlying30 rfl (cell_of_here hW 1 a1))) (E1.out.mem.get List.mem_cons_self) ?_
          try simp only [Act.put, List.getElem_toArray, List.getElem_cons_succ, List.getElem_cons_zero, List.setIfInBounds_toArray, List.set_cons_zero, List.set_cons_succ]
          refine hm_one (i := 4) (by kernel_rfl) ?_
          refine hm_step 4 rfl (by kernel_rfl) fun K hK => ?_
          try simp only [Act.put, List.getElem_toArray, List.getElem_cons_succ, List.getElem_cons_zero, List.setIfInBounds_toArray, List.set_cons_zero, List.set_cons_succ]
          go_simp
          go_at_call 22
          refine (low8 (val64 x.val) _).mono ?_
          rintro e w_a ⟨p_a, g_a, c_a, rfl, N_a, hb_a⟩
          have E6_4 := Lib.hid (E1.out.call hb_a)
          have R_a := Lib.hid N_a.row
          clear hb_a N_a
          refine hK _ _ (E6_4.out.mem.get List.mem_cons_self) ?_
          clear hK K
          try simp only [Act.put, List.getElem_toArray, List.getElem_cons_succ, List.getElem_cons_zero, List.setIfInBounds_toArray, List.set_cons_zero, List.set_cons_succ]
          refine hm_one (i := 5) (by kernel_rfl) ?_
          refine hm_step 5 rfl (by kernel_rfl) fun K hK => ?_
          try simp only [Act.put, List.getElem_toArray, List.getElem_cons_succ, List.getElem_cons_zero, List.setIfInBounds_toArray, List.set_cons_zero, List.set_cons_succ]
          refine mo_wbl (.tmp 81) (.tmp 85) rfl E6_4 rfl rfl rfl R_a (by have := BD.out; have := IL.out; simp only [low_length]; omega) ?_
          intro p1 g1 c1 w1 z1 Z1 E7_5
          refine hK _ _ (E7_5.out.mem.get List.mem_cons_self) ?_
          clear hK K
          try simp only [Act.put, List.getElem_toArray, List.getElem_cons_succ, List.getElem_cons_zero, List.setIfInBounds_toArray, List.set_cons_zero, List.set_cons_succ]
          refine hm_one (i := 8) (by kernel_rfl) ?_
          refine hm_step 8 rfl (by kernel_rfl) fun K hK => ?_
          try simp only [Act.put, List.getElem_toArray, List.getElem_cons_succ, List.getElem_cons_zero, List.setIfInBounds_toArray, List.set_cons_zero, List.set_cons_succ]
          clear R_a
          go_simp
          go_at_call 25
          refine (rtext_any (Lib.hid (SC.out.below E7_5.out.mem.below))).mono ?_
          rintro e w_a ⟨p_a, g_a, c_a, rfl, N_a, hb_a⟩
          have E8_8 := Lib.hid (E7_5.out.call hb_a)
          have R_a := Lib.hid N_a.row
          clear hb_a N_a
          refine hK _ _ (E8_8.out.mem.get List.mem_cons_self) ?_
          clear hK K
          try simp only [Act.put, List.getElem_toArray, List.getElem_cons_succ, List.getElem_cons_zero, List.setIfInBounds_toArray, List.set_cons_zero, List.set_cons_succ]
          refine hm_one (i := 9) (by kernel_rfl) ?_
          refine hm_step 9 rfl (by kernel_rfl) fun K hK => ?_
          try simp only [Act.put, List.getElem_toArray, List.getElem_cons_succ, List.getElem_cons_zero, List.setIfInBounds_toArray, List.set_cons_zero, List.set_cons_succ]
          refine mo_wbl (.tmp 86) (.tmp 89) rfl E8_8 rfl rfl rfl R_a (by have := BD.out; have := IL.out; simp only [Z1.out, List.length_append, low_length]; omega) ?_
          intro p2 g2 c2 w2 z2 Z2 E9_9
          refine hK _ _ (E9_9.out.mem.get List.mem_cons_self) ?_
          clear hK K
          try simp only [Act.put, List.getElem_toArray, List.getElem_cons_succ, List.getElem_cons_zero, List.setIfInBounds_toArray, List.set_cons_zero, List.set_cons_succ]
          refine hm_run 10 6 _ rfl rfl (by kernel_rfl) (by kernel_rfl) (by kernel_rfl) (fun _ _ _ h => h) rfl (fun _ _ => rfl) (E9_9.out.mem.get List.mem_cons_self) ?_
          try simp only [Act.put, List.getElem_toArray, List.getElem_cons_succ, List.getElem_cons_zero, List.setIfInBounds_toArray, List.set_cons_zero, List.set_cons_succ]
          refine wpAnyH_done (by kernel_rfl) ?_ _
          go_wp2_with fail
          go_roundg (m - (j2 + 1))
          case measure => omega
          case rel => exact ⟨j2 + 1, p2, g2, c2, z2, by omega, by go_num, rfl, Lib.hid (by rw [Z2.out, Z1.out, Z.out, FS.out]; unfold outB; simp only [List.append_assoc]), Lib.hid E9_9.out.tail⟩
        · obtain rfl : j2 = m := by omega
          have FO := Lib.hid (show fl (t.outs.map outB) j2 = (t.outs.map outB).flatten by
            have e := fl_all (t.outs.map outB)
            rwa [List.length_map, ← HM.out] at e)
          have Z9 : Hid (zs = low t.ver 4 ++ [0, 1] ++ listB inB t.ins ++ listB outB t.outs) := Lib.hid (by rw [Z.out, FO.out, Z8'.out]; unfold listB; rw [← HM.out]; simp only [List.append_assoc])
          have LZ : Hid (zs.length ≤ 40132100) := Lib.hid (by
            have h := LB.out
            rw [Z9.out]
            unfold listB
            rw [← HN.out, ← HM.out]
            simp only [List.length_append, low_length, List.length_cons, List.length_nil]
            omega)
          clear Z FO Z8'
          go_wp2_with (refine mem_load_cell (Lib.hid K.out.mem) 55 rfl (.tmp 92) rfl rfl List.mem_cons_self Tryd.underlying55 rfl c1 ?_)
          go_loopg [6, 95] j (fun k s i wr => ∃ (j3 : Nat) (p : Option Addr) (g c : Nat) (z : List Nat), j3 + k = j ∧ i = .int .i64 (j3 : Int) ∧ s = .slice p z.length c ∧ Hid (z = zs ++ fl (t.ins.map witB) j3) ∧ Hid (Wb W [(b2, 58, arr 4 V)] p g c z wr))
          case atStart => exact ⟨0, p, g, c, zs, by omega, rfl, rfl, Lib.hid (by simp [fl]), K⟩
          case round =>
            clear K
            obtain ⟨j3, p, g, c, z, hj3, rfl, rfl, Z, K⟩ := hrel
            obtain ⟨k3, rfl⟩ : ∃ k3 : Nat, k3 = gk := ⟨_, rfl⟩
            by_cases hlt3 : j3 < j
            · obtain rfl := RI.out.head (by omega)
              have ht : j3 < t.ins.length := by rw [← HN.out]; exact hlt3
              obtain ⟨x, hx⟩ : ∃ x, x = t.ins[j3] := ⟨_, rfl⟩
              have IC : Hid (InCells W (fun i => Vi (j3 * 36 + i)) x) := Lib.hid (by rw [hx]; exact TI.out j3 ht)
              have FS := Lib.hid (show fl (t.ins.map witB) (j3 + 1) = fl (t.ins.map witB) j3 ++ witB x by rw [fl_succ _ (by rw [List.length_map]; exact ht), List.getElem_map, hx])
              obtain ⟨pw, gw, ow, cw, Vw, hvw, hcw, Rw, Tw⟩ := IC.out.wit
              have RW := Lib.hid Rw
              have TW := Lib.hid Tw
              have lw := hcw
              have SY := Lib.hid (show ∀ j, j ≤ x.wit.length → (fl (x.wit.map text) j).length ≤ ((x.wit.map text).flatten).length from fun j hj => by
                rw [← fl_all, fl_length, fl_length]; exact sm_le _ (by rw [List.length_map]; exact hj))
              obtain ⟨nw, hnw⟩ : ∃ nw, nw = x.wit.length := ⟨_, rfl⟩
              have HNW := Lib.hid hnw
              have a35 : (arr 36 fun i => Vi (j3 * 36 + i))[35]? = some (.slice pw nw cw) := by rw [arr_get 36 _ 35 (by omega), hvw, hnw]
              rw [← hnw] at RW lw SY
              have BD : Hid (z.length + (cnt nw).length + ((x.wit.map text).flatten).length ≤ 140737488355328) := Lib.hid (by
                have h1 := SW.out (j3 + 1) (by omega)
                have h2 := LB.out
                have h3 := LZ.out
                rw [FS.out, List.length_append] at h1
                rw [witB_length, ← hnw] at h1
                rw [Z.out, List.length_append]
                omega)
              have cww : IntKind.u64.wrap (nw : Int) = (nw : Int) := by rw [IntKind.wrap_u64]; omega
              have nw3 : nw ≤ 140737488355328 := by omega
              clear hx hvw hcw Rw Tw hnw
              go_wp2_with (first
                | (refine wpList_ix (k := 36) (j := j3) Tryd.underlying55 (by kernel_rfl) (.tmp 93) (.tmp 95) rfl rfl rfl rfl hlt3 rfl ?_)
                | (refine wpList_ld 75 (.tmp 97) rfl rfl rfl ((RI.out.below K.out.mem.below).load hlt3 Tryd.underlying75 rfl (by kernel_rfl)) ?_)
                | (refine wb_alloc K 75 (by decide) rfl rfl infoIn ?_; clear K; intro b12 w4 K; simp only [arr_cells'] at K)
                | (refine wb_store_row 0 K 75 rfl (.tmp 12) (.tmp 98) rfl rfl rfl rfl (by kernel_rfl) (by simp only [arr_size]) (RI.out.arr_one hlt3) ?_; clear K; intro w5 K; simp only [List.set_cons_zero, List.set_cons_succ] at K)
                | (refine mem_load_cell (Lib.hid K.out.mem) 73 rfl (.tmp 102) rfl rfl List.mem_cons_self Tryd.underlying73 rfl a35 ?_)
                | (refine mem_load_cell (Lib.hid K.out.mem) 73 rfl (.tmp 108) rfl rfl List.mem_cons_self Tryd.underlying73 rfl a35 ?_)
                | (go_at_call 11; (with_reducible refine (rcnt_any nw _).mono ?_); rintro e wn ⟨p_n, g_n, c_n, rfl, N_n, hb_n⟩; replace K := Lib.hid (K.out.call hb_n); have RN := Lib.hid N_n.row; clear hb_n N_n)
                | (at_builtin; refine wpList_wbl rfl (.tmp 101) (.tmp 106) rfl K rfl rfl rfl RN (by have := BD.out; omega) ?_; clear K; intro p6 g6 c6 w6 z6 Z6 K))
              go_loopg [6, 111] nw (fun k s i wr => ∃ (j4 : Nat) (p : Option Addr) (g c : Nat) (y : List Nat), j4 + k = nw ∧ i = .int .i64 (j4 : Int) ∧ s = .slice p y.length c ∧ Hid (y = z6 ++ fl (x.wit.map text) j4) ∧ Hid (Wb W [(b12, 75, arr 36 fun i => Vi (j3 * 36 + i)), (b2, 58, arr 4 V)] p g c y wr))
              case atStart => exact ⟨0, p6, g6, c6, z6, by omega, rfl, rfl, Lib.hid (by simp [fl]), K⟩
              case round =>
                clear K
                obtain ⟨j4, p, g, c, y, hj4, rfl, rfl, Y, K⟩ := hrel
                obtain ⟨k4, rfl⟩ : ∃ k4 : Nat, k4 = gk := ⟨_, rfl⟩
                by_cases hlt4 : j4 < nw
                · obtain rfl := RW.out.head (by omega)
                  have ht4 : j4 < x.wit.length := by rw [← HNW.out]; exact hlt4
                  have TT := Lib.hid (TW.out j4 ht4)
                  have CC := Lib.hid ((RW.out.below K.out.mem.below).cell j4 (by omega))
                  have FY := Lib.hid (show fl (x.wit.map text) (j4 + 1) = fl (x.wit.map text) j4 ++ text x.wit[j4] by rw [fl_succ _ (by rw [List.length_map]; exact ht4), List.getElem_map])
                  have BY : Hid (y.length + (text x.wit[j4]).length ≤ 140737488355328) := Lib.hid (by
                    have h1 := SY.out (j4 + 1) (by omega)
                    have h2 := BD.out
                    rw [FY.out, List.length_append] at h1
                    rw [Y.out, Z6.out]
                    simp only [List.length_append]
                    omega)
                  go_wp2_with (first
                    | (refine wpList_ix (k := 1) (j := j4) Tryd.underlying73 (by kernel_rfl) (.tmp 109) (.tmp 111) rfl rfl rfl rfl hlt4 rfl ?_; rw [Nat.mul_one])
                    | (refine wpList_ld1 30 (.tmp 113) rfl rfl rfl Tryd.underlying30 rfl CC.out ?_)
                    | (go_at_call 25; refine (rtext_any (Lib.hid (TT.out.below K.out.mem.below))).mono ?_; rintro e wt ⟨p_t, g_t, c_t, rfl, N_t, hb_t⟩; replace K := Lib.hid (K.out.call hb_t); have RT := Lib.hid N_t.row; clear hb_t N_t)
                    | (at_builtin; refine wpList_wbl rfl (.tmp 115) (.tmp 117) rfl K rfl rfl rfl RT BY.out ?_; clear K; intro p7 g7 c7 w7 y7 Y7 K))
                  go_roundg (nw - (j4 + 1))
                  case measure => omega
                  case rel => exact ⟨j4 + 1, p7, g7, c7, y7, by omega, by go_num, rfl, Lib.hid (by rw [Y7.out, Y.out, FY.out]; simp only [List.append_assoc]), K⟩
                · obtain rfl : j4 = nw := by omega
                  have FW := Lib.hid (show fl (x.wit.map text) j4 = (x.wit.map text).flatten by
                    have e := fl_all (x.wit.map text)
                    rwa [List.length_map, ← HNW.out] at e)
                  have K' := Lib.hid K.out.tail
                  clear K
                  go_wp2
                  go_roundg (j - (j3 + 1))
                  case measure => omega
                  case rel => exact ⟨j3 + 1, p, g, c, y, by omega, by go_num, rfl, Lib.hid (by rw [Y.out, FW.out, Z6.out, Z.out, FS.out]; unfold witB listB; rw [← HNW.out]; simp only [List.append_assoc]), K'⟩
            · obtain rfl : j3 = j := by omega
              have FF := Lib.hid (show fl (t.ins.map witB) j3 = (t.ins.map witB).flatten by
                have e := fl_all (t.ins.map witB)
                rwa [List.length_map, ← HN.out] at e)
              go_wp2_with (first
                | (refine mem_load_cell (Lib.hid K.out.mem) 22 rfl (.tmp 122) rfl rfl List.mem_cons_self Tryd.underlying22 rfl c3 ?_)
                | (go_at_call 22; (with_reducible refine (low4 t.lock _).mono ?_); rintro e wl ⟨p_l, g_l, c_l, rfl, N_l, hb_l⟩; replace K := Lib.hid (K.out.call hb_l); have RL := Lib.hid N_l.row; clear hb_l N_l)
                | (at_builtin; refine wpList_wbl rfl (.tmp 121) (.tmp 125) rfl K rfl rfl rfl RL (by have := LZ.out; have := LB.out; rw [Z.out, FF.out, List.length_append, low_length]; omega) ?_; clear K; intro p9 g9 c9 w9 z9 Z10 K))
              refine bodyPost_ret (res2 (fn := Tryd.f12) rfl _ _) rfl ?_
              exact Enc.of HC.out (by rw [Z10.out, Z.out, FF.out, Z9.out]; unfold txB; simp) K.out

theorem rtxenc_any {W : World} {v : Value} {t : TTx} (A : Hid (TxAt W v t)) (b : Bool) : Calls Tryd.prog 12 #[v, .bool b] W (Enc W t (b && t.ins.any hasB)) := by
  obtain ⟨V, rfl, A1⟩ := A.out
  by_cases hc : canB t = true
  · cases b
    · exact rtxenc_bare (Lib.hid A1) hc
    · by_cases hh : t.ins.any hasB = true
      · rw [hh]
        exact rtxenc_marked (Lib.hid A1) hc hh
      · have hh : t.ins.any hasB = false := by simpa using hh
        rw [hh]
        exact rtxenc_none (Lib.hid A1) hc hh
  · exact rtxenc_bad (Lib.hid A1) (by simpa using hc) b _
end Go.Proofs.YtfjpjhhkafkepaaDoor

