/- A block, written: Encode of the program. -/
import Derived.Test.YtfjpjhhkafkepaaDoorAk
set_option linter.unusedSimpArgs false
set_option linter.unusedVariables false
set_option maxRecDepth 100000
namespace Go.Proofs.YtfjpjhhkafkepaaDoor
open Go.RowKit Go.Lib Go.Sort

/-- A transaction's bytes in its own form. -/
def fB (t : TTx) : List Nat := txB (t.ins.any hasB) t
/-- A block's bytes. -/
def blkB (t : TBlk) : List Nat := tl (hb t.hd) 80 ++ cnt t.txs.length ++ (t.txs.map fB).flatten
/-- What Encode leaves. -/
def BEnc (W : World) (t : TBlk) (e : Ending) (w' : World) : Prop :=
  if 2000 < t.txs.length ∨ t.txs.any (fun x => !canB x) = true then e = .returned (.tuple #[.slice none 0 0, .int .i64 1]) ∧ Below W.heap.size W w'
  else if 200000 < (blkB t).length then e = .returned (.tuple #[.slice none 0 0, .int .i64 91]) ∧ Below W.heap.size W w'
  else ∃ p g c, e = .returned (.tuple #[.slice p (blkB t).length c, .int .i64 0]) ∧ Own W.heap.size w' p g (blkB t).length c (lf (blkB t)) ∧ Below W.heap.size W w'
theorem own_tl {B : Nat} {w : World} {p : Option Addr} {g n c : Nat} {x : Nat → Nat} (N : Own B w p g n c x) : Own B w p g (tl x n).length c (lf (tl x n)) := by
  rw [tl_length]
  exact N.to (fun i hi => (lf_tl _ hi).symm) (lf_lt (isB_tl N.byte n))
theorem isB_both {a b : List Nat} (ha : IsB a) (hb' : IsB b) : IsB (a ++ b) := fun x hx => by
  rcases List.mem_append.1 hx with h | h
  · exact ha x h
  · exact hb' x h
theorem start_is (x y : Nat → Nat) (m : Nat) {i : Nat} (h : i < 80 + m) : cat x 80 y i = lf (tl x 80 ++ tl y m) i := by
  rw [← lf_cat, tl_length]
  unfold cat
  split
  · rename_i q
    exact (lf_tl _ q).symm
  · exact (lf_tl _ (by omega)).symm
theorem ld_hdrA {W w w0 : World} {b T : Nat} {V : Nat → Value} {t : TBlk} (A : BlkCells w0 V t) (hh : W.heap[b]? = some (.cells (arr 69 V) T (0, 0))) (hb' : Below W.heap.size W w) :
    (Instr.loadAt 26 (.pointer (some ⟨b, 0, none⟩))).run Tryd.prog w = .ok (.agg (arr 68 (hc t.hd))) w := by
  have hr : w.rangeAt b 0 (vs (hc t.hd) 68) := fun j x hj => by
    obtain ⟨hl, rfl⟩ := vs_get _ _ _ _ hj
    rw [Nat.zero_add, hb'.cell (cell_lt (cell_of_here hh j (arr_get 69 V j (by omega))))]
    refine cell_of_here hh j ?_
    rw [arr_get 69 _ j (by omega), A.hd j hl]
  have := run_loadAt_mid (P := Tryd.prog) w b 0 26 (vs (hc t.hd) 68) _ hr hdr_is' rfl (by rw [vs_length]; kernel_rfl)
  rwa [vs_arr] at this
theorem encf_good {W : World} {V : Nat → Value} {t : TTx} (A : TxCells W V t) (hc : canB t = true) : Calls Tryd.prog 36 #[.agg (arr 4 V), .bool true] W fun e w' => ∃ p g c, e = .returned (.tuple #[.slice p (fB t).length c, .int .i64 0]) ∧ Row w' p g 0 (fB t).length c (lf (fB t)) ∧ Below W.heap.size W w' := by
  have h := txenc_any (Lib.hid (⟨V, rfl, A⟩ : TxAt W (.agg (arr 4 V)) t)) true
  refine h.mono fun e w' h => ?_
  unfold Enc at h
  rw [if_pos hc, Bool.true_and] at h
  obtain ⟨p, g, c, he, N, hb⟩ := h
  exact ⟨p, g, c, he, N.row, hb⟩
theorem any_can {l : List TTx} (h : l.any (fun x => !canB x) = false) {j : Nat} (hj : j < l.length) : canB l[j] = true := by
  rw [List.any_eq_false] at h
  have := h l[j] (List.getElem_mem hj)
  simpa using this
set_option maxHeartbeats 8000000 in
theorem benc_any {W : World} {v : Value} {t : TBlk} (A : Hid (BlkAt W v t)) : Calls Tryd.prog 21 #[v] W (BEnc W t) := by
  have E := Lib.hid (Mem.nil W)
  obtain ⟨V, rfl, A1⟩ := A.out
  have TA := Lib.hid A1.txs
  obtain ⟨p, g, o, c, U, hv68, hlen, R0, hi⟩ := A1.txs
  have A2 := Lib.hid A1
  obtain ⟨n, hn⟩ : ∃ n, n = t.txs.length := ⟨_, rfl⟩
  have HN := Lib.hid hn
  have RR := Lib.hid R0
  have TT := Lib.hid hi
  rw [← hn] at hv68 hlen RR
  rw [hv68] at TA
  have V68 : (arr 69 V)[68]? = some (.slice p n c) := by rw [arr_get 69 V 68 (by omega), hv68]
  have cn := RR.out.le
  have CW := Lib.hid (show IntKind.u64.wrap ((n : Nat) : Int) = ((n : Nat) : Int) by rw [IntKind.wrap_u64]; omega)
  clear A A1 hi R0 hv68
  by_cases h2 : 2000 < n
  · have t2 : (2000 : Int) < (n : Int) := by omega
    have h2' := Lib.hid (show 2000 < t.txs.length by omega)
    clear hn hlen
    go_enter Tryd.func21, Tryd.ntmps21
    go_wp2_with (first
      | ((with_reducible refine wpList_at 1 rfl ?_); refine mem_box E 29 rfl (.tmp 0) rfl rfl (arr_cells' 69 V) ?_; clear E; intro b w1 E)
      | ((with_reducible refine wpList_at 10 rfl ?_); refine mem_load_cell E 27 (by kernel_rfl) (.tmp 9) rfl rfl List.mem_cons_self Tryd.underlying27 rfl V68 ?_))
    refine bodyPost_ret (res2 (fn := Tryd.f21) rfl _ _) rfl ?_
    unfold BEnc
    rw [if_pos (.inl h2'.out)]
    exact ⟨rfl, E.out.below⟩
  have t2 : ¬ ((2000 : Int) < (n : Int)) := by omega
  have HR2 : n ≤ 2000 := by omega
  have CF := Lib.hid (show ∀ w', Below W.heap.size W w' → Calls Tryd.prog 34 #[.slice p n c, .func (.func 35) #[] #[]] w' fun e w'' => e = .returned (.bool (t.txs.any fun x => !canB x)) ∧ Below w'.heap.size w' w'' from fun w' hb => cftx_any (pr := fun t => !canB t) (Lib.hid fun W V t h => cannot_any h) (Lib.hid (TA.out.below hb)))
  clear TA hn
  have start := 0
  obtain ⟨ay, hay⟩ : ∃ ay, ay = t.txs.any (fun x => !canB x) := ⟨_, rfl⟩
  have HAY := Lib.hid hay
  rw [← hay] at CF
  clear hay start
  cases ay
  · go_enter Tryd.func21, Tryd.ntmps21
    go_upto_region 3 with (first
      | ((with_reducible refine wpList_at 1 rfl ?_); refine mem_box E 29 rfl (.tmp 0) rfl rfl (arr_cells' 69 V) ?_; clear E; intro b w1 E)
      | ((with_reducible refine wpList_at 10 rfl ?_); refine mem_load_cell E 27 (by kernel_rfl) (.tmp 9) rfl rfl List.mem_cons_self Tryd.underlying27 rfl V68 ?_)
      | ((with_reducible refine wpList_at 15 rfl ?_); refine mem_load_cell E 27 (by kernel_rfl) (.tmp 14) rfl rfl List.mem_cons_self Tryd.underlying27 rfl V68 ?_)
      | (go_at_call 34; refine (CF.out _ E.out.below).mono ?_; rintro e w2 ⟨rfl, hb⟩; replace E := Lib.hid (E.out.call hb); clear hb))
    have E0 := E
    have HB := Lib.hid (E.out.get List.mem_cons_self)
    have C68 := Lib.hid (cell_of_here HB.out 68 V68)
    refine wp_region_memS (S := fun X => Below w2.heap.size w2 X) (Lib.hid (Mem.nil w2)) (by kernel_rfl) ?_
    clear E
    intro wx E1
    have S0 := Lib.hid E1.out.below
    clear E1
    refine hm_run 0 18 (.pointer (some ⟨b, 0, none⟩)) rfl rfl (by kernel_rfl) (by kernel_rfl) (by kernel_rfl) (fun _ _ _ h => h) rfl (fun _ _ => rfl) S0.out ?_
    try simp only [Act.put, List.getElem_toArray, List.getElem_cons_succ, List.getElem_cons_zero, List.setIfInBounds_toArray, List.set_cons_zero, List.set_cons_succ]
    refine hm_run 1 19 (.agg (arr 68 (hc t.hd))) rfl rfl (by kernel_rfl) (by kernel_rfl) (by kernel_rfl) (fun _ _ _ h => h) rfl (fun W hW => exec_load rfl (ld_hdrA A2.out HB.out hW)) S0.out ?_
    try simp only [Act.put, List.getElem_toArray, List.getElem_cons_succ, List.getElem_cons_zero, List.setIfInBounds_toArray, List.set_cons_zero, List.set_cons_succ]
    refine hm_run 3 21 (.pointer (some ⟨b, 68, none⟩)) rfl rfl (by kernel_rfl) (by kernel_rfl) (by kernel_rfl) (fun _ _ _ h => h) rfl (fun _ _ => rfl) S0.out ?_
    try simp only [Act.put, List.getElem_toArray, List.getElem_cons_succ, List.getElem_cons_zero, List.setIfInBounds_toArray, List.set_cons_zero, List.set_cons_succ]
    refine hm_run 4 22 (.slice p n c) rfl rfl (by kernel_rfl) (by kernel_rfl) (by kernel_rfl) (fun _ _ _ h => h) rfl (fun W hW => exec_load rfl (run_load_one Tryd.underlying27 rfl (by rw [hW.cell (cell_lt C68.out)]; exact C68.out))) S0.out ?_
    try simp only [Act.put, List.getElem_toArray, List.getElem_cons_succ, List.getElem_cons_zero, List.setIfInBounds_toArray, List.set_cons_zero, List.set_cons_succ]
    refine hm_run 5 23 (.int .i64 ((n : Nat) : Int)) rfl rfl (by kernel_rfl) (by kernel_rfl) (by kernel_rfl) (fun _ _ _ h => h) rfl (fun _ _ => exec_len Tryd.underlying27 rfl rfl) S0.out ?_
    try simp only [Act.put, List.getElem_toArray, List.getElem_cons_succ, List.getElem_cons_zero, List.setIfInBounds_toArray, List.set_cons_zero, List.set_cons_succ]
    refine hm_run 6 24 (.int .u64 ((n : Nat) : Int)) rfl rfl (by kernel_rfl) (by kernel_rfl) (by kernel_rfl) (fun _ _ _ h => h) rfl (fun _ _ => exec_cv rfl rfl ⟨by kernel_rfl, CW.out⟩) S0.out ?_
    try simp only [Act.put, List.getElem_toArray, List.getElem_cons_succ, List.getElem_cons_zero, List.setIfInBounds_toArray, List.set_cons_zero, List.set_cons_succ]
    refine hm_one (i := 2) (by kernel_rfl) ?_
    refine hm_step 2 rfl (by kernel_rfl) fun K hK => ?_
    try simp only [Act.put, List.getElem_toArray, List.getElem_cons_succ, List.getElem_cons_zero, List.setIfInBounds_toArray, List.set_cons_zero, List.set_cons_succ]
    go_simp
    go_at_call 32
    refine (henc_any (Lib.hid A2.out.ok) _).mono ?_
    rintro e w3 ⟨p3, g3, c3, rfl, N, hb⟩
    have N3 := Lib.hid (N.mono S0.out.size)
    have S2_6 := Lib.hid (S0.out.trans (hb.mono S0.out.size))
    clear hb N
    refine hK _ _ S2_6.out ?_
    clear hK K
    try simp only [Act.put, List.getElem_toArray, List.getElem_cons_succ, List.getElem_cons_zero, List.setIfInBounds_toArray, List.set_cons_zero, List.set_cons_succ]
    refine hm_one (i := 7) (by kernel_rfl) ?_
    refine hm_step 7 rfl (by kernel_rfl) fun K hK => ?_
    try simp only [Act.put, List.getElem_toArray, List.getElem_cons_succ, List.getElem_cons_zero, List.setIfInBounds_toArray, List.set_cons_zero, List.set_cons_succ]
    go_simp
    go_at_call 31
    refine (encode_any n _).mono ?_
    rintro e w4 ⟨p4, g4, c4, rfl, N, hb⟩
    replace N3 := Lib.hid (N3.out.below hb)
    have R4 := Lib.hid N.row
    have S7_7 := Lib.hid (S2_6.out.trans (hb.mono S2_6.out.size))
    clear hb N
    refine hK _ _ S7_7.out ?_
    clear hK K
    try simp only [Act.put, List.getElem_toArray, List.getElem_cons_succ, List.getElem_cons_zero, List.setIfInBounds_toArray, List.set_cons_zero, List.set_cons_succ]
    refine hm_one (i := 8) (by kernel_rfl) ?_
    refine hm_step 8 rfl (by kernel_rfl) fun K hK => ?_
    try simp only [Act.put, List.getElem_toArray, List.getElem_cons_succ, List.getElem_cons_zero, List.setIfInBounds_toArray, List.set_cons_zero, List.set_cons_succ]
    refine mo_app (.tmp 20) (.tmp 25) rfl rfl N3 rfl R4 (by have := wid_bd n; omega) ?_
    intro p5 g5 c5 w5 N5 hb5
    have S8_8 := Lib.hid (S7_7.out.trans hb5.out)
    clear hb5
    refine hK _ _ S8_8.out ?_
    clear hK K
    try simp only [Act.put, List.getElem_toArray, List.getElem_cons_succ, List.getElem_cons_zero, List.setIfInBounds_toArray, List.set_cons_zero, List.set_cons_succ]
    refine hm_run 9 4 (.slice p5 (80 + wid n) c5) rfl rfl (by kernel_rfl) (by kernel_rfl) (by kernel_rfl) (fun _ _ _ h => h) rfl (fun _ _ => rfl) S8_8.out ?_
    try simp only [Act.put, List.getElem_toArray, List.getElem_cons_succ, List.getElem_cons_zero, List.setIfInBounds_toArray, List.set_cons_zero, List.set_cons_succ]
    refine wpAnyH_done (by kernel_rfl) ?_ _
    have ZL := Lib.hid (show (tl (hb t.hd) 80 ++ cnt n).length = 80 + wid n by rw [List.length_append, tl_length, cnt_length])
    have K := Lib.hid (show Wb W [(b, 29, arr 69 V)] p5 g5 c5 (tl (hb t.hd) 80 ++ cnt n) w5 from ⟨E0.out.call S8_8.out, by rw [ZL.out]; exact (N5.out.mono E0.out.below.size).to (fun i hi => start_is _ _ _ hi) (lf_lt (isB_both (isB_tl (hb_lt A2.out.ok) 80) (isB_tl (enc_lt n) _))), nb_one (by decide)⟩)
    have C68' := Lib.hid (K.out.mem.get List.mem_cons_self)
    go_wp2_with (refine mem_load_cell (Lib.hid K.out.mem) 27 rfl (.tmp 27) rfl rfl List.mem_cons_self Tryd.underlying27 rfl V68 ?_)
    have SUM := Lib.hid (show ∀ j, j ≤ t.txs.length → (fl (t.txs.map fB) j).length ≤ ((t.txs.map fB).flatten).length from fun j hj => by
      rw [← fl_all, fl_length, fl_length]
      exact sm_le _ (by rw [List.length_map]; exact hj))
    have WB := wid_bd n
    have NB := Lib.hid (show ¬ (2000 < t.txs.length ∨ t.txs.any (fun x => !canB x) = true) by
      rw [← HN.out, ← HAY.out]
      rintro (h | h)
      · omega
      · cases h)
    go_loopg [4, 30] n (fun k s i wr => ∃ (j : Nat) (p : Option Addr) (g c : Nat) (zs : List Nat), j + k = n ∧ i = .int .i64 ((j : Nat) : Int) ∧ s = .slice p zs.length c ∧ Hid (zs = tl (hb t.hd) 80 ++ cnt n ++ fl (t.txs.map fB) j) ∧ Hid (Wb W [(b, 29, arr 69 V)] p g c zs wr) ∧ zs.length ≤ 200000)
    case atStart => exact ⟨0, p5, g5, c5, _, by omega, rfl, by rw [ZL.out], Lib.hid (by simp [fl]), K, by rw [ZL.out]; omega⟩
    case round =>
      clear K ZL N5 C68' HB C68 E0
      obtain ⟨j, p4, g4, c4, zs, hj, rfl, rfl, Z, K, HZ⟩ := hrel
      obtain ⟨kk, rfl⟩ : ∃ kk : Nat, kk = gk := ⟨_, rfl⟩
      by_cases hlt : j < n
      · have hlt' : ((j : Nat) : Int) < ((n : Nat) : Int) := by omega
        obtain rfl := RR.out.head (by omega)
        have ht : j < t.txs.length := by rw [← HN.out]; exact hlt
        have CAN := any_can HAY.out.symm ht
        have TC := Lib.hid (TT.out j ht)
        have hbd := txB_le TC.out CAN (t.txs[j].ins.any hasB)
        have FS := Lib.hid (show fl (t.txs.map fB) (j + 1) = fl (t.txs.map fB) j ++ fB t.txs[j] by rw [fl_succ _ (by rw [List.length_map]; exact ht), List.getElem_map])
        have hbd : (fB t.txs[j]).length ≤ 2100000000 := hbd
        obtain ⟨SZ, hsz⟩ : ∃ SZ : Int, SZ = (((zs.length + (fB t.txs[j]).length : Nat) : Nat) : Int) := ⟨_, rfl⟩
        have SZE := Lib.hid (show IntKind.i64.wrap (((zs.length : Nat) : Int) + (((fB t.txs[j]).length : Nat) : Int)) = SZ by rw [IntKind.wrap_i64]; omega)
        by_cases hg : 200000 < zs.length + (fB t.txs[j]).length
        · have hg' : (200000 : Int) < SZ := by omega
          have BIG := Lib.hid (show 200000 < (blkB t).length by
            have h1 := SUM.out (j + 1) (by omega)
            rw [FS.out, List.length_append] at h1
            have h2 := hg
            rw [Z.out, List.length_append, List.length_append] at h2
            unfold blkB
            rw [List.length_append, List.length_append, ← HN.out]
            omega)
          clear hbd hg HZ hsz
          go_wp2_with (first
          | ((with_reducible refine wpList_at 32 rfl ?_); refine wpList_ix (k := 4) (j := j) Tryd.underlying27 (by kernel_rfl) (.tmp 28) (.tmp 30) rfl rfl rfl rfl hlt rfl ?_)
          | ((with_reducible refine wpList_at 33 rfl ?_); refine wpList_ld 58 (.tmp 32) rfl rfl rfl ((RR.out.below K.out.mem.below).load hlt Tryd.underlying58 rfl (by kernel_rfl)) ?_)
          | ((with_reducible refine wpList_at 6 rfl ?_); refine wb_alloc K 58 (by decide) rfl rfl infoTx ?_; clear K; intro b6 w6 K)
          | ((with_reducible refine wpList_atn rfl ?_); refine wb_store_row 0 K 58 rfl (.tmp 6) (.tmp 33) rfl rfl rfl rfl (by kernel_rfl) (by rw [arr_size]; rfl) (tx_one TC.out) ?_; clear K; intro w7 K; simp only [List.set_cons_zero] at K)
          | ((with_reducible refine wpList_at 35 rfl ?_); refine mem_load_row (Lib.hid K.out.mem) 58 rfl (.tmp 6) rfl rfl List.mem_cons_self Tryd.underlying58 rfl (by simp only [arr_size]; kernel_rfl) ?_)
          | (go_at_call 36; refine (encf_good ((TT.out j ht).below K.out.mem.below) CAN).mono ?_; rintro e w8 ⟨p8, g8, c8, rfl, N8, hb⟩; replace K := Lib.hid (K.out.call hb); have R8 := Lib.hid N8; clear hb N8)
          | ((with_reducible refine wpList_at 46 rfl ?_); refine BigFrame.wpList_want rfl fun _ hK => mo_known (.int .i64 SZ) _ (exec_add rfl rfl rfl SZE.out) (hK _ _ ?_)))
          refine bodyPost_ret (res2 (fn := Tryd.f21) rfl _ _) rfl ?_
          unfold BEnc
          rw [if_neg NB.out, if_pos BIG.out]
          exact ⟨rfl, K.out.mem.below⟩
        · have hg' : ¬ ((200000 : Int) < SZ) := by omega
          have ZN := Lib.hid (show zs.length + (fB t.txs[j]).length ≤ 200000 by omega)
          have BD := Lib.hid (show zs.length + (fB t.txs[j]).length ≤ 140737488355328 by omega)
          clear hbd hg HZ hsz
          go_wp2_with (first
          | ((with_reducible refine wpList_at 32 rfl ?_); refine wpList_ix (k := 4) (j := j) Tryd.underlying27 (by kernel_rfl) (.tmp 28) (.tmp 30) rfl rfl rfl rfl hlt rfl ?_)
          | ((with_reducible refine wpList_at 33 rfl ?_); refine wpList_ld 58 (.tmp 32) rfl rfl rfl ((RR.out.below K.out.mem.below).load hlt Tryd.underlying58 rfl (by kernel_rfl)) ?_)
          | ((with_reducible refine wpList_at 6 rfl ?_); refine wb_alloc K 58 (by decide) rfl rfl infoTx ?_; clear K; intro b6 w6 K)
          | ((with_reducible refine wpList_atn rfl ?_); refine wb_store_row 0 K 58 rfl (.tmp 6) (.tmp 33) rfl rfl rfl rfl (by kernel_rfl) (by rw [arr_size]; rfl) (tx_one TC.out) ?_; clear K; intro w7 K; simp only [List.set_cons_zero] at K)
          | ((with_reducible refine wpList_at 35 rfl ?_); refine mem_load_row (Lib.hid K.out.mem) 58 rfl (.tmp 6) rfl rfl List.mem_cons_self Tryd.underlying58 rfl (by simp only [arr_size]; kernel_rfl) ?_)
          | (go_at_call 36; refine (encf_good ((TT.out j ht).below K.out.mem.below) CAN).mono ?_; rintro e w8 ⟨p8, g8, c8, rfl, N8, hb⟩; replace K := Lib.hid (K.out.call hb); have R8 := Lib.hid N8; clear hb N8)
          | ((with_reducible refine wpList_at 46 rfl ?_); refine BigFrame.wpList_want rfl fun _ hK => mo_known (.int .i64 SZ) _ (exec_add rfl rfl rfl SZE.out) (hK _ _ ?_))
          | (at_builtin; refine wpList_wb rfl (.tmp 48) (.tmp 49) rfl K rfl rfl rfl R8 BD.out ?_; clear K; intro p9 g9 c9 w9 z9 Z9 K))
          go_roundg (n - (j + 1))
          case measure => omega
          case rel => exact ⟨j + 1, p9, g9, c9, z9, by omega, by go_num, rfl, Lib.hid (by rw [Z9.out, Z.out, FS.out, show tl (lf (fB t.txs[j])) (fB t.txs[j]).length = fB t.txs[j] from tl_lf _]; simp only [List.append_assoc]), Lib.hid K.out.tail, by rw [Z9.out, List.length_append, tl_length]; exact ZN.out⟩
      · have hlt' : ¬ (((j : Nat) : Int) < ((n : Nat) : Int)) := by omega
        obtain rfl : j = n := by omega
        have E2 := Lib.hid (show zs = blkB t by
          have e := fl_all (t.txs.map fB)
          rw [List.length_map, ← HN.out] at e
          rw [Z.out, e]
          unfold blkB
          rw [← HN.out])
        go_wp2
        refine bodyPost_ret (res2 (fn := Tryd.f21) rfl _ _) rfl ?_
        unfold BEnc
        have K2 := K.out.gets
        rw [if_neg NB.out, if_neg (by rw [← E2.out]; omega), ← E2.out]
        exact ⟨_, _, _, rfl, K2.1, K2.2⟩

  · go_enter Tryd.func21, Tryd.ntmps21
    go_wp2_with (first
      | ((with_reducible refine wpList_at 1 rfl ?_); refine mem_box E 29 rfl (.tmp 0) rfl rfl (arr_cells' 69 V) ?_; clear E; intro b w1 E)
      | ((with_reducible refine wpList_at 10 rfl ?_); refine mem_load_cell E 27 (by kernel_rfl) (.tmp 9) rfl rfl List.mem_cons_self Tryd.underlying27 rfl V68 ?_)
      | ((with_reducible refine wpList_at 15 rfl ?_); refine mem_load_cell E 27 (by kernel_rfl) (.tmp 14) rfl rfl List.mem_cons_self Tryd.underlying27 rfl V68 ?_)
      | (go_at_call 34; refine (CF.out _ E.out.below).mono ?_; rintro e w2 ⟨rfl, hb⟩; replace E := Lib.hid (E.out.call hb); clear hb))
    refine bodyPost_ret (res2 (fn := Tryd.f21) rfl _ _) rfl ?_
    unfold BEnc
    rw [if_pos (.inr HAY.out.symm)]
    exact ⟨rfl, E.out.below⟩
end Go.Proofs.YtfjpjhhkafkepaaDoor

