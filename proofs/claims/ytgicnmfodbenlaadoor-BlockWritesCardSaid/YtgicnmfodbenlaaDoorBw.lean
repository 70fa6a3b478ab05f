/- A block, written by both; a block in memory of its own; two blocks that are the same. -/
import Derived.Test.YtgicnmfodbenlaaDoorAk
import Derived.Test.YtgicnmfodbenlaaDoorRa
import Derived.Test.YtgicnmfodbenlaaDoorTu4
import Derived.Test.YtgicnmfodbenlaaDoorRck
section
/- A block, written: Encode of the program. -/
set_option linter.unusedSimpArgs false
set_option linter.unusedVariables false
set_option maxRecDepth 100000
namespace Go.Proofs.YtgicnmfodbenlaaDoor
open Go.RowKit Go.Lib Go.Sort

/-- A transaction's bytes in its own form. -/
def fB (t : TTx) : List Nat := txB (t.ins.any hasB) t
/-- A block's bytes. -/
def blkB (t : TBlk) : List Nat := tl (hb t.hd) 80 ++ cnt t.txs.length ++ (t.txs.map fB).flatten
/-- What Encode leaves. -/
def BEnc (W : World) (t : TBlk) (e : Ending) (w' : World) : Prop :=
  if 2000 < t.txs.length ∨ t.txs.any (fun x => !canB x) = true then e = .returned (.tuple #[.slice none 0 0, .int .i64 1]) ∧ Below W.heap.size W w'
  else if 200000 < (blkB t).length then e = .returned (.tuple #[.slice none 0 0, .int .i64 91]) ∧ Below W.heap.size W w'
  else ∃ p g c, e = .returned (.tuple #[.slice p (blkB t).length c, .int .i64 0]) ∧ Own W.heap.size w' p g (blkB t).length c (lf (blkB t)) ∧ Below W.heap.size W w'
theorem own_tl {B : Nat} {w : World} {p : Option Addr} {g n c : Nat} {x : Nat → Nat} (N : Own B w p g n c x) : Own B w p g (tl x n).length c (lf (tl x n)) := by
  rw [tl_length]
  exact N.to (fun i hi => (lf_tl _ hi).symm) (lf_lt (isB_tl N.byte n))
theorem isB_both {a b : List Nat} (ha : IsB a) (hb' : IsB b) : IsB (a ++ b) := fun x hx => by
  rcases List.mem_append.1 hx with h | h
  · exact ha x h
  · exact hb' x h
theorem start_is (x y : Nat → Nat) (m : Nat) {i : Nat} (h : i < 80 + m) : cat x 80 y i = lf (tl x 80 ++ tl y m) i := by
  rw [← lf_cat, tl_length]
  unfold cat
  split
  · rename_i q
    exact (lf_tl _ q).symm
  · exact (lf_tl _ (by omega)).symm
theorem ld_hdrA {W w w0 : World} {b T : Nat} {V : Nat → Value} {t : TBlk} (A : BlkCells w0 V t) (hh : W.heap[b]? = some (.cells (arr 69 V) T (0, 0))) (hb' : Below W.heap.size W w) :
    (Instr.loadAt 26 (.pointer (some ⟨b, 0, none⟩))).run Tryd.prog w = .ok (.agg (arr 68 (hc t.hd))) w := by
  have hr : w.rangeAt b 0 (vs (hc t.hd) 68) := fun j x hj => by
    obtain ⟨hl, rfl⟩ := vs_get _ _ _ _ hj
    rw [Nat.zero_add, hb'.cell (cell_lt (cell_of_here hh j (arr_get 69 V j (by omega))))]
    refine cell_of_here hh j ?_
    rw [arr_get 69 _ j (by omega), A.hd j hl]
  have := run_loadAt_mid (P := Tryd.prog) w b 0 26 (vs (hc t.hd) 68) _ hr hdr_is' rfl (by rw [vs_length]; kernel_rfl)
  rwa [vs_arr] at this
theorem encf_good {W : World} {V : Nat → Value} {t : TTx} (A : TxCells W V t) (hc : canB t = true) : Calls Tryd.prog 20 #[.agg (arr 4 V), .bool true] W fun e w' => ∃ p g c, e = .returned (.tuple #[.slice p (fB t).length c, .int .i64 0]) ∧ Row w' p g 0 (fB t).length c (lf (fB t)) ∧ Below W.heap.size W w' := by
  have h := txenc_any (Lib.hid (⟨V, rfl, A⟩ : TxAt W (.agg (arr 4 V)) t)) true
  refine h.mono fun e w' h => ?_
  unfold Enc at h
  rw [if_pos hc, Bool.true_and] at h
  obtain ⟨p, g, c, he, N, hb⟩ := h
  exact ⟨p, g, c, he, N.row, hb⟩
theorem any_can {l : List TTx} (h : l.any (fun x => !canB x) = false) {j : Nat} (hj : j < l.length) : canB l[j] = true := by
  rw [List.any_eq_false] at h
  have := h l[j] (List.getElem_mem hj)
  simpa using this
set_option maxHeartbeats 8000000 in
theorem benc_any {W : World} {v : Value} {t : TBlk} (A : Hid (BlkAt W v t)) : Calls Tryd.prog 6 #[v] W (BEnc W t) := by
  have E := Lib.hid (Mem.nil W)
  obtain ⟨V, rfl, A1⟩ := A.out
  have TA := Lib.hid A1.txs
  obtain ⟨p, g, o, c, U, hv68, hlen, R0, hi⟩ := A1.txs
  have A2 := Lib.hid A1
  obtain ⟨n, hn⟩ : ∃ n, n = t.txs.length := ⟨_, rfl⟩
  have HN := Lib.hid hn
  have RR := Lib.hid R0
  have TT := Lib.hid hi
  rw [← hn] at hv68 hlen RR
  rw [hv68] at TA
  have V68 : (arr 69 V)[68]? = some (.slice p n c) := by rw [arr_get 69 V 68 (by omega), hv68]
  have cn := RR.out.le
  have CW := Lib.hid (show IntKind.u64.wrap ((n : Nat) : Int) = ((n : Nat) : Int) by rw [IntKind.wrap_u64]; omega)
  clear A A1 hi R0 hv68
  by_cases h2 : 2000 < n
  · have t2 : (2000 : Int) < (n : Int) := by omega
    have h2' := Lib.hid (show 2000 < t.txs.length by omega)
    clear hn hlen
    go_enter Tryd.func6, Tryd.ntmps6
    go_wp2_with (first
      | ((with_reducible refine wpList_at 1 rfl ?_); refine mem_box E 29 rfl (.tmp 0) rfl rfl (arr_cells' 69 V) ?_; clear E; intro b w1 E)
      | ((with_reducible refine wpList_at 10 rfl ?_); refine mem_load_cell E 27 (by kernel_rfl) (.tmp 9) rfl rfl List.mem_cons_self Tryd.underlying27 rfl V68 ?_))
    refine bodyPost_ret (res2 (fn := Tryd.f6) rfl _ _) rfl ?_
    unfold BEnc
    rw [if_pos (.inl h2'.out)]
    exact ⟨rfl, E.out.below⟩
  have t2 : ¬ ((2000 : Int) < (n : Int)) := by omega
  have HR2 : n ≤ 2000 := by omega
  have CF := Lib.hid (show ∀ w', Below W.heap.size W w' → Calls Tryd.prog 16 #[.slice p n c, .func (.func 17) #[] #[]] w' fun e w'' => e = .returned (.bool (t.txs.any fun x => !canB x)) ∧ Below w'.heap.size w' w'' from fun w' hb => cftx_any (pr := fun t => !canB t) (Lib.hid fun W V t h => cannot_any h) (Lib.hid (TA.out.below hb)))
  clear TA hn
  have start := 0
  obtain ⟨ay, hay⟩ : ∃ ay, ay = t.txs.any (fun x => !canB x) := ⟨_, rfl⟩
  have HAY := Lib.hid hay
  rw [← hay] at CF
  clear hay start
  cases ay
  · go_enter Tryd.func6, Tryd.ntmps6
    go_upto_region 3 with (first
      | ((with_reducible refine wpList_at 1 rfl ?_); refine mem_box E 29 rfl (.tmp 0) rfl rfl (arr_cells' 69 V) ?_; clear E; intro b w1 E)
      | ((with_reducible refine wpList_at 10 rfl ?_); refine mem_load_cell E 27 (by kernel_rfl) (.tmp 9) rfl rfl List.mem_cons_self Tryd.underlying27 rfl V68 ?_)
      | ((with_reducible refine wpList_at 15 rfl ?_); refine mem_load_cell E 27 (by kernel_rfl) (.tmp 14) rfl rfl List.mem_cons_self Tryd.underlying27 rfl V68 ?_)
      | (go_at_call 16; refine (CF.out _ E.out.below).mono ?_; rintro e w2 ⟨rfl, hb⟩; replace E := Lib.hid (E.out.call hb); clear hb))
    have E0 := E
    have HB := Lib.hid (E.out.get List.mem_cons_self)
    have C68 := Lib.hid (cell_of_here HB.out 68 V68)
    refine wp_region_memS (S := fun X => Below w2.heap.size w2 X) (Lib.hid (Mem.nil w2)) (by kernel_rfl) ?_
    clear E
    intro wx E1
    have S0 := Lib.hid E1.out.below
    clear E1
    refine hm_run 0 18 (.pointer (some ⟨b, 0, none⟩)) rfl rfl (by kernel_rfl) (by kernel_rfl) (by kernel_rfl) (fun _ _ _ h => h) rfl (fun _ _ => rfl) S0.out ?_
    try simp only [Act.put, List.getElem_toArray, List.getElem_cons_succ, List.getElem_cons_zero, List.setIfInBounds_toArray, List.set_cons_zero, List.set_cons_succ]
    refine hm_run 1 19 (.agg (arr 68 (hc t.hd))) rfl rfl (by kernel_rfl) (by kernel_rfl) (by kernel_rfl) (fun _ _ _ h => h) rfl (fun W hW => exec_load rfl (ld_hdrA A2.out HB.out hW)) S0.out ?_
    try simp only [Act.put, List.getElem_toArray, List.getElem_cons_succ, List.getElem_cons_zero, List.setIfInBounds_toArray, List.set_cons_zero, List.set_cons_succ]
    refine hm_run 3 21 (.pointer (some ⟨b, 68, none⟩)) rfl rfl (by kernel_rfl) (by kernel_rfl) (by kernel_rfl) (fun _ _ _ h => h) rfl (fun _ _ => rfl) S0.out ?_
    try simp only [Act.put, List.getElem_toArray, List.getElem_cons_succ, List.getElem_cons_zero, List.setIfInBounds_toArray, List.set_cons_zero, List.set_cons_succ]
    refine hm_run 4 22 (.slice p n c) rfl rfl (by kernel_rfl) (by kernel_rfl) (by kernel_rfl) (fun _ _ _ h => h) rfl (fun W hW => exec_load rfl (run_load_one Tryd.underlying27 rfl (by rw [hW.cell (cell_lt C68.out)]; exact C68.out))) S0.out ?_
    try simp only [Act.put, List.getElem_toArray, List.getElem_cons_succ, List.getElem_cons_zero, List.setIfInBounds_toArray, List.set_cons_zero, List.set_cons_succ]
    refine hm_run 5 23 (.int .i64 ((n : Nat) : Int)) rfl rfl (by kernel_rfl) (by kernel_rfl) (by kernel_rfl) (fun _ _ _ h => h) rfl (fun _ _ => exec_len Tryd.underlying27 rfl rfl) S0.out ?_
    try simp only [Act.put, List.getElem_toArray, List.getElem_cons_succ, List.getElem_cons_zero, List.setIfInBounds_toArray, List.set_cons_zero, List.set_cons_succ]
    refine hm_run 6 24 (.int .u64 ((n : Nat) : Int)) rfl rfl (by kernel_rfl) (by kernel_rfl) (by kernel_rfl) (fun _ _ _ h => h) rfl (fun _ _ => exec_cv rfl rfl ⟨by kernel_rfl, CW.out⟩) S0.out ?_
    try simp only [Act.put, List.getElem_toArray, List.getElem_cons_succ, List.getElem_cons_zero, List.setIfInBounds_toArray, List.set_cons_zero, List.set_cons_succ]
    refine hm_one (i := 2) (by kernel_rfl) ?_
    refine hm_step 2 rfl (by kernel_rfl) fun K hK => ?_
    try simp only [Act.put, List.getElem_toArray, List.getElem_cons_succ, List.getElem_cons_zero, List.setIfInBounds_toArray, List.set_cons_zero, List.set_cons_succ]
    go_simp
    go_at_call 18
    refine (henc_any (Lib.hid A2.out.ok) _).mono ?_
    rintro e w3 ⟨p3, g3, c3, rfl, N, hb⟩
    have N3 := Lib.hid (N.mono S0.out.size)
    have S2_6 := Lib.hid (S0.out.trans (hb.mono S0.out.size))
    clear hb N
    refine hK _ _ S2_6.out ?_
    clear hK K
    try simp only [Act.put, List.getElem_toArray, List.getElem_cons_succ, List.getElem_cons_zero, List.setIfInBounds_toArray, List.set_cons_zero, List.set_cons_succ]
    refine hm_one (i := 7) (by kernel_rfl) ?_
    refine hm_step 7 rfl (by kernel_rfl) fun K hK => ?_
    try simp only [Act.put, List.getElem_toArray, List.getElem_cons_succ, List.getElem_cons_zero, List.setIfInBounds_toArray, List.set_cons_zero, List.set_cons_succ]
    go_simp
    go_at_call 19
    refine (encode_any n _).mono ?_
    rintro e w4 ⟨p4, g4, c4, rfl, N, hb⟩
    replace N3 := Lib.hid (N3.out.below hb)
    have R4 := Lib.hid N.row
    have S7_7 := Lib.hid (S2_6.out.trans (hb.mono S2_6.out.size))
    clear hb N
    refine hK _ _ S7_7.out ?_
    clear hK K
    try simp only [Act.put, List.getElem_toArray, List.getElem_cons_succ, List.getElem_cons_zero, List.setIfInBounds_toArray, List.set_cons_zero, List.set_cons_succ]
    refine hm_one (i := 8) (by kernel_rfl) ?_
    refine hm_step 8 rfl (by kernel_rfl) fun K hK => ?_
    try simp only [Act.put, List.getElem_toArray, List.getElem_cons_succ, List.getElem_cons_zero, List.setIfInBounds_toArray, List.set_cons_zero, List.set_cons_succ]
    refine mo_app (.tmp 20) (.tmp 25) rfl rfl N3 rfl R4 (by have := wid_bd n; omega) ?_
    intro p5 g5 c5 w5 N5 hb5
    have S8_8 := Lib.hid (S7_7.out.trans hb5.out)
    clear hb5
    refine hK _ _ S8_8.out ?_
    clear hK K
    try simp only [Act.put, List.getElem_toArray, List.getElem_cons_succ, List.getElem_cons_zero, List.setIfInBounds_toArray, List.set_cons_zero, List.set_cons_succ]
    refine hm_run 9 4 (.slice p5 (80 + wid n) c5) rfl rfl (by kernel_rfl) (by kernel_rfl) (by kernel_rfl) (fun _ _ _ h => h) rfl (fun _ _ => rfl) S8_8.out ?_
    try simp only [Act.put, List.getElem_toArray, List.getElem_cons_succ, List.getElem_cons_zero, List.setIfInBounds_toArray, List.set_cons_zero, List.set_cons_succ]
    refine wpAnyH_done (by kernel_rfl) ?_ _
    have ZL := Lib.hid (show (tl (hb t.hd) 80 ++ cnt n).length = 80 + wid n by rw [List.length_append, tl_length, cnt_length])
    have K := Lib.hid (show Wb W [(b, 29, arr 69 V)] p5 g5 c5 (tl (hb t.hd) 80 ++ cnt n) w5 from ⟨E0.out.call S8_8.out, by rw [ZL.out]; exact (N5.out.mono E0.out.below.size).to (fun i hi => start_is _ _ _ hi) (lf_lt (isB_both (isB_tl (hb_lt A2.out.ok) 80) (isB_tl (enc_lt n) _))), nb_one (by decide)⟩)
    have C68' := Lib.hid (K.out.mem.get List.mem_cons_self)
    go_wp2_with (refine mem_load_cell (Lib.hid K.out.mem) 27 rfl (.tmp 27) rfl rfl List.mem_cons_self Tryd.underlying27 rfl V68 ?_)
    have SUM := Lib.hid (show ∀ j, j ≤ t.txs.length → (fl (t.txs.map fB) j).length ≤ ((t.txs.map fB).flatten).length from fun j hj => by
      rw [← fl_all, fl_length, fl_length]
      exact sm_le _ (by rw [List.length_map]; exact hj))
    have WB := wid_bd n
    have NB := Lib.hid (show ¬ (2000 < t.txs.length ∨ t.txs.any (fun x => !canB x) = true) by
      rw [← HN.out, ← HAY.out]
      rintro (h | h)
      · omega
      · cases h)
    go_loopg [4, 30] n (fun k s i wr => ∃ (j : Nat) (p : Option Addr) (g c : Nat) (zs : List Nat), j + k = n ∧ i = .int .i64 ((j : Nat) : Int) ∧ s = .slice p zs.length c ∧ Hid (zs = tl (hb t.hd) 80 ++ cnt n ++ fl (t.txs.map fB) j) ∧ Hid (Wb W [(b, 29, arr 69 V)] p g c zs wr) ∧ zs.length ≤ 200000)
    case atStart => exact ⟨0, p5, g5, c5, _, by omega, rfl, by rw [ZL.out], Lib.hid (by simp [fl]), K, by rw [ZL.out]; omega⟩
    case round =>
      clear K ZL N5 C68' HB C68 E0
      obtain ⟨j, p4, g4, c4, zs, hj, rfl, rfl, Z, K, HZ⟩ := hrel
      obtain ⟨kk, rfl⟩ : ∃ kk : Nat, kk = gk := ⟨_, rfl⟩
      by_cases hlt : j < n
      · have hlt' : ((j : Nat) : Int) < ((n : Nat) : Int) := by omega
        obtain rfl := RR.out.head (by omega)
        have ht : j < t.txs.length := by rw [← HN.out]; exact hlt
        have CAN := any_can HAY.out.symm ht
        have TC := Lib.hid (TT.out j ht)
        have hbd := txB_le TC.out CAN (t.txs[j].ins.any hasB)
        have FS := Lib.hid (show fl (t.txs.map fB) (j + 1) = fl (t.txs.map fB) j ++ fB t.txs[j] by rw [fl_succ _ (by rw [List.length_map]; exact ht), List.getElem_map])
        have hbd : (fB t.txs[j]).length ≤ 2100000000 := hbd
        obtain ⟨SZ, hsz⟩ : ∃ SZ : Int, SZ = (((zs.length + (fB t.txs[j]).length : Nat) : Nat) : Int) := ⟨_, rfl⟩
        have SZE := Lib.hid (show IntKind.i64.wrap (((zs.length : Nat) : Int) + (((fB t.txs[j]).length : Nat) : Int)) = SZ by rw [IntKind.wrap_i64]; omega)
        by_cases hg : 200000 < zs.length + (fB t.txs[j]).length
        · have hg' : (200000 : Int) < SZ := by omega
          have BIG := Lib.hid (show 200000 < (blkB t).length by
            have h1 := SUM.out (j + 1) (by omega)
            rw [FS.out, List.length_append] at h1
            have h2 := hg
            rw [Z.out, List.length_append, List.length_append] at h2
            unfold blkB
            rw [List.length_append, List.length_append, ← HN.out]
            omega)
          clear hbd hg HZ hsz
          go_wp2_with (first
          | ((with_reducible refine wpList_at 32 rfl ?_); refine wpList_ix (k := 4) (j := j) Tryd.underlying27 (by kernel_rfl) (.tmp 28) (.tmp 30) rfl rfl rfl rfl hlt rfl ?_)
          | ((with_reducible refine wpList_at 33 rfl ?_); refine wpList_ld 44 (.tmp 32) rfl rfl rfl ((RR.out.below K.out.mem.below).load hlt Tryd.underlying44 rfl (by kernel_rfl)) ?_)
          | ((with_reducible refine wpList_at 6 rfl ?_); refine wb_alloc K 44 (by decide) rfl rfl infoTx ?_; clear K; intro b6 w6 K)
          | ((with_reducible refine wpList_atn rfl ?_); refine wb_store_row 0 K 44 rfl (.tmp 6) (.tmp 33) rfl rfl rfl rfl (by kernel_rfl) (by rw [arr_size]; rfl) (tx_one TC.out) ?_; clear K; intro w7 K; simp only [List.set_cons_zero] at K)
          | ((with_reducible refine wpList_at 35 rfl ?_); refine mem_load_row (Lib.hid K.out.mem) 44 rfl (.tmp 6) rfl rfl List.mem_cons_self Tryd.underlying44 rfl (by simp only [arr_size]; kernel_rfl) ?_)
          | (go_at_call 20; refine (encf_good ((TT.out j ht).below K.out.mem.below) CAN).mono ?_; rintro e w8 ⟨p8, g8, c8, rfl, N8, hb⟩; replace K := Lib.hid (K.out.call hb); have R8 := Lib.hid N8; clear hb N8)
          | ((with_reducible refine wpList_at 46 rfl ?_); refine BigFrame.wpList_want rfl fun _ hK => mo_known (.int .i64 SZ) _ (exec_add rfl rfl rfl SZE.out) (hK _ _ ?_)))
          refine bodyPost_ret (res2 (fn := Tryd.f6) rfl _ _) rfl ?_
          unfold BEnc
          rw [if_neg NB.out, if_pos BIG.out]
          exact ⟨rfl, K.out.mem.below⟩
        · have hg' : ¬ ((200000 : Int) < SZ) := by omega
          have ZN := Lib.hid (show zs.length + (fB t.txs[j]).length ≤ 200000 by omega)
          have BD := Lib.hid (show zs.length + (fB t.txs[j]).length ≤ 140737488355328 by omega)
          clear hbd hg HZ hsz
          go_wp2_with (first
          | ((with_reducible refine wpList_at 32 rfl ?_); refine wpList_ix (k := 4) (j := j) Tryd.underlying27 (by kernel_rfl) (.tmp 28) (.tmp 30) rfl rfl rfl rfl hlt rfl ?_)
          | ((with_reducible refine wpList_at 33 rfl ?_); refine wpList_ld 44 (.tmp 32) rfl rfl rfl ((RR.out.below K.out.mem.below).load hlt Tryd.underlying44 rfl (by kernel_rfl)) ?_)
          | ((with_reducible refine wpList_at 6 rfl ?_); refine wb_alloc K 44 (by decide) rfl rfl infoTx ?_; clear K; intro b6 w6 K)
          | ((with_reducible refine wpList_atn rfl ?_); refine wb_store_row 0 K 44 rfl (.tmp 6) (.tmp 33) rfl rfl rfl rfl (by kernel_rfl) (by rw [arr_size]; rfl) (tx_one TC.out) ?_; clear K; intro w7 K; simp only [List.set_cons_zero] at K)
          | ((with_reducible refine wpList_at 35 rfl ?_); refine mem_load_row (Lib.hid K.out.mem) 44 rfl (.tmp 6) rfl rfl List.mem_cons_self Tryd.underlying44 rfl (by simp only [arr_size]; kernel_rfl) ?_)
          | (go_at_call 20; refine (encf_good ((TT.out j ht).below K.out.mem.below) CAN).mono ?_; rintro e w8 ⟨p8, g8, c8, rfl, N8, hb⟩; replace K := Lib.hid (K.out.call hb); have R8 := Lib.hid N8; clear hb N8)
          | ((with_reducible refine wpList_at 46 rfl ?_); refine BigFrame.wpList_want rfl fun _ hK => mo_known (.int .i64 SZ) _ (exec_add rfl rfl rfl SZE.out) (hK _ _ ?_))
          | (at_builtin; refine wpList_wb rfl (.tmp 48) (.tmp 49) rfl K rfl rfl rfl R8 BD.out ?_; clear K; intro p9 g9 c9 w9 z9 Z9 K))
          go_roundg (n - (j + 1))
          case measure => omega
          case rel => exact ⟨j + 1, p9, g9, c9, z9, by omega, by go_num, rfl, Lib.hid (by rw [Z9.out, Z.out, FS.out, show tl (lf (fB t.txs[j])) (fB t.txs[j]).length = fB t.txs[j] from tl_lf _]; simp only [List.append_assoc]), Lib.hid K.out.tail, by rw [Z9.out, List.length_append, tl_length]; exact ZN.out⟩
      · have hlt' : ¬ (((j : Nat) : Int) < ((n : Nat) : Int)) := by omega
        obtain rfl : j = n := by omega
        have E2 := Lib.hid (show zs = blkB t by
          have e := fl_all (t.txs.map fB)
          rw [List.length_map, ← HN.out] at e
          rw [Z.out, e]
          unfold blkB
          rw [← HN.out])
        go_wp2
        refine bodyPost_ret (res2 (fn := Tryd.f6) rfl _ _) rfl ?_
        unfold BEnc
        have K2 := K.out.gets
        rw [if_neg NB.out, if_neg (by rw [← E2.out]; omega), ← E2.out]
        exact ⟨_, _, _, rfl, K2.1, K2.2⟩

  · go_enter Tryd.func6, Tryd.ntmps6
    go_wp2_with (first
      | ((with_reducible refine wpList_at 1 rfl ?_); refine mem_box E 29 rfl (.tmp 0) rfl rfl (arr_cells' 69 V) ?_; clear E; intro b w1 E)
      | ((with_reducible refine wpList_at 10 rfl ?_); refine mem_load_cell E 27 (by kernel_rfl) (.tmp 9) rfl rfl List.mem_cons_self Tryd.underlying27 rfl V68 ?_)
      | ((with_reducible refine wpList_at 15 rfl ?_); refine mem_load_cell E 27 (by kernel_rfl) (.tmp 14) rfl rfl List.mem_cons_self Tryd.underlying27 rfl V68 ?_)
      | (go_at_call 16; refine (CF.out _ E.out.below).mono ?_; rintro e w2 ⟨rfl, hb⟩; replace E := Lib.hid (E.out.call hb); clear hb))
    refine bodyPost_ret (res2 (fn := Tryd.f6) rfl _ _) rfl ?_
    unfold BEnc
    rw [if_pos (.inr HAY.out.symm)]
    exact ⟨rfl, E.out.below⟩
end Go.Proofs.YtgicnmfodbenlaaDoor
end
section
/- A block, written: the document's Encode. -/
set_option linter.unusedSimpArgs false
set_option linter.unusedVariables false
set_option maxRecDepth 100000
namespace Go.Proofs.YtgicnmfodbenlaaDoor
open Go.RowKit Go.Lib Go.Sort
theorem rencf_good {W : World} {V : Nat → Value} {t : TTx} (A : TxCells W V t) (hc : canB t = true) : Calls Tryd.prog 23 #[.agg (arr 4 V), .bool true] W fun e w' => ∃ p g c, e = .returned (.tuple #[.slice p (fB t).length c, .int .i64 0]) ∧ Row w' p g 0 (fB t).length c (lf (fB t)) ∧ Below W.heap.size W w' := by
  have h := rtxenc_any (Lib.hid (⟨V, rfl, A⟩ : TxAt W (.agg (arr 4 V)) t)) true
  refine h.mono fun e w' h => ?_
  unfold Enc at h
  rw [if_pos hc, Bool.true_and] at h
  obtain ⟨p, g, c, he, N, hb⟩ := h
  exact ⟨p, g, c, he, N.row, hb⟩
theorem rencf_bad {W : World} {V : Nat → Value} {t : TTx} (A : TxCells W V t) (hc : canB t = false) : Calls Tryd.prog 23 #[.agg (arr 4 V), .bool true] W fun e w' => e = .returned (.tuple #[.slice none 0 0, .int .i64 1]) ∧ Below W.heap.size W w' := by
  have h := rtxenc_any (Lib.hid (⟨V, rfl, A⟩ : TxAt W (.agg (arr 4 V)) t)) true
  refine h.mono fun e w' h => ?_
  unfold Enc at h
  rwa [if_neg (by rw [hc]; decide)] at h
theorem cant_at {l : List TTx} {j : Nat} (h : j < l.length) (hb : canB l[j] = false) : l.any (fun x => !canB x) = true := by
  rw [List.any_eq_true]
  exact ⟨l[j], List.getElem_mem h, by rw [hb]; rfl⟩
theorem can_step {l : List TTx} {j : Nat} (h : j < l.length) (hp : (l.take j).any (fun x => !canB x) = false) (hg : canB l[j] = true) : (l.take (j + 1)).any (fun x => !canB x) = false := by
  rw [take_get l h, List.any_append, hp]
  simp [hg]
set_option maxHeartbeats 8000000 in
theorem rbenc_any {W : World} {v : Value} {t : TBlk} (A : Hid (BlkAt W v t)) : Calls Tryd.prog 7 #[v] W (BEnc W t) := by
  have E := Lib.hid (Mem.nil W)
  obtain ⟨V, rfl, A1⟩ := A.out
  obtain ⟨p, g, o, c, U, hv68, hlen, R0, hi⟩ := A1.txs
  have A2 := Lib.hid A1
  obtain ⟨n, hn⟩ : ∃ n, n = t.txs.length := ⟨_, rfl⟩
  have HN := Lib.hid hn
  have RR := Lib.hid R0
  have TT := Lib.hid hi
  rw [← hn] at hv68 hlen RR
  have V68 : (arr 69 V)[68]? = some (.slice p n c) := by rw [arr_get 69 V 68 (by omega), hv68]
  have cn := RR.out.le
  have CW := Lib.hid (show IntKind.u64.wrap ((n : Nat) : Int) = ((n : Nat) : Int) by rw [IntKind.wrap_u64]; omega)
  clear A A1 hi R0 hv68
  by_cases h2 : 2000 < n
  · have t2 : (2000 : Int) < (n : Int) := by omega
    have h2' := Lib.hid (show 2000 < t.txs.length by omega)
    clear hn hlen
    go_enter Tryd.func7, Tryd.ntmps7
    go_wp2_with (first
      | ((with_reducible refine wpList_at 1 rfl ?_); refine mem_box E 29 rfl (.tmp 0) rfl rfl (arr_cells' 69 V) ?_; clear E; intro b w1 E)
      | ((with_reducible refine wpList_at 10 rfl ?_); refine mem_load_cell E 27 (by kernel_rfl) (.tmp 9) rfl rfl List.mem_cons_self Tryd.underlying27 rfl V68 ?_))
    refine bodyPost_ret (res2 (fn := Tryd.f7) rfl _ _) rfl ?_
    unfold BEnc
    rw [if_pos (.inl h2'.out)]
    exact ⟨rfl, E.out.below⟩
  have t2 : ¬ ((2000 : Int) < (n : Int)) := by omega
  have HR2 : n ≤ 2000 := by omega
  clear hn
  go_enter Tryd.func7, Tryd.ntmps7
  go_upto_region 3 with (first
      | ((with_reducible refine wpList_at 1 rfl ?_); refine mem_box E 29 rfl (.tmp 0) rfl rfl (arr_cells' 69 V) ?_; clear E; intro b w1 E)
      | ((with_reducible refine wpList_at 10 rfl ?_); refine mem_load_cell E 27 (by kernel_rfl) (.tmp 9) rfl rfl List.mem_cons_self Tryd.underlying27 rfl V68 ?_))
  have E0 := E
  have HB := Lib.hid (E.out.get List.mem_cons_self)
  have C68 := Lib.hid (cell_of_here HB.out 68 V68)
  refine wp_region_memS (S := fun X => Below w1.heap.size w1 X) (Lib.hid (Mem.nil w1)) (by kernel_rfl) ?_
  clear E
  intro wx E1
  have S0 := Lib.hid E1.out.below
  clear E1
  refine hm_run 0 13 (.pointer (some ⟨b, 0, none⟩)) rfl rfl (by kernel_rfl) (by kernel_rfl) (by kernel_rfl) (fun _ _ _ h => h) rfl (fun _ _ => rfl) S0.out ?_
  try simp only [Act.put, List.getElem_toArray, List.getElem_cons_succ, List.getElem_cons_zero, List.setIfInBounds_toArray, List.set_cons_zero, List.set_cons_succ]
  refine hm_run 1 14 (.agg (arr 68 (hc t.hd))) rfl rfl (by kernel_rfl) (by kernel_rfl) (by kernel_rfl) (fun _ _ _ h => h) rfl (fun W hW => exec_load rfl (ld_hdrA A2.out HB.out hW)) S0.out ?_
  try simp only [Act.put, List.getElem_toArray, List.getElem_cons_succ, List.getElem_cons_zero, List.setIfInBounds_toArray, List.set_cons_zero, List.set_cons_succ]
  refine hm_run 3 16 (.pointer (some ⟨b, 68, none⟩)) rfl rfl (by kernel_rfl) (by kernel_rfl) (by kernel_rfl) (fun _ _ _ h => h) rfl (fun _ _ => rfl) S0.out ?_
  try simp only [Act.put, List.getElem_toArray, List.getElem_cons_succ, List.getElem_cons_zero, List.setIfInBounds_toArray, List.set_cons_zero, List.set_cons_succ]
  refine hm_run 4 17 (.slice p n c) rfl rfl (by kernel_rfl) (by kernel_rfl) (by kernel_rfl) (fun _ _ _ h => h) rfl (fun W hW => exec_load rfl (run_load_one Tryd.underlying27 rfl (by rw [hW.cell (cell_lt C68.out)]; exact C68.out))) S0.out ?_
  try simp only [Act.put, List.getElem_toArray, List.getElem_cons_succ, List.getElem_cons_zero, List.setIfInBounds_toArray, List.set_cons_zero, List.set_cons_succ]
  refine hm_run 5 18 (.int .i64 ((n : Nat) : Int)) rfl rfl (by kernel_rfl) (by kernel_rfl) (by kernel_rfl) (fun _ _ _ h => h) rfl (fun _ _ => exec_len Tryd.underlying27 rfl rfl) S0.out ?_
  try simp only [Act.put, List.getElem_toArray, List.getElem_cons_succ, List.getElem_cons_zero, List.setIfInBounds_toArray, List.set_cons_zero, List.set_cons_succ]
  refine hm_run 6 19 (.int .u64 ((n : Nat) : Int)) rfl rfl (by kernel_rfl) (by kernel_rfl) (by kernel_rfl) (fun _ _ _ h => h) rfl (fun _ _ => exec_cv rfl rfl ⟨by kernel_rfl, CW.out⟩) S0.out ?_
  try simp only [Act.put, List.getElem_toArray, List.getElem_cons_succ, List.getElem_cons_zero, List.setIfInBounds_toArray, List.set_cons_zero, List.set_cons_succ]
  refine hm_one (i := 2) (by kernel_rfl) ?_
  refine hm_step 2 rfl (by kernel_rfl) fun K hK => ?_
  try simp only [Act.put, List.getElem_toArray, List.getElem_cons_succ, List.getElem_cons_zero, List.setIfInBounds_toArray, List.set_cons_zero, List.set_cons_succ]
  go_simp
  go_at_call 21
  refine (rhenc_any (Lib.hid A2.out.ok) _).mono ?_
  rintro e w3 ⟨p3, g3, c3, rfl, N, hb⟩
  have N3 := Lib.hid (N.mono S0.out.size)
  have S2_6 := Lib.hid (S0.out.trans (hb.mono S0.out.size))
  clear hb N
  refine hK _ _ S2_6.out ?_
  clear hK K
  try simp only [Act.put, List.getElem_toArray, List.getElem_cons_succ, List.getElem_cons_zero, List.setIfInBounds_toArray, List.set_cons_zero, List.set_cons_succ]
  refine hm_one (i := 7) (by kernel_rfl) ?_
  refine hm_step 7 rfl (by kernel_rfl) fun K hK => ?_
  try simp only [Act.put, List.getElem_toArray, List.getElem_cons_succ, List.getElem_cons_zero, List.setIfInBounds_toArray, List.set_cons_zero, List.set_cons_succ]
  go_simp
  go_at_call 22
  refine (ref_encode_any n _).mono ?_
  rintro e w4 ⟨p4, g4, c4, rfl, N, hb⟩
  replace N3 := Lib.hid (N3.out.below hb)
  have R4 := Lib.hid N.row
  have S7_7 := Lib.hid (S2_6.out.trans (hb.mono S2_6.out.size))
  clear hb N
  refine hK _ _ S7_7.out ?_
  clear hK K
  try simp only [Act.put, List.getElem_toArray, List.getElem_cons_succ, List.getElem_cons_zero, List.setIfInBounds_toArray, List.set_cons_zero, List.set_cons_succ]
  refine hm_one (i := 8) (by kernel_rfl) ?_
  refine hm_step 8 rfl (by kernel_rfl) fun K hK => ?_
  try simp only [Act.put, List.getElem_toArray, List.getElem_cons_succ, List.getElem_cons_zero, List.setIfInBounds_toArray, List.set_cons_zero, List.set_cons_succ]
  refine mo_app (.tmp 15) (.tmp 20) rfl rfl N3 rfl R4 (by have := wid_bd n; omega) ?_
  intro p5 g5 c5 w5 N5 hb5
  have S8_8 := Lib.hid (S7_7.out.trans hb5.out)
  clear hb5
  refine hK _ _ S8_8.out ?_
  clear hK K
  try simp only [Act.put, List.getElem_toArray, List.getElem_cons_succ, List.getElem_cons_zero, List.setIfInBounds_toArray, List.set_cons_zero, List.set_cons_succ]
  refine hm_run 9 4 (.slice p5 (80 + wid n) c5) rfl rfl (by kernel_rfl) (by kernel_rfl) (by kernel_rfl) (fun _ _ _ h => h) rfl (fun _ _ => rfl) S8_8.out ?_
  try simp only [Act.put, List.getElem_toArray, List.getElem_cons_succ, List.getElem_cons_zero, List.setIfInBounds_toArray, List.set_cons_zero, List.set_cons_succ]
  refine wpAnyH_done (by kernel_rfl) ?_ _
  have ZL := Lib.hid (show (tl (hb t.hd) 80 ++ cnt n).length = 80 + wid n by rw [List.length_append, tl_length, cnt_length])
  have K := Lib.hid (show Wb W [(b, 29, arr 69 V)] p5 g5 c5 (tl (hb t.hd) 80 ++ cnt n) w5 from ⟨E0.out.call S8_8.out, by rw [ZL.out]; exact (N5.out.mono E0.out.below.size).to (fun i hi => start_is _ _ _ hi) (lf_lt (isB_both (isB_tl (hb_lt A2.out.ok) 80) (isB_tl (enc_lt n) _))), nb_one (by decide)⟩)
  go_wp2_with (refine mem_load_cell (Lib.hid K.out.mem) 27 rfl (.tmp 22) rfl rfl List.mem_cons_self Tryd.underlying27 rfl V68 ?_)
  have WB := wid_bd n
  go_loopg [4, 25] n (fun k s i wr => ∃ (j : Nat) (p : Option Addr) (g c : Nat) (zs : List Nat), j + k = n ∧ i = .int .i64 ((j : Nat) : Int) ∧ s = .slice p zs.length c ∧ Hid (zs = tl (hb t.hd) 80 ++ cnt n ++ fl (t.txs.map fB) j) ∧ Hid (Wb W [(b, 29, arr 69 V)] p g c zs wr) ∧ Hid (zs.length ≤ 100 + j * 2100000000) ∧ Hid ((t.txs.take j).any (fun x => !canB x) = false))
  case atStart => exact ⟨0, p5, g5, c5, _, by omega, rfl, by rw [ZL.out], Lib.hid (by simp [fl]), K, Lib.hid (by rw [ZL.out]; omega), Lib.hid (by simp)⟩
  case round =>
    clear K ZL N5 HB C68 E0 WB
    obtain ⟨j, p4, g4, c4, zs, hj, rfl, rfl, Z, K, HZ, GC⟩ := hrel
    obtain ⟨kk, rfl⟩ : ∃ kk : Nat, kk = gk := ⟨_, rfl⟩
    by_cases hlt : j < n
    · have hlt' : ((j : Nat) : Int) < ((n : Nat) : Int) := by omega
      obtain rfl := RR.out.head (by omega)
      have ht : j < t.txs.length := by rw [← HN.out]; exact hlt
      have TC := Lib.hid (TT.out j ht)
      cases hcan : canB t.txs[j] with
      | false =>
        have BAD := Lib.hid (cant_at ht hcan)
        go_wp2_with (first
          | ((with_reducible refine wpList_at 27 rfl ?_); refine wpList_ix (k := 4) (j := j) Tryd.underlying27 (by kernel_rfl) (.tmp 23) (.tmp 25) rfl rfl rfl rfl hlt rfl ?_)
          | ((with_reducible refine wpList_at 28 rfl ?_); refine wpList_ld 44 (.tmp 27) rfl rfl rfl ((RR.out.below K.out.mem.below).load hlt Tryd.underlying44 rfl (by kernel_rfl)) ?_)
          | ((with_reducible refine wpList_at 6 rfl ?_); refine wb_alloc K 44 (by decide) rfl rfl infoTx ?_; clear K; intro b6 w6 K)
          | ((with_reducible refine wpList_atn rfl ?_); refine wb_store_row 0 K 44 rfl (.tmp 6) (.tmp 28) rfl rfl rfl rfl (by kernel_rfl) (by rw [arr_size]; rfl) (tx_one TC.out) ?_; clear K; intro w7 K; simp only [List.set_cons_zero] at K)
          | ((with_reducible refine wpList_at 30 rfl ?_); refine mem_load_row (Lib.hid K.out.mem) 44 rfl (.tmp 6) rfl rfl List.mem_cons_self Tryd.underlying44 rfl (by simp only [arr_size]; kernel_rfl) ?_)
          | (go_at_call 23; refine (rencf_bad ((TT.out j ht).below K.out.mem.below) hcan).mono ?_; rintro e w8 ⟨rfl, hb⟩; replace K := Lib.hid (K.out.call hb); clear hb))
        refine bodyPost_ret (res2 (fn := Tryd.f7) rfl _ _) rfl ?_
        unfold BEnc
        rw [if_pos (.inr BAD.out)]
        exact ⟨rfl, K.out.mem.below⟩
      | true =>
        have hbd : (fB t.txs[j]).length ≤ 2100000000 := txB_le TC.out hcan (t.txs[j].ins.any hasB)
        have FS := Lib.hid (show fl (t.txs.map fB) (j + 1) = fl (t.txs.map fB) j ++ fB t.txs[j] by rw [fl_succ _ (by rw [List.length_map]; exact ht), List.getElem_map])
        have ZN := Lib.hid (show zs.length + (fB t.txs[j]).length ≤ 100 + (j + 1) * 2100000000 by have := HZ.out; omega)
        have BD := Lib.hid (show zs.length + (fB t.txs[j]).length ≤ 140737488355328 by have := HZ.out; omega)
        have G2 := Lib.hid (can_step ht GC.out hcan)
        clear hbd
        go_wp2_with (first
          | ((with_reducible refine wpList_at 27 rfl ?_); refine wpList_ix (k := 4) (j := j) Tryd.underlying27 (by kernel_rfl) (.tmp 23) (.tmp 25) rfl rfl rfl rfl hlt rfl ?_)
          | ((with_reducible refine wpList_at 28 rfl ?_); refine wpList_ld 44 (.tmp 27) rfl rfl rfl ((RR.out.below K.out.mem.below).load hlt Tryd.underlying44 rfl (by kernel_rfl)) ?_)
          | ((with_reducible refine wpList_at 6 rfl ?_); refine wb_alloc K 44 (by decide) rfl rfl infoTx ?_; clear K; intro b6 w6 K)
          | ((with_reducible refine wpList_atn rfl ?_); refine wb_store_row 0 K 44 rfl (.tmp 6) (.tmp 28) rfl rfl rfl rfl (by kernel_rfl) (by rw [arr_size]; rfl) (tx_one TC.out) ?_; clear K; intro w7 K; simp only [List.set_cons_zero] at K)
          | ((with_reducible refine wpList_at 30 rfl ?_); refine mem_load_row (Lib.hid K.out.mem) 44 rfl (.tmp 6) rfl rfl List.mem_cons_self Tryd.underlying44 rfl (by simp only [arr_size]; kernel_rfl) ?_)
          | (go_at_call 23; refine (rencf_good ((TT.out j ht).below K.out.mem.below) hcan).mono ?_; rintro e w8 ⟨p8, g8, c8, rfl, N8, hb⟩; replace K := Lib.hid (K.out.call hb); have R8 := Lib.hid N8; clear hb N8)
          | (at_builtin; refine wpList_wb rfl (.tmp 37) (.tmp 38) rfl K rfl rfl rfl R8 BD.out ?_; clear K; intro p9 g9 c9 w9 z9 Z9 K))
        go_roundg (n - (j + 1))
        case measure => omega
        case rel => exact ⟨j + 1, p9, g9, c9, z9, by omega, by go_num, rfl, Lib.hid (by rw [Z9.out, Z.out, FS.out, show tl (lf (fB t.txs[j])) (fB t.txs[j]).length = fB t.txs[j] from tl_lf _]; simp only [List.append_assoc]), Lib.hid K.out.tail, Lib.hid (by rw [Z9.out, List.length_append, tl_length]; exact ZN.out), G2⟩
    · have hlt' : ¬ (((j : Nat) : Int) < ((n : Nat) : Int)) := by omega
      obtain rfl : j = n := by omega
      have NB := Lib.hid (show ¬ (2000 < t.txs.length ∨ t.txs.any (fun x => !canB x) = true) by
        have h := GC.out
        rw [HN.out, List.take_length] at h
        rw [← HN.out, h]
        rintro (h | h)
        · omega
        · cases h)
      have E2 := Lib.hid (show zs = blkB t by
        have e := fl_all (t.txs.map fB)
        rw [List.length_map, ← HN.out] at e
        rw [Z.out, e]
        unfold blkB
        rw [← HN.out])
      by_cases hg : 200000 < zs.length
      · have hg' : (200000 : Int) < ((zs.length : Nat) : Int) := by omega
        have BIG := Lib.hid (show 200000 < (blkB t).length by rw [← E2.out]; exact hg)
        clear hg
        go_wp2
        refine bodyPost_ret (res2 (fn := Tryd.f7) rfl _ _) rfl ?_
        unfold BEnc
        rw [if_neg NB.out, if_pos BIG.out]
        exact ⟨rfl, K.out.mem.below⟩
      · have hg' : ¬ ((200000 : Int) < ((zs.length : Nat) : Int)) := by omega
        have BIG := Lib.hid (show ¬ 200000 < (blkB t).length by rw [← E2.out]; exact hg)
        clear hg
        go_wp2
        refine bodyPost_ret (res2 (fn := Tryd.f7) rfl _ _) rfl ?_
        unfold BEnc
        have K2 := K.out.gets
        rw [if_neg NB.out, if_neg BIG.out, ← E2.out]
        exact ⟨_, _, _, rfl, K2.1, K2.2⟩
end Go.Proofs.YtgicnmfodbenlaaDoor
end
section
/- A block in memory of its own; two blocks that are the same. -/
set_option linter.unusedSimpArgs false
set_option linter.unusedVariables false
set_option maxRecDepth 100000
namespace Go.Proofs.YtgicnmfodbenlaaDoor
open Go.RowKit Go.Lib Go.Sort

theorem part_v (h : Hd) (w : World) : (part 22 (arr 68 (hc h)) 0).run Tryd.prog w = .ok (.int .u32 ((h.v : Nat) : Int)) w := by kernel_rfl
theorem part_p (h : Hd) (w : World) : (part 24 (arr 68 (hc h)) 1).run Tryd.prog w = .ok (.agg (arr 32 (bv h.prev))) w := by kernel_rfl
theorem part_m (h : Hd) (w : World) : (part 24 (arr 68 (hc h)) 33).run Tryd.prog w = .ok (.agg (arr 32 (bv h.merkle))) w := by kernel_rfl
theorem part_t (h : Hd) (w : World) : (part 22 (arr 68 (hc h)) 65).run Tryd.prog w = .ok (.int .u32 ((h.t : Nat) : Int)) w := by kernel_rfl
theorem part_b (h : Hd) (w : World) : (part 22 (arr 68 (hc h)) 66).run Tryd.prog w = .ok (.int .u32 ((h.b : Nat) : Int)) w := by kernel_rfl
theorem part_n (h : Hd) (w : World) : (part 22 (arr 68 (hc h)) 67).run Tryd.prog w = .ok (.int .u32 ((h.n : Nat) : Int)) w := by kernel_rfl
theorem same_hdr (h : Hd) (w : World) : (Op.equalIn 10000 26 (.agg (arr 68 (hc h))) (.agg (arr 68 (hc h)))).run Tryd.prog w = .ok true w := by
  rw [run_equalIn_struct w 9999 26 _ _ hdr_is' (by kernel_rfl)]
  refine eqFields_all _ fun f hf => ?_
  have hm : (f.type, f.offset) ∈ [(22, 0), (24, 1), (24, 33), (22, 65), (22, 66), (22, 67)] := by
    rw [← hdr_fields']
    exact List.mem_map.2 ⟨f, hf, rfl⟩
  have num : ∀ (n : Nat), (Op.equalIn 9999 22 (.int .u32 ((n : Nat) : Int)) (.int .u32 ((n : Nat) : Int))).run Tryd.prog w = .ok true w := fun n => by
    rw [run_equalIn_int w 9998 22 .u32 .u32 _ _ Tryd.underlying22]
    simp
  simp only [List.mem_cons, List.not_mem_nil, or_false, Prod.mk.injEq] at hm
  rcases hm with ⟨e1, e2⟩ | ⟨e1, e2⟩ | ⟨e1, e2⟩ | ⟨e1, e2⟩ | ⟨e1, e2⟩ | ⟨e1, e2⟩
  · rw [e1, e2]; exact ⟨_, part_v h w, num _⟩
  · rw [e1, e2]; exact ⟨_, part_p h w, same_bytes_at (d := 9997) Tryd.underlying24 _ w⟩
  · rw [e1, e2]; exact ⟨_, part_m h w, same_bytes_at (d := 9997) Tryd.underlying24 _ w⟩
  · rw [e1, e2]; exact ⟨_, part_t h w, num _⟩
  · rw [e1, e2]; exact ⟨_, part_b h w, num _⟩
  · rw [e1, e2]; exact ⟨_, part_n h w, num _⟩

set_option maxHeartbeats 4000000 in
theorem eftx_any {w : World} {v v' : Value} {ts : List TTx} (A : Hid (TxsAt w v ts)) (A' : Hid (TxsAt w v' ts)) :
    Calls Tryd.prog 27 #[v, v', .func (.func 28) #[] #[]] w fun e w' => e = .returned (.bool true) ∧ Below w.heap.size w w' := by
  obtain ⟨p, g, o, c, V, hv, hc, R0, hi⟩ := A.out
  obtain ⟨p', g', o', c', V', hv', hc', R0', hi'⟩ := A'.out
  subst hv hv'
  have RR := Lib.hid R0
  have SS := Lib.hid R0'
  have TT := Lib.hid hi
  have TU := Lib.hid hi'
  clear R0 hi A R0' hi' A' hc'
  have E := Lib.hid (Mem.nil w)
  obtain ⟨n, hn⟩ : ∃ n, n = ts.length := ⟨_, rfl⟩
  have HN := Lib.hid hn
  rw [← hn] at RR SS hc ⊢
  have hn3 : n ≤ 140737488355328 := by omega
  clear hn hc
  go_enter Tryd.func27, Tryd.ntmps27
  go_wp2
  go_loopg [17] n (fun k i wr => ∃ j : Nat, j + k = n ∧ i = .int .i64 (j : Int) ∧ Hid (Mem w [] wr))
  case atStart => exact ⟨0, by omega, rfl, E⟩
  case round =>
    clear E
    obtain ⟨j, hj, rfl, E⟩ := hrel
    obtain ⟨kk, rfl⟩ : ∃ kk : Nat, kk = gk := ⟨_, rfl⟩
    by_cases hlt : j < n
    · obtain rfl := RR.out.head (by omega)
      obtain rfl := SS.out.head (by omega)
      have ht : j < ts.length := by rw [← HN.out]; exact hlt
      have EC := Lib.hid (TT.out j ht)
      have ED := Lib.hid (TU.out j ht)
      go_wp2_with (first
        | (refine wpList_ix (k := 4) (j := j) Tryd.underlying27 (by kernel_rfl) (.tmp 15) (.tmp 17) rfl rfl rfl rfl hlt rfl ?_)
        | (refine wpList_ix (k := 4) (j := j) Tryd.underlying27 (by kernel_rfl) (.tmp 22) (.tmp 23) rfl rfl rfl rfl hlt rfl ?_)
        | (refine wpList_ld 44 (.tmp 20) rfl rfl rfl ((RR.out.below E.out.below).load hlt Tryd.underlying44 rfl (by kernel_rfl)) ?_)
        | (refine wpList_ld 44 (.tmp 24) rfl rfl rfl ((SS.out.below E.out.below).load hlt Tryd.underlying44 rfl (by kernel_rfl)) ?_)
        | (refine mem_alloc E 44 rfl rfl infoTx ?_; clear E; intro bn wn E)
        | (refine mem_store_row 0 E 44 rfl (.tmp 8) (.tmp 21) rfl rfl rfl rfl (by kernel_rfl) (by rw [arr_size]; rfl) (RR.out.arr_one hlt) ?_; clear E; intro w5 E; simp only [List.set_cons_zero, List.set_cons_succ] at E)
        | (refine mem_store_row 0 E 44 rfl (.tmp 9) (.tmp 25) rfl rfl rfl rfl (by kernel_rfl) (by rw [arr_size]; rfl) (SS.out.arr_one hlt) ?_; clear E; intro w6 E; simp only [List.set_cons_zero, List.set_cons_succ] at E)
        | (refine mem_load_row E 44 rfl (.tmp 8) rfl rfl (List.mem_cons_of_mem _ List.mem_cons_self) Tryd.underlying44 rfl (by simp only [arr_size]; kernel_rfl) ?_)
        | (refine mem_load_row E 44 rfl (.tmp 9) rfl rfl List.mem_cons_self Tryd.underlying44 rfl (by simp only [arr_size]; kernel_rfl) ?_)
        | (go_at_call 28; refine (same_tx (Lib.hid (EC.out.below E.out.below)) (Lib.hid (ED.out.below E.out.below))).mono ?_; rintro e w7 ⟨rfl, hb⟩; replace E := Lib.hid (E.out.call hb); clear hb))
      go_roundg (n - (j + 1))
      case measure => omega
      case rel => exact ⟨j + 1, by omega, by go_num, Lib.hid E.out.tail.tail⟩
    · obtain rfl : j = n := by omega
      go_wp2
      go_ret
      exact ⟨rfl, E.out.below⟩


set_option maxHeartbeats 4000000 in
theorem same_blk {w : World} {V V' : Nat → Value} {t : TBlk} (A : Hid (BlkCells w V t)) (A' : Hid (BlkCells w V' t)) : Calls Tryd.prog 11 #[.agg (arr 69 V), .agg (arr 69 V')] w fun e w' => e = .returned (.bool true) ∧ Below w.heap.size w w' := by
  have E := Lib.hid (Mem.nil w)
  have c68 : (arr 69 V)[68]? = some (V 68) := arr_get 69 V 68 (by omega)
  have c68' : (arr 69 V')[68]? = some (V' 68) := arr_get 69 V' 68 (by omega)
  have S := Lib.hid fun w' (hb : Below w.heap.size w w') => eftx_any (Lib.hid (A.out.txs.below hb)) (Lib.hid (A'.out.txs.below hb))
  have EQ := same_hdr t.hd
  go_enter Tryd.func11, Tryd.ntmps11
  go_wp2_with (first
    | ((with_reducible refine wpList_at 2 rfl ?_); refine mem_box E 29 rfl (.tmp 0) rfl rfl (arr_cells' 69 V) ?_; clear E; intro b2 w2 E)
    | ((with_reducible refine wpList_at 3 rfl ?_); refine mem_box E 29 rfl (.tmp 1) rfl rfl (arr_cells' 69 V') ?_; clear E; intro b3 w3 E)
    | ((with_reducible refine wpList_at 6 rfl ?_); refine wpList_ld 26 (.tmp 5) rfl rfl rfl (ld_hdrA A.out (E.out.get (List.mem_cons_of_mem _ List.mem_cons_self)) (Below.refl _ _)) ?_)
    | ((with_reducible refine wpList_at 8 rfl ?_); refine wpList_ld 26 (.tmp 7) rfl rfl rfl (ld_hdrA A'.out (E.out.get List.mem_cons_self) (Below.refl _ _)) ?_)
    | ((with_reducible refine wpList_at 12 rfl ?_); refine mem_load_cell E 27 (by kernel_rfl) (.tmp 11) rfl rfl (List.mem_cons_of_mem _ List.mem_cons_self) Tryd.underlying27 rfl c68 ?_)
    | ((with_reducible refine wpList_at 14 rfl ?_); refine mem_load_cell E 27 (by kernel_rfl) (.tmp 13) rfl rfl List.mem_cons_self Tryd.underlying27 rfl c68' ?_)
    | (go_at_call 27; refine (S.out _ E.out.below).mono ?_; rintro e w4 ⟨rfl, hb⟩; replace E := Lib.hid (E.out.call hb); clear hb))
  go_ret
  exact ⟨by simp, E.out.below⟩
theorem TxOwn.to {B : Nat} {w : World} {V U : Nat → Value} {t : TTx} (h : TxOwn B w V t) (e : ∀ x, x < 4 → V x = U x) : TxOwn B w U t :=
  ⟨by rw [← e 0 (by omega)]; exact h.ver, h.verB, by rw [← e 1 (by omega)]; exact h.ins, by rw [← e 2 (by omega)]; exact h.outs, by rw [← e 3 (by omega)]; exact h.lock, h.lockB⟩
theorem TxOwn.mono {B B' : Nat} {w : World} {V : Nat → Value} {t : TTx} (h : TxOwn B w V t) (hB : B' ≤ B) : TxOwn B' w V t := ⟨h.ver, h.verB, h.ins.mono hB, h.outs.mono hB, h.lock, h.lockB⟩
theorem TxOwn.one {B : Nat} {w : World} {V : Nat → Value} {t : TTx} (h : TxOwn B w V t) : ∀ j, j < 4 → (V j).oneCell' = true := h.at.one
/-- A block in memory of its own. -/
structure BlkOwn (B : Nat) (w : World) (V : Nat → Value) (t : TBlk) : Prop where
  hd : ∀ j, j < 68 → V j = hc t.hd j
  ok : t.hd.Ok
  txs : ∃ p g c X, V 68 = .slice p t.txs.length c ∧ t.txs.length * 64 ≤ 140737488351232 ∧ VOwn 44 4 B w p g t.txs.length c X ∧ ∀ i (h : i < t.txs.length), TxOwn B w (fun x => X (i * 4 + x)) t.txs[i]
theorem BlkOwn.at {B : Nat} {w : World} {V : Nat → Value} {t : TBlk} (h : BlkOwn B w V t) : BlkCells w V t := by
  obtain ⟨p, g, c, X, e, hl, N, I⟩ := h.txs
  exact ⟨h.hd, h.ok, p, g, 0, c, X, e, hl, N.row, fun i hi => (I i hi).at⟩
theorem BlkOwn.below {B : Nat} {w w' : World} {V : Nat → Value} {t : TBlk} (h : BlkOwn B w V t) (hb : Below w.heap.size w w') : BlkOwn B w' V t := by
  obtain ⟨p, g, c, X, e, hl, N, I⟩ := h.txs
  exact ⟨h.hd, h.ok, p, g, c, X, e, hl, N.below hb, fun i hi => (I i hi).below hb⟩
theorem BlkOwn.keep {B : Nat} {w w' : World} {V : Nat → Value} {t : TBlk} (h : BlkOwn B w V t) (k : KeepT 29 w w') : BlkOwn B w' V t := by
  obtain ⟨p, g, c, X, e, hl, N, I⟩ := h.txs
  exact ⟨h.hd, h.ok, p, g, c, X, e, hl, N.keep k (by decide), fun i hi => (I i hi).keep k (by decide) (by decide) (by decide) (by decide)⟩
theorem blk_ones {w : World} {V : Nat → Value} {t : TBlk} (A : BlkCells w V t) : ∀ j, j < 69 → (V j).oneCell' = true := fun j hj => by
  by_cases h : j = 68
  · rw [h]; exact A.txs.one
  · rw [A.hd j (by omega)]
    unfold hc
    repeat' split
    all_goals rfl
set_option maxHeartbeats 8000000 in
theorem bcopy_any {W : World} {V : Nat → Value} {t : TBlk} (A : Hid (BlkCells W V t)) : Calls Tryd.prog 5 #[.agg (arr 69 V)] W fun e w' => ∃ B V', e = .returned (.agg (arr 69 V')) ∧ BlkOwn B w' V' t ∧ Below W.heap.size W w' := by
  have E := Lib.hid (Mem.nil W)
  obtain ⟨p, g, o, c, U, hv68, hlen, R0, hi⟩ := A.out.txs
  obtain ⟨n, hn⟩ : ∃ n, n = t.txs.length := ⟨_, rfl⟩
  have HN := Lib.hid hn
  have RR := Lib.hid R0
  have TT := Lib.hid hi
  have ONES := Lib.hid (blk_ones A.out)
  rw [← hn] at hv68 hlen RR
  have V68 : (arr 69 V)[68]? = some (.slice p n c) := by rw [arr_get 69 V 68 (by omega), hv68]
  have cn := RR.out.le
  have HLEN := Lib.hid hlen
  clear hn hi R0 hv68
  go_enter Tryd.func5, Tryd.ntmps5
  go_wp2_with (first
    | ((with_reducible refine wpList_at 1 rfl ?_); refine mem_box E 29 rfl (.tmp 0) rfl rfl (arr_cells' 69 V) ?_; clear E; intro b1 w1 E)
    | ((with_reducible refine wpList_at 2 rfl ?_); refine mem_alloc E 29 rfl rfl infoBlk0 ?_; clear E; intro b2 w2 E; simp only [arr_cells'] at E)
    | ((with_reducible refine wpList_at 7 rfl ?_); refine mem_load_cell E 27 rfl (.tmp 6) rfl rfl (List.mem_cons_of_mem _ List.mem_cons_self) Tryd.underlying27 rfl V68 ?_))
  obtain ⟨zc, hzc⟩ : ∃ zc : Array Value, zc = arr 69 (bc (hr fun _ => 0) (.slice none 0 0)) := ⟨_, rfl⟩
  have ZC : Hid (zc.size = 69) := Lib.hid (by rw [hzc, arr_size])
  rw [← hzc] at E
  clear hzc
  have HBZ := Lib.hid (show W.heap.size ≤ w2.heap.size from E.out.below.size)
  go_loopg [3, 9] n (fun k s i wr => ∃ (j : Nat) (p : Option Addr) (g c : Nat) (V3 : Nat → Value), j + k = n ∧ i = .int .i64 ((j : Nat) : Int) ∧ s = .slice p j c ∧ Hid (VOwn 44 4 w2.heap.size wr p g j c V3) ∧ Hid (∀ i (h : i < t.txs.length), i < j → TxOwn w2.heap.size wr (fun x => V3 (i * 4 + x)) t.txs[i]) ∧ Hid (Mem W [(b2, 29, zc), (b1, 29, arr 69 V)] wr) ∧ Hid (w2.heap.size ≤ wr.heap.size) ∧ Hid (Below w2.heap.size w2 wr))
  case atStart => exact ⟨0, none, 0, 0, fun _ => undef, by omega, rfl, rfl, Lib.hid (vown_nothing _ _ _ _ _ (Nat.le_refl _)), Lib.hid (fun i _ h => absurd h (by omega)), E, Lib.hid (Nat.le_refl _), Lib.hid (Below.refl _ _)⟩
  case round =>
    obtain ⟨E0, hE0⟩ : ∃ E0, E0 = E := ⟨_, rfl⟩
    clear hE0 E
    obtain ⟨j, p3, g3, c3, V3, hj, rfl, rfl, N3, I3, EM, SZ, B3⟩ := hrel
    obtain ⟨kk, rfl⟩ : ∃ kk : Nat, kk = gk := ⟨_, rfl⟩
    obtain ⟨wo, rfl⟩ : ∃ wo : World, wo = wr := ⟨_, rfl⟩
    by_cases hlt : j < n
    · have hlt' : ((j : Nat) : Int) < ((n : Nat) : Int) := by omega
      obtain rfl := RR.out.head (by omega)
      have ht : j < t.txs.length := by rw [← HN.out]; exact hlt
      obtain ⟨x, hx⟩ : ∃ x, x = t.txs[j] := ⟨_, rfl⟩
      have HX := Lib.hid hx
      have TC := Lib.hid ((TT.out j ht).below EM.out.below)
      have RJ := Lib.hid (RR.out.below EM.out.below)
      rw [← hx] at TC
      have E1 := Lib.hid (Mem.nil wo)
      clear hx
      go_wp2_with (first
        | ((with_reducible refine wpList_at 11 rfl ?_); refine wpList_ix (k := 4) (j := j) Tryd.underlying27 (by kernel_rfl) (.tmp 7) (.tmp 9) rfl rfl rfl rfl hlt rfl ?_)
        | ((with_reducible refine wpList_at 12 rfl ?_); refine wpList_ld 44 (.tmp 11) rfl rfl rfl (RJ.out.load hlt Tryd.underlying44 rfl (by kernel_rfl)) ?_)
        | ((with_reducible refine wpList_at 5 rfl ?_); refine mem_alloc E1 44 rfl rfl infoTx ?_; clear E1; intro b5 w4 E1)
        | ((with_reducible refine wpList_atn rfl ?_); refine mem_store_row 0 E1 44 rfl (.tmp 5) (.tmp 12) rfl rfl rfl rfl (by kernel_rfl) (by rw [arr_size]; rfl) (tx_one TC.out) ?_; clear E1; intro w5 E1; simp only [List.set_cons_zero, List.set_cons_succ] at E1)
        | ((with_reducible refine wpList_at 14 rfl ?_); refine mem_load_row E1 44 rfl (.tmp 5) rfl rfl List.mem_cons_self Tryd.underlying44 rfl (by simp only [arr_size]; kernel_rfl) ?_)
        | (go_at_call 15; refine (rcopy_any (Lib.hid (TC.out.below E1.out.below))).mono ?_; rintro e w6 ⟨Vn, rfl, O6, hb⟩; have TN := Lib.hid (O6.mono E1.out.below.size); replace E1 := Lib.hid (E1.out.call hb); clear hb O6)
        | ((with_reducible refine wpList_at 16 rfl ?_); refine wpList_vbs 27 44 4 1 rfl _ rfl Vn (one_arr TN.out.one) (by unfold maxLen; omega) (ps := #[(0, .agg (arr 4 Vn))]) (by kernel_rfl) (fun W => run_bs1 Tryd.underlying27 infoTx3 (by omega) (by omega) _ (arr_size _ _) W) (arr_vs _ _) ?_; intro p13 g13 w13 N13 hb13; replace E1 := Lib.hid (E1.out.call hb13.out); replace TN := Lib.hid (TN.out.below hb13.out); clear hb13)
        | (at_builtin; refine wpList_vapp 27 44 4 64 Tryd.underlying27 infoTx3 rfl (by omega) rfl (.tmp 13) (.tmp 16) rfl rfl (Lib.hid (N3.out.below E1.out.below)) rfl (Lib.hid N13.out.row) (by unfold maxLen; have := HLEN.out; omega) (by have := HLEN.out; omega) ?_; intro p14 g14 c14 w14 N14 hg14))
      have KT := Lib.hid (KeepT.of_grown (N3.out.below E1.out.below) hg14.out)
      have BG := Lib.hid ((N3.out.below E1.out.below).under hg14.out (Nat.le_refl _) (Nat.le_trans SZ.out E1.out.below.size))
      have B14 := Lib.hid ((B3.out.trans (E1.out.below.mono SZ.out)).trans BG.out)
      have I14 : Hid (∀ i (h : i < t.txs.length), i < j + 1 → TxOwn w2.heap.size w14 (fun y => vcat V3 (j * 4) Vn (i * 4 + y)) t.txs[i]) := Lib.hid (fun i h hi => by
        by_cases e : i = j
        · subst e
          rw [← HX.out]
          exact ((TN.out.mono SZ.out).keep KT.out (by decide) (by decide) (by decide) (by decide)).to fun y hy => vcat_hi.symm
        · exact (((I3.out i h (by omega)).below E1.out.below).keep KT.out (by decide) (by decide) (by decide) (by decide)).to fun y hy => (vcat_lo (by omega) hy).symm)
      have EMN := Lib.hid (E0.out.call B14.out)
      have SZN := Lib.hid (show w2.heap.size ≤ w14.heap.size from B14.out.size)
      clear KT hg14 N13 E1 TN
      go_roundg (n - (j + 1))
      case measure => omega
      case rel => exact ⟨j + 1, p14, g14, c14, _, by omega, by go_num, rfl, N14, I14, EMN, SZN, B14⟩
    · have hlt' : ¬ (((j : Nat) : Int) < ((n : Nat) : Int)) := by omega
      obtain rfl : j = n := by omega
      clear E0
      go_wp2_with (first
        | ((with_reducible refine wpList_atn rfl ?_); refine mem_store_cellk 1 EM 27 rfl (.tmp 20) (.tmp 19) rfl rfl rfl rfl (by kernel_rfl) rfl rfl (by rw [arr_size]; omega) ?_; clear EM; intro w12 EM KT; simp only [List.set_cons_zero, List.set_cons_succ, arr_ups] at EM)
        | ((with_reducible refine wpList_at 21 rfl ?_); refine mem_load_row EM 29 rfl (.tmp 1) rfl rfl (List.mem_cons_of_mem _ List.mem_cons_self) blk_is rfl (by simp only [arr_size]; kernel_rfl) ?_)
        | ((with_reducible refine wpList_atn rfl ?_); refine mem_store_rowk 0 EM 29 rfl (.tmp 2) (.tmp 21) rfl rfl rfl rfl (by kernel_rfl) (by rw [arr_size]; exact ZC.out) (all_of (fun i hi => by
            unfold ups
            split
            · rfl
            · exact ONES.out i hi)) ?_; clear EM; intro w14 EM KT2; simp only [List.set_cons_zero, List.set_cons_succ] at EM))
      refine bodyPost_ret (results_cell_row (fn := Tryd.f5) rfl _ _ b2 29 _ (0, 0) _ rfl (EM.out.get List.mem_cons_self) blk_is rfl (by rw [arr_size]; kernel_rfl)) rfl ⟨w2.heap.size, _, rfl, ?_, EM.out.below⟩
      refine ⟨fun k hk => by rw [ups_ne _ _ (by omega)]; exact A.out.hd k hk, A.out.ok, ?_⟩
      rw [ups_at, HN.out]
      exact ⟨p3, g3, c3, V3, rfl, by rw [← HN.out]; exact HLEN.out, by rw [← HN.out]; exact (N3.out.keep KT.out (by decide)).keep KT2.out (by decide), fun i h => ((I3.out i h (by rw [HN.out]; exact h)).keep KT.out (by decide) (by decide) (by decide) (by decide)).keep KT2.out (by decide) (by decide) (by decide) (by decide)⟩
end Go.Proofs.YtgicnmfodbenlaaDoor
end
