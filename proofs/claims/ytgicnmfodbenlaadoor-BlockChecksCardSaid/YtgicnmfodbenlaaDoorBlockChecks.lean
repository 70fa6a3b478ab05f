/- For every list of transactions (nil or not, anything in them; of more than 100, or with one that can't be written, the law asks only of a block of none) and every hash: the block of them with their own root is told the same by the program's Check and by the document's; with another root, and without transactions, the program answers ErrBlock; a small block is written; the call returns true. The two tables of package sha are laid as the program's text lays them; the card ties them to that text. No other condition. -/
import Derived.Test.YtgicnmfodbenlaaDoorBk
import Derived.Test.YtgicnmfodbenlaaDoorSD8
import Derived.Test.YtgicnmfodbenlaaDoorTie
import Derived.Test.YtgicnmfodbenlaaDoorCards
import Derived.ShutString
import Derived.ChangeOld
import Derived.Below
import Derived.SevenTiedAt
set_option linter.unusedVariables false
set_option linter.unusedSimpArgs false
namespace Go.Proofs.YtgicnmfodbenlaaDoor.blockChecks
open Go.ChangeShapes Go.WideShapes Go.ChangeAt Go.RowKit Go.Lib Go.Sort Go.Proofs.YtgicnmfodbenlaaDoor

theorem ld_own {w : World} {b T : Nat} {a : List Nat} {v : Value} (hh : w.heap[b]? = some (.cells (arr 69 (bc (hr (lf a)) v)) T (0, 0))) (ha : Hid (IsH a)) :
    (Instr.loadAt 24 (.pointer (some ⟨b, 33, none⟩))).run Tryd.prog w = .ok (.agg (arr 32 (bv (lf a)))) w := by
  have A : BlkCells w (bc (hr (lf a)) (.slice none 0 0)) ⟨hr (lf a), []⟩ := bc_at (hr_ok fun i => lf_lt ha.out.byte i) (txs_nil w)
  have hr' : w.rangeAt b 33 (arr 32 (bv (lf a))).toList := fun j x hj => by
    have h32 : j < 32 := by
      rcases Nat.lt_or_ge j 32 with q | q
      · exact q
      · rw [List.getElem?_eq_none (by rw [Array.length_toList, arr_size]; exact q)] at hj
        cases hj
    rw [Array.getElem?_toList, arr_get 32 _ j h32] at hj
    injection hj with hj
    subst hj
    refine cell_of_here hh (33 + j) ?_
    rw [arr_get 69 _ (33 + j) (by omega)]
    unfold bc hc bv hr
    simp only
    rw [if_neg (by omega), if_neg (by omega), if_neg (by omega), if_pos (by omega), Nat.add_sub_cancel_left]
  have := run_loadAt_mid (P := Tryd.prog) w b 33 24 (arr 32 (bv (lf a))).toList _ hr' Tryd.underlying24 rfl (by rw [Array.length_toList, arr_size]; kernel_rfl)
  simpa using this
set_option maxRecDepth 100000 in
set_option maxHeartbeats 16000000 in
theorem walk (W : World) (hL : laidMetH Tryd.prog S.shaLaid W) (v0 : Value) (ts : List TTx) (w0 : TxsAt W v0 ts) (v1 : Value) (a1 : List Nat) (ha1 : IsH a1) (e1 : v1 = .agg (arr 32 (bv (lf a1)))) :
    Calls Tryd.prog 4 #[v0, v1] W fun e w' => e = .returned (.bool true) ∧ Below W.heap.size W w' := by
  subst e1
  have KL := Lib.hid (show S.Both W from S.of_sha hL)
  obtain ⟨p, g, o, c, U, rfl, hlen, R0, hi⟩ := w0
  have A0 := Lib.hid (show TxsAt W (.slice p ts.length c) ts from ⟨p, g, o, c, U, rfl, hlen, R0, hi⟩)
  obtain ⟨n, hn⟩ : ∃ n, n = ts.length := ⟨_, rfl⟩
  have HN := Lib.hid hn
  have RR := Lib.hid R0
  have TT := Lib.hid hi
  have HA := Lib.hid ha1
  rw [← hn] at hlen RR A0 ⊢
  have cn := RR.out.le
  have E := Lib.hid (Mem.nil W)
  clear hn R0 hi hL ha1
  go_enter Tryd.func4, Tryd.ntmps4
  go_wp2_with (((with_reducible refine wpList_at 3 rfl ?_); refine mem_box E 24 rfl (.tmp 1) rfl rfl (arr_cells' 32 _) ?_; clear E; intro b3 w1 E))
  have HB3 := Lib.hid (E.out.get List.mem_cons_self)
  have BE := Lib.hid E.out.below
  have NS := Lib.hid (vown_nothing w1 24 32 w1.heap.size (hv (idsOf ts)) (Nat.le_refl _))
  have BS := Lib.hid (Below.refl w1.heap.size w1)
  clear E
  go_loopg [5, 15] n (fun k s i wr => ∃ (j : Nat) (p' : Option Addr) (g' c' : Nat), j + k = n ∧ i = .int .i64 ((j : Nat) : Int) ∧ s = .slice p' j c' ∧ Hid (VOwn 24 32 w1.heap.size wr p' g' j c' (hv (idsOf ts))) ∧ Hid (Below w1.heap.size w1 wr) ∧ Hid (j = 0 ∨ n ≤ 100))
  case atStart => exact ⟨0, _, _, _, by omega, rfl, rfl, NS, BS, Lib.hid (.inl rfl)⟩
  case round =>
    clear NS BS
    obtain ⟨j, p2, g2, c2, hj, rfl, rfl, N, B, GT⟩ := hrel
    obtain ⟨kk, rfl⟩ : ∃ kk : Nat, kk = gk := ⟨_, rfl⟩
    have BW := Lib.hid (BE.out.trans (B.out.mono BE.out.size))
    have E2 := Lib.hid (Mem.nil wr)
    by_cases hlt : j < n
    · have hlt' : ((j : Nat) : Int) < ((n : Nat) : Int) := by omega
      obtain rfl := RR.out.head (by omega)
      have ht : j < ts.length := by rw [← HN.out]; exact hlt
      have RJ := Lib.hid (RR.out.below BW.out)
      have TC := Lib.hid ((TT.out j ht).below BW.out)
      cases hcan : canB ts[j] with
      | false =>
        have IDE := Lib.hid (id_bad hcan)
        go_wp2_with (first
          | ((with_reducible refine wpList_at 17 rfl ?_); refine wpList_ix (k := 4) (j := j) Tryd.underlying27 (by kernel_rfl) (.tmp 13) (.tmp 15) rfl rfl rfl rfl hlt rfl ?_)
          | ((with_reducible refine wpList_at 18 rfl ?_); refine wpList_ld 44 (.tmp 17) rfl rfl rfl (RJ.out.load hlt Tryd.underlying44 rfl (by kernel_rfl)) ?_)
          | ((with_reducible refine wpList_at 7 rfl ?_); refine mem_alloc E2 44 rfl rfl infoTx ?_; clear E2; intro b5 w4 E2)
          | ((with_reducible refine wpList_atn rfl ?_); refine mem_store_row 0 E2 44 rfl (.tmp 7) (.tmp 18) rfl rfl rfl rfl (by kernel_rfl) (by rw [arr_size]; rfl) (tx_one TC.out) ?_; clear E2; intro w4 E2; simp only [List.set_cons_zero] at E2)
          | ((with_reducible refine wpList_at 20 rfl ?_); refine mem_load_row E2 44 rfl (.tmp 7) rfl rfl List.mem_cons_self Tryd.underlying44 rfl (by simp only [arr_size]; kernel_rfl) ?_)
          | (go_at_call 13; refine (rtxid_any (Lib.hid (⟨_, rfl, TC.out.below E2.out.below⟩ : TxAt _ _ _))).mono ?_; rw [IDE.out]; rintro e w5 ⟨rfl, hb⟩; replace E2 := Lib.hid (E2.out.call hb); clear hb)
          | ((with_reducible refine wpList_at 8 rfl ?_); refine mem_alloc E2 24 rfl rfl infoHash ?_; clear E2; intro b8 w6 E2; simp only [arr_cells'] at E2)
          | ((with_reducible refine wpList_atn rfl ?_); refine mem_store_row 0 E2 24 rfl (.tmp 8) (.tmp 22) rfl rfl rfl rfl (by kernel_rfl) (by simp only [arr_size]) (bv_one _ _) ?_; clear E2; intro w7 E2; simp only [List.set_cons_zero] at E2)
          | ((with_reducible refine wpList_at 31 rfl ?_); refine wpList_bld 29 _ rfl rfl (ps := #[]) (by kernel_rfl) built_blk0 ?_)
          | (go_at_call 9; refine (chk_any (Lib.hid (blk0_at _)) (Lib.hid (KL.out.below (BW.out.trans (E2.out.below.mono BW.out.size))))).mono ?_; rw [chk_zero]; rintro e w8 ⟨rfl, hb⟩; replace E2 := Lib.hid (E2.out.call hb); clear hb))
        go_ret
        exact ⟨by simp, BW.out.trans (E2.out.below.mono BW.out.size)⟩
      | true =>
        have IDE := Lib.hid (id_good hcan).2
        have IDV := Lib.hid (id_good hcan).1
        by_cases h100 : 100 < n
        · have h100' : (100 : Int) < ((n : Nat) : Int) := by omega
          go_wp2_with (first
          | ((with_reducible refine wpList_at 17 rfl ?_); refine wpList_ix (k := 4) (j := j) Tryd.underlying27 (by kernel_rfl) (.tmp 13) (.tmp 15) rfl rfl rfl rfl hlt rfl ?_)
          | ((with_reducible refine wpList_at 18 rfl ?_); refine wpList_ld 44 (.tmp 17) rfl rfl rfl (RJ.out.load hlt Tryd.underlying44 rfl (by kernel_rfl)) ?_)
          | ((with_reducible refine wpList_at 7 rfl ?_); refine mem_alloc E2 44 rfl rfl infoTx ?_; clear E2; intro b5 w4 E2)
          | ((with_reducible refine wpList_atn rfl ?_); refine mem_store_row 0 E2 44 rfl (.tmp 7) (.tmp 18) rfl rfl rfl rfl (by kernel_rfl) (by rw [arr_size]; rfl) (tx_one TC.out) ?_; clear E2; intro w4 E2; simp only [List.set_cons_zero] at E2)
          | ((with_reducible refine wpList_at 20 rfl ?_); refine mem_load_row E2 44 rfl (.tmp 7) rfl rfl List.mem_cons_self Tryd.underlying44 rfl (by simp only [arr_size]; kernel_rfl) ?_)
          | (go_at_call 13; refine (rtxid_any (Lib.hid (⟨_, rfl, TC.out.below E2.out.below⟩ : TxAt _ _ _))).mono ?_; rw [IDE.out]; rintro e w5 ⟨rfl, hb⟩; replace E2 := Lib.hid (E2.out.call hb); clear hb)
          | ((with_reducible refine wpList_at 8 rfl ?_); refine mem_alloc E2 24 rfl rfl infoHash ?_; clear E2; intro b8 w6 E2; simp only [arr_cells'] at E2)
          | ((with_reducible refine wpList_atn rfl ?_); refine mem_store_row 0 E2 24 rfl (.tmp 8) (.tmp 22) rfl rfl rfl rfl (by kernel_rfl) (by simp only [arr_size]) (bv_one _ _) ?_; clear E2; intro w7 E2; simp only [List.set_cons_zero] at E2)
          | ((with_reducible refine wpList_at 31 rfl ?_); refine wpList_bld 29 _ rfl rfl (ps := #[]) (by kernel_rfl) built_blk0 ?_)
          | (go_at_call 9; refine (chk_any (Lib.hid (blk0_at _)) (Lib.hid (KL.out.below (BW.out.trans (E2.out.below.mono BW.out.size))))).mono ?_; rw [chk_zero]; rintro e w8 ⟨rfl, hb⟩; replace E2 := Lib.hid (E2.out.call hb); clear hb))
          go_ret
          exact ⟨by simp, BW.out.trans (E2.out.below.mono BW.out.size)⟩
        · have h100' : ¬ ((100 : Int) < ((n : Nat) : Int)) := by omega
          go_wp2_with (first
          | ((with_reducible refine wpList_at 17 rfl ?_); refine wpList_ix (k := 4) (j := j) Tryd.underlying27 (by kernel_rfl) (.tmp 13) (.tmp 15) rfl rfl rfl rfl hlt rfl ?_)
          | ((with_reducible refine wpList_at 18 rfl ?_); refine wpList_ld 44 (.tmp 17) rfl rfl rfl (RJ.out.load hlt Tryd.underlying44 rfl (by kernel_rfl)) ?_)
          | ((with_reducible refine wpList_at 7 rfl ?_); refine mem_alloc E2 44 rfl rfl infoTx ?_; clear E2; intro b5 w4 E2)
          | ((with_reducible refine wpList_atn rfl ?_); refine mem_store_row 0 E2 44 rfl (.tmp 7) (.tmp 18) rfl rfl rfl rfl (by kernel_rfl) (by rw [arr_size]; rfl) (tx_one TC.out) ?_; clear E2; intro w4 E2; simp only [List.set_cons_zero] at E2)
          | ((with_reducible refine wpList_at 20 rfl ?_); refine mem_load_row E2 44 rfl (.tmp 7) rfl rfl List.mem_cons_self Tryd.underlying44 rfl (by simp only [arr_size]; kernel_rfl) ?_)
          | (go_at_call 13; refine (rtxid_any (Lib.hid (⟨_, rfl, TC.out.below E2.out.below⟩ : TxAt _ _ _))).mono ?_; rw [IDE.out, IDV.out]; rintro e w5 ⟨rfl, hb⟩; replace E2 := Lib.hid (E2.out.call hb); clear hb)
          | ((with_reducible refine wpList_at 8 rfl ?_); refine mem_alloc E2 24 rfl rfl infoHash ?_; clear E2; intro b8 w6 E2; simp only [arr_cells'] at E2)
          | ((with_reducible refine wpList_atn rfl ?_); refine mem_store_row 0 E2 24 rfl (.tmp 8) (.tmp 22) rfl rfl rfl rfl (by kernel_rfl) (by simp only [arr_size]) (bv_one _ _) ?_; clear E2; intro w7 E2; simp only [List.set_cons_zero] at E2)
          | ((with_reducible refine wpList_at 35 rfl ?_); refine mem_load_row E2 24 rfl (.tmp 8) rfl rfl List.mem_cons_self Tryd.underlying24 rfl (by simp only [arr_size]; kernel_rfl) ?_)
          | ((with_reducible refine wpList_at 36 rfl ?_); refine wpList_vbs 40 24 32 1 rfl _ rfl (hv (fun _ => dbl (txB false ts[j]))) (fun i _ => rfl) (by unfold maxLen; omega) (ps := #[(0, .agg (arr 32 (bv (lf (dbl (txB false ts[j]))))))]) (by kernel_rfl) (fun W => run_bs1 Tryd.underlying40 infoHash3 (by omega) (by omega) _ (arr_size _ _) W) (one_hash _).symm ?_; intro p10 g10 w10 N10 hb; replace E2 := Lib.hid (E2.out.call hb.out); clear hb)
          | (at_builtin; refine wpList_vapp 40 24 32 32 Tryd.underlying40 infoHash3 rfl (by omega) rfl (.tmp 34) (.tmp 36) rfl rfl (Lib.hid (N.out.below E2.out.below)) rfl (Lib.hid N10.out.row) (by unfold maxLen; omega) (by omega) ?_; intro p11 g11 c11 w11 N11 hg11; have B11 := Lib.hid ((N.out.below E2.out.below).under hg11.out (Nat.le_refl _) (Nat.le_trans N.out.low E2.out.below.size)); have BB := Lib.hid ((B.out.trans (E2.out.below.mono B.out.size)).trans B11.out); clear B11 hg11 N10))
          go_roundg (n - (j + 1))
          case measure => omega
          case rel => exact ⟨j + 1, p11, g11, c11, by omega, by go_num, rfl, Lib.hid (N11.out.to (ids_step ht)), BB, Lib.hid (.inr (by omega))⟩
    · have hlt' : ¬ (((j : Nat) : Int) < ((n : Nat) : Int)) := by omega
      obtain rfl : j = n := by omega
      have HR := Lib.hid (HRow.of N.out.row (isH_ids ts))
      obtain ⟨r, ot, hrt⟩ : ∃ r ot, rootOf (idsOf ts) j = (r, ot) := ⟨_, _, rfl⟩
      have HRT := Lib.hid hrt
      have RH := Lib.hid (show IsH r by
        have := isH_rootOf (idsOf ts) j (isH_ids ts)
        rwa [hrt] at this)
      have EQ := eq_hash Tryd.underlying24 HA.out RH.out
      have hn100 : j ≤ 1000000 := by rcases GT.out with h | h <;> omega
      have OTH := Lib.hid (fun h : a1 ≠ r => chk_other (ts := ts) HA.out (by rw [← HN.out]; exact hrt) h)
      obtain ⟨sm, hsm⟩ : ∃ sm, sm = decide (a1 = r) := ⟨_, rfl⟩
      have HSM := Lib.hid hsm
      rw [← hsm] at EQ
      clear hrt hsm
      go_upto_region 15 with (first
        | ((with_reducible refine wpList_at 10 rfl ?_); refine mem_alloc E2 29 rfl rfl infoBlk0 ?_; clear E2; intro b10 w12 E2; simp only [arr_cells'] at E2)
        | (go_at_call 14; refine (rmerkle_all (Lib.hid (HR.out.below E2.out.below)) (by omega)).mono ?_; rw [HRT.out]; rintro e w14 ⟨rfl, hb⟩; replace E2 := Lib.hid (E2.out.call hb); clear hb)
        | ((with_reducible refine wpList_at 48 rfl ?_); refine mem_load_row E2 29 rfl (.tmp 10) rfl rfl List.mem_cons_self blk_is rfl (by simp only [arr_size]; kernel_rfl) ?_)
        | ((with_reducible refine wpList_at 11 rfl ?_); refine mem_alloc E2 29 rfl rfl infoBlk0 ?_; clear E2; intro b11 w16 E2; simp only [arr_cells'] at E2)
        | ((with_reducible refine wpList_atn rfl ?_); refine mem_store_row 0 E2 29 rfl (.tmp 10) (.tmp 40) (c' := arr 69 (bc (hr fun _ => 0) (.slice p j c))) rfl rfl (by kernel_rfl) rfl (by kernel_rfl) (by simp only [arr_size]) (bc_one rfl) ?_; clear E2; intro w17 E2; simp only [List.set_cons_zero] at E2)
        | ((with_reducible refine wpList_atn rfl ?_); refine mem_store_row 0 E2 29 rfl (.tmp 11) (.tmp 48) rfl rfl rfl rfl (by kernel_rfl) (by simp only [arr_size]) (bc_one rfl) ?_; clear E2; intro w17 E2; simp only [List.set_cons_zero] at E2)
        | ((with_reducible refine wpList_atn rfl ?_); refine mem_store_root 0 E2 rfl _ _ rfl rfl rfl rfl ?_; clear E2; intro w18 E2; simp only [List.set_cons_zero] at E2)
        | ((with_reducible refine wpList_at 49 rfl ?_); refine wpList_ld 24 (.tmp 3) rfl rfl rfl (ld_hash HB3.out (B.out.trans (E2.out.below.mono B.out.size))) ?_)
        | ((with_reducible refine wpList_at 52 rfl ?_); refine wpList_ld 24 (.tmp 3) rfl rfl rfl (ld_hash HB3.out (B.out.trans (E2.out.below.mono B.out.size))) ?_)
        | ((with_reducible refine wpList_at 55 rfl ?_); refine wpList_ld 24 (.tmp 54) rfl rfl rfl (ld_own (E2.out.get (List.mem_cons_of_mem _ List.mem_cons_self)) RH) ?_))
      obtain ⟨we, hwe⟩ : ∃ we : World, we = w18 := ⟨_, rfl⟩
      have E := E2
      have BZ := BW
      have lift : ∀ w', Below we.heap.size we w' → Below W.heap.size W w' := fun w' hb => by
        rw [hwe] at hb
        exact (BW.out.trans (E2.out.below.mono BW.out.size)).trans (hb.mono (BW.out.trans (E2.out.below.mono BW.out.size)).size)
      have C9 := Lib.hid (show ∀ w', Below we.heap.size we w' → Calls Tryd.prog 9 #[.agg (arr 69 (bc (hr (lf r)) (.slice p j c)))] w' _ from fun w' hb => chk_any (Lib.hid ⟨_, rfl, bc_at (hr_ok fun i => lf_lt RH.out.byte i) (A0.out.below (lift w' hb))⟩) (Lib.hid (KL.out.below (lift w' hb))))
      have C10 := Lib.hid (show ∀ w', Below we.heap.size we w' → Calls Tryd.prog 10 #[.agg (arr 69 (bc (hr (lf r)) (.slice p j c)))] w' _ from fun w' hb => rchk_any (Lib.hid ⟨_, rfl, bc_at (hr_ok fun i => lf_lt RH.out.byte i) (A0.out.below (lift w' hb))⟩))
      have C9b := Lib.hid (show ∀ w', Below we.heap.size we w' → Calls Tryd.prog 9 #[.agg (arr 69 (bc (hr (lf a1)) (.slice p j c)))] w' _ from fun w' hb => chk_any (Lib.hid ⟨_, rfl, bc_at (hr_ok fun i => lf_lt HA.out.byte i) (A0.out.below (lift w' hb))⟩) (Lib.hid (KL.out.below (lift w' hb))))
      have C9z := Lib.hid (show ∀ w', Below we.heap.size we w' → Calls Tryd.prog 9 #[.agg (arr 69 (bc (hr fun _ => 0) (.slice none 0 0)))] w' _ from fun w' hb => chk_any (Lib.hid (blk0_at w')) (Lib.hid (KL.out.below (lift w' hb))))
      have CA := Lib.hid awake8_any
      obtain ⟨ck, hck⟩ : ∃ ck, ck = chkOf ⟨hr (lf r), ts⟩ := ⟨_, rfl⟩
      rw [← hck] at C9 C10
      rw [chk_zero] at C9z
      subst hwe
      clear hck lift
      cases sm
      · rw [OTH.out (of_decide_eq_false HSM.out.symm)] at C9b
        clear OTH
        refine wp_region_quiet_below (by kernel_rfl) (by kernel_rfl) ?_
        refine memq_load_row E 29 rfl (.tmp 10) rfl rfl (List.mem_cons_of_mem _ List.mem_cons_self) blk_is rfl (by simp only [arr_size]; kernel_rfl) ?_
        quiet_step (exact Calls.regrown_of (C9.out _ (below_regrown _ _ _)))
        refine memq_load_row E 29 rfl (.tmp 10) rfl rfl (List.mem_cons_of_mem _ List.mem_cons_self) blk_is rfl (by simp only [arr_size]; kernel_rfl) ?_
        quiet_step (exact Calls.regrown_of (C10.out _ (below_regrown _ _ _)))
        quiet_step (fail)
        quiet_step (fail)
        quiet_step (fail)
        quiet_step (fail)
        refine memq_load_row E 29 (by kernel_rfl) (.tmp 11) rfl rfl List.mem_cons_self blk_is rfl (by simp only [arr_size]; kernel_rfl) ?_
        quiet_step (exact Calls.regrown_of (C9b.out _ (below_regrown _ _ _)))
        quiet_step (fail)
        quiet_step (fail)
        quiet_step (fail)
        quiet_step (fail)
        refine wpQuiet_pure _ (by kernel_rfl) (fun w => exec_build rfl (ps := #[]) (by kernel_rfl) built_blk0) ?_
        quiet_step (exact Calls.regrown_of (C9z.out _ (below_regrown _ _ _)))
        quiet_step (fail)
        quiet_step (fail)
        quiet_step (fail)
        quiet_step (exact Calls.regrown_of (CA.out _))
        quiet_step (fail)
        quiet_step (fail)
        refine wpQuiet_nil ?_
        intro _ hw'
        obtain ⟨⟨dq, osq⟩, hw''⟩ := hw'
        subst hw''
        go_wp2_with fail
        go_ret
        exact ⟨by simp, BZ.out.trans ((E.out.below.trans ((below_regrown _ dq osq).mono E.out.below.size)).mono BZ.out.size)⟩
      · clear C9b
        refine wp_region_quiet_below (by kernel_rfl) (by kernel_rfl) ?_
        refine memq_load_row E 29 rfl (.tmp 10) rfl rfl (List.mem_cons_of_mem _ List.mem_cons_self) blk_is rfl (by simp only [arr_size]; kernel_rfl) ?_
        quiet_step (exact Calls.regrown_of (C9.out _ (below_regrown _ _ _)))
        refine memq_load_row E 29 rfl (.tmp 10) rfl rfl (List.mem_cons_of_mem _ List.mem_cons_self) blk_is rfl (by simp only [arr_size]; kernel_rfl) ?_
        quiet_step (exact Calls.regrown_of (C10.out _ (below_regrown _ _ _)))
        quiet_step (fail)
        quiet_step (fail)
        quiet_step (fail)
        quiet_step (fail)
        quiet_step (fail)
        quiet_step (fail)
        quiet_step (fail)
        quiet_step (fail)
        quiet_step (fail)
        quiet_step (fail)
        refine wpQuiet_pure _ (by kernel_rfl) (fun w => exec_build rfl (ps := #[]) (by kernel_rfl) built_blk0) ?_
        quiet_step (exact Calls.regrown_of (C9z.out _ (below_regrown _ _ _)))
        quiet_step (fail)
        quiet_step (fail)
        quiet_step (fail)
        quiet_step (exact Calls.regrown_of (CA.out _))
        quiet_step (fail)
        quiet_step (fail)
        refine wpQuiet_nil ?_
        intro _ hw'
        obtain ⟨⟨dq, osq⟩, hw''⟩ := hw'
        subst hw''
        go_wp2_with fail
        go_ret
        exact ⟨by simp, BZ.out.trans ((E.out.below.trans ((below_regrown _ dq osq).mono E.out.below.size)).mono BZ.out.size)⟩

set_option maxRecDepth 100000 in
theorem lifted (os : Os) (started : os.Started) (H : Type) (enc : TypeId × Value → H) :
    ReturnsInHanded {} Tryd.checked os 4 .any (fun w args => (Rows.blockChecksSpec.pre enc Tryd.prog Tryd.f4 [] false w args ∧ laidMetH Tryd.prog S.shaLaid w) ∧ sizedMet enc Tryd.prog Tryd.f4 (OpenSpec.ofChange Rows.blockChecksSpec) false w args)
      (Rows.blockChecksSpec.post enc Tryd.prog Tryd.f4 false true false false) := by
  refine returnsInHanded_of_change_and (C := Tryd.checked) (X := fun w _ => laidMetH Tryd.prog S.shaLaid w) (fun _ _ _ hh h => h.of_heap hh) own started (by kernel_rfl) Tryd.func4
    (ChangeSpec.witness_shaped (enc := enc) (C := Tryd.checked) (os := os) (X := fun w _ => laidMetH Tryd.prog S.shaLaid w) false (World.doorLaid Tryd.prog 400 os) #[.slice none 0 0, .agg #[.int .u8 0, .int .u8 0, .int .u8 0, .int .u8 0, .int .u8 0, .int .u8 0, .int .u8 0, .int .u8 0, .int .u8 0, .int .u8 0, .int .u8 0, .int .u8 0, .int .u8 0, .int .u8 0, .int .u8 0, .int .u8 0, .int .u8 0, .int .u8 0, .int .u8 0, .int .u8 0, .int .u8 0, .int .u8 0, .int .u8 0, .int .u8 0, .int .u8 0, .int .u8 0, .int .u8 0, .int .u8 0, .int .u8 0, .int .u8 0, .int .u8 0, .int .u8 0]] 8 rfl (World.shaped_of_RefB (by kernel_rfl) (by kernel_rfl)) (by kernel_rfl) (by kernel_rfl) (by kernel_rfl) (S.sha_door_met os _)) ?_
  intro W base args ds gs before hval0 hW _ hsz0 hL _
  have hval : ∀ (j : Nat) t v, Tryd.f4.params[j]? = some t → args[j]? = some v → Value.okWide Tryd.prog W .any base t v := hval0
  have hsz : (DataW.weightsEach Tryd.prog (Tryd.f4.params.toList ++ Rows.blockChecksSpec.plain.varTypes Tryd.prog) (ds ++ gs)).all (· ≤ reachBytes) = true := hsz0
  have hW' := hW
  obtain ⟨p, q, hA0, hV, rfl, hfz, hnd⟩ := hW
  have hA : DataW.TrodAll enc Tryd.prog W 0 (fun _ => true) true Tryd.f4.params.toList args.toList ds p := hA0
  rw [Tryd.params4] at hA hval hsz
  obtain ⟨v0, vs0, d0, ds0, p0, q0, hargs, rfl, rfl, h0, r0⟩ := trodAll_cons hA
  obtain ⟨v1, vs1, d1, ds1, p1, q1, rfl, rfl, rfl, h1, r1⟩ := trodAll_cons r0
  obtain ⟨rfl, rfl, rfl⟩ := trodAll_nil r1
  obtain rfl : args = #[v0, v1] := by cases args; simp_all
  obtain ⟨rfl, rfl⟩ := trodVars_none hV
  have k0 := h0
  have lt0 : ∀ x ∈ p0, x.block < W.heap.size := by obtain ⟨m, hm⟩ := k0; exact DataW.trod_lt m _ _ _ hm
  obtain ⟨t0, w0⟩ := open_txs_arg (j := 0) (hval 0 27 v0 rfl rfl) h0 hsz rfl rfl
  have k1 := h1
  have lt1 : ∀ x ∈ p1, x.block < W.heap.size := by obtain ⟨m, hm⟩ := k1; exact DataW.trod_lt m _ _ _ hm
  obtain ⟨t1, w1, e1⟩ := open_hash_arg (hval 1 24 v1 rfl rfl) h1
  clear hA0 hval0 hsz0
  simp only [List.append_nil] at hW'
  refine (walk W hL v0 t0 w0 v1 t1 w1 e1).mono fun e W' ⟨he, bel⟩ => ?_
  subst he
  exact ⟨_, rfl, _, _, _, [], _, [], hW', trodAll_mk1 (shut_bool Tryd.underlying4 _), (trodAll_cons_mk (Below.trod laidOut (by kernel_rfl) (of_decide_eq_true (by kernel_rfl)) k0 bel lt0) (trodAll_cons_mk (Below.trod laidOut (by kernel_rfl) (of_decide_eq_true (by kernel_rfl)) k1 bel lt1) trodAll_mk0)), rfl, bel.frame _, fun h => by cases h⟩

theorem over : Rows.BlockChecksSaid :=
  OpenClaim.holds_of_wide 4 Tryd.f4 rfl rfl rfl rfl rfl rfl rfl ⟨rfl, rfl, rfl, rfl, rfl⟩ rfl rfl rfl rfl rfl (by kernel_rfl) Tryd.func4 (by kernel_rfl)
    (of_decide_eq_true (by kernel_rfl)) (by unfold Func.isWrapper; first | (rw [if_pos (by decide +kernel)]; kernel_rfl) | (rw [if_neg (by decide +kernel)]; exact ⟨rfl, rfl⟩))
    (fun os started H enc _ => lifted os started H enc)

/-- The tied card. -/
theorem card_holds : Rows.BlockChecksCardSaid :=
  Claim7.holds_tied_plain_at .later [] [.data, .data] true (true, "42d42a39238a80d5eb0d960013a0ec10374ec025e22287f765c7096ee834c8a3") false
    over (fun _ h => by cases h) (by kernel_rfl) (fun _ h => by cases h) blockChecks_row_tie rfl ⟨rfl, rfl⟩ (by kernel_rfl) rfl
    (fun f fn hf hfn => by
      obtain rfl : f = 4 := Option.some.inj ((show Tryd.prog.funcNamed "sporran/sporranlaw08.BlockChecks" = some 4 by kernel_rfl).symm.trans hf) |>.symm
      obtain rfl : fn = Tryd.f4 := (Option.some.inj (Tryd.func4.symm.trans hfn)).symm
      exact ⟨by kernel_rfl, fun j t ht => by
        rw [Tryd.params4] at ht
        have hm : t ∈ [27, 24] := by simpa using Array.mem_of_getElem? ht
        have hall : ([27, 24].all fun u => !Tryd.prog.wantsStandIn u) = true := by kernel_rfl
        exact (show Tryd.prog.wantsStandIn t = false by simpa using List.all_eq_true.1 hall t hm)⟩)
    (by kernel_rfl)
#print axioms card_holds
end Go.Proofs.YtgicnmfodbenlaaDoor.blockChecks
