/- Whether a block's transactions are its header's: Check of the program and of the document. -/
import Derived.Test.YtgicnmfodbenlaaDoorBd
import Derived.Test.YtgicnmfodbenlaaDoorHx
set_option linter.unusedSimpArgs false
set_option linter.unusedVariables false
set_option maxRecDepth 100000
namespace Go.Proofs.YtgicnmfodbenlaaDoor
open Go.RowKit Go.Lib Go.Sort
section
variable {ops : Array Oper} {rest : List Oper} {Q : Exit → Act → World → Prop} {op : Oper} {a : Act} {w : World}
theorem wpList_at {P : Program} (t : Nat) (hd : op.dst = some t) (h : wpList P ops Q (op :: rest) a w) : wpList P ops Q (op :: rest) a w := h
theorem wpList_atn {P : Program} (hd : op.dst = none) (h : wpList P ops Q (op :: rest) a w) : wpList P ops Q (op :: rest) a w := h
end

/-- A transaction that a block may have. -/
def goodT (t : TTx) : Bool := canB t && !decide ((txB false t).length = 64)
/-- The hashes of transactions. -/
def idsOf (l : List TTx) : Nat → List Nat := fun i => dbl (txB false (l.getD i tx0))
theorem isH_ids (l : List TTx) (i : Nat) : IsH (idsOf l i) := isH_dbl _
/-- What Check answers. -/
def chkOf (t : TBlk) : Int :=
  if t.txs.length = 0 ∨ 2000 < t.txs.length then 80 else if t.txs.all goodT = true then (if (mroot (idsOf t.txs) t.txs.length).2 = true ∨ (mroot (idsOf t.txs) t.txs.length).1 ≠ tl t.hd.merkle 32 then 80 else 0) else 80
theorem chk_few {t : TBlk} (h : t.txs.length = 0 ∨ 2000 < t.txs.length) : chkOf t = 80 := by unfold chkOf; rw [if_pos h]
theorem chk_bad {t : TBlk} (h : t.txs.all goodT = false) : chkOf t = 80 := by
  unfold chkOf
  split
  · rfl
  · rw [if_neg (by rw [h]; decide)]
theorem chk_root {t : TBlk} (h0 : 0 < t.txs.length) (h1 : t.txs.length ≤ 2000) (h : t.txs.all goodT = true) {r : List Nat} {o : Bool} (hr : mroot (idsOf t.txs) t.txs.length = (r, o)) : chkOf t = if o = true ∨ r ≠ tl t.hd.merkle 32 then 80 else 0 := by
  unfold chkOf
  rw [if_neg (by omega), if_pos h, hr]
theorem bad_at {l : List TTx} {j : Nat} (h : j < l.length) (hb : goodT l[j] = false) : l.all goodT = false := by
  rw [List.all_eq_false]
  exact ⟨l[j], List.getElem_mem h, by rw [hb]; decide⟩
theorem good_take {l : List TTx} {j : Nat} (h : j < l.length) (hp : (l.take j).all goodT = true) (hg : goodT l[j] = true) : (l.take (j + 1)).all goodT = true := by
  rw [take_get l h, List.all_append, hp]
  simp [hg]
theorem ids_step {l : List TTx} {j : Nat} (h : j < l.length) (i : Nat) (hi : i < (j + 1) * 32) : vcat (hv (idsOf l)) (j * 32) (hv fun _ => dbl (txB false l[j])) i = hv (idsOf l) i := by
  unfold vcat
  split
  · rfl
  · unfold hv
    rw [show i / 32 = j from by omega, show (i - j * 32) % 32 = i % 32 from by omega]
    unfold idsOf
    rw [List.getD_eq_getElem?_getD, List.getElem?_eq_getElem h]
    rfl
theorem isH_tl {x : Nat → Nat} (h : ∀ i, x i < 256) : IsH (tl x 32) := ⟨tl_length _ _, isB_tl h 32⟩
theorem mk_cells {V : Nat → Value} {t : TBlk} {w : World} (A : BlkCells w V t) : vs (fun j => V (33 + j)) 32 = (arr 32 (bv (lf (tl t.hd.merkle 32)))).toList := by
  apply List.ext_getElem?
  intro j
  rcases Nat.lt_or_ge j 32 with q | q
  · rw [vs_at _ _ _ q, Array.getElem?_toList, arr_get 32 _ j q, A.hd (33 + j) (by omega)]
    unfold hc bv
    rw [lf_tl _ q, if_neg (by omega), if_neg (by omega), if_pos (by omega), Nat.add_sub_cancel_left]
  · rw [List.getElem?_eq_none (by rw [vs_length]; exact q), List.getElem?_eq_none (by rw [Array.length_toList, arr_size]; exact q)]
theorem encb_bad {W : World} {V : Nat → Value} {t : TTx} (A : TxCells W V t) (hc : canB t = false) : Calls Tryd.prog 20 #[.agg (arr 4 V), .bool false] W fun e w' => e = .returned (.tuple #[.slice none 0 0, .int .i64 1]) ∧ Below W.heap.size W w' := by
  have h := txenc_any (Lib.hid (⟨V, rfl, A⟩ : TxAt W (.agg (arr 4 V)) t)) false
  refine h.mono fun e w' h => ?_
  unfold Enc at h
  rwa [if_neg (by rw [hc]; decide)] at h
theorem encb_good {W : World} {V : Nat → Value} {t : TTx} (A : TxCells W V t) (hc : canB t = true) : Calls Tryd.prog 20 #[.agg (arr 4 V), .bool false] W fun e w' => ∃ p g c, e = .returned (.tuple #[.slice p (txB false t).length c, .int .i64 0]) ∧ Row w' p g 0 (txB false t).length c (lf (txB false t)) ∧ Below W.heap.size W w' := by
  have h := txenc_any (Lib.hid (⟨V, rfl, A⟩ : TxAt W (.agg (arr 4 V)) t)) false
  refine h.mono fun e w' h => ?_
  unfold Enc at h
  rw [if_pos hc, Bool.false_and] at h
  obtain ⟨p, g, c, he, N, hb⟩ := h
  exact ⟨p, g, c, he, N.row, hb⟩
theorem rencb_bad {W : World} {V : Nat → Value} {t : TTx} (A : TxCells W V t) (hc : canB t = false) : Calls Tryd.prog 23 #[.agg (arr 4 V), .bool false] W fun e w' => e = .returned (.tuple #[.slice none 0 0, .int .i64 1]) ∧ Below W.heap.size W w' := by
  have h := rtxenc_any (Lib.hid (⟨V, rfl, A⟩ : TxAt W (.agg (arr 4 V)) t)) false
  refine h.mono fun e w' h => ?_
  unfold Enc at h
  rwa [if_neg (by rw [hc]; decide)] at h
theorem rencb_good {W : World} {V : Nat → Value} {t : TTx} (A : TxCells W V t) (hc : canB t = true) : Calls Tryd.prog 23 #[.agg (arr 4 V), .bool false] W fun e w' => ∃ p g c, e = .returned (.tuple #[.slice p (txB false t).length c, .int .i64 0]) ∧ Row w' p g 0 (txB false t).length c (lf (txB false t)) ∧ Below W.heap.size W w' := by
  have h := rtxenc_any (Lib.hid (⟨V, rfl, A⟩ : TxAt W (.agg (arr 4 V)) t)) false
  refine h.mono fun e w' h => ?_
  unfold Enc at h
  rw [if_pos hc, Bool.false_and] at h
  obtain ⟨p, g, c, he, N, hb⟩ := h
  exact ⟨p, g, c, he, N.row, hb⟩
/-- The header's root, read out of a block's variable. -/
theorem ld_root {w W : World} {b T : Nat} {V : Nat → Value} {t : TBlk} {w0 : World} (A : BlkCells w0 V t) (hh : W.heap[b]? = some (.cells (arr 69 V) T (0, 0))) (hb : Below W.heap.size W w) :
    (Instr.loadAt 24 (.pointer (some ⟨b, 33, none⟩))).run Tryd.prog w = .ok (.agg (arr 32 (bv (lf (tl t.hd.merkle 32))))) w := by
  have hr : w.rangeAt b 33 (vs (fun j => V (33 + j)) 32) := fun j v hj => by
    obtain ⟨h, rfl⟩ := vs_get _ _ _ _ hj
    rw [hb.cell (cell_lt (cell_of_here hh (33 + j) (arr_get 69 V (33 + j) (by omega))))]
    exact cell_of_here hh (33 + j) (arr_get 69 V (33 + j) (by omega))
  have := run_loadAt_mid (P := Tryd.prog) w b 33 24 (vs (fun j => V (33 + j)) 32) _ hr Tryd.underlying24 rfl (by rw [vs_length]; kernel_rfl)
  rw [mk_cells A] at this
  simpa using this

set_option maxHeartbeats 8000000 in
theorem chk_any {W : World} {v : Value} {t : TBlk} (A : Hid (BlkAt W v t)) (L : Hid (S.Both W)) : Calls Tryd.prog 9 #[v] W fun e w' => e = .returned (.int .i64 (chkOf t)) ∧ Below W.heap.size W w' := by
  have E := Lib.hid (Mem.nil W)
  obtain ⟨V, rfl, A1⟩ := A.out
  obtain ⟨p, g, o, c, U, hv68, hlen, R0, hi⟩ := A1.txs
  have hmk := A1.ok.merkle
  have A2 := Lib.hid A1
  obtain ⟨n, hn⟩ : ∃ n, n = t.txs.length := ⟨_, rfl⟩
  have HN := Lib.hid hn
  have RR := Lib.hid R0
  have TT := Lib.hid hi
  rw [← hn] at hv68 hlen RR
  have V68 : (arr 69 V)[68]? = some (.slice p n c) := by rw [arr_get 69 V 68 (by omega), hv68]
  have cn := RR.out.le
  clear A A1 hi R0 hv68
  rcases Nat.eq_zero_or_pos n with h0 | h0
  · subst h0
    have FEW := Lib.hid (chk_few (t := t) (.inl HN.out.symm))
    clear hn hlen
    go_enter Tryd.func9, Tryd.ntmps9
    go_wp2_with (first
      | ((with_reducible refine wpList_at 1 rfl ?_); refine mem_box E 29 rfl (.tmp 0) rfl rfl (arr_cells' 69 V) ?_; clear E; intro b w1 E)
      | ((with_reducible refine wpList_at 11 rfl ?_); refine mem_load_cell E 27 (by kernel_rfl) (.tmp 10) rfl rfl List.mem_cons_self Tryd.underlying27 rfl V68 ?_))
    go_ret
    exact ⟨(congrArg (fun z => Ending.returned (.int .i64 z)) FEW.out).symm, E.out.below⟩
  by_cases h2 : 2000 < n
  · have FEW := Lib.hid (chk_few (t := t) (.inr (by omega)))
    have t0 : ((n : Int) == 0) = false := by simp; omega
    have t0' : decide ((n : Int) = 0) = false := by simp; omega
    have t0'' : ¬ ((n : Int) = 0) := by omega
    have t1 : ¬ ((n : Int) < 1) := by omega
    have t2 : (2000 : Int) < (n : Int) := by omega
    clear hn hlen
    go_enter Tryd.func9, Tryd.ntmps9
    go_wp2_with (first
      | ((with_reducible refine wpList_at 1 rfl ?_); refine mem_box E 29 rfl (.tmp 0) rfl rfl (arr_cells' 69 V) ?_; clear E; intro b w1 E)
      | ((with_reducible refine wpList_at 11 rfl ?_); refine mem_load_cell E 27 (by kernel_rfl) (.tmp 10) rfl rfl List.mem_cons_self Tryd.underlying27 rfl V68 ?_)
      | ((with_reducible refine wpList_at 16 rfl ?_); refine mem_load_cell E 27 (by kernel_rfl) (.tmp 15) rfl rfl List.mem_cons_self Tryd.underlying27 rfl V68 ?_)
      | ((with_reducible refine wpList_at 21 rfl ?_); refine mem_load_cell E 27 (by kernel_rfl) (.tmp 20) rfl rfl List.mem_cons_self Tryd.underlying27 rfl V68 ?_)
      | ((with_reducible refine wpList_at 25 rfl ?_); refine mem_load_cell E 27 (by kernel_rfl) (.tmp 24) rfl rfl List.mem_cons_self Tryd.underlying27 rfl V68 ?_))
    go_ret
    exact ⟨(congrArg (fun z => Ending.returned (.int .i64 z)) FEW.out).symm, E.out.below⟩
  have t0 : ((n : Int) == 0) = false := by simp; omega
  have t0' : decide ((n : Int) = 0) = false := by simp; omega
  have t0'' : ¬ ((n : Int) = 0) := by omega
  have t1 : ¬ ((n : Int) < 1) := by omega
  have t2 : ¬ ((2000 : Int) < (n : Int)) := by omega
  have HR2 : n ≤ 2000 := by omega
  clear hn
  go_enter Tryd.func9, Tryd.ntmps9
  go_wp2_with (first
      | ((with_reducible refine wpList_at 1 rfl ?_); refine mem_box E 29 rfl (.tmp 0) rfl rfl (arr_cells' 69 V) ?_; clear E; intro b w1 E)
      | ((with_reducible refine wpList_at 23 rfl ?_); at_make; refine wpList_vmk 40 24 32 32 Tryd.underlying40 infoHash3 rfl _ _ rfl n _ rfl rfl rfl (by unfold maxLen; omega) (by omega) (hv (idsOf t.txs)) ?_; intro p1 g1 w2 N1 B1)
      | ((with_reducible refine wpList_at 11 rfl ?_); refine mem_load_cell E 27 (by kernel_rfl) (.tmp 10) rfl rfl List.mem_cons_self Tryd.underlying27 rfl V68 ?_)
      | ((with_reducible refine wpList_at 16 rfl ?_); refine mem_load_cell E 27 (by kernel_rfl) (.tmp 15) rfl rfl List.mem_cons_self Tryd.underlying27 rfl V68 ?_)
      | ((with_reducible refine wpList_at 21 rfl ?_); refine mem_load_cell E 27 (by kernel_rfl) (.tmp 20) rfl rfl List.mem_cons_self Tryd.underlying27 rfl V68 ?_)
      | ((with_reducible refine wpList_at 25 rfl ?_); refine mem_load_cell (Lib.hid (E.out.call B1.out)) 27 (by kernel_rfl) (.tmp 24) rfl rfl List.mem_cons_self Tryd.underlying27 rfl V68 ?_))
  have HB := Lib.hid (E.out.get List.mem_cons_self)
  have BE := Lib.hid E.out.below
  have NS := N1
  have BS := B1
  clear E t0 t0' t0'' t1 t2 N1 B1
  go_loopg [3, 27] n (fun k s i wr => ∃ (j : Nat) (p' : Option Addr) (g' c' : Nat), j + k = n ∧ i = .int .i64 ((j : Nat) : Int) ∧ s = .slice p' j c' ∧ Hid (VOwn 24 32 w1.heap.size wr p' g' j c' (hv (idsOf t.txs))) ∧ Hid (Below w1.heap.size w1 wr) ∧ Hid ((t.txs.take j).all goodT = true))
  case atStart => exact ⟨0, _, _, _, by omega, rfl, rfl, NS, BS, Lib.hid (by simp)⟩
  case round =>
    clear NS BS
    obtain ⟨j, p2, g2, c2, hj, rfl, rfl, N, B, GT⟩ := hrel
    obtain ⟨kk, rfl⟩ : ∃ kk : Nat, kk = gk := ⟨_, rfl⟩
    have BW := Lib.hid (BE.out.trans (B.out.mono BE.out.size))
    have L1 := Lib.hid (L.out.below BW.out)
    have E2 := Lib.hid (Mem.nil wr)
    by_cases hlt : j < n
    · have hlt' : ((j : Nat) : Int) < ((n : Nat) : Int) := by omega
      obtain rfl := RR.out.head (by omega)
      have ht : j < t.txs.length := by rw [← HN.out]; exact hlt
      have RJ := Lib.hid (RR.out.below BW.out)
      have TC := Lib.hid ((TT.out j ht).below BW.out)
      cases hcan : canB t.txs[j] with
      | false =>
        have BAD := Lib.hid (chk_bad (bad_at ht (by unfold goodT; rw [hcan]; rfl)))
        go_wp2_with (first
      | ((with_reducible refine wpList_at 29 rfl ?_); refine wpList_ix (k := 4) (j := j) Tryd.underlying27 (by kernel_rfl) (.tmp 25) (.tmp 27) rfl rfl rfl rfl hlt rfl ?_)
      | ((with_reducible refine wpList_at 30 rfl ?_); refine wpList_ld 44 (.tmp 29) rfl rfl rfl (RJ.out.load hlt Tryd.underlying44 rfl (by kernel_rfl)) ?_)
      | ((with_reducible refine wpList_at 5 rfl ?_); refine mem_alloc E2 44 rfl rfl infoTx ?_; clear E2; intro b5 w4 E2)
      | ((with_reducible refine wpList_atn rfl ?_); refine mem_store_row 0 E2 44 rfl (.tmp 5) (.tmp 30) rfl rfl rfl rfl (by kernel_rfl) (by rw [arr_size]; rfl) (tx_one TC.out) ?_; clear E2; intro w4 E2; simp only [List.set_cons_zero] at E2)
      | ((with_reducible refine wpList_at 32 rfl ?_); refine mem_load_row E2 44 rfl (.tmp 5) rfl rfl List.mem_cons_self Tryd.underlying44 rfl (by simp only [arr_size]; kernel_rfl) ?_)
      | (go_at_call 20; refine (encb_bad (TC.out.below E2.out.below) hcan).mono ?_; rintro e w5 ⟨rfl, hb⟩; replace E2 := Lib.hid (E2.out.call hb); clear hb))
        go_ret
        exact ⟨(congrArg (fun z => Ending.returned (.int .i64 z)) BAD.out).symm, BW.out.trans (E2.out.below.mono BW.out.size)⟩
      | true =>
        have hbd := txB_le TC.out hcan false
        by_cases h64 : (txB false t.txs[j]).length = 64
        · have BAD := Lib.hid (chk_bad (bad_at ht (by unfold goodT; rw [hcan, h64]; rfl)))
          have z64 : (((txB false t.txs[j]).length : Nat) : Int) = 64 := by omega
          go_wp2_with (first
      | ((with_reducible refine wpList_at 29 rfl ?_); refine wpList_ix (k := 4) (j := j) Tryd.underlying27 (by kernel_rfl) (.tmp 25) (.tmp 27) rfl rfl rfl rfl hlt rfl ?_)
      | ((with_reducible refine wpList_at 30 rfl ?_); refine wpList_ld 44 (.tmp 29) rfl rfl rfl (RJ.out.load hlt Tryd.underlying44 rfl (by kernel_rfl)) ?_)
      | ((with_reducible refine wpList_at 5 rfl ?_); refine mem_alloc E2 44 rfl rfl infoTx ?_; clear E2; intro b5 w4 E2)
      | ((with_reducible refine wpList_atn rfl ?_); refine mem_store_row 0 E2 44 rfl (.tmp 5) (.tmp 30) rfl rfl rfl rfl (by kernel_rfl) (by rw [arr_size]; rfl) (tx_one TC.out) ?_; clear E2; intro w4 E2; simp only [List.set_cons_zero] at E2)
      | ((with_reducible refine wpList_at 32 rfl ?_); refine mem_load_row E2 44 rfl (.tmp 5) rfl rfl List.mem_cons_self Tryd.underlying44 rfl (by simp only [arr_size]; kernel_rfl) ?_)
      | (go_at_call 20; refine (encb_good (TC.out.below E2.out.below) hcan).mono ?_; rintro e w5 ⟨p8, g8, c8, rfl, N8, hb⟩; replace E2 := Lib.hid (E2.out.call hb); have R8 := Lib.hid N8; clear hb N8))
          go_ret
          exact ⟨(congrArg (fun z => Ending.returned (.int .i64 z)) BAD.out).symm, BW.out.trans (E2.out.below.mono BW.out.size)⟩
        · have GJ := Lib.hid (good_take ht GT.out (by unfold goodT; rw [hcan, decide_eq_false h64]; rfl))
          have z64 : ¬ ((((txB false t.txs[j]).length : Nat) : Int) = 64) := by omega
          have z64' : ((((txB false t.txs[j]).length : Nat) : Int) == 64) = false := by simp; omega
          go_wp2_with (first
      | ((with_reducible refine wpList_at 29 rfl ?_); refine wpList_ix (k := 4) (j := j) Tryd.underlying27 (by kernel_rfl) (.tmp 25) (.tmp 27) rfl rfl rfl rfl hlt rfl ?_)
      | ((with_reducible refine wpList_at 30 rfl ?_); refine wpList_ld 44 (.tmp 29) rfl rfl rfl (RJ.out.load hlt Tryd.underlying44 rfl (by kernel_rfl)) ?_)
      | ((with_reducible refine wpList_at 5 rfl ?_); refine mem_alloc E2 44 rfl rfl infoTx ?_; clear E2; intro b5 w4 E2)
      | ((with_reducible refine wpList_atn rfl ?_); refine mem_store_row 0 E2 44 rfl (.tmp 5) (.tmp 30) rfl rfl rfl rfl (by kernel_rfl) (by rw [arr_size]; rfl) (tx_one TC.out) ?_; clear E2; intro w4 E2; simp only [List.set_cons_zero] at E2)
      | ((with_reducible refine wpList_at 32 rfl ?_); refine mem_load_row E2 44 rfl (.tmp 5) rfl rfl List.mem_cons_self Tryd.underlying44 rfl (by simp only [arr_size]; kernel_rfl) ?_)
      | (go_at_call 20; refine (encb_good (TC.out.below E2.out.below) hcan).mono ?_; rintro e w5 ⟨p8, g8, c8, rfl, N8, hb⟩; replace E2 := Lib.hid (E2.out.call hb); have R8 := Lib.hid N8; clear hb N8)
      | (go_at_call 24; refine (double_l R8 (by omega) (Lib.hid (L1.out.below E2.out.below))).mono ?_; rintro e w6 ⟨rfl, hb⟩; replace E2 := Lib.hid (E2.out.call hb); clear hb)
      | ((with_reducible refine wpList_at 46 rfl ?_); refine wpList_vbs 40 24 32 1 rfl _ rfl (hv (fun _ => dbl (txB false t.txs[j]))) (fun i _ => rfl) (by unfold maxLen; omega) (ps := #[(0, .agg (arr 32 (bv (lf (dbl (txB false t.txs[j]))))))]) (by kernel_rfl) (fun W => run_bs1 Tryd.underlying40 infoHash3 (by omega) (by omega) _ (arr_size _ _) W) (one_hash _).symm ?_; intro p10 g10 w10 N10 hb; replace E2 := Lib.hid (E2.out.call hb.out); clear hb)
      | (at_builtin; refine wpList_vapp 40 24 32 32 Tryd.underlying40 infoHash3 rfl (by omega) rfl (.tmp 43) (.tmp 46) rfl rfl (Lib.hid (N.out.below E2.out.below)) rfl (Lib.hid N10.out.row) (by unfold maxLen; omega) (by omega) ?_; intro p11 g11 c11 w11 N11 hg11; have B11 := Lib.hid ((N.out.below E2.out.below).under hg11.out (Nat.le_refl _) (Nat.le_trans N.out.low E2.out.below.size)); have BB := Lib.hid ((B.out.trans (E2.out.below.mono B.out.size)).trans B11.out); clear B11 hg11 N10))
          go_roundg (n - (j + 1))
          case measure => omega
          case rel => exact ⟨j + 1, p11, g11, c11, by omega, by go_num, rfl, Lib.hid (N11.out.to (ids_step ht)), BB, GJ⟩
    · have hlt' : ¬ (((j : Nat) : Int) < ((n : Nat) : Int)) := by omega
      obtain rfl : j = n := by omega
      have ALL := Lib.hid (show t.txs.all goodT = true by
        have := GT.out
        rwa [HN.out, List.take_length] at this)
      have HR := Lib.hid (HRow.of N.out.row (isH_ids t.txs))
      obtain ⟨r, ot, hr⟩ : ∃ r ot, mroot (idsOf t.txs) j = (r, ot) := ⟨_, _, rfl⟩
      have HRT := Lib.hid hr
      have RH : IsH r := by
        have := isH_root (idsOf t.txs) (isH_ids t.txs) j j
        change IsH (mroot (idsOf t.txs) j).1 at this
        rwa [hr] at this
      have EQ := eq_hash Tryd.underlying24 RH (isH_tl hmk)
      have CR := Lib.hid (chk_root (t := t) (r := r) (o := ot) (by have := HN.out; omega) (by have := HN.out; omega) ALL.out (by have h := hr; rw [HN.out] at h; exact h))
      clear hr
      cases ot
      · by_cases hq : r = tl t.hd.merkle 32
        · rw [decide_eq_true hq] at EQ
          have HQ := Lib.hid hq
          clear hq
          go_wp2_with (first
      | (go_at_call 25; refine (merkle_any HR (by omega) (by omega) L1).mono ?_; rw [HRT.out]; rintro e w6 ⟨rfl, hb⟩; replace E2 := Lib.hid (E2.out.call hb); clear hb)
      | ((with_reducible refine wpList_at 8 rfl ?_); refine mem_alloc E2 24 rfl rfl infoHash ?_; clear E2; intro b8 w7 E2; simp only [arr_cells'] at E2)
      | ((with_reducible refine wpList_atn rfl ?_); refine mem_store_row 0 E2 24 rfl (.tmp 8) (.tmp 52) rfl rfl rfl rfl (by kernel_rfl) (by simp only [arr_size]) (bv_one _ _) ?_; clear E2; intro wy E2; simp only [List.set_cons_zero, List.set_cons_succ] at E2)
      | ((with_reducible refine wpList_at 56 rfl ?_); refine mem_load_row E2 24 (by kernel_rfl) (.tmp 8) rfl rfl List.mem_cons_self Tryd.underlying24 rfl (by simp only [arr_size]; kernel_rfl) ?_)
      | ((with_reducible refine wpList_at 59 rfl ?_); refine wpList_ld 24 (.tmp 58) rfl (by kernel_rfl) rfl (ld_root A2.out HB.out (B.out.trans (E2.out.below.mono B.out.size))) ?_))
          go_ret
          exact ⟨(congrArg (fun z => Ending.returned (.int .i64 z)) (CR.out.trans (if_neg (by simp [HQ.out])))).symm, BW.out.trans (E2.out.below.mono BW.out.size)⟩
        · rw [decide_eq_false hq] at EQ
          have HQ := Lib.hid hq
          clear hq
          go_wp2_with (first
      | (go_at_call 25; refine (merkle_any HR (by omega) (by omega) L1).mono ?_; rw [HRT.out]; rintro e w6 ⟨rfl, hb⟩; replace E2 := Lib.hid (E2.out.call hb); clear hb)
      | ((with_reducible refine wpList_at 8 rfl ?_); refine mem_alloc E2 24 rfl rfl infoHash ?_; clear E2; intro b8 w7 E2; simp only [arr_cells'] at E2)
      | ((with_reducible refine wpList_atn rfl ?_); refine mem_store_row 0 E2 24 rfl (.tmp 8) (.tmp 52) rfl rfl rfl rfl (by kernel_rfl) (by simp only [arr_size]) (bv_one _ _) ?_; clear E2; intro wy E2; simp only [List.set_cons_zero, List.set_cons_succ] at E2)
      | ((with_reducible refine wpList_at 56 rfl ?_); refine mem_load_row E2 24 (by kernel_rfl) (.tmp 8) rfl rfl List.mem_cons_self Tryd.underlying24 rfl (by simp only [arr_size]; kernel_rfl) ?_)
      | ((with_reducible refine wpList_at 59 rfl ?_); refine wpList_ld 24 (.tmp 58) rfl (by kernel_rfl) rfl (ld_root A2.out HB.out (B.out.trans (E2.out.below.mono B.out.size))) ?_))
          go_ret
          exact ⟨(congrArg (fun z => Ending.returned (.int .i64 z)) (CR.out.trans (if_pos (.inr HQ.out)))).symm, BW.out.trans (E2.out.below.mono BW.out.size)⟩
      · cases hq : decide (r = tl t.hd.merkle 32)
        all_goals
          rw [hq] at EQ
          have C80 := Lib.hid (show chkOf t = 80 from CR.out.trans (if_pos (.inl rfl)))
          clear hq CR
          go_wp2_with (first
      | (go_at_call 25; refine (merkle_any HR (by omega) (by omega) L1).mono ?_; rw [HRT.out]; rintro e w6 ⟨rfl, hb⟩; replace E2 := Lib.hid (E2.out.call hb); clear hb)
      | ((with_reducible refine wpList_at 8 rfl ?_); refine mem_alloc E2 24 rfl rfl infoHash ?_; clear E2; intro b8 w7 E2; simp only [arr_cells'] at E2)
      | ((with_reducible refine wpList_atn rfl ?_); refine mem_store_row 0 E2 24 rfl (.tmp 8) (.tmp 52) rfl rfl rfl rfl (by kernel_rfl) (by simp only [arr_size]) (bv_one _ _) ?_; clear E2; intro wy E2; simp only [List.set_cons_zero, List.set_cons_succ] at E2))
          go_ret
          exact ⟨(congrArg (fun z => Ending.returned (.int .i64 z)) C80.out).symm, BW.out.trans (E2.out.below.mono BW.out.size)⟩
end Go.Proofs.YtgicnmfodbenlaaDoor
