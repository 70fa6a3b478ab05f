/- For every transaction and every list of witnesses (nil too): one that can't be written has the error and no ID; else, of a copy whose first input has these witnesses, the ID is the same, or the error is told where it can't be written; a small transaction is written; the call returns true. The two tables of package sha are laid as the program's text lays them; the card ties them to that text. No other condition. -/
import Derived.Test.YtjlefbkcjccjkaaDoorTu
import Derived.Test.YtjlefbkcjccjkaaDoorTv
import Derived.Test.YtjlefbkcjccjkaaDoorTie
import Derived.Test.YtjlefbkcjccjkaaDoorCards
import Derived.ShutString
import Derived.ChangeOld
import Derived.Below
import Derived.SevenTiedAt
set_option linter.unusedSimpArgs false
set_option linter.unusedVariables false
set_option maxRecDepth 100000
namespace Go.Proofs.YtjlefbkcjccjkaaDoor
open Go.RowKit Go.Lib Go.Sort

theorem ld_row {w W : World} {b T n : Nat} {ty : TypeId} {d : TypeDesc} {V : Nat → Value} (hh : W.heap[b]? = some (.cells (arr n V) T (0, 0))) (hb : Below W.heap.size W w) (hu : Tryd.prog.underlying ty = some d) (hd : d.isRow = true) (hs : (Tryd.prog.info? ty).map (·.size) = some n) : (Instr.loadAt ty (.pointer (some ⟨b, 0, none⟩))).run Tryd.prog w = .ok (.agg (arr n V)) w := by
  have hr : w.rangeAt b 0 (vs V n) := fun j v hj => by
    obtain ⟨h, rfl⟩ := vs_get _ _ _ _ hj
    rw [Nat.zero_add, hb.cell (cell_lt (cell_of_here hh j (arr_get n V j h)))]
    exact cell_of_here hh j (arr_get n V j h)
  have := run_loadAt_mid (P := Tryd.prog) w b 0 ty (vs V n) _ hr hu hd (by rw [vs_length]; exact hs)
  rwa [vs_arr] at this
theorem txAt_below {w w' : World} {v : Value} {t : TTx} (h : TxAt w v t) (hb : Below w.heap.size w w') : TxAt w' v t := TxAt.below h hb
/-- The first input's witnesses are ws. -/
def setWit (t : TTx) (ws : List (List Nat)) : TTx := { t with ins := match t.ins with | [] => [] | x :: r => { x with wit := ws } :: r }
theorem setWit_bytes (t : TTx) (ws : List (List Nat)) : txB false (setWit t ws) = txB false t := by
  obtain ⟨ver, ins, outs, lock⟩ := t
  cases ins with
  | nil => rfl
  | cons x r => rfl
theorem setWit_len (t : TTx) (ws : List (List Nat)) : (setWit t ws).ins.length = t.ins.length := by
  obtain ⟨ver, ins, outs, lock⟩ := t
  cases ins with
  | nil => rfl
  | cons x r => rfl
theorem vs_set (V : Nat → Value) (m i : Nat) (v : Value) : vs (ups V i v) m = (vs V m).set i v := by
  apply List.ext_getElem?
  intro j
  rw [List.getElem?_set]
  rcases Nat.lt_or_ge j m with h | h
  · rw [vs_at _ _ _ h]
    by_cases e : i = j
    · subst e
      rw [if_pos rfl, if_pos (by rw [vs_length]; exact h), ups_at]
    · rw [if_neg e, vs_at _ _ _ h, ups_ne _ _ (fun h => e h.symm)]
  · rw [List.getElem?_eq_none (by rw [vs_length]; exact h)]
    by_cases e : i = j
    · subst e
      rw [if_pos rfl, if_neg (by rw [vs_length]; omega)]
    · rw [if_neg e, List.getElem?_eq_none (by rw [vs_length]; exact h)]
/-- A cell of a row of the call's own, written. -/
theorem VOwn.put {T k B : Nat} {w : World} {p : Option Addr} {g n c : Nat} {V : Nat → Value} (N : VOwn T k B w p g n c V) {i : Nat} (hi : i < n * k) (v : Value) (hv : v.oneCell' = true) : VOwn T k B (w.setCell ⟨g, i, none⟩ v) p g n c (ups V i v) ∧ Only g w (w.setCell ⟨g, i, none⟩ v) ∧ B ≤ g ∧ ∃ cur, w.heap[g]? = some (.cells cur T (0, 0)) ∧ i < cur.size := by
  have hO : Only g w (w.setCell ⟨g, i, none⟩ v) := (Only.refl g w).setCell _ rfl _
  obtain ⟨h0, h1⟩ := N.own
  rcases h1 with ⟨h1, h2⟩ | ⟨g', cap, cur, h1, h2, h3, h4, h5, h6, h7⟩
  · rw [h2, Nat.zero_mul] at hi; omega
  · injection h1 with a1 a2 a3
    subst a3
    rcases N.spot with q | q
    · rw [q] at a1; cases a1
    · rw [q] at a1
      injection a1 with a1
      injection a1 with a1
      subst a1
      have hc : n * k ≤ c * k := Nat.mul_le_mul_right k h4
      have hh : (w.setCell ⟨g, i, none⟩ v).heap[g]? = some (.cells (cur.setIfInBounds i v) T (0, 0)) := ((Holds.start h3).set rfl).here
      refine ⟨⟨⟨vs_length _ _, .inr ⟨g, c, cur.setIfInBounds i v, by rw [q], h2, hh, h4, h5, by simp [h6], ?_⟩⟩, N.spot, fun j hj => ?_, Nat.le_trans N.low hO.size⟩, hO, h2, cur, h3, by omega⟩
      · rw [Array.toList_setIfInBounds, List.take_set, h7, vs_set]
      · unfold ups
        split
        · exact hv
        · exact N.one j hj
theorem Only.belowOf {g B : Nat} {w w' : World} (h : Only g w w') (hB : B ≤ g) (hs : B ≤ w.heap.size) : Below B w w' := h.below hB hs
section
variable {ops : Array Oper} {rest : List Oper} {Q : Exit → Act → World → Prop} {op : Oper} {a : Act} {w : World}
theorem wpList_vput {T k B : Nat} {p : Option Addr} {g n c : Nat} {V : Nat → Value} (N : Hid (VOwn T k B w p g n c V)) (ty : TypeId) (hg : op.guard = none) (x y : Operand) (ho : op.op = .store ty x y) {i : Nat} {v : Value} (hx : a.eval x = .pointer (some ⟨g, i, none⟩)) (hy : a.eval y = v) (hi : i < n * k)
    (hs : (Tryd.prog.info? ty).map (·.size) = some 1) (h1 : v.cells = #[v]) (h2 : v.oneCell' = true)
    (h : ∀ w', Hid (VOwn T k B w' p g n c (ups V i v)) → Hid (Only g w w') → Hid (KeepT T w w') → Hid (B ≤ g) → wpList Tryd.prog ops Q rest (a.put op.dst undef) w') : wpList Tryd.prog ops Q (op :: rest) a w := by
  obtain ⟨N', hO, hB, cur, hc, hcs⟩ := N.out.put hi v h2
  refine wpList_plain hg fun K hK => ?_
  unfold Oper.wp execOp
  simp only [ho, hx, hy, Sem.run_bind, Sem.run_pure, run_store_one hs h1 h2 (cell_of_here hc i (Array.getElem?_eq_getElem hcs)) (free_of_here hc i), Result.andThen_ok]
  exact hK _ _ (h _ (Lib.hid N') (Lib.hid hO) (Lib.hid (KeepT.of_only hc hO)) (Lib.hid hB))
end
/-- A copy whose first input has other witnesses. -/
theorem setWit_at {B : Nat} {w : World} {V' U : Nat → Value} {t : TTx} {ws : List (List Nat)} {p : Option Addr} {g c : Nat} {wv : Value} (h0 : 0 < t.ins.length)
    (hver : V' 0 = w32 t.ver) (hvb : t.ver < 4294967296) (hlock : V' 3 = w32 t.lock) (hlb : t.lock < 4294967296) (houts : OutsAt w (V' 2) t.outs)
    (hv : V' 1 = .slice p t.ins.length c) (hl : t.ins.length * 96 ≤ 140737488351232) (N : VOwn 44 36 B w p g t.ins.length c (ups U 35 wv))
    (hi : ∀ i (h : i < t.ins.length), InCells w (fun j => U (i * 36 + j)) t.ins[i]) (hw : TextsAt w wv ws) : TxAt w (.agg (arr 4 V')) (setWit t ws) := by
  refine ⟨V', rfl, hver, hvb, ?_, houts, hlock, hlb⟩
  refine ⟨p, g, 0, c, ups U 35 wv, by rw [setWit_len, hv], by rw [setWit_len]; exact hl, by rw [setWit_len]; exact N.row, fun i h => ?_⟩
  rw [setWit_len] at h
  have h1 := hi i h
  obtain ⟨ver, ins, outs, lock⟩ := t
  cases ins with
  | nil => simp at h0
  | cons x r =>
    cases i with
    | zero =>
      refine ⟨h1.len, h1.idB, fun j hj => ?_, ?_, h1.idxB, ?_, ?_, h1.sqB, ?_⟩
      · rw [ups_ne _ _ (by omega)]; exact h1.id j hj
      · rw [ups_ne _ _ (by omega)]; exact h1.idx
      · rw [ups_ne _ _ (by omega)]; exact h1.sc
      · rw [ups_ne _ _ (by omega)]; exact h1.sq
      · show TextsAt w (ups U 35 wv (0 * 36 + 35)) ws
        rw [show 0 * 36 + 35 = 35 from rfl, ups_at]
        exact hw
    | succ i =>
      have e : ∀ j, j < 36 → U ((i + 1) * 36 + j) = ups U 35 wv ((i + 1) * 36 + j) := fun j hj => (ups_ne _ _ (by omega)).symm
      exact InCells.to h1 e
end Go.Proofs.YtjlefbkcjccjkaaDoor
set_option linter.unusedVariables false
set_option linter.unusedSimpArgs false
namespace Go.Proofs.YtjlefbkcjccjkaaDoor.txWitnesses
open Go.ChangeShapes Go.WideShapes Go.ChangeAt Go.RowKit Go.Lib Go.Sort Go.Proofs.YtjlefbkcjccjkaaDoor

set_option maxRecDepth 100000 in
set_option maxHeartbeats 16000000 in
theorem walk_bad (W : World) (hL : laidMetH Tryd.prog S.shaLaid W) (v0 : Value) (t : TTx) (w0 : TxAt W v0 t) (v1 : Value) (ws : List (List Nat)) (w1 : TextsAt W v1 ws) (hc : canB t = false) :
    Calls Tryd.prog 4 #[v0, v1] W fun e w' => e = .returned (.bool true) ∧ Below W.heap.size W w' := by
  have KL := Lib.hid (show S.Both W from S.of_sha hL)
  obtain ⟨V, rfl, A0⟩ := w0
  have A := Lib.hid A0
  have AT := Lib.hid (⟨V, rfl, A0⟩ : TxAt W (.agg (arr 4 V)) t)
  have E := Lib.hid (Mem.nil W)
  have AW := Lib.hid awake7_any
  clear A0 hL
  have C1 := Lib.hid (show ∀ w', Below W.heap.size W w' → Calls Tryd.prog 18 #[.agg (arr 4 V)] w' _ from fun w' hb => txid_bad (Lib.hid (A.out.below hb)) hc)
  have C2 := Lib.hid (show ∀ w', Below W.heap.size W w' → Calls Tryd.prog 22 #[.agg (arr 4 V)] w' (fun e w'' => e = .returned (.bool false) ∧ Below w'.heap.size w' w'') from fun w' hb => by
    have := rcan_any (Lib.hid (txAt_below AT.out hb))
    rwa [hc] at this)
  have EQ := same_bytes (T := 33) Tryd.underlying33 (fun _ => 0)
  clear hc A AT
  go_enter Tryd.func4, Tryd.ntmps4
  go_wp2_with (first
    | (refine mem_box E 26 rfl (.tmp 0) rfl rfl (arr_cells' 4 V) ?_; clear E; intro b2 w2 E)
    | (refine mem_load_row E 26 rfl (.tmp 2) rfl rfl List.mem_cons_self Tryd.underlying26 rfl (by simp only [arr_size]; kernel_rfl) ?_)
    | (refine mem_load_row E 26 rfl (.tmp 2) rfl rfl (List.mem_cons_of_mem _ List.mem_cons_self) Tryd.underlying26 rfl (by simp only [arr_size]; kernel_rfl) ?_)
    | (go_at_call 18; refine (C1.out _ E.out.below).mono ?_; rintro e w3 ⟨rfl, hb⟩; replace E := Lib.hid (E.out.call hb); clear hb)
    | (go_at_call 22; refine (C2.out _ E.out.below).mono ?_; rintro e w3 ⟨rfl, hb⟩; replace E := Lib.hid (E.out.call hb); clear hb)
    | (refine mem_alloc E 33 rfl rfl infoHash ?_; clear E; intro b5 w5 E; simp only [arr_cells'] at E)
    | (refine mem_store_row 0 E 33 rfl (.tmp 5) (.tmp 13) rfl rfl rfl rfl (by kernel_rfl) (by simp only [arr_size]) (bv_one _ _) ?_; clear E; intro w6 E; simp only [List.set_cons_zero, List.set_cons_succ] at E)
    | (refine mem_load_row E 33 rfl (.tmp 5) rfl rfl List.mem_cons_self Tryd.underlying33 rfl (by simp only [arr_size]; kernel_rfl) ?_)
    | (refine wpList_bld 33 _ rfl rfl (ps := #[]) (by kernel_rfl) built_hash0 ?_)
    | (go_at_call 24; refine (AW.out _).mono ?_; rintro e w_w ⟨rfl, hb⟩; replace E := Lib.hid (E.out.call hb); clear hb))
  go_ret
  exact ⟨rfl, E.out.below⟩

set_option maxRecDepth 100000 in
set_option maxHeartbeats 16000000 in
theorem walk_u (W : World) (hL : laidMetH Tryd.prog S.shaLaid W) (v0 : Value) (t : TTx) (w0 : TxAt W v0 t) (v1 : Value) (ws : List (List Nat)) (w1 : TextsAt W v1 ws) (hc : canB t = true) (hu : canB (setWit t ws) = false) :
    Calls Tryd.prog 4 #[v0, v1] W fun e w' => e = .returned (.bool true) ∧ Below W.heap.size W w' := by
  have KL := Lib.hid (show S.Both W from S.of_sha hL)
  obtain ⟨V, rfl, A0⟩ := w0
  have A := Lib.hid A0
  have AT := Lib.hid (⟨V, rfl, A0⟩ : TxAt W (.agg (arr 4 V)) t)
  have E := Lib.hid (Mem.nil W)
  have AW := Lib.hid awake7_any
  clear A0 hL
  have WS := Lib.hid w1
  have w1c : v1.cells = #[v1] ∧ v1.oneCell' = true := by
    obtain ⟨p, g, o, c, U, rfl, _⟩ := w1
    exact ⟨rfl, rfl⟩
  have W1 := Lib.hid w1c
  have CF := Lib.hid (can_facts hc)
  have C1 := Lib.hid (show ∀ w', Below W.heap.size W w' → Calls Tryd.prog 18 #[.agg (arr 4 V)] w' _ from fun w' hb => txid_good (Lib.hid (A.out.below hb)) hc (Lib.hid (KL.out.below hb)))
  have C2 := Lib.hid (show ∀ w', Below W.heap.size W w' → Calls Tryd.prog 22 #[.agg (arr 4 V)] w' (fun e w'' => e = .returned (.bool true) ∧ Below w'.heap.size w' w'') from fun w' hb => by
    have := rcan_any (Lib.hid (txAt_below AT.out hb))
    rwa [hc] at this)
  have HU := Lib.hid hu
  have SB := Lib.hid (setWit_bytes t ws)
  clear hc hu AT w1c w1
  go_enter Tryd.func4, Tryd.ntmps4
  go_upto_region 5 with (first
    | (refine mem_box E 26 rfl (.tmp 0) rfl rfl (arr_cells' 4 V) ?_; clear E; intro b2 w2 E)
    | (refine mem_load_row E 26 rfl (.tmp 2) rfl rfl List.mem_cons_self Tryd.underlying26 rfl (by simp only [arr_size]; kernel_rfl) ?_)
    | (refine mem_load_row E 26 rfl (.tmp 2) rfl rfl (List.mem_cons_of_mem _ List.mem_cons_self) Tryd.underlying26 rfl (by simp only [arr_size]; kernel_rfl) ?_)
    | (go_at_call 18; refine (C1.out _ E.out.below).mono ?_; rintro e w3 ⟨rfl, hb⟩; replace E := Lib.hid (E.out.call hb); clear hb)
    | (go_at_call 22; refine (C2.out _ E.out.below).mono ?_; rintro e w3 ⟨rfl, hb⟩; replace E := Lib.hid (E.out.call hb); clear hb)
    | (refine mem_alloc E 33 rfl rfl infoHash ?_; clear E; intro b5 w5 E; simp only [arr_cells'] at E)
    | (refine mem_store_row 0 E 33 rfl (.tmp 5) (.tmp 13) rfl rfl rfl rfl (by kernel_rfl) (by simp only [arr_size]) (bv_one _ _) ?_; clear E; intro w6 E; simp only [List.set_cons_zero, List.set_cons_succ] at E)
    | (go_at_call 15; refine (rcopy_any (Lib.hid (A.out.below E.out.below))).mono ?_; rintro e w7 ⟨V', rfl, O, hb⟩; have SZ := Lib.hid E.out.lt; have SZ2 := Lib.hid E.out.below.size; replace E := Lib.hid (E.out.call hb); have OO := Lib.hid O; clear hb O)
    | (refine mem_allocb E 26 rfl rfl infoTx ?_; clear E; intro b7 w8 E hb8; replace OO := Lib.hid (OO.out.below hb8.out); clear hb8)
    | (refine mem_store_rowk 0 E 26 rfl (.tmp 7) (.tmp 29) rfl rfl rfl rfl (by kernel_rfl) (by rw [arr_size]; rfl) (tx_one OO.out.at) ?_; clear E; intro w9 E KT; simp only [List.set_cons_zero, List.set_cons_succ] at E; replace OO := Lib.hid (OO.out.keep KT.out (by decide) (by decide) (by decide) (by decide)); clear KT))
  obtain ⟨pI, gI, cI, U, hvI, hlI, NI0, hiI⟩ := OO.out.ins
  have NI := Lib.hid NI0
  have II := Lib.hid hiI
  have n0 := CF.out.n0
  have LV := Lib.hid hvI
  obtain rfl : pI = some ⟨gI, 0, none⟩ := by
    rcases NI0.spot with q | q
    · have := (NI0.row.nil q).1
      omega
    · exact q
  have a1 : (arr 4 V')[1]? = some (.slice (some ⟨gI, 0, none⟩) t.ins.length cI) := by rw [arr_get 4 V' 1 (by omega), hvI]
  obtain ⟨n, hn⟩ : ∃ n, n = t.ins.length := ⟨_, rfl⟩
  have HN := Lib.hid hn
  rw [← hn] at a1 NI n0 LV
  have n2 : n ≤ 2000 := by rw [hn]; exact CF.out.n1
  clear hvI NI0 hiI hn
  go_upto_region 6 with (first
    | (refine mem_load_cell E 23 rfl (.tmp 30) rfl rfl List.mem_cons_self Tryd.underlying23 rfl a1 ?_)
    | (refine wpList_ix (k := 36) (j := 0) Tryd.underlying23 (by kernel_rfl) (.tmp 31) (.const (.int .i64 0)) rfl rfl rfl rfl n0 rfl ?_)
    | (refine wpList_vput NI 40 rfl (.tmp 34) (.tmp 32) rfl rfl rfl (i := 35) (by omega) (by kernel_rfl) W1.out.1 W1.out.2 ?_; intro w10 NJ HO KT HG))
  have TU : Hid (TxAt w10 (.agg (arr 4 V')) (setWit t ws)) := Lib.hid (by
    have hb : Below W.heap.size W w10 := E.out.below.trans ((HO.out.belowOf HG.out NI.out.low).mono SZ2.out)
    refine setWit_at (U := U) (by rw [← HN.out]; exact n0) OO.out.ver OO.out.verB OO.out.lock OO.out.lockB (OO.out.outs.keep KT.out (by decide) (by decide)).at (by rw [← HN.out]; exact LV.out) hlI (by rw [← HN.out]; exact NJ.out) (fun i h => ((II.out i h).keep KT.out (by decide) (by decide)).at) (WS.out.below hb))
  have E10 : Hid (Mem W [(b7, 26, arr 4 V'), (b5, 33, arr 32 (bv (lf (dbl (txB false t))))), (b2, 26, arr 4 V)] w10) := Lib.hid (by
    refine ⟨E.out.below.trans ((HO.out.belowOf HG.out NI.out.low).mono SZ2.out), fun q hq => ?_, E.out.nd, E.out.ge⟩
    have h1 := E.out.has q hq
    simp only [List.mem_cons, List.not_mem_nil, or_false] at hq
    rcases hq with rfl | rfl | rfl
    · exact KT.out.keep _ _ _ (show 26 ≠ 44 by decide) h1
    · exact KT.out.keep _ _ _ (show 33 ≠ 44 by decide) h1
    · exact KT.out.keep _ _ _ (show 26 ≠ 44 by decide) h1)
  clear E NI NJ HO KT HG II OO
  have H7 := Lib.hid (E10.out.get List.mem_cons_self)
  have H5 := Lib.hid (E10.out.get (List.mem_cons_of_mem _ List.mem_cons_self))
  have BASE := Lib.hid (E10.out.below)
  clear E10
  have E := Lib.hid (Mem.nil w10)
  obtain ⟨VU, hVU, AU⟩ := TU.out
  have hVU' : Hid ((.agg (arr 4 V') : Value) = .agg (arr 4 VU)) := Lib.hid hVU
  have AU' := Lib.hid AU
  have C3 := Lib.hid (show ∀ w', Below w10.heap.size w10 w' → Calls Tryd.prog 18 #[.agg (arr 4 V')] w' (fun e w'' => e = .returned (.tuple #[.agg (arr 32 (bv fun _ => 0)), .int .i64 1]) ∧ Below w'.heap.size w' w'') from fun w' hb => by
    rw [hVU]
    exact txid_bad (Lib.hid (AU.below hb)) HU.out)
  have C4 := Lib.hid (show ∀ w', Below w10.heap.size w10 w' → Calls Tryd.prog 22 #[.agg (arr 4 V')] w' (fun e w'' => e = .returned (.bool false) ∧ Below w'.heap.size w' w'') from fun w' hb => by
    have := rcan_any (Lib.hid (TU.out.below hb))
    rwa [HU.out] at this)
  clear hVU AU
  go_wp2_with (first
    | (refine wpList_ld 26 (.tmp 7) rfl rfl rfl (ld_row H7.out E.out.below Tryd.underlying26 rfl (by kernel_rfl)) ?_)
    | (go_at_call 18; refine (C3.out _ E.out.below).mono ?_; rintro e w11 ⟨rfl, hb⟩; replace E := Lib.hid (E.out.call hb); clear hb)
    | (go_at_call 22; refine (C4.out _ E.out.below).mono ?_; rintro e w12 ⟨rfl, hb⟩; replace E := Lib.hid (E.out.call hb); clear hb)
    | (refine mem_alloc E 33 rfl rfl infoHash ?_; clear E; intro b8 w13 E; simp only [arr_cells'] at E)
    | (refine mem_store_row 0 E 33 rfl (.tmp 8) (.tmp 38) rfl rfl rfl rfl (by kernel_rfl) (by simp only [arr_size]) (bv_one _ _) ?_; clear E; intro w14 E; simp only [List.set_cons_zero, List.set_cons_succ] at E)
    | (refine wpList_ld 33 (.tmp 5) rfl rfl rfl (ld_row H5.out E.out.below Tryd.underlying33 rfl (by kernel_rfl)) ?_)
    | (refine mem_load_row E 33 rfl (.tmp 8) rfl rfl List.mem_cons_self Tryd.underlying33 rfl (by simp only [arr_size]; kernel_rfl) ?_)
    | (refine wpList_bld 33 _ rfl rfl (ps := #[]) (by kernel_rfl) built_hash0 ?_)
    | (go_at_call 24; refine (AW.out _).mono ?_; rintro e w_w ⟨rfl, hb⟩; replace E := Lib.hid (E.out.call hb); clear hb))
  go_ret
  exact ⟨rfl, BASE.out.trans (E.out.below.mono BASE.out.size)⟩

set_option maxRecDepth 100000 in
set_option maxHeartbeats 16000000 in
theorem walk_ne (W : World) (hL : laidMetH Tryd.prog S.shaLaid W) (v0 : Value) (t : TTx) (w0 : TxAt W v0 t) (v1 : Value) (ws : List (List Nat)) (w1 : TextsAt W v1 ws) (hc : canB t = true) (hu : canB (setWit t ws) = true) (hz : dbl (txB false t) ≠ tl (fun _ => 0) 32) :
    Calls Tryd.prog 4 #[v0, v1] W fun e w' => e = .returned (.bool true) ∧ Below W.heap.size W w' := by
  have KL := Lib.hid (show S.Both W from S.of_sha hL)
  obtain ⟨V, rfl, A0⟩ := w0
  have A := Lib.hid A0
  have AT := Lib.hid (⟨V, rfl, A0⟩ : TxAt W (.agg (arr 4 V)) t)
  have E := Lib.hid (Mem.nil W)
  have AW := Lib.hid awake7_any
  clear A0 hL
  have WS := Lib.hid w1
  have w1c : v1.cells = #[v1] ∧ v1.oneCell' = true := by
    obtain ⟨p, g, o, c, U, rfl, _⟩ := w1
    exact ⟨rfl, rfl⟩
  have W1 := Lib.hid w1c
  have CF := Lib.hid (can_facts hc)
  have C1 := Lib.hid (show ∀ w', Below W.heap.size W w' → Calls Tryd.prog 18 #[.agg (arr 4 V)] w' _ from fun w' hb => txid_good (Lib.hid (A.out.below hb)) hc (Lib.hid (KL.out.below hb)))
  have C2 := Lib.hid (show ∀ w', Below W.heap.size W w' → Calls Tryd.prog 22 #[.agg (arr 4 V)] w' (fun e w'' => e = .returned (.bool true) ∧ Below w'.heap.size w' w'') from fun w' hb => by
    have := rcan_any (Lib.hid (txAt_below AT.out hb))
    rwa [hc] at this)
  have HU := Lib.hid hu
  have SB := Lib.hid (setWit_bytes t ws)
  have IS := isH_dbl (txB false t)
  have EQ1 := eq_hash Tryd.underlying33 IS IS
  have EQ2 : ∀ w, (Op.equalIn 10000 33 (.agg (arr 32 (bv (lf (dbl (txB false t)))))) (.agg (arr 32 (bv fun _ => 0)))).run Tryd.prog w = .ok false w := fun w => by
    rw [zeros32', eq_hash Tryd.underlying33 IS ⟨tl_length _ _, isB_tl (x := fun _ => 0) (fun _ => by omega) 32⟩ w]
    rw [decide_eq_false hz]
  simp only [decide_true] at EQ1
  clear IS hz
  clear hc hu AT w1c w1
  go_enter Tryd.func4, Tryd.ntmps4
  go_upto_region 5 with (first
    | (refine mem_box E 26 rfl (.tmp 0) rfl rfl (arr_cells' 4 V) ?_; clear E; intro b2 w2 E)
    | (refine mem_load_row E 26 rfl (.tmp 2) rfl rfl List.mem_cons_self Tryd.underlying26 rfl (by simp only [arr_size]; kernel_rfl) ?_)
    | (refine mem_load_row E 26 rfl (.tmp 2) rfl rfl (List.mem_cons_of_mem _ List.mem_cons_self) Tryd.underlying26 rfl (by simp only [arr_size]; kernel_rfl) ?_)
    | (go_at_call 18; refine (C1.out _ E.out.below).mono ?_; rintro e w3 ⟨rfl, hb⟩; replace E := Lib.hid (E.out.call hb); clear hb)
    | (go_at_call 22; refine (C2.out _ E.out.below).mono ?_; rintro e w3 ⟨rfl, hb⟩; replace E := Lib.hid (E.out.call hb); clear hb)
    | (refine mem_alloc E 33 rfl rfl infoHash ?_; clear E; intro b5 w5 E; simp only [arr_cells'] at E)
    | (refine mem_store_row 0 E 33 rfl (.tmp 5) (.tmp 13) rfl rfl rfl rfl (by kernel_rfl) (by simp only [arr_size]) (bv_one _ _) ?_; clear E; intro w6 E; simp only [List.set_cons_zero, List.set_cons_succ] at E)
    | (go_at_call 15; refine (rcopy_any (Lib.hid (A.out.below E.out.below))).mono ?_; rintro e w7 ⟨V', rfl, O, hb⟩; have SZ := Lib.hid E.out.lt; have SZ2 := Lib.hid E.out.below.size; replace E := Lib.hid (E.out.call hb); have OO := Lib.hid O; clear hb O)
    | (refine mem_allocb E 26 rfl rfl infoTx ?_; clear E; intro b7 w8 E hb8; replace OO := Lib.hid (OO.out.below hb8.out); clear hb8)
    | (refine mem_store_rowk 0 E 26 rfl (.tmp 7) (.tmp 29) rfl rfl rfl rfl (by kernel_rfl) (by rw [arr_size]; rfl) (tx_one OO.out.at) ?_; clear E; intro w9 E KT; simp only [List.set_cons_zero, List.set_cons_succ] at E; replace OO := Lib.hid (OO.out.keep KT.out (by decide) (by decide) (by decide) (by decide)); clear KT))
  obtain ⟨pI, gI, cI, U, hvI, hlI, NI0, hiI⟩ := OO.out.ins
  have NI := Lib.hid NI0
  have II := Lib.hid hiI
  have n0 := CF.out.n0
  have LV := Lib.hid hvI
  obtain rfl : pI = some ⟨gI, 0, none⟩ := by
    rcases NI0.spot with q | q
    · have := (NI0.row.nil q).1
      omega
    · exact q
  have a1 : (arr 4 V')[1]? = some (.slice (some ⟨gI, 0, none⟩) t.ins.length cI) := by rw [arr_get 4 V' 1 (by omega), hvI]
  obtain ⟨n, hn⟩ : ∃ n, n = t.ins.length := ⟨_, rfl⟩
  have HN := Lib.hid hn
  rw [← hn] at a1 NI n0 LV
  have n2 : n ≤ 2000 := by rw [hn]; exact CF.out.n1
  clear hvI NI0 hiI hn
  go_upto_region 6 with (first
    | (refine mem_load_cell E 23 rfl (.tmp 30) rfl rfl List.mem_cons_self Tryd.underlying23 rfl a1 ?_)
    | (refine wpList_ix (k := 36) (j := 0) Tryd.underlying23 (by kernel_rfl) (.tmp 31) (.const (.int .i64 0)) rfl rfl rfl rfl n0 rfl ?_)
    | (refine wpList_vput NI 40 rfl (.tmp 34) (.tmp 32) rfl rfl rfl (i := 35) (by omega) (by kernel_rfl) W1.out.1 W1.out.2 ?_; intro w10 NJ HO KT HG))
  have TU : Hid (TxAt w10 (.agg (arr 4 V')) (setWit t ws)) := Lib.hid (by
    have hb : Below W.heap.size W w10 := E.out.below.trans ((HO.out.belowOf HG.out NI.out.low).mono SZ2.out)
    refine setWit_at (U := U) (by rw [← HN.out]; exact n0) OO.out.ver OO.out.verB OO.out.lock OO.out.lockB (OO.out.outs.keep KT.out (by decide) (by decide)).at (by rw [← HN.out]; exact LV.out) hlI (by rw [← HN.out]; exact NJ.out) (fun i h => ((II.out i h).keep KT.out (by decide) (by decide)).at) (WS.out.below hb))
  have E10 : Hid (Mem W [(b7, 26, arr 4 V'), (b5, 33, arr 32 (bv (lf (dbl (txB false t))))), (b2, 26, arr 4 V)] w10) := Lib.hid (by
    refine ⟨E.out.below.trans ((HO.out.belowOf HG.out NI.out.low).mono SZ2.out), fun q hq => ?_, E.out.nd, E.out.ge⟩
    have h1 := E.out.has q hq
    simp only [List.mem_cons, List.not_mem_nil, or_false] at hq
    rcases hq with rfl | rfl | rfl
    · exact KT.out.keep _ _ _ (show 26 ≠ 44 by decide) h1
    · exact KT.out.keep _ _ _ (show 33 ≠ 44 by decide) h1
    · exact KT.out.keep _ _ _ (show 26 ≠ 44 by decide) h1)
  clear E NI NJ HO KT HG II OO
  have H7 := Lib.hid (E10.out.get List.mem_cons_self)
  have H5 := Lib.hid (E10.out.get (List.mem_cons_of_mem _ List.mem_cons_self))
  have BASE := Lib.hid (E10.out.below)
  clear E10
  have E := Lib.hid (Mem.nil w10)
  obtain ⟨VU, hVU, AU⟩ := TU.out
  have hVU' : Hid ((.agg (arr 4 V') : Value) = .agg (arr 4 VU)) := Lib.hid hVU
  have AU' := Lib.hid AU
  have C3 := Lib.hid (show ∀ w', Below w10.heap.size w10 w' → Calls Tryd.prog 18 #[.agg (arr 4 V')] w' (fun e w'' => e = .returned (.tuple #[.agg (arr 32 (bv (lf (dbl (txB false t))))), .int .i64 0]) ∧ Below w'.heap.size w' w'') from fun w' hb => by
    rw [hVU]
    have := txid_good (Lib.hid (AU.below hb)) HU.out (Lib.hid ((KL.out.below BASE.out).below hb))
    rwa [SB.out] at this)
  have C4 := Lib.hid (show ∀ w', Below w10.heap.size w10 w' → Calls Tryd.prog 22 #[.agg (arr 4 V')] w' (fun e w'' => e = .returned (.bool true) ∧ Below w'.heap.size w' w'') from fun w' hb => by
    have := rcan_any (Lib.hid (TU.out.below hb))
    rwa [HU.out] at this)
  clear hVU AU
  go_wp2_with (first
    | (refine wpList_ld 26 (.tmp 7) rfl rfl rfl (ld_row H7.out E.out.below Tryd.underlying26 rfl (by kernel_rfl)) ?_)
    | (go_at_call 18; refine (C3.out _ E.out.below).mono ?_; rintro e w11 ⟨rfl, hb⟩; replace E := Lib.hid (E.out.call hb); clear hb)
    | (go_at_call 22; refine (C4.out _ E.out.below).mono ?_; rintro e w12 ⟨rfl, hb⟩; replace E := Lib.hid (E.out.call hb); clear hb)
    | (refine mem_alloc E 33 rfl rfl infoHash ?_; clear E; intro b8 w13 E; simp only [arr_cells'] at E)
    | (refine mem_store_row 0 E 33 rfl (.tmp 8) (.tmp 38) rfl rfl rfl rfl (by kernel_rfl) (by simp only [arr_size]) (bv_one _ _) ?_; clear E; intro w14 E; simp only [List.set_cons_zero, List.set_cons_succ] at E)
    | (refine wpList_ld 33 (.tmp 5) rfl rfl rfl (ld_row H5.out E.out.below Tryd.underlying33 rfl (by kernel_rfl)) ?_)
    | (refine mem_load_row E 33 rfl (.tmp 8) rfl rfl List.mem_cons_self Tryd.underlying33 rfl (by simp only [arr_size]; kernel_rfl) ?_)
    | (refine wpList_bld 33 _ rfl rfl (ps := #[]) (by kernel_rfl) built_hash0 ?_)
    | (go_at_call 24; refine (AW.out _).mono ?_; rintro e w_w ⟨rfl, hb⟩; replace E := Lib.hid (E.out.call hb); clear hb))
  go_ret
  exact ⟨rfl, BASE.out.trans (E.out.below.mono BASE.out.size)⟩

set_option maxRecDepth 100000 in
set_option maxHeartbeats 16000000 in
theorem walk_eq (W : World) (hL : laidMetH Tryd.prog S.shaLaid W) (v0 : Value) (t : TTx) (w0 : TxAt W v0 t) (v1 : Value) (ws : List (List Nat)) (w1 : TextsAt W v1 ws) (hc : canB t = true) (hu : canB (setWit t ws) = true) (hz : dbl (txB false t) = tl (fun _ => 0) 32) :
    Calls Tryd.prog 4 #[v0, v1] W fun e w' => e = .returned (.bool true) ∧ Below W.heap.size W w' := by
  have KL := Lib.hid (show S.Both W from S.of_sha hL)
  obtain ⟨V, rfl, A0⟩ := w0
  have A := Lib.hid A0
  have AT := Lib.hid (⟨V, rfl, A0⟩ : TxAt W (.agg (arr 4 V)) t)
  have E := Lib.hid (Mem.nil W)
  have AW := Lib.hid awake7_any
  clear A0 hL
  have WS := Lib.hid w1
  have w1c : v1.cells = #[v1] ∧ v1.oneCell' = true := by
    obtain ⟨p, g, o, c, U, rfl, _⟩ := w1
    exact ⟨rfl, rfl⟩
  have W1 := Lib.hid w1c
  have CF := Lib.hid (can_facts hc)
  have C1 := Lib.hid (show ∀ w', Below W.heap.size W w' → Calls Tryd.prog 18 #[.agg (arr 4 V)] w' _ from fun w' hb => txid_good (Lib.hid (A.out.below hb)) hc (Lib.hid (KL.out.below hb)))
  have C2 := Lib.hid (show ∀ w', Below W.heap.size W w' → Calls Tryd.prog 22 #[.agg (arr 4 V)] w' (fun e w'' => e = .returned (.bool true) ∧ Below w'.heap.size w' w'') from fun w' hb => by
    have := rcan_any (Lib.hid (txAt_below AT.out hb))
    rwa [hc] at this)
  have HU := Lib.hid hu
  have SB := Lib.hid (setWit_bytes t ws)
  have IS := isH_dbl (txB false t)
  have EQ1 := eq_hash Tryd.underlying33 IS IS
  have EQ2 : ∀ w, (Op.equalIn 10000 33 (.agg (arr 32 (bv (lf (dbl (txB false t)))))) (.agg (arr 32 (bv fun _ => 0)))).run Tryd.prog w = .ok true w := fun w => by
    rw [zeros32', eq_hash Tryd.underlying33 IS ⟨tl_length _ _, isB_tl (x := fun _ => 0) (fun _ => by omega) 32⟩ w]
    rw [decide_eq_true hz]
  simp only [decide_true] at EQ1
  clear IS hz
  clear hc hu AT w1c w1
  go_enter Tryd.func4, Tryd.ntmps4
  go_upto_region 5 with (first
    | (refine mem_box E 26 rfl (.tmp 0) rfl rfl (arr_cells' 4 V) ?_; clear E; intro b2 w2 E)
    | (refine mem_load_row E 26 rfl (.tmp 2) rfl rfl List.mem_cons_self Tryd.underlying26 rfl (by simp only [arr_size]; kernel_rfl) ?_)
    | (refine mem_load_row E 26 rfl (.tmp 2) rfl rfl (List.mem_cons_of_mem _ List.mem_cons_self) Tryd.underlying26 rfl (by simp only [arr_size]; kernel_rfl) ?_)
    | (go_at_call 18; refine (C1.out _ E.out.below).mono ?_; rintro e w3 ⟨rfl, hb⟩; replace E := Lib.hid (E.out.call hb); clear hb)
    | (go_at_call 22; refine (C2.out _ E.out.below).mono ?_; rintro e w3 ⟨rfl, hb⟩; replace E := Lib.hid (E.out.call hb); clear hb)
    | (refine mem_alloc E 33 rfl rfl infoHash ?_; clear E; intro b5 w5 E; simp only [arr_cells'] at E)
    | (refine mem_store_row 0 E 33 rfl (.tmp 5) (.tmp 13) rfl rfl rfl rfl (by kernel_rfl) (by simp only [arr_size]) (bv_one _ _) ?_; clear E; intro w6 E; simp only [List.set_cons_zero, List.set_cons_succ] at E)
    | (go_at_call 15; refine (rcopy_any (Lib.hid (A.out.below E.out.below))).mono ?_; rintro e w7 ⟨V', rfl, O, hb⟩; have SZ := Lib.hid E.out.lt; have SZ2 := Lib.hid E.out.below.size; replace E := Lib.hid (E.out.call hb); have OO := Lib.hid O; clear hb O)
    | (refine mem_allocb E 26 rfl rfl infoTx ?_; clear E; intro b7 w8 E hb8; replace OO := Lib.hid (OO.out.below hb8.out); clear hb8)
    | (refine mem_store_rowk 0 E 26 rfl (.tmp 7) (.tmp 29) rfl rfl rfl rfl (by kernel_rfl) (by rw [arr_size]; rfl) (tx_one OO.out.at) ?_; clear E; intro w9 E KT; simp only [List.set_cons_zero, List.set_cons_succ] at E; replace OO := Lib.hid (OO.out.keep KT.out (by decide) (by decide) (by decide) (by decide)); clear KT))
  obtain ⟨pI, gI, cI, U, hvI, hlI, NI0, hiI⟩ := OO.out.ins
  have NI := Lib.hid NI0
  have II := Lib.hid hiI
  have n0 := CF.out.n0
  have LV := Lib.hid hvI
  obtain rfl : pI = some ⟨gI, 0, none⟩ := by
    rcases NI0.spot with q | q
    · have := (NI0.row.nil q).1
      omega
    · exact q
  have a1 : (arr 4 V')[1]? = some (.slice (some ⟨gI, 0, none⟩) t.ins.length cI) := by rw [arr_get 4 V' 1 (by omega), hvI]
  obtain ⟨n, hn⟩ : ∃ n, n = t.ins.length := ⟨_, rfl⟩
  have HN := Lib.hid hn
  rw [← hn] at a1 NI n0 LV
  have n2 : n ≤ 2000 := by rw [hn]; exact CF.out.n1
  clear hvI NI0 hiI hn
  go_upto_region 6 with (first
    | (refine mem_load_cell E 23 rfl (.tmp 30) rfl rfl List.mem_cons_self Tryd.underlying23 rfl a1 ?_)
    | (refine wpList_ix (k := 36) (j := 0) Tryd.underlying23 (by kernel_rfl) (.tmp 31) (.const (.int .i64 0)) rfl rfl rfl rfl n0 rfl ?_)
    | (refine wpList_vput NI 40 rfl (.tmp 34) (.tmp 32) rfl rfl rfl (i := 35) (by omega) (by kernel_rfl) W1.out.1 W1.out.2 ?_; intro w10 NJ HO KT HG))
  have TU : Hid (TxAt w10 (.agg (arr 4 V')) (setWit t ws)) := Lib.hid (by
    have hb : Below W.heap.size W w10 := E.out.below.trans ((HO.out.belowOf HG.out NI.out.low).mono SZ2.out)
    refine setWit_at (U := U) (by rw [← HN.out]; exact n0) OO.out.ver OO.out.verB OO.out.lock OO.out.lockB (OO.out.outs.keep KT.out (by decide) (by decide)).at (by rw [← HN.out]; exact LV.out) hlI (by rw [← HN.out]; exact NJ.out) (fun i h => ((II.out i h).keep KT.out (by decide) (by decide)).at) (WS.out.below hb))
  have E10 : Hid (Mem W [(b7, 26, arr 4 V'), (b5, 33, arr 32 (bv (lf (dbl (txB false t))))), (b2, 26, arr 4 V)] w10) := Lib.hid (by
    refine ⟨E.out.below.trans ((HO.out.belowOf HG.out NI.out.low).mono SZ2.out), fun q hq => ?_, E.out.nd, E.out.ge⟩
    have h1 := E.out.has q hq
    simp only [List.mem_cons, List.not_mem_nil, or_false] at hq
    rcases hq with rfl | rfl | rfl
    · exact KT.out.keep _ _ _ (show 26 ≠ 44 by decide) h1
    · exact KT.out.keep _ _ _ (show 33 ≠ 44 by decide) h1
    · exact KT.out.keep _ _ _ (show 26 ≠ 44 by decide) h1)
  clear E NI NJ HO KT HG II OO
  have H7 := Lib.hid (E10.out.get List.mem_cons_self)
  have H5 := Lib.hid (E10.out.get (List.mem_cons_of_mem _ List.mem_cons_self))
  have BASE := Lib.hid (E10.out.below)
  clear E10
  have E := Lib.hid (Mem.nil w10)
  obtain ⟨VU, hVU, AU⟩ := TU.out
  have hVU' : Hid ((.agg (arr 4 V') : Value) = .agg (arr 4 VU)) := Lib.hid hVU
  have AU' := Lib.hid AU
  have C3 := Lib.hid (show ∀ w', Below w10.heap.size w10 w' → Calls Tryd.prog 18 #[.agg (arr 4 V')] w' (fun e w'' => e = .returned (.tuple #[.agg (arr 32 (bv (lf (dbl (txB false t))))), .int .i64 0]) ∧ Below w'.heap.size w' w'') from fun w' hb => by
    rw [hVU]
    have := txid_good (Lib.hid (AU.below hb)) HU.out (Lib.hid ((KL.out.below BASE.out).below hb))
    rwa [SB.out] at this)
  have C4 := Lib.hid (show ∀ w', Below w10.heap.size w10 w' → Calls Tryd.prog 22 #[.agg (arr 4 V')] w' (fun e w'' => e = .returned (.bool true) ∧ Below w'.heap.size w' w'') from fun w' hb => by
    have := rcan_any (Lib.hid (TU.out.below hb))
    rwa [HU.out] at this)
  clear hVU AU
  go_wp2_with (first
    | (refine wpList_ld 26 (.tmp 7) rfl rfl rfl (ld_row H7.out E.out.below Tryd.underlying26 rfl (by kernel_rfl)) ?_)
    | (go_at_call 18; refine (C3.out _ E.out.below).mono ?_; rintro e w11 ⟨rfl, hb⟩; replace E := Lib.hid (E.out.call hb); clear hb)
    | (go_at_call 22; refine (C4.out _ E.out.below).mono ?_; rintro e w12 ⟨rfl, hb⟩; replace E := Lib.hid (E.out.call hb); clear hb)
    | (refine mem_alloc E 33 rfl rfl infoHash ?_; clear E; intro b8 w13 E; simp only [arr_cells'] at E)
    | (refine mem_store_row 0 E 33 rfl (.tmp 8) (.tmp 38) rfl rfl rfl rfl (by kernel_rfl) (by simp only [arr_size]) (bv_one _ _) ?_; clear E; intro w14 E; simp only [List.set_cons_zero, List.set_cons_succ] at E)
    | (refine wpList_ld 33 (.tmp 5) rfl rfl rfl (ld_row H5.out E.out.below Tryd.underlying33 rfl (by kernel_rfl)) ?_)
    | (refine mem_load_row E 33 rfl (.tmp 8) rfl rfl List.mem_cons_self Tryd.underlying33 rfl (by simp only [arr_size]; kernel_rfl) ?_)
    | (refine wpList_bld 33 _ rfl rfl (ps := #[]) (by kernel_rfl) built_hash0 ?_)
    | (go_at_call 24; refine (AW.out _).mono ?_; rintro e w_w ⟨rfl, hb⟩; replace E := Lib.hid (E.out.call hb); clear hb))
  go_ret
  exact ⟨rfl, BASE.out.trans (E.out.below.mono BASE.out.size)⟩

theorem walk (W : World) (hL : laidMetH Tryd.prog S.shaLaid W) (v0 : Value) (t : TTx) (w0 : TxAt W v0 t) (v1 : Value) (ws : List (List Nat)) (w1 : TextsAt W v1 ws) :
    Calls Tryd.prog 4 #[v0, v1] W fun e w' => e = .returned (.bool true) ∧ Below W.heap.size W w' := by
  by_cases hc : canB t = true
  · by_cases hu : canB (setWit t ws) = true
    · by_cases hz : dbl (txB false t) = tl (fun _ => 0) 32
      · exact walk_eq W hL v0 t w0 v1 ws w1 hc hu hz
      · exact walk_ne W hL v0 t w0 v1 ws w1 hc hu hz
    · exact walk_u W hL v0 t w0 v1 ws w1 hc (by simpa using hu)
  · exact walk_bad W hL v0 t w0 v1 ws w1 (by simpa using hc)

set_option maxRecDepth 100000 in
theorem lifted (os : Os) (started : os.Started) (H : Type) (enc : TypeId × Value → H) :
    ReturnsInHanded {} Tryd.checked os 4 .any (fun w args => (Rows.txWitnessesSpec.pre enc Tryd.prog Tryd.f4 [] false w args ∧ laidMetH Tryd.prog S.shaLaid w) ∧ sizedMet enc Tryd.prog Tryd.f4 (OpenSpec.ofChange Rows.txWitnessesSpec) false w args)
      (Rows.txWitnessesSpec.post enc Tryd.prog Tryd.f4 false true false false) := by
  refine returnsInHanded_of_change_and (C := Tryd.checked) (X := fun w _ => laidMetH Tryd.prog S.shaLaid w) (fun _ _ _ hh h => h.of_heap hh) own started (by kernel_rfl) Tryd.func4
    (ChangeSpec.witness_shaped (enc := enc) (C := Tryd.checked) (os := os) (X := fun w _ => laidMetH Tryd.prog S.shaLaid w) false (World.doorLaid Tryd.prog 400 os) #[.agg #[.int .u32 0, .slice none 0 0, .slice none 0 0, .int .u32 0], .slice none 0 0] 8 rfl (World.shaped_of_RefB (by kernel_rfl) (by kernel_rfl)) (by kernel_rfl) (by kernel_rfl) (by kernel_rfl) (S.sha_door_met os _)) ?_
  intro W base args ds gs before hval0 hW _ hsz0 hL _
  have hval : ∀ (j : Nat) t v, Tryd.f4.params[j]? = some t → args[j]? = some v → Value.okWide Tryd.prog W .any base t v := hval0
  have hsz : (DataW.weightsEach Tryd.prog (Tryd.f4.params.toList ++ Rows.txWitnessesSpec.plain.varTypes Tryd.prog) (ds ++ gs)).all (· ≤ reachBytes) = true := hsz0
  have hW' := hW
  obtain ⟨p, q, hA0, hV, rfl, hfz, hnd⟩ := hW
  have hA : DataW.TrodAll enc Tryd.prog W 0 (fun _ => true) true Tryd.f4.params.toList args.toList ds p := hA0
  rw [Tryd.params4] at hA hval hsz
  obtain ⟨v0, vs0, d0, ds0, p0, q0, hargs, rfl, rfl, h0, r0⟩ := trodAll_cons hA
  obtain ⟨v1, vs1, d1, ds1, p1, q1, rfl, rfl, rfl, h1, r1⟩ := trodAll_cons r0
  obtain ⟨rfl, rfl, rfl⟩ := trodAll_nil r1
  obtain rfl : args = #[v0, v1] := by cases args; simp_all
  obtain ⟨rfl, rfl⟩ := trodVars_none hV
  have k0 := h0
  have lt0 : ∀ x ∈ p0, x.block < W.heap.size := by obtain ⟨m, hm⟩ := k0; exact DataW.trod_lt m _ _ _ hm
  obtain ⟨t0, w0⟩ := open_tx (j := 0) (hval 0 26 v0 rfl rfl) h0 hsz rfl rfl
  have k1 := h1
  have lt1 : ∀ x ∈ p1, x.block < W.heap.size := by obtain ⟨m, hm⟩ := k1; exact DataW.trod_lt m _ _ _ hm
  obtain ⟨t1, w1⟩ := open_texts_arg (j := 1) (hval 1 40 v1 rfl rfl) h1 hsz rfl rfl
  clear hA0 hval0 hsz0
  simp only [List.append_nil] at hW'
  refine (walk W hL v0 t0 w0 v1 t1 w1).mono fun e W' ⟨he, bel⟩ => ?_
  subst he
  exact ⟨_, rfl, _, _, _, [], _, [], hW', trodAll_mk1 (shut_bool Tryd.underlying4 _), (trodAll_cons_mk (Below.trod laidOut (by kernel_rfl) (of_decide_eq_true (by kernel_rfl)) k0 bel lt0) (trodAll_cons_mk (Below.trod laidOut (by kernel_rfl) (of_decide_eq_true (by kernel_rfl)) k1 bel lt1) trodAll_mk0)), rfl, bel.frame _, fun h => by cases h⟩

theorem over : Rows.TxWitnessesSaid :=
  OpenClaim.holds_of_wide 4 Tryd.f4 rfl rfl rfl rfl rfl rfl rfl ⟨rfl, rfl, rfl, rfl, rfl⟩ rfl rfl rfl rfl rfl (by kernel_rfl) Tryd.func4 (by kernel_rfl)
    (of_decide_eq_true (by kernel_rfl)) (by unfold Func.isWrapper; first | (rw [if_pos (by decide +kernel)]; kernel_rfl) | (rw [if_neg (by decide +kernel)]; exact ⟨rfl, rfl⟩))
    (fun os started H enc _ => lifted os started H enc)

/-- The tied card. -/
theorem card_holds : Rows.TxWitnessesCardSaid :=
  Claim7.holds_tied_plain_at .later [] [.data, .data] true (true, "5b03a9f238702c878a1ff18e05cfb6b5ab194a16e109cdc264953b441f38e295") true
    over (fun _ h => by cases h) (by kernel_rfl) (fun _ h => by cases h) txWitnesses_row_tie rfl ⟨rfl, rfl⟩ (by kernel_rfl) rfl
    (fun f fn hf hfn => by
      obtain rfl : f = 4 := Option.some.inj ((show Tryd.prog.funcNamed "sporran/sporranlaw07.TxWitnesses" = some 4 by kernel_rfl).symm.trans hf) |>.symm
      obtain rfl : fn = Tryd.f4 := (Option.some.inj (Tryd.func4.symm.trans hfn)).symm
      exact ⟨by kernel_rfl, fun j t ht => by
        rw [Tryd.params4] at ht
        have hm : t ∈ [26, 40] := by simpa using Array.mem_of_getElem? ht
        have hall : ([26, 40].all fun u => !Tryd.prog.wantsStandIn u) = true := by kernel_rfl
        exact (show Tryd.prog.wantsStandIn t = false by simpa using List.all_eq_true.1 hall t hm)⟩)
    (by kernel_rfl)
#print axioms card_holds
end Go.Proofs.YtjlefbkcjccjkaaDoor.txWitnesses
