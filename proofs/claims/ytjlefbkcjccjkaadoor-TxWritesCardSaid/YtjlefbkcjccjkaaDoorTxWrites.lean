/- For every transaction (lists nil or not, anything in them): of a copy of it, the bytes with witnesses and without, the ID, the errors, and whether it can be written, are the document's; the copy stays as it was; a small transaction is written; the call returns true. The two tables of package sha are laid as the program's text lays them; the card ties them to that text. No other condition. -/
import Derived.Test.YtjlefbkcjccjkaaDoorTu
import Derived.Test.YtjlefbkcjccjkaaDoorTv
import Derived.Test.YtjlefbkcjccjkaaDoorTie
import Derived.Test.YtjlefbkcjccjkaaDoorCards
import Derived.ShutString
import Derived.ChangeOld
import Derived.Below
import Derived.SevenTiedAt
set_option linter.unusedVariables false
set_option linter.unusedSimpArgs false
namespace Go.Proofs.YtjlefbkcjccjkaaDoor.txWrites
open Go.ChangeShapes Go.WideShapes Go.ChangeAt Go.RowKit Go.Lib Go.Sort Go.Proofs.YtjlefbkcjccjkaaDoor

theorem ld_tx {w W : World} {b T : Nat} {V : Nat → Value} (hh : W.heap[b]? = some (.cells (arr 4 V) T (0, 0))) (hb : Below W.heap.size W w) : (Instr.loadAt 26 (.pointer (some ⟨b, 0, none⟩))).run Tryd.prog w = .ok (.agg (arr 4 V)) w := by
  have hr : w.rangeAt b 0 (vs V 4) := fun j v hj => by
    obtain ⟨h, rfl⟩ := vs_get _ _ _ _ hj
    rw [Nat.zero_add, hb.cell (cell_lt (cell_of_here hh j (arr_get 4 V j h)))]
    exact cell_of_here hh j (arr_get 4 V j h)
  have := run_loadAt_mid (P := Tryd.prog) w b 0 26 (vs V 4) _ hr Tryd.underlying26 rfl (by rw [vs_length]; kernel_rfl)
  rwa [vs_arr] at this
/-- The bytes that are answered. -/
def bytesOf (m : Bool) (t : TTx) : List Nat := if canB t then txB m t else []
def EncT (t : TTx) (m : Bool) (W : World) (e : Ending) (w' : World) : Prop := ∃ v, e = .returned (.tuple #[v, .int .i64 (errOf t)]) ∧ TextAt w' v (bytesOf m t) ∧ Below W.heap.size W w'
theorem enc_t {W : World} {V : Nat → Value} {t : TTx} (A : TxCells W V t) {m : Bool} {e : Ending} {w' : World} (h : Enc W t m e w') : EncT t m W e w' := by
  unfold Enc at h
  unfold EncT bytesOf errOf
  by_cases hc : canB t = true
  · rw [if_pos hc] at h
    rw [if_pos hc, if_pos hc]
    obtain ⟨p, g, c, rfl, N, hb⟩ := h
    exact ⟨_, rfl, ⟨p, g, 0, c, rfl, by have := txB_le A hc m; omega, N.row⟩, hb⟩
  · rw [if_neg hc] at h
    rw [if_neg hc, if_neg hc]
    obtain ⟨rfl, hb⟩ := h
    exact ⟨_, rfl, ⟨none, 0, 0, 0, rfl, by simp, Row.nothing _ _ (lf_lt isB_nil)⟩, hb⟩
set_option maxRecDepth 100000 in
set_option maxHeartbeats 16000000 in
theorem walk (W : World) (hL : laidMetH Tryd.prog S.shaLaid W) (v0 : Value) (t : TTx) (w0 : TxAt W v0 t) :
    Calls Tryd.prog 3 #[v0] W fun e w' => e = .returned (.bool true) ∧ Below W.heap.size W w' := by
  have KL := Lib.hid (show S.Both W from S.of_sha hL)
  obtain ⟨V, rfl, A0⟩ := w0
  have A := Lib.hid A0
  have E := Lib.hid (Mem.nil W)
  clear A0 hL
  go_enter Tryd.func3, Tryd.ntmps3
  go_upto_region 2 with (first
    | (refine mem_box E 26 rfl _ rfl rfl (arr_cells' 4 V) ?_; clear E; intro b1 w1 E)
    | (refine mem_load_row E 26 rfl (.tmp 1) rfl rfl List.mem_cons_self Tryd.underlying26 rfl (by simp only [arr_size]; kernel_rfl) ?_)
    | (go_at_call 15; refine (rcopy_any (Lib.hid (A.out.below E.out.below))).mono ?_; rintro e w2 ⟨V', rfl, O, hb⟩; replace E := Lib.hid (E.out.call hb); have OO := Lib.hid O; clear hb O)
    | (refine mem_allocb E 26 rfl rfl infoTx ?_; clear E; intro b3 w3 E hb3; replace OO := Lib.hid (OO.out.below hb3.out); clear hb3)
    | (refine mem_store_rowk 0 E 26 rfl (.tmp 3) (.tmp 17) rfl rfl rfl rfl (by kernel_rfl) (by rw [arr_size]; rfl) (tx_one OO.out.at) ?_; clear E; intro w4 E KT; simp only [List.set_cons_zero, List.set_cons_succ] at E; replace OO := Lib.hid (OO.out.keep KT.out (by decide) (by decide) (by decide) (by decide)); clear KT))
  have G := Lib.hid OO.out.at
  replace A := Lib.hid (A.out.below E.out.below)
  have H1 := Lib.hid (E.out.get (List.mem_cons_of_mem _ List.mem_cons_self))
  have H3 := Lib.hid (E.out.get List.mem_cons_self)
  have BW := Lib.hid E.out.below
  replace KL := Lib.hid (KL.out.below E.out.below)
  obtain ⟨mk, hmk⟩ : ∃ mk, mk = t.ins.any hasB := ⟨_, rfl⟩
  have C1 := Lib.hid (show ∀ w', Below w4.heap.size w4 w' → Calls Tryd.prog 16 #[.agg (arr 4 V'), .bool true] w' (EncT t mk w') from fun w' hb => by
    have h := txenc_any (Lib.hid (⟨V', rfl, G.out.below hb⟩ : TxAt w' (.agg (arr 4 V')) t)) true
    rw [hmk]
    exact h.mono fun e w'' h => enc_t (G.out.below hb) h)
  have C2 := Lib.hid (show ∀ w', Below w4.heap.size w4 w' → Calls Tryd.prog 17 #[.agg (arr 4 V), .bool true] w' (EncT t mk w') from fun w' hb => by
    have h := rtxenc_any (Lib.hid (⟨V, rfl, A.out.below hb⟩ : TxAt w' (.agg (arr 4 V)) t)) true
    rw [hmk]
    exact h.mono fun e w'' h => enc_t (A.out.below hb) h)
  have C3 := Lib.hid (show ∀ w', Below w4.heap.size w4 w' → Calls Tryd.prog 16 #[.agg (arr 4 V'), .bool false] w' (EncT t false w') from fun w' hb =>
    (txenc_any (Lib.hid (⟨V', rfl, G.out.below hb⟩ : TxAt w' (.agg (arr 4 V')) t)) false).mono fun e w'' h => enc_t (G.out.below hb) h)
  have C4 := Lib.hid (show ∀ w', Below w4.heap.size w4 w' → Calls Tryd.prog 17 #[.agg (arr 4 V), .bool false] w' (EncT t false w') from fun w' hb =>
    (rtxenc_any (Lib.hid (⟨V, rfl, A.out.below hb⟩ : TxAt w' (.agg (arr 4 V)) t)) false).mono fun e w'' h => enc_t (A.out.below hb) h)
  clear E OO hmk
  have E := Lib.hid (Mem.nil w4)
  go_upto_region 6 with (first
    | (refine wpList_ld 26 (.tmp 3) rfl rfl rfl (ld_tx H3.out E.out.below) ?_)
    | (refine wpList_ld 26 (.tmp 1) rfl rfl rfl (ld_tx H1.out E.out.below) ?_)
    | (go_at_call 16; (with_reducible refine (C1.out _ E.out.below).mono ?_); rintro e w5 ⟨va, rfl, T1, hb⟩; replace E := Lib.hid (E.out.call hb); have TA := Lib.hid T1; clear hb T1)
    | (go_at_call 17; (with_reducible refine (C2.out _ E.out.below).mono ?_); rintro e w6 ⟨vb, rfl, T1, hb⟩; replace E := Lib.hid (E.out.call hb); replace TA := Lib.hid (TA.out.below hb); have TB := Lib.hid T1; clear hb T1)
    | (go_at_call 16; (with_reducible refine (C3.out _ E.out.below).mono ?_); rintro e w7 ⟨vc, rfl, T1, hb⟩; replace E := Lib.hid (E.out.call hb); replace TA := Lib.hid (TA.out.below hb); replace TB := Lib.hid (TB.out.below hb); have TC := Lib.hid T1; clear hb T1)
    | (go_at_call 17; (with_reducible refine (C4.out _ E.out.below).mono ?_); rintro e w8 ⟨vd, rfl, T1, hb⟩; replace E := Lib.hid (E.out.call hb); replace TA := Lib.hid (TA.out.below hb); replace TB := Lib.hid (TB.out.below hb); replace TC := Lib.hid (TC.out.below hb); have TD := Lib.hid T1; clear hb T1))
  clear C1 C2 C3 C4
  replace BW := Lib.hid (BW.out.trans (E.out.below.mono BW.out.size))
  replace KL := Lib.hid (KL.out.below E.out.below)
  replace A := Lib.hid (A.out.below E.out.below)
  replace G := Lib.hid (G.out.below E.out.below)
  replace H1 := Lib.hid (show w8.heap[b1]? = some (.cells (arr 4 V) 26 (0, 0)) by rw [E.out.below.block b1 (heap_lt H1.out)]; exact H1.out)
  replace H3 := Lib.hid (show w8.heap[b3]? = some (.cells (arr 4 V') 26 (0, 0)) by rw [E.out.below.block b3 (heap_lt H3.out)]; exact H3.out)
  clear E
  have E := Lib.hid (Mem.nil w8)
  have C5 := Lib.hid (show ∀ w', Below w8.heap.size w8 w' → Calls Tryd.prog 18 #[.agg (arr 4 V')] w' _ from fun w' hb => txid_any (Lib.hid (⟨V', rfl, G.out.below hb⟩ : TxAt w' (.agg (arr 4 V')) t)) (Lib.hid (KL.out.below hb)))
  have C6 := Lib.hid (show ∀ w', Below w8.heap.size w8 w' → Calls Tryd.prog 19 #[.agg (arr 4 V)] w' _ from fun w' hb => rtxid_any (Lib.hid (⟨V, rfl, A.out.below hb⟩ : TxAt w' (.agg (arr 4 V)) t)))
  go_upto_region 8 with (first
    | (refine wpList_ld 26 (.tmp 3) rfl rfl rfl (ld_tx H3.out E.out.below) ?_)
    | (refine wpList_ld 26 (.tmp 1) rfl rfl rfl (ld_tx H1.out E.out.below) ?_)
    | (go_at_call 18; refine (C5.out _ E.out.below).mono ?_; rintro e w9 ⟨rfl, hb⟩; replace E := Lib.hid (E.out.call hb); clear hb)
    | (go_at_call 19; refine (C6.out _ E.out.below).mono ?_; rintro e w9 ⟨rfl, hb⟩; replace E := Lib.hid (E.out.call hb); clear hb)
    | (refine mem_alloc E 33 rfl rfl infoHash ?_; clear E; intro bx wx E; simp only [arr_cells'] at E)
    | (refine mem_store_row 0 E 33 rfl _ _ rfl rfl rfl rfl (by kernel_rfl) (by simp only [arr_size]) (bv_one _ _) ?_; clear E; intro wy E; simp only [List.set_cons_zero, List.set_cons_succ] at E))
  obtain ⟨we, hwe⟩ : ∃ we : World, we = wy := ⟨_, rfl⟩
  have EQ := eq_hash Tryd.underlying33 (isH_idOf t) (isH_idOf t)
  simp only [decide_true] at EQ
  have lift : ∀ w', Below we.heap.size we w' → Below w8.heap.size w8 w' := fun w' hb => by
    rw [hwe] at hb
    exact E.out.below.trans (hb.mono E.out.below.size)
  have CE1 := Lib.hid (show ∀ w', Below we.heap.size we w' → Calls Tryd.prog 20 #[va, vb] w' _ from fun w' hb => same_text (Lib.hid (TA.out.below (lift w' hb))) (Lib.hid (TB.out.below (lift w' hb))))
  have CE2 := Lib.hid (show ∀ w', Below we.heap.size we w' → Calls Tryd.prog 20 #[vc, vd] w' _ from fun w' hb => same_text (Lib.hid (TC.out.below (lift w' hb))) (Lib.hid (TD.out.below (lift w' hb))))
  have CC1 := Lib.hid (show ∀ w', Below we.heap.size we w' → Calls Tryd.prog 21 #[.agg (arr 4 V')] w' _ from fun w' hb => can_any (Lib.hid (⟨V', rfl, G.out.below (lift w' hb)⟩ : TxAt w' (.agg (arr 4 V')) t)))
  have CC2 := Lib.hid (show ∀ w', Below we.heap.size we w' → Calls Tryd.prog 22 #[.agg (arr 4 V)] w' _ from fun w' hb => rcan_any (Lib.hid (⟨V, rfl, A.out.below (lift w' hb)⟩ : TxAt w' (.agg (arr 4 V)) t)))
  have CS := Lib.hid (show ∀ w', Below we.heap.size we w' → Calls Tryd.prog 23 #[.agg (arr 4 V'), .agg (arr 4 V)] w' _ from fun w' hb => same_tx (Lib.hid (G.out.below (lift w' hb))) (Lib.hid (A.out.below (lift w' hb))))
  have CA := Lib.hid awake7_any
  obtain ⟨er, her⟩ : ∃ er, er = errOf t := ⟨_, rfl⟩
  obtain ⟨cn, hcn⟩ : ∃ cn, cn = canB t := ⟨_, rfl⟩
  rw [← hcn] at CC1 CC2
  rw [← her]
  subst hwe
  clear her hcn lift
  refine wp_region_quiet_below (by kernel_rfl) (by kernel_rfl) ?_
  quiet_step (fail)
  quiet_step (fail)
  quiet_step (exact Calls.regrown_of (CE1.out _ (below_regrown _ _ _)))
  quiet_step (fail)
  quiet_step (fail)
  quiet_step (fail)
  quiet_step (fail)
  quiet_step (fail)
  quiet_step (fail)
  quiet_step (fail)
  quiet_step (fail)
  quiet_step (exact Calls.regrown_of (CE2.out _ (below_regrown _ _ _)))
  quiet_step (fail)
  quiet_step (fail)
  quiet_step (fail)
  quiet_step (fail)
  quiet_step (fail)
  quiet_step (fail)
  quiet_step (fail)
  refine memq_load_row E 33 rfl (.tmp 12) rfl rfl (List.mem_cons_of_mem _ List.mem_cons_self) Tryd.underlying33 rfl (by simp only [arr_size]; kernel_rfl) ?_
  refine memq_load_row E 33 rfl (.tmp 14) rfl rfl List.mem_cons_self Tryd.underlying33 rfl (by simp only [arr_size]; kernel_rfl) ?_
  quiet_step (fail)
  quiet_step (fail)
  quiet_step (fail)
  quiet_step (fail)
  quiet_step (fail)
  quiet_step (fail)
  quiet_step (fail)
  quiet_step (fail)
  refine wpQuiet_load_at 26 (.tmp 3) rfl rfl _ rfl _ (fun w3 hC => by obtain ⟨p, rfl⟩ := hC; exact ld_tx H3.out (E.out.below.trans ((below_regrown _ p.d p.os).mono E.out.below.size))) ?_
  quiet_step (exact Calls.regrown_of (CC1.out _ (below_regrown _ _ _)))
  refine wpQuiet_load_at 26 (.tmp 1) rfl rfl _ rfl _ (fun w3 hC => by obtain ⟨p, rfl⟩ := hC; exact ld_tx H1.out (E.out.below.trans ((below_regrown _ p.d p.os).mono E.out.below.size))) ?_
  quiet_step (exact Calls.regrown_of (CC2.out _ (below_regrown _ _ _)))
  quiet_step (fail)
  quiet_step (fail)
  quiet_step (fail)
  refine wpQuiet_load_at 26 (.tmp 3) rfl rfl _ rfl _ (fun w3 hC => by obtain ⟨p, rfl⟩ := hC; exact ld_tx H3.out (E.out.below.trans ((below_regrown _ p.d p.os).mono E.out.below.size))) ?_
  refine wpQuiet_load_at 26 (.tmp 1) rfl rfl _ rfl _ (fun w3 hC => by obtain ⟨p, rfl⟩ := hC; exact ld_tx H1.out (E.out.below.trans ((below_regrown _ p.d p.os).mono E.out.below.size))) ?_
  quiet_step (exact Calls.regrown_of (CS.out _ (below_regrown _ _ _)))
  quiet_step (fail)
  quiet_step (fail)
  quiet_step (exact Calls.regrown_of (CA.out _))
  quiet_step (fail)
  quiet_step (fail)
  refine wpQuiet_nil ?_
  intro _ hw'
  obtain ⟨⟨dq, osq⟩, hw''⟩ := hw'
  subst hw''
  go_wp2_with fail
  go_ret
  exact ⟨by simp, BW.out.trans ((E.out.below.trans ((below_regrown _ dq osq).mono E.out.below.size)).mono BW.out.size)⟩

set_option maxRecDepth 100000 in
theorem lifted (os : Os) (started : os.Started) (H : Type) (enc : TypeId × Value → H) :
    ReturnsInHanded {} Tryd.checked os 3 .any (fun w args => (Rows.txWritesSpec.pre enc Tryd.prog Tryd.f3 [] false w args ∧ laidMetH Tryd.prog S.shaLaid w) ∧ sizedMet enc Tryd.prog Tryd.f3 (OpenSpec.ofChange Rows.txWritesSpec) false w args)
      (Rows.txWritesSpec.post enc Tryd.prog Tryd.f3 false true false false) := by
  refine returnsInHanded_of_change_and (C := Tryd.checked) (X := fun w _ => laidMetH Tryd.prog S.shaLaid w) (fun _ _ _ hh h => h.of_heap hh) own started (by kernel_rfl) Tryd.func3
    (ChangeSpec.witness_shaped (enc := enc) (C := Tryd.checked) (os := os) (X := fun w _ => laidMetH Tryd.prog S.shaLaid w) false (World.doorLaid Tryd.prog 400 os) #[.agg #[.int .u32 0, .slice none 0 0, .slice none 0 0, .int .u32 0]] 8 rfl (World.shaped_of_RefB (by kernel_rfl) (by kernel_rfl)) (by kernel_rfl) (by kernel_rfl) (by kernel_rfl) (S.sha_door_met os _)) ?_
  intro W base args ds gs before hval0 hW _ hsz0 hL _
  have hval : ∀ (j : Nat) t v, Tryd.f3.params[j]? = some t → args[j]? = some v → Value.okWide Tryd.prog W .any base t v := hval0
  have hsz : (DataW.weightsEach Tryd.prog (Tryd.f3.params.toList ++ Rows.txWritesSpec.plain.varTypes Tryd.prog) (ds ++ gs)).all (· ≤ reachBytes) = true := hsz0
  have hW' := hW
  obtain ⟨p, q, hA0, hV, rfl, hfz, hnd⟩ := hW
  have hA : DataW.TrodAll enc Tryd.prog W 0 (fun _ => true) true Tryd.f3.params.toList args.toList ds p := hA0
  rw [Tryd.params3] at hA hval hsz
  obtain ⟨v0, vs0, d0, ds0, p0, q0, hargs, rfl, rfl, h0, r0⟩ := trodAll_cons hA
  obtain ⟨rfl, rfl, rfl⟩ := trodAll_nil r0
  obtain rfl : args = #[v0] := by cases args; simp_all
  obtain ⟨rfl, rfl⟩ := trodVars_none hV
  have k0 := h0
  have lt0 : ∀ x ∈ p0, x.block < W.heap.size := by obtain ⟨m, hm⟩ := k0; exact DataW.trod_lt m _ _ _ hm
  obtain ⟨t0, w0⟩ := open_tx (j := 0) (hval 0 26 v0 rfl rfl) h0 hsz rfl rfl
  clear hA0 hval0 hsz0
  simp only [List.append_nil] at hW'
  refine (walk W hL v0 t0 w0).mono fun e W' ⟨he, bel⟩ => ?_
  subst he
  exact ⟨_, rfl, _, _, _, [], _, [], hW', trodAll_mk1 (shut_bool Tryd.underlying4 _), (trodAll_cons_mk (Below.trod laidOut (by kernel_rfl) (of_decide_eq_true (by kernel_rfl)) k0 bel lt0) trodAll_mk0), rfl, bel.frame _, fun h => by cases h⟩

theorem over : Rows.TxWritesSaid :=
  OpenClaim.holds_of_wide 3 Tryd.f3 rfl rfl rfl rfl rfl rfl rfl ⟨rfl, rfl, rfl, rfl, rfl⟩ rfl rfl rfl rfl rfl (by kernel_rfl) Tryd.func3 (by kernel_rfl)
    (of_decide_eq_true (by kernel_rfl)) (by unfold Func.isWrapper; first | (rw [if_pos (by decide +kernel)]; kernel_rfl) | (rw [if_neg (by decide +kernel)]; exact ⟨rfl, rfl⟩))
    (fun os started H enc _ => lifted os started H enc)

/-- The tied card. -/
theorem card_holds : Rows.TxWritesCardSaid :=
  Claim7.holds_tied_plain_at .later [] [.data, .data] true (true, "5b03a9f238702c878a1ff18e05cfb6b5ab194a16e109cdc264953b441f38e295") true
    over (fun _ h => by cases h) (by kernel_rfl) (fun _ h => by cases h) txWrites_row_tie rfl ⟨rfl, rfl⟩ (by kernel_rfl) rfl
    (fun f fn hf hfn => by
      obtain rfl : f = 3 := Option.some.inj ((show Tryd.prog.funcNamed "sporran/sporranlaw07.TxWrites" = some 3 by kernel_rfl).symm.trans hf) |>.symm
      obtain rfl : fn = Tryd.f3 := (Option.some.inj (Tryd.func3.symm.trans hfn)).symm
      exact ⟨by kernel_rfl, fun j t ht => by
        rw [Tryd.params3] at ht
        have hm : t ∈ [26] := by simpa using Array.mem_of_getElem? ht
        have hall : ([26].all fun u => !Tryd.prog.wantsStandIn u) = true := by kernel_rfl
        exact (show Tryd.prog.wantsStandIn t = false by simpa using List.all_eq_true.1 hall t hm)⟩)
    (by kernel_rfl)
#print axioms card_holds
end Go.Proofs.YtjlefbkcjccjkaaDoor.txWrites
