/- For every block (its list of transactions nil or not, anything in them): of a copy of it, the bytes or the error, and whether it may be, are the document's; the copy stays as it was; a small block is written; the call returns true. The two tables of package sha are laid as the program's text lays them; the card ties them to that text. No other condition. -/
import Derived.Test.YtgicnmfodbenlaaDoorBw
import Derived.Test.YtgicnmfodbenlaaDoorSD8
import Derived.Test.YtgicnmfodbenlaaDoorTie
import Derived.Test.YtgicnmfodbenlaaDoorCards
import Derived.ShutString
import Derived.ChangeOld
import Derived.Below
import Derived.SevenTiedAt
set_option linter.unusedVariables false
set_option linter.unusedSimpArgs false
namespace Go.Proofs.YtgicnmfodbenlaaDoor.blockWrites
open Go.ChangeShapes Go.WideShapes Go.ChangeAt Go.RowKit Go.Lib Go.Sort Go.Proofs.YtgicnmfodbenlaaDoor

theorem ld_blk {w W : World} {b T : Nat} {V : Nat → Value} (hh : W.heap[b]? = some (.cells (arr 69 V) T (0, 0))) (hb : Below W.heap.size W w) : (Instr.loadAt 29 (.pointer (some ⟨b, 0, none⟩))).run Tryd.prog w = .ok (.agg (arr 69 V)) w := by
  have hr : w.rangeAt b 0 (vs V 69) := fun j v hj => by
    obtain ⟨h, rfl⟩ := vs_get _ _ _ _ hj
    rw [Nat.zero_add, hb.cell (cell_lt (cell_of_here hh j (arr_get 69 V j h)))]
    exact cell_of_here hh j (arr_get 69 V j h)
  have := run_loadAt_mid (P := Tryd.prog) w b 0 29 (vs V 69) _ hr blk_is rfl (by rw [vs_length]; kernel_rfl)
  rwa [vs_arr] at this
def encErr (t : TBlk) : Int := if 2000 < t.txs.length ∨ t.txs.any (fun x => !canB x) = true then 1 else if 200000 < (blkB t).length then 91 else 0
def encBytes (t : TBlk) : List Nat := if 2000 < t.txs.length ∨ t.txs.any (fun x => !canB x) = true then [] else if 200000 < (blkB t).length then [] else blkB t
def EncV (t : TBlk) (W : World) (e : Ending) (w' : World) : Prop := ∃ v, e = .returned (.tuple #[v, .int .i64 (encErr t)]) ∧ TextAt w' v (encBytes t) ∧ Below W.heap.size W w'
theorem enc_v {W : World} {t : TBlk} {e : Ending} {w' : World} (h : BEnc W t e w') : EncV t W e w' := by
  unfold BEnc at h
  unfold EncV encErr encBytes
  split at h
  · rename_i q
    rw [if_pos q, if_pos q]
    obtain ⟨rfl, hb⟩ := h
    exact ⟨_, rfl, ⟨none, 0, 0, 0, rfl, by simp, Row.nothing _ _ (lf_lt isB_nil)⟩, hb⟩
  · rename_i q
    rw [if_neg q, if_neg q]
    split at h
    · rename_i r
      rw [if_pos r, if_pos r]
      obtain ⟨rfl, hb⟩ := h
      exact ⟨_, rfl, ⟨none, 0, 0, 0, rfl, by simp, Row.nothing _ _ (lf_lt isB_nil)⟩, hb⟩
    · rename_i r
      rw [if_neg r, if_neg r]
      obtain ⟨p, g, c, rfl, N, hb⟩ := h
      exact ⟨_, rfl, ⟨p, g, 0, c, rfl, by omega, N.row⟩, hb⟩
set_option maxRecDepth 100000 in
set_option maxHeartbeats 16000000 in
theorem walk (W : World) (hL : laidMetH Tryd.prog S.shaLaid W) (v0 : Value) (t : TBlk) (w0 : BlkAt W v0 t) :
    Calls Tryd.prog 3 #[v0] W fun e w' => e = .returned (.bool true) ∧ Below W.heap.size W w' := by
  have KL := Lib.hid (show S.Both W from S.of_sha hL)
  obtain ⟨V, rfl, A0⟩ := w0
  have A := Lib.hid A0
  have E := Lib.hid (Mem.nil W)
  have ONES := Lib.hid (blk_ones A0)
  clear A0 hL
  go_enter Tryd.func3, Tryd.ntmps3
  go_upto_region 2 with (first
    | ((with_reducible refine wpList_at 1 rfl ?_); refine mem_box E 29 rfl (.tmp 0) rfl rfl (arr_cells' 69 V) ?_; clear E; intro b1 w1 E)
    | ((with_reducible refine wpList_at 8 rfl ?_); refine mem_load_row E 29 rfl (.tmp 1) rfl rfl List.mem_cons_self blk_is rfl (by simp only [arr_size]; kernel_rfl) ?_)
    | (go_at_call 5; refine (bcopy_any (Lib.hid (A.out.below E.out.below))).mono ?_; rintro e w2 ⟨BO, V', rfl, O, hb⟩; replace E := Lib.hid (E.out.call hb); have OO := Lib.hid O; clear hb O)
    | ((with_reducible refine wpList_at 3 rfl ?_); refine mem_allocb E 29 rfl rfl infoBlk0 ?_; clear E; intro b3 w3 E hb3; simp only [arr_cells'] at E; replace OO := Lib.hid (OO.out.below hb3.out); clear hb3)
    | ((with_reducible refine wpList_atn rfl ?_); refine mem_store_rowk 0 E 29 rfl (.tmp 3) (.tmp 9) rfl rfl rfl rfl (by kernel_rfl) (by simp only [arr_size]) (all_of (blk_ones OO.out.at)) ?_; clear E; intro w4 E KT; replace OO := Lib.hid (OO.out.keep KT.out); simp only [List.set_cons_zero, List.set_cons_succ] at E))

  have OO := Lib.hid OO.out.at
  have H1 := Lib.hid (E.out.get (List.mem_cons_of_mem _ List.mem_cons_self))
  have H3 := Lib.hid (E.out.get List.mem_cons_self)
  have BW := Lib.hid E.out.below
  replace A := Lib.hid (A.out.below E.out.below)
  replace KL := Lib.hid (KL.out.below E.out.below)
  clear E
  have E := Lib.hid (Mem.nil w4)
  go_upto_region 4 with (first
    | ((with_reducible refine wpList_at 11 rfl ?_); refine wpList_ld 29 (.tmp 3) rfl rfl rfl (ld_blk H3.out E.out.below) ?_)
    | ((with_reducible refine wpList_at 16 rfl ?_); refine wpList_ld 29 (.tmp 1) rfl rfl rfl (ld_blk H1.out E.out.below) ?_)
    | (go_at_call 6; refine (benc_any (Lib.hid ⟨_, rfl, OO.out.below E.out.below⟩)).mono ?_; intro e w5 h5; obtain ⟨va, rfl, T1, hb⟩ := enc_v h5; replace E := Lib.hid (E.out.call hb); have TA := Lib.hid T1; clear hb T1 h5)
    | (go_at_call 7; refine (rbenc_any (Lib.hid ⟨_, rfl, A.out.below E.out.below⟩)).mono ?_; intro e w6 h6; obtain ⟨vb, rfl, T1, hb⟩ := enc_v h6; replace E := Lib.hid (E.out.call hb); replace TA := Lib.hid (TA.out.below hb); have TB := Lib.hid T1; clear hb T1 h6))
  replace BW := Lib.hid (BW.out.trans (E.out.below.mono BW.out.size))
  replace KL := Lib.hid (KL.out.below E.out.below)
  replace A := Lib.hid (A.out.below E.out.below)
  replace OO := Lib.hid (OO.out.below E.out.below)
  replace H1 := Lib.hid (show w6.heap[b1]? = some (.cells (arr 69 V) 29 (0, 0)) by rw [E.out.below.block b1 (heap_lt H1.out)]; exact H1.out)
  replace H3 := Lib.hid (show w6.heap[b3]? = some (.cells (arr 69 V') 29 (0, 0)) by rw [E.out.below.block b3 (heap_lt H3.out)]; exact H3.out)
  clear E
  have CE := Lib.hid (show ∀ w', Below w6.heap.size w6 w' → Calls Tryd.prog 8 #[va, vb] w' _ from fun w' hb => same_text (Lib.hid (TA.out.below hb)) (Lib.hid (TB.out.below hb)))
  have C9 := Lib.hid (show ∀ w', Below w6.heap.size w6 w' → Calls Tryd.prog 9 #[.agg (arr 69 V')] w' _ from fun w' hb => chk_any (Lib.hid ⟨_, rfl, OO.out.below hb⟩) (Lib.hid (KL.out.below hb)))
  have C10 := Lib.hid (show ∀ w', Below w6.heap.size w6 w' → Calls Tryd.prog 10 #[.agg (arr 69 V)] w' _ from fun w' hb => rchk_any (Lib.hid ⟨_, rfl, A.out.below hb⟩))
  have CS := Lib.hid (show ∀ w', Below w6.heap.size w6 w' → Calls Tryd.prog 11 #[.agg (arr 69 V'), .agg (arr 69 V)] w' _ from fun w' hb => same_blk (Lib.hid (OO.out.below hb)) (Lib.hid (A.out.below hb)))
  have CA := Lib.hid awake8_any
  obtain ⟨er, her⟩ : ∃ er, er = encErr t := ⟨_, rfl⟩
  obtain ⟨ck, hck⟩ : ∃ ck, ck = chkOf t := ⟨_, rfl⟩
  rw [← hck] at C9 C10
  rw [← her]
  clear her hck
  refine wp_region_quiet_below (by kernel_rfl) (by kernel_rfl) ?_
  quiet_step (fail)
  quiet_step (fail)
  quiet_step (exact Calls.regrown_of (CE.out _ (below_regrown _ _ _)))
  quiet_step (fail)
  quiet_step (fail)
  quiet_step (fail)
  quiet_step (fail)
  quiet_step (fail)
  quiet_step (fail)
  refine wpQuiet_load_at 29 (.tmp 3) rfl rfl _ rfl _ (fun w3 hC => by obtain ⟨p, rfl⟩ := hC; exact ld_blk H3.out (below_regrown _ _ _)) ?_
  quiet_step (exact Calls.regrown_of (C9.out _ (below_regrown _ _ _)))
  refine wpQuiet_load_at 29 (.tmp 1) rfl rfl _ rfl _ (fun w3 hC => by obtain ⟨p, rfl⟩ := hC; exact ld_blk H1.out (below_regrown _ _ _)) ?_
  quiet_step (exact Calls.regrown_of (C10.out _ (below_regrown _ _ _)))
  quiet_step (fail)
  quiet_step (fail)
  quiet_step (fail)
  refine wpQuiet_load_at 29 (.tmp 3) rfl rfl _ rfl _ (fun w3 hC => by obtain ⟨p, rfl⟩ := hC; exact ld_blk H3.out (below_regrown _ _ _)) ?_
  refine wpQuiet_load_at 29 (.tmp 1) rfl rfl _ rfl _ (fun w3 hC => by obtain ⟨p, rfl⟩ := hC; exact ld_blk H1.out (below_regrown _ _ _)) ?_
  quiet_step (exact Calls.regrown_of (CS.out _ (below_regrown _ _ _)))
  quiet_step (fail)
  quiet_step (fail)
  quiet_step (exact Calls.regrown_of (CA.out _))
  quiet_step (fail)
  quiet_step (fail)
  refine wpQuiet_nil ?_
  intro _ hw'
  obtain ⟨⟨dq, osq⟩, hw''⟩ := hw'
  subst hw''
  go_wp2_with fail
  go_ret
  exact ⟨by simp, BW.out.trans ((below_regrown _ dq osq).mono BW.out.size)⟩

set_option maxRecDepth 100000 in
theorem lifted (os : Os) (started : os.Started) (H : Type) (enc : TypeId × Value → H) :
    ReturnsInHanded {} Tryd.checked os 3 .any (fun w args => (Rows.blockWritesSpec.pre enc Tryd.prog Tryd.f3 [] false w args ∧ laidMetH Tryd.prog S.shaLaid w) ∧ sizedMet enc Tryd.prog Tryd.f3 (OpenSpec.ofChange Rows.blockWritesSpec) false w args)
      (Rows.blockWritesSpec.post enc Tryd.prog Tryd.f3 false true false false) := by
  refine returnsInHanded_of_change_and (C := Tryd.checked) (X := fun w _ => laidMetH Tryd.prog S.shaLaid w) (fun _ _ _ hh h => h.of_heap hh) own started (by kernel_rfl) Tryd.func3
    (ChangeSpec.witness_shaped (enc := enc) (C := Tryd.checked) (os := os) (X := fun w _ => laidMetH Tryd.prog S.shaLaid w) false (World.doorLaid Tryd.prog 400 os) #[.agg #[.int .u32 0, .int .u8 0, .int .u8 0, .int .u8 0, .int .u8 0, .int .u8 0, .int .u8 0, .int .u8 0, .int .u8 0, .int .u8 0, .int .u8 0, .int .u8 0, .int .u8 0, .int .u8 0, .int .u8 0, .int .u8 0, .int .u8 0, .int .u8 0, .int .u8 0, .int .u8 0, .int .u8 0, .int .u8 0, .int .u8 0, .int .u8 0, .int .u8 0, .int .u8 0, .int .u8 0, .int .u8 0, .int .u8 0, .int .u8 0, .int .u8 0, .int .u8 0, .int .u8 0, .int .u8 0, .int .u8 0, .int .u8 0, .int .u8 0, .int .u8 0, .int .u8 0, .int .u8 0, .int .u8 0, .int .u8 0, .int .u8 0, .int .u8 0, .int .u8 0, .int .u8 0, .int .u8 0, .int .u8 0, .int .u8 0, .int .u8 0, .int .u8 0, .int .u8 0, .int .u8 0, .int .u8 0, .int .u8 0, .int .u8 0, .int .u8 0, .int .u8 0, .int .u8 0, .int .u8 0, .int .u8 0, .int .u8 0, .int .u8 0, .int .u8 0, .int .u8 0, .int .u32 0, .int .u32 0, .int .u32 0, .slice none 0 0]] 8 rfl (World.shaped_of_RefB (by kernel_rfl) (by kernel_rfl)) (by kernel_rfl) (by kernel_rfl) (by kernel_rfl) (S.sha_door_met os _)) ?_
  intro W base args ds gs before hval0 hW _ hsz0 hL _
  have hval : ∀ (j : Nat) t v, Tryd.f3.params[j]? = some t → args[j]? = some v → Value.okWide Tryd.prog W .any base t v := hval0
  have hsz : (DataW.weightsEach Tryd.prog (Tryd.f3.params.toList ++ Rows.blockWritesSpec.plain.varTypes Tryd.prog) (ds ++ gs)).all (· ≤ reachBytes) = true := hsz0
  have hW' := hW
  obtain ⟨p, q, hA0, hV, rfl, hfz, hnd⟩ := hW
  have hA : DataW.TrodAll enc Tryd.prog W 0 (fun _ => true) true Tryd.f3.params.toList args.toList ds p := hA0
  rw [Tryd.params3] at hA hval hsz
  obtain ⟨v0, vs0, d0, ds0, p0, q0, hargs, rfl, rfl, h0, r0⟩ := trodAll_cons hA
  obtain ⟨rfl, rfl, rfl⟩ := trodAll_nil r0
  obtain rfl : args = #[v0] := by cases args; simp_all
  obtain ⟨rfl, rfl⟩ := trodVars_none hV
  have k0 := h0
  have lt0 : ∀ x ∈ p0, x.block < W.heap.size := by obtain ⟨m, hm⟩ := k0; exact DataW.trod_lt m _ _ _ hm
  obtain ⟨t0, w0⟩ := open_blk (j := 0) (hval 0 29 v0 rfl rfl) h0 hsz rfl rfl
  clear hA0 hval0 hsz0
  simp only [List.append_nil] at hW'
  refine (walk W hL v0 t0 w0).mono fun e W' ⟨he, bel⟩ => ?_
  subst he
  exact ⟨_, rfl, _, _, _, [], _, [], hW', trodAll_mk1 (shut_bool Tryd.underlying4 _), (trodAll_cons_mk (Below.trod laidOut (by kernel_rfl) (of_decide_eq_true (by kernel_rfl)) k0 bel lt0) trodAll_mk0), rfl, bel.frame _, fun h => by cases h⟩

theorem over : Rows.BlockWritesSaid :=
  OpenClaim.holds_of_wide 3 Tryd.f3 rfl rfl rfl rfl rfl rfl rfl ⟨rfl, rfl, rfl, rfl, rfl⟩ rfl rfl rfl rfl rfl (by kernel_rfl) Tryd.func3 (by kernel_rfl)
    (of_decide_eq_true (by kernel_rfl)) (by unfold Func.isWrapper; first | (rw [if_pos (by decide +kernel)]; kernel_rfl) | (rw [if_neg (by decide +kernel)]; exact ⟨rfl, rfl⟩))
    (fun os started H enc _ => lifted os started H enc)

/-- The tied card. -/
theorem card_holds : Rows.BlockWritesCardSaid :=
  Claim7.holds_tied_plain_at .later [] [.data, .data] true (true, "42d42a39238a80d5eb0d960013a0ec10374ec025e22287f765c7096ee834c8a3") false
    over (fun _ h => by cases h) (by kernel_rfl) (fun _ h => by cases h) blockWrites_row_tie rfl ⟨rfl, rfl⟩ (by kernel_rfl) rfl
    (fun f fn hf hfn => by
      obtain rfl : f = 3 := Option.some.inj ((show Tryd.prog.funcNamed "sporran/sporranlaw08.BlockWrites" = some 3 by kernel_rfl).symm.trans hf) |>.symm
      obtain rfl : fn = Tryd.f3 := (Option.some.inj (Tryd.func3.symm.trans hfn)).symm
      exact ⟨by kernel_rfl, fun j t ht => by
        rw [Tryd.params3] at ht
        have hm : t ∈ [29] := by simpa using Array.mem_of_getElem? ht
        have hall : ([29].all fun u => !Tryd.prog.wantsStandIn u) = true := by kernel_rfl
        exact (show Tryd.prog.wantsStandIn t = false by simpa using List.all_eq_true.1 hall t hm)⟩)
    (by kernel_rfl)
#print axioms card_holds
end Go.Proofs.YtgicnmfodbenlaaDoor.blockWrites
