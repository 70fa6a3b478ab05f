/- For every block and every list of texts that are together of bulk at most 1048576: the program's items of the block and the document's are the same; written over, they leave the copy of the block as it was; the call returns true. The table that the row lists (that of package sip) is laid as the card ties it. The second form: what comes in is of bulk at most 1048576. -/
import Derived.Test.YtoopcmcmjaikhaaDoorYq
import Derived.Test.YtoopcmcmjaikhaaDoorBu
import Derived.Test.YtoopcmcmjaikhaaDoorZA
import Derived.Test.YtoopcmcmjaikhaaDoorLt2
import Derived.Test.YtoopcmcmjaikhaaDoorTie
import Derived.Test.YtoopcmcmjaikhaaDoorCards
import Derived.ProofKit
import Derived.OpenShut
import Derived.LaidMore
import Derived.Lay
import Derived.Stop.Joined
import Derived.Deep.DeepHandedRow
import Derived.BigQuiet
import Derived.Deep.LoopGhost
import Derived.ShutString
import Derived.ChangeOld
import Derived.Below
import Derived.SevenTiedAt
set_option linter.unusedVariables false
set_option linter.unusedSimpArgs false
namespace Go.Proofs.YtoopcmcmjaikhaaDoor.filterItems
open Go.ChangeShapes Go.WideShapes Go.ChangeAt Go.RowKit Go.Lib Go.Sort Go.Proofs.YtoopcmcmjaikhaaDoor

set_option maxRecDepth 100000
/-- A block of noughts, of no transactions. -/
def wit0 : Value := .agg (arr 69 (bc (hr fun _ => 0) (.slice none 0 0)))
theorem own : ownKnob Tryd.prog.godebug = none := by kernel_rfl
theorem mem_none {w0 w : World} (h : Below w0.heap.size w0 w) : Mem w0 [] w := ⟨h, fun _ h => (by cases h), List.nodup_nil, fun _ h => by cases h⟩
theorem outsR_len (os : List TOut) : (outsR os).length ≤ os.length := by
  unfold outsR
  exact Nat.le_trans (List.filter_sublist.length_le) (by simp)
theorem outsP_len (os : List TOut) : (outsP os).length ≤ os.length := by
  unfold outsP
  exact Nat.le_trans (List.filter_sublist.length_le) (by simp)
theorem itemsR_len : ∀ ts : List TTx, (itemsR ts).length ≤ (ts.map fun t => t.outs.length).sum
  | [] => by simp [itemsR]
  | t :: ts => by
    have h := itemsR_len ts
    have h2 := outsR_len t.outs
    have e : itemsR (t :: ts) = outsR t.outs ++ itemsR ts := by unfold itemsR; simp
    rw [e, List.length_append, List.map_cons, List.sum_cons]
    omega
theorem itemsP_len : ∀ ts : List TTx, (itemsP ts).length ≤ (ts.map fun t => t.outs.length).sum
  | [] => by simp [itemsP]
  | t :: ts => by
    have h := itemsP_len ts
    have h2 := outsP_len t.outs
    have e : itemsP (t :: ts) = outsP t.outs ++ itemsP ts := by unfold itemsP; simp
    rw [e, List.length_append, List.map_cons, List.sum_cons]
    omega
theorem ld_blk {W w : World} {b T : Nat} {V : Nat → Value} (hh : W.heap[b]? = some (.cells (arr 69 V) T (0, 0))) (hb : Below W.heap.size W w) : (Instr.loadAt 42 (.pointer (some ⟨b, 0, none⟩))).run Tryd.prog w = .ok (.agg (arr 69 V)) w := by
  have h2 : w.heap[b]? = some (.cells (arr 69 V) T (0, 0)) := (hb.block b (heap_lt hh)).trans hh
  have := run_loadAt_mid (P := Tryd.prog) w b 0 42 (arr 69 V).toList _ (range_all h2) blk_is rfl (by rw [Array.length_toList, arr_size]; kernel_rfl)
  simpa using this
theorem open_texts_upto {H : Type} {enc : TypeId × Value → H} {W : World} {base : Nat} {v : Value} {d : DataW H} {p : List MemPlace} {ts : List TypeId} {ds : List (DataW H)} {j : Nat} {b0 : Nat}
    (hv : Value.okWide Tryd.prog W .any b0 30 v) (hd : DataW.Trod enc Tryd.prog W base (fun _ => true) true 30 v d p)
    (hsz : (DataW.weightsEach Tryd.prog ts ds).all (· ≤ reachBytes) = true) (hts : ts[j]? = some 30) (hds : ds[j]? = some d) : ∃ t, TextsAt W v t ∧ t.length ≤ Rows.uptoBulk d := by
  obtain ⟨a, len, cap, rfl⟩ := okWide_slice Tryd.underlying30 hv
  obtain ⟨fuel, hf⟩ := hd
  obtain ⟨v, l, hcs, p, g, o, c, V, hv, hb, R, hi, hs⟩ := open_rowsM (S := 30) (T := 32) (k := 1) (bytes := 24) (fun V t => TextAt W (V 0) t) (fun _ => 1) [] Tryd.underlying30 (by kernel_rfl) (by omega) (by kernel_rfl)
    (fun V a h j hj => by obtain rfl : j = 0 := by omega
                          exact h.one)
    (fun fuel cs x h hl => by
      obtain ⟨v, t, rfl, ht⟩ := open_text' h hl
      exact ⟨rfl, t, ht, bulk_one _⟩)
    (fun V U a h e => by rw [← e 0 (by omega)]; exact h) hf (light_of hsz hts hds)
  rw [sum_one] at hs
  have e : [Value.slice a len cap] = [v] := by simpa [Value.cells] using hcs
  injection e with e
  refine ⟨l, ?_, hs⟩
  rw [e]
  exact ⟨p, g, o, c, V, hv, hb, R, fun i h => by
    have h1 : TextAt W (V (i * 1 + 0)) l[i] := hi i h
    rwa [Nat.mul_one, Nat.add_zero] at h1⟩
set_option maxHeartbeats 16000000 in
theorem walk (W : World) (hL : laidMetH Tryd.prog sipLaid W) (v0 : Value) (b : TBlk) (w0 : BlkAt W v0 b) (m0 : (b.txs.map fun t => t.outs.length).sum ≤ 1048576) (v1 : Value) (sp : List (List Nat)) (w1 : TextsAt W v1 sp) (m1 : sp.length ≤ 1048576) :
    Calls Tryd.prog 5 #[v0, v1] W fun e w' => e = .returned (.bool true) ∧ Below W.heap.size W w' := by
  obtain ⟨V, rfl, A0⟩ := w0
  have A := Lib.hid A0
  have S := Lib.hid w1
  have E := Lib.hid (Mem.nil W)
  have LR := Lib.hid (show (itemsR b.txs).length + sp.length ≤ 4000000 by have := itemsR_len b.txs; omega)
  have LP := Lib.hid (show (itemsP b.txs).length + sp.length ≤ 4000000 by have := itemsP_len b.txs; omega)
  have OI := once_items b.txs sp
  clear A0 hL w1 m0 m1
  go_enter Tryd.func5, Tryd.ntmps5
  go_upto_region 2 with (first
    | ((with_reducible refine wpList_at 2 rfl ?_); refine mem_box E 42 rfl (.tmp 0) rfl rfl (arr_cells' 69 V) ?_; clear E; intro b1 w1 E)
    | ((with_reducible refine wpList_at 8 rfl ?_); refine mem_load_row E 42 rfl (.tmp 2) rfl rfl List.mem_cons_self blk_is rfl (by simp only [arr_size]; kernel_rfl) ?_)
    | (go_at_call 18; refine (bcopy_any (Lib.hid (A.out.below E.out.below))).mono ?_; rintro e w2 ⟨BO, V', rfl, O, hb⟩; replace E := Lib.hid (E.out.call hb); have OO := Lib.hid O; clear hb O)
    | ((with_reducible refine wpList_at 5 rfl ?_); refine mem_allocb E 42 rfl rfl infoBlk0 ?_; clear E; intro b3 w3 E hb3; simp only [arr_cells'] at E; replace OO := Lib.hid (OO.out.below hb3.out); clear hb3)
    | ((with_reducible refine wpList_ndI rfl ?_); refine mem_store_rowk 0 E 42 rfl (.tmp 5) (.tmp 9) rfl rfl rfl rfl (by kernel_rfl) (by simp only [arr_size]) (all_k (blk_ones OO.out.at)) ?_; clear E; intro w4 E KT; replace OO := Lib.hid (OO.out.keep KT.out); simp only [List.set_cons_zero, List.set_cons_succ] at E))
  have OO := Lib.hid OO.out.at
  have H1 := Lib.hid (E.out.get (List.mem_cons_of_mem _ List.mem_cons_self))
  have H3 := Lib.hid (E.out.get List.mem_cons_self)
  have BW := Lib.hid E.out.below
  replace A := Lib.hid (A.out.below E.out.below)
  replace S := Lib.hid (S.out.below E.out.below)
  clear E
  have E := Lib.hid (Mem.nil w4)
  have CI := Lib.hid (show Calls Tryd.prog 19 #[.agg (arr 69 V'), v1] w4 fun e w' => (∃ v', e = .returned v' ∧ TextsOwn w4.heap.size w' v' (onceL (itemsR b.txs ++ sp))) ∧ Below w4.heap.size w4 w' from by
    rw [← OI]
    exact fitems_any OO S LP.out)
  have CR := Lib.hid (show ∀ w, Below w4.heap.size w4 w → Calls Tryd.prog 20 #[.agg (arr 69 V), v1] w fun e w' => (∃ v', e = .returned v' ∧ TextsOwn w.heap.size w' v' (onceL (itemsR b.txs ++ sp))) ∧ Below w.heap.size w w' from fun w hb => rfitems_any (Lib.hid (A.out.below hb)) (Lib.hid (S.out.below hb)) LR.out)
  have CB := Lib.hid (show ∀ w, Below w4.heap.size w4 w → Calls Tryd.prog 22 #[.agg (arr 69 V'), .agg (arr 69 V)] w fun e w' => e = .returned (.bool true) ∧ Below w.heap.size w w' from fun w hb => same_blk (Lib.hid (OO.out.below hb)) (Lib.hid (A.out.below hb)))
  clear OI
  go_wp2_with (first
    | ((with_reducible refine wpList_at 10 rfl ?_); refine wpList_ld 42 (.tmp 5) rfl rfl rfl (ld_blk H3.out E.out.below) ?_)
    | (go_at_call 19; with_reducible refine CI.out.mono ?_; rintro e w5 ⟨⟨v5, rfl, hT⟩, hb⟩; have TI := Lib.hid hT; replace E := Lib.hid (E.out.call hb); clear hT hb)
    | ((with_reducible refine wpList_at 14 rfl ?_); refine wpList_ld 42 (.tmp 2) rfl rfl rfl (ld_blk H1.out E.out.below) ?_)
    | (go_at_call 20; with_reducible refine (CR.out _ E.out.below).mono ?_; rintro e w6 ⟨⟨v6, rfl, hT⟩, hb⟩; have TR := Lib.hid hT; replace TI := Lib.hid (TI.out.below hb); replace E := Lib.hid (E.out.call hb); clear hT hb)
    | (go_at_call 16; refine (same_texts (Lib.hid TI.out.at) (Lib.hid TR.out.at)).mono ?_; rintro e w7 ⟨rfl, hb⟩; replace TI := Lib.hid (TI.out.below hb); replace E := Lib.hid (E.out.call hb); clear hb TR)
    | (go_at_call 21; refine (spoil_any TI).mono ?_; rintro e w8 ⟨rfl, hs⟩; replace E := Lib.hid (mem_none (E.out.below.trans hs.below)); clear hs TI)
    | ((with_reducible refine wpList_at 22 rfl ?_); refine wpList_ld 42 (.tmp 5) rfl rfl rfl (ld_blk H3.out E.out.below) ?_)
    | ((with_reducible refine wpList_at 23 rfl ?_); refine wpList_ld 42 (.tmp 2) rfl rfl rfl (ld_blk H1.out E.out.below) ?_)
    | (go_at_call 22; with_reducible refine (CB.out _ E.out.below).mono ?_; rintro e w9 ⟨rfl, hb⟩; replace E := Lib.hid (E.out.call hb); clear hb)
    | (go_at_call 17; refine (awake12_any _).mono ?_; rintro e w10 ⟨rfl, hb⟩; replace E := Lib.hid (E.out.call hb); clear hb))
  go_ret
  exact ⟨rfl, BW.out.trans (E.out.below.mono BW.out.size)⟩

theorem contract (H : Type) (enc : TypeId × Value → H) (W : World) (base : Nat) (args : Array Value) (ds gs : List (DataW H)) (before : List MemPlace)
    (hval0 : ∀ (j : Nat) t v, Tryd.f5.params[j]? = some t → args[j]? = some v → Value.okWide Tryd.prog W .any base t v)
    (hW : DataW.Whole enc Tryd.prog Tryd.f5.params.toList Rows.filterItemsSpec.vars false W args.toList ds gs before) (hk : Rows.uptoSmall H (ds ++ gs) = true)
    (hsz0 : (DataW.weightsEach Tryd.prog (Tryd.f5.params.toList ++ Rows.filterItemsSpec.plain.varTypes Tryd.prog) (ds ++ gs)).all (· ≤ reachBytes) = true) (hL : laidMetH Tryd.prog sipLaid W) :
    Calls Tryd.prog 5 args W fun e W' => ∃ v, e = .returned v ∧ Rows.filterItemsSpec.post enc Tryd.prog Tryd.f5 false true false false W args v W' := by
  have hval : ∀ (j : Nat) t v, Tryd.f5.params[j]? = some t → args[j]? = some v → Value.okWide Tryd.prog W .any base t v := hval0
  have hsz := hsz0
  have hW' := hW
  obtain ⟨p, q, hA0, hV, rfl, hfz, hnd⟩ := hW
  have hA : DataW.TrodAll enc Tryd.prog W 0 (fun _ => true) true Tryd.f5.params.toList args.toList ds p := hA0
  rw [Tryd.params5] at hA hval hsz
  obtain ⟨v0, vs0, d0, ds0, p0, q0, hargs, rfl, rfl, h0, r0⟩ := trodAll_cons hA
  obtain ⟨v1, vs1, d1, ds1, p1, q1, rfl, rfl, rfl, h1, r1⟩ := trodAll_cons r0
  obtain ⟨rfl, rfl, rfl⟩ := trodAll_nil r1
  obtain rfl : args = #[v0, v1] := by cases args; simp_all
  obtain ⟨rfl, rfl⟩ := trodVars_none hV
  have hb : Rows.uptoBulkAll ([d0, d1] ++ []) ≤ 1048576 := by simpa [Rows.uptoSmall] using hk
  have hb0 : Rows.uptoBulk d0 ≤ 1048576 := Nat.le_trans (bulk_part (by simp)) hb
  have hb1 : Rows.uptoBulk d1 ≤ 1048576 := Nat.le_trans (bulk_part (by simp)) hb
  have k0 := h0
  have lt0 : ∀ x ∈ p0, x.block < W.heap.size := by obtain ⟨m, hm⟩ := k0; exact DataW.trod_lt m _ _ _ hm
  have k1 := h1
  have lt1 : ∀ x ∈ p1, x.block < W.heap.size := by obtain ⟨m, hm⟩ := k1; exact DataW.trod_lt m _ _ _ hm
  obtain ⟨t0, w0, m0⟩ := open_blkM (j := 0) (hval 0 42 v0 rfl rfl) h0 hsz rfl rfl
  obtain ⟨t1, w1, m1⟩ := open_texts_upto (j := 1) (hval 1 30 v1 rfl rfl) h1 hsz rfl rfl
  clear hA0 hval0 hsz0
  simp only [List.append_nil] at hW'
  refine (walk W hL v0 t0 w0 (Nat.le_trans m0 hb0) v1 t1 w1 (Nat.le_trans m1 hb1)).mono fun e W' ⟨he, bel⟩ => ?_
  subst he
  exact ⟨_, rfl, _, _, _, [], _, [], hW', trodAll_mk1 (shut_bool Tryd.underlying4 _), (trodAll_cons_mk (Below.trod laidOut (by kernel_rfl) (of_decide_eq_true (by kernel_rfl)) k0 bel lt0) (trodAll_cons_mk (Below.trod laidOut (by kernel_rfl) (of_decide_eq_true (by kernel_rfl)) k1 bel lt1) trodAll_mk0)), rfl, bel.frame _, fun h => by cases h⟩

theorem witness_row_sh {H : Type} {enc : TypeId × Value → H} {C : Checked} {os : Os} {f : FuncId} {fn : Func} {s : OpenSpec} {conds : List PathCond} {apart : Bool} {laid : List (String × DataW Unit)} (modest : Bool) (w0 : World) (args : Array Value) (hos : w0.os = os)
    (hsh : (w0.forCall (fun _ _ => 0) ⟨#[], args, []⟩).Shaped C.prog) (hok : Input.okWideB C.prog (w0.forCall (fun _ _ => 0) ⟨#[], args, []⟩) f ⟨#[], args, []⟩ = true)
    (hrow : s.preRow enc C.prog fn conds apart laid (w0.forCall (fun _ _ => 0) ⟨#[], args, []⟩).memory args) :
    ∃ (w : World) (tape : Tape) (i : Input), w.os = os ∧ (w.forCall tape i).Shaped C.prog ∧ i.vars = [] ∧ Input.okWide C.prog (w.forCall tape i) .any w.heap.size f i ∧
      s.preRow enc C.prog fn conds apart laid (w.forCall tape i).memory i.args ∧ ({ modest := modest } : Assume).holds C.prog (lone (Frame.enter C.prog f i.args .normal) [] (w.forCall tape i)) :=
  ⟨w0, fun _ _ => 0, ⟨#[], args, []⟩, hos, hsh, (Input.okWide_of_okWideB (base := 0) hok).1, (Input.okWide_of_okWideB hok).2, hrow, by
    simp only [Assume.holds]
    exact ⟨by simp, by simp, fun _ => Modest.zero, by simp, by simp⟩⟩

theorem reads (os : Os) {H : Type} (enc : TypeId × Value → H) : ∃ places, DataW.whole enc Tryd.prog ((World.laidAll Tryd.prog os sipLaid).forCall (fun _ _ => 0) ⟨#[], #[wit0, .slice none 0 0], []⟩).memory Tryd.f5.params.toList Rows.filterItemsSpec.vars false #[wit0, .slice none 0 0].toList 8 = some ([.agg [.agg [.lit (.int .u32 0), .agg [.lit (.int .u8 0), .lit (.int .u8 0), .lit (.int .u8 0), .lit (.int .u8 0), .lit (.int .u8 0), .lit (.int .u8 0), .lit (.int .u8 0), .lit (.int .u8 0), .lit (.int .u8 0), .lit (.int .u8 0), .lit (.int .u8 0), .lit (.int .u8 0), .lit (.int .u8 0), .lit (.int .u8 0), .lit (.int .u8 0), .lit (.int .u8 0), .lit (.int .u8 0), .lit (.int .u8 0), .lit (.int .u8 0), .lit (.int .u8 0), .lit (.int .u8 0), .lit (.int .u8 0), .lit (.int .u8 0), .lit (.int .u8 0), .lit (.int .u8 0), .lit (.int .u8 0), .lit (.int .u8 0), .lit (.int .u8 0), .lit (.int .u8 0), .lit (.int .u8 0), .lit (.int .u8 0), .lit (.int .u8 0)], .agg [.lit (.int .u8 0), .lit (.int .u8 0), .lit (.int .u8 0), .lit (.int .u8 0), .lit (.int .u8 0), .lit (.int .u8 0), .lit (.int .u8 0), .lit (.int .u8 0), .lit (.int .u8 0), .lit (.int .u8 0), .lit (.int .u8 0), .lit (.int .u8 0), .lit (.int .u8 0), .lit (.int .u8 0), .lit (.int .u8 0), .lit (.int .u8 0), .lit (.int .u8 0), .lit (.int .u8 0), .lit (.int .u8 0), .lit (.int .u8 0), .lit (.int .u8 0), .lit (.int .u8 0), .lit (.int .u8 0), .lit (.int .u8 0), .lit (.int .u8 0), .lit (.int .u8 0), .lit (.int .u8 0), .lit (.int .u8 0), .lit (.int .u8 0), .lit (.int .u8 0), .lit (.int .u8 0), .lit (.int .u8 0)], .lit (.int .u32 0), .lit (.int .u32 0), .lit (.int .u32 0)], .nil], .nil], [], places) :=
  ⟨[], by kernel_rfl⟩

set_option maxRecDepth 100000 in
theorem lifted (os : Os) (started : os.Started) (H : Type) (enc : TypeId × Value → H) (F : Stop.Interp) :
    ReturnsInHanded {} Tryd.checked os 5 .any ((Rows.OpenSpec.upto Rows.filterItemsSpec).preRow enc Tryd.prog Tryd.f5 Rows.filterItemsUptoRow.domain false Rows.filterItemsUptoRow.laid) (((Rows.OpenSpec.upto Rows.filterItemsSpec).at F).post enc Tryd.prog Tryd.f5 false true false false) := by
  obtain ⟨places, hx⟩ := reads os enc
  refine returnsInHanded_of_row (C := Tryd.checked) (s := Rows.OpenSpec.upto Rows.filterItemsSpec) own started (by kernel_rfl) Tryd.func5
    (witness_row_sh (enc := enc) (C := Tryd.checked) false (World.laidAll Tryd.prog os sipLaid) #[wit0, .slice none 0 0] (World.laidAll_os _ _ _) (World.shaped_of_ZipB (by kernel_rfl) (by kernel_rfl)) (by kernel_rfl)
      (OpenSpec.preRow_of_cond 8 hx (by kernel_rfl) (fun k hk => by cases hk; kernel_rfl) (by kernel_rfl) (by rw [MakeChecks.laidMetH_plain _ _ _ (by kernel_rfl)]; exact laidMet_laidAll _ (by kernel_rfl) (by kernel_rfl)))) ?_
  intro W base args ds gs before hval hW _ hcond hsz hL _ _
  exact contract H enc W base args ds gs before hval hW (hcond _ rfl) hsz hL

theorem over : Rows.FilterItemsUptoSaid :=
  OpenClaim.holds_of_cond 5 Tryd.f5 rfl rfl rfl rfl rfl rfl rfl ⟨rfl, rfl, rfl, rfl, rfl⟩ rfl rfl rfl rfl rfl (by kernel_rfl) Tryd.func5 (by kernel_rfl)
    (of_decide_eq_true (by kernel_rfl)) (by unfold Func.isWrapper; first | (rw [if_pos (by decide +kernel)]; kernel_rfl) | (rw [if_neg (by decide +kernel)]; exact ⟨rfl, rfl⟩))
    (fun os started H enc _ F => by rw [OpenClaim.pre_eq_preRow]; exact lifted os started H enc F)

/-- The tied card. -/
theorem card_holds : Rows.FilterItemsUptoCardSaid :=
  Claim7.holds_tied_plain_at .later [] [.data] true (true, "0199c94cb409754160ff1d9dd08a3fca2d5985d0812adfda39cfc780a5302024") false
    over (fun _ h => by cases h) (by kernel_rfl) (fun _ h => by cases h) filterItemsUpto_row_tie rfl ⟨rfl, rfl⟩ (by kernel_rfl) rfl
    (fun f fn hf hfn => by
      obtain rfl : f = 5 := Option.some.inj ((show Tryd.prog.funcNamed "sporran/sporranlaw12.FilterItems" = some 5 by kernel_rfl).symm.trans hf) |>.symm
      obtain rfl : fn = Tryd.f5 := (Option.some.inj (Tryd.func5.symm.trans hfn)).symm
      exact ⟨by kernel_rfl, fun j t ht => by
        rw [Tryd.params5] at ht
        have hm : t ∈ [42, 30] := by simpa using Array.mem_of_getElem? ht
        have hall : ([42, 30].all fun u => !Tryd.prog.wantsStandIn u) = true := by kernel_rfl
        exact (show Tryd.prog.wantsStandIn t = false by simpa using List.all_eq_true.1 hall t hm)⟩)
    (by kernel_rfl)
#print axioms card_holds
end Go.Proofs.YtoopcmcmjaikhaaDoor.filterItems
