/- For every block (its list of transactions nil or not, anything in them): the message of the block's bytes says the command 'block' and just these bytes, and the error where they can't be written; the call returns true. The table of messages' layouts is laid as the card ties it. No other condition. -/
import Derived.Test.YtfjpjhhkafkepaaDoorMb
import Derived.Test.YtfjpjhhkafkepaaDoorTie
import Derived.Test.YtfjpjhhkafkepaaDoorCards
import Derived.ShutString
import Derived.ChangeOld
import Derived.Below
import Derived.SevenTiedAt
set_option linter.unusedVariables false
set_option linter.unusedSimpArgs false
namespace Go.Proofs.YtfjpjhhkafkepaaDoor.messageBlocks
open Go.ChangeShapes Go.WideShapes Go.ChangeAt Go.RowKit Go.Lib Go.Sort Go.Proofs.YtfjpjhhkafkepaaDoor

set_option maxRecDepth 100000
theorem own : ownKnob Tryd.prog.godebug = none := by kernel_rfl
theorem exec_eqE {o : Oper} {ev : Operand → Value} {W : World} {x y : Operand} {a : Int} (ho : o.op = .binOp .eql 33 x y 33) (hx : ev x = .int .i64 a) (hy : ev y = .int .i64 a) : (execOp ev o).run Tryd.prog W = .ok (.value (.bool true)) W := by
  unfold execOp
  simp [ho, hx, hy, go_sem, Tryd.underlying33]
theorem bres_bad {t : TBlk} (h : ¬ (bres t).1 = 0) : (bres t).2 = [] := by
  unfold bres at h ⊢
  split
  · rfl
  · rename_i h1
    rw [if_neg h1] at h
    split
    · rfl
    · rename_i h2
      rw [if_neg h2] at h
      exact absurd rfl h
/-- The frame and the error. -/
def FEnd (W : World) (s : ByteArray) (n : Nat) (xs : List Nat) (er : Int) (e : Ending) (w' : World) : Prop := ∃ p g c, e = .returned (.tuple #[.agg (arr 2 (fV s (.slice p n c))), .int .i64 er]) ∧ Own W.heap.size w' p g n c (lf xs) ∧ Below W.heap.size W w'
def REnd (W : World) (n : Nat) (xs : List Nat) (er : Int) (e : Ending) (w' : World) : Prop := ∃ p g c, e = .returned (.tuple #[.slice p n c, .int .i64 er]) ∧ Own W.heap.size w' p g n c (lf xs) ∧ Below W.heap.size W w'
set_option maxHeartbeats 8000000 in
theorem walk_good {W : World} {V : Nat → Value} {n : Nat} {xs : List Nat} (L : Hid (MLaid W)) (CM : Hid (∀ w, Below W.heap.size W w → Calls Tryd.prog 4 #[.agg (arr 139 (msgV 12 V))] w (FEnd w (mcom 12) n xs 0))) (CR : Hid (∀ w, Below W.heap.size W w → Calls Tryd.prog 5 #[.agg (arr 69 V)] w (REnd w n xs 0))) :
    Calls Tryd.prog 3 #[.agg (arr 69 V)] W fun e w' => e = .returned (.bool true) ∧ Below W.heap.size W w' := by
  have E := Lib.hid (Mem.nil W)
  go_enter Tryd.func3, Tryd.ntmps3
  go_wp2_with (first
    | ((with_reducible refine wpList_at 1 rfl ?_); refine mem_box E 29 rfl (.tmp 0) rfl rfl (arr_cells' 69 V) ?_; clear E; intro b1 w1 E)
    | ((with_reducible refine wpList_at 8 rfl ?_); refine mem_load_row E 29 rfl (.tmp 1) rfl rfl List.mem_cons_self Tryd.underlying29 rfl (by rw [arr_size]; kernel_rfl) ?_)
    | ((with_reducible refine wpList_at 9 rfl ?_); refine wpList_bld 40 _ rfl rfl (ps := #[(0, .int .i64 12), (8, .agg (arr 69 V))]) (by kernel_rfl) (built_msgb V) ?_)
    | (go_at_call 4; refine (CM.out _ E.out.below).mono ?_; rintro e w3 ⟨p3, g3, c3, rfl, N3x, hb⟩; have N3 := Lib.hid (N3x.mono E.out.below.size); replace E := Lib.hid (E.out.call hb); clear hb N3x)
    | ((with_reducible refine wpList_at 3 rfl ?_); refine mem_allocb E 32 rfl rfl infoFV ?_; clear E; intro b3 w4 E hb4; simp only [arr_cells'] at E; replace N3 := Lib.hid (N3.out.below hb4.out); clear hb4)
    | ((with_reducible refine wpList_atn rfl ?_); refine mem_store_rowk 0 E 32 rfl (.tmp 3) (.tmp 11) rfl rfl rfl rfl (by kernel_rfl) (by simp only [arr_size]) (fV_one _ _ _ _) ?_; clear E; intro w5 E KT; simp only [List.set_cons_zero, List.set_cons_succ] at E; replace N3 := Lib.hid (own_keepK N3.out KT.out (by decide)); clear KT)
    | ((with_reducible refine wpList_at 14 rfl ?_); refine mem_load_row E 29 rfl (.tmp 1) rfl rfl (List.mem_cons_of_mem _ List.mem_cons_self) Tryd.underlying29 rfl (by rw [arr_size]; kernel_rfl) ?_)
    | (go_at_call 5; refine (CR.out _ E.out.below).mono ?_; rintro e w6 ⟨p6, g6, c6, rfl, N6, hb⟩; have R6 := Lib.hid N6.row; replace N3 := Lib.hid (N3.out.below hb); replace E := Lib.hid (E.out.call hb); have R3 := Lib.hid N3.out.row; clear hb N6)
    | ((with_reducible refine wpList_at 20 rfl ?_); refine wpList_kn rfl (.bool true) (by exact exec_eqE rfl rfl rfl) ?_)
    | ((with_reducible refine wpList_at 23 rfl ?_); refine mem_load_cell E 30 rfl (.tmp 22) rfl rfl List.mem_cons_self Tryd.underlying30 rfl (v := .slice p3 n c3) rfl ?_)
    | (go_at_call 6; refine (equal_any R3 R6 rfl (Lib.hid fun _ _ => rfl)).mono ?_; rintro e w7 ⟨rfl, rfl⟩)
    | ((with_reducible refine wpList_at 29 rfl ?_); refine wpList_kn rfl (.bool false) (by exact exec_neqE rfl rfl rfl (by decide)) ?_)
    | ((with_reducible refine wpList_at 32 rfl ?_); refine mem_load_cell E 9 rfl (.tmp 31) rfl rfl List.mem_cons_self Tryd.underlying9 rfl (v := .string (mcom 12)) rfl ?_)
    | ((with_reducible refine wpList_at 33 rfl ?_); refine wpList_kn rfl (.bool true) (by exact exec_eqlS rfl rfl rfl (by decide)) ?_)
    | (go_at_call 7; refine (awake10_any (Lib.hid (L.out.below E.out.below))).mono ?_; rintro e w8 ⟨rfl, hb⟩; replace E := Lib.hid (E.out.call hb); clear hb))
  go_ret
  exact ⟨rfl, E.out.below⟩
set_option maxHeartbeats 8000000 in
theorem walk_bad {W : World} {V : Nat → Value} {n : Nat} {xs : List Nat} {er : Int} (L : Hid (MLaid W)) (CM : Hid (∀ w, Below W.heap.size W w → Calls Tryd.prog 4 #[.agg (arr 139 (msgV 12 V))] w (FEnd w ⟨#[]⟩ n xs er))) (CR : Hid (∀ w, Below W.heap.size W w → Calls Tryd.prog 5 #[.agg (arr 69 V)] w (REnd w n xs er))) (HE : Hid (decide (er = 0) = !true)) :
    Calls Tryd.prog 3 #[.agg (arr 69 V)] W fun e w' => e = .returned (.bool true) ∧ Below W.heap.size W w' := by
  have E := Lib.hid (Mem.nil W)
  go_enter Tryd.func3, Tryd.ntmps3
  go_wp2_with (first
    | ((with_reducible refine wpList_at 1 rfl ?_); refine mem_box E 29 rfl (.tmp 0) rfl rfl (arr_cells' 69 V) ?_; clear E; intro b1 w1 E)
    | ((with_reducible refine wpList_at 8 rfl ?_); refine mem_load_row E 29 rfl (.tmp 1) rfl rfl List.mem_cons_self Tryd.underlying29 rfl (by rw [arr_size]; kernel_rfl) ?_)
    | ((with_reducible refine wpList_at 9 rfl ?_); refine wpList_bld 40 _ rfl rfl (ps := #[(0, .int .i64 12), (8, .agg (arr 69 V))]) (by kernel_rfl) (built_msgb V) ?_)
    | (go_at_call 4; refine (CM.out _ E.out.below).mono ?_; rintro e w3 ⟨p3, g3, c3, rfl, N3x, hb⟩; have N3 := Lib.hid (N3x.mono E.out.below.size); replace E := Lib.hid (E.out.call hb); clear hb N3x)
    | ((with_reducible refine wpList_at 3 rfl ?_); refine mem_allocb E 32 rfl rfl infoFV ?_; clear E; intro b3 w4 E hb4; simp only [arr_cells'] at E; replace N3 := Lib.hid (N3.out.below hb4.out); clear hb4)
    | ((with_reducible refine wpList_atn rfl ?_); refine mem_store_rowk 0 E 32 rfl (.tmp 3) (.tmp 11) rfl rfl rfl rfl (by kernel_rfl) (by simp only [arr_size]) (fV_one _ _ _ _) ?_; clear E; intro w5 E KT; simp only [List.set_cons_zero, List.set_cons_succ] at E; replace N3 := Lib.hid (own_keepK N3.out KT.out (by decide)); clear KT)
    | ((with_reducible refine wpList_at 14 rfl ?_); refine mem_load_row E 29 rfl (.tmp 1) rfl rfl (List.mem_cons_of_mem _ List.mem_cons_self) Tryd.underlying29 rfl (by rw [arr_size]; kernel_rfl) ?_)
    | (go_at_call 5; refine (CR.out _ E.out.below).mono ?_; rintro e w6 ⟨p6, g6, c6, rfl, N6, hb⟩; have R6 := Lib.hid N6.row; replace N3 := Lib.hid (N3.out.below hb); replace E := Lib.hid (E.out.call hb); have R3 := Lib.hid N3.out.row; clear hb N6)
    | ((with_reducible refine wpList_at 20 rfl ?_); refine wpList_kn rfl (.bool true) (by exact exec_eqE rfl rfl rfl) ?_)
    | ((with_reducible refine wpList_at 23 rfl ?_); refine mem_load_cell E 30 rfl (.tmp 22) rfl rfl List.mem_cons_self Tryd.underlying30 rfl (v := .slice p3 n c3) rfl ?_)
    | (go_at_call 6; refine (equal_any R3 R6 rfl (Lib.hid fun _ _ => rfl)).mono ?_; rintro e w7 ⟨rfl, rfl⟩)
    | ((with_reducible refine wpList_at 29 rfl ?_); refine wpList_kn rfl (.bool true) (by exact exec_neqE rfl rfl rfl HE.out) ?_)
    | (go_at_call 7; refine (awake10_any (Lib.hid (L.out.below E.out.below))).mono ?_; rintro e w8 ⟨rfl, hb⟩; replace E := Lib.hid (E.out.call hb); clear hb))
  go_ret
  exact ⟨rfl, E.out.below⟩
theorem walk (W : World) (hL : laidMetH Tryd.prog mlLaid W) (v0 : Value) (t0 : TBlk) (w0 : BlkAt W v0 t0) : Calls Tryd.prog 3 #[v0] W fun e w' => e = .returned (.bool true) ∧ Below W.heap.size W w' := by
  have w1 := w0
  obtain ⟨V, rfl, A⟩ := w0
  have L := Lib.hid (of_ml hL)
  by_cases h : (bres t0).1 = 0
  · refine walk_good (n := (bres t0).2.length) (xs := (bres t0).2) L (Lib.hid fun w hb => (menc_any (Lib.hid (w1.below hb)) (Lib.hid (L.out.below hb))).mono ?_) (Lib.hid fun w hb => (rbenc_res (Lib.hid (w1.below hb))).mono ?_)
    · rintro e w' ⟨p, g, c, he, N, hb'⟩
      unfold fres at he
      rw [h, if_pos rfl] at he
      exact ⟨p, g, c, he, N, hb'⟩
    · rintro e w' ⟨p, g, c, he, N, hb'⟩
      rw [h] at he
      exact ⟨p, g, c, he, N, hb'⟩
  · have hz := bres_bad h
    refine walk_bad (n := 0) (xs := []) (er := (bres t0).1) L (Lib.hid fun w hb => (menc_any (Lib.hid (w1.below hb)) (Lib.hid (L.out.below hb))).mono ?_) (Lib.hid fun w hb => (rbenc_res (Lib.hid (w1.below hb))).mono ?_) (Lib.hid (decide_eq_false h))
    · rintro e w' ⟨p, g, c, he, N, hb'⟩
      unfold fres at he
      rw [if_neg h] at he
      exact ⟨none, 0, 0, he, own_nothing _ _ _ (lf_lt isB_nil) hb'.size, hb'⟩
    · rintro e w' ⟨p, g, c, he, N, hb'⟩
      rw [hz] at he N
      exact ⟨p, g, c, he, N, hb'⟩

set_option maxRecDepth 100000 in
theorem lifted (os : Os) (started : os.Started) (H : Type) (enc : TypeId × Value → H) :
    ReturnsInHanded {} Tryd.checked os 3 .any (fun w args => (Rows.messageBlocksSpec.pre enc Tryd.prog Tryd.f3 [] false w args ∧ laidMetH Tryd.prog mlLaid w) ∧ sizedMet enc Tryd.prog Tryd.f3 (OpenSpec.ofChange Rows.messageBlocksSpec) false w args)
      (Rows.messageBlocksSpec.post enc Tryd.prog Tryd.f3 false true false false) := by
  refine returnsInHanded_of_change_and (C := Tryd.checked) (X := fun w _ => laidMetH Tryd.prog mlLaid w) (fun _ _ _ hh h => h.of_heap hh) own started (by kernel_rfl) Tryd.func3
    (ChangeSpec.witness_shaped (enc := enc) (C := Tryd.checked) (os := os) (X := fun w _ => laidMetH Tryd.prog mlLaid w) false (World.laidAll Tryd.prog os mlLaid) #[.agg #[.int .u32 0, .int .u8 0, .int .u8 0, .int .u8 0, .int .u8 0, .int .u8 0, .int .u8 0, .int .u8 0, .int .u8 0, .int .u8 0, .int .u8 0, .int .u8 0, .int .u8 0, .int .u8 0, .int .u8 0, .int .u8 0, .int .u8 0, .int .u8 0, .int .u8 0, .int .u8 0, .int .u8 0, .int .u8 0, .int .u8 0, .int .u8 0, .int .u8 0, .int .u8 0, .int .u8 0, .int .u8 0, .int .u8 0, .int .u8 0, .int .u8 0, .int .u8 0, .int .u8 0, .int .u8 0, .int .u8 0, .int .u8 0, .int .u8 0, .int .u8 0, .int .u8 0, .int .u8 0, .int .u8 0, .int .u8 0, .int .u8 0, .int .u8 0, .int .u8 0, .int .u8 0, .int .u8 0, .int .u8 0, .int .u8 0, .int .u8 0, .int .u8 0, .int .u8 0, .int .u8 0, .int .u8 0, .int .u8 0, .int .u8 0, .int .u8 0, .int .u8 0, .int .u8 0, .int .u8 0, .int .u8 0, .int .u8 0, .int .u8 0, .int .u8 0, .int .u8 0, .int .u32 0, .int .u32 0, .int .u32 0, .slice none 0 0]] 8 (World.laidAll_os _ _ _)
      (World.shaped_of_ZipB (by kernel_rfl) (by kernel_rfl)) (by kernel_rfl) (by kernel_rfl) (by kernel_rfl)
      (by rw [MakeChecks.laidMetH_plain _ _ _ (by kernel_rfl)]; exact laidMet_laidAll _ (by kernel_rfl) (by kernel_rfl))) ?_
  intro W base args ds gs before hval0 hW _ hsz0 hL _
  have hval : ∀ (j : Nat) t v, Tryd.f3.params[j]? = some t → args[j]? = some v → Value.okWide Tryd.prog W .any base t v := hval0
  have hsz : (DataW.weightsEach Tryd.prog (Tryd.f3.params.toList ++ Rows.messageBlocksSpec.plain.varTypes Tryd.prog) (ds ++ gs)).all (· ≤ reachBytes) = true := hsz0
  have hW' := hW
  obtain ⟨p, q, hA0, hV, rfl, hfz, hnd⟩ := hW
  have hA : DataW.TrodAll enc Tryd.prog W 0 (fun _ => true) true Tryd.f3.params.toList args.toList ds p := hA0
  rw [Tryd.params3] at hA hval hsz
  obtain ⟨v0, vs0, d0, ds0, p0, q0, hargs, rfl, rfl, h0, r0⟩ := trodAll_cons hA
  obtain ⟨rfl, rfl, rfl⟩ := trodAll_nil r0
  obtain rfl : args = #[v0] := by cases args; simp_all
  obtain ⟨rfl, rfl⟩ := trodVars_none hV
  have k0 := h0
  have lt0 : ∀ x ∈ p0, x.block < W.heap.size := by obtain ⟨m, hm⟩ := k0; exact DataW.trod_lt m _ _ _ hm
  obtain ⟨t0, w0⟩ := open_blk (j := 0) (hval 0 29 v0 rfl rfl) h0 hsz rfl rfl
  clear hA0 hval0 hsz0
  simp only [List.append_nil] at hW'
  refine (walk W hL v0 t0 w0).mono fun e W' ⟨he, bel⟩ => ?_
  subst he
  exact ⟨_, rfl, _, _, _, [], _, [], hW', trodAll_mk1 (shut_bool Tryd.underlying4 _), (trodAll_cons_mk (Below.trod laidOut (by kernel_rfl) (of_decide_eq_true (by kernel_rfl)) k0 bel lt0) trodAll_mk0), rfl, bel.frame _, fun h => by cases h⟩

theorem over : Rows.MessageBlocksSaid :=
  OpenClaim.holds_of_wide 3 Tryd.f3 rfl rfl rfl rfl rfl rfl rfl ⟨rfl, rfl, rfl, rfl, rfl⟩ rfl rfl rfl rfl rfl (by kernel_rfl) Tryd.func3 (by kernel_rfl)
    (of_decide_eq_true (by kernel_rfl)) (by unfold Func.isWrapper; first | (rw [if_pos (by decide +kernel)]; kernel_rfl) | (rw [if_neg (by decide +kernel)]; exact ⟨rfl, rfl⟩))
    (fun os started H enc _ => lifted os started H enc)

/-- The tied card. -/
theorem card_holds : Rows.MessageBlocksCardSaid :=
  Claim7.holds_tied_plain_at .later [] [.data] true (true, "2c0d02d069dc5d0e928de76a91c9113a44ccd7a112db7b49f73e72d78642f070") true
    over (fun _ h => by cases h) (by kernel_rfl) (fun _ h => by cases h) messageBlocks_row_tie rfl ⟨rfl, rfl⟩ (by kernel_rfl) rfl
    (fun f fn hf hfn => by
      obtain rfl : f = 3 := Option.some.inj ((show Tryd.prog.funcNamed "sporran/sporranlaw10.MessageBlocks" = some 3 by kernel_rfl).symm.trans hf) |>.symm
      obtain rfl : fn = Tryd.f3 := (Option.some.inj (Tryd.func3.symm.trans hfn)).symm
      exact ⟨by kernel_rfl, fun j t ht => by
        rw [Tryd.params3] at ht
        have hm : t ∈ [29] := by simpa using Array.mem_of_getElem? ht
        have hall : ([29].all fun u => !Tryd.prog.wantsStandIn u) = true := by kernel_rfl
        exact (show Tryd.prog.wantsStandIn t = false by simpa using List.all_eq_true.1 hall t hm)⟩)
    (by kernel_rfl)
#print axioms card_holds
end Go.Proofs.YtfjpjhhkafkepaaDoor.messageBlocks
