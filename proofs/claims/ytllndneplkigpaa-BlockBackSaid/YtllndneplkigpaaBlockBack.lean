/- For every block (its list of transactions nil or not, anything in them): its bytes, read, say the block again, and both writers tell the same error where it can't be written; the call returns true. No condition. -/
import Derived.Test.YtllndneplkigpaaBg
import Derived.ShutString
import Derived.ChangeOld
import Derived.Below
import Derived.SizedLaws
set_option linter.unusedVariables false
set_option linter.unusedSimpArgs false
namespace Go.Proofs.Ytllndneplkigpaa.blockBack
open Go.ChangeShapes Go.WideShapes Go.ChangeAt Go.RowKit Go.Lib Go.Sort Go.Proofs.Ytllndneplkigpaa

set_option maxRecDepth 100000

/-- The error of a block that can't be written. -/
theorem benc_bad {t : TBlk} {er : Int} (h : (2000 < t.txs.length ∨ t.txs.any (fun x => !canB x) = true) ∧ er = 1 ∨ ¬ (2000 < t.txs.length ∨ t.txs.any (fun x => !canB x) = true) ∧ 200000 < (blkB t).length ∧ er = 91) {W w' : World} {e : Ending} (hb : BEnc W t e w') :
    e = .returned (.tuple #[.slice none 0 0, .int .i64 er]) ∧ Below W.heap.size W w' := by
  unfold BEnc at hb
  rcases h with ⟨h1, rfl⟩ | ⟨h1, h2, rfl⟩
  · rwa [if_pos h1] at hb
  · rwa [if_neg h1, if_pos h2] at hb
theorem benc_ok {t : TBlk} (h1 : ¬ (2000 < t.txs.length ∨ t.txs.any (fun x => !canB x) = true)) (h2 : ¬ 200000 < (blkB t).length) {W w' : World} {e : Ending} (hb : BEnc W t e w') :
    ∃ p g c, e = .returned (.tuple #[.slice p (blkB t).length c, .int .i64 0]) ∧ Own W.heap.size w' p g (blkB t).length c (lf (blkB t)) ∧ Below W.heap.size W w' := by
  unfold BEnc at hb
  rwa [if_neg h1, if_neg h2] at hb

set_option maxHeartbeats 4000000 in
theorem walk_bad {W : World} {V : Nat → Value} {t : TBlk} (A : Hid (BlkCells W V t)) {er : Int} (he : er ≠ 0) (h : (2000 < t.txs.length ∨ t.txs.any (fun x => !canB x) = true) ∧ er = 1 ∨ ¬ (2000 < t.txs.length ∨ t.txs.any (fun x => !canB x) = true) ∧ 200000 < (blkB t).length ∧ er = 91) :
    Calls Try.prog 6 #[.agg (arr 69 V)] W fun e w' => e = .returned (.bool true) ∧ Below W.heap.size W w' := by
  have E := Lib.hid (Mem.nil W)
  have AT : BlkAt W (.agg (arr 69 V)) t := ⟨V, rfl, A.out⟩
  have EN := Lib.hid (show ∀ w', Below W.heap.size W w' → Calls Try.prog 21 #[.agg (arr 69 V)] w' fun e w'' => e = .returned (.tuple #[.slice none 0 0, .int .i64 er]) ∧ Below w'.heap.size w' w'' from fun w' hb => (benc_any (Lib.hid (AT.below hb))).mono fun e w'' q => benc_bad h q)
  have RN := Lib.hid (show ∀ w', Below W.heap.size W w' → Calls Try.prog 22 #[.agg (arr 69 V)] w' fun e w'' => e = .returned (.tuple #[.slice none 0 0, .int .i64 er]) ∧ Below w'.heap.size w' w'' from fun w' hb => (rbenc_any (Lib.hid (AT.below hb))).mono fun e w'' q => benc_bad h q)
  have AW := Lib.hid awake8_any
  have c2 : (er == 0) = false := by simp; exact he
  have c3 : (er != 0) = true := by simp; exact he
  clear A AT h he
  go_enter Try.func6, Try.ntmps6
  go_wp2_with (first
    | ((with_reducible refine wpList_at 1 rfl ?_); refine mem_box E 41 rfl (.tmp 0) rfl rfl (arr_cells' 69 V) ?_; clear E; intro b1 w1 E)
    | ((with_reducible refine wpList_at 9 rfl ?_); refine mem_load_row E 41 rfl (.tmp 1) rfl rfl List.mem_cons_self blk_is rfl (by simp only [arr_size]; kernel_rfl) ?_)
    | ((with_reducible refine wpList_at 14 rfl ?_); refine mem_load_row E 41 rfl (.tmp 1) rfl rfl List.mem_cons_self blk_is rfl (by simp only [arr_size]; kernel_rfl) ?_)
    | (go_at_call 21; refine (EN.out _ E.out.below).mono ?_; rintro e w3 ⟨rfl, hb⟩; replace E := Lib.hid (E.out.call hb); clear hb)
    | (go_at_call 22; refine (RN.out _ E.out.below).mono ?_; rintro e w3 ⟨rfl, hb⟩; replace E := Lib.hid (E.out.call hb); clear hb)
    | (go_at_call 20; refine (AW.out _).mono ?_; rintro e w3 ⟨rfl, hb⟩; replace E := Lib.hid (E.out.call hb); clear hb))
  go_ret
  exact ⟨rfl, E.out.below⟩
set_option maxHeartbeats 8000000 in
theorem walk_good {W : World} {V : Nat → Value} {t : TBlk} (A : Hid (BlkCells W V t)) (h1 : ¬ (2000 < t.txs.length ∨ t.txs.any (fun x => !canB x) = true)) (h2 : ¬ 200000 < (blkB t).length) :
    Calls Try.prog 6 #[.agg (arr 69 V)] W fun e w' => e = .returned (.bool true) ∧ Below W.heap.size W w' := by
  have E := Lib.hid (Mem.nil W)
  have AT : BlkAt W (.agg (arr 69 V)) t := ⟨V, rfl, A.out⟩
  have PB : pBlkL (blkB t) = .good ⟨hdB t.hd, t.txs⟩ [] := (if_neg h2).trans (pBlk_back (okTxs_of A.out h1))
  obtain ⟨zs, hzs⟩ : ∃ zs, zs = blkB t := ⟨_, rfl⟩
  obtain ⟨n, hn⟩ : ∃ n, n = zs.length := ⟨_, rfl⟩
  have EN := Lib.hid (show ∀ w', Below W.heap.size W w' → Calls Try.prog 21 #[.agg (arr 69 V)] w' fun e w'' => ∃ p c, e = .returned (.tuple #[.slice p n c, .int .i64 0]) ∧ TextAt w'' (.slice p n c) zs ∧ Below w'.heap.size w' w'' from fun w' hb => (benc_any (Lib.hid (AT.below hb))).mono fun e w'' q => by
    obtain ⟨p, g, c, he, N, hbb⟩ := benc_ok h1 h2 q
    rw [← hzs] at he N
    exact ⟨p, c, by rw [he, hn], by rw [hn]; exact ⟨p, g, 0, c, rfl, by rw [hzs]; omega, N.row⟩, hbb⟩)
  have RN := Lib.hid (show ∀ w', Below W.heap.size W w' → Calls Try.prog 22 #[.agg (arr 69 V)] w' fun e w'' => ∃ p c, e = .returned (.tuple #[.slice p n c, .int .i64 0]) ∧ Below w'.heap.size w' w'' from fun w' hb => (rbenc_any (Lib.hid (AT.below hb))).mono fun e w'' q => by
    obtain ⟨p, g, c, he, N, hbb⟩ := benc_ok h1 h2 q
    rw [← hzs] at he
    exact ⟨p, c, by rw [he, hn], hbb⟩)
  have DN := Lib.hid (show ∀ w' v, TextAt w' v zs → Calls Try.prog 17 #[v] w' fun e w'' => ∃ V', e = .returned (.tuple #[.agg (arr 69 V'), .int .i64 0]) ∧ BlkOwn w'.heap.size w'' V' t ∧ Below w'.heap.size w' w'' from fun w' v hT => by
    have := bdec_any (Lib.hid hT)
    rw [hzs, PB] at this
    refine this.mono fun e w'' q => ?_
    obtain ⟨V', he, hO, hbb⟩ := q
    refine ⟨V', he, ⟨fun j hj => ?_, A.out.ok, hO.txs⟩, hbb⟩
    rw [hO.hd j hj]
    have e1 := arr_get 68 (hc (hdB t.hd)) j hj
    rw [hdB_cells A.out.ok, arr_get 68 (hc t.hd) j hj] at e1
    exact (Option.some.inj e1).symm)
  have HW : Hid (∀ w', Below W.heap.size W w' → BlkCells w' V t) := Lib.hid fun w' hb => A.out.below hb
  clear A AT h1 h2 PB hzs hn
  go_enter Try.func6, Try.ntmps6
  go_wp2_with (first
    | ((with_reducible refine wpList_at 1 rfl ?_); refine mem_box E 41 rfl (.tmp 0) rfl rfl (arr_cells' 69 V) ?_; clear E; intro b1 w1 E)
    | ((with_reducible refine wpList_at 9 rfl ?_); refine mem_load_row E 41 rfl (.tmp 1) rfl rfl List.mem_cons_self blk_is rfl (by simp only [arr_size]; kernel_rfl) ?_)
    | ((with_reducible refine wpList_at 14 rfl ?_); refine mem_load_row E 41 rfl (.tmp 1) rfl rfl List.mem_cons_self blk_is rfl (by simp only [arr_size]; kernel_rfl) ?_)
    | (go_at_call 21; refine (EN.out _ E.out.below).mono ?_; rintro e w3 ⟨p3, c3, rfl, T3', hb⟩; replace E := Lib.hid (E.out.call hb); have T3 := Lib.hid T3'; clear hb T3')
    | (go_at_call 22; refine (RN.out _ E.out.below).mono ?_; rintro e w4 ⟨p4, c4, rfl, hb⟩; replace E := Lib.hid (E.out.call hb); replace T3 := Lib.hid (T3.out.below hb); clear hb)
    | (go_at_call 17; refine (DN.out _ _ T3.out).mono ?_; rintro e w5 ⟨V', rfl, O5, hb⟩; have BO := Lib.hid (O5.mono E.out.below.size); replace E := Lib.hid (E.out.call hb); clear hb O5 T3)
    | ((with_reducible refine wpList_at 7 rfl ?_); refine mem_allocb E 41 rfl rfl infoBz ?_; clear E; intro b7 w7 E hb7; simp only [arr_cells'] at E; replace BO := Lib.hid (BO.out.below hb7.out); clear hb7)
    | ((with_reducible refine wpList_atn rfl ?_); refine mem_store_rowk 0 E 41 rfl (.tmp 7) (.tmp 32) rfl rfl rfl rfl (by kernel_rfl) (by simp only [arr_size]) (all_of (blk_ones BO.out.at)) ?_; clear E; intro w9 E KT; simp only [List.set_cons_zero, List.set_cons_succ] at E; replace BO := Lib.hid (BO.out.keep KT.out); clear KT)
    | ((with_reducible refine wpList_at 37 rfl ?_); refine mem_load_row E 41 rfl (.tmp 7) rfl rfl List.mem_cons_self blk_is rfl (by simp only [arr_size]; kernel_rfl) ?_)
    | ((with_reducible refine wpList_at 38 rfl ?_); refine mem_load_row E 41 rfl (.tmp 1) rfl rfl (List.mem_cons_of_mem _ List.mem_cons_self) blk_is rfl (by simp only [arr_size]; kernel_rfl) ?_)
    | (go_at_call 19; refine (same_blk (Lib.hid BO.out.at) (Lib.hid (HW.out _ E.out.below))).mono ?_; rintro e w6 ⟨rfl, hb⟩; replace E := Lib.hid (E.out.call hb); clear hb))
  go_ret
  exact ⟨rfl, E.out.below⟩
theorem walk (W : World) (v0 : Value) (t0 : TBlk) (w0 : BlkAt W v0 t0) : Calls Try.prog 6 #[v0] W fun e w' => e = .returned (.bool true) ∧ Below W.heap.size W w' := by
  obtain ⟨V, rfl, A⟩ := w0
  by_cases h1 : 2000 < t0.txs.length ∨ t0.txs.any (fun x => !canB x) = true
  · exact walk_bad (Lib.hid A) (er := 1) (by decide) (.inl ⟨h1, rfl⟩)
  · by_cases h2 : 200000 < (blkB t0).length
    · exact walk_bad (Lib.hid A) (er := 91) (by decide) (.inr ⟨h1, h2, rfl⟩)
    · exact walk_good (Lib.hid A) h1 h2

set_option maxRecDepth 100000 in
theorem lifted (os : Os) (started : os.Started) (H : Type) (enc : TypeId × Value → H) :
    ReturnsInHanded {} Try.checked os 6 .any (Rows.blockBackSpec.pre6 enc Try.prog Try.f6 Rows.blockBackRow.domain false) (Rows.blockBackSpec.post enc Try.prog Try.f6 false true false false) := by
  refine returnsInHanded_of_change_sized (C := Try.checked) own started (by kernel_rfl) Try.func6
    (ChangeSpec.witness6 (enc := enc) (C := Try.checked) false ⟨#[], #[.agg #[.int .u32 0, .int .u8 0, .int .u8 0, .int .u8 0, .int .u8 0, .int .u8 0, .int .u8 0, .int .u8 0, .int .u8 0, .int .u8 0, .int .u8 0, .int .u8 0, .int .u8 0, .int .u8 0, .int .u8 0, .int .u8 0, .int .u8 0, .int .u8 0, .int .u8 0, .int .u8 0, .int .u8 0, .int .u8 0, .int .u8 0, .int .u8 0, .int .u8 0, .int .u8 0, .int .u8 0, .int .u8 0, .int .u8 0, .int .u8 0, .int .u8 0, .int .u8 0, .int .u8 0, .int .u8 0, .int .u8 0, .int .u8 0, .int .u8 0, .int .u8 0, .int .u8 0, .int .u8 0, .int .u8 0, .int .u8 0, .int .u8 0, .int .u8 0, .int .u8 0, .int .u8 0, .int .u8 0, .int .u8 0, .int .u8 0, .int .u8 0, .int .u8 0, .int .u8 0, .int .u8 0, .int .u8 0, .int .u8 0, .int .u8 0, .int .u8 0, .int .u8 0, .int .u8 0, .int .u8 0, .int .u8 0, .int .u8 0, .int .u8 0, .int .u8 0, .int .u8 0, .int .u32 0, .int .u32 0, .int .u32 0, .slice none 0 0]], []⟩ 8 (by kernel_rfl) (by kernel_rfl) (by kernel_rfl) (by kernel_rfl)) ?_
  intro W base args ds gs before hval0 hW hcnd hsz0 _
  have hval : ∀ (j : Nat) t v, Try.f6.params[j]? = some t → args[j]? = some v → Value.okWide Try.prog W .any base t v := hval0
  have hsz : (DataW.weightsEach Try.prog (Try.f6.params.toList ++ Rows.blockBackSpec.plain.varTypes Try.prog) (ds ++ gs)).all (· ≤ reachBytes) = true := hsz0
  have hW' := hW
  obtain ⟨p, q, hA0, hV, rfl, hfz, hnd⟩ := hW
  have hA : DataW.TrodAll enc Try.prog W 0 (fun _ => true) true Try.f6.params.toList args.toList ds p := hA0
  rw [Try.params6] at hA hval hsz
  obtain ⟨v0, vs0, d0, ds0, p0, q0, hargs, rfl, rfl, h0, r0⟩ := trodAll_cons hA
  obtain ⟨rfl, rfl, rfl⟩ := trodAll_nil r0
  obtain rfl : args = #[v0] := by cases args; simp_all
  obtain ⟨rfl, rfl⟩ := trodVars_none hV
  have k0 := h0
  have lt0 : ∀ x ∈ p0, x.block < W.heap.size := by obtain ⟨m, hm⟩ := k0; exact DataW.trod_lt m _ _ _ hm
  obtain ⟨t0, w0⟩ := open_blk (j := 0) (hval 0 41 v0 rfl rfl) h0 hsz rfl rfl
  clear hA0 hval0 hsz0
  simp only [List.append_nil] at hW'
  refine (walk W v0 t0 w0).mono fun e W' ⟨he, bel⟩ => ?_
  subst he
  exact ⟨_, rfl, _, _, _, [], _, [], hW', trodAll_mk1 (shut_bool Try.underlying4 _), (trodAll_cons_mk (Below.trod laidOut (by kernel_rfl) (of_decide_eq_true (by kernel_rfl)) k0 bel lt0) trodAll_mk0), rfl, bel.frame _, fun h => by cases h⟩

theorem over : Rows.blockBackRow.holds Try.pinned (OpenSpec.ofChange Rows.blockBackSpec) :=
  OpenClaim.holds_of_wide 6 Try.f6 rfl rfl rfl rfl rfl rfl rfl ⟨rfl, rfl, rfl, rfl, rfl⟩ rfl rfl rfl rfl rfl (by kernel_rfl) Try.func6 (by kernel_rfl)
    (of_decide_eq_true (by kernel_rfl)) (by unfold Func.isWrapper; first | (rw [if_pos (by decide +kernel)]; kernel_rfl) | (rw [if_neg (by decide +kernel)]; exact ⟨rfl, rfl⟩))
    (fun os started H enc _ => lifted os started H enc)

/-- The statement. -/
theorem proved : Rows.BlockBackSaid :=
  over
#print axioms proved
end Go.Proofs.Ytllndneplkigpaa.blockBack
