/- For any bytes: of a copy of them both readers tell the same block and the same error; the copy stays as it was, whatever is then written over what was read; a small block is written; the call returns true. No condition. -/
import Derived.Test.YtllndneplkigpaaYg
import Derived.Test.YtllndneplkigpaaYq
import Derived.ShutString
import Derived.ChangeOld
import Derived.Below
import Derived.SizedLaws
set_option linter.unusedVariables false
set_option linter.unusedSimpArgs false
namespace Go.Proofs.Ytllndneplkigpaa.blockReads
open Go.ChangeShapes Go.WideShapes Go.ChangeAt Go.RowKit Go.Lib Go.Sort Go.Proofs.Ytllndneplkigpaa

set_option maxRecDepth 100000

/-- What a decoder of blocks answers, whether it gives up or not. -/
def berOf : Res TBlk → Int
  | .bad e => e
  | .good _ _ => 0
def btOf : Res TBlk → TBlk
  | .bad _ => ⟨hr fun _ => 0, []⟩
  | .good t _ => t
theorem bz_own (B : Nat) (w : World) (hB : B ≤ w.heap.size) : BlkOwn B w bz ⟨hr fun _ => 0, []⟩ :=
  ⟨fun j hj => by unfold bz bc; rw [if_neg (by omega)], hr_ok fun _ => by decide, none, 0, 0, fun _ => undef, rfl, by simp, vown_nothing _ _ _ _ _ hB, fun i h => absurd h (by simp)⟩
theorem bdec_uni {W : World} {r : Res TBlk} {e : Ending} {w' : World} (h : BDec W r e w') :
    ∃ V, e = .returned (.tuple #[.agg (arr 69 V), .int .i64 (berOf r)]) ∧ BlkOwn W.heap.size w' V (btOf r) ∧ Below W.heap.size W w' := by
  cases r with
  | bad er =>
    obtain ⟨rfl, hb⟩ := h
    exact ⟨bz, rfl, bz_own _ _ hb.size, hb⟩
  | good t rest =>
    obtain ⟨V, rfl, hV, hb⟩ := h
    exact ⟨V, rfl, hV, hb⟩

set_option maxHeartbeats 16000000 in
theorem walk (W : World) (a0 : Option Addr) (g0 o0 n0 c0 : Nat) (x0 : Nat → Nat) (R0 : Row W a0 g0 o0 n0 c0 x0) (hc : c0 ≤ 140737488351232) : Calls Try.prog 5 #[.slice a0 n0 c0] W fun e w' => e = .returned (.bool true) ∧ Below W.heap.size W w' := by
  have E := Lib.hid (Mem.nil W)
  have R := Lib.hid R0
  have hn0 : n0 ≤ 140737488351232 := Nat.le_trans R0.le hc
  obtain ⟨zs, hzs⟩ : ∃ zs, zs = tl x0 n0 := ⟨_, rfl⟩
  have A := Lib.hid (show TextAt W (.slice a0 n0 c0) zs by rw [hzs]; exact ⟨a0, g0, o0, c0, by rw [tl_length], by rw [tl_length]; exact hn0, R0.tl⟩)
  have TG := Lib.hid (show ∀ (w : World) (B : Nat) (p : Option Addr) (g c : Nat), Own B w p g n0 c x0 → TextAt w (.slice p n0 c) zs from fun _ _ _ _ _ N => by rw [hzs]; exact ⟨_, _, 0, _, by rw [tl_length], by rw [tl_length]; exact hn0, N.row.tl⟩)
  obtain ⟨t, ht⟩ : ∃ t, t = btOf (pBlkL zs) := ⟨_, rfl⟩
  obtain ⟨er, her⟩ : ∃ er, er = berOf (pBlkL zs) := ⟨_, rfl⟩
  have D1 := Lib.hid (show ∀ (w : World) (v : Value), TextAt w v zs → Calls Try.prog 17 #[v] w fun e w' => ∃ V, e = .returned (.tuple #[.agg (arr 69 V), .int .i64 er]) ∧ BlkOwn w.heap.size w' V t ∧ Below w.heap.size w w' from fun w v hv => by
    rw [her, ht]
    exact (bdec_any (Lib.hid hv)).mono fun e w' h => bdec_uni h)
  have D2 := Lib.hid (show ∀ (w : World) (v : Value), TextAt w v zs → Calls Try.prog 18 #[v] w fun e w' => ∃ V, e = .returned (.tuple #[.agg (arr 69 V), .int .i64 er]) ∧ BlkOwn w.heap.size w' V t ∧ Below w.heap.size w w' from fun w v hv => by
    rw [her, ht]
    exact (rbdec_any (Lib.hid hv)).mono fun e w' h => bdec_uni h)
  have AW := Lib.hid awake8_any
  clear hzs ht her R0
  go_enter Try.func5, Try.ntmps5
  go_upto_region 2 with (go_at_call 8; refine (clone_any R (by omega)).mono ?_; rintro e w1 ⟨p3, g3, c3, rfl, N3', hb⟩; have T3 := Lib.hid (TG.out _ _ _ _ _ N3'); have B1 := Lib.hid hb; clear hb N3' E)
  have A1 := Lib.hid (A.out.below B1.out)
  have E := Lib.hid (Mem.nil w1)
  clear A R TG
  go_upto_region 5 with (first
    | (go_at_call 17; refine (D1.out _ _ T3.out).mono ?_; rintro e w2 ⟨V, rfl, hV, hb⟩; have TX := Lib.hid hV; replace E := Lib.hid (E.out.call hb); clear hb hV)
    | (go_at_call 18; refine (D2.out _ _ (A1.out.below E.out.below)).mono ?_; rintro e w3 ⟨V2, rfl, hV, hb⟩; have TX2 := Lib.hid (hV.mono E.out.below.size); replace TX := Lib.hid (TX.out.below hb); replace E := Lib.hid (E.out.call hb); clear hb hV)
    | ((with_reducible refine wpList_at 4 rfl ?_); refine mem_allocb E 41 rfl rfl infoBz ?_; clear E; intro b4 w4 E hb4; simp only [arr_cells'] at E; replace TX := Lib.hid (TX.out.below hb4.out); clear hb4)
    | ((with_reducible refine wpList_at 6 rfl ?_); refine mem_allocb E 41 rfl rfl infoBz ?_; clear E; intro b6 w6 E hb6; simp only [arr_cells'] at E; replace TX := Lib.hid (TX.out.below hb6.out); replace TX2 := Lib.hid (TX2.out.below hb6.out); clear hb6)
    | ((with_reducible refine wpList_atn rfl ?_); refine mem_store_rowk 0 E 41 rfl (.tmp 4) (.tmp 14) rfl rfl rfl rfl (by kernel_rfl) (by simp only [arr_size]) (all_of (blk_ones TX.out.at)) ?_; clear E; intro w9 E KT; simp only [List.set_cons_zero, List.set_cons_succ] at E; replace TX := Lib.hid (TX.out.keep KT.out); clear KT)
    | ((with_reducible refine wpList_atn rfl ?_); refine mem_store_rowk 0 E 41 rfl (.tmp 6) (.tmp 19) rfl rfl rfl rfl (by kernel_rfl) (by simp only [arr_size]) (all_of (blk_ones TX2.out.at)) ?_; clear E; intro w9 E KT; simp only [List.set_cons_zero, List.set_cons_succ] at E; replace TX := Lib.hid (TX.out.keep KT.out); replace TX2 := Lib.hid (TX2.out.keep KT.out); clear KT)
    | ((with_reducible refine wpList_at 21 rfl ?_); refine mem_load_row E 41 rfl (.tmp 4) rfl rfl (List.mem_cons_of_mem _ List.mem_cons_self) blk_is rfl (by simp only [arr_size]; kernel_rfl) ?_)
    | ((with_reducible refine wpList_at 22 rfl ?_); refine mem_load_row E 41 rfl (.tmp 6) rfl rfl List.mem_cons_self blk_is rfl (by simp only [arr_size]; kernel_rfl) ?_)
    | (go_at_call 19; refine (same_blk (Lib.hid TX.out.at) (Lib.hid TX2.out.at)).mono ?_; rintro e w10 ⟨rfl, hb⟩; replace TX := Lib.hid (TX.out.below hb); replace E := Lib.hid (E.out.call hb); clear hb TX2))
  go_upto_region 6 with (first
    | ((with_reducible refine wpList_at 29 rfl ?_); refine mem_load_row E 41 rfl (.tmp 4) rfl rfl (List.mem_cons_of_mem _ List.mem_cons_self) blk_is rfl (by simp only [arr_size]; kernel_rfl) ?_; have TXS := Lib.hid (show TxsOwn w1.heap.size w10 (V 68) t.txs from TX.out.txs); have ON1 := Lib.hid (blk_ones TX.out.at))
    | (go_at_call 13; refine (spoilblk_any (B := w1.heap.size) (V := V) (ts := t.txs) TXS ON1 (Lib.hid E.out.below.size)).mono ?_; rintro e w14 ⟨rfl, hs⟩; have BF := Lib.hid (E.out.below.trans hs.below); clear hs E TX TXS))
  go_wp2_with (first
    | (go_at_call 12; refine (same_text (Lib.hid (T3.out.below BF.out)) (Lib.hid (A1.out.below BF.out))).mono ?_; rintro e w17 ⟨rfl, hb⟩; replace BF := Lib.hid (BF.out.trans (hb.mono BF.out.size)); clear hb)
    | (go_at_call 20; refine (AW.out _).mono ?_; rintro e w18 ⟨rfl, hb⟩; replace BF := Lib.hid (BF.out.trans (hb.mono BF.out.size)); clear hb))
  go_ret
  exact ⟨by simp, B1.out.trans (BF.out.mono B1.out.size)⟩

set_option maxRecDepth 100000 in
theorem lifted (os : Os) (started : os.Started) (H : Type) (enc : TypeId × Value → H) :
    ReturnsInHanded {} Try.checked os 5 .any (Rows.blockReadsSpec.pre6 enc Try.prog Try.f5 Rows.blockReadsRow.domain false) (Rows.blockReadsSpec.post enc Try.prog Try.f5 false true false false) := by
  refine returnsInHanded_of_change_sized (C := Try.checked) own started (by kernel_rfl) Try.func5
    (ChangeSpec.witness6 (enc := enc) (C := Try.checked) false ⟨#[], #[.slice none 0 0], []⟩ 8 (by kernel_rfl) (by kernel_rfl) (by kernel_rfl) (by kernel_rfl)) ?_
  intro W base args ds gs before hval0 hW hcnd hsz0 _
  have hval : ∀ (j : Nat) t v, Try.f5.params[j]? = some t → args[j]? = some v → Value.okWide Try.prog W .any base t v := hval0
  have hsz : (DataW.weightsEach Try.prog (Try.f5.params.toList ++ Rows.blockReadsSpec.plain.varTypes Try.prog) (ds ++ gs)).all (· ≤ reachBytes) = true := hsz0
  have hW' := hW
  obtain ⟨p, q, hA0, hV, rfl, hfz, hnd⟩ := hW
  have hA : DataW.TrodAll enc Try.prog W 0 (fun _ => true) true Try.f5.params.toList args.toList ds p := hA0
  rw [Try.params5] at hA hval hsz
  obtain ⟨v0, vs0, d0, ds0, p0, q0, hargs, rfl, rfl, h0, r0⟩ := trodAll_cons hA
  obtain ⟨rfl, rfl, rfl⟩ := trodAll_nil r0
  obtain rfl : args = #[v0] := by cases args; simp_all
  obtain ⟨rfl, rfl⟩ := trodVars_none hV
  have k0 := h0
  have lt0 : ∀ x ∈ p0, x.block < W.heap.size := by obtain ⟨m, hm⟩ := k0; exact DataW.trod_lt m _ _ _ hm
  obtain ⟨a0, g0, o0, n0, c0, x0, rfl, w0, m0⟩ := open_row (j := 0) (hval 0 22 v0 rfl rfl) h0 hsz rfl rfl
  clear hA0 hval0 hsz0
  simp only [List.append_nil] at hW'
  refine (walk W a0 g0 o0 n0 c0 x0 w0 m0).mono fun e W' ⟨he, bel⟩ => ?_
  subst he
  exact ⟨_, rfl, _, _, _, [], _, [], hW', trodAll_mk1 (shut_bool Try.underlying4 _), (trodAll_cons_mk (Below.trod laidOut (by kernel_rfl) (of_decide_eq_true (by kernel_rfl)) k0 bel lt0) trodAll_mk0), rfl, bel.frame _, fun h => by cases h⟩

theorem over : Rows.blockReadsRow.holds Try.pinned (OpenSpec.ofChange Rows.blockReadsSpec) :=
  OpenClaim.holds_of_wide 5 Try.f5 rfl rfl rfl rfl rfl rfl rfl ⟨rfl, rfl, rfl, rfl, rfl⟩ rfl rfl rfl rfl rfl (by kernel_rfl) Try.func5 (by kernel_rfl)
    (of_decide_eq_true (by kernel_rfl)) (by unfold Func.isWrapper; first | (rw [if_pos (by decide +kernel)]; kernel_rfl) | (rw [if_neg (by decide +kernel)]; exact ⟨rfl, rfl⟩))
    (fun os started H enc _ => lifted os started H enc)

/-- The statement. -/
theorem proved : Rows.BlockReadsSaid :=
  over
#print axioms proved
end Go.Proofs.Ytllndneplkigpaa.blockReads
