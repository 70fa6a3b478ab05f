/- For any bytes: of a copy of them both readers tell the same transaction, the same rest and the same error; the copy stays as it was, whatever is then written over what was read; a small transaction is written; the call returns true. No condition. -/
import Derived.Test.YtllndneplkigpaaYe
import Derived.Test.YtllndneplkigpaaYq
import Derived.Test.YtllndneplkigpaaAw
import Derived.ShutString
import Derived.ChangeOld
import Derived.Below
import Derived.SizedLaws
set_option linter.unusedVariables false
set_option linter.unusedSimpArgs false
namespace Go.Proofs.Ytllndneplkigpaa.txReads
open Go.ChangeShapes Go.WideShapes Go.ChangeAt Go.RowKit Go.Lib Go.Sort Go.Proofs.Ytllndneplkigpaa

set_option maxRecDepth 100000

/-- What a decoder answers, whether it gives up or not. -/
def erOf : Res TTx → Int
  | .bad e => e
  | .good _ _ => 0
def tOf : Res TTx → TTx
  | .bad _ => ⟨0, [], [], 0⟩
  | .good t _ => t
def restOf : Res TTx → List Nat
  | .bad _ => []
  | .good _ r => r
theorem txz_own (B : Nat) (w : World) (hB : B ≤ w.heap.size) : TxOwn B w txz ⟨0, [], [], 0⟩ :=
  ⟨rfl, by decide, ⟨none, 0, 0, fun _ => undef, rfl, by simp, vown_nothing _ _ _ _ _ hB, fun i h => absurd h (by simp)⟩, ⟨none, 0, 0, fun _ => undef, rfl, by simp, vown_nothing _ _ _ _ _ hB, fun i h => absurd h (by simp)⟩, rfl, by decide⟩
theorem dec_uni {W : World} {r : Res TTx} {e : Ending} {w' : World} (h : DecPost W (.agg (arr 4 txz)) TxV r e w') :
    ∃ V p g c, e = .returned (.tuple #[.agg (arr 4 V), .slice p (restOf r).length c, .int .i64 (erOf r)]) ∧ TxOwn W.heap.size w' V (tOf r) ∧ Own W.heap.size w' p g (restOf r).length c (lf (restOf r)) ∧ Below W.heap.size W w' := by
  cases r with
  | bad er =>
    obtain ⟨rfl, hb⟩ := h
    exact ⟨txz, none, 0, 0, rfl, txz_own _ _ hb.size, own_nothing _ _ _ (lf_lt isB_nil) hb.size, hb⟩
  | good t rest =>
    obtain ⟨v, p, g, c, rfl, ⟨V, rfl, hV⟩, hN, hb⟩ := h
    exact ⟨V, p, g, c, rfl, hV, hN, hb⟩

theorem txs_one {B B2 : Nat} {w : World} {p : Option Addr} {g : Nat} {V : Nat → Value} {t : TTx} (N : VOwn 28 4 B2 w p g 1 1 V) (hB : B ≤ B2) (A : TxOwn B w V t) : TxsOwn B w (.slice p 1 1) [t] :=
  ⟨p, g, 1, V, rfl, (by show (1 : Nat) * 64 ≤ 140737488351232; decide), N.mono hB, fun i hi => by
    obtain rfl : i = 0 := by
      have : i < 1 := hi
      omega
    exact A.to fun x _ => by rw [Nat.zero_mul, Nat.zero_add]⟩
theorem bc_ones (p : Option Addr) (n c : Nat) : ∀ j, j < 69 → (bc (hr fun _ => 0) (.slice p n c) j).oneCell' = true := fun j hj => by
  unfold bc
  split
  · rfl
  · unfold hc
    repeat' split
    all_goals rfl
theorem TxsOwn.at {B : Nat} {w : World} {v : Value} {ts : List TTx} (h : TxsOwn B w v ts) : TxsAt w v ts := by
  obtain ⟨p, g, c, X, e, hl, N, I⟩ := h
  exact ⟨p, g, 0, c, X, e, hl, N.row, fun i hi => (I i hi).at⟩
set_option maxHeartbeats 16000000 in
theorem walk (W : World) (a0 : Option Addr) (g0 o0 n0 c0 : Nat) (x0 : Nat → Nat) (R0 : Row W a0 g0 o0 n0 c0 x0) (hc : c0 ≤ 140737488351232) : Calls Try.prog 3 #[.slice a0 n0 c0] W fun e w' => e = .returned (.bool true) ∧ Below W.heap.size W w' := by
  have E := Lib.hid (Mem.nil W)
  have R := Lib.hid R0
  have hn0 : n0 ≤ 140737488351232 := Nat.le_trans R0.le hc
  obtain ⟨zs, hzs⟩ : ∃ zs, zs = tl x0 n0 := ⟨_, rfl⟩
  have A := Lib.hid (show TextAt W (.slice a0 n0 c0) zs by rw [hzs]; exact ⟨a0, g0, o0, c0, by rw [tl_length], by rw [tl_length]; exact hn0, R0.tl⟩)
  have TG := Lib.hid (show ∀ (w : World) (B : Nat) (p : Option Addr) (g c : Nat), Own B w p g n0 c x0 → TextAt w (.slice p n0 c) zs from fun _ _ _ _ _ N => by rw [hzs]; exact ⟨_, _, 0, _, by rw [tl_length], by rw [tl_length]; exact hn0, N.row.tl⟩)
  obtain ⟨t, ht⟩ : ∃ t, t = tOf (pTx zs) := ⟨_, rfl⟩
  obtain ⟨rr, hrr⟩ : ∃ rr, rr = restOf (pTx zs) := ⟨_, rfl⟩
  obtain ⟨er, her⟩ : ∃ er, er = erOf (pTx zs) := ⟨_, rfl⟩
  obtain ⟨rl, hrl⟩ : ∃ rl, rl = rr.length := ⟨_, rfl⟩
  have D1 := Lib.hid (show ∀ (w : World) (v : Value), TextAt w v zs → Calls Try.prog 9 #[v] w fun e w' => ∃ V p g c, e = .returned (.tuple #[.agg (arr 4 V), .slice p rl c, .int .i64 er]) ∧ TxOwn w.heap.size w' V t ∧ Own w.heap.size w' p g rl c (lf rr) ∧ Below w.heap.size w w' from fun w v hv => by
    rw [hrl, her, hrr, ht]
    exact (txdec_any (Lib.hid hv)).mono fun e w' h => dec_uni h)
  have D2 := Lib.hid (show ∀ (w : World) (v : Value), TextAt w v zs → Calls Try.prog 10 #[v] w fun e w' => ∃ V p g c, e = .returned (.tuple #[.agg (arr 4 V), .slice p rl c, .int .i64 er]) ∧ TxOwn w.heap.size w' V t ∧ Own w.heap.size w' p g rl c (lf rr) ∧ Below w.heap.size w w' from fun w v hv => by
    rw [hrl, her, hrr, ht]
    exact (rtxdec_any (Lib.hid hv)).mono fun e w' h => dec_uni h)
  have rl3 : rl ≤ 140737488351232 := by
    obtain ⟨_, _, _, hl⟩ := A.out.slice
    rw [hrl, hrr]
    cases hp : pTx zs with
    | bad e => exact Nat.zero_le _
    | good t2 r2 => exact Nat.le_trans (eats_tx.le hp) hl
  have TR := Lib.hid (show ∀ (w : World) (B : Nat) (p : Option Addr) (g c : Nat), Own B w p g rl c (lf rr) → TextOwn B w (.slice p rl c) rr from fun _ _ _ _ _ N => by rw [hrl] at N ⊢; exact ⟨_, _, _, rfl, by rw [← hrl]; exact rl3, N⟩)
  have AW := Lib.hid awake7_any
  clear hzs ht hrr her hrl R0 rl3
  go_enter Try.func3, Try.ntmps3
  go_upto_region 2 with (go_at_call 8; refine (clone_any R (by omega)).mono ?_; rintro e w1 ⟨p3, g3, c3, rfl, N3', hb⟩; have T3 := Lib.hid (TG.out _ _ _ _ _ N3'); have B1 := Lib.hid hb; clear hb N3' E)
  have A1 := Lib.hid (A.out.below B1.out)
  have E := Lib.hid (Mem.nil w1)
  clear A R TG
  go_upto_region 5 with (first
    | (go_at_call 9; refine (D1.out _ _ T3.out).mono ?_; rintro e w2 ⟨V, p5, g5, c5, rfl, hV, hN, hb⟩; have TX := Lib.hid hV; have NR := Lib.hid hN; replace E := Lib.hid (E.out.call hb); clear hb hV hN)
    | (go_at_call 10; refine (D2.out _ _ (A1.out.below E.out.below)).mono ?_; rintro e w3 ⟨V2, p8, g8, c8, rfl, hV, hN, hb⟩; have TX2 := Lib.hid (hV.mono E.out.below.size); have NR2 := Lib.hid (hN.mono E.out.below.size); replace TX := Lib.hid (TX.out.below hb); replace NR := Lib.hid (NR.out.below hb); replace E := Lib.hid (E.out.call hb); clear hb hV hN)
    | ((with_reducible refine wpList_at 4 rfl ?_); refine mem_allocb E 28 rfl rfl infoTxz ?_; clear E; intro b4 w4 E hb4; simp only [arr_cells'] at E; replace TX := Lib.hid (TX.out.below hb4.out); replace NR := Lib.hid (NR.out.below hb4.out); clear hb4)
    | ((with_reducible refine wpList_at 7 rfl ?_); refine mem_allocb E 28 rfl rfl infoTxz ?_; clear E; intro b7 w7 E hb7; simp only [arr_cells'] at E; replace TX := Lib.hid (TX.out.below hb7.out); replace NR := Lib.hid (NR.out.below hb7.out); replace TX2 := Lib.hid (TX2.out.below hb7.out); replace NR2 := Lib.hid (NR2.out.below hb7.out); clear hb7)
    | ((with_reducible refine wpList_atn rfl ?_); refine mem_store_rowk 0 E 28 rfl (.tmp 4) (.tmp 16) rfl rfl rfl rfl (by kernel_rfl) (by simp only [arr_size]) (all_of TX.out.one) ?_; clear E; intro w9 E KT; simp only [List.set_cons_zero, List.set_cons_succ] at E; replace TX := Lib.hid (TX.out.keep KT.out (by decide) (by decide) (by decide) (by decide)); replace NR := Lib.hid (own_keep NR.out KT.out (by decide)); clear KT)
    | ((with_reducible refine wpList_atn rfl ?_); refine mem_store_rowk 0 E 28 rfl (.tmp 7) (.tmp 22) rfl rfl rfl rfl (by kernel_rfl) (by simp only [arr_size]) (all_of TX2.out.one) ?_; clear E; intro w9 E KT; simp only [List.set_cons_zero, List.set_cons_succ] at E; replace TX := Lib.hid (TX.out.keep KT.out (by decide) (by decide) (by decide) (by decide)); replace NR := Lib.hid (own_keep NR.out KT.out (by decide)); replace TX2 := Lib.hid (TX2.out.keep KT.out (by decide) (by decide) (by decide) (by decide)); replace NR2 := Lib.hid (own_keep NR2.out KT.out (by decide)); clear KT)
    | ((with_reducible refine wpList_at 25 rfl ?_); refine mem_load_row E 28 rfl (.tmp 4) rfl rfl (List.mem_cons_of_mem _ List.mem_cons_self) Try.underlying28 rfl (by simp only [arr_size]; kernel_rfl) ?_)
    | ((with_reducible refine wpList_at 26 rfl ?_); refine mem_load_row E 28 rfl (.tmp 7) rfl rfl List.mem_cons_self Try.underlying28 rfl (by simp only [arr_size]; kernel_rfl) ?_)
    | (go_at_call 11; refine (same_tx (Lib.hid TX.out.at) (Lib.hid TX2.out.at)).mono ?_; rintro e w10 ⟨rfl, hb⟩; replace TX := Lib.hid (TX.out.below hb); replace NR := Lib.hid (NR.out.below hb); replace NR2 := Lib.hid (NR2.out.below hb); replace E := Lib.hid (E.out.call hb); clear hb TX2)
    | (go_at_call 12; refine (same_text (Lib.hid (TR.out _ _ _ _ _ NR.out).at) (Lib.hid (TR.out _ _ _ _ _ NR2.out).at)).mono ?_; rintro e w11 ⟨rfl, hb⟩; replace TX := Lib.hid (TX.out.below hb); replace NR := Lib.hid (NR.out.below hb); replace E := Lib.hid (E.out.call hb); clear hb NR2))
  go_upto_region 6 with (first
    | ((with_reducible refine wpList_at 38 rfl ?_); refine mem_load_row E 28 rfl (.tmp 4) rfl rfl (List.mem_cons_of_mem _ List.mem_cons_self) Try.underlying28 rfl (by simp only [arr_size]; kernel_rfl) ?_)
    | ((with_reducible refine wpList_at 39 rfl ?_); refine wpList_vbs 35 28 4 1 rfl _ rfl V (one_arr TX.out.one) (by unfold maxLen; omega) (ps := #[(0, .agg (arr 4 V))]) (by kernel_rfl) (fun W => run_bs1 Try.underlying35 infoTx3 (by omega) (by omega) _ (arr_size _ _) W) (arr_vs _ _) ?_; intro p13 g13 w13 N13 hb13; have BB := Lib.hid E.out.below.size; replace TX := Lib.hid (TX.out.below hb13.out); replace NR := Lib.hid (NR.out.below hb13.out); replace E := Lib.hid (E.out.call hb13.out); clear hb13)
    | ((with_reducible refine wpList_at 40 rfl ?_); refine wpList_bld 41 _ rfl rfl (ps := #[(1, .slice p13 1 1)]) (by kernel_rfl) (built_blk1 p13 1 1) ?_; have TXS := Lib.hid (show TxsOwn w1.heap.size w13 (bc (hr fun _ => 0) (.slice p13 1 1) 68) [t] from txs_one N13.out BB.out TX.out); have ON1 := Lib.hid (bc_ones p13 1 1))
    | (go_at_call 13; refine (spoilblk_any (B := w1.heap.size) (V := bc (hr fun _ => 0) (.slice p13 1 1)) (ts := [t]) TXS ON1 (Lib.hid E.out.below.size)).mono ?_; rintro e w14 ⟨rfl, hs⟩; have S := Lib.hid hs; have BF := Lib.hid (E.out.below.trans hs.below); clear hs E TX N13 BB))
  obtain ⟨rr', NR'⟩ := (TR.out _ _ _ _ _ NR.out).spoilt S.out
  have NS := Lib.hid NR'
  have BSZ := Lib.hid BF.out.size
  clear NR NR' S
  go_upto_region 7 with (first
    | ((with_reducible refine wpList_at 43 rfl ?_); refine wpList_vbs 65 22 1 1 rfl _ rfl (fun _ => .slice p5 rl c5) (fun _ _ => rfl) (by unfold maxLen; omega) (ps := #[(0, .slice p5 rl c5)]) (by kernel_rfl) (fun W => run_bs1v Try.underlying65 infoText3 _ rfl W) (vs_const _) ?_; intro p15 g15 w15 N15 hb15; replace NS := Lib.hid (NS.out.below hb15.out); replace BF := Lib.hid (BF.out.trans (hb15.out.mono BF.out.size)); clear hb15)
    | (go_at_call 14; refine (spoil_any (B := w1.heap.size) (Lib.hid (texts_one N15.out BSZ.out NS.out))).mono ?_; rintro e w16 ⟨rfl, hs⟩; replace BF := Lib.hid (BF.out.trans hs.below); clear hs NS N15))
  go_wp2_with (first
    | (go_at_call 12; refine (same_text (Lib.hid (T3.out.below BF.out)) (Lib.hid (A1.out.below BF.out))).mono ?_; rintro e w17 ⟨rfl, hb⟩; replace BF := Lib.hid (BF.out.trans (hb.mono BF.out.size)); clear hb)
    | (go_at_call 15; refine (AW.out _).mono ?_; rintro e w18 ⟨rfl, hb⟩; replace BF := Lib.hid (BF.out.trans (hb.mono BF.out.size)); clear hb))
  go_ret
  exact ⟨by simp, B1.out.trans (BF.out.mono B1.out.size)⟩

set_option maxRecDepth 100000 in
theorem lifted (os : Os) (started : os.Started) (H : Type) (enc : TypeId × Value → H) :
    ReturnsInHanded {} Try.checked os 3 .any (Rows.txReadsSpec.pre6 enc Try.prog Try.f3 Rows.txReadsRow.domain false) (Rows.txReadsSpec.post enc Try.prog Try.f3 false true false false) := by
  refine returnsInHanded_of_change_sized (C := Try.checked) own started (by kernel_rfl) Try.func3
    (ChangeSpec.witness6 (enc := enc) (C := Try.checked) false ⟨#[], #[.slice none 0 0], []⟩ 8 (by kernel_rfl) (by kernel_rfl) (by kernel_rfl) (by kernel_rfl)) ?_
  intro W base args ds gs before hval0 hW hcnd hsz0 _
  have hval : ∀ (j : Nat) t v, Try.f3.params[j]? = some t → args[j]? = some v → Value.okWide Try.prog W .any base t v := hval0
  have hsz : (DataW.weightsEach Try.prog (Try.f3.params.toList ++ Rows.txReadsSpec.plain.varTypes Try.prog) (ds ++ gs)).all (· ≤ reachBytes) = true := hsz0
  have hW' := hW
  obtain ⟨p, q, hA0, hV, rfl, hfz, hnd⟩ := hW
  have hA : DataW.TrodAll enc Try.prog W 0 (fun _ => true) true Try.f3.params.toList args.toList ds p := hA0
  rw [Try.params3] at hA hval hsz
  obtain ⟨v0, vs0, d0, ds0, p0, q0, hargs, rfl, rfl, h0, r0⟩ := trodAll_cons hA
  obtain ⟨rfl, rfl, rfl⟩ := trodAll_nil r0
  obtain rfl : args = #[v0] := by cases args; simp_all
  obtain ⟨rfl, rfl⟩ := trodVars_none hV
  have k0 := h0
  have lt0 : ∀ x ∈ p0, x.block < W.heap.size := by obtain ⟨m, hm⟩ := k0; exact DataW.trod_lt m _ _ _ hm
  obtain ⟨a0, g0, o0, n0, c0, x0, rfl, w0, m0⟩ := open_row (j := 0) (hval 0 22 v0 rfl rfl) h0 hsz rfl rfl
  clear hA0 hval0 hsz0
  simp only [List.append_nil] at hW'
  refine (walk W a0 g0 o0 n0 c0 x0 w0 m0).mono fun e W' ⟨he, bel⟩ => ?_
  subst he
  exact ⟨_, rfl, _, _, _, [], _, [], hW', trodAll_mk1 (shut_bool Try.underlying4 _), (trodAll_cons_mk (Below.trod laidOut (by kernel_rfl) (of_decide_eq_true (by kernel_rfl)) k0 bel lt0) trodAll_mk0), rfl, bel.frame _, fun h => by cases h⟩

theorem over : Rows.txReadsRow.holds Try.pinned (OpenSpec.ofChange Rows.txReadsSpec) :=
  OpenClaim.holds_of_wide 3 Try.f3 rfl rfl rfl rfl rfl rfl rfl ⟨rfl, rfl, rfl, rfl, rfl⟩ rfl rfl rfl rfl rfl (by kernel_rfl) Try.func3 (by kernel_rfl)
    (of_decide_eq_true (by kernel_rfl)) (by unfold Func.isWrapper; first | (rw [if_pos (by decide +kernel)]; kernel_rfl) | (rw [if_neg (by decide +kernel)]; exact ⟨rfl, rfl⟩))
    (fun os started H enc _ => lifted os started H enc)

/-- The statement. -/
theorem proved : Rows.TxReadsSaid :=
  over
#print axioms proved
end Go.Proofs.Ytllndneplkigpaa.txReads
