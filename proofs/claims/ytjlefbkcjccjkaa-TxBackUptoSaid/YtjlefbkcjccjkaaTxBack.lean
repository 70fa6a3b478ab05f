/- For every transaction and every slice of bytes (nil too) that hold together at most 1048576 values: the transaction's bytes, with any bytes behind them, are read as the transaction and those bytes; one that can't be written is told by the error; the call returns true. The second form: what comes in is of bulk at most 1048576. -/
import Derived.Test.YtjlefbkcjccjkaaRl
import Derived.Test.YtjlefbkcjccjkaaPb
import Derived.Test.YtjlefbkcjccjkaaAw
import Derived.Test.YtjlefbkcjccjkaaTh
import Derived.Test.YtjlefbkcjccjkaaTj
import Derived.Test.YtjlefbkcjccjkaaLw
import Derived.ShutString
import Derived.ChangeOld
import Derived.Below
import Derived.SizedLaws
import Derived.JoinedCond
set_option linter.unusedVariables false
set_option linter.unusedSimpArgs false
namespace Go.Proofs.Ytjlefbkcjccjkaa.txBack
open Go.ChangeShapes Go.WideShapes Go.ChangeAt Go.RowKit Go.Lib Go.Sort Go.Proofs.Ytjlefbkcjccjkaa

set_option maxRecDepth 100000
set_option maxHeartbeats 4000000 in
theorem walk_bad {W : World} {V : Nat → Value} {t : TTx} (A : Hid (TxCells W V t)) (hc : canB t = false) (v1 : Value) : Calls Try.prog 4 #[.agg (arr 4 V), v1] W fun e w' => e = .returned (.bool true) ∧ Below W.heap.size W w' := by
  have E := Lib.hid (Mem.nil W)
  have AT : TxAt W (.agg (arr 4 V)) t := ⟨V, rfl, A.out⟩
  have EN := Lib.hid (show ∀ w', Below W.heap.size W w' → Calls Try.prog 18 #[.agg (arr 4 V), .bool true] w' fun e w'' => e = .returned (.tuple #[.slice none 0 0, .int .i64 1]) ∧ Below w'.heap.size w' w'' from fun w' hb => by
    have := txenc_any (Lib.hid (AT.below hb)) true
    unfold Enc at this
    simpa only [hc, Bool.false_eq_true, if_false] using this)
  have CN := Lib.hid (show ∀ w', Below W.heap.size W w' → Calls Try.prog 19 #[.agg (arr 4 V)] w' fun e w'' => e = .returned (.bool false) ∧ Below w'.heap.size w' w'' from fun w' hb => by
    have := rcan_any (Lib.hid (AT.below hb))
    rwa [hc] at this)
  have AW := Lib.hid awake7_any
  clear A AT hc
  go_enter Try.func4, Try.ntmps4
  go_wp2_with (first
    | (refine mem_box E 28 rfl _ rfl rfl (arr_cells' 4 V) ?_; clear E; intro b2 w2 E)
    | (refine mem_load_row E 28 rfl (.tmp 2) rfl rfl List.mem_cons_self Try.underlying28 rfl (by simp only [arr_size]; kernel_rfl) ?_)
    | (go_at_call 18; refine (EN.out _ E.out.below).mono ?_; rintro e w3 ⟨rfl, hb⟩; replace E := Lib.hid (E.out.call hb); clear hb)
    | (go_at_call 19; refine (CN.out _ E.out.below).mono ?_; rintro e w3 ⟨rfl, hb⟩; replace E := Lib.hid (E.out.call hb); clear hb)
    | (go_at_call 17; refine (AW.out _).mono ?_; rintro e w3 ⟨rfl, hb⟩; replace E := Lib.hid (E.out.call hb); clear hb))
  go_ret
  exact ⟨rfl, E.out.below⟩
theorem cat_at {w : World} {B : Nat} {p : Option Addr} {g n m c : Nat} {x : Nat → Nat} {zs : List Nat} (N : Own B w p g (n + m) c (cat (lf zs) n x)) (hn : n = zs.length) (hb : IsB zs) (hx : ∀ i, x i < 256) (hl : n + m ≤ 140737488351232) : TextAt w (.slice p (n + m) c) (zs ++ tl x m) := by
  have hl2 : (zs ++ tl x m).length = n + m := by rw [List.length_append, tl_length, hn]
  refine ⟨p, g, 0, c, by rw [hl2], by rw [hl2]; exact hl, ?_⟩
  rw [hl2]
  refine N.row.to (fun i hi => ?_) (lf_lt (hb.append (isB_tl hx m)))
  rw [← lf_cat]
  unfold cat
  rw [← hn]
  split
  · rfl
  · rw [lf_tl _ (by omega)]
set_option maxHeartbeats 8000000 in
theorem walk_good {W : World} {V : Nat → Value} {t : TTx} (A : Hid (TxCells W V t)) (hc : canB t = true) {p1 : Option Addr} {g1 o1 m c1 : Nat} {x : Nat → Nat} (R1 : Hid (Row W p1 g1 o1 m c1 x)) (hm : m ≤ 1048576) : Calls Try.prog 4 #[.agg (arr 4 V), .slice p1 m c1] W fun e w' => e = .returned (.bool true) ∧ Below W.heap.size W w' := by
  have E := Lib.hid (Mem.nil W)
  have AT : TxAt W (.agg (arr 4 V)) t := ⟨V, rfl, A.out⟩
  have OK := okTx_of A.out hc
  obtain ⟨zs, hzs⟩ : ∃ zs, zs = txB (t.ins.any hasB) t := ⟨_, rfl⟩
  have hl : zs.length ≤ 140737000000000 := by
    have h1 := txB_le A.out hc (t.ins.any hasB)
    rw [← hzs] at h1
    omega
  obtain ⟨n, hn⟩ : ∃ n, n = zs.length := ⟨_, rfl⟩
  have EN := Lib.hid (show ∀ w', Below W.heap.size W w' → Calls Try.prog 18 #[.agg (arr 4 V), .bool true] w' fun e w'' => ∃ p g c, e = .returned (.tuple #[.slice p n c, .int .i64 0]) ∧ Own w'.heap.size w'' p g n c (lf zs) ∧ Below w'.heap.size w' w'' from fun w' hb => by
    have := txenc_any (Lib.hid (AT.below hb)) true
    unfold Enc at this
    simp only [hc, if_true, Bool.true_and, ← hzs, ← hn] at this
    exact this)
  have CN := Lib.hid (show ∀ w', Below W.heap.size W w' → Calls Try.prog 19 #[.agg (arr 4 V)] w' fun e w'' => e = .returned (.bool true) ∧ Below w'.heap.size w' w'' from fun w' hb => by
    have := rcan_any (Lib.hid (AT.below hb))
    rwa [hc] at this)
  have PB := Lib.hid (show pTx (zs ++ tl x m) = .good t (tl x m) by rw [hzs]; exact pTx_back OK _)
  have HN := Lib.hid hn
  have HL : Hid (n ≤ 140737000000000) := Lib.hid (by omega)
  have RT := Lib.hid (show TextAt W (.slice p1 m c1) (tl x m) from ⟨p1, g1, o1, c1, by rw [tl_length], by rw [tl_length]; omega, R1.out.tl⟩)
  have HMT := Lib.hid hm
  clear AT hc hzs hn hl OK
  go_enter Try.func4, Try.ntmps4
  go_upto_region 5 with (first
    | (refine mem_box E 28 rfl _ rfl rfl (arr_cells' 4 V) ?_; clear E; intro b2 w2 E)
    | (refine mem_load_row E 28 rfl (.tmp 2) rfl rfl List.mem_cons_self Try.underlying28 rfl (by simp only [arr_size]; kernel_rfl) ?_)
    | (go_at_call 18; refine (EN.out _ E.out.below).mono ?_; rintro e w3 ⟨p3, g3, c3, rfl, hN, hb⟩; have R3 := Lib.hid hN.row; replace E := Lib.hid (E.out.call hb); clear hb hN)
    | (go_at_call 19; refine (CN.out _ E.out.below).mono ?_; rintro e w4 ⟨rfl, hb⟩; replace R3 := Lib.hid (R3.out.below hb); replace E := Lib.hid (E.out.call hb); clear hb)
    | (go_at_call 10; refine (clone_any R3 (by have := HL.out; omega)).mono ?_; rintro e w5 ⟨p5, g5, c5, rfl, hN, hb⟩; have HB := Lib.hid (isB_row (by have := R3.out; rw [HN.out] at this; exact this)); have N5 := Lib.hid hN; have SZ5 := Lib.hid (And.intro E.out.below.size E.out.lt); replace E := Lib.hid (E.out.call hb); clear hb hN R3)
    | (at_builtin; refine wpList_app (.inl rfl) (.tmp 30) (.tmp 31) rfl rfl N5 rfl (Lib.hid (R1.out.below E.out.below)) (by have := HL.out; omega) ?_; intro p6 g6 c6 w6 N6 hb6; have E6 := Lib.hid (E.out.part hb6.out SZ5.out.1 SZ5.out.2); clear E; have E := E6; clear E6 N5 hb6)
    | (go_at_call 11; refine (txdec_any (Lib.hid (cat_at N6.out HN.out HB.out R1.out.byte (by have := HL.out; omega)))).mono ?_; intro e1 w7 h1; rw [PB.out] at h1; obtain ⟨v7, p7, g7, c7, rfl, ⟨V7, rfl, hV⟩, hN, hb⟩ := h1; have TX := Lib.hid hV; have N7 := Lib.hid hN; replace E := Lib.hid (E.out.call hb); clear hb hV hN N6)
    | (refine mem_allocb E 28 rfl rfl infoTxz ?_; clear E; intro b8 w8 E HBa; replace TX := Lib.hid (TX.out.below HBa.out); replace N7 := Lib.hid (N7.out.below HBa.out); clear HBa; simp only [arr_cells'] at E)
    | (refine mem_store_rowk 0 E 28 rfl (.tmp 7) (.tmp 34) rfl rfl rfl rfl (by kernel_rfl) (by simp only [arr_size]) (all_of TX.out.one) ?_; clear E; intro w9 E KT; simp only [List.set_cons_zero, List.set_cons_succ] at E))
  replace TX := Lib.hid (TX.out.keep KT.out (by decide) (by decide) (by decide) (by decide))
  replace N7 := Lib.hid (own_keep N7.out KT.out (by decide))
  have ML : Hid ((tl x m).length = m) := Lib.hid (tl_length x m)
  have SM := Lib.hid (show ∀ w', Below w9.heap.size w9 w' → Calls Try.prog 13 #[.agg (arr 4 V7), .agg (arr 4 V)] w' fun e w'' => e = .returned (.bool true) ∧ Below w'.heap.size w' w'' from fun w' hb => same_tx (Lib.hid (TX.out.at.below hb)) (Lib.hid (A.out.below (E.out.call hb).below)))
  have EQ := Lib.hid (show ∀ w', Below w9.heap.size w9 w' → Calls Try.prog 14 #[.slice p7 m c7, .slice p1 m c1] w' fun e w'' => e = .returned (.bool true) ∧ Below w'.heap.size w' w'' from fun w' hb => by
    have h7 : TextAt w9 (.slice p7 m c7) (tl x m) := ⟨p7, g7, 0, c7, by rw [tl_length], by rw [tl_length]; have := HMT.out; omega, N7.out.row⟩
    exact same_text (Lib.hid (h7.below hb)) (Lib.hid (RT.out.below (E.out.call hb).below)))
  rw [ML.out]
  have E9 := Lib.hid (Mem.nil w9)
  have BW := Lib.hid E.out.below
  have M9 := Lib.hid E.out
  clear TX N7 KT PB RT A R1 EN CN
  go_wp2_with (first
    | (refine wpList_known2 rfl (.agg (arr 4 V7)) _ (exec_load rfl (by exact load_whole ((M9.out.call E9.out.below).get List.mem_cons_self) Try.underlying28 rfl (by kernel_rfl))) ?_)
    | (refine wpList_known2 rfl (.agg (arr 4 V)) _ (exec_load rfl (by exact load_whole ((M9.out.call E9.out.below).get (List.mem_cons_of_mem _ List.mem_cons_self)) Try.underlying28 rfl (by kernel_rfl))) ?_)
    | (go_at_call 13; refine (SM.out _ E9.out.below).mono ?_; rintro e wa ⟨rfl, hb⟩; replace E9 := Lib.hid (E9.out.call hb); clear hb)
    | (go_at_call 14; refine (EQ.out _ E9.out.below).mono ?_; rintro e wb ⟨rfl, hb⟩; replace E9 := Lib.hid (E9.out.call hb); clear hb))
  go_ret
  exact ⟨rfl, BW.out.trans (E9.out.below.mono BW.out.size)⟩
theorem walk (W : World) (v0 : Value) (t0 : TTx) (w0 : TxAt W v0 t0) (a1 : Option Addr) (g1 o1 n1 c1 : Nat) (x1 : Nat → Nat) (w1 : Row W a1 g1 o1 n1 c1 x1) (m1 : c1 ≤ 1048576) : Calls Try.prog 4 #[v0, .slice a1 n1 c1] W fun e w' => e = .returned (.bool true) ∧ Below W.heap.size W w' := by
  obtain ⟨V, rfl, A⟩ := w0
  by_cases hc : canB t0 = true
  · exact walk_good (Lib.hid A) hc (Lib.hid w1) (by have := w1.le; omega)
  · exact walk_bad (Lib.hid A) (by simpa using hc) _

theorem contract (H : Type) (enc : TypeId × Value → H) (W : World) (base : Nat) (args : Array Value) (ds gs : List (DataW H)) (before : List MemPlace)
    (hval0 : ∀ (j : Nat) t v, Try.f4.params[j]? = some t → args[j]? = some v → Value.okWide Try.prog W .any base t v)
    (hW : DataW.Whole enc Try.prog Try.f4.params.toList Rows.txBackSpec.vars false W args.toList ds gs before) (hk : Rows.uptoSmall H (ds ++ gs) = true) :
    Calls Try.prog 4 args W fun e W' => ∃ v, e = .returned v ∧ Rows.txBackSpec.post enc Try.prog Try.f4 false true false false W args v W' := by
  have hval : ∀ (j : Nat) t v, Try.f4.params[j]? = some t → args[j]? = some v → Value.okWide Try.prog W .any base t v := hval0
  have hW' := hW
  obtain ⟨p, q, hA0, hV, rfl, hfz, hnd⟩ := hW
  have hA : DataW.TrodAll enc Try.prog W 0 (fun _ => true) true Try.f4.params.toList args.toList ds p := hA0
  rw [Try.params4] at hA hval
  obtain ⟨v0, vs0, d0, ds0, p0, q0, hargs, rfl, rfl, h0, r0⟩ := trodAll_cons hA
  obtain ⟨v1, vs1, d1, ds1, p1, q1, rfl, rfl, rfl, h1, r1⟩ := trodAll_cons r0
  obtain ⟨rfl, rfl, rfl⟩ := trodAll_nil r1
  obtain rfl : args = #[v0, v1] := by cases args; simp_all
  obtain ⟨rfl, rfl⟩ := trodVars_none hV
  have hb : Rows.uptoBulkAll ([d0, d1] ++ []) ≤ 1048576 := by simpa [Rows.uptoSmall] using hk
  have hb0 : Rows.uptoBulk d0 ≤ 1048576 := Nat.le_trans (bulk_part (by simp)) hb
  have k0 := h0
  have lt0 : ∀ x ∈ p0, x.block < W.heap.size := by obtain ⟨m, hm⟩ := k0; exact DataW.trod_lt m _ _ _ hm
  obtain ⟨t0, w0⟩ := open_tx_upto (hval 0 28 v0 rfl rfl) h0 hb0
  have hb1 : Rows.uptoBulk d1 ≤ 1048576 := Nat.le_trans (bulk_part (by simp)) hb
  have k1 := h1
  have lt1 : ∀ x ∈ p1, x.block < W.heap.size := by obtain ⟨m, hm⟩ := k1; exact DataW.trod_lt m _ _ _ hm
  obtain ⟨a1, g1, o1, n1, c1, x1, rfl, w1, m1⟩ := open_row_upto (hval 1 22 v1 rfl rfl) h1 hb1
  clear hA0 hval0
  simp only [List.append_nil] at hW'
  refine (walk W v0 t0 w0 a1 g1 o1 n1 c1 x1 w1 m1).mono fun e W' ⟨he, bel⟩ => ?_
  subst he
  exact ⟨_, rfl, _, _, _, [], _, [], hW', trodAll_mk1 (shut_bool Try.underlying4 _), (trodAll_cons_mk (Below.trod laidOut (by kernel_rfl) (of_decide_eq_true (by kernel_rfl)) k0 bel lt0) (trodAll_cons_mk (Below.trod laidOut (by kernel_rfl) (of_decide_eq_true (by kernel_rfl)) k1 bel lt1) trodAll_mk0)), rfl, bel.frame _, fun h => by cases h⟩

set_option maxRecDepth 100000 in
theorem lifted (os : Os) (started : os.Started) (H : Type) (enc : TypeId × Value → H) (F : Stop.Interp) :
    ReturnsInHanded {} Try.checked os 4 .any ((Rows.OpenSpec.upto Rows.txBackSpec).pre6 enc Try.prog Try.f4 Rows.txBackUptoRow.domain false) (((Rows.OpenSpec.upto Rows.txBackSpec).at F).post enc Try.prog Try.f4 false true false false) := by
  refine returnsInHanded_of_cond (C := Try.checked) (s := Rows.OpenSpec.upto Rows.txBackSpec) (k := Rows.uptoSmall) rfl own started (by kernel_rfl) Try.func4
    (OpenSpec.witness (enc := enc) (C := Try.checked) (s := Rows.OpenSpec.upto Rows.txBackSpec) (k := Rows.uptoSmall) rfl false ⟨#[], #[.agg #[.int .u32 0, .slice none 0 0, .slice none 0 0, .int .u32 0], .slice none 0 0], []⟩ 8 (by kernel_rfl) (by kernel_rfl) (by kernel_rfl)
      (x := ([.agg [.lit (.int .u32 0), .nil, .nil, .lit (.int .u32 0)], .nil], [], [])) (by kernel_rfl) rfl (by kernel_rfl)) ?_
  intro W base args ds gs before hval hW _ hk _
  exact contract H enc W base args ds gs before hval hW hk

theorem over : Rows.txBackUptoRow.holds Try.pinned (Rows.OpenSpec.upto Rows.txBackSpec) :=
  OpenClaim.holds_of_cond 4 Try.f4 rfl rfl rfl rfl rfl rfl rfl ⟨rfl, rfl, rfl, rfl, rfl⟩ rfl rfl rfl rfl rfl (by kernel_rfl) Try.func4 (by kernel_rfl)
    (of_decide_eq_true (by kernel_rfl)) (by unfold Func.isWrapper; first | (rw [if_pos (by decide +kernel)]; kernel_rfl) | (rw [if_neg (by decide +kernel)]; exact ⟨rfl, rfl⟩))
    (fun os started H enc _ F => lifted os started H enc F)

/-- The statement, in its second form. -/
theorem proved : Rows.TxBackUptoSaid :=
  over
#print axioms proved
end Go.Proofs.Ytjlefbkcjccjkaa.txBack
