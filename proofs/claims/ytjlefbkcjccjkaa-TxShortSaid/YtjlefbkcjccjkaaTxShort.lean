/- For every transaction and every whole number: what is left of the transaction's bytes, cut short, is refused as too short, and nothing stands behind it; a transaction that can't be written is none that can; the call returns true. No condition. -/
import Derived.Test.YtjlefbkcjccjkaaRl
import Derived.Test.YtjlefbkcjccjkaaPb
import Derived.Test.YtjlefbkcjccjkaaAw
import Derived.Test.YtjlefbkcjccjkaaTh
import Derived.ShutString
import Derived.ChangeOld
import Derived.Below
import Derived.SizedLaws
set_option linter.unusedVariables false
set_option linter.unusedSimpArgs false
namespace Go.Proofs.Ytjlefbkcjccjkaa.txShort
open Go.ChangeShapes Go.WideShapes Go.ChangeAt Go.RowKit Go.Lib Go.Sort Go.Proofs.Ytjlefbkcjccjkaa

set_option maxRecDepth 100000
theorem cut_text {w : World} {p : Option Addr} {g o q n c : Nat} {zs : List Nat} (R : Row w p g o q c (fun i => lf zs (0 + i))) (h : q < n) (hn : n ≤ 140737488351232) : TextAt w (.slice p q c) ((tl (lf zs) n).take q) := by
  have hl : ((tl (lf zs) n).take q).length = q := by rw [List.length_take, tl_length]; omega
  refine ⟨p, g, o, c, by rw [hl], by rw [hl]; omega, ?_⟩
  rw [hl]
  have hb : IsB ((tl (lf zs) n).take q) := fun x hx => by
    obtain ⟨i, hi, rfl⟩ := List.getElem_of_mem hx
    rw [hl] at hi
    have := R.byte i
    rw [Nat.zero_add] at this
    rw [← lf_get, lf_takek hi, lf_tl _ (by omega)]
    exact this
  exact R.to (fun i hi => by rw [Nat.zero_add, lf_takek hi, lf_tl _ (by omega)]) (lf_lt hb)
theorem cut_of (a1 : Int) (n : Nat) (h0 : 0 < n) (hn : n ≤ 140737488351232) : ∃ q : Nat, q < n ∧ wrap64 ((IntKind.u64.wrap a1).tmod (IntKind.u64.wrap (n : Int))) = ((q : Nat) : Int) := by
  have e : IntKind.u64.wrap (n : Int) = (n : Int) := by rw [IntKind.wrap_u64]; omega
  have h2 : 0 ≤ (a1 % 18446744073709551616) % (n : Int) := Int.emod_nonneg _ (by omega)
  have h3 : (a1 % 18446744073709551616) % (n : Int) < (n : Int) := Int.emod_lt_of_pos _ (by omega)
  refine ⟨((a1 % 18446744073709551616) % (n : Int)).toNat, by omega, ?_⟩
  rw [e, IntKind.wrap_u64, Int.tmod_eq_emod_of_nonneg (by omega), Int.toNat_of_nonneg h2]
  unfold wrap64
  omega
set_option maxHeartbeats 4000000 in
theorem walk_bad {W : World} {V : Nat → Value} {t : TTx} (A : Hid (TxCells W V t)) (hc : canB t = false) (a1 : Int) : Calls Try.prog 6 #[.agg (arr 4 V), .int .i64 a1] W fun e w' => e = .returned (.bool true) ∧ Below W.heap.size W w' := by
  have E := Lib.hid (Mem.nil W)
  have AT : TxAt W (.agg (arr 4 V)) t := ⟨V, rfl, A.out⟩
  have EN := Lib.hid (show ∀ w', Below W.heap.size W w' → Calls Try.prog 18 #[.agg (arr 4 V), .bool true] w' fun e w'' => e = .returned (.tuple #[.slice none 0 0, .int .i64 1]) ∧ Below w'.heap.size w' w'' from fun w' hb => by
    have := txenc_any (Lib.hid (AT.below hb)) true
    unfold Enc at this
    simpa only [hc, Bool.false_eq_true, if_false] using this)
  have CN := Lib.hid (show ∀ w', Below W.heap.size W w' → Calls Try.prog 19 #[.agg (arr 4 V)] w' fun e w'' => e = .returned (.bool false) ∧ Below w'.heap.size w' w'' from fun w' hb => by
    have := rcan_any (Lib.hid (AT.below hb))
    rwa [hc] at this)
  have AW := Lib.hid awake7_any
  clear A AT hc
  go_enter Try.func6, Try.ntmps6
  go_wp2_with (first
    | (refine mem_box E 28 rfl _ rfl rfl (arr_cells' 4 V) ?_; clear E; intro b2 w2 E)
    | (refine mem_load_row E 28 rfl (.tmp 2) rfl rfl List.mem_cons_self Try.underlying28 rfl (by simp only [arr_size]; kernel_rfl) ?_)
    | (go_at_call 18; refine (EN.out _ E.out.below).mono ?_; rintro e w3 ⟨rfl, hb⟩; replace E := Lib.hid (E.out.call hb); clear hb)
    | (go_at_call 19; refine (CN.out _ E.out.below).mono ?_; rintro e w3 ⟨rfl, hb⟩; replace E := Lib.hid (E.out.call hb); clear hb)
    | (go_at_call 17; refine (AW.out _).mono ?_; rintro e w3 ⟨rfl, hb⟩; replace E := Lib.hid (E.out.call hb); clear hb))
  go_ret
  exact ⟨rfl, E.out.below⟩
set_option maxHeartbeats 4000000 in
theorem walk_good {W : World} {V : Nat → Value} {t : TTx} (A : Hid (TxCells W V t)) (hc : canB t = true) (a1 : Int) : Calls Try.prog 6 #[.agg (arr 4 V), .int .i64 a1] W fun e w' => e = .returned (.bool true) ∧ Below W.heap.size W w' := by
  have E := Lib.hid (Mem.nil W)
  have AT : TxAt W (.agg (arr 4 V)) t := ⟨V, rfl, A.out⟩
  have OK := okTx_of A.out hc
  obtain ⟨zs, hzs⟩ : ∃ zs, zs = txB (t.ins.any hasB) t := ⟨_, rfl⟩
  have hl : 10 ≤ zs.length ∧ zs.length ≤ 140737488351232 := by
    have h1 := txB_le A.out hc (t.ins.any hasB)
    rw [← hzs] at h1
    refine ⟨?_, by omega⟩
    rw [hzs]
    unfold txB listB
    simp only [List.length_append, low_length]
    have h2 := cnt_le t.ins.length
    have h3 := cnt_le t.outs.length
    omega
  obtain ⟨n, hn⟩ : ∃ n, n = zs.length := ⟨_, rfl⟩
  obtain ⟨q, hq, hq2⟩ := cut_of a1 n (by omega) (by omega)
  have EN := Lib.hid (show ∀ w', Below W.heap.size W w' → Calls Try.prog 18 #[.agg (arr 4 V), .bool true] w' fun e w'' => ∃ p c, e = .returned (.tuple #[.slice p n c, .int .i64 0]) ∧ q ≤ c ∧ TextAt w'' (.slice p q c) (zs.take q) ∧ Below w'.heap.size w' w'' from fun w' hb => by
    have := txenc_any (Lib.hid (AT.below hb)) true
    unfold Enc at this
    simp only [hc, if_true, Bool.true_and, ← hzs] at this
    refine this.mono fun e w'' ⟨p, g, c, h1, hN, h2⟩ => ⟨p, c, by rw [h1, hn], ?_, ?_, h2⟩
    · have := hN.row.le; omega
    · have hl2 : (zs.take q).length = q := by rw [List.length_take]; omega
      have R := hN.row
      refine ⟨p, g, 0, c, by rw [hl2], by rw [hl2]; omega, ?_⟩
      rw [hl2]
      exact ⟨by have := R.le; omega, R.cap, fun e => ⟨by have := (R.nil e).1; omega, (R.nil e).2⟩, fun h => R.head (by omega), fun i hi => by rw [lf_takek hi]; exact R.cell i (by omega), lf_lt fun x hx => isB_row R x (List.mem_of_mem_take hx)⟩)
  have SH := Lib.hid (show pTx (zs.take q) = .bad 50 by rw [hzs] at hn ⊢; exact pTx_short OK (by omega))
  have nz : ¬ (n : Int) = 0 := by omega
  have n10 : ¬ n < 10 := by omega
  have DC := Lib.hid (show ∀ w' p c, TextAt w' (.slice p q c) (zs.take q) → Calls Try.prog 11 #[.slice p q c] w' fun e w'' => e = .returned (.tuple #[.agg (arr 4 txz), .slice none 0 0, .int .i64 50]) ∧ Below w'.heap.size w' w'' from fun w' p c hT => by
    have := txdec_any (Lib.hid hT)
    rwa [SH.out] at this)
  obtain ⟨u, hu⟩ : ∃ u, u = IntKind.u64.wrap a1 := ⟨_, rfl⟩
  obtain ⟨r, hr⟩ : ∃ r, r = (IntKind.u64.wrap a1).tmod (IntKind.u64.wrap (n : Int)) := ⟨_, rfl⟩
  have X1 := Lib.hid (show IntKind.u64.wrap a1 = u from hu.symm)
  have X2 := Lib.hid (show IntKind.u64.wrap (n : Int) = (n : Int) by rw [IntKind.wrap_u64]; omega)
  have X3 := Lib.hid (show u.tmod (n : Int) = r by rw [hr, hu, X2.out])
  have X4 := Lib.hid (show IntKind.i64.wrap r = ((q : Nat) : Int) by rw [hr, ← hq2, IntKind.wrap_i64]; unfold wrap64; rfl)
  clear A AT hc hzs hn hl hq OK SH hq2 hu hr
  go_enter Try.func6, Try.ntmps6
  go_upto_region 4 with (first
    | (refine mem_box E 28 rfl _ rfl rfl (arr_cells' 4 V) ?_; clear E; intro b2 w2 E)
    | (refine mem_load_row E 28 rfl (.tmp 2) rfl rfl List.mem_cons_self Try.underlying28 rfl (by simp only [arr_size]; kernel_rfl) ?_)
    | (go_at_call 18; refine (EN.out _ E.out.below).mono ?_; rintro e w3 ⟨p3, c3, rfl, lc, hT, hb⟩; have T3 := Lib.hid hT; replace E := Lib.hid (E.out.call hb); clear hb hT))
  clear EN
  have x1 := X1.out
  have x2 := X2.out
  have x3 := X3.out
  have x4 := X4.out
  go_wp2_with (first
    | (go_at_call 11; refine (DC.out _ _ _ T3.out).mono ?_; rintro e1 w5 ⟨rfl, hb⟩; replace E := Lib.hid (E.out.call hb); clear hb)
    | (refine mem_alloc E 28 rfl rfl infoTxz ?_; clear E; intro b6 w6 E; simp only [arr_cells'] at E)
    | (refine mem_store_row 0 E 28 rfl (.tmp 7) (.tmp 39) rfl rfl rfl rfl (by kernel_rfl) (by simp only [arr_size]) (all_of txz_one) ?_; clear E; intro w9 E; simp only [List.set_cons_zero, List.set_cons_succ] at E))
  go_ret
  exact ⟨rfl, E.out.below⟩
theorem walk (W : World) (v0 : Value) (t0 : TTx) (w0 : TxAt W v0 t0) (a1 : Int) (w1 : (Lit.int .i64 a1).wf = true) : Calls Try.prog 6 #[v0, .int .i64 a1] W fun e w' => e = .returned (.bool true) ∧ Below W.heap.size W w' := by
  obtain ⟨V, rfl, A⟩ := w0
  by_cases hc : canB t0 = true
  · exact walk_good (Lib.hid A) hc a1
  · exact walk_bad (Lib.hid A) (by simpa using hc) a1

set_option maxRecDepth 100000 in
theorem lifted (os : Os) (started : os.Started) (H : Type) (enc : TypeId × Value → H) :
    ReturnsInHanded {} Try.checked os 6 .any (Rows.txShortSpec.pre6 enc Try.prog Try.f6 Rows.txShortRow.domain false) (Rows.txShortSpec.post enc Try.prog Try.f6 false true false false) := by
  refine returnsInHanded_of_change_sized (C := Try.checked) own started (by kernel_rfl) Try.func6
    (ChangeSpec.witness6 (enc := enc) (C := Try.checked) false ⟨#[], #[.agg #[.int .u32 0, .slice none 0 0, .slice none 0 0, .int .u32 0], .int .i64 0], []⟩ 8 (by kernel_rfl) (by kernel_rfl) (by kernel_rfl) (by kernel_rfl)) ?_
  intro W base args ds gs before hval0 hW hcnd hsz0 _
  have hval : ∀ (j : Nat) t v, Try.f6.params[j]? = some t → args[j]? = some v → Value.okWide Try.prog W .any base t v := hval0
  have hsz : (DataW.weightsEach Try.prog (Try.f6.params.toList ++ Rows.txShortSpec.plain.varTypes Try.prog) (ds ++ gs)).all (· ≤ reachBytes) = true := hsz0
  have hW' := hW
  obtain ⟨p, q, hA0, hV, rfl, hfz, hnd⟩ := hW
  have hA : DataW.TrodAll enc Try.prog W 0 (fun _ => true) true Try.f6.params.toList args.toList ds p := hA0
  rw [Try.params6] at hA hval hsz
  obtain ⟨v0, vs0, d0, ds0, p0, q0, hargs, rfl, rfl, h0, r0⟩ := trodAll_cons hA
  obtain ⟨v1, vs1, d1, ds1, p1, q1, rfl, rfl, rfl, h1, r1⟩ := trodAll_cons r0
  obtain ⟨rfl, rfl, rfl⟩ := trodAll_nil r1
  obtain rfl : args = #[v0, v1] := by cases args; simp_all
  obtain ⟨rfl, rfl⟩ := trodVars_none hV
  have k0 := h0
  have lt0 : ∀ x ∈ p0, x.block < W.heap.size := by obtain ⟨m, hm⟩ := k0; exact DataW.trod_lt m _ _ _ hm
  obtain ⟨t0, w0⟩ := open_tx (j := 0) (hval 0 28 v0 rfl rfl) h0 hsz rfl rfl
  obtain ⟨a1, rfl, rfl, rfl, w1⟩ := open_int Try.underlying3 (hval 1 3 v1 rfl rfl) h1
  clear hA0 hval0 hsz0
  simp only [List.append_nil] at hW'
  refine (walk W v0 t0 w0 a1 w1).mono fun e W' ⟨he, bel⟩ => ?_
  subst he
  exact ⟨_, rfl, _, _, _, [], _, [], hW', trodAll_mk1 (shut_bool Try.underlying4 _), (trodAll_cons_mk (Below.trod laidOut (by kernel_rfl) (of_decide_eq_true (by kernel_rfl)) k0 bel lt0) (trodAll_cons_mk (shut_int Try.underlying3 w1) trodAll_mk0)), rfl, bel.frame _, fun h => by cases h⟩

theorem over : Rows.txShortRow.holds Try.pinned (OpenSpec.ofChange Rows.txShortSpec) :=
  OpenClaim.holds_of_wide 6 Try.f6 rfl rfl rfl rfl rfl rfl rfl ⟨rfl, rfl, rfl, rfl, rfl⟩ rfl rfl rfl rfl rfl (by kernel_rfl) Try.func6 (by kernel_rfl)
    (of_decide_eq_true (by kernel_rfl)) (by unfold Func.isWrapper; first | (rw [if_pos (by decide +kernel)]; kernel_rfl) | (rw [if_neg (by decide +kernel)]; exact ⟨rfl, rfl⟩))
    (fun os started H enc _ => lifted os started H enc)

/-- The statement. -/
theorem proved : Rows.TxShortSaid :=
  over
#print axioms proved
end Go.Proofs.Ytjlefbkcjccjkaa.txShort
