/- For any bytes: both readers tell the same error; what was read, written, and what was left behind it, are the bytes; a small transaction is written; the call returns true. No condition. -/
import Derived.Test.YtllndneplkigpaaYe
import Derived.Test.YtllndneplkigpaaOn
import Derived.Test.YtllndneplkigpaaAw
import Derived.Test.YtllndneplkigpaaBf
import Derived.ShutString
import Derived.ChangeOld
import Derived.Below
import Derived.SizedLaws
set_option linter.unusedVariables false
set_option linter.unusedSimpArgs false
namespace Go.Proofs.Ytllndneplkigpaa.txOnce
open Go.ChangeShapes Go.WideShapes Go.ChangeAt Go.RowKit Go.Lib Go.Sort Go.Proofs.Ytllndneplkigpaa

set_option maxRecDepth 100000

/-- A row of the call's own that is one text behind another. -/
theorem text_both {w : World} {B : Nat} {p : Option Addr} {g m k c : Nat} {a b zs : List Nat} (N : Own B w p g (m + k) c (cat (lf a) m (lf b))) (hm : m = a.length) (hk : k = b.length) (hz : zs = a ++ b) (hl : m + k ≤ 140737488351232) (hb : IsB zs) : m + k = zs.length ∧ TextAt w (.slice p (m + k) c) zs := by
  have hl2 : zs.length = m + k := by rw [hz, List.length_append, hm, hk]
  refine ⟨hl2.symm, p, g, 0, c, by rw [hl2], by rw [hl2]; exact hl, ?_⟩
  rw [hl2]
  exact N.row.to (fun i hi => by rw [hz, ← lf_cat, hm]) (lf_lt hb)

set_option maxHeartbeats 4000000 in
theorem walk_bad {W : World} {p : Option Addr} {n c : Nat} {zs : List Nat} (A : Hid (TextAt W (.slice p n c) zs)) {er : Int} (hp : pTx zs = .bad er) : Calls Try.prog 4 #[.slice p n c] W fun e w' => e = .returned (.bool true) ∧ Below W.heap.size W w' := by
  have E := Lib.hid (Mem.nil W)
  have he := errs_tx zs er hp
  have C1 := Lib.hid (show ∀ w', Below W.heap.size W w' → Calls Try.prog 9 #[.slice p n c] w' fun e w'' => e = .returned (.tuple #[.agg (arr 4 txz), .slice none 0 0, .int .i64 er]) ∧ Below w'.heap.size w' w'' from fun w' hb => by
    have := txdec_any (Lib.hid (A.out.below hb))
    rwa [hp] at this)
  have C2 := Lib.hid (show ∀ w', Below W.heap.size W w' → Calls Try.prog 10 #[.slice p n c] w' fun e w'' => e = .returned (.tuple #[.agg (arr 4 txz), .slice none 0 0, .int .i64 er]) ∧ Below w'.heap.size w' w'' from fun w' hb => by
    have := rtxdec_any (Lib.hid (A.out.below hb))
    rwa [hp] at this)
  have AW := Lib.hid awake7_any
  have c2 : (er == 0) = false := by simp; exact he
  have c3 : (er != 0) = true := by simp; exact he
  clear A hp he
  go_enter Try.func4, Try.ntmps4
  go_wp2_with (first
    | (go_at_call 9; refine (C1.out _ E.out.below).mono ?_; rintro e w1 ⟨rfl, hb⟩; replace E := Lib.hid (E.out.call hb); clear hb)
    | (go_at_call 10; refine (C2.out _ E.out.below).mono ?_; rintro e w1 ⟨rfl, hb⟩; replace E := Lib.hid (E.out.call hb); clear hb)
    | ((with_reducible refine wpList_at 3 rfl ?_); refine mem_alloc E 28 rfl rfl infoTxz ?_; clear E; intro b3 w3 E; simp only [arr_cells'] at E)
    | ((with_reducible refine wpList_at 6 rfl ?_); refine mem_alloc E 28 rfl rfl infoTxz ?_; clear E; intro b6 w6 E; simp only [arr_cells'] at E)
    | ((with_reducible refine wpList_atn rfl ?_); refine mem_store_row 0 E 28 rfl (.tmp 3) (.tmp 13) rfl rfl rfl rfl (by kernel_rfl) (by simp only [arr_size]) (all_of txz_one) ?_; clear E; intro w9 E; simp only [List.set_cons_zero, List.set_cons_succ] at E)
    | ((with_reducible refine wpList_atn rfl ?_); refine mem_store_row 0 E 28 rfl (.tmp 6) (.tmp 19) rfl rfl rfl rfl (by kernel_rfl) (by simp only [arr_size]) (all_of txz_one) ?_; clear E; intro w9 E; simp only [List.set_cons_zero, List.set_cons_succ] at E)
    | (go_at_call 15; refine (AW.out _).mono ?_; rintro e w3 ⟨rfl, hb⟩; replace E := Lib.hid (E.out.call hb); clear hb))
  go_ret
  exact ⟨rfl, E.out.below⟩
set_option maxHeartbeats 8000000 in
theorem walk_good {W : World} {p : Option Addr} {n c : Nat} {zs : List Nat} (A : Hid (TextAt W (.slice p n c) zs)) {t : TTx} {r : List Nat} (hp : pTx zs = .good t r) : Calls Try.prog 4 #[.slice p n c] W fun e w' => e = .returned (.bool true) ∧ Below W.heap.size W w' := by
  have E := Lib.hid (Mem.nil W)
  obtain ⟨hz, hcan, hrb⟩ := pTx_says A.out.isB hp
  obtain ⟨bs, hbs⟩ : ∃ bs, bs = txB (t.ins.any hasB) t := ⟨_, rfl⟩
  rw [← hbs] at hz
  obtain ⟨m, hm⟩ : ∃ m, m = bs.length := ⟨_, rfl⟩
  obtain ⟨rl, hrl⟩ : ∃ rl, rl = r.length := ⟨_, rfl⟩
  obtain ⟨_, _, _, hzl⟩ := A.out.slice
  have hmr : m + rl ≤ 140737488351232 := by
    rw [hz, List.length_append] at hzl
    omega
  have C1 := Lib.hid (show ∀ w', Below W.heap.size W w' → Calls Try.prog 9 #[.slice p n c] w' fun e w'' => ∃ V p4 g4 c4, e = .returned (.tuple #[.agg (arr 4 V), .slice p4 rl c4, .int .i64 0]) ∧ TxOwn w'.heap.size w'' V t ∧ Own w'.heap.size w'' p4 g4 rl c4 (lf r) ∧ Below w'.heap.size w' w'' from fun w' hb => by
    have := txdec_any (Lib.hid (A.out.below hb))
    rw [hp] at this
    refine this.mono fun e w'' h => ?_
    obtain ⟨v, p4, g4, c4, he, ⟨V, hv, hV⟩, hN, hbb⟩ := h
    subst hv
    exact ⟨V, p4, g4, c4, by rw [he, hrl], hV, by rw [hrl]; exact hN, hbb⟩)
  have C2 := Lib.hid (show ∀ w', Below W.heap.size W w' → Calls Try.prog 10 #[.slice p n c] w' fun e w'' => ∃ V p4 c4, e = .returned (.tuple #[.agg (arr 4 V), .slice p4 rl c4, .int .i64 0]) ∧ (∀ j, j < 4 → (V j).oneCell' = true) ∧ Below w'.heap.size w' w'' from fun w' hb => by
    have := rtxdec_any (Lib.hid (A.out.below hb))
    rw [hp] at this
    refine this.mono fun e w'' h => ?_
    obtain ⟨v, p4, g4, c4, he, ⟨V, hv, hV⟩, hN, hbb⟩ := h
    subst hv
    exact ⟨V, p4, c4, by rw [he, hrl], hV.one, hbb⟩)
  have EN := Lib.hid (show ∀ w' V, TxCells w' V t → Calls Try.prog 16 #[.agg (arr 4 V), .bool true] w' fun e w'' => ∃ p5 g5 c5, e = .returned (.tuple #[.slice p5 m c5, .int .i64 0]) ∧ Own w'.heap.size w'' p5 g5 m c5 (lf bs) ∧ Below w'.heap.size w' w'' from fun w' V hV => by
    have := txenc_any (Lib.hid (⟨V, rfl, hV⟩ : TxAt w' (.agg (arr 4 V)) t)) true
    unfold Enc at this
    simp only [hcan, if_true, Bool.true_and, ← hbs, ← hm] at this
    exact this)
  have TB := Lib.hid (show ∀ (w' : World) (B : Nat) (p' : Option Addr) (g' c' : Nat), Own B w' p' g' (m + rl) c' (cat (lf bs) m (lf r)) → TextAt w' (.slice p' (m + rl) c') zs from fun _ _ _ _ _ N => (text_both N hm hrl hz hmr A.out.isB).2)
  have HMR := Lib.hid hmr
  clear hp hz hcan hrb hbs hm hrl hzl hmr
  go_enter Try.func4, Try.ntmps4
  go_upto_region 8 with (first
    | (go_at_call 9; refine (C1.out _ E.out.below).mono ?_; rintro e w1 ⟨V, p4, g4, c4, rfl, hV, hN, hb⟩; have TX := Lib.hid (hV.mono E.out.below.size); have NR := Lib.hid (hN.mono E.out.below.size); replace E := Lib.hid (E.out.call hb); clear hb hV hN)
    | (go_at_call 10; refine (C2.out _ E.out.below).mono ?_; rintro e w1 ⟨V2, p6, c6, rfl, h2, hb⟩; have ONE2 := Lib.hid h2; replace TX := Lib.hid (TX.out.below hb); replace NR := Lib.hid (NR.out.below hb); replace E := Lib.hid (E.out.call hb); clear hb h2)
    | ((with_reducible refine wpList_at 3 rfl ?_); refine mem_allocb E 28 rfl rfl infoTxz ?_; clear E; intro b3 w3 E hb3; simp only [arr_cells'] at E; replace TX := Lib.hid (TX.out.below hb3.out); replace NR := Lib.hid (NR.out.below hb3.out); clear hb3)
    | ((with_reducible refine wpList_at 6 rfl ?_); refine mem_allocb E 28 rfl rfl infoTxz ?_; clear E; intro b6 w6 E hb6; simp only [arr_cells'] at E; replace TX := Lib.hid (TX.out.below hb6.out); replace NR := Lib.hid (NR.out.below hb6.out); clear hb6)
    | ((with_reducible refine wpList_atn rfl ?_); refine mem_store_rowk 0 E 28 rfl (.tmp 3) (.tmp 13) rfl rfl rfl rfl (by kernel_rfl) (by simp only [arr_size]) (all_of TX.out.one) ?_; clear E; intro w9 E KT; simp only [List.set_cons_zero, List.set_cons_succ] at E; replace TX := Lib.hid (TX.out.keep KT.out (by decide) (by decide) (by decide) (by decide)); replace NR := Lib.hid (own_keep NR.out KT.out (by decide)); clear KT)
    | ((with_reducible refine wpList_atn rfl ?_); refine mem_store_rowk 0 E 28 rfl (.tmp 6) (.tmp 19) rfl rfl rfl rfl (by kernel_rfl) (by simp only [arr_size]) (all_of ONE2.out) ?_; clear E; intro w9 E KT; simp only [List.set_cons_zero, List.set_cons_succ] at E; replace TX := Lib.hid (TX.out.keep KT.out (by decide) (by decide) (by decide) (by decide)); replace NR := Lib.hid (own_keep NR.out KT.out (by decide)); clear KT)
    | ((with_reducible refine wpList_at 29 rfl ?_); refine mem_load_row E 28 rfl (.tmp 3) rfl rfl (List.mem_cons_of_mem _ List.mem_cons_self) Try.underlying28 rfl (by simp only [arr_size]; kernel_rfl) ?_)
    | (go_at_call 16; refine (EN.out _ _ TX.out.at).mono ?_; rintro e w3 ⟨p5, g5, c5, rfl, hN, hb⟩; have N5 := Lib.hid hN; have SZ := Lib.hid E.out.below.size; have LT := Lib.hid E.out.lt; replace NR := Lib.hid (NR.out.below hb); replace E := Lib.hid (E.out.call hb); clear hb hN))
  go_wp2_with (first
    | (at_builtin; refine wpList_app (.inr rfl) (.tmp 36) (.tmp 37) rfl rfl N5 rfl (Lib.hid NR.out.row) (by have := HMR.out; omega) ?_; intro p7 g7 c7 w7 N7 hb7; have T7 := Lib.hid (TB.out _ _ _ _ _ N7.out); replace E := Lib.hid (E.out.part hb7.out SZ.out LT.out); clear hb7 N7)
    | (go_at_call 12; refine (same_text T7 (Lib.hid (A.out.below E.out.below))).mono ?_; rintro e w8 ⟨rfl, hb⟩; replace E := Lib.hid (E.out.call hb); clear hb))
  go_ret
  exact ⟨rfl, E.out.below⟩
theorem walk (W : World) (a0 : Option Addr) (g0 o0 n0 c0 : Nat) (x0 : Nat → Nat) (R : Row W a0 g0 o0 n0 c0 x0) (hc : c0 ≤ 140737488351232) : Calls Try.prog 4 #[.slice a0 n0 c0] W fun e w' => e = .returned (.bool true) ∧ Below W.heap.size W w' := by
  have A : TextAt W (.slice a0 n0 c0) (tl x0 n0) := ⟨a0, g0, o0, c0, by rw [tl_length], by rw [tl_length]; have := R.le; omega, R.tl⟩
  cases h : pTx (tl x0 n0) with
  | bad er => exact walk_bad (Lib.hid A) h
  | good t r => exact walk_good (Lib.hid A) h

set_option maxRecDepth 100000 in
theorem lifted (os : Os) (started : os.Started) (H : Type) (enc : TypeId × Value → H) :
    ReturnsInHanded {} Try.checked os 4 .any (Rows.txOnceSpec.pre6 enc Try.prog Try.f4 Rows.txOnceRow.domain false) (Rows.txOnceSpec.post enc Try.prog Try.f4 false true false false) := by
  refine returnsInHanded_of_change_sized (C := Try.checked) own started (by kernel_rfl) Try.func4
    (ChangeSpec.witness6 (enc := enc) (C := Try.checked) false ⟨#[], #[.slice none 0 0], []⟩ 8 (by kernel_rfl) (by kernel_rfl) (by kernel_rfl) (by kernel_rfl)) ?_
  intro W base args ds gs before hval0 hW hcnd hsz0 _
  have hval : ∀ (j : Nat) t v, Try.f4.params[j]? = some t → args[j]? = some v → Value.okWide Try.prog W .any base t v := hval0
  have hsz : (DataW.weightsEach Try.prog (Try.f4.params.toList ++ Rows.txOnceSpec.plain.varTypes Try.prog) (ds ++ gs)).all (· ≤ reachBytes) = true := hsz0
  have hW' := hW
  obtain ⟨p, q, hA0, hV, rfl, hfz, hnd⟩ := hW
  have hA : DataW.TrodAll enc Try.prog W 0 (fun _ => true) true Try.f4.params.toList args.toList ds p := hA0
  rw [Try.params4] at hA hval hsz
  obtain ⟨v0, vs0, d0, ds0, p0, q0, hargs, rfl, rfl, h0, r0⟩ := trodAll_cons hA
  obtain ⟨rfl, rfl, rfl⟩ := trodAll_nil r0
  obtain rfl : args = #[v0] := by cases args; simp_all
  obtain ⟨rfl, rfl⟩ := trodVars_none hV
  have k0 := h0
  have lt0 : ∀ x ∈ p0, x.block < W.heap.size := by obtain ⟨m, hm⟩ := k0; exact DataW.trod_lt m _ _ _ hm
  obtain ⟨a0, g0, o0, n0, c0, x0, rfl, w0, m0⟩ := open_row (j := 0) (hval 0 22 v0 rfl rfl) h0 hsz rfl rfl
  clear hA0 hval0 hsz0
  simp only [List.append_nil] at hW'
  refine (walk W a0 g0 o0 n0 c0 x0 w0 m0).mono fun e W' ⟨he, bel⟩ => ?_
  subst he
  exact ⟨_, rfl, _, _, _, [], _, [], hW', trodAll_mk1 (shut_bool Try.underlying4 _), (trodAll_cons_mk (Below.trod laidOut (by kernel_rfl) (of_decide_eq_true (by kernel_rfl)) k0 bel lt0) trodAll_mk0), rfl, bel.frame _, fun h => by cases h⟩

theorem over : Rows.txOnceRow.holds Try.pinned (OpenSpec.ofChange Rows.txOnceSpec) :=
  OpenClaim.holds_of_wide 4 Try.f4 rfl rfl rfl rfl rfl rfl rfl ⟨rfl, rfl, rfl, rfl, rfl⟩ rfl rfl rfl rfl rfl (by kernel_rfl) Try.func4 (by kernel_rfl)
    (of_decide_eq_true (by kernel_rfl)) (by unfold Func.isWrapper; first | (rw [if_pos (by decide +kernel)]; kernel_rfl) | (rw [if_neg (by decide +kernel)]; exact ⟨rfl, rfl⟩))
    (fun os started H enc _ => lifted os started H enc)

/-- The statement. -/
theorem proved : Rows.TxOnceSaid :=
  over
#print axioms proved
end Go.Proofs.Ytllndneplkigpaa.txOnce
