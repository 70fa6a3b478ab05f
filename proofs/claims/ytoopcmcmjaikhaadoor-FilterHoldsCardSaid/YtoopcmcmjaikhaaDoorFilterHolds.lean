/- For every hash, every slice of texts and every int: the filter that is built of the first hundred texts matches the text at that place (modulo their number), unless it is empty, and a filter of nothing matches no text; the call returns true. The table that the row lists (that of package sip) is laid as the card ties it. No other condition. -/
import Derived.Test.YtoopcmcmjaikhaaDoorFvs
import Derived.Test.YtoopcmcmjaikhaaDoorZA
import Derived.Test.YtoopcmcmjaikhaaDoorLt2
import Derived.Test.YtoopcmcmjaikhaaDoorTie
import Derived.Test.YtoopcmcmjaikhaaDoorCards
import Derived.Lay
import Derived.ShutString
import Derived.ChangeOld
import Derived.Below
import Derived.SevenTiedAt
set_option linter.unusedVariables false
set_option linter.unusedSimpArgs false
namespace Go.Proofs.YtoopcmcmjaikhaaDoor.filterHolds
open Go.ChangeShapes Go.WideShapes Go.ChangeAt Go.RowKit Go.Lib Go.Sort Go.Proofs.YtoopcmcmjaikhaaDoor

set_option maxRecDepth 100000
theorem own : ownKnob Tryd.prog.godebug = none := by kernel_rfl
set_option maxHeartbeats 16000000 in
theorem walk (W : World) (hL : laidMetH Tryd.prog sipLaid W) (t0 : List Nat) (w0 : IsH t0) (v1 : Value) (t1 : List (List Nat)) (w1 : TextsAt W v1 t1) (a2 : Int) (w2 : (Lit.int .i64 a2).wf = true) :
    Calls Tryd.prog 6 #[.agg (arr 32 (bv (lf t0))), v1, .int .i64 a2] W fun e w' => e = .returned (.bool true) ∧ Below W.heap.size W w' := by
  have E := Lib.hid (Mem.nil W)
  have LL := Lib.hid (of_sip hL)
  have HX := Lib.hid (show ∀ i, lf t0 i < 256 from lf_lt w0.2)
  obtain ⟨p, g, o, c, V, hv, hc, RV, hi⟩ := id w1
  subst hv
  obtain ⟨m, hm⟩ : ∃ m, m = min t1.length 100 := ⟨_, rfl⟩
  obtain ⟨q, hq, hmc, A2⟩ := texts_take w1 (m := m) (by omega)
  have hml : (t1.take m).length = m := by rw [List.length_take]; omega
  obtain ⟨ts, hts⟩ : ∃ ts, ts = t1.take m := ⟨_, rfl⟩
  rw [← hts] at A2 hml
  rw [hml] at A2
  have A := Lib.hid A2
  have CUTS := Lib.hid (show ∀ w, (Instr.sliceAt 30 (.slice p t1.length c) none (some (.int .i64 ((m : Nat) : Int))) none).run Tryd.prog w = .ok (.slice q m c) w from fun w => run_cut Tryd.underlying30 (by intro w; kernel_rfl) hq hmc w)
  obtain ⟨N, hN⟩ : ∃ N, N = t1.length := ⟨_, rfl⟩
  rw [← hN] at CUTS ⊢
  have MIN := Lib.hid (show min (N : Int) 100 = ((m : Nat) : Int) by omega)
  have hm100 : m ≤ 100 := by omega
  obtain ⟨F, hF⟩ : ∃ F, F = fB (key0 (lf t0)) (key1 (lf t0)) (onceL ts) := ⟨_, rfl⟩
  have hol : (onceL ts).length ≤ 20000 := Nat.le_trans (once_any_len ts) (by omega)
  have hFL : F.length ≤ 140737488351232 := by
    rw [hF]
    unfold fB
    rw [List.length_append, tl_length, pk_length]
    have h1 := (wid_bd (onceL ts).length).2
    have h2 := codes_le 0 (sortN (fnumsL (key0 (lf t0)) (key1 (lf t0)) (onceL ts))) (fun z hz => by
      have := fnums_lt ((sortN_perm _).mem_iff.1 hz)
      omega)
    rw [sortN_len, fnums_len] at h2
    unfold nB
    omega
  obtain ⟨S, hS⟩ : ∃ S, S = sortN (fnumsL (key0 (lf t0)) (key1 (lf t0)) (onceL ts)) := ⟨_, rfl⟩
  have hvr : vres F.length (lf F) = some S := by rw [hF, hS]; exact vres_fB hol
  have C1 := Lib.hid (show ∀ w, Below W.heap.size W w → Calls Tryd.prog 13 #[.agg (arr 32 (bv (lf t0))), .slice q m c] w fun e w' => (∃ pf gf cf, e = .returned (.tuple #[.slice pf F.length cf, .int .i64 0]) ∧ Row w' pf gf 0 F.length cf (lf F)) ∧ Below w.heap.size w w' from fun w hb => by
    rw [hF]
    refine (fibuild_any (Lib.hid (A.out.below hb)) (Lib.hid (LL.out.below hb)) HX.out hol).mono ?_
    rintro e w' ⟨⟨pf, gf, cf, rfl, hO⟩, hb2⟩
    exact ⟨⟨pf, gf, cf, rfl, hO.row⟩, hb2⟩)
  have C2 := Lib.hid (show ∀ w B pf gf cf pl gl cl x vx, Below W.heap.size W w → Row w pf gf 0 F.length cf (lf F) → VOwn 32 1 B w pl gl 1 cl (fun _ => vx) → TextAt w vx x → Calls Tryd.prog 23 #[.agg (arr 32 (bv (lf t0))), .slice pf F.length cf, .slice pl 1 cl] w fun e w' => e = .returned (.tuple #[.bool ([x].any (hit (key0 (lf t0)) (key1 (lf t0)) S)), .int .i64 0]) ∧ Below w.heap.size w w' from fun w B pf gf cf pl gl cl x vx hb hR hV hT => by
    have h := fimatch_any HX.out (Lib.hid hR) hFL (Lib.hid (texts_one hV hT)) (Lib.hid (LL.out.below hb))
    rw [hvr] at h
    exact h)
  have MM := Lib.hid hm100
  by_cases h0 : m = 0
  · have E0 := Lib.hid (show decide ((m : Int) = 0) = true from decide_eq_true (by omega))
    have Z0 := Lib.hid (show ([[1]] : List (List Nat)).any (hit (key0 (lf t0)) (key1 (lf t0)) S) = false by
      have h1 : ts = [] := List.eq_nil_of_length_eq_zero (hml.trans h0)
      have h2 : S = [] := List.eq_nil_of_length_eq_zero (by rw [hS, sortN_len, fnums_len, h1]; rfl)
      rw [h2, List.any_cons, List.any_nil]
      unfold hit
      simp)
    clear hL w0 w1 w2 hc RV hi hm hq hmc A2 hml hts hN A LL HX hm100 hF hol hFL hS hvr h0
    go_enter Tryd.func6, Tryd.ntmps6
    go_wp2_with (first
    | ((with_reducible refine wpList_at 3 rfl ?_); refine mem_box E 23 rfl _ rfl rfl (arr_cells' 32 (bv (lf t0))) ?_; clear E; intro b3 w3 E)
    | ((with_reducible refine wpList_at 17 rfl ?_); refine wpList_kn rfl (.int .i64 ((m : Nat) : Int)) (by exact exec_min rfl rfl rfl rfl MIN.out) ?_)
    | ((with_reducible refine wpList_at 18 rfl ?_); refine wpList_kn rfl (.slice q m c) (by exact exec_sl rfl (CUTS.out _)) ?_)
    | ((with_reducible refine wpList_at 20 rfl ?_); refine mem_load_row E 23 rfl (.tmp 3) rfl rfl List.mem_cons_self Tryd.underlying23 rfl (by rw [arr_size]; kernel_rfl) ?_)
    | (go_at_call 13; with_reducible refine (C1.out _ E.out.below).mono ?_; rintro e w4 ⟨⟨pf, gf, cf, rfl, hR⟩, hb⟩; have RF := Lib.hid hR; replace E := Lib.hid (E.out.call hb); clear hR hb)
    | ((with_reducible refine wpList_at 29 rfl ?_); refine wpList_kn rfl (.bool true) (by exact exec_eqli rfl rfl rfl E0.out) ?_)
    | ((with_reducible refine wpList_at 31 rfl ?_); refine mem_load_row E 23 rfl (.tmp 3) rfl rfl List.mem_cons_self Tryd.underlying23 rfl (by rw [arr_size]; kernel_rfl) ?_)
    | ((with_reducible refine wpList_at 33 rfl ?_); refine wpList_bs1 rfl rfl (by kernel_rfl) ?_; intro p5 g5 w5 R5 hb5; have TX := Lib.hid (show TextAt w5 (.slice p5 1 1) [1] from ⟨p5, g5, 0, 1, rfl, by decide, R5.out⟩); replace RF := Lib.hid (RF.out.below hb5.out); replace E := Lib.hid (E.out.call hb5.out); clear hb5 R5)
    | ((with_reducible refine wpList_at 34 rfl ?_); refine wpList_vbs 30 32 1 1 rfl _ rfl (fun _ => .slice p5 1 1) (fun i _ => rfl) (by unfold maxLen; omega) (ps := #[(0, .slice p5 1 1)]) (by kernel_rfl) (fun W => run_bs1v Tryd.underlying30 infoText3 _ rfl W) rfl ?_; intro p6 g6 w6 N6 hb6; replace RF := Lib.hid (RF.out.below hb6.out); replace TX := Lib.hid (TX.out.below hb6.out); replace E := Lib.hid (E.out.call hb6.out); clear hb6)
    | (go_at_call 23; with_reducible refine (C2.out _ _ _ _ _ _ _ _ _ _ E.out.below RF.out N6.out TX.out).mono ?_; rw [Z0.out]; rintro e w8 ⟨rfl, hb⟩; replace E := Lib.hid (E.out.call hb); clear hb)
    | (go_at_call 17; refine (awake12_any _).mono ?_; rintro e w9 ⟨rfl, hb⟩; replace E := Lib.hid (E.out.call hb); clear hb))
    go_ret
    exact ⟨rfl, E.out.below⟩
  · obtain ⟨ua, hua⟩ : ∃ ua : Nat, IntKind.u64.wrap a2 = (ua : Int) := ⟨(a2 % 18446744073709551616).toNat, by rw [IntKind.wrap_u64]; omega⟩
    obtain ⟨k, hk⟩ : ∃ k, ua % m = k := ⟨_, rfl⟩
    have hkm : k < m := by rw [← hk]; exact Nat.mod_lt _ (by omega)
    have UA := Lib.hid hua
    have KK := Lib.hid (And.intro hk hkm)
    have E0 := Lib.hid (show decide ((m : Int) = 0) = false from decide_eq_false (by omega))
    obtain ⟨p2, g2, o2, c2, V2, hv2, hc2, RV2, hi2⟩ := A.out
    rw [hml] at hv2 RV2
    injection hv2 with e1 _ e3
    subst e1 e3
    obtain rfl := RV2.head (by omega)
    have hkt : k < ts.length := by rw [hml]; exact hkm
    obtain ⟨pt, gt, ot, ct, hVk, htl, RT⟩ := hi2 k hkt
    obtain ⟨x, hx⟩ : ∃ x, x = ts[k] := ⟨_, rfl⟩
    rw [← hx] at hVk htl RT
    have TX := Lib.hid (show TextAt W (.slice pt x.length ct) x from ⟨pt, gt, ot, ct, rfl, htl, RT⟩)
    obtain ⟨xn, hxn⟩ : ∃ xn, xn = x.length := ⟨_, rfl⟩
    rw [← hxn] at TX hVk
    have CC := Lib.hid (show ∀ w, Below W.heap.size W w → w.cell? ⟨g2, o2 + k * 1, none⟩ = some (.slice pt xn ct) from fun w hb => by
      rw [← hVk, Nat.mul_one]
      exact (RV2.below hb).cell k (by omega))
    have Z1 := Lib.hid (show [x].any (hit (key0 (lf t0)) (key1 (lf t0)) S) = decide (0 < xn) by
      rw [hS, hxn]
      exact holds_any (by rw [hx]; exact List.getElem_mem hkt))
    have GX := Lib.hid (show decide ((0 : Int) < (xn : Int)) = decide (0 < xn) by apply decide_eq_decide.2; omega)
    clear hL w0 w1 w2 hc RV hi hm hq hmc A2 hml hts hN A LL HX hm100 hF hol hFL hS hvr hua hk hkm hc2 RV2 hi2 hkt hVk htl RT hx hxn h0
    go_enter Tryd.func6, Tryd.ntmps6
    go_wp2_with (first
    | ((with_reducible refine wpList_at 3 rfl ?_); refine mem_box E 23 rfl _ rfl rfl (arr_cells' 32 (bv (lf t0))) ?_; clear E; intro b3 w3 E)
    | ((with_reducible refine wpList_at 17 rfl ?_); refine wpList_kn rfl (.int .i64 ((m : Nat) : Int)) (by exact exec_min rfl rfl rfl rfl MIN.out) ?_)
    | ((with_reducible refine wpList_at 18 rfl ?_); refine wpList_kn rfl (.slice (some ⟨g2, o2, none⟩) m c) (by exact exec_sl rfl (CUTS.out _)) ?_)
    | ((with_reducible refine wpList_at 20 rfl ?_); refine mem_load_row E 23 rfl (.tmp 3) rfl rfl List.mem_cons_self Tryd.underlying23 rfl (by rw [arr_size]; kernel_rfl) ?_)
    | (go_at_call 13; with_reducible refine (C1.out _ E.out.below).mono ?_; rintro e w4 ⟨⟨pf, gf, cf, rfl, hR⟩, hb⟩; have RF := Lib.hid hR; replace E := Lib.hid (E.out.call hb); clear hR hb)
    | ((with_reducible refine wpList_at 29 rfl ?_); refine wpList_kn rfl (.bool false) (by exact exec_eqli rfl rfl rfl E0.out) ?_)
    | ((with_reducible refine wpList_at 49 rfl ?_); refine wpList_kn rfl (.int .u64 (ua : Int)) (by exact exec_cvIU rfl rfl UA.out) ?_)
    | ((with_reducible refine wpList_at 52 rfl ?_); refine wpList_kn rfl (.int .u64 (m : Int)) (by exact exec_cvIU rfl rfl (by have := MM.out; rw [IntKind.wrap_u64]; omega)) ?_)
    | ((with_reducible refine wpList_at 53 rfl ?_); refine wpList_kn rfl (.int .u64 (k : Int)) (by exact exec_remU rfl rfl rfl (by have := KK.out; omega) KK.out.1 (by have := MM.out; omega)) ?_)
    | ((with_reducible refine wpList_at 54 rfl ?_); refine wpList_kn rfl (.int .i64 (k : Int)) (by exact exec_cvU rfl rfl (by have := KK.out; have := MM.out; rw [IntKind.wrap_i64]; omega)) ?_)
    | ((with_reducible refine wpList_at 55 rfl ?_); refine wpList_ix (k := 1) (j := k) Tryd.underlying30 (by kernel_rfl) (.tmp 47) (.tmp 54) rfl rfl rfl rfl KK.out.2 rfl ?_)
    | ((with_reducible refine wpList_at 56 rfl ?_); refine wpList_ld1 32 (.tmp 55) rfl rfl rfl Tryd.underlying32 rfl (CC.out _ E.out.below) ?_)
    | ((with_reducible refine wpList_at 58 rfl ?_); refine mem_load_row E 23 rfl (.tmp 3) rfl rfl List.mem_cons_self Tryd.underlying23 rfl (by rw [arr_size]; kernel_rfl) ?_)
    | ((with_reducible refine wpList_at 61 rfl ?_); refine wpList_vbs 30 32 1 1 rfl _ rfl (fun _ => .slice pt xn ct) (fun i _ => rfl) (by unfold maxLen; omega) (ps := #[(0, .slice pt xn ct)]) (by kernel_rfl) (fun W => run_bs1v Tryd.underlying30 infoText3 _ rfl W) rfl ?_; intro p6 g6 w6 N6 hb6; replace RF := Lib.hid (RF.out.below hb6.out); have TY := Lib.hid ((TX.out.below E.out.below).below hb6.out); replace E := Lib.hid (E.out.call hb6.out); clear hb6)
    | (go_at_call 23; with_reducible refine (C2.out _ _ _ _ _ _ _ _ _ _ E.out.below RF.out N6.out TY.out).mono ?_; rw [Z1.out]; rintro e w8 ⟨rfl, hb⟩; replace E := Lib.hid (E.out.call hb); clear hb)
    | ((with_reducible refine wpList_at 71 rfl ?_); refine wpList_kn rfl (.bool (decide (0 < xn))) (by exact exec_gtrN rfl rfl rfl GX.out) ?_)
    | ((with_reducible refine wpList_at 72 rfl ?_); refine wpList_kn rfl (.bool true) (by exact exec_eqBB rfl rfl rfl rfl) ?_)
    | (go_at_call 17; refine (awake12_any _).mono ?_; rintro e w9 ⟨rfl, hb⟩; replace E := Lib.hid (E.out.call hb); clear hb))
    go_ret
    exact ⟨rfl, E.out.below⟩

set_option maxRecDepth 100000 in
theorem lifted (os : Os) (started : os.Started) (H : Type) (enc : TypeId × Value → H) :
    ReturnsInHanded {} Tryd.checked os 6 .any (fun w args => (Rows.filterHoldsSpec.pre enc Tryd.prog Tryd.f6 [] false w args ∧ laidMetH Tryd.prog sipLaid w) ∧ sizedMet enc Tryd.prog Tryd.f6 (OpenSpec.ofChange Rows.filterHoldsSpec) false w args)
      (Rows.filterHoldsSpec.post enc Tryd.prog Tryd.f6 false true false false) := by
  refine returnsInHanded_of_change_and (C := Tryd.checked) (X := fun w _ => laidMetH Tryd.prog sipLaid w) (fun _ _ _ hh h => h.of_heap hh) own started (by kernel_rfl) Tryd.func6
    (ChangeSpec.witness_shaped (enc := enc) (C := Tryd.checked) (os := os) (X := fun w _ => laidMetH Tryd.prog sipLaid w) false (World.laidAll Tryd.prog os sipLaid) #[.agg #[.int .u8 0, .int .u8 0, .int .u8 0, .int .u8 0, .int .u8 0, .int .u8 0, .int .u8 0, .int .u8 0, .int .u8 0, .int .u8 0, .int .u8 0, .int .u8 0, .int .u8 0, .int .u8 0, .int .u8 0, .int .u8 0, .int .u8 0, .int .u8 0, .int .u8 0, .int .u8 0, .int .u8 0, .int .u8 0, .int .u8 0, .int .u8 0, .int .u8 0, .int .u8 0, .int .u8 0, .int .u8 0, .int .u8 0, .int .u8 0, .int .u8 0, .int .u8 0], .slice none 0 0, .int .i64 0] 8 (World.laidAll_os _ _ _)
      (World.shaped_of_ZipB (by kernel_rfl) (by kernel_rfl)) (by kernel_rfl) (by kernel_rfl) (by kernel_rfl)
      (by rw [MakeChecks.laidMetH_plain _ _ _ (by kernel_rfl)]; exact laidMet_laidAll _ (by kernel_rfl) (by kernel_rfl))) ?_
  intro W base args ds gs before hval0 hW _ hsz0 hL _
  have hval : ∀ (j : Nat) t v, Tryd.f6.params[j]? = some t → args[j]? = some v → Value.okWide Tryd.prog W .any base t v := hval0
  have hsz : (DataW.weightsEach Tryd.prog (Tryd.f6.params.toList ++ Rows.filterHoldsSpec.plain.varTypes Tryd.prog) (ds ++ gs)).all (· ≤ reachBytes) = true := hsz0
  have hW' := hW
  obtain ⟨p, q, hA0, hV, rfl, hfz, hnd⟩ := hW
  have hA : DataW.TrodAll enc Tryd.prog W 0 (fun _ => true) true Tryd.f6.params.toList args.toList ds p := hA0
  rw [Tryd.params6] at hA hval hsz
  obtain ⟨v0, vs0, d0, ds0, p0, q0, hargs, rfl, rfl, h0, r0⟩ := trodAll_cons hA
  obtain ⟨v1, vs1, d1, ds1, p1, q1, rfl, rfl, rfl, h1, r1⟩ := trodAll_cons r0
  obtain ⟨v2, vs2, d2, ds2, p2, q2, rfl, rfl, rfl, h2, r2⟩ := trodAll_cons r1
  obtain ⟨rfl, rfl, rfl⟩ := trodAll_nil r2
  obtain rfl : args = #[v0, v1, v2] := by cases args; simp_all
  obtain ⟨rfl, rfl⟩ := trodVars_none hV
  have k0 := h0
  have lt0 : ∀ x ∈ p0, x.block < W.heap.size := by obtain ⟨m, hm⟩ := k0; exact DataW.trod_lt m _ _ _ hm
  obtain ⟨t0, w0, rfl⟩ := open_hash_arg (hval 0 23 v0 rfl rfl) h0
  have k1 := h1
  have lt1 : ∀ x ∈ p1, x.block < W.heap.size := by obtain ⟨m, hm⟩ := k1; exact DataW.trod_lt m _ _ _ hm
  obtain ⟨t1, w1⟩ := open_texts_arg (j := 1) (hval 1 30 v1 rfl rfl) h1 hsz rfl rfl
  obtain ⟨a2, rfl, rfl, rfl, w2⟩ := open_int Tryd.underlying3 (hval 2 3 v2 rfl rfl) h2
  clear hA0 hval0 hsz0
  simp only [List.append_nil] at hW'
  refine (walk W hL t0 w0 v1 t1 w1 a2 w2).mono fun e W' ⟨he, bel⟩ => ?_
  subst he
  exact ⟨_, rfl, _, _, _, [], _, [], hW', trodAll_mk1 (shut_bool Tryd.underlying4 _), (trodAll_cons_mk (Below.trod laidOut (by kernel_rfl) (of_decide_eq_true (by kernel_rfl)) k0 bel lt0) (trodAll_cons_mk (Below.trod laidOut (by kernel_rfl) (of_decide_eq_true (by kernel_rfl)) k1 bel lt1) (trodAll_cons_mk (shut_int Tryd.underlying3 w2) trodAll_mk0))), rfl, bel.frame _, fun h => by cases h⟩

theorem over : Rows.FilterHoldsSaid :=
  OpenClaim.holds_of_wide 6 Tryd.f6 rfl rfl rfl rfl rfl rfl rfl ⟨rfl, rfl, rfl, rfl, rfl⟩ rfl rfl rfl rfl rfl (by kernel_rfl) Tryd.func6 (by kernel_rfl)
    (of_decide_eq_true (by kernel_rfl)) (by unfold Func.isWrapper; first | (rw [if_pos (by decide +kernel)]; kernel_rfl) | (rw [if_neg (by decide +kernel)]; exact ⟨rfl, rfl⟩))
    (fun os started H enc _ => lifted os started H enc)

/-- The tied card. -/
theorem card_holds : Rows.FilterHoldsCardSaid :=
  Claim7.holds_tied_plain_at .later [] [.data] true (true, "0199c94cb409754160ff1d9dd08a3fca2d5985d0812adfda39cfc780a5302024") false
    over (fun _ h => by cases h) (by kernel_rfl) (fun _ h => by cases h) filterHolds_row_tie rfl ⟨rfl, rfl⟩ (by kernel_rfl) rfl
    (fun f fn hf hfn => by
      obtain rfl : f = 6 := Option.some.inj ((show Tryd.prog.funcNamed "sporran/sporranlaw12.FilterHolds" = some 6 by kernel_rfl).symm.trans hf) |>.symm
      obtain rfl : fn = Tryd.f6 := (Option.some.inj (Tryd.func6.symm.trans hfn)).symm
      exact ⟨by kernel_rfl, fun j t ht => by
        rw [Tryd.params6] at ht
        have hm : t ∈ [23, 30, 3] := by simpa using Array.mem_of_getElem? ht
        have hall : ([23, 30, 3].all fun u => !Tryd.prog.wantsStandIn u) = true := by kernel_rfl
        exact (show Tryd.prog.wantsStandIn t = false by simpa using List.all_eq_true.1 hall t hm)⟩)
    (by kernel_rfl)
#print axioms card_holds
end Go.Proofs.YtoopcmcmjaikhaaDoor.filterHolds
