/- For every hash and every slice of texts: of the first sixty of them the program and the document build the same filter, and the items stay as they are; the call returns true. The table that the row lists (that of package sip) is laid as the card ties it. No other condition. -/
import Derived.Test.YtoopcmcmjaikhaaDoorFrb
import Derived.Test.YtoopcmcmjaikhaaDoorFvs
import Derived.Test.YtoopcmcmjaikhaaDoorZA
import Derived.Test.YtoopcmcmjaikhaaDoorLt2
import Derived.Test.YtoopcmcmjaikhaaDoorTie
import Derived.Test.YtoopcmcmjaikhaaDoorCards
import Derived.Lay
import Derived.ShutString
import Derived.ChangeOld
import Derived.Below
import Derived.SevenTiedAt
set_option linter.unusedVariables false
set_option linter.unusedSimpArgs false
namespace Go.Proofs.YtoopcmcmjaikhaaDoor.filterBuilds
open Go.ChangeShapes Go.WideShapes Go.ChangeAt Go.RowKit Go.Lib Go.Sort Go.Proofs.YtoopcmcmjaikhaaDoor

set_option maxRecDepth 100000
theorem own : ownKnob Tryd.prog.godebug = none := by kernel_rfl
set_option maxHeartbeats 32000000 in
theorem walk (W : World) (hL : laidMetH Tryd.prog sipLaid W) (t0 : List Nat) (w0 : IsH t0) (v1 : Value) (t1 : List (List Nat)) (w1 : TextsAt W v1 t1) :
    Calls Tryd.prog 4 #[.agg (arr 32 (bv (lf t0))), v1] W fun e w' => e = .returned (.bool true) ∧ Below W.heap.size W w' := by
  have E := Lib.hid (Mem.nil W)
  have LL := Lib.hid (of_sip hL)
  have HX := Lib.hid (show ∀ i, lf t0 i < 256 from lf_lt w0.2)
  obtain ⟨p, g, o, c, V, hv, hc, RV, hi⟩ := id w1
  subst hv
  obtain ⟨m, hm⟩ : ∃ m, m = min t1.length 60 := ⟨_, rfl⟩
  obtain ⟨q, hq, hmc, A2⟩ := texts_take w1 (m := m) (by omega)
  have hml : (t1.take m).length = m := by rw [List.length_take]; omega
  obtain ⟨ts, hts⟩ : ∃ ts, ts = t1.take m := ⟨_, rfl⟩
  rw [← hts] at A2 hml
  rw [hml] at A2
  have A := Lib.hid A2
  have CUTS := Lib.hid (show ∀ w, (Instr.sliceAt 30 (.slice p t1.length c) none (some (.int .i64 ((m : Nat) : Int))) none).run Tryd.prog w = .ok (.slice q m c) w from fun w => run_cut Tryd.underlying30 (by intro w; kernel_rfl) hq hmc w)
  obtain ⟨N, hN⟩ : ∃ N, N = t1.length := ⟨_, rfl⟩
  rw [← hN] at CUTS ⊢
  have MIN := Lib.hid (show min (N : Int) 60 = ((m : Nat) : Int) by omega)
  have hm60 : m ≤ 60 := by omega
  obtain ⟨F, hF⟩ : ∃ F, F = fB (key0 (lf t0)) (key1 (lf t0)) (onceL ts) := ⟨_, rfl⟩
  have hol : (onceL ts).length ≤ 60 := Nat.le_trans (once_any_len ts) (by omega)
  have C0 := Lib.hid (show ∀ w, Below W.heap.size W w → Calls Tryd.prog 12 #[.slice q m c] w fun e w' => (∃ pt ct, e = .returned (.slice pt m ct) ∧ TextsAt w' (.slice pt m ct) ts) ∧ Below w.heap.size w w' from fun w hb => by
    refine (texts_any (Lib.hid (A.out.below hb))).mono ?_
    rintro e w' ⟨⟨v', rfl, hT⟩, hb2⟩
    have hT2 := hT.at
    obtain ⟨p2, g2, o2, c2, V2, hv2, -⟩ := id hT2
    rw [hml] at hv2
    subst hv2
    exact ⟨⟨p2, c2, rfl, hT2⟩, hb2⟩)
  have C1 := Lib.hid (show ∀ w v, Below W.heap.size W w → TextsAt w v ts → Calls Tryd.prog 13 #[.agg (arr 32 (bv (lf t0))), v] w fun e w' => (∃ pf gf cf, e = .returned (.tuple #[.slice pf F.length cf, .int .i64 0]) ∧ Row w' pf gf 0 F.length cf (lf F)) ∧ Below w.heap.size w w' from fun w v hb hT => by
    rw [hF]
    refine (fibuild_any (Lib.hid hT) (Lib.hid (LL.out.below hb)) HX.out (Nat.le_trans hol (by decide))).mono ?_
    rintro e w' ⟨⟨pf, gf, cf, rfl, hO⟩, hb2⟩
    exact ⟨⟨pf, gf, cf, rfl, hO.row⟩, hb2⟩)
  have C2 := Lib.hid (show ∀ w, Below W.heap.size W w → Calls Tryd.prog 14 #[.agg (arr 32 (bv (lf t0))), .slice q m c] w fun e w' => (∃ pf gf cf, e = .returned (.tuple #[.slice pf F.length cf, .int .i64 0]) ∧ Row w' pf gf 0 F.length cf (lf F)) ∧ Below w.heap.size w w' from fun w hb => by
    rw [hF]
    refine (rfibuild_any (Lib.hid (A.out.below hb)) HX.out (by rw [hml]; omega)).mono ?_
    rintro e w' ⟨⟨pf, gf, cf, rfl, hO⟩, hb2⟩
    exact ⟨⟨pf, gf, cf, rfl, hO.row⟩, hb2⟩)
  clear hL w0 w1 hc RV hi hm hq hmc A2 hml hts hN LL HX hm60 hF hol
  go_enter Tryd.func4, Tryd.ntmps4
  go_wp2_with (first
    | ((with_reducible refine wpList_at 2 rfl ?_); refine mem_box E 23 rfl _ rfl rfl (arr_cells' 32 (bv (lf t0))) ?_; clear E; intro b3 w3 E)
    | ((with_reducible refine wpList_at 13 rfl ?_); refine wpList_kn rfl (.int .i64 ((m : Nat) : Int)) (by exact exec_min rfl rfl rfl rfl MIN.out) ?_)
    | ((with_reducible refine wpList_at 14 rfl ?_); refine wpList_kn rfl (.slice q m c) (by exact exec_sl rfl (CUTS.out _)) ?_)
    | (go_at_call 12; with_reducible refine (C0.out _ E.out.below).mono ?_; rintro e w4 ⟨⟨pt, ct, rfl, hT⟩, hb⟩; have TT := Lib.hid hT; replace E := Lib.hid (E.out.call hb); clear hT hb)
    | ((with_reducible refine wpList_at 18 rfl ?_); refine mem_load_row E 23 rfl (.tmp 2) rfl rfl List.mem_cons_self Tryd.underlying23 rfl (by rw [arr_size]; kernel_rfl) ?_)
    | (go_at_call 13; with_reducible refine (C1.out _ _ E.out.below TT.out).mono ?_; rintro e w5 ⟨⟨pf, gf, cf, rfl, hR⟩, hb⟩; have RF := Lib.hid hR; replace TT := Lib.hid (TT.out.below hb); replace E := Lib.hid (E.out.call hb); clear hR hb)
    | ((with_reducible refine wpList_at 24 rfl ?_); refine mem_load_row E 23 rfl (.tmp 2) rfl rfl List.mem_cons_self Tryd.underlying23 rfl (by rw [arr_size]; kernel_rfl) ?_)
    | (go_at_call 14; with_reducible refine (C2.out _ E.out.below).mono ?_; rintro e w6 ⟨⟨pf2, gf2, cf2, rfl, hR⟩, hb⟩; have RF2 := Lib.hid hR; replace RF := Lib.hid (RF.out.below hb); replace TT := Lib.hid (TT.out.below hb); replace E := Lib.hid (E.out.call hb); clear hR hb)
    | (go_at_call 15; refine (equal_any RF RF2 rfl (Lib.hid fun _ _ => rfl)).mono ?_; rintro e w7 ⟨rfl, rfl⟩)
    | (go_at_call 16; refine (same_texts TT (Lib.hid (A.out.below E.out.below))).mono ?_; rintro e w8 ⟨rfl, hb⟩; replace E := Lib.hid (E.out.call hb); clear hb)
    | (go_at_call 17; refine (awake12_any _).mono ?_; rintro e w9 ⟨rfl, hb⟩; replace E := Lib.hid (E.out.call hb); clear hb))
  go_ret
  exact ⟨rfl, E.out.below⟩

set_option maxRecDepth 100000 in
theorem lifted (os : Os) (started : os.Started) (H : Type) (enc : TypeId × Value → H) :
    ReturnsInHanded {} Tryd.checked os 4 .any (fun w args => (Rows.filterBuildsSpec.pre enc Tryd.prog Tryd.f4 [] false w args ∧ laidMetH Tryd.prog sipLaid w) ∧ sizedMet enc Tryd.prog Tryd.f4 (OpenSpec.ofChange Rows.filterBuildsSpec) false w args)
      (Rows.filterBuildsSpec.post enc Tryd.prog Tryd.f4 false true false false) := by
  refine returnsInHanded_of_change_and (C := Tryd.checked) (X := fun w _ => laidMetH Tryd.prog sipLaid w) (fun _ _ _ hh h => h.of_heap hh) own started (by kernel_rfl) Tryd.func4
    (ChangeSpec.witness_shaped (enc := enc) (C := Tryd.checked) (os := os) (X := fun w _ => laidMetH Tryd.prog sipLaid w) false (World.laidAll Tryd.prog os sipLaid) #[.agg #[.int .u8 0, .int .u8 0, .int .u8 0, .int .u8 0, .int .u8 0, .int .u8 0, .int .u8 0, .int .u8 0, .int .u8 0, .int .u8 0, .int .u8 0, .int .u8 0, .int .u8 0, .int .u8 0, .int .u8 0, .int .u8 0, .int .u8 0, .int .u8 0, .int .u8 0, .int .u8 0, .int .u8 0, .int .u8 0, .int .u8 0, .int .u8 0, .int .u8 0, .int .u8 0, .int .u8 0, .int .u8 0, .int .u8 0, .int .u8 0, .int .u8 0, .int .u8 0], .slice none 0 0] 8 (World.laidAll_os _ _ _)
      (World.shaped_of_ZipB (by kernel_rfl) (by kernel_rfl)) (by kernel_rfl) (by kernel_rfl) (by kernel_rfl)
      (by rw [MakeChecks.laidMetH_plain _ _ _ (by kernel_rfl)]; exact laidMet_laidAll _ (by kernel_rfl) (by kernel_rfl))) ?_
  intro W base args ds gs before hval0 hW _ hsz0 hL _
  have hval : ∀ (j : Nat) t v, Tryd.f4.params[j]? = some t → args[j]? = some v → Value.okWide Tryd.prog W .any base t v := hval0
  have hsz : (DataW.weightsEach Tryd.prog (Tryd.f4.params.toList ++ Rows.filterBuildsSpec.plain.varTypes Tryd.prog) (ds ++ gs)).all (· ≤ reachBytes) = true := hsz0
  have hW' := hW
  obtain ⟨p, q, hA0, hV, rfl, hfz, hnd⟩ := hW
  have hA : DataW.TrodAll enc Tryd.prog W 0 (fun _ => true) true Tryd.f4.params.toList args.toList ds p := hA0
  rw [Tryd.params4] at hA hval hsz
  obtain ⟨v0, vs0, d0, ds0, p0, q0, hargs, rfl, rfl, h0, r0⟩ := trodAll_cons hA
  obtain ⟨v1, vs1, d1, ds1, p1, q1, rfl, rfl, rfl, h1, r1⟩ := trodAll_cons r0
  obtain ⟨rfl, rfl, rfl⟩ := trodAll_nil r1
  obtain rfl : args = #[v0, v1] := by cases args; simp_all
  obtain ⟨rfl, rfl⟩ := trodVars_none hV
  have k0 := h0
  have lt0 : ∀ x ∈ p0, x.block < W.heap.size := by obtain ⟨m, hm⟩ := k0; exact DataW.trod_lt m _ _ _ hm
  obtain ⟨t0, w0, rfl⟩ := open_hash_arg (hval 0 23 v0 rfl rfl) h0
  have k1 := h1
  have lt1 : ∀ x ∈ p1, x.block < W.heap.size := by obtain ⟨m, hm⟩ := k1; exact DataW.trod_lt m _ _ _ hm
  obtain ⟨t1, w1⟩ := open_texts_arg (j := 1) (hval 1 30 v1 rfl rfl) h1 hsz rfl rfl
  clear hA0 hval0 hsz0
  simp only [List.append_nil] at hW'
  refine (walk W hL t0 w0 v1 t1 w1).mono fun e W' ⟨he, bel⟩ => ?_
  subst he
  exact ⟨_, rfl, _, _, _, [], _, [], hW', trodAll_mk1 (shut_bool Tryd.underlying4 _), (trodAll_cons_mk (Below.trod laidOut (by kernel_rfl) (of_decide_eq_true (by kernel_rfl)) k0 bel lt0) (trodAll_cons_mk (Below.trod laidOut (by kernel_rfl) (of_decide_eq_true (by kernel_rfl)) k1 bel lt1) trodAll_mk0)), rfl, bel.frame _, fun h => by cases h⟩

theorem over : Rows.FilterBuildsSaid :=
  OpenClaim.holds_of_wide 4 Tryd.f4 rfl rfl rfl rfl rfl rfl rfl ⟨rfl, rfl, rfl, rfl, rfl⟩ rfl rfl rfl rfl rfl (by kernel_rfl) Tryd.func4 (by kernel_rfl)
    (of_decide_eq_true (by kernel_rfl)) (by unfold Func.isWrapper; first | (rw [if_pos (by decide +kernel)]; kernel_rfl) | (rw [if_neg (by decide +kernel)]; exact ⟨rfl, rfl⟩))
    (fun os started H enc _ => lifted os started H enc)

/-- The tied card. -/
theorem card_holds : Rows.FilterBuildsCardSaid :=
  Claim7.holds_tied_plain_at .later [] [.data] true (true, "0199c94cb409754160ff1d9dd08a3fca2d5985d0812adfda39cfc780a5302024") false
    over (fun _ h => by cases h) (by kernel_rfl) (fun _ h => by cases h) filterBuilds_row_tie rfl ⟨rfl, rfl⟩ (by kernel_rfl) rfl
    (fun f fn hf hfn => by
      obtain rfl : f = 4 := Option.some.inj ((show Tryd.prog.funcNamed "sporran/sporranlaw12.FilterBuilds" = some 4 by kernel_rfl).symm.trans hf) |>.symm
      obtain rfl : fn = Tryd.f4 := (Option.some.inj (Tryd.func4.symm.trans hfn)).symm
      exact ⟨by kernel_rfl, fun j t ht => by
        rw [Tryd.params4] at ht
        have hm : t ∈ [23, 30] := by simpa using Array.mem_of_getElem? ht
        have hall : ([23, 30].all fun u => !Tryd.prog.wantsStandIn u) = true := by kernel_rfl
        exact (show Tryd.prog.wantsStandIn t = false by simpa using List.all_eq_true.1 hall t hm)⟩)
    (by kernel_rfl)
#print axioms card_holds
end Go.Proofs.YtoopcmcmjaikhaaDoor.filterBuilds
