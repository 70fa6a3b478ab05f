/- For every number and all slices of bytes: the script of a kind has that kind, and its bytes; a script of a kind is made of these; the call returns true. The table of patterns is laid as the program's text lays it; the card ties it to that text. No other condition. -/
import Derived.Test.YtofmleiblcafiaaDoorPs
import Derived.Test.YtofmleiblcafiaaDoorTie
import Derived.Test.YtofmleiblcafiaaDoorCards
import Derived.ShutString
import Derived.ChangeOld
import Derived.Below
import Derived.SevenTiedAt
set_option linter.unusedVariables false
set_option linter.unusedSimpArgs false
namespace Go.Proofs.YtofmleiblcafiaaDoor.scriptBack
open Go.ChangeShapes Go.WideShapes Go.ChangeAt Go.RowKit Go.Lib Go.Sort Go.Proofs.YtofmleiblcafiaaDoor

set_option maxRecDepth 100000
theorem sixth (a : Int) : ∃ j : Nat, j < 6 ∧ IntKind.i64.wrap ((IntKind.u64.wrap a).tmod 6) = (j : Int) := by
  have h2 : 0 ≤ (a % 18446744073709551616) % 6 := Int.emod_nonneg _ (by omega)
  have h3 : (a % 18446744073709551616) % 6 < 6 := Int.emod_lt_of_pos _ (by omega)
  refine ⟨((a % 18446744073709551616) % 6).toNat, by omega, ?_⟩
  rw [IntKind.wrap_u64, Int.tmod_eq_emod_of_nonneg (by omega), Int.toNat_of_nonneg h2, IntKind.wrap_i64]
  omega
/-- The script of a kind has that kind. -/
theorem cls_mk {j : Nat} (hj : j < 6) {b r : List Nat} (h : mkOf ((j + 1 : Nat) : Int) b = some r) {k : Nat} {b' : List Nat} (hc : Cls r k b') : k = j + 1 ∧ b' = b := by
  by_cases ho : okc j b.length = true
  · rw [mkOf_yes hj rfl ho] at h
    injection h with h
    exact hc.same (.inl ⟨j, hj, rfl, h.symm, ho⟩)
  · rw [mkOf_no (fun j' h' hk => by
      obtain rfl : j' = j := by omega
      simpa using ho)] at h
    cases h
/-- A script of a kind is made of its bytes. -/
theorem mk_cls {xs b : List Nat} {k : Nat} (h : Cls xs k b) : (k = 0 ∧ b = []) ∨ (k ≠ 0 ∧ mkOf (k : Int) b = some xs) := by
  rcases h with ⟨j, hj, rfl, h1, h2⟩ | ⟨rfl, rfl, _⟩
  · exact .inr ⟨by omega, by rw [mkOf_yes hj rfl h2, h1]⟩
  · exact .inl ⟨rfl, rfl⟩
theorem mk_len {kind : Int} {b r : List Nat} (h : mkOf kind b = some r) : r.length ≤ b.length + 6 := by
  unfold mkOf at h
  split at h
  · injection h with h
    have h1 : ∀ j, (hL j).length ≤ 3 := fun j => by rw [← hB_bytes, bytL_length]; exact (hB_size j).2
    have h2 : ∀ j, (tL j).length ≤ 3 := fun j => by rw [← tB_bytes, bytL_length]; exact tB_size j
    have := h1 (kind.toNat - 1)
    have := h2 (kind.toNat - 1)
    rw [← h]
    simp only [List.length_append]
    omega
  · cases h
theorem cls_len {xs b : List Nat} {k : Nat} (h : Cls xs k b) : b.length ≤ xs.length := by
  rcases h with ⟨j, hj, rfl, h1, h2⟩ | ⟨rfl, rfl, _⟩
  · rw [h1]; simp only [List.length_append]; omega
  · simp
set_option maxHeartbeats 16000000 in
theorem walk (W : World) (hL : laidMetH Tryd.prog patLaid W) (a0 : Int) (w0 : (Lit.int .i64 a0).wf = true) (a1 : Option Addr) (g1 o1 n1 c1 : Nat) (x1 : Nat → Nat) (w1 : Row W a1 g1 o1 n1 c1 x1) (m1 : c1 ≤ 140737488351232) (a2 : Option Addr) (g2 o2 n2 c2 : Nat) (x2 : Nat → Nat) (w2 : Row W a2 g2 o2 n2 c2 x2) (m2 : c2 ≤ 140737488351232) :
    Calls Tryd.prog 5 #[.int .i64 a0, .slice a1 n1 c1, .slice a2 n2 c2] W fun e w' => e = .returned (.bool true) ∧ Below W.heap.size W w' := by
  have PL := Lib.hid (of_pat hL)
  have hn1 : n1 ≤ 140737488351232 := Nat.le_trans w1.le m1
  have hn2 : n2 ≤ 140737488351232 := Nat.le_trans w2.le m2
  have R := Lib.hid w1
  have R2 := Lib.hid w2
  obtain ⟨j, hj, hj2⟩ := sixth a0
  obtain ⟨u, hu⟩ : ∃ u, u = IntKind.u64.wrap a0 := ⟨_, rfl⟩
  obtain ⟨rv, hrv⟩ : ∃ rv, rv = u.tmod 6 := ⟨_, rfl⟩
  obtain ⟨K, hK⟩ : ∃ K : Int, K = ((j + 1 : Nat) : Int) := ⟨_, rfl⟩
  have x1' : IntKind.u64.wrap a0 = u := hu.symm
  have x3' : u.tmod 6 = rv := hrv.symm
  have x4' : IntKind.i64.wrap rv = (j : Int) := by rw [hrv, hu]; exact hj2
  have x5' : 1 + (j : Int) = K := by omega
  have HK := Lib.hid hK
  have HJ := Lib.hid hj
  clear hL w0 w1 m1 w2 m2 hu hrv hK hj2
  cases hmk : mkOf K (tl x1 n1) with
  | none =>
    have HM := Lib.hid hmk
    clear hmk
    go_enter Tryd.func5, Tryd.ntmps5
    go_upto_region 7 with (go_at_call 17; ((with_reducible refine (make_any PL.out K R hn1).mono ?_); intro e w3 hE); obtain ⟨r, ok, p3, g3, c3, rfl, ho, hr, N, hb⟩ := hE; rw [HM.out] at ho hr; subst ho hr; have BB := Lib.hid hb; replace PL := Lib.hid (PL.out.below hb); clear N hb R)
    clear x1' x3' x4' x5' HM
    go_upto_region 8 with (go_at_call 13; refine (class_any PL.out (Lib.hid (R2.out.below BB.out)) (by omega)).mono ?_; rintro e w4 ⟨k, b, p4, g4, c4, rfl, hc, N, hb⟩; have HC := Lib.hid hc; have N4 := Lib.hid N.row; replace BB := Lib.hid (BB.out.trans (hb.mono BB.out.size)); replace PL := Lib.hid (PL.out.below hb); clear hc N hb)
    have hbl : b.length ≤ 140737488351232 := by have := cls_len HC.out; rw [tl_length] at this; omega
    rcases mk_cls HC.out with ⟨rfl, rfl⟩ | ⟨hk, hm⟩
    · clear HC
      go_wp2_with (go_at_call 16; refine (awake13_any PL).mono ?_; rintro e w5 ⟨rfl, hb⟩; replace BB := Lib.hid (BB.out.trans (hb.mono BB.out.size)); clear hb)
      go_ret
      exact ⟨rfl, BB.out⟩
    · have HM := Lib.hid hm
      have b0 : ((k : Int) == 0) = false := by simpa using (show ¬ ((k : Int) = 0) by omega)
      obtain ⟨m, hm2⟩ : ∃ m, m = b.length := ⟨_, rfl⟩
      have HM2 := Lib.hid hm2
      rw [← hm2] at N4 hbl ⊢
      clear hk hm hm2 HC
      go_wp2_with (first
        | (go_at_call 17; refine (make_any PL.out (k : Int) N4 hbl).mono ?_; intro e w5 hE; obtain ⟨r5, ok5, p5, g5, c5, rfl, ho, hr, N, hb⟩ := hE; rw [HM2.out, tl_lf, HM.out] at ho hr; subst ho; obtain rfl : r5 = tl x2 n2 := hr; have R5 := Lib.hid (show Row w5 p5 g5 0 n2 c5 (lf (tl x2 n2)) by have := N; rwa [tl_length] at this); rw [tl_length]; replace BB := Lib.hid (BB.out.trans (hb.mono BB.out.size)); clear N hb)
        | (go_at_call 15; refine (equal_any R5 (Lib.hid (R2.out.below BB.out)) rfl (Lib.hid fun i hi => lf_tl x2 hi)).mono ?_; rintro e w6 ⟨rfl, rfl⟩))
      go_ret
      exact ⟨rfl, BB.out⟩
  | some rr =>
    have MS := Lib.hid (show mkOf ((j + 1 : Nat) : Int) (tl x1 n1) = some rr by rw [← HK.out]; exact hmk)
    have HM := Lib.hid hmk
    have hrl : rr.length ≤ 140737488355328 := by have := mk_len hmk; rw [tl_length] at this; omega
    clear hmk
    obtain ⟨m, hm2⟩ : ∃ m, m = rr.length := ⟨_, rfl⟩
    have HM2 := Lib.hid hm2
    rw [← hm2] at hrl
    clear hm2
    go_enter Tryd.func5, Tryd.ntmps5
    go_upto_region 7 with (first
      | (go_at_call 17; ((with_reducible refine (make_any PL.out K R hn1).mono ?_); intro e w3 hE); obtain ⟨r, ok, p3, g3, c3, rfl, ho, hr, N, hb⟩ := hE; rw [HM.out] at ho hr; subst ho; obtain rfl : r = rr := hr; have BB := Lib.hid hb; replace PL := Lib.hid (PL.out.below hb); replace R := Lib.hid (R.out.below hb); rw [← HM2.out]; have N3 := Lib.hid (show Row w3 p3 g3 0 m c3 (lf r) by rw [HM2.out]; exact N); clear N hb)
      | (go_at_call 13; refine (class_any PL.out N3 hrl).mono ?_; rintro e w4 ⟨k, b, p4, g4, c4, rfl, hc, N, hb⟩; rw [HM2.out, tl_lf] at hc; obtain ⟨hk, hbb⟩ := cls_mk HJ.out MS.out hc; subst hk hbb; rw [tl_length, ← HK.out]; have N4 := Lib.hid (show Row w4 p4 g4 0 n1 c4 (lf (tl x1 n1)) by have := N.row; rwa [tl_length] at this); replace BB := Lib.hid (BB.out.trans (hb.mono BB.out.size)); replace PL := Lib.hid (PL.out.below hb); replace R := Lib.hid (R.out.below hb); clear hc N hb N3)
      | (go_at_call 15; refine (equal_any N4 R rfl (Lib.hid fun i hi => lf_tl x1 hi)).mono ?_; rintro e w6 ⟨rfl, rfl⟩))
    clear x1' x3' x4' x5' HM MS HM2 hrl R
    go_upto_region 8 with (go_at_call 13; refine (class_any PL.out (Lib.hid (R2.out.below BB.out)) (by omega)).mono ?_; rintro e w4 ⟨k, b, p4, g4, c4, rfl, hc, N, hb⟩; have HC := Lib.hid hc; have N4 := Lib.hid N.row; replace BB := Lib.hid (BB.out.trans (hb.mono BB.out.size)); replace PL := Lib.hid (PL.out.below hb); clear hc N hb)
    have hbl : b.length ≤ 140737488351232 := by have := cls_len HC.out; rw [tl_length] at this; omega
    rcases mk_cls HC.out with ⟨rfl, rfl⟩ | ⟨hk, hm⟩
    · clear HC
      go_wp2_with (go_at_call 16; refine (awake13_any PL).mono ?_; rintro e w5 ⟨rfl, hb⟩; replace BB := Lib.hid (BB.out.trans (hb.mono BB.out.size)); clear hb)
      go_ret
      exact ⟨rfl, BB.out⟩
    · have HM := Lib.hid hm
      have b0 : ((k : Int) == 0) = false := by simpa using (show ¬ ((k : Int) = 0) by omega)
      obtain ⟨m, hm2⟩ : ∃ m, m = b.length := ⟨_, rfl⟩
      have HM2 := Lib.hid hm2
      rw [← hm2] at N4 hbl ⊢
      clear hk hm hm2 HC
      go_wp2_with (first
        | (go_at_call 17; refine (make_any PL.out (k : Int) N4 hbl).mono ?_; intro e w5 hE; obtain ⟨r5, ok5, p5, g5, c5, rfl, ho, hr, N, hb⟩ := hE; rw [HM2.out, tl_lf, HM.out] at ho hr; subst ho; obtain rfl : r5 = tl x2 n2 := hr; have R5 := Lib.hid (show Row w5 p5 g5 0 n2 c5 (lf (tl x2 n2)) by have := N; rwa [tl_length] at this); rw [tl_length]; replace BB := Lib.hid (BB.out.trans (hb.mono BB.out.size)); clear N hb)
        | (go_at_call 15; refine (equal_any R5 (Lib.hid (R2.out.below BB.out)) rfl (Lib.hid fun i hi => lf_tl x2 hi)).mono ?_; rintro e w6 ⟨rfl, rfl⟩))
      go_ret
      exact ⟨rfl, BB.out⟩

set_option maxRecDepth 100000 in
theorem lifted (os : Os) (started : os.Started) (H : Type) (enc : TypeId × Value → H) :
    ReturnsInHanded {} Tryd.checked os 5 .any (fun w args => (Rows.scriptBackSpec.pre enc Tryd.prog Tryd.f5 [] false w args ∧ laidMetH Tryd.prog patLaid w) ∧ sizedMet enc Tryd.prog Tryd.f5 (OpenSpec.ofChange Rows.scriptBackSpec) false w args)
      (Rows.scriptBackSpec.post enc Tryd.prog Tryd.f5 false true false false) := by
  refine returnsInHanded_of_change_and (C := Tryd.checked) (X := fun w _ => laidMetH Tryd.prog patLaid w) (fun _ _ _ hh h => h.of_heap hh) own started (by kernel_rfl) Tryd.func5
    (ChangeSpec.witness_shaped (enc := enc) (C := Tryd.checked) (os := os) (X := fun w _ => laidMetH Tryd.prog patLaid w) false (World.doorLaid Tryd.prog 400 os) #[.int .i64 0, .slice none 0 0, .slice none 0 0] 8 rfl (World.shaped_of_RefB (by kernel_rfl) (by kernel_rfl)) (by kernel_rfl) (by kernel_rfl) (by kernel_rfl) (pat_door_met os _)) ?_
  intro W base args ds gs before hval0 hW _ hsz0 hL _
  have hval : ∀ (j : Nat) t v, Tryd.f5.params[j]? = some t → args[j]? = some v → Value.okWide Tryd.prog W .any base t v := hval0
  have hsz : (DataW.weightsEach Tryd.prog (Tryd.f5.params.toList ++ Rows.scriptBackSpec.plain.varTypes Tryd.prog) (ds ++ gs)).all (· ≤ reachBytes) = true := hsz0
  have hW' := hW
  obtain ⟨p, q, hA0, hV, rfl, hfz, hnd⟩ := hW
  have hA : DataW.TrodAll enc Tryd.prog W 0 (fun _ => true) true Tryd.f5.params.toList args.toList ds p := hA0
  rw [Tryd.params5] at hA hval hsz
  obtain ⟨v0, vs0, d0, ds0, p0, q0, hargs, rfl, rfl, h0, r0⟩ := trodAll_cons hA
  obtain ⟨v1, vs1, d1, ds1, p1, q1, rfl, rfl, rfl, h1, r1⟩ := trodAll_cons r0
  obtain ⟨v2, vs2, d2, ds2, p2, q2, rfl, rfl, rfl, h2, r2⟩ := trodAll_cons r1
  obtain ⟨rfl, rfl, rfl⟩ := trodAll_nil r2
  obtain rfl : args = #[v0, v1, v2] := by cases args; simp_all
  obtain ⟨rfl, rfl⟩ := trodVars_none hV
  obtain ⟨a0, rfl, rfl, rfl, w0⟩ := open_int Tryd.underlying3 (hval 0 3 v0 rfl rfl) h0
  have k1 := h1
  have lt1 : ∀ x ∈ p1, x.block < W.heap.size := by obtain ⟨m, hm⟩ := k1; exact DataW.trod_lt m _ _ _ hm
  obtain ⟨a1, g1, o1, n1, c1, x1, rfl, w1, m1⟩ := open_row (j := 1) (hval 1 22 v1 rfl rfl) h1 hsz rfl rfl
  have k2 := h2
  have lt2 : ∀ x ∈ p2, x.block < W.heap.size := by obtain ⟨m, hm⟩ := k2; exact DataW.trod_lt m _ _ _ hm
  obtain ⟨a2, g2, o2, n2, c2, x2, rfl, w2, m2⟩ := open_row (j := 2) (hval 2 22 v2 rfl rfl) h2 hsz rfl rfl
  clear hA0 hval0 hsz0
  simp only [List.append_nil] at hW'
  refine (walk W hL a0 w0 a1 g1 o1 n1 c1 x1 w1 m1 a2 g2 o2 n2 c2 x2 w2 m2).mono fun e W' ⟨he, bel⟩ => ?_
  subst he
  exact ⟨_, rfl, _, _, _, [], _, [], hW', trodAll_mk1 (shut_bool Tryd.underlying4 _), (trodAll_cons_mk (shut_int Tryd.underlying3 w0) (trodAll_cons_mk (Below.trod laidOut (by kernel_rfl) (of_decide_eq_true (by kernel_rfl)) k1 bel lt1) (trodAll_cons_mk (Below.trod laidOut (by kernel_rfl) (of_decide_eq_true (by kernel_rfl)) k2 bel lt2) trodAll_mk0))), rfl, bel.frame _, fun h => by cases h⟩

theorem over : Rows.ScriptBackSaid :=
  OpenClaim.holds_of_wide 5 Tryd.f5 rfl rfl rfl rfl rfl rfl rfl ⟨rfl, rfl, rfl, rfl, rfl⟩ rfl rfl rfl rfl rfl (by kernel_rfl) Tryd.func5 (by kernel_rfl)
    (of_decide_eq_true (by kernel_rfl)) (by unfold Func.isWrapper; first | (rw [if_pos (by decide +kernel)]; kernel_rfl) | (rw [if_neg (by decide +kernel)]; exact ⟨rfl, rfl⟩))
    (fun os started H enc _ => lifted os started H enc)

/-- The tied card. -/
theorem card_holds : Rows.ScriptBackCardSaid :=
  Claim7.holds_tied_plain_at .later [] [.data] true (true, "b32e7a9d5d5d1f98a55fc2d6bc5609c027a3105d4a9a0737bc6d65fbf460a3fe") false
    over (fun _ h => by cases h) (by kernel_rfl) (fun _ h => by cases h) scriptBack_row_tie rfl ⟨rfl, rfl⟩ (by kernel_rfl) rfl
    (fun f fn hf hfn => by
      obtain rfl : f = 5 := Option.some.inj ((show Tryd.prog.funcNamed "sporran/sporranlaw13.ScriptBack" = some 5 by kernel_rfl).symm.trans hf) |>.symm
      obtain rfl : fn = Tryd.f5 := (Option.some.inj (Tryd.func5.symm.trans hfn)).symm
      exact ⟨by kernel_rfl, fun j t ht => by
        rw [Tryd.params5] at ht
        have hm : t ∈ [3, 22] := by simpa using Array.mem_of_getElem? ht
        have hall : ([3, 22].all fun u => !Tryd.prog.wantsStandIn u) = true := by kernel_rfl
        exact (show Tryd.prog.wantsStandIn t = false by simpa using List.all_eq_true.1 hall t hm)⟩)
    (by kernel_rfl)
#print axioms card_holds
end Go.Proofs.YtofmleiblcafiaaDoor.scriptBack
