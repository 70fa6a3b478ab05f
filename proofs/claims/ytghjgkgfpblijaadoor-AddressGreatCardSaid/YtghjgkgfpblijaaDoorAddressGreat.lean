/- For every slice of bytes (nil too): an address of bits in great letters says the same script, and with its first letter small it says nothing; the call returns true. The seven tables that the row lists are laid as the program's text lays them; the card ties them to that text. No other condition. -/
import Derived.Test.YtghjgkgfpblijaaDoorB7
import Derived.Test.YtghjgkgfpblijaaDoorTie
import Derived.Test.YtghjgkgfpblijaaDoorCards
import Derived.ShutString
import Derived.ChangeOld
import Derived.Below
import Derived.SevenTiedAt
set_option linter.unusedVariables false
set_option linter.unusedSimpArgs false
namespace Go.Proofs.YtghjgkgfpblijaaDoor.addressGreat
open Go.ChangeShapes Go.WideShapes Go.ChangeAt Go.RowKit Go.Lib Go.Sort Go.Proofs.YtghjgkgfpblijaaDoor

set_option maxRecDepth 100000
theorem frozen_below {w w' : World} {g : Nat} (hb : Below w.heap.size w w') (hg : g < w.heap.size) (h : w.frozen? ⟨g, 0, none⟩ = false) : w'.frozen? ⟨g, 0, none⟩ = false := by
  unfold World.frozen? at *
  rw [hb.block g hg]
  exact h
set_option maxHeartbeats 16000000 in
theorem walk (W : World) (hL : laidMetH Tryd.prog S.grLaid W) (a1 : Option Addr) (g1 o1 n1 c1 : Nat) (x1' : Nat → Nat) (w1 : Row W a1 g1 o1 n1 c1 x1') (m1 : c1 ≤ 140737488351232) :
    Calls Tryd.prog 7 #[.slice a1 n1 c1] W fun e w' => e = .returned (.bool true) ∧ Below W.heap.size W w' := by
  obtain ⟨hL1, hL2, hL3⟩ := S.of_gr hL
  have L := Lib.hid hL1
  have PL := Lib.hid hL2
  have CL := Lib.hid hL3
  have hn : n1 ≤ 140737488351232 := Nat.le_trans w1.le m1
  have R := Lib.hid w1
  clear hL hL1 hL2 hL3 w1 m1
  obtain ⟨m, hm⟩ : ∃ m, m = n1 + 32 := ⟨_, rfl⟩
  obtain ⟨y, hy⟩ : ∃ y, y = cat x1' n1 (fun _ => 0) := ⟨_, rfl⟩
  have hbl : (tl y 32).length = cC 4 := tl_length _ _
  obtain ⟨h1, h2, h3⟩ := mk_sizes (j := 4) (by omega) hbl
  obtain ⟨r, hr⟩ : ∃ r, r = hL 4 ++ tl y 32 ++ tL 4 := ⟨_, rfl⟩
  rw [← hr] at h1 h2 h3
  obtain ⟨rl, hrl⟩ : ∃ rl, rl = r.length := ⟨_, rfl⟩
  have HRL := Lib.hid hrl
  have yb : ∀ i, y i < 256 := fun i => by rw [hy]; exact cat_byte n1 R.out.byte (fun _ => by omega) i
  obtain ⟨hp, he⟩ := pA_tK h2 (by omega) (by omega) (isB_tl yb 32)
  obtain ⟨T, hT⟩ : ∃ T, T = (tK (4 + 1) (tl y 32)).1 := ⟨_, rfl⟩
  rw [← hT] at hp
  have HT := Lib.hid hT.symm
  have HE := Lib.hid he
  have HPA := Lib.hid hp
  have HCL := Lib.hid h2
  have HMK := Lib.hid (show mkOf 5 (tl y 32) = some r from h1)
  have HM := Lib.hid hm.symm
  have HY := Lib.hid hy.symm
  have rb : rl ≤ 60 := by omega
  have mb : 32 ≤ m := by omega
  have Y0 := Lib.hid (show decide ((0 : Int) ≠ 0) = false by decide)
  have hbb : ∀ x, x ∈ tl y 32 → x < 256 := isB_tl yb 32
  have hTn : T = nT (nsB 1 (tl y 32)) := hT
  have hnl : (nsB 1 (tl y 32)).length = 59 := by rw [nsB_len, grp_len32 (tl_length _ _)]
  have hlt := nsB_lt (v := 1) (by omega) (tl y 32)
  have hup := pA_up (v := 1) (by omega) hbb (tl_length _ _)
  rw [show kOf 1 (tl y 32).length = 5 by rw [tl_length]; rfl, show mkOf 5 (tl y 32) = some r from h1] at hup
  obtain ⟨TU, hTU⟩ : ∃ TU, TU = GB ++ ltS GL (nsB 1 (tl y 32)) := ⟨_, rfl⟩
  rw [← hTU] at hup
  have HPU := Lib.hid hup
  have hsz : T.size = 62 := by rw [hTn, nT_size, hnl]
  have HLOW := Lib.hid (show ∀ i, i < T.size → byt T i < 128 from fun i hi => by rw [hTn] at hi ⊢; exact nT_low hlt hi)
  have HTU := Lib.hid (show strX (fun i => upN (byt T i)) 62 = TU by rw [hTU, hTn]; exact nT_up hlt (by omega))
  obtain ⟨TM, hTM⟩ : ∃ TM, TM = strX (fun i => if i = 0 then 98 else upN (byt T i)) 62 := ⟨_, rfl⟩
  have tmb : ∀ i, (if i = 0 then 98 else upN (byt T i)) < 256 := fun i => by split; omega; exact upN_lt (byt_lt _ _)
  have HPM := Lib.hid (show pA TM = none from pA_mixed (by rw [hTM, strX_size]; omega) (by rw [hTM, strX_byt tmb (by omega), if_pos rfl]) (by
    rw [hTM, strX_byt tmb (by omega), if_neg (by omega), hTn]
    rw [show byt (nT (nsB 1 (tl y 32))) 1 = byt SB 1 from by unfold nT; exact byt_catl (by decide)]
    decide +kernel))
  have HTM := Lib.hid hTM.symm
  have HR0 := Lib.hid (show 0 < rl ∧ upN (byt T 0) = 66 ∧ lf r 0 = 81 from ⟨by rw [hrl, hr]; simp [hL], by rw [hTn, show byt (nT (nsB 1 (tl y 32))) 0 = byt SB 0 from by unfold nT; exact byt_catl (by decide)]; decide +kernel, by rw [hr]; rfl⟩)
  have HSZ := Lib.hid hsz
  clear hTn hnl hlt hup hTU hsz hTM tmb hbb
  clear hm hy hbl h1 h2 h3 hr hrl yb hp he hT
  have Y2 := Lib.hid (show decide ((62 : Nat) < 20) = false by decide)
  have Y3 := Lib.hid (show decide ((0 : Int) = 0) = true by decide)
  have Y4 := Lib.hid (show decide ((140 : Int) = 140) = true by decide)
  go_enter Tryd.func7, Tryd.ntmps7
  go_upto_region 2 with (first
    | (go_at_call 14; refine (clone_any R (by omega)).mono ?_; rintro e w1 ⟨p1, g1, c1, rfl, N1, hb⟩; have N := Lib.hid N1; have BB := Lib.hid hb; clear N1 hb)
    | ((with_reducible refine wpList_at 14 rfl ?_); refine wpList_noughts rfl (.tmp 13) _ rfl rfl N rfl (m := 32) rfl (by omega) (by omega) ?_; clear N; intro p2 g2 c2 w2 N hb; rw [HY.out, HM.out] at N; rw [HM.out]; replace BB := Lib.hid (BB.out.trans hb.out); clear hb; try simp only [Act.put, List.setIfInBounds_toArray, List.set_cons_zero, List.set_cons_succ]))
  have hmc : m ≤ c2 := N.out.row.le
  obtain ⟨p3, e3, R3x⟩ := N.out.row.slice (l := 0) (h := 32) (m := c2) (by omega) (by omega) (by omega) (Nat.le_refl _)
  simp only [Nat.sub_zero, Nat.zero_add] at e3 R3x
  have SLI := Lib.hid (fun W : World => (run_sl (w := W) (bounds_h (n := m) (h := 32) (c := c2) (by omega))).trans (by rw [e3]))
  have R3 := Lib.hid R3x
  clear e3 R3x N
  go_upto_region 6 with (first
    | ((with_reducible refine wpList_at 17 rfl ?_); refine wpList_known4 rfl (.slice p3 32 c2) _ (by exact exec_slH rfl rfl rfl (SLI.out _)) ?_; try simp only [Act.put, List.setIfInBounds_toArray, List.set_cons_zero, List.set_cons_succ])
    | (go_at_call 15; refine (make_known (K := 5) (PL.out.below BB.out) R3 (by omega) HMK.out).mono ?_; rintro e w3 ⟨p4, g4, c4, rfl, R4, hb⟩; rw [← HRL.out] at R4 ⊢; have R5 := Lib.hid R4; replace BB := Lib.hid (BB.out.trans (hb.mono BB.out.size)); clear R4 hb)
    | (go_at_call 8; ((with_reducible refine (atext_known (Lib.hid (L.out.below BB.out)) (Lib.hid (PL.out.below BB.out)) (Lib.hid (CL.out.below BB.out)) R5 HRL (by omega) HCL.out).mono ?_); intro e w4 h4); obtain ⟨he4, hb⟩ := h4; rw [HT.out, HE.out] at he4; subst he4; replace R5 := Lib.hid (R5.out.below hb); replace BB := Lib.hid (BB.out.trans (hb.mono BB.out.size)); clear hb)
    | ((with_reducible refine wpList_at 27 rfl ?_); refine wpList_known4 rfl (.bool false) _ (by exact exec_neqE3 (z := 0) (q := false) rfl rfl rfl Y0.out) ?_; try simp only [Act.put, List.setIfInBounds_toArray, List.set_cons_zero, List.set_cons_succ])
    | ((with_reducible refine wpList_at 30 rfl ?_); refine wpList_known4 rfl (.int .i64 ((62 : Nat) : Int)) _ (by exact by rw [← HSZ.out]; exact exec_lenS rfl rfl) ?_; try simp only [Act.put, List.setIfInBounds_toArray, List.set_cons_zero, List.set_cons_succ])
    | ((with_reducible refine wpList_at 31 rfl ?_); refine wpList_known4 rfl (.bool false) _ (by exact exec_lss3v (a := 62) (b := 20) (q := false) rfl rfl rfl Y2.out) ?_; try simp only [Act.put, List.setIfInBounds_toArray, List.set_cons_zero, List.set_cons_succ]))
  have sb : T.size ≤ 140737488355328 := by rw [HSZ.out]; omega
  have s0 : 0 < T.size := by rw [HSZ.out]; omega
  go_upto_region 7 with (first
    | ((with_reducible refine wpList_at 34 rfl ?_); refine wpList_cv rfl (.tmp 33) rfl rfl sb ?_; intro p7 g7 c7 w7 N hb7; obtain rfl := N.out.hd; replace R5 := Lib.hid (R5.out.below hb7.out); replace BB := Lib.hid (BB.out.trans (hb7.out.mono BB.out.size)); clear hb7; try simp only [Act.put, List.setIfInBounds_toArray, List.set_cons_zero, List.set_cons_succ])
    | (go_at_call 16; ((with_reducible refine (upper_any N.out.row s0 sb HLOW.out).mono ?_); rintro e w8 ⟨g8, c8, rfl, hg8, N8, hf8, hb8⟩); rw [HSZ.out] at N8 ⊢; have NR := Lib.hid N8; have FZ := Lib.hid hf8; have GE := Lib.hid (Nat.le_trans BB.out.size hg8); replace R5 := Lib.hid (R5.out.below hb8); replace BB := Lib.hid (BB.out.trans (hb8.mono BB.out.size)); clear N N8 hf8 hb8 hg8))
  have CV := Lib.hid ((row_strX NR.out).trans (by rw [HTU.out]))
  go_upto_region 8 with (first
    | ((with_reducible refine wpList_at 38 rfl ?_); refine wpList_known4 rfl (.string TU) _ (by exact exec_cv rfl CV.out) ?_; try simp only [Act.put, List.setIfInBounds_toArray, List.set_cons_zero, List.set_cons_succ])
    | (go_at_call 11; ((with_reducible refine (aparse_any (Lib.hid (L.out.below BB.out)) (Lib.hid (PL.out.below BB.out)) (Lib.hid (CL.out.below BB.out)) TU).mono ?_); intro e w5 h5); obtain ⟨r6, p6, g6, c6, he5, hr6, R6, hb⟩ := h5; rw [HPU.out] at he5 hr6; obtain rfl : r = r6 := hr6.symm; subst he5; rw [← HRL.out] at R6 ⊢; have R7 := Lib.hid R6; replace FZ := Lib.hid (frozen_below hb (cell_lt (NR.out.cell 0 (by omega))) FZ.out); replace R5 := Lib.hid (R5.out.below hb); replace NR := Lib.hid (NR.out.below hb); replace BB := Lib.hid (BB.out.trans (hb.mono BB.out.size)); clear R6 hb hr6))
  clear CV
  have NE := Lib.hid (fun (W9 : World) (p : Option Addr) (g c : Nat) (R : Row W9 p g 0 rl c (lf r)) (N : Row W9 (some ⟨g8, 0, none⟩) g8 0 62 c8 (fun i => upN (byt T i))) => show g ≠ g8 from fun e => by
    have h1 := R.cell 0 HR0.out.1
    have h2 := N.cell 0 (by omega)
    rw [e, h2] at h1
    injection h1 with h1
    injection h1 with _ h1
    rw [HR0.out.2.1, HR0.out.2.2] at h1
    exact absurd h1 (by decide))
  have NE5 := Lib.hid (NE.out _ _ _ _ R5.out NR.out)
  have NE7 := Lib.hid (NE.out _ _ _ _ R7.out NR.out)
  go_upto_region 9 with (first
    | ((with_reducible refine wpList_at 43 rfl ?_); refine wpList_ix (k := 1) (j := 0) Tryd.underlying22 (by kernel_rfl) (.tmp 42) (.const (.int .i64 0)) rfl rfl rfl rfl (by omega) rfl ?_; rw [Nat.mul_one]; try simp only [Act.put, List.setIfInBounds_toArray, List.set_cons_zero, List.set_cons_succ])
    | ((with_reducible refine wpList_atn rfl ?_); refine wpList_rput0 (v := 98) rfl (.tmp 43) (.const (.int .u8 98)) rfl NR rfl rfl (by omega) (by omega) FZ.out ?_; clear NR; intro w9 NR hb9; replace R5 := Lib.hid (R5.out.only hb9.out NE5.out); replace R7 := Lib.hid (R7.out.only hb9.out NE7.out); replace BB := Lib.hid (BB.out.trans (hb9.out.below GE.out BB.out.size)); clear hb9; try simp only [Act.put, List.setIfInBounds_toArray, List.set_cons_zero, List.set_cons_succ]))
  have CV := Lib.hid ((row_strX NR.out).trans (by rw [HTM.out]))
  go_wp2_with (first
    | ((with_reducible refine wpList_at 46 rfl ?_); refine wpList_known4 rfl (.string TM) _ (by exact exec_cv rfl CV.out) ?_; try simp only [Act.put, List.setIfInBounds_toArray, List.set_cons_zero, List.set_cons_succ])
    | (go_at_call 11; ((with_reducible refine (aparse_any (Lib.hid (L.out.below BB.out)) (Lib.hid (PL.out.below BB.out)) (Lib.hid (CL.out.below BB.out)) TM).mono ?_); intro e w5 h5); obtain ⟨r6, p6, g6, c6, he5, hr6, R6, hb⟩ := h5; rw [HPM.out] at he5 hr6; obtain rfl : [] = r6 := hr6.symm; subst he5; replace R7 := Lib.hid (R7.out.below hb); replace R5 := Lib.hid (R5.out.below hb); replace NR := Lib.hid (NR.out.below hb); replace BB := Lib.hid (BB.out.trans (hb.mono BB.out.size)); clear R6 hb hr6)
    | ((with_reducible refine wpList_at 51 rfl ?_); refine wpList_known4 rfl (.bool true) _ (by exact exec_eqE3 (z := 0) (z2 := 0) (q := true) rfl rfl rfl Y3.out) ?_; try simp only [Act.put, List.setIfInBounds_toArray, List.set_cons_zero, List.set_cons_succ])
    | (go_at_call 13; refine (equal_any R5 R7 rfl (Lib.hid fun _ _ => rfl)).mono ?_; rintro e w6 ⟨rfl, rfl⟩)
    | ((with_reducible refine wpList_at 59 rfl ?_); refine wpList_known4 rfl (.bool true) _ (by exact exec_eqE3 (z := 140) (z2 := 140) (q := true) rfl rfl rfl Y4.out) ?_; try simp only [Act.put, List.setIfInBounds_toArray, List.set_cons_zero, List.set_cons_succ]))
  go_ret
  exact ⟨rfl, BB.out⟩

set_option maxRecDepth 100000 in
theorem lifted (os : Os) (started : os.Started) (H : Type) (enc : TypeId × Value → H) :
    ReturnsInHanded {} Tryd.checked os 7 .any (fun w args => (Rows.addressGreatSpec.pre enc Tryd.prog Tryd.f7 [] false w args ∧ laidMetH Tryd.prog S.grLaid w) ∧ sizedMet enc Tryd.prog Tryd.f7 (OpenSpec.ofChange Rows.addressGreatSpec) false w args)
      (Rows.addressGreatSpec.post enc Tryd.prog Tryd.f7 false true false false) := by
  refine returnsInHanded_of_change_and (C := Tryd.checked) (X := fun w _ => laidMetH Tryd.prog S.grLaid w) (fun _ _ _ hh h => h.of_heap hh) own started (by kernel_rfl) Tryd.func7
    (ChangeSpec.witness_shaped (enc := enc) (C := Tryd.checked) (os := os) (X := fun w _ => laidMetH Tryd.prog S.grLaid w) false (World.laidAll Tryd.prog os S.grLaid) #[.slice none 0 0] 8 (World.laidAll_os _ _ _)
      (World.shaped_of_ZipB (by kernel_rfl) (by kernel_rfl)) (by kernel_rfl) (by kernel_rfl) (by kernel_rfl)
      (by rw [MakeChecks.laidMetH_plain _ _ _ (by kernel_rfl)]; exact laidMet_laidAll _ (by kernel_rfl) (by kernel_rfl))) ?_
  intro W base args ds gs before hval0 hW _ hsz0 hL _
  have hval : ∀ (j : Nat) t v, Tryd.f7.params[j]? = some t → args[j]? = some v → Value.okWide Tryd.prog W .any base t v := hval0
  have hsz : (DataW.weightsEach Tryd.prog (Tryd.f7.params.toList ++ Rows.addressGreatSpec.plain.varTypes Tryd.prog) (ds ++ gs)).all (· ≤ reachBytes) = true := hsz0
  have hW' := hW
  obtain ⟨p, q, hA0, hV, rfl, hfz, hnd⟩ := hW
  have hA : DataW.TrodAll enc Tryd.prog W 0 (fun _ => true) true Tryd.f7.params.toList args.toList ds p := hA0
  rw [Tryd.params7] at hA hval hsz
  obtain ⟨v0, vs0, d0, ds0, p0, q0, hargs, rfl, rfl, h0, r0⟩ := trodAll_cons hA
  obtain ⟨rfl, rfl, rfl⟩ := trodAll_nil r0
  obtain rfl : args = #[v0] := by cases args; simp_all
  obtain ⟨rfl, rfl⟩ := trodVars_none hV
  have k0 := h0
  have lt0 : ∀ x ∈ p0, x.block < W.heap.size := by obtain ⟨m, hm⟩ := k0; exact DataW.trod_lt m _ _ _ hm
  obtain ⟨a0, g0, o0, n0, c0, x0, rfl, w0, m0⟩ := open_row (j := 0) (hval 0 22 v0 rfl rfl) h0 hsz rfl rfl
  clear hA0 hval0 hsz0
  simp only [List.append_nil] at hW'
  refine (walk W hL a0 g0 o0 n0 c0 x0 w0 m0).mono fun e W' ⟨he, bel⟩ => ?_
  subst he
  exact ⟨_, rfl, _, _, _, [], _, [], hW', trodAll_mk1 (shut_bool Tryd.underlying4 _), (trodAll_cons_mk (Below.trod laidOut (by kernel_rfl) (of_decide_eq_true (by kernel_rfl)) k0 bel lt0) trodAll_mk0), rfl, bel.frame _, fun h => by cases h⟩

theorem over : Rows.AddressGreatSaid :=
  OpenClaim.holds_of_wide 7 Tryd.f7 rfl rfl rfl rfl rfl rfl rfl ⟨rfl, rfl, rfl, rfl, rfl⟩ rfl rfl rfl rfl rfl (by kernel_rfl) Tryd.func7 (by kernel_rfl)
    (of_decide_eq_true (by kernel_rfl)) (by unfold Func.isWrapper; first | (rw [if_pos (by decide +kernel)]; kernel_rfl) | (rw [if_neg (by decide +kernel)]; exact ⟨rfl, rfl⟩))
    (fun os started H enc _ => lifted os started H enc)

/-- The tied card. -/
theorem card_holds : Rows.AddressGreatCardSaid :=
  Claim7.holds_tied_plain_at .later [] [.data, .data, .data, .data, .data, .pinned, .pinned] true (true, "cebc64d560f048e6503ea368f248693ae0eb79a8a9687a36121a0726f7c6fcfa") false
    over (fun _ h => by cases h) (by kernel_rfl) (fun _ h => by cases h) addressGreat_row_tie rfl ⟨rfl, rfl⟩ (by kernel_rfl) rfl
    (fun f fn hf hfn => by
      obtain rfl : f = 7 := Option.some.inj ((show Tryd.prog.funcNamed "sporran/sporranlaw14.AddressGreat" = some 7 by kernel_rfl).symm.trans hf) |>.symm
      obtain rfl : fn = Tryd.f7 := (Option.some.inj (Tryd.func7.symm.trans hfn)).symm
      exact ⟨by kernel_rfl, fun j t ht => by
        rw [Tryd.params7] at ht
        have hm : t ∈ [22] := by simpa using Array.mem_of_getElem? ht
        have hall : ([22].all fun u => !Tryd.prog.wantsStandIn u) = true := by kernel_rfl
        exact (show Tryd.prog.wantsStandIn t = false by simpa using List.all_eq_true.1 hall t hm)⟩)
    (by kernel_rfl)
#print axioms card_holds
end Go.Proofs.YtghjgkgfpblijaaDoor.addressGreat
