/- For every text: the script of an address is the document's, its error too; the call returns true. The four tables are laid as the program's text lays them; the card ties them to that text. No other condition but the form's own reach. -/
import Derived.Test.YtghjgkgfpblijaaDoorD5
import Derived.Test.YtghjgkgfpblijaaDoorTie
import Derived.Test.YtghjgkgfpblijaaDoorCards
import Derived.ShutString
import Derived.ChangeOld
import Derived.Below
import Derived.SevenTiedAt
set_option linter.unusedVariables false
set_option linter.unusedSimpArgs false
namespace Go.Proofs.YtghjgkgfpblijaaDoor.addressParses
open Go.ChangeShapes Go.WideShapes Go.ChangeAt Go.RowKit Go.Lib Go.Sort Go.Proofs.YtghjgkgfpblijaaDoor

set_option maxRecDepth 100000
set_option maxHeartbeats 16000000 in
theorem walk (W : World) (hL : laidMetH Tryd.prog S.adLaid W) (s : ByteArray) (m1 : s.size ≤ 140737488351232) :
    Calls Tryd.prog 4 #[.string s] W fun e w' => e = .returned (.bool true) ∧ Below W.heap.size W w' := by
  obtain ⟨hL1, hL2, hL3⟩ := S.of_ad hL
  have PX := Lib.hid (aparse_any (Lib.hid hL1) (Lib.hid hL2) (Lib.hid hL3) s)
  have RX := Lib.hid (fun W2 : World => rparse_any (w := W2) s m1)
  obtain ⟨r, hr⟩ : ∃ r, r = (pA s).getD [] := ⟨_, rfl⟩
  obtain ⟨rl, hrl⟩ : ∃ rl, rl = r.length := ⟨_, rfl⟩
  obtain ⟨z, hz⟩ : ∃ z, z = errA (pA s) := ⟨_, rfl⟩
  have PX2 := Lib.hid (show Calls Tryd.prog 11 #[.string s] W fun e w' => ∃ p g c, e = .returned (.tuple #[.slice p rl c, .int .i64 z]) ∧ Row w' p g 0 rl c (lf r) ∧ Below W.heap.size W w' from PX.out.mono fun e w' h => by
    obtain ⟨r2, p, g, c, he, h2, R, hb⟩ := h
    rw [← hr] at h2
    subst h2
    rw [← hrl, ← hz] at he
    rw [← hrl] at R
    exact ⟨p, g, c, he, R, hb⟩)
  have RX2 := Lib.hid (show ∀ W2 : World, Calls Tryd.prog 12 #[.string s] W2 fun e w' => ∃ p g c, e = .returned (.tuple #[.slice p rl c, .int .i64 z]) ∧ Row w' p g 0 rl c (lf r) ∧ Below W2.heap.size W2 w' from fun W2 => (RX.out W2).mono fun e w' h => by
    obtain ⟨r2, p, g, c, he, h2, R, hb⟩ := h
    rw [← hr] at h2
    subst h2
    rw [← hrl, ← hz] at he
    rw [← hrl] at R
    exact ⟨p, g, c, he, R, hb⟩)
  have Y1 := Lib.hid (show decide (z = z) = true by simp)
  clear hL hL1 hL2 hL3 PX RX hr hrl hz m1
  go_enter Tryd.func4, Tryd.ntmps4
  go_wp2_with (first
    | (go_at_call 11; ((with_reducible refine PX2.out.mono ?_); intro e w2 h2); obtain ⟨p2, g2, c2, rfl, R2, hb⟩ := h2; have R5 := Lib.hid R2; have BB := Lib.hid hb; clear R2 hb)
    | (go_at_call 12; ((with_reducible refine (RX2.out _).mono ?_); intro e w3 h3); obtain ⟨p3, g3, c3, rfl, R3, hb⟩ := h3; replace R5 := Lib.hid (R5.out.below hb); have R7 := Lib.hid R3; replace BB := Lib.hid (BB.out.trans (hb.mono BB.out.size)); clear R3 hb)
    | (go_at_call 13; refine (equal_any R5 R7 rfl (Lib.hid fun _ _ => rfl)).mono ?_; rintro e w6 ⟨rfl, rfl⟩)
    | ((with_reducible refine wpList_at 23 rfl ?_); refine wpList_known4 rfl (.bool true) _ (by exact exec_eqE3 (z := z) (z2 := z) (q := true) rfl rfl rfl Y1.out) ?_; try simp only [Act.put, List.setIfInBounds_toArray, List.set_cons_zero, List.set_cons_succ])
    | (go_at_call 10; refine (awake14_any _).mono ?_; rintro e w9 ⟨rfl, hb⟩; replace BB := Lib.hid (BB.out.trans (hb.mono BB.out.size)); clear hb))
  go_ret
  exact ⟨rfl, BB.out⟩

set_option maxRecDepth 100000 in
theorem lifted (os : Os) (started : os.Started) (H : Type) (enc : TypeId × Value → H) :
    ReturnsInHanded {} Tryd.checked os 4 .any (fun w args => (Rows.addressParsesSpec.pre enc Tryd.prog Tryd.f4 [] false w args ∧ laidMetH Tryd.prog S.adLaid w) ∧ sizedMet enc Tryd.prog Tryd.f4 (OpenSpec.ofChange Rows.addressParsesSpec) false w args)
      (Rows.addressParsesSpec.post enc Tryd.prog Tryd.f4 false true false false) := by
  refine returnsInHanded_of_change_and (C := Tryd.checked) (X := fun w _ => laidMetH Tryd.prog S.adLaid w) (fun _ _ _ hh h => h.of_heap hh) own started (by kernel_rfl) Tryd.func4
    (ChangeSpec.witness_shaped (enc := enc) (C := Tryd.checked) (os := os) (X := fun w _ => laidMetH Tryd.prog S.adLaid w) false (World.doorLaid Tryd.prog 400 os) #[.string ⟨#[]⟩] 8 rfl (World.shaped_of_RefB (by kernel_rfl) (by kernel_rfl)) (by kernel_rfl) (by kernel_rfl) (by kernel_rfl) (S.ad_door_met os _)) ?_
  intro W base args ds gs before hval0 hW _ hsz0 hL _
  have hval : ∀ (j : Nat) t v, Tryd.f4.params[j]? = some t → args[j]? = some v → Value.okWide Tryd.prog W .any base t v := hval0
  have hsz : (DataW.weightsEach Tryd.prog (Tryd.f4.params.toList ++ Rows.addressParsesSpec.plain.varTypes Tryd.prog) (ds ++ gs)).all (· ≤ reachBytes) = true := hsz0
  have hW' := hW
  obtain ⟨p, q, hA0, hV, rfl, hfz, hnd⟩ := hW
  have hA : DataW.TrodAll enc Tryd.prog W 0 (fun _ => true) true Tryd.f4.params.toList args.toList ds p := hA0
  rw [Tryd.params4] at hA hval hsz
  obtain ⟨v0, vs0, d0, ds0, p0, q0, hargs, rfl, rfl, h0, r0⟩ := trodAll_cons hA
  obtain ⟨rfl, rfl, rfl⟩ := trodAll_nil r0
  obtain rfl : args = #[v0] := by cases args; simp_all
  obtain ⟨rfl, rfl⟩ := trodVars_none hV
  have k0 := h0
  have lt0 : ∀ x ∈ p0, x.block < W.heap.size := by obtain ⟨m, hm⟩ := k0; exact DataW.trod_lt m _ _ _ hm
  obtain ⟨s0, rfl, m0⟩ := open_strz (j := 0) (hval 0 9 v0 rfl rfl) h0 hsz rfl rfl
  clear hA0 hval0 hsz0
  simp only [List.append_nil] at hW'
  refine (walk W hL s0 m0).mono fun e W' ⟨he, bel⟩ => ?_
  subst he
  exact ⟨_, rfl, _, _, _, [], _, [], hW', trodAll_mk1 (shut_bool Tryd.underlying4 _), (trodAll_cons_mk (Below.trod laidOut (by kernel_rfl) (of_decide_eq_true (by kernel_rfl)) k0 bel lt0) trodAll_mk0), rfl, bel.frame _, fun h => by cases h⟩

theorem over : Rows.AddressParsesSaid :=
  OpenClaim.holds_of_wide 4 Tryd.f4 rfl rfl rfl rfl rfl rfl rfl ⟨rfl, rfl, rfl, rfl, rfl⟩ rfl rfl rfl rfl rfl (by kernel_rfl) Tryd.func4 (by kernel_rfl)
    (of_decide_eq_true (by kernel_rfl)) (by unfold Func.isWrapper; first | (rw [if_pos (by decide +kernel)]; kernel_rfl) | (rw [if_neg (by decide +kernel)]; exact ⟨rfl, rfl⟩))
    (fun os started H enc _ => lifted os started H enc)

/-- The tied card. -/
theorem card_holds : Rows.AddressParsesCardSaid :=
  Claim7.holds_tied_plain_at .later [] [.data, .data, .data, .data] true (true, "cebc64d560f048e6503ea368f248693ae0eb79a8a9687a36121a0726f7c6fcfa") false
    over (fun _ h => by cases h) (by kernel_rfl) (fun _ h => by cases h) addressParses_row_tie rfl ⟨rfl, rfl⟩ (by kernel_rfl) rfl
    (fun f fn hf hfn => by
      obtain rfl : f = 4 := Option.some.inj ((show Tryd.prog.funcNamed "sporran/sporranlaw14.AddressParses" = some 4 by kernel_rfl).symm.trans hf) |>.symm
      obtain rfl : fn = Tryd.f4 := (Option.some.inj (Tryd.func4.symm.trans hfn)).symm
      exact ⟨by kernel_rfl, fun j t ht => by
        rw [Tryd.params4] at ht
        have hm : t ∈ [9] := by simpa using Array.mem_of_getElem? ht
        have hall : ([9].all fun u => !Tryd.prog.wantsStandIn u) = true := by kernel_rfl
        exact (show Tryd.prog.wantsStandIn t = false by simpa using List.all_eq_true.1 hall t hm)⟩)
    (by kernel_rfl)
#print axioms card_holds
end Go.Proofs.YtghjgkgfpblijaaDoor.addressParses
