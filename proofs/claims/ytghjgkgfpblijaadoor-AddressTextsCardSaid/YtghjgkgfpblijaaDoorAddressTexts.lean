/- For every slice of bytes (nil too): the address of a script is the document's, its error too; the call returns true. The four tables are laid as the program's text lays them; the card ties them to that text. No other condition. -/
import Derived.Test.YtghjgkgfpblijaaDoorC4
import Derived.Test.YtghjgkgfpblijaaDoorTie
import Derived.Test.YtghjgkgfpblijaaDoorCards
import Derived.ShutString
import Derived.ChangeOld
import Derived.Below
import Derived.SevenTiedAt
set_option linter.unusedVariables false
set_option linter.unusedSimpArgs false
namespace Go.Proofs.YtghjgkgfpblijaaDoor.addressTexts
open Go.ChangeShapes Go.WideShapes Go.ChangeAt Go.RowKit Go.Lib Go.Sort Go.Proofs.YtghjgkgfpblijaaDoor

set_option maxRecDepth 100000
set_option maxHeartbeats 16000000 in
theorem walk (W : World) (hL : laidMetH Tryd.prog S.adLaid W) (a1 : Option Addr) (g1 o1 n1 c1 : Nat) (x1 : Nat → Nat) (w1 : Row W a1 g1 o1 n1 c1 x1) (m1 : c1 ≤ 140737488351232) :
    Calls Tryd.prog 3 #[.slice a1 n1 c1] W fun e w' => e = .returned (.bool true) ∧ Below W.heap.size W w' := by
  obtain ⟨hL1, hL2, hL3⟩ := S.of_ad hL
  have hn : n1 ≤ 140737488355328 := Nat.le_trans (Nat.le_trans w1.le m1) (by omega)
  have R := Lib.hid w1
  have TA := Lib.hid (atext_any (Lib.hid hL1) (Lib.hid hL2) (Lib.hid hL3) R hn)
  have TR := Lib.hid (fun (W2 : World) (hb : Below W.heap.size W W2) => rtext_any (Lib.hid (R.out.below hb)) hn)
  have HSAME := Lib.hid (fun (k k2 : Nat) (b b2 : List Nat) (h : Cls (tl x1 n1) k b) (h2 : Cls (tl x1 n1) k2 b2) => h.same h2)
  obtain ⟨xs, hxs⟩ : ∃ xs, xs = tl x1 n1 := ⟨_, rfl⟩
  rw [← hxs] at TA TR HSAME
  clear hL hL1 hL2 hL3 w1 m1 R hn hxs
  go_enter Tryd.func3, Tryd.ntmps3
  go_upto_region 2 with (first
    | (go_at_call 8; ((with_reducible refine TA.out.mono ?_); intro e w2 h2); obtain ⟨⟨k, b, hc, rfl⟩, hb⟩ := h2; have HC := Lib.hid hc; have BB := Lib.hid hb; clear hc hb))
  obtain ⟨T, hT⟩ : ∃ T, T = (tK k b).1 := ⟨_, rfl⟩
  obtain ⟨z, hz⟩ : ∃ z, z = (tK k b).2 := ⟨_, rfl⟩
  rw [← hT, ← hz]
  have TR2 := Lib.hid (show ∀ W2, Below W.heap.size W W2 → Calls Tryd.prog 9 #[.slice a1 n1 c1] W2 fun e w' => e = .returned (.tuple #[.string T, .int .i64 z]) ∧ Below W2.heap.size W2 w' from fun W2 hb => (TR.out W2 hb).mono fun e w' h => by
    obtain ⟨⟨k2, b2, hc2, he⟩, hb⟩ := h
    obtain ⟨h1, h2⟩ := HSAME.out _ _ _ _ HC.out hc2
    subst h1 h2
    rw [hT, hz]
    exact ⟨he, hb⟩)
  have Y1 := Lib.hid (show decide (z = z) = true by simp)
  have Y2 := Lib.hid (show T = T ↔ true = true by simp)
  clear TA TR HSAME HC hT hz
  go_wp2_with (first
    | (go_at_call 9; ((with_reducible refine (TR2.out _ BB.out).mono ?_); rintro e w3 ⟨rfl, hb⟩); replace BB := Lib.hid (BB.out.trans (hb.mono BB.out.size)); clear hb)
    | ((with_reducible refine wpList_at 19 rfl ?_); refine wpList_known4 rfl (.bool true) _ (by exact exec_eqS true rfl rfl rfl Y2.out) ?_; try simp only [Act.put, List.setIfInBounds_toArray, List.set_cons_zero, List.set_cons_succ])
    | ((with_reducible refine wpList_at 23 rfl ?_); refine wpList_known4 rfl (.bool true) _ (by exact exec_eqE3 (z := z) (z2 := z) (q := true) rfl rfl rfl Y1.out) ?_; try simp only [Act.put, List.setIfInBounds_toArray, List.set_cons_zero, List.set_cons_succ])
    | (go_at_call 10; refine (awake14_any _).mono ?_; rintro e w9 ⟨rfl, hb⟩; replace BB := Lib.hid (BB.out.trans (hb.mono BB.out.size)); clear hb))
  go_ret
  exact ⟨rfl, BB.out⟩

set_option maxRecDepth 100000 in
theorem lifted (os : Os) (started : os.Started) (H : Type) (enc : TypeId × Value → H) :
    ReturnsInHanded {} Tryd.checked os 3 .any (fun w args => (Rows.addressTextsSpec.pre enc Tryd.prog Tryd.f3 [] false w args ∧ laidMetH Tryd.prog S.adLaid w) ∧ sizedMet enc Tryd.prog Tryd.f3 (OpenSpec.ofChange Rows.addressTextsSpec) false w args)
      (Rows.addressTextsSpec.post enc Tryd.prog Tryd.f3 false true false false) := by
  refine returnsInHanded_of_change_and (C := Tryd.checked) (X := fun w _ => laidMetH Tryd.prog S.adLaid w) (fun _ _ _ hh h => h.of_heap hh) own started (by kernel_rfl) Tryd.func3
    (ChangeSpec.witness_shaped (enc := enc) (C := Tryd.checked) (os := os) (X := fun w _ => laidMetH Tryd.prog S.adLaid w) false (World.doorLaid Tryd.prog 400 os) #[.slice none 0 0] 8 rfl (World.shaped_of_RefB (by kernel_rfl) (by kernel_rfl)) (by kernel_rfl) (by kernel_rfl) (by kernel_rfl) (S.ad_door_met os _)) ?_
  intro W base args ds gs before hval0 hW _ hsz0 hL _
  have hval : ∀ (j : Nat) t v, Tryd.f3.params[j]? = some t → args[j]? = some v → Value.okWide Tryd.prog W .any base t v := hval0
  have hsz : (DataW.weightsEach Tryd.prog (Tryd.f3.params.toList ++ Rows.addressTextsSpec.plain.varTypes Tryd.prog) (ds ++ gs)).all (· ≤ reachBytes) = true := hsz0
  have hW' := hW
  obtain ⟨p, q, hA0, hV, rfl, hfz, hnd⟩ := hW
  have hA : DataW.TrodAll enc Tryd.prog W 0 (fun _ => true) true Tryd.f3.params.toList args.toList ds p := hA0
  rw [Tryd.params3] at hA hval hsz
  obtain ⟨v0, vs0, d0, ds0, p0, q0, hargs, rfl, rfl, h0, r0⟩ := trodAll_cons hA
  obtain ⟨rfl, rfl, rfl⟩ := trodAll_nil r0
  obtain rfl : args = #[v0] := by cases args; simp_all
  obtain ⟨rfl, rfl⟩ := trodVars_none hV
  have k0 := h0
  have lt0 : ∀ x ∈ p0, x.block < W.heap.size := by obtain ⟨m, hm⟩ := k0; exact DataW.trod_lt m _ _ _ hm
  obtain ⟨a0, g0, o0, n0, c0, x0, rfl, w0, m0⟩ := open_row (j := 0) (hval 0 22 v0 rfl rfl) h0 hsz rfl rfl
  clear hA0 hval0 hsz0
  simp only [List.append_nil] at hW'
  refine (walk W hL a0 g0 o0 n0 c0 x0 w0 m0).mono fun e W' ⟨he, bel⟩ => ?_
  subst he
  exact ⟨_, rfl, _, _, _, [], _, [], hW', trodAll_mk1 (shut_bool Tryd.underlying4 _), (trodAll_cons_mk (Below.trod laidOut (by kernel_rfl) (of_decide_eq_true (by kernel_rfl)) k0 bel lt0) trodAll_mk0), rfl, bel.frame _, fun h => by cases h⟩

theorem over : Rows.AddressTextsSaid :=
  OpenClaim.holds_of_wide 3 Tryd.f3 rfl rfl rfl rfl rfl rfl rfl ⟨rfl, rfl, rfl, rfl, rfl⟩ rfl rfl rfl rfl rfl (by kernel_rfl) Tryd.func3 (by kernel_rfl)
    (of_decide_eq_true (by kernel_rfl)) (by unfold Func.isWrapper; first | (rw [if_pos (by decide +kernel)]; kernel_rfl) | (rw [if_neg (by decide +kernel)]; exact ⟨rfl, rfl⟩))
    (fun os started H enc _ => lifted os started H enc)

/-- The tied card. -/
theorem card_holds : Rows.AddressTextsCardSaid :=
  Claim7.holds_tied_plain_at .later [] [.data, .data, .data, .data] true (true, "cebc64d560f048e6503ea368f248693ae0eb79a8a9687a36121a0726f7c6fcfa") false
    over (fun _ h => by cases h) (by kernel_rfl) (fun _ h => by cases h) addressTexts_row_tie rfl ⟨rfl, rfl⟩ (by kernel_rfl) rfl
    (fun f fn hf hfn => by
      obtain rfl : f = 3 := Option.some.inj ((show Tryd.prog.funcNamed "sporran/sporranlaw14.AddressTexts" = some 3 by kernel_rfl).symm.trans hf) |>.symm
      obtain rfl : fn = Tryd.f3 := (Option.some.inj (Tryd.func3.symm.trans hfn)).symm
      exact ⟨by kernel_rfl, fun j t ht => by
        rw [Tryd.params3] at ht
        have hm : t ∈ [22] := by simpa using Array.mem_of_getElem? ht
        have hall : ([22].all fun u => !Tryd.prog.wantsStandIn u) = true := by kernel_rfl
        exact (show Tryd.prog.wantsStandIn t = false by simpa using List.all_eq_true.1 hall t hm)⟩)
    (by kernel_rfl)
#print axioms card_holds
end Go.Proofs.YtghjgkgfpblijaaDoor.addressTexts
