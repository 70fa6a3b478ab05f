/- For every two words and every slice of bytes (nil too): the program's SipHash of a copy is the document's, the copy reads afterwards as it read before, and the call returns true. The four words of package sip are laid as the program's text lays them; the card ties them to that text. No other condition. -/
import Derived.Test.YtbiobejfjhmccaaDoorSipLaw
import Derived.Test.YtbiobejfjhmccaaDoorTie
import Derived.Test.YtbiobejfjhmccaaDoorCards
import Derived.ShutString
import Derived.ChangeOld
import Derived.Below
import Derived.SevenTiedAt
namespace Go.Proofs.YtbiobejfjhmccaaDoor.sipSums
open Go.ChangeShapes Go.WideShapes Go.ChangeAt Go.RowKit Go.Lib
set_option linter.unusedVariables false

set_option maxHeartbeats 2000000 in
theorem walk_some (k0 k1 : Int) (a : Addr) (g o n c : Nat) (x : Nat → Int) (w : World) (h : IsBytes w (.slice (some a) n c) (some a) g o n c x) (hs : SipLaid w) :
    Calls Tryd.prog 8 #[.int .u64 k0, .int .u64 k1, .slice (some a) n c] w fun e w' => e = .returned (.bool true) ∧ Below w.heap.size w w' := by
  obtain ⟨_, lies, byte, le, reach, _⟩ := h
  have cl : ∀ j, j < n → w.cell? (a.add j) = some (.int .u8 (x j)) := by
    intro j hj
    obtain ⟨rfl⟩ := lies.1 (by omega)
    rw [add_at]
    exact lies.2 j hj
  have LI := Lib.hid lies
  have BY := Lib.hid byte
  have CL := Lib.hid cl
  have SL := Lib.hid hs
  clear lies byte cl hs
  go_enter Tryd.func8, Tryd.ntmps8
  go_wp2_with (first
    | (go_at_call 10; refine (clone_some a n c x _ (by omega) CL.out).mono ?_; rintro e w1 ⟨p1, g1, c1, rfl, hn1, hm1, hg1, hl1, hf1, hb1⟩)
    | (go_at_call 20; refine (sip_lies k0 k1 p1 g1 0 n c1 x hm1 hn1 BY.out _ hl1 (SL.out.below hb1)).mono ?_; rintro e w2 ⟨rfl, hb2⟩)
    | (go_at_call 21; refine (ref_sip_lies k0 k1 (some a) g o n c x (by unfold maxLen; omega) le BY.out _ ((LI.out.below hb1).below hb2)).mono ?_; rintro e w3 ⟨rfl, hb3⟩)
    | (go_at_call 15; refine (equal_any p1 (some a) g1 g 0 o n c1 c x _ ((hl1.below hb2).below hb3) (((LI.out.below hb1).below hb2).below hb3)).mono ?_; rintro e w' ⟨rfl, rfl⟩)
    | (go_at_call 22; refine (scale_half _).mono ?_; rintro e w' ⟨rfl, rfl⟩))
  go_ret
  exact ⟨rfl, hb1.trans ((hb2.mono hb1.size).trans (hb3.mono (Nat.le_trans hb1.size hb2.size)))⟩

set_option maxHeartbeats 2000000 in
theorem walk_none (k0 k1 : Int) (w : World) (hs : SipLaid w) :
    Calls Tryd.prog 8 #[.int .u64 k0, .int .u64 k1, .slice none 0 0] w fun e w' => e = .returned (.bool true) ∧ Below w.heap.size w w' := by
  have lies : Lies w none 0 0 0 (fun _ => 0) := ⟨fun h => absurd h (by omega), fun i hi => absurd hi (by omega)⟩
  have byte : ∀ i : Nat, 0 ≤ (fun _ : Nat => (0 : Int)) i ∧ (fun _ : Nat => (0 : Int)) i ≤ 255 := fun _ => ⟨Int.le_refl 0, (by decide : (0 : Int) ≤ 255)⟩
  have LI := Lib.hid lies
  have BY := Lib.hid byte
  have SL := Lib.hid hs
  clear lies byte hs
  go_enter Tryd.func8, Tryd.ntmps8
  go_wp2_with (first
    | (go_at_call 10; refine (clone_none _).mono ?_; rintro e w1 ⟨rfl, rfl⟩)
    | (go_at_call 20; refine (sip_lies k0 k1 none 0 0 0 0 (fun _ => 0) (by unfold maxLen; omega) (Nat.le_refl _) BY.out _ LI.out SL.out).mono ?_; rintro e w2 ⟨rfl, hb2⟩)
    | (go_at_call 21; refine (ref_sip_lies k0 k1 none 0 0 0 0 (fun _ => 0) (by unfold maxLen; omega) (Nat.le_refl _) BY.out _ (LI.out.below hb2)).mono ?_; rintro e w3 ⟨rfl, hb3⟩)
    | (go_at_call 15; refine (equal_any none none 0 0 0 0 0 0 0 (fun _ => 0) _ ((LI.out.below hb2).below hb3) ((LI.out.below hb2).below hb3)).mono ?_; rintro e w' ⟨rfl, rfl⟩)
    | (go_at_call 22; refine (scale_half _).mono ?_; rintro e w' ⟨rfl, rfl⟩))
  go_ret
  exact ⟨rfl, hb2.trans (hb3.mono hb2.size)⟩

theorem walk (a0 : Int) (_ : (Lit.int .u64 a0).wf = true) (a1 : Int) (_ : (Lit.int .u64 a1).wf = true) (a : Option Addr) (g o n c : Nat) (x : Nat → Int) (w : World) (h : IsBytes w (.slice a n c) a g o n c x) (hL : laidMetH Tryd.prog sipLaid w) :
    Calls Tryd.prog 8 #[.int .u64 a0, .int .u64 a1, .slice a n c] w fun e w' => e = .returned (.bool true) ∧ Below w.heap.size w w' := by
  cases a with
  | none =>
    obtain ⟨rfl, rfl⟩ := h.nil rfl
    exact walk_none a0 a1 w (of_sip hL)
  | some a => exact walk_some a0 a1 a g o n c x w h (of_sip hL)

set_option maxRecDepth 100000 in
theorem lifted (os : Os) (started : os.Started) (H : Type) (enc : TypeId × Value → H) :
    ReturnsInHanded {} Tryd.checked os 8 .any (fun w args => (Rows.sipSumsSpec.pre enc Tryd.prog Tryd.f8 [] false w args ∧ laidMetH Tryd.prog sipLaid w) ∧ sizedMet enc Tryd.prog Tryd.f8 (OpenSpec.ofChange Rows.sipSumsSpec) false w args)
      (Rows.sipSumsSpec.post enc Tryd.prog Tryd.f8 false true false false) := by
  refine returnsInHanded_of_change_and (C := Tryd.checked) (X := fun w _ => laidMetH Tryd.prog sipLaid w) (fun _ _ _ hh h => h.of_heap hh) own started (by kernel_rfl) Tryd.func8
    (ChangeSpec.witness_shaped (enc := enc) (C := Tryd.checked) (os := os) (X := fun w _ => laidMetH Tryd.prog sipLaid w) false (World.doorLaid Tryd.prog 400 os) #[.int .u64 0, .int .u64 0, .slice none 0 0] 8 rfl (World.shaped_of_RefB (by kernel_rfl) (by kernel_rfl)) (by kernel_rfl) (by kernel_rfl) (by kernel_rfl) (sip_door_met os _)) ?_
  intro W base args ds gs before hval0 hW _ hsz0 hL _
  have hval : ∀ (j : Nat) t v, Tryd.f8.params[j]? = some t → args[j]? = some v → Value.okWide Tryd.prog W .any base t v := hval0
  have hsz : (DataW.weightsEach Tryd.prog (Tryd.f8.params.toList ++ Rows.sipSumsSpec.plain.varTypes Tryd.prog) (ds ++ gs)).all (· ≤ reachBytes) = true := hsz0
  have hW' := hW
  obtain ⟨p, q, hA0, hV, rfl, hfz, hnd⟩ := hW
  have hA : DataW.TrodAll enc Tryd.prog W 0 (fun _ => true) true Tryd.f8.params.toList args.toList ds p := hA0
  rw [Tryd.params8] at hA hval hsz
  obtain ⟨v0, vs0, d0, ds0, p0, q0, hargs, rfl, rfl, h0, r0⟩ := trodAll_cons hA
  obtain ⟨v1, vs1, d1, ds1, p1, q1, rfl, rfl, rfl, h1, r1⟩ := trodAll_cons r0
  obtain ⟨v2, vs2, d2, ds2, p2, q2, rfl, rfl, rfl, h2, r2⟩ := trodAll_cons r1
  obtain ⟨rfl, rfl, rfl⟩ := trodAll_nil r2
  obtain rfl : args = #[v0, v1, v2] := by cases args; simp_all
  obtain ⟨rfl, rfl⟩ := trodVars_none hV
  obtain ⟨a0, rfl, rfl, rfl, w0⟩ := open_int Tryd.underlying42 (hval 0 42 v0 rfl rfl) h0
  obtain ⟨a1, rfl, rfl, rfl, w1⟩ := open_int Tryd.underlying42 (hval 1 42 v1 rfl rfl) h1
  have k2 := h2
  have lt2 : ∀ x ∈ p2, x.block < W.heap.size := by obtain ⟨m, hm⟩ := k2; exact DataW.trod_lt m _ _ _ hm
  obtain ⟨a2, g2, o2, n2, c2, x2, w2⟩ := open_bytes (j := 2) (hval 2 22 v2 rfl rfl) h2 hsz rfl rfl
  obtain rfl := w2.form
  clear hA0 hval0 hsz0
  refine (walk a0 w0 a1 w1 a2 g2 o2 n2 c2 x2 W w2 hL).mono fun e W' ⟨he, bel⟩ => ?_
  subst he
  exact ⟨_, rfl, _, _, _, [], _, [], hW', trodAll_mk1 (shut_bool Tryd.underlying4 _), (trodAll_cons_mk (shut_int Tryd.underlying42 w0) (trodAll_cons_mk (shut_int Tryd.underlying42 w1) (trodAll_cons_mk (Below.trod laidOut (by kernel_rfl) (of_decide_eq_true (by kernel_rfl)) k2 bel lt2) trodAll_mk0))), rfl, bel.frame _, fun h => by cases h⟩

theorem over : Rows.SipSumsSaid :=
  OpenClaim.holds_of_wide 8 Tryd.f8 rfl rfl rfl rfl rfl rfl rfl ⟨rfl, rfl, rfl, rfl, rfl⟩ rfl rfl rfl rfl rfl (by kernel_rfl) Tryd.func8 (by kernel_rfl)
    (of_decide_eq_true (by kernel_rfl)) (by unfold Func.isWrapper; first | (rw [if_pos (by decide +kernel)]; kernel_rfl) | (rw [if_neg (by decide +kernel)]; exact ⟨rfl, rfl⟩))
    (fun os started H enc _ => lifted os started H enc)

/-- The tied card. -/
theorem card_holds : Rows.SipSumsCardSaid :=
  Claim7.holds_tied_plain_at .later [] [.data] true (true, "8bf501e6a99cedb24af6d1d4e089c80a65d2267ee2cfdf8541ccf78d031baa76") false
    over (fun _ h => by cases h) (by kernel_rfl) (fun _ h => by cases h) sipSums_row_tie rfl ⟨rfl, rfl⟩ (by kernel_rfl) rfl
    (fun f fn hf hfn => by
      obtain rfl : f = 8 := Option.some.inj ((show Tryd.prog.funcNamed "sporran/sporranlaw02.SipSums" = some 8 by kernel_rfl).symm.trans hf) |>.symm
      obtain rfl : fn = Tryd.f8 := (Option.some.inj (Tryd.func8.symm.trans hfn)).symm
      exact ⟨by kernel_rfl, fun j t ht => by
        rw [Tryd.params8] at ht
        have hm : t ∈ [42, 42, 22] := by simpa using Array.mem_of_getElem? ht
        have hall : ([42, 42, 22].all fun u => !Tryd.prog.wantsStandIn u) = true := by kernel_rfl
        exact (show Tryd.prog.wantsStandIn t = false by simpa using List.all_eq_true.1 hall t hm)⟩)
    (by kernel_rfl)
#print axioms card_holds
end Go.Proofs.YtbiobejfjhmccaaDoor.sipSums
