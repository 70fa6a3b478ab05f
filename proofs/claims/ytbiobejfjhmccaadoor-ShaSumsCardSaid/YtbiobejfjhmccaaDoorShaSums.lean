/- For every slice of bytes (nil too): the program's SHA-256 of a copy is the document's, so is that of its bytes, the copy reads afterwards as it read before, and the call returns true. The two tables of package sha are laid as the program's text lays them; the card ties them to that text. No other condition. -/
import Derived.Test.YtbiobejfjhmccaaDoorSame
import Derived.Test.YtbiobejfjhmccaaDoorSipLaw
import Derived.Test.YtbiobejfjhmccaaDoorTie
import Derived.Test.YtbiobejfjhmccaaDoorCards
import Derived.ShutString
import Derived.ChangeOld
import Derived.Below
import Derived.SevenTiedAt
namespace Go.Proofs.YtbiobejfjhmccaaDoor.shaSums
open Go.ChangeShapes Go.WideShapes Go.ChangeAt Go.RowKit Go.Lib
set_option linter.unusedVariables false

theorem sum_lies (p : Option Addr) (g o n c : Nat) (x : Nat → Int) (hm : c ≤ maxLen) (hn : n ≤ 140737488351232) (hnc : n ≤ c) (hr : ∀ i, 0 ≤ x i ∧ x i ≤ 255) (w : World) (h : Lies w p g o n x) (hs : Both w) :
    Calls Tryd.prog 11 #[.slice p n c] w fun e w' => e = .returned (.agg (arr 32 (sha x n))) ∧ Below w.heap.size w w' :=
  sum_any p g o n c x hr (by omega) hnc (by unfold maxLen at hm; omega) w h hs
theorem double_lies (p : Option Addr) (g o n c : Nat) (x : Nat → Int) (hm : c ≤ maxLen) (hn : n ≤ 140737488351232) (hnc : n ≤ c) (hr : ∀ i, 0 ≤ x i ∧ x i ≤ 255) (w : World) (h : Lies w p g o n x) (hs : Both w) :
    Calls Tryd.prog 13 #[.slice p n c] w fun e w' => e = .returned (.agg (arr 32 (sha2 x n))) ∧ Below w.heap.size w w' :=
  double_any p g o n c x hr (by omega) hnc (by unfold maxLen at hm; omega) w h hs

set_option maxHeartbeats 2000000 in
theorem walk_some (a : Addr) (g o n c : Nat) (x : Nat → Int) (w : World) (h : IsBytes w (.slice (some a) n c) (some a) g o n c x) (hs : Both w) :
    Calls Tryd.prog 3 #[.slice (some a) n c] w fun e w' => e = .returned (.bool true) ∧ Below w.heap.size w w' := by
  obtain ⟨_, lies, byte, le, reach, _⟩ := h
  have cl : ∀ j, j < n → w.cell? (a.add j) = some (.int .u8 (x j)) := by
    intro j hj
    obtain ⟨rfl⟩ := lies.1 (by omega)
    rw [add_at]
    exact lies.2 j hj
  have LI := Lib.hid lies
  have BY := Lib.hid byte
  have CL := Lib.hid cl
  have SL := Lib.hid hs
  clear lies byte cl hs
  have sm := sum_same x n
  have sm2 := sum2_same x n
  go_enter Tryd.func3, Tryd.ntmps3
  go_wp2_with (first
    | (go_at_call 10; refine (clone_some a n c x _ (by omega) CL.out).mono ?_; rintro e w1 ⟨p1, g1, c1, rfl, hn1, hm1, hg1, hl1, hf1, hb1⟩)
    | (go_at_call 11; refine (sum_lies p1 g1 0 n c1 x hm1 (by omega) hn1 BY.out _ hl1 (SL.out.below hb1)).mono ?_; rintro e w2 ⟨rfl, hb2⟩)
    | (go_at_call 12; refine (ref_sum_any (some a) g o n c x BY.out (by omega) (fun h => by cases h) _ ((LI.out.below hb1).below hb2)).mono ?_; rintro e w3 ⟨rfl, hb3⟩)
    | (go_at_call 13; refine (double_lies p1 g1 0 n c1 x hm1 (by omega) hn1 BY.out _ ((hl1.below hb2).below hb3) (((SL.out.below hb1).below hb2).below hb3)).mono ?_; rintro e w4 ⟨rfl, hb4⟩)
    | (go_at_call 14; refine (ref_double_any (some a) g o n c x BY.out (by omega) (fun h => by cases h) _ ((((LI.out.below hb1).below hb2).below hb3).below hb4)).mono ?_; rintro e w5 ⟨rfl, hb5⟩)
    | (go_at_call 15; refine (equal_any p1 (some a) g1 g 0 o n c1 c x _ ((((hl1.below hb2).below hb3).below hb4).below hb5) (((((LI.out.below hb1).below hb2).below hb3).below hb4).below hb5)).mono ?_; rintro e w' ⟨rfl, rfl⟩))
  go_ret
  exact ⟨rfl, hb1.trans (((hb2.trans (hb3.mono hb2.size)).trans ((hb4.trans (hb5.mono hb4.size)).mono (Nat.le_trans hb2.size hb3.size))).mono hb1.size)⟩

set_option maxHeartbeats 2000000 in
theorem walk_none (w : World) (hs : Both w) :
    Calls Tryd.prog 3 #[.slice none 0 0] w fun e w' => e = .returned (.bool true) ∧ Below w.heap.size w w' := by
  have lies : Lies w none 0 0 0 (fun _ => 0) := ⟨fun h => absurd h (by omega), fun i hi => absurd hi (by omega)⟩
  have byte : ∀ i : Nat, 0 ≤ (fun _ : Nat => (0 : Int)) i ∧ (fun _ : Nat => (0 : Int)) i ≤ 255 := fun _ => ⟨Int.le_refl 0, (by decide : (0 : Int) ≤ 255)⟩
  have LI := Lib.hid lies
  have BY := Lib.hid byte
  have SL := Lib.hid hs
  clear lies byte hs
  have sm := sum_same (fun _ => 0) 0
  have sm2 := sum2_same (fun _ => 0) 0
  go_enter Tryd.func3, Tryd.ntmps3
  go_wp2_with (first
    | (go_at_call 10; refine (clone_none _).mono ?_; rintro e w1 ⟨rfl, rfl⟩)
    | (go_at_call 11; refine (sum_lies none 0 0 0 0 (fun _ => 0) (by unfold maxLen; omega) (by omega) (Nat.le_refl _) BY.out _ LI.out SL.out).mono ?_; rintro e w2 ⟨rfl, hb2⟩)
    | (go_at_call 12; refine (ref_sum_any none 0 0 0 0 (fun _ => 0) BY.out (by omega) (fun _ => ⟨rfl, rfl⟩) _ (LI.out.below hb2)).mono ?_; rintro e w3 ⟨rfl, hb3⟩)
    | (go_at_call 13; refine (double_lies none 0 0 0 0 (fun _ => 0) (by unfold maxLen; omega) (by omega) (Nat.le_refl _) BY.out _ ((LI.out.below hb2).below hb3) ((SL.out.below hb2).below hb3)).mono ?_; rintro e w4 ⟨rfl, hb4⟩)
    | (go_at_call 14; refine (ref_double_any none 0 0 0 0 (fun _ => 0) BY.out (by omega) (fun _ => ⟨rfl, rfl⟩) _ (((LI.out.below hb2).below hb3).below hb4)).mono ?_; rintro e w5 ⟨rfl, hb5⟩)
    | (go_at_call 15; refine (equal_any none none 0 0 0 0 0 0 0 (fun _ => 0) _ ((((LI.out.below hb2).below hb3).below hb4).below hb5) ((((LI.out.below hb2).below hb3).below hb4).below hb5)).mono ?_; rintro e w' ⟨rfl, rfl⟩))
  go_ret
  exact ⟨rfl, (hb2.trans (hb3.mono hb2.size)).trans ((hb4.trans (hb5.mono hb4.size)).mono (Nat.le_trans hb2.size hb3.size))⟩

theorem walk (a : Option Addr) (g o n c : Nat) (x : Nat → Int) (w : World) (h : IsBytes w (.slice a n c) a g o n c x) (hL : laidMetH Tryd.prog shaLaid w) :
    Calls Tryd.prog 3 #[.slice a n c] w fun e w' => e = .returned (.bool true) ∧ Below w.heap.size w w' := by
  cases a with
  | none =>
    obtain ⟨rfl, rfl⟩ := h.nil rfl
    exact walk_none w (of_sha hL)
  | some a => exact walk_some a g o n c x w h (of_sha hL)

set_option maxRecDepth 100000 in
theorem lifted (os : Os) (started : os.Started) (H : Type) (enc : TypeId × Value → H) :
    ReturnsInHanded {} Tryd.checked os 3 .any (fun w args => (Rows.shaSumsSpec.pre enc Tryd.prog Tryd.f3 [] false w args ∧ laidMetH Tryd.prog shaLaid w) ∧ sizedMet enc Tryd.prog Tryd.f3 (OpenSpec.ofChange Rows.shaSumsSpec) false w args)
      (Rows.shaSumsSpec.post enc Tryd.prog Tryd.f3 false true false false) := by
  refine returnsInHanded_of_change_and (C := Tryd.checked) (X := fun w _ => laidMetH Tryd.prog shaLaid w) (fun _ _ _ hh h => h.of_heap hh) own started (by kernel_rfl) Tryd.func3
    (ChangeSpec.witness_shaped (enc := enc) (C := Tryd.checked) (os := os) (X := fun w _ => laidMetH Tryd.prog shaLaid w) false (World.doorLaid Tryd.prog 400 os) #[.slice none 0 0] 8 rfl (World.shaped_of_RefB (by kernel_rfl) (by kernel_rfl)) (by kernel_rfl) (by kernel_rfl) (by kernel_rfl) (sha_door_met os _)) ?_
  intro W base args ds gs before hval0 hW _ hsz0 hL _
  have hval : ∀ (j : Nat) t v, Tryd.f3.params[j]? = some t → args[j]? = some v → Value.okWide Tryd.prog W .any base t v := hval0
  have hsz : (DataW.weightsEach Tryd.prog (Tryd.f3.params.toList ++ Rows.shaSumsSpec.plain.varTypes Tryd.prog) (ds ++ gs)).all (· ≤ reachBytes) = true := hsz0
  have hW' := hW
  obtain ⟨p, q, hA0, hV, rfl, hfz, hnd⟩ := hW
  have hA : DataW.TrodAll enc Tryd.prog W 0 (fun _ => true) true Tryd.f3.params.toList args.toList ds p := hA0
  rw [Tryd.params3] at hA hval hsz
  obtain ⟨v0, vs0, d0, ds0, p0, q0, hargs, rfl, rfl, h0, r0⟩ := trodAll_cons hA
  obtain ⟨rfl, rfl, rfl⟩ := trodAll_nil r0
  obtain rfl : args = #[v0] := by cases args; simp_all
  obtain ⟨rfl, rfl⟩ := trodVars_none hV
  have k0 := h0
  have lt0 : ∀ x ∈ p0, x.block < W.heap.size := by obtain ⟨m, hm⟩ := k0; exact DataW.trod_lt m _ _ _ hm
  obtain ⟨a0, g0, o0, n0, c0, x0, w0⟩ := open_bytes (j := 0) (hval 0 22 v0 rfl rfl) h0 hsz rfl rfl
  obtain rfl := w0.form
  clear hA0 hval0 hsz0
  refine (walk a0 g0 o0 n0 c0 x0 W w0 hL).mono fun e W' ⟨he, bel⟩ => ?_
  subst he
  exact ⟨_, rfl, _, _, _, [], _, [], hW', trodAll_mk1 (shut_bool Tryd.underlying4 _), (trodAll_cons_mk (Below.trod laidOut (by kernel_rfl) (of_decide_eq_true (by kernel_rfl)) k0 bel lt0) trodAll_mk0), rfl, bel.frame _, fun h => by cases h⟩

theorem over : Rows.ShaSumsSaid :=
  OpenClaim.holds_of_wide 3 Tryd.f3 rfl rfl rfl rfl rfl rfl rfl ⟨rfl, rfl, rfl, rfl, rfl⟩ rfl rfl rfl rfl rfl (by kernel_rfl) Tryd.func3 (by kernel_rfl)
    (of_decide_eq_true (by kernel_rfl)) (by unfold Func.isWrapper; first | (rw [if_pos (by decide +kernel)]; kernel_rfl) | (rw [if_neg (by decide +kernel)]; exact ⟨rfl, rfl⟩))
    (fun os started H enc _ => lifted os started H enc)

/-- The tied card. -/
theorem card_holds : Rows.ShaSumsCardSaid :=
  Claim7.holds_tied_plain_at .later [] [.data, .data] true (true, "8bf501e6a99cedb24af6d1d4e089c80a65d2267ee2cfdf8541ccf78d031baa76") false
    over (fun _ h => by cases h) (by kernel_rfl) (fun _ h => by cases h) shaSums_row_tie rfl ⟨rfl, rfl⟩ (by kernel_rfl) rfl
    (fun f fn hf hfn => by
      obtain rfl : f = 3 := Option.some.inj ((show Tryd.prog.funcNamed "sporran/sporranlaw01.ShaSums" = some 3 by kernel_rfl).symm.trans hf) |>.symm
      obtain rfl : fn = Tryd.f3 := (Option.some.inj (Tryd.func3.symm.trans hfn)).symm
      exact ⟨by kernel_rfl, fun j t ht => by
        rw [Tryd.params3] at ht
        have hm : t ∈ [22] := by simpa using Array.mem_of_getElem? ht
        have hall : ([22].all fun u => !Tryd.prog.wantsStandIn u) = true := by kernel_rfl
        exact (show Tryd.prog.wantsStandIn t = false by simpa using List.all_eq_true.1 hall t hm)⟩)
    (by kernel_rfl)
#print axioms card_holds
end Go.Proofs.YtbiobejfjhmccaaDoor.shaSums
