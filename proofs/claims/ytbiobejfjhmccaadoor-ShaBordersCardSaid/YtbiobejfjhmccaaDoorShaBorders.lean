/- For every whole number n: the sums of as many noughts as n modulo 300 says are the document's, and so is the sum of nil. The two tables of package sha are laid as the program's text lays them; the card ties them to that text. No other condition. -/
import Derived.Test.YtbiobejfjhmccaaDoorSame
import Derived.Test.YtbiobejfjhmccaaDoorSipLaw
import Derived.Test.YtbiobejfjhmccaaDoorTie
import Derived.Test.YtbiobejfjhmccaaDoorCards
import Derived.Deep.OwnRows
import Derived.ShutString
import Derived.ChangeOld
import Derived.Below
import Derived.SevenTiedAt
namespace Go.Proofs.YtbiobejfjhmccaaDoor.shaBorders
open Go.ChangeShapes Go.WideShapes Go.ChangeAt Go.RowKit Go.Lib
set_option linter.unusedVariables false

theorem made_zb (n : Nat) : madeCells #[.int .u8 0] n = arr n zb := by
  apply arr_of (size_madeCells _ _)
  intro i hi
  simp [madeCells, hi, Nat.mod_one, zb]
theorem length_of (a0 : Int) : ∃ m : Nat, m < 300 ∧ wrap64 ((IntKind.u64.wrap a0).tmod 300) = (m : Int) := by
  have h1 : IntKind.u64.wrap a0 = a0 % 18446744073709551616 := by rw [IntKind.wrap_u64]
  rw [h1]
  have h2 : (a0 % 18446744073709551616).tmod 300 = a0 % 18446744073709551616 % 300 := Int.tmod_eq_emod_of_nonneg (by omega)
  rw [h2]
  refine ⟨(a0 % 18446744073709551616 % 300).toNat, by omega, ?_⟩
  unfold wrap64
  omega
set_option maxHeartbeats 2000000 in
theorem walk (a0 : Int) (w0 : (Lit.int .i64 a0).wf = true) (w : World) (hL : laidMetH Tryd.prog shaLaid w) :
    Calls Tryd.prog 5 #[.int .i64 a0] w fun e w' => e = .returned (.bool true) ∧ Below w.heap.size w w' := by
  obtain ⟨m, hm, em⟩ := length_of a0
  have mk := run_make_row' (P := Tryd.prog) 22 5 (.int .u8 0) 1 Tryd.underlying22 info5 rfl .i64 .i64 m (by omega) (by omega) w
  rw [made_zb] at mk
  have k1 := below_new w (.cells (arr m zb) 5)
  have k2 : Lies (w.alloc (.cells (arr m zb) 5)) (some ⟨w.heap.size, 0, none⟩) w.heap.size 0 m (fun _ => 0) := ⟨fun _ => rfl, fun i hi => by rw [Nat.zero_add]; exact (HasAt.new w zb m 5).cell i hi⟩
  have k3 : Both (w.alloc (.cells (arr m zb) 5)) := Both.below (of_sha hL) k1
  have k4 : ∀ wx : World, Lies wx none 0 0 0 (fun _ => 0) := fun wx => ⟨fun h => absurd h (by omega), fun i hi => absurd hi (by omega)⟩
  have k5 : ∀ _ : Nat, (0 : Int) ≤ 0 ∧ (0 : Int) ≤ 255 := fun _ => ⟨Int.le_refl 0, by decide⟩
  have K := Lib.hid (And.intro k1 (And.intro k2 (And.intro k3 (And.intro k4 k5))))
  have sm := sum_same (fun _ => 0) m
  have sm0 := sum_same (fun _ => 0) 0
  clear hL k1 k2 k3 k4 k5
  go_enter Tryd.func5, Tryd.ntmps5
  go_upto_region 2 with fail
  generalize w.alloc (.cells (arr m zb) 5) = w1 at *
  clear mk em
  have C1 : Hid (Calls Tryd.prog 11 #[.slice (some ⟨w.heap.size, 0, none⟩) m m] w1 fun e w' => e = .returned (.agg (arr 32 (sha (fun _ => 0) m))) ∧ Below w1.heap.size w1 w') := Lib.hid (sum_any (some ⟨w.heap.size, 0, none⟩) w.heap.size 0 m m (fun _ => 0) K.out.2.2.2.2 (by omega) (Nat.le_refl _) (by omega) w1 K.out.2.1 K.out.2.2.1)
  have C2 : Hid (∀ wx, Lies wx (some ⟨w.heap.size, 0, none⟩) w.heap.size 0 m (fun _ => 0) → Calls Tryd.prog 12 #[.slice (some ⟨w.heap.size, 0, none⟩) m m] wx fun e w' => e = .returned (.agg (arr 32 (sha (fun _ => 0) m))) ∧ Below wx.heap.size wx w') := Lib.hid (fun wx h => ref_sum_any (some ⟨w.heap.size, 0, none⟩) w.heap.size 0 m m (fun _ => 0) K.out.2.2.2.2 (by omega) (fun h => by cases h) wx h)
  have C3 : Hid (∀ wx, Both wx → Calls Tryd.prog 11 #[.slice none 0 0] wx fun e w' => e = .returned (.agg (arr 32 (sha (fun _ => 0) 0))) ∧ Below wx.heap.size wx w') := Lib.hid (fun wx h => sum_any none 0 0 0 0 (fun _ => 0) K.out.2.2.2.2 (by omega) (Nat.le_refl _) (by omega) wx (K.out.2.2.2.1 wx) h)
  have C4 : Hid (∀ wx, Calls Tryd.prog 12 #[.slice none 0 0] wx fun e w' => e = .returned (.agg (arr 32 (sha (fun _ => 0) 0))) ∧ Below wx.heap.size wx w') := Lib.hid (fun wx => ref_sum_any none 0 0 0 0 (fun _ => 0) K.out.2.2.2.2 (by omega) (fun _ => ⟨rfl, rfl⟩) wx (K.out.2.2.2.1 wx))
  go_wp2_with (first
    | (go_at_call 11; with_reducible refine C1.out.mono ?_; rintro e w2 ⟨rfl, hb2⟩)
    | (go_at_call 12; with_reducible refine (C2.out w2 (K.out.2.1.below hb2)).mono ?_; rintro e w3 ⟨rfl, hb3⟩)
    | (go_at_call 11; with_reducible refine (C3.out w3 ((K.out.2.2.1.below hb2).below hb3)).mono ?_; rintro e w4 ⟨rfl, hb4⟩)
    | (go_at_call 12; with_reducible refine (C4.out w4).mono ?_; rintro e w5 ⟨rfl, hb5⟩))
  go_ret
  exact ⟨rfl, K.out.1.trans (((hb2.trans (hb3.mono hb2.size)).trans ((hb4.trans (hb5.mono hb4.size)).mono (Nat.le_trans hb2.size hb3.size))).mono K.out.1.size)⟩

set_option maxRecDepth 100000 in
theorem lifted (os : Os) (started : os.Started) (H : Type) (enc : TypeId × Value → H) :
    ReturnsInHanded {} Tryd.checked os 5 .any (fun w args => (Rows.shaBordersSpec.pre enc Tryd.prog Tryd.f5 [] false w args ∧ laidMetH Tryd.prog shaLaid w) ∧ sizedMet enc Tryd.prog Tryd.f5 (OpenSpec.ofChange Rows.shaBordersSpec) false w args)
      (Rows.shaBordersSpec.post enc Tryd.prog Tryd.f5 false true false false) := by
  refine returnsInHanded_of_change_and (C := Tryd.checked) (X := fun w _ => laidMetH Tryd.prog shaLaid w) (fun _ _ _ hh h => h.of_heap hh) own started (by kernel_rfl) Tryd.func5
    (ChangeSpec.witness_shaped (enc := enc) (C := Tryd.checked) (os := os) (X := fun w _ => laidMetH Tryd.prog shaLaid w) false (World.doorLaid Tryd.prog 400 os) #[.int .i64 0] 8 rfl (World.shaped_of_RefB (by kernel_rfl) (by kernel_rfl)) (by kernel_rfl) (by kernel_rfl) (by kernel_rfl) (sha_door_met os _)) ?_
  intro W base args ds gs before hval0 hW _ hsz0 hL _
  have hval : ∀ (j : Nat) t v, Tryd.f5.params[j]? = some t → args[j]? = some v → Value.okWide Tryd.prog W .any base t v := hval0
  have hsz : (DataW.weightsEach Tryd.prog (Tryd.f5.params.toList ++ Rows.shaBordersSpec.plain.varTypes Tryd.prog) (ds ++ gs)).all (· ≤ reachBytes) = true := hsz0
  have hW' := hW
  obtain ⟨p, q, hA0, hV, rfl, hfz, hnd⟩ := hW
  have hA : DataW.TrodAll enc Tryd.prog W 0 (fun _ => true) true Tryd.f5.params.toList args.toList ds p := hA0
  rw [Tryd.params5] at hA hval hsz
  obtain ⟨v0, vs0, d0, ds0, p0, q0, hargs, rfl, rfl, h0, r0⟩ := trodAll_cons hA
  obtain ⟨rfl, rfl, rfl⟩ := trodAll_nil r0
  obtain rfl : args = #[v0] := by cases args; simp_all
  obtain ⟨rfl, rfl⟩ := trodVars_none hV
  obtain ⟨a0, rfl, rfl, rfl, w0⟩ := open_int Tryd.underlying3 (hval 0 3 v0 rfl rfl) h0
  clear hA0 hval0 hsz0
  refine (walk a0 w0 W hL).mono fun e W' ⟨he, bel⟩ => ?_
  subst he
  exact ⟨_, rfl, _, _, _, [], _, [], hW', trodAll_mk1 (shut_bool Tryd.underlying4 _), (trodAll_cons_mk (shut_int Tryd.underlying3 w0) trodAll_mk0), rfl, bel.frame _, fun h => by cases h⟩

theorem over : Rows.ShaBordersSaid :=
  OpenClaim.holds_of_wide 5 Tryd.f5 rfl rfl rfl rfl rfl rfl rfl ⟨rfl, rfl, rfl, rfl, rfl⟩ rfl rfl rfl rfl rfl (by kernel_rfl) Tryd.func5 (by kernel_rfl)
    (of_decide_eq_true (by kernel_rfl)) (by unfold Func.isWrapper; first | (rw [if_pos (by decide +kernel)]; kernel_rfl) | (rw [if_neg (by decide +kernel)]; exact ⟨rfl, rfl⟩))
    (fun os started H enc _ => lifted os started H enc)

/-- The tied card. -/
theorem card_holds : Rows.ShaBordersCardSaid :=
  Claim7.holds_tied_plain_at .later [] [.data, .data] true (true, "8bf501e6a99cedb24af6d1d4e089c80a65d2267ee2cfdf8541ccf78d031baa76") false
    over (fun _ h => by cases h) (by kernel_rfl) (fun _ h => by cases h) shaBorders_row_tie rfl ⟨rfl, rfl⟩ (by kernel_rfl) rfl
    (fun f fn hf hfn => by
      obtain rfl : f = 5 := Option.some.inj ((show Tryd.prog.funcNamed "sporran/sporranlaw01.ShaBorders" = some 5 by kernel_rfl).symm.trans hf) |>.symm
      obtain rfl : fn = Tryd.f5 := (Option.some.inj (Tryd.func5.symm.trans hfn)).symm
      exact ⟨by kernel_rfl, fun j t ht => by
        rw [Tryd.params5] at ht
        have hm : t ∈ [3] := by simpa using Array.mem_of_getElem? ht
        have hall : ([3].all fun u => !Tryd.prog.wantsStandIn u) = true := by kernel_rfl
        exact (show Tryd.prog.wantsStandIn t = false by simpa using List.all_eq_true.1 hall t hm)⟩)
    (by kernel_rfl)
#print axioms card_holds
end Go.Proofs.YtbiobejfjhmccaaDoor.shaBorders
