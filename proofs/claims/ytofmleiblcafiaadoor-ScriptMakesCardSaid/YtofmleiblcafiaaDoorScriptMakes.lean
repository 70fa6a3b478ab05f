/- For every number and every slice of bytes: the script of that kind, or that there is none, is the document's; a script of data is known; the call returns true. The table of patterns is laid as the program's text lays it; the card ties it to that text. No other condition. -/
import Derived.Test.YtofmleiblcafiaaDoorPs
import Derived.Test.YtofmleiblcafiaaDoorTie
import Derived.Test.YtofmleiblcafiaaDoorCards
import Derived.ShutString
import Derived.ChangeOld
import Derived.Below
import Derived.SevenTiedAt
set_option linter.unusedVariables false
set_option linter.unusedSimpArgs false
namespace Go.Proofs.YtofmleiblcafiaaDoor.scriptMakes
open Go.ChangeShapes Go.WideShapes Go.ChangeAt Go.RowKit Go.Lib Go.Sort Go.Proofs.YtofmleiblcafiaaDoor

set_option maxRecDepth 100000
set_option maxHeartbeats 8000000 in
theorem walk (W : World) (hL : laidMetH Tryd.prog patLaid W) (a0 : Int) (w0 : (Lit.int .i64 a0).wf = true) (a1 : Option Addr) (g1 o1 n1 c1 : Nat) (x1 : Nat → Nat) (w1 : Row W a1 g1 o1 n1 c1 x1) (m1 : c1 ≤ 140737488351232) :
    Calls Tryd.prog 4 #[.int .i64 a0, .slice a1 n1 c1] W fun e w' => e = .returned (.bool true) ∧ Below W.heap.size W w' := by
  have PL := Lib.hid (of_pat hL)
  have hn : n1 ≤ 140737488351232 := Nat.le_trans w1.le m1
  have R := Lib.hid w1
  obtain ⟨mk, hmk⟩ : ∃ mk, mk = mkOf a0 (tl x1 n1) := ⟨_, rfl⟩
  have HM := Lib.hid hmk
  clear hL w1 m1 hmk
  go_enter Tryd.func4, Tryd.ntmps4
  go_wp2_with (first
    | (go_at_call 17; refine (make_any PL.out a0 R hn).mono ?_; intro e w2 hE; obtain ⟨r, ok, p2, g2, c2, rfl, ho, hr, N, hb⟩ := hE; rw [← HM.out] at ho hr; have HO := Lib.hid ho; have HR := Lib.hid hr; have N1 := Lib.hid N; have BB := Lib.hid hb; replace PL := Lib.hid (PL.out.below hb); replace R := Lib.hid (R.out.below hb); clear ho hr N hb)
    | (go_at_call 18; refine (rmake_any a0 R hn).mono ?_; intro e w3 hE; obtain ⟨r3, ok3, p3, g3, c3, rfl, ho, hr, N, hb⟩ := hE; rw [← HM.out, ← HO.out] at ho; rw [← HM.out, ← HR.out] at hr; subst ho hr; have N3 := Lib.hid N; replace N1 := Lib.hid (N1.out.below hb); replace BB := Lib.hid (BB.out.trans (hb.mono BB.out.size)); replace PL := Lib.hid (PL.out.below hb); clear N hb)
    | (go_at_call 15; refine (equal_any N1 N3 rfl (Lib.hid fun i _ => rfl)).mono ?_; rintro e w4 ⟨rfl, rfl⟩)
    | (go_at_call 16; refine (awake13_any PL).mono ?_; rintro e w5 ⟨rfl, hb⟩; replace BB := Lib.hid (BB.out.trans (hb.mono BB.out.size)); clear hb))
  go_ret
  exact ⟨rfl, BB.out⟩

set_option maxRecDepth 100000 in
theorem lifted (os : Os) (started : os.Started) (H : Type) (enc : TypeId × Value → H) :
    ReturnsInHanded {} Tryd.checked os 4 .any (fun w args => (Rows.scriptMakesSpec.pre enc Tryd.prog Tryd.f4 [] false w args ∧ laidMetH Tryd.prog patLaid w) ∧ sizedMet enc Tryd.prog Tryd.f4 (OpenSpec.ofChange Rows.scriptMakesSpec) false w args)
      (Rows.scriptMakesSpec.post enc Tryd.prog Tryd.f4 false true false false) := by
  refine returnsInHanded_of_change_and (C := Tryd.checked) (X := fun w _ => laidMetH Tryd.prog patLaid w) (fun _ _ _ hh h => h.of_heap hh) own started (by kernel_rfl) Tryd.func4
    (ChangeSpec.witness_shaped (enc := enc) (C := Tryd.checked) (os := os) (X := fun w _ => laidMetH Tryd.prog patLaid w) false (World.doorLaid Tryd.prog 400 os) #[.int .i64 0, .slice none 0 0] 8 rfl (World.shaped_of_RefB (by kernel_rfl) (by kernel_rfl)) (by kernel_rfl) (by kernel_rfl) (by kernel_rfl) (pat_door_met os _)) ?_
  intro W base args ds gs before hval0 hW _ hsz0 hL _
  have hval : ∀ (j : Nat) t v, Tryd.f4.params[j]? = some t → args[j]? = some v → Value.okWide Tryd.prog W .any base t v := hval0
  have hsz : (DataW.weightsEach Tryd.prog (Tryd.f4.params.toList ++ Rows.scriptMakesSpec.plain.varTypes Tryd.prog) (ds ++ gs)).all (· ≤ reachBytes) = true := hsz0
  have hW' := hW
  obtain ⟨p, q, hA0, hV, rfl, hfz, hnd⟩ := hW
  have hA : DataW.TrodAll enc Tryd.prog W 0 (fun _ => true) true Tryd.f4.params.toList args.toList ds p := hA0
  rw [Tryd.params4] at hA hval hsz
  obtain ⟨v0, vs0, d0, ds0, p0, q0, hargs, rfl, rfl, h0, r0⟩ := trodAll_cons hA
  obtain ⟨v1, vs1, d1, ds1, p1, q1, rfl, rfl, rfl, h1, r1⟩ := trodAll_cons r0
  obtain ⟨rfl, rfl, rfl⟩ := trodAll_nil r1
  obtain rfl : args = #[v0, v1] := by cases args; simp_all
  obtain ⟨rfl, rfl⟩ := trodVars_none hV
  obtain ⟨a0, rfl, rfl, rfl, w0⟩ := open_int Tryd.underlying3 (hval 0 3 v0 rfl rfl) h0
  have k1 := h1
  have lt1 : ∀ x ∈ p1, x.block < W.heap.size := by obtain ⟨m, hm⟩ := k1; exact DataW.trod_lt m _ _ _ hm
  obtain ⟨a1, g1, o1, n1, c1, x1, rfl, w1, m1⟩ := open_row (j := 1) (hval 1 22 v1 rfl rfl) h1 hsz rfl rfl
  clear hA0 hval0 hsz0
  simp only [List.append_nil] at hW'
  refine (walk W hL a0 w0 a1 g1 o1 n1 c1 x1 w1 m1).mono fun e W' ⟨he, bel⟩ => ?_
  subst he
  exact ⟨_, rfl, _, _, _, [], _, [], hW', trodAll_mk1 (shut_bool Tryd.underlying4 _), (trodAll_cons_mk (shut_int Tryd.underlying3 w0) (trodAll_cons_mk (Below.trod laidOut (by kernel_rfl) (of_decide_eq_true (by kernel_rfl)) k1 bel lt1) trodAll_mk0)), rfl, bel.frame _, fun h => by cases h⟩

theorem over : Rows.ScriptMakesSaid :=
  OpenClaim.holds_of_wide 4 Tryd.f4 rfl rfl rfl rfl rfl rfl rfl ⟨rfl, rfl, rfl, rfl, rfl⟩ rfl rfl rfl rfl rfl (by kernel_rfl) Tryd.func4 (by kernel_rfl)
    (of_decide_eq_true (by kernel_rfl)) (by unfold Func.isWrapper; first | (rw [if_pos (by decide +kernel)]; kernel_rfl) | (rw [if_neg (by decide +kernel)]; exact ⟨rfl, rfl⟩))
    (fun os started H enc _ => lifted os started H enc)

/-- The tied card. -/
theorem card_holds : Rows.ScriptMakesCardSaid :=
  Claim7.holds_tied_plain_at .later [] [.data] true (true, "b32e7a9d5d5d1f98a55fc2d6bc5609c027a3105d4a9a0737bc6d65fbf460a3fe") false
    over (fun _ h => by cases h) (by kernel_rfl) (fun _ h => by cases h) scriptMakes_row_tie rfl ⟨rfl, rfl⟩ (by kernel_rfl) rfl
    (fun f fn hf hfn => by
      obtain rfl : f = 4 := Option.some.inj ((show Tryd.prog.funcNamed "sporran/sporranlaw13.ScriptMakes" = some 4 by kernel_rfl).symm.trans hf) |>.symm
      obtain rfl : fn = Tryd.f4 := (Option.some.inj (Tryd.func4.symm.trans hfn)).symm
      exact ⟨by kernel_rfl, fun j t ht => by
        rw [Tryd.params4] at ht
        have hm : t ∈ [3, 22] := by simpa using Array.mem_of_getElem? ht
        have hall : ([3, 22].all fun u => !Tryd.prog.wantsStandIn u) = true := by kernel_rfl
        exact (show Tryd.prog.wantsStandIn t = false by simpa using List.all_eq_true.1 hall t hm)⟩)
    (by kernel_rfl)
#print axioms card_holds
end Go.Proofs.YtofmleiblcafiaaDoor.scriptMakes
