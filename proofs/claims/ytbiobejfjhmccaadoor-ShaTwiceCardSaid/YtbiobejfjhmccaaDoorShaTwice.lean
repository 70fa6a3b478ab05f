/- For every slice of bytes (nil too): the program's double sum is its sum of its sum, and its sum is the document's. The two tables of package sha are laid as the program's text lays them; the card ties them to that text. No other condition. -/
import Derived.Test.YtbiobejfjhmccaaDoorSame
import Derived.Test.YtbiobejfjhmccaaDoorSipLaw
import Derived.Test.YtbiobejfjhmccaaDoorTie
import Derived.Test.YtbiobejfjhmccaaDoorCards
import Derived.Lib.QuietBelow
import Derived.ShutString
import Derived.ChangeOld
import Derived.Below
import Derived.SevenTiedAt
namespace Go.Proofs.YtbiobejfjhmccaaDoor.shaTwice
open Go.ChangeShapes Go.WideShapes Go.ChangeAt Go.RowKit Go.Lib Go.Sort
set_option linter.unusedVariables false

theorem wpQuiet_load_all {P : Program} {ops : Array Oper} {C : World → Prop} {Q : Act → Prop} {a : Act} {o : Oper} {rest : List Oper} (ty : TypeId) (x : Operand) (ho : o.op = .load ty x) (hw : Region.wanted o (yielded ops a.tmps) = true) (b : Nat)
    (hx : a.eval x = .pointer (some ⟨b, 0, none⟩)) (v : Value) (hl : ∀ w, C w → (Instr.loadAt ty (.pointer (some ⟨b, 0, none⟩))).run P w = .ok v w) (h : wpQuiet P ops C Q rest (a.put o.dst v)) : wpQuiet P ops C Q (o :: rest) a := by
  show if _ then _ else _
  rw [if_pos hw]
  refine ⟨v, fun w hC => ?_, h⟩
  unfold Oper.quietAt execOp
  simp only [ho, hx, Sem.run_bind, Sem.run_pure, hl w hC, Result.andThen_ok]
  exact ⟨rfl, rfl⟩

set_option maxHeartbeats 2000000 in
theorem walk_any (a : Option Addr) (g o n c : Nat) (x : Nat → Int) (w : World) (h : IsBytes w (.slice a n c) a g o n c x) (hs : Both w) :
    Calls Tryd.prog 6 #[.slice a n c] w fun e w' => e = .returned (.bool true) ∧ Below w.heap.size w w' := by
  obtain ⟨_, lies, byte, le, reach, nil⟩ := h
  have LI := Lib.hid lies
  have BY := Lib.hid byte
  have NI := Lib.hid nil
  have SL := Lib.hid hs
  clear lies byte hs nil
  go_enter Tryd.func6, Tryd.ntmps6
  go_upto_region 2 with (first
    | (go_at_call 11; refine (sum_any a g o n c x BY.out (by omega) le (by omega) _ LI.out SL.out).mono ?_; rintro e w1 ⟨rfl, hw1⟩; have H1 := Lib.hid (And.intro hw1 (HasAt.new w1 zb 32 25)); clear hw1)
    | (refine wpList_store_all rfl 25 (.tmp 3) (.tmp 5) rfl w1.heap.size 32 rfl 25 zb (sha x n) H1.out.2 rfl (by kernel_rfl) (fun _ => rfl) ?_; intro w2 hh2 ho2; have H2 := Lib.hid (And.intro hh2 ho2); clear hh2 ho2))
  have H2 : Hid (HasAt w1.heap.size 25 32 (sha x n) w2 ∧ Only w1.heap.size (w1.alloc (.cells (arr 32 zb) 25)) w2) := H2
  have b1 : Below w1.heap.size w1 w2 := (below_new w1 _).trans (H2.out.2.below (Nat.le_refl _) (by simp))
  have kw2 : Below w.heap.size w w2 := H1.out.1.trans (b1.mono H1.out.1.size)
  have G2 : Hid (HasAt w1.heap.size 25 32 (sha x n) w2 ∧ Lies w2 a g o n x ∧ Both w2 ∧ Below w.heap.size w w2) := Lib.hid ⟨H2.out.1, (LI.out.below H1.out.1).below b1, (SL.out.below H1.out.1).below b1, kw2⟩
  clear H1 H2 b1 kw2 LI SL
  generalize w1.heap.size = P at *
  have sl : ∀ d os, (Instr.sliceAt 25 (.pointer (some ⟨P, 0, none⟩)) none none none).run Tryd.prog (grow (redrawn w2 d) os) = .ok (.slice (some ⟨P, 0, none⟩) 32 32) (grow (redrawn w2 d) os) := fun d os => run_all25 P 0 _
  have ld : ∀ d os, (Instr.loadAt 25 (.pointer (some ⟨P, 0, none⟩))).run Tryd.prog (grow (redrawn w2 d) os) = .ok (.agg (arr 32 (sha x n))) (grow (redrawn w2 d) os) := fun d os => (G2.out.1.below (below_regrown w2 d os)).load 25 _ Tryd.underlying25 rfl (by kernel_rfl)
  have sm : ∀ d os, (Op.equalIn 10000 25 (.agg (arr 32 (sha x n))) (.agg (arr 32 (sha x n)))).run Tryd.prog (grow (redrawn w2 d) os) = .ok true (grow (redrawn w2 d) os) := fun d os => sum_same x n _
  have sm2 : ∀ d os, (Op.equalIn 10000 25 (.agg (arr 32 (sha2 x n))) (.agg (arr 32 (sha2 x n)))).run Tryd.prog (grow (redrawn w2 d) os) = .ok true (grow (redrawn w2 d) os) := fun d os => sum2_same x n _
  have c13 : Hid (∀ d os, Calls Tryd.prog 13 #[.slice a n c] (grow (redrawn w2 d) os) fun e w'' => e = .returned (.agg (arr 32 (sha2 x n))) ∧ ∃ p : Regrown, w'' = grow (redrawn w2 p.d) p.os) := Lib.hid fun d os => Calls.regrown_of (double_any a g o n c x BY.out (by omega) le (by omega) _ (G2.out.2.1.below (below_regrown w2 d os)) (G2.out.2.2.1.below (below_regrown w2 d os)))
  have c11 : Hid (∀ d os, Calls Tryd.prog 11 #[.slice (some ⟨P, 0, none⟩) 32 32] (grow (redrawn w2 d) os) fun e w'' => e = .returned (.agg (arr 32 (sha2 x n))) ∧ ∃ p : Regrown, w'' = grow (redrawn w2 p.d) p.os) := Lib.hid fun d os => Calls.regrown_of (sum_any (some ⟨P, 0, none⟩) P 0 32 32 (shaI x n) (fun i => shaI_range x n i) (by omega) (Nat.le_refl _) (by omega) _ (lies_of_sum (G2.out.1.below (below_regrown w2 d os))) (G2.out.2.2.1.below (below_regrown w2 d os)))
  have c12 : Hid (∀ d os, Calls Tryd.prog 12 #[.slice a n c] (grow (redrawn w2 d) os) fun e w'' => e = .returned (.agg (arr 32 (sha x n))) ∧ ∃ p : Regrown, w'' = grow (redrawn w2 p.d) p.os) := Lib.hid fun d os => Calls.regrown_of (ref_sum_any a g o n c x BY.out (by omega) NI.out _ (G2.out.2.1.below (below_regrown w2 d os)))
  refine wp_region_quiet_below (by kernel_rfl) (by kernel_rfl) ?_
  repeat (quiet_step (first | with_reducible exact c13.out _ _ | with_reducible exact c11.out _ _ | with_reducible exact c12.out _ _))
  refine wpQuiet_load_all 25 (.tmp 3) rfl (by first | rfl | kernel_rfl | simp [Region.wanted, yielded]) P rfl (.agg (arr 32 (sha x n))) (fun w hC => by obtain ⟨p, rfl⟩ := hC; exact ld _ _) ?_
  repeat (quiet_step (first | with_reducible exact c13.out _ _ | with_reducible exact c11.out _ _ | with_reducible exact c12.out _ _))
  refine wpQuiet_nil ?_
  intro _ hw'
  obtain ⟨⟨dq, osq⟩, hw''⟩ := hw'
  subst hw''
  go_wp2_with fail
  go_ret
  exact ⟨rfl, G2.out.2.2.2.trans ((below_regrown w2 dq osq).mono G2.out.2.2.2.size)⟩

theorem walk (a : Option Addr) (g o n c : Nat) (x : Nat → Int) (w : World) (h : IsBytes w (.slice a n c) a g o n c x) (hL : laidMetH Tryd.prog shaLaid w) :
    Calls Tryd.prog 6 #[.slice a n c] w fun e w' => e = .returned (.bool true) ∧ Below w.heap.size w w' := walk_any a g o n c x w h (of_sha hL)

set_option maxRecDepth 100000 in
theorem lifted (os : Os) (started : os.Started) (H : Type) (enc : TypeId × Value → H) :
    ReturnsInHanded {} Tryd.checked os 6 .any (fun w args => (Rows.shaTwiceSpec.pre enc Tryd.prog Tryd.f6 [] false w args ∧ laidMetH Tryd.prog shaLaid w) ∧ sizedMet enc Tryd.prog Tryd.f6 (OpenSpec.ofChange Rows.shaTwiceSpec) false w args)
      (Rows.shaTwiceSpec.post enc Tryd.prog Tryd.f6 false true false false) := by
  refine returnsInHanded_of_change_and (C := Tryd.checked) (X := fun w _ => laidMetH Tryd.prog shaLaid w) (fun _ _ _ hh h => h.of_heap hh) own started (by kernel_rfl) Tryd.func6
    (ChangeSpec.witness_shaped (enc := enc) (C := Tryd.checked) (os := os) (X := fun w _ => laidMetH Tryd.prog shaLaid w) false (World.doorLaid Tryd.prog 400 os) #[.slice none 0 0] 8 rfl (World.shaped_of_RefB (by kernel_rfl) (by kernel_rfl)) (by kernel_rfl) (by kernel_rfl) (by kernel_rfl) (sha_door_met os _)) ?_
  intro W base args ds gs before hval0 hW _ hsz0 hL _
  have hval : ∀ (j : Nat) t v, Tryd.f6.params[j]? = some t → args[j]? = some v → Value.okWide Tryd.prog W .any base t v := hval0
  have hsz : (DataW.weightsEach Tryd.prog (Tryd.f6.params.toList ++ Rows.shaTwiceSpec.plain.varTypes Tryd.prog) (ds ++ gs)).all (· ≤ reachBytes) = true := hsz0
  have hW' := hW
  obtain ⟨p, q, hA0, hV, rfl, hfz, hnd⟩ := hW
  have hA : DataW.TrodAll enc Tryd.prog W 0 (fun _ => true) true Tryd.f6.params.toList args.toList ds p := hA0
  rw [Tryd.params6] at hA hval hsz
  obtain ⟨v0, vs0, d0, ds0, p0, q0, hargs, rfl, rfl, h0, r0⟩ := trodAll_cons hA
  obtain ⟨rfl, rfl, rfl⟩ := trodAll_nil r0
  obtain rfl : args = #[v0] := by cases args; simp_all
  obtain ⟨rfl, rfl⟩ := trodVars_none hV
  have k0 := h0
  have lt0 : ∀ x ∈ p0, x.block < W.heap.size := by obtain ⟨m, hm⟩ := k0; exact DataW.trod_lt m _ _ _ hm
  obtain ⟨a0, g0, o0, n0, c0, x0, w0⟩ := open_bytes (j := 0) (hval 0 22 v0 rfl rfl) h0 hsz rfl rfl
  obtain rfl := w0.form
  clear hA0 hval0 hsz0
  refine (walk a0 g0 o0 n0 c0 x0 W w0 hL).mono fun e W' ⟨he, bel⟩ => ?_
  subst he
  exact ⟨_, rfl, _, _, _, [], _, [], hW', trodAll_mk1 (shut_bool Tryd.underlying4 _), (trodAll_cons_mk (Below.trod laidOut (by kernel_rfl) (of_decide_eq_true (by kernel_rfl)) k0 bel lt0) trodAll_mk0), rfl, bel.frame _, fun h => by cases h⟩

theorem over : Rows.ShaTwiceSaid :=
  OpenClaim.holds_of_wide 6 Tryd.f6 rfl rfl rfl rfl rfl rfl rfl ⟨rfl, rfl, rfl, rfl, rfl⟩ rfl rfl rfl rfl rfl (by kernel_rfl) Tryd.func6 (by kernel_rfl)
    (of_decide_eq_true (by kernel_rfl)) (by unfold Func.isWrapper; first | (rw [if_pos (by decide +kernel)]; kernel_rfl) | (rw [if_neg (by decide +kernel)]; exact ⟨rfl, rfl⟩))
    (fun os started H enc _ => lifted os started H enc)

/-- The tied card. -/
theorem card_holds : Rows.ShaTwiceCardSaid :=
  Claim7.holds_tied_plain_at .later [] [.data, .data] true (true, "8bf501e6a99cedb24af6d1d4e089c80a65d2267ee2cfdf8541ccf78d031baa76") false
    over (fun _ h => by cases h) (by kernel_rfl) (fun _ h => by cases h) shaTwice_row_tie rfl ⟨rfl, rfl⟩ (by kernel_rfl) rfl
    (fun f fn hf hfn => by
      obtain rfl : f = 6 := Option.some.inj ((show Tryd.prog.funcNamed "sporran/sporranlaw01.ShaTwice" = some 6 by kernel_rfl).symm.trans hf) |>.symm
      obtain rfl : fn = Tryd.f6 := (Option.some.inj (Tryd.func6.symm.trans hfn)).symm
      exact ⟨by kernel_rfl, fun j t ht => by
        rw [Tryd.params6] at ht
        have hm : t ∈ [22] := by simpa using Array.mem_of_getElem? ht
        have hall : ([22].all fun u => !Tryd.prog.wantsStandIn u) = true := by kernel_rfl
        exact (show Tryd.prog.wantsStandIn t = false by simpa using List.all_eq_true.1 hall t hm)⟩)
    (by kernel_rfl)
#print axioms card_holds
end Go.Proofs.YtbiobejfjhmccaaDoor.shaTwice
