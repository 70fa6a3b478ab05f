/- For every slice of bytes (nil too) and every int: the bytes' text is the document's; the text at the beginning of the bytes, at most so long, what stands behind it and the error are the document's; the call returns true. No condition. -/
import Derived.Test.YthnddiimkgahgaaSo
set_option linter.unusedVariables false
namespace Go.Proofs.Ythnddiimkgahgaa.sizeTexts
open Go.ChangeShapes Go.WideShapes Go.ChangeAt Go.RowKit Go.Lib Go.Proofs.Ythnddiimkgahgaa

set_option maxRecDepth 100000 in
set_option maxHeartbeats 4000000 in
theorem walk_bad {W : World} {a0 : Option Addr} {g0 o0 n0 c0 : Nat} {x0 : Nat → Nat} {a1 : Int} (RB : Hid (Row W a0 g0 o0 n0 c0 x0)) (le : n0 ≤ 140737488351232) {q : Nat} (HD : Hid (dec n0 x0 = q)) (HK : q ≠ 0) :
    Calls Try.prog 4 #[.slice a0 n0 c0, .int .i64 a1] W fun e w' => e = .returned (.bool true) ∧ Below W.heap.size W w' := by
  have E := Lib.hid (Below.refl W.heap.size W)
  go_enter Try.func4, Try.ntmps4
  go_wp2_with (first
      | (go_at_call 17; (with_reducible refine (read_bad RB HD HK).mono ?_); rintro e w1 ⟨rfl, hb⟩; replace E := Lib.hid (E.out.trans (hb.mono E.out.size)); clear hb)
      | (go_at_call 18; (with_reducible refine (rread_bad (Lib.hid (RB.out.below E.out)) HD HK (by omega)).mono ?_); rintro e w2 ⟨rfl, hb⟩; replace E := Lib.hid (E.out.trans (hb.mono E.out.size)); clear hb)
      | (go_at_call 19; (with_reducible refine (text_any (Lib.hid (RB.out.below E.out)) (by omega)).mono ?_); rintro e w3 ⟨p4, g4, c4, rfl, N4', hb⟩; have N4 := Lib.hid (N4'.row); replace E := Lib.hid (E.out.trans (hb.mono E.out.size)); clear hb N4')
      | (go_at_call 20; (with_reducible refine (ref_text_any (Lib.hid (RB.out.below E.out)) (by omega)).mono ?_); rintro e w4 ⟨p5, g5, c5, rfl, N5', hb⟩; have N5 := Lib.hid (N5'.row); replace E := Lib.hid (E.out.trans (hb.mono E.out.size)); replace N4 := Lib.hid (N4.out.below hb); clear hb N5')
      | (go_at_call 14; first
        | ((with_reducible refine (equal_any N4 N5 rfl (Lib.hid fun _ _ => rfl)).mono ?_); rintro e wq ⟨rfl, rfl⟩)
        | ((with_reducible refine (equal_any (Lib.hid (Row.nothing _ (fun _ => 0) (fun _ => by omega))) (Lib.hid (Row.nothing _ (fun _ => 0) (fun _ => by omega))) rfl (Lib.hid fun _ _ => rfl)).mono ?_); rintro e wq ⟨rfl, rfl⟩)))
  go_ret
  exact ⟨rfl, E.out⟩
set_option maxRecDepth 100000 in
set_option maxHeartbeats 4000000 in
theorem walk_full {W : World} {a0 : Option Addr} {g0 o0 n0 c0 : Nat} {x0 : Nat → Nat} {a1 : Int} (RB : Hid (Row W a0 g0 o0 n0 c0 x0)) (le : n0 ≤ 140737488351232) {lim : Nat} (HD : Hid (dec n0 x0 = 0)) (L : Hid (Lim a1 lim)) (t : lim < val x0) :
    Calls Try.prog 4 #[.slice a0 n0 c0, .int .i64 a1] W fun e w' => e = .returned (.bool true) ∧ Below W.heap.size W w' := by
  have E := Lib.hid (Below.refl W.heap.size W)
  go_enter Try.func4, Try.ntmps4
  go_wp2_with (first
      | (go_at_call 17; (with_reducible refine (read_full RB HD (by omega) L t).mono ?_); rintro e w1 ⟨rfl, hb⟩; replace E := Lib.hid (E.out.trans (hb.mono E.out.size)); clear hb)
      | (go_at_call 18; (with_reducible refine (rread_full (Lib.hid (RB.out.below E.out)) HD (by omega) L t).mono ?_); rintro e w2 ⟨rfl, hb⟩; replace E := Lib.hid (E.out.trans (hb.mono E.out.size)); clear hb)
      | (go_at_call 19; (with_reducible refine (text_any (Lib.hid (RB.out.below E.out)) (by omega)).mono ?_); rintro e w3 ⟨p4, g4, c4, rfl, N4', hb⟩; have N4 := Lib.hid (N4'.row); replace E := Lib.hid (E.out.trans (hb.mono E.out.size)); clear hb N4')
      | (go_at_call 20; (with_reducible refine (ref_text_any (Lib.hid (RB.out.below E.out)) (by omega)).mono ?_); rintro e w4 ⟨p5, g5, c5, rfl, N5', hb⟩; have N5 := Lib.hid (N5'.row); replace E := Lib.hid (E.out.trans (hb.mono E.out.size)); replace N4 := Lib.hid (N4.out.below hb); clear hb N5')
      | (go_at_call 14; first
        | ((with_reducible refine (equal_any N4 N5 rfl (Lib.hid fun _ _ => rfl)).mono ?_); rintro e wq ⟨rfl, rfl⟩)
        | ((with_reducible refine (equal_any (Lib.hid (Row.nothing _ (fun _ => 0) (fun _ => by omega))) (Lib.hid (Row.nothing _ (fun _ => 0) (fun _ => by omega))) rfl (Lib.hid fun _ _ => rfl)).mono ?_); rintro e wq ⟨rfl, rfl⟩)))
  go_ret
  exact ⟨rfl, E.out⟩
set_option maxRecDepth 100000 in
set_option maxHeartbeats 4000000 in
theorem walk_short {W : World} {a0 : Option Addr} {g0 o0 n0 c0 : Nat} {x0 : Nat → Nat} {a1 : Int} (RB : Hid (Row W a0 g0 o0 n0 c0 x0)) (le : n0 ≤ 140737488351232) {lim : Nat} (HD : Hid (dec n0 x0 = 0)) (L : Hid (Lim a1 lim)) (t : ¬ lim < val x0) (t2 : n0 - wOf (x0 0) < val x0) :
    Calls Try.prog 4 #[.slice a0 n0 c0, .int .i64 a1] W fun e w' => e = .returned (.bool true) ∧ Below W.heap.size W w' := by
  have E := Lib.hid (Below.refl W.heap.size W)
  go_enter Try.func4, Try.ntmps4
  go_wp2_with (first
      | (go_at_call 17; (with_reducible refine (read_short RB HD (by omega) L t t2).mono ?_); rintro e w1 ⟨rfl, hb⟩; replace E := Lib.hid (E.out.trans (hb.mono E.out.size)); clear hb)
      | (go_at_call 18; (with_reducible refine (rread_short (Lib.hid (RB.out.below E.out)) HD (by omega) L t t2).mono ?_); rintro e w2 ⟨rfl, hb⟩; replace E := Lib.hid (E.out.trans (hb.mono E.out.size)); clear hb)
      | (go_at_call 19; (with_reducible refine (text_any (Lib.hid (RB.out.below E.out)) (by omega)).mono ?_); rintro e w3 ⟨p4, g4, c4, rfl, N4', hb⟩; have N4 := Lib.hid (N4'.row); replace E := Lib.hid (E.out.trans (hb.mono E.out.size)); clear hb N4')
      | (go_at_call 20; (with_reducible refine (ref_text_any (Lib.hid (RB.out.below E.out)) (by omega)).mono ?_); rintro e w4 ⟨p5, g5, c5, rfl, N5', hb⟩; have N5 := Lib.hid (N5'.row); replace E := Lib.hid (E.out.trans (hb.mono E.out.size)); replace N4 := Lib.hid (N4.out.below hb); clear hb N5')
      | (go_at_call 14; first
        | ((with_reducible refine (equal_any N4 N5 rfl (Lib.hid fun _ _ => rfl)).mono ?_); rintro e wq ⟨rfl, rfl⟩)
        | ((with_reducible refine (equal_any (Lib.hid (Row.nothing _ (fun _ => 0) (fun _ => by omega))) (Lib.hid (Row.nothing _ (fun _ => 0) (fun _ => by omega))) rfl (Lib.hid fun _ _ => rfl)).mono ?_); rintro e wq ⟨rfl, rfl⟩)))
  go_ret
  exact ⟨rfl, E.out⟩
set_option maxRecDepth 100000 in
set_option maxHeartbeats 4000000 in
theorem walk_ok {W : World} {a0 : Option Addr} {g0 o0 n0 c0 : Nat} {x0 : Nat → Nat} {a1 : Int} (RB : Hid (Row W a0 g0 o0 n0 c0 x0)) (le : n0 ≤ 140737488351232) {lim : Nat} (HD : Hid (dec n0 x0 = 0)) (L : Hid (Lim a1 lim)) (t : ¬ lim < val x0) (t2 : ¬ n0 - wOf (x0 0) < val x0) :
    Calls Try.prog 4 #[.slice a0 n0 c0, .int .i64 a1] W fun e w' => e = .returned (.bool true) ∧ Below W.heap.size W w' := by
  have E := Lib.hid (Below.refl W.heap.size W)
  go_enter Try.func4, Try.ntmps4
  go_wp2_with (first
      | (go_at_call 17; (with_reducible refine (read_ok RB HD (by omega) L t t2).mono ?_); rintro e w1 ⟨p0a, g0a, o0a, c0a, p0b, g0b, o0b, c0b, rfl, RA', RB', hb⟩; have X0a := Lib.hid (RA'.below (Below.refl _ _)); have X0b := Lib.hid (RB'.below (Below.refl _ _)); replace E := Lib.hid (E.out.trans (hb.mono E.out.size)); clear hb RA' RB')
      | (go_at_call 18; (with_reducible refine (rread_ok (Lib.hid (RB.out.below E.out)) HD (by omega) L t t2).mono ?_); rintro e w2 ⟨p1a, g1a, o1a, c1a, p1b, g1b, o1b, c1b, rfl, RA', RB', hb⟩; have X1a := Lib.hid (RA'.below (Below.refl _ _)); have X1b := Lib.hid (RB'.below (Below.refl _ _)); replace E := Lib.hid (E.out.trans (hb.mono E.out.size)); replace X0a := Lib.hid (X0a.out.below hb); replace X0b := Lib.hid (X0b.out.below hb); clear hb RA' RB')
      | (go_at_call 19; (with_reducible refine (text_any (Lib.hid (RB.out.below E.out)) (by omega)).mono ?_); rintro e w3 ⟨p4, g4, c4, rfl, N4', hb⟩; have N4 := Lib.hid (N4'.row); replace E := Lib.hid (E.out.trans (hb.mono E.out.size)); replace X0a := Lib.hid (X0a.out.below hb); replace X0b := Lib.hid (X0b.out.below hb); replace X1a := Lib.hid (X1a.out.below hb); replace X1b := Lib.hid (X1b.out.below hb); clear hb N4')
      | (go_at_call 20; (with_reducible refine (ref_text_any (Lib.hid (RB.out.below E.out)) (by omega)).mono ?_); rintro e w4 ⟨p5, g5, c5, rfl, N5', hb⟩; have N5 := Lib.hid (N5'.row); replace E := Lib.hid (E.out.trans (hb.mono E.out.size)); replace X0a := Lib.hid (X0a.out.below hb); replace X0b := Lib.hid (X0b.out.below hb); replace X1a := Lib.hid (X1a.out.below hb); replace X1b := Lib.hid (X1b.out.below hb); replace N4 := Lib.hid (N4.out.below hb); clear hb N5')
      | (go_at_call 14; first
        | ((with_reducible refine (equal_any N4 N5 rfl (Lib.hid fun _ _ => rfl)).mono ?_); rintro e wq ⟨rfl, rfl⟩)
        | ((with_reducible refine (equal_any X0a X1a rfl (Lib.hid fun _ _ => rfl)).mono ?_); rintro e wq ⟨rfl, rfl⟩)
        | ((with_reducible refine (equal_any X0b X1b rfl (Lib.hid fun _ _ => rfl)).mono ?_); rintro e wq ⟨rfl, rfl⟩)))
  go_ret
  exact ⟨rfl, E.out⟩
theorem walk (W : World) (a0 : Option Addr) (g0 o0 n0 c0 : Nat) (x0 : Nat → Nat) (R : Row W a0 g0 o0 n0 c0 x0) (hc : c0 ≤ 140737488351232) (a1 : Int) (w1 : (Lit.int .i64 a1).wf = true) :
    Calls Try.prog 4 #[.slice a0 n0 c0, .int .i64 a1] W fun e w' => e = .returned (.bool true) ∧ Below W.heap.size W w' := by
  have le := Nat.le_trans R.le hc
  obtain ⟨lim, h1, h2, _⟩ := lim_of w1
  have L := Lib.hid (Lim.mk h1 h2)
  by_cases hd : dec n0 x0 = 0
  · by_cases t : lim < val x0
    · exact walk_full (Lib.hid R) le (Lib.hid hd) L t
    · by_cases t2 : n0 - wOf (x0 0) < val x0
      · exact walk_short (Lib.hid R) le (Lib.hid hd) L t t2
      · exact walk_ok (Lib.hid R) le (Lib.hid hd) L t t2
  · exact walk_bad (Lib.hid R) le (Lib.hid rfl) hd

set_option maxRecDepth 100000 in
theorem lifted (os : Os) (started : os.Started) (H : Type) (enc : TypeId × Value → H) :
    ReturnsInHanded {} Try.checked os 4 .any (Rows.sizeTextsSpec.pre6 enc Try.prog Try.f4 Rows.sizeTextsRow.domain false) (Rows.sizeTextsSpec.post enc Try.prog Try.f4 false true false false) := by
  refine returnsInHanded_of_change_sized (C := Try.checked) own started (by kernel_rfl) Try.func4
    (ChangeSpec.witness6 (enc := enc) (C := Try.checked) false ⟨#[], #[.slice none 0 0, .int .i64 0], []⟩ 8 (by kernel_rfl) (by kernel_rfl) (by kernel_rfl) (by kernel_rfl)) ?_
  intro W base args ds gs before hval0 hW hcnd hsz0 _
  have hval : ∀ (j : Nat) t v, Try.f4.params[j]? = some t → args[j]? = some v → Value.okWide Try.prog W .any base t v := hval0
  have hsz : (DataW.weightsEach Try.prog (Try.f4.params.toList ++ Rows.sizeTextsSpec.plain.varTypes Try.prog) (ds ++ gs)).all (· ≤ reachBytes) = true := hsz0
  have hW' := hW
  obtain ⟨p, q, hA0, hV, rfl, hfz, hnd⟩ := hW
  have hA : DataW.TrodAll enc Try.prog W 0 (fun _ => true) true Try.f4.params.toList args.toList ds p := hA0
  rw [Try.params4] at hA hval hsz
  obtain ⟨v0, vs0, d0, ds0, p0, q0, hargs, rfl, rfl, h0, r0⟩ := trodAll_cons hA
  obtain ⟨v1, vs1, d1, ds1, p1, q1, rfl, rfl, rfl, h1, r1⟩ := trodAll_cons r0
  obtain ⟨rfl, rfl, rfl⟩ := trodAll_nil r1
  obtain rfl : args = #[v0, v1] := by cases args; simp_all
  obtain ⟨rfl, rfl⟩ := trodVars_none hV
  have k0 := h0
  have lt0 : ∀ x ∈ p0, x.block < W.heap.size := by obtain ⟨m, hm⟩ := k0; exact DataW.trod_lt m _ _ _ hm
  obtain ⟨a0, g0, o0, n0, c0, x0, rfl, w0, m0⟩ := open_row (j := 0) (hval 0 23 v0 rfl rfl) h0 hsz rfl rfl
  obtain ⟨a1, rfl, rfl, rfl, w1⟩ := open_int Try.underlying3 (hval 1 3 v1 rfl rfl) h1
  clear hA0 hval0 hsz0
  simp only [List.append_nil] at hW'
  refine (walk W a0 g0 o0 n0 c0 x0 w0 m0 a1 w1).mono fun e W' ⟨he, bel⟩ => ?_
  subst he
  exact ⟨_, rfl, _, _, _, [], _, [], hW', trodAll_mk1 (shut_bool Try.underlying4 _), (trodAll_cons_mk (Below.trod laidOut (by kernel_rfl) (of_decide_eq_true (by kernel_rfl)) k0 bel lt0) (trodAll_cons_mk (shut_int Try.underlying3 w1) trodAll_mk0)), rfl, bel.frame _, fun h => by cases h⟩

theorem over : Rows.sizeTextsRow.holds Try.pinned (OpenSpec.ofChange Rows.sizeTextsSpec) :=
  OpenClaim.holds_of_wide 4 Try.f4 rfl rfl rfl rfl rfl rfl rfl ⟨rfl, rfl, rfl, rfl, rfl⟩ rfl rfl rfl rfl rfl (by kernel_rfl) Try.func4 (by kernel_rfl)
    (of_decide_eq_true (by kernel_rfl)) (by unfold Func.isWrapper; first | (rw [if_pos (by decide +kernel)]; kernel_rfl) | (rw [if_neg (by decide +kernel)]; exact ⟨rfl, rfl⟩))
    (fun os started H enc _ => lifted os started H enc)

/-- The statement. -/
theorem proved : Rows.SizeTextsSaid :=
  over
#print axioms proved
end Go.Proofs.Ythnddiimkgahgaa.sizeTexts
