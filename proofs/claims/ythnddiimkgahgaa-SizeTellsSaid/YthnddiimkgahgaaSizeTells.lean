/- For every count and every slice of bytes (nil too): the count's bytes are the document's; the count of a copy of the bytes, what stands behind it and the error are the document's; the copy reads as it did, and the call returns true. No condition. -/
import Derived.Test.YthnddiimkgahgaaSn
set_option linter.unusedVariables false
namespace Go.Proofs.Ythnddiimkgahgaa.sizeTells
open Go.ChangeShapes Go.WideShapes Go.ChangeAt Go.RowKit Go.Lib Go.Proofs.Ythnddiimkgahgaa

set_option maxRecDepth 100000 in
set_option maxHeartbeats 4000000 in
theorem walk (W : World) (a0 : Int) (w0 : (Lit.int .u64 a0).wf = true) (a1 : Option Addr) (g1 o1 n1 c1 : Nat) (x1 : Nat → Nat) (R : Row W a1 g1 o1 n1 c1 x1) (hc : c1 ≤ 140737488351232) :
    Calls Try.prog 3 #[.int .u64 a0, .slice a1 n1 c1] W fun e w' => e = .returned (.bool true) ∧ Below W.heap.size W w' := by
  obtain ⟨k, rfl, hk⟩ := nat_of64 w0
  have RB := Lib.hid R
  have le := R.le
  have E := Lib.hid (Below.refl W.heap.size W)
  clear R w0 hk
  by_cases hd : dec n1 x1 = 0
  · have HD := Lib.hid hd
    clear hd
    go_enter Try.func3, Try.ntmps3
    go_wp2_with (first
      | (go_at_call 11; (with_reducible refine (clone_any RB (by omega)).mono ?_); rintro e w1 ⟨p1, g1, c1, rfl, N1, hb⟩; have RG := Lib.hid (N1.row); replace E := Lib.hid (E.out.trans (hb.mono E.out.size)); clear hb N1)
      | (go_at_call 12; (with_reducible refine (decode_good RG HD (Lib.hid (by omega))).mono ?_); rintro e w2 ⟨p2, g2, c2, rfl, R2', hb⟩; have R2 := Lib.hid (R2'.below (Below.refl _ _)); replace E := Lib.hid (E.out.trans (hb.mono E.out.size)); replace RG := Lib.hid (RG.out.below hb); clear hb R2')
      | (go_at_call 13; (with_reducible refine (ref_decode_good (Lib.hid (RB.out.below E.out)) HD (by omega)).mono ?_); rintro e w3 ⟨p3, g3, c3, rfl, R3', hb⟩; have R3 := Lib.hid (R3'.below (Below.refl _ _)); replace E := Lib.hid (E.out.trans (hb.mono E.out.size)); replace RG := Lib.hid (RG.out.below hb); replace R2 := Lib.hid (R2.out.below hb); clear hb R3')
      | (go_at_call 15; (with_reducible refine (encode_any k _).mono ?_); rintro e w4 ⟨p4, g4, c4, rfl, N4', hb⟩; have N4 := Lib.hid (N4'.row); replace E := Lib.hid (E.out.trans (hb.mono E.out.size)); replace RG := Lib.hid (RG.out.below hb); replace R2 := Lib.hid (R2.out.below hb); replace R3 := Lib.hid (R3.out.below hb); clear hb N4')
      | (go_at_call 16; (with_reducible refine (ref_encode_any k _).mono ?_); rintro e w5 ⟨p5, g5, c5, rfl, N5', hb⟩; have N5 := Lib.hid (N5'.row); replace E := Lib.hid (E.out.trans (hb.mono E.out.size)); replace RG := Lib.hid (RG.out.below hb); replace R2 := Lib.hid (R2.out.below hb); replace R3 := Lib.hid (R3.out.below hb); replace N4 := Lib.hid (N4.out.below hb); clear hb N5')
      | (go_at_call 14; first
        | ((with_reducible refine (equal_any N4 N5 rfl (Lib.hid fun _ _ => rfl)).mono ?_); rintro e wq ⟨rfl, rfl⟩)
        | ((with_reducible refine (equal_any R2 R3 rfl (Lib.hid fun _ _ => rfl)).mono ?_); rintro e wq ⟨rfl, rfl⟩)
        | ((with_reducible refine (equal_any RG (Lib.hid (RB.out.below E.out)) rfl (Lib.hid fun _ _ => rfl)).mono ?_); rintro e wq ⟨rfl, rfl⟩)))
    go_ret
    exact ⟨rfl, E.out⟩
  · obtain ⟨q, hq⟩ : ∃ q, dec n1 x1 = q := ⟨_, rfl⟩
    have HK : q ≠ 0 := by rw [← hq]; exact hd
    have HD := Lib.hid hq
    clear hd hq
    go_enter Try.func3, Try.ntmps3
    go_wp2_with (first
      | (go_at_call 11; (with_reducible refine (clone_any RB (by omega)).mono ?_); rintro e w1 ⟨p1, g1, c1, rfl, N1, hb⟩; have RG := Lib.hid (N1.row); replace E := Lib.hid (E.out.trans (hb.mono E.out.size)); clear hb N1)
      | (go_at_call 12; (with_reducible refine (decode_bad RG HD HK).mono ?_); rintro e w2 ⟨rfl, hb⟩; replace E := Lib.hid (E.out.trans (hb.mono E.out.size)); replace RG := Lib.hid (RG.out.below hb); clear hb)
      | (go_at_call 13; (with_reducible refine (ref_decode_bad (Lib.hid (RB.out.below E.out)) HD HK (by omega)).mono ?_); rintro e w3 ⟨rfl, hb⟩; replace E := Lib.hid (E.out.trans (hb.mono E.out.size)); replace RG := Lib.hid (RG.out.below hb); clear hb)
      | (go_at_call 15; (with_reducible refine (encode_any k _).mono ?_); rintro e w4 ⟨p4, g4, c4, rfl, N4', hb⟩; have N4 := Lib.hid (N4'.row); replace E := Lib.hid (E.out.trans (hb.mono E.out.size)); replace RG := Lib.hid (RG.out.below hb); clear hb N4')
      | (go_at_call 16; (with_reducible refine (ref_encode_any k _).mono ?_); rintro e w5 ⟨p5, g5, c5, rfl, N5', hb⟩; have N5 := Lib.hid (N5'.row); replace E := Lib.hid (E.out.trans (hb.mono E.out.size)); replace RG := Lib.hid (RG.out.below hb); replace N4 := Lib.hid (N4.out.below hb); clear hb N5')
      | (go_at_call 14; first
        | ((with_reducible refine (equal_any N4 N5 rfl (Lib.hid fun _ _ => rfl)).mono ?_); rintro e wq ⟨rfl, rfl⟩)
        | ((with_reducible refine (equal_any (Lib.hid (Row.nothing _ (fun _ => 0) (fun _ => by omega))) (Lib.hid (Row.nothing _ (fun _ => 0) (fun _ => by omega))) rfl (Lib.hid fun _ _ => rfl)).mono ?_); rintro e wq ⟨rfl, rfl⟩)
        | ((with_reducible refine (equal_any RG (Lib.hid (RB.out.below E.out)) rfl (Lib.hid fun _ _ => rfl)).mono ?_); rintro e wq ⟨rfl, rfl⟩)))
    go_ret
    exact ⟨rfl, E.out⟩

set_option maxRecDepth 100000 in
theorem lifted (os : Os) (started : os.Started) (H : Type) (enc : TypeId × Value → H) :
    ReturnsInHanded {} Try.checked os 3 .any (Rows.sizeTellsSpec.pre6 enc Try.prog Try.f3 Rows.sizeTellsRow.domain false) (Rows.sizeTellsSpec.post enc Try.prog Try.f3 false true false false) := by
  refine returnsInHanded_of_change_sized (C := Try.checked) own started (by kernel_rfl) Try.func3
    (ChangeSpec.witness6 (enc := enc) (C := Try.checked) false ⟨#[], #[.int .u64 0, .slice none 0 0], []⟩ 8 (by kernel_rfl) (by kernel_rfl) (by kernel_rfl) (by kernel_rfl)) ?_
  intro W base args ds gs before hval0 hW hcnd hsz0 _
  have hval : ∀ (j : Nat) t v, Try.f3.params[j]? = some t → args[j]? = some v → Value.okWide Try.prog W .any base t v := hval0
  have hsz : (DataW.weightsEach Try.prog (Try.f3.params.toList ++ Rows.sizeTellsSpec.plain.varTypes Try.prog) (ds ++ gs)).all (· ≤ reachBytes) = true := hsz0
  have hW' := hW
  obtain ⟨p, q, hA0, hV, rfl, hfz, hnd⟩ := hW
  have hA : DataW.TrodAll enc Try.prog W 0 (fun _ => true) true Try.f3.params.toList args.toList ds p := hA0
  rw [Try.params3] at hA hval hsz
  obtain ⟨v0, vs0, d0, ds0, p0, q0, hargs, rfl, rfl, h0, r0⟩ := trodAll_cons hA
  obtain ⟨v1, vs1, d1, ds1, p1, q1, rfl, rfl, rfl, h1, r1⟩ := trodAll_cons r0
  obtain ⟨rfl, rfl, rfl⟩ := trodAll_nil r1
  obtain rfl : args = #[v0, v1] := by cases args; simp_all
  obtain ⟨rfl, rfl⟩ := trodVars_none hV
  obtain ⟨a0, rfl, rfl, rfl, w0⟩ := open_int Try.underlying22 (hval 0 22 v0 rfl rfl) h0
  have k1 := h1
  have lt1 : ∀ x ∈ p1, x.block < W.heap.size := by obtain ⟨m, hm⟩ := k1; exact DataW.trod_lt m _ _ _ hm
  obtain ⟨a1, g1, o1, n1, c1, x1, rfl, w1, m1⟩ := open_row (j := 1) (hval 1 23 v1 rfl rfl) h1 hsz rfl rfl
  clear hA0 hval0 hsz0
  simp only [List.append_nil] at hW'
  refine (walk W a0 w0 a1 g1 o1 n1 c1 x1 w1 m1).mono fun e W' ⟨he, bel⟩ => ?_
  subst he
  exact ⟨_, rfl, _, _, _, [], _, [], hW', trodAll_mk1 (shut_bool Try.underlying4 _), (trodAll_cons_mk (shut_int Try.underlying22 w0) (trodAll_cons_mk (Below.trod laidOut (by kernel_rfl) (of_decide_eq_true (by kernel_rfl)) k1 bel lt1) trodAll_mk0)), rfl, bel.frame _, fun h => by cases h⟩

theorem over : Rows.sizeTellsRow.holds Try.pinned (OpenSpec.ofChange Rows.sizeTellsSpec) :=
  OpenClaim.holds_of_wide 3 Try.f3 rfl rfl rfl rfl rfl rfl rfl ⟨rfl, rfl, rfl, rfl, rfl⟩ rfl rfl rfl rfl rfl (by kernel_rfl) Try.func3 (by kernel_rfl)
    (of_decide_eq_true (by kernel_rfl)) (by unfold Func.isWrapper; first | (rw [if_pos (by decide +kernel)]; kernel_rfl) | (rw [if_neg (by decide +kernel)]; exact ⟨rfl, rfl⟩))
    (fun os started H enc _ => lifted os started H enc)

/-- The statement. -/
theorem proved : Rows.SizeTellsSaid :=
  over
#print axioms proved
end Go.Proofs.Ythnddiimkgahgaa.sizeTells
