/- For every slice of bytes (nil too) and every int: the bytes' text is read just where its count is not above the int (below 0 as 0), else it is refused with the document's error; it is longer than the bytes; the call returns true. No condition. -/
import Derived.Test.YthnddiimkgahgaaSp
set_option linter.unusedVariables false
namespace Go.Proofs.Ythnddiimkgahgaa.sizeBounds
open Go.ChangeShapes Go.WideShapes Go.ChangeAt Go.RowKit Go.Lib Go.Proofs.Ythnddiimkgahgaa

set_option maxRecDepth 100000 in
set_option maxHeartbeats 4000000 in
theorem walk_full {W : World} {a0 : Option Addr} {g0 o0 n0 c0 : Nat} {x0 : Nat → Nat} {a1 : Int} (RB : Hid (Row W a0 g0 o0 n0 c0 x0)) (le : n0 ≤ 140737488351232) {lim m : Nat} (L : Hid (Lim a1 lim)) (t : lim < n0) (tn : decide (n0 ≤ lim) = false) (HS : Hid (dec (wid n0 + n0) (txt x0 n0) = 0 ∧ wOf (txt x0 n0 0) = wid n0 ∧ val (txt x0 n0) = n0)) :
    Calls Try.prog 7 #[.slice a0 n0 c0, .int .i64 a1] W fun e w' => e = .returned (.bool true) ∧ Below W.heap.size W w' := by
  have E := Lib.hid (Below.refl W.heap.size W)
  have hw := wid_bd n0
  have hs := L.out.is
  have tl : decide (((n0 : Nat) : Int) < ((wid n0 : Nat) : Int) + ((n0 : Nat) : Int)) = true := by simp; omega
  have hl := L.out.le
  go_enter Try.func7, Try.ntmps7
  go_wp2_with (first
      | (go_at_call 19; (with_reducible refine (text_any (Lib.hid (RB.out.below E.out)) (by omega)).mono ?_); rintro e w1 ⟨p1, g1, c1, rfl, N1', hb⟩; have N1 := Lib.hid (N1'.row); replace E := Lib.hid (E.out.trans (hb.mono E.out.size)); clear hb N1')
      | (go_at_call 17; (with_reducible refine (read_full N1 (Lib.hid HS.out.1) (by omega) L (by rw [HS.out.2.2]; exact t)).mono ?_); rintro e w2 ⟨rfl, hb⟩; replace E := Lib.hid (E.out.trans (hb.mono E.out.size)); replace N1 := Lib.hid (N1.out.below hb); clear hb))
  go_ret
  exact ⟨rfl, E.out⟩
set_option maxRecDepth 100000 in
set_option maxHeartbeats 4000000 in
theorem walk_ok {W : World} {a0 : Option Addr} {g0 o0 n0 c0 : Nat} {x0 : Nat → Nat} {a1 : Int} (RB : Hid (Row W a0 g0 o0 n0 c0 x0)) (le : n0 ≤ 140737488351232) {lim m : Nat} (L : Hid (Lim a1 lim)) (t : ¬ lim < n0) (HS : Hid (dec (wid n0 + n0) (txt x0 n0) = 0 ∧ wOf (txt x0 n0 0) = wid n0 ∧ val (txt x0 n0) = n0)) :
    Calls Try.prog 7 #[.slice a0 n0 c0, .int .i64 a1] W fun e w' => e = .returned (.bool true) ∧ Below W.heap.size W w' := by
  have E := Lib.hid (Below.refl W.heap.size W)
  have hw := wid_bd n0
  have hs := L.out.is
  have tl : decide (((n0 : Nat) : Int) < ((wid n0 : Nat) : Int) + ((n0 : Nat) : Int)) = true := by simp; omega
  have hl := L.out.le
  go_enter Try.func7, Try.ntmps7
  go_wp2_with (first
      | (go_at_call 19; (with_reducible refine (text_any (Lib.hid (RB.out.below E.out)) (by omega)).mono ?_); rintro e w1 ⟨p1, g1, c1, rfl, N1', hb⟩; have N1 := Lib.hid (N1'.row); replace E := Lib.hid (E.out.trans (hb.mono E.out.size)); clear hb N1')
      | (go_at_call 17; (with_reducible refine (read_ok N1 (Lib.hid HS.out.1) (by omega) L (by rw [HS.out.2.2]; exact t) (by rw [HS.out.2.2, HS.out.2.1]; omega)).mono ?_); rintro e w2 ⟨p2, g2, o2, c2, p3, g3, o3, c3, rfl, RA', RB', hb⟩; replace E := Lib.hid (E.out.trans (hb.mono E.out.size)); replace N1 := Lib.hid (N1.out.below hb); clear hb RA' RB'))
  go_ret
  exact ⟨rfl, E.out⟩
theorem walk (W : World) (a0 : Option Addr) (g0 o0 n0 c0 : Nat) (x0 : Nat → Nat) (R : Row W a0 g0 o0 n0 c0 x0) (hc : c0 ≤ 140737488351232) (a1 : Int) (w1 : (Lit.int .i64 a1).wf = true) :
    Calls Try.prog 7 #[.slice a0 n0 c0, .int .i64 a1] W fun e w' => e = .returned (.bool true) ∧ Below W.heap.size W w' := by
  have le := Nat.le_trans R.le hc
  obtain ⟨lim, h1, h2, _⟩ := lim_of w1
  have L := Lib.hid (Lim.mk h1 h2)
  have HS := Lib.hid (txt_said (n := n0) (m := wid n0 + n0) x0 (by omega) (by omega))
  by_cases t : lim < n0
  · exact walk_full (m := 0) (Lib.hid R) le L t (by simp; omega) HS
  · exact walk_ok (m := 0) (Lib.hid R) le L t HS

set_option maxRecDepth 100000 in
theorem lifted (os : Os) (started : os.Started) (H : Type) (enc : TypeId × Value → H) :
    ReturnsInHanded {} Try.checked os 7 .any (Rows.sizeBoundsSpec.pre6 enc Try.prog Try.f7 Rows.sizeBoundsRow.domain false) (Rows.sizeBoundsSpec.post enc Try.prog Try.f7 false true false false) := by
  refine returnsInHanded_of_change_sized (C := Try.checked) own started (by kernel_rfl) Try.func7
    (ChangeSpec.witness6 (enc := enc) (C := Try.checked) false ⟨#[], #[.slice none 0 0, .int .i64 0], []⟩ 8 (by kernel_rfl) (by kernel_rfl) (by kernel_rfl) (by kernel_rfl)) ?_
  intro W base args ds gs before hval0 hW hcnd hsz0 _
  have hval : ∀ (j : Nat) t v, Try.f7.params[j]? = some t → args[j]? = some v → Value.okWide Try.prog W .any base t v := hval0
  have hsz : (DataW.weightsEach Try.prog (Try.f7.params.toList ++ Rows.sizeBoundsSpec.plain.varTypes Try.prog) (ds ++ gs)).all (· ≤ reachBytes) = true := hsz0
  have hW' := hW
  obtain ⟨p, q, hA0, hV, rfl, hfz, hnd⟩ := hW
  have hA : DataW.TrodAll enc Try.prog W 0 (fun _ => true) true Try.f7.params.toList args.toList ds p := hA0
  rw [Try.params7] at hA hval hsz
  obtain ⟨v0, vs0, d0, ds0, p0, q0, hargs, rfl, rfl, h0, r0⟩ := trodAll_cons hA
  obtain ⟨v1, vs1, d1, ds1, p1, q1, rfl, rfl, rfl, h1, r1⟩ := trodAll_cons r0
  obtain ⟨rfl, rfl, rfl⟩ := trodAll_nil r1
  obtain rfl : args = #[v0, v1] := by cases args; simp_all
  obtain ⟨rfl, rfl⟩ := trodVars_none hV
  have k0 := h0
  have lt0 : ∀ x ∈ p0, x.block < W.heap.size := by obtain ⟨m, hm⟩ := k0; exact DataW.trod_lt m _ _ _ hm
  obtain ⟨a0, g0, o0, n0, c0, x0, rfl, w0, m0⟩ := open_row (j := 0) (hval 0 23 v0 rfl rfl) h0 hsz rfl rfl
  obtain ⟨a1, rfl, rfl, rfl, w1⟩ := open_int Try.underlying3 (hval 1 3 v1 rfl rfl) h1
  clear hA0 hval0 hsz0
  simp only [List.append_nil] at hW'
  refine (walk W a0 g0 o0 n0 c0 x0 w0 m0 a1 w1).mono fun e W' ⟨he, bel⟩ => ?_
  subst he
  exact ⟨_, rfl, _, _, _, [], _, [], hW', trodAll_mk1 (shut_bool Try.underlying4 _), (trodAll_cons_mk (Below.trod laidOut (by kernel_rfl) (of_decide_eq_true (by kernel_rfl)) k0 bel lt0) (trodAll_cons_mk (shut_int Try.underlying3 w1) trodAll_mk0)), rfl, bel.frame _, fun h => by cases h⟩

theorem over : Rows.sizeBoundsRow.holds Try.pinned (OpenSpec.ofChange Rows.sizeBoundsSpec) :=
  OpenClaim.holds_of_wide 7 Try.f7 rfl rfl rfl rfl rfl rfl rfl ⟨rfl, rfl, rfl, rfl, rfl⟩ rfl rfl rfl rfl rfl (by kernel_rfl) Try.func7 (by kernel_rfl)
    (of_decide_eq_true (by kernel_rfl)) (by unfold Func.isWrapper; first | (rw [if_pos (by decide +kernel)]; kernel_rfl) | (rw [if_neg (by decide +kernel)]; exact ⟨rfl, rfl⟩))
    (fun os started H enc _ => lifted os started H enc)

/-- The statement. -/
theorem proved : Rows.SizeBoundsSaid :=
  over
#print axioms proved
end Go.Proofs.Ythnddiimkgahgaa.sizeBounds
