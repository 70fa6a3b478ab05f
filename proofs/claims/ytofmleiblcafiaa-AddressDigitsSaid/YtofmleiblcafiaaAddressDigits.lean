/- For every slice of bytes and every text: the digits of the bytes, and the bytes of the text with its error, are the document's; the call returns true. No condition. -/
import Derived.Test.YtofmleiblcafiaaAj
import Derived.Test.YtofmleiblcafiaaAe
import Derived.Test.YtofmleiblcafiaaOp
import Derived.ShutString
import Derived.ChangeOld
import Derived.Below
import Derived.SizedLaws
set_option linter.unusedVariables false
set_option linter.unusedSimpArgs false
namespace Go.Proofs.Ytofmleiblcafiaa.addressDigits
open Go.ChangeShapes Go.WideShapes Go.ChangeAt Go.RowKit Go.Lib Go.Sort Go.Proofs.Ytofmleiblcafiaa

set_option maxRecDepth 100000
/-- A text is refused with an error, or it is read. -/
theorem unb_ways2 (s : ByteArray) : (∃ z : Int, ∀ (w : World) (e : Ending) (w' : World), UnbEnd w s e w' → e = .returned (.tuple #[.slice none 0 0, .int .i64 z]) ∧ Below w.heap.size w w') ∨
    (∀ (w : World) (e : Ending) (w' : World), UnbEnd w s e w' → ∃ p g c, e = .returned (.tuple #[.slice p (reb 58 256 (plL D58 s)).length c, .int .i64 0]) ∧ Row w' p g 0 (reb 58 256 (plL D58 s)).length c (lf (reb 58 256 (plL D58 s))) ∧ Below w.heap.size w w') := by
  by_cases hs : 300 < s.size
  · refine .inl ⟨4, fun w e w' h => ?_⟩
    obtain ⟨hb, ⟨_, he⟩ | ⟨h, _⟩ | ⟨h, _⟩⟩ := h
    · exact ⟨he, hb⟩
    · omega
    · omega
  · by_cases hA : AllIn D58 s
    · refine .inr fun w e w' h => ?_
      obtain ⟨hb, ⟨h, _⟩ | ⟨_, h, _⟩ | ⟨_, _, r, p, g, c, hr, he, N⟩⟩ := h
      · exact absurd h hs
      · exact absurd hA h
      · subst hr
        exact ⟨p, g, c, he, N.row, hb⟩
    · refine .inl ⟨140, fun w e w' h => ?_⟩
      obtain ⟨hb, ⟨h, _⟩ | ⟨_, _, he⟩ | ⟨_, h, _⟩⟩ := h
      · exact absurd h hs
      · exact ⟨he, hb⟩
      · exact absurd h hA
set_option maxHeartbeats 16000000 in
theorem walk (W : World) (a0 : Option Addr) (g0 o0 n0 c0 : Nat) (x0 : Nat → Nat) (w0 : Row W a0 g0 o0 n0 c0 x0) (m0 : c0 ≤ 140737488351232) (s : ByteArray) :
    Calls Try.prog 3 #[.slice a0 n0 c0, .string s] W fun e W' => e = .returned (.bool true) ∧ Below W.heap.size W W' := by
  have le := w0.le
  have nb : n0 ≤ 140737488351232 := by omega
  have R := Lib.hid w0
  obtain ⟨S1, hS1⟩ : ∃ S1, S1 = b58 (tl x0 n0) := ⟨_, rfl⟩
  have HS := Lib.hid hS1
  clear hS1 w0 m0 le
  have B0 := Lib.hid (Below.refl W.heap.size W)
  rcases unb_ways2 s with ⟨z, hz⟩ | hw
  · have U1 := Lib.hid (fun w0 : World => (unb_any w0 s).mono fun e w' h => hz w0 e w' h)
    have U2 := Lib.hid (fun w0 : World => (runb_any w0 s).mono fun e w' h => hz w0 e w' h)
    clear hz
    go_enter Try.func3, Try.ntmps3
    go_wp2_with (first
      | (go_at_call 5; ((with_reducible refine (U1.out _).mono ?_); rintro e w2 ⟨rfl, hb⟩); replace R := Lib.hid (R.out.below hb); replace B0 := Lib.hid (B0.out.trans (hb.mono B0.out.size)); clear hb)
      | (go_at_call 6; ((with_reducible refine (U2.out _).mono ?_); rintro e w3 ⟨rfl, hb⟩); replace R := Lib.hid (R.out.below hb); replace B0 := Lib.hid (B0.out.trans (hb.mono B0.out.size)); clear hb)
      | (go_at_call 7; ((with_reducible refine (b58_any R (by omega)).mono ?_); rintro e w4 ⟨rfl, hb⟩); rw [← HS.out]; replace R := Lib.hid (R.out.below hb); replace B0 := Lib.hid (B0.out.trans (hb.mono B0.out.size)); clear hb)
      | (go_at_call 8; ((with_reducible refine (rb58_any R (by omega)).mono ?_); rintro e w5 ⟨rfl, hb⟩); rw [← HS.out]; replace R := Lib.hid (R.out.below hb); replace B0 := Lib.hid (B0.out.trans (hb.mono B0.out.size)); clear hb)
      | (go_at_call 9; refine (equal_any (Lib.hid (own_nothing _ 0 (fun _ => 0) (fun _ => by omega) (Nat.zero_le _)).row) (Lib.hid (own_nothing _ 0 (fun _ => 0) (fun _ => by omega) (Nat.zero_le _)).row) rfl (Lib.hid fun i _ => rfl)).mono ?_; rintro e w6 ⟨rfl, rfl⟩)
      | (go_at_call 10; refine (awake14_any _).mono ?_; rintro e w7 ⟨rfl, hb⟩; replace B0 := Lib.hid (B0.out.trans (hb.mono B0.out.size)); clear hb))
    go_ret
    exact ⟨rfl, B0.out⟩
  · obtain ⟨r, hr⟩ : ∃ r, r = reb 58 256 (plL D58 s) := ⟨_, rfl⟩
    rw [← hr] at hw
    obtain ⟨q, hq⟩ : ∃ q, q = r.length := ⟨_, rfl⟩
    rw [← hq] at hw
    have U1 := Lib.hid (fun w0 : World => (unb_any w0 s).mono fun e w' h => hw w0 e w' h)
    have U2 := Lib.hid (fun w0 : World => (runb_any w0 s).mono fun e w' h => hw w0 e w' h)
    clear hw hr hq
    go_enter Try.func3, Try.ntmps3
    go_wp2_with (first
      | (go_at_call 5; ((with_reducible refine (U1.out _).mono ?_); rintro e w2 ⟨p5, g5, c5, rfl, N5, hb⟩); replace R := Lib.hid (R.out.below hb); have R5 := Lib.hid N5; replace B0 := Lib.hid (B0.out.trans (hb.mono B0.out.size)); clear hb N5)
      | (go_at_call 6; ((with_reducible refine (U2.out _).mono ?_); rintro e w3 ⟨p6, g6, c6, rfl, N6, hb⟩); replace R := Lib.hid (R.out.below hb); replace R5 := Lib.hid (R5.out.below hb); have R6 := Lib.hid N6; replace B0 := Lib.hid (B0.out.trans (hb.mono B0.out.size)); clear hb N6)
      | (go_at_call 7; ((with_reducible refine (b58_any R (by omega)).mono ?_); rintro e w4 ⟨rfl, hb⟩); rw [← HS.out]; replace R := Lib.hid (R.out.below hb); replace R5 := Lib.hid (R5.out.below hb); replace R6 := Lib.hid (R6.out.below hb); replace B0 := Lib.hid (B0.out.trans (hb.mono B0.out.size)); clear hb)
      | (go_at_call 8; ((with_reducible refine (rb58_any R (by omega)).mono ?_); rintro e w5 ⟨rfl, hb⟩); rw [← HS.out]; replace R := Lib.hid (R.out.below hb); replace R5 := Lib.hid (R5.out.below hb); replace R6 := Lib.hid (R6.out.below hb); replace B0 := Lib.hid (B0.out.trans (hb.mono B0.out.size)); clear hb)
      | (go_at_call 9; refine (equal_any R5 R6 rfl (Lib.hid fun i _ => rfl)).mono ?_; rintro e w6 ⟨rfl, rfl⟩)
      | (go_at_call 10; refine (awake14_any _).mono ?_; rintro e w7 ⟨rfl, hb⟩; replace B0 := Lib.hid (B0.out.trans (hb.mono B0.out.size)); clear hb))
    go_ret
    exact ⟨rfl, B0.out⟩

set_option maxRecDepth 100000 in
theorem lifted (os : Os) (started : os.Started) (H : Type) (enc : TypeId × Value → H) :
    ReturnsInHanded {} Try.checked os 3 .any (Rows.addressDigitsSpec.pre6 enc Try.prog Try.f3 Rows.addressDigitsRow.domain false) (Rows.addressDigitsSpec.post enc Try.prog Try.f3 false true false false) := by
  refine returnsInHanded_of_change_sized (C := Try.checked) own started (by kernel_rfl) Try.func3
    (ChangeSpec.witness6 (enc := enc) (C := Try.checked) false ⟨#[], #[.slice none 0 0, .string ⟨#[]⟩], []⟩ 8 (by kernel_rfl) (by kernel_rfl) (by kernel_rfl) (by kernel_rfl)) ?_
  intro W base args ds gs before hval0 hW hcnd hsz0 _
  have hval : ∀ (j : Nat) t v, Try.f3.params[j]? = some t → args[j]? = some v → Value.okWide Try.prog W .any base t v := hval0
  have hsz : (DataW.weightsEach Try.prog (Try.f3.params.toList ++ Rows.addressDigitsSpec.plain.varTypes Try.prog) (ds ++ gs)).all (· ≤ reachBytes) = true := hsz0
  have hW' := hW
  obtain ⟨p, q, hA0, hV, rfl, hfz, hnd⟩ := hW
  have hA : DataW.TrodAll enc Try.prog W 0 (fun _ => true) true Try.f3.params.toList args.toList ds p := hA0
  rw [Try.params3] at hA hval hsz
  obtain ⟨v0, vs0, d0, ds0, p0, q0, hargs, rfl, rfl, h0, r0⟩ := trodAll_cons hA
  obtain ⟨v1, vs1, d1, ds1, p1, q1, rfl, rfl, rfl, h1, r1⟩ := trodAll_cons r0
  obtain ⟨rfl, rfl, rfl⟩ := trodAll_nil r1
  obtain rfl : args = #[v0, v1] := by cases args; simp_all
  obtain ⟨rfl, rfl⟩ := trodVars_none hV
  have k0 := h0
  have lt0 : ∀ x ∈ p0, x.block < W.heap.size := by obtain ⟨m, hm⟩ := k0; exact DataW.trod_lt m _ _ _ hm
  obtain ⟨a0, g0, o0, n0, c0, x0, rfl, w0, m0⟩ := open_row (j := 0) (hval 0 22 v0 rfl rfl) h0 hsz rfl rfl
  have k1 := h1
  have lt1 : ∀ x ∈ p1, x.block < W.heap.size := by obtain ⟨m, hm⟩ := k1; exact DataW.trod_lt m _ _ _ hm
  obtain ⟨s1, rfl⟩ := open_str (hval 1 9 v1 rfl rfl)
  clear hA0 hval0 hsz0
  simp only [List.append_nil] at hW'
  refine (walk W a0 g0 o0 n0 c0 x0 w0 m0 s1).mono fun e W' ⟨he, bel⟩ => ?_
  subst he
  exact ⟨_, rfl, _, _, _, [], _, [], hW', trodAll_mk1 (shut_bool Try.underlying4 _), (trodAll_cons_mk (Below.trod laidOut (by kernel_rfl) (of_decide_eq_true (by kernel_rfl)) k0 bel lt0) (trodAll_cons_mk (Below.trod laidOut (by kernel_rfl) (of_decide_eq_true (by kernel_rfl)) k1 bel lt1) trodAll_mk0)), rfl, bel.frame _, fun h => by cases h⟩

theorem over : Rows.addressDigitsRow.holds Try.pinned (OpenSpec.ofChange Rows.addressDigitsSpec) :=
  OpenClaim.holds_of_wide 3 Try.f3 rfl rfl rfl rfl rfl rfl rfl ⟨rfl, rfl, rfl, rfl, rfl⟩ rfl rfl rfl rfl rfl (by kernel_rfl) Try.func3 (by kernel_rfl)
    (of_decide_eq_true (by kernel_rfl)) (by unfold Func.isWrapper; first | (rw [if_pos (by decide +kernel)]; kernel_rfl) | (rw [if_neg (by decide +kernel)]; exact ⟨rfl, rfl⟩))
    (fun os started H enc _ => lifted os started H enc)

/-- The statement. -/
theorem proved : Rows.AddressDigitsSaid :=
  over
#print axioms proved
end Go.Proofs.Ytofmleiblcafiaa.addressDigits
