/- For every slice of bytes and every text: of its first 200 bytes the digits say just these; a text of digits, read, is written again as it was, if its bytes are not more than 200; the call returns true. No condition. -/
import Derived.Test.YtofmleiblcafiaaAe
import Derived.Test.YtofmleiblcafiaaOp
import Derived.ShutString
import Derived.ChangeOld
import Derived.Below
import Derived.SizedLaws
set_option linter.unusedVariables false
set_option linter.unusedSimpArgs false
namespace Go.Proofs.Ytofmleiblcafiaa.addressBase
open Go.ChangeShapes Go.WideShapes Go.ChangeAt Go.RowKit Go.Lib Go.Sort Go.Proofs.Ytofmleiblcafiaa

set_option maxRecDepth 100000
set_option maxHeartbeats 16000000 in
theorem walk (W : World) (a0 : Option Addr) (g0 o0 n0 c0 : Nat) (x0 : Nat → Nat) (w0 : Row W a0 g0 o0 n0 c0 x0) (m0 : c0 ≤ 140737488351232) (s : ByteArray) :
    Calls Try.prog 4 #[.slice a0 n0 c0, .string s] W fun e w' => e = .returned (.bool true) ∧ Below W.heap.size W w' := by
  have le := w0.le
  obtain ⟨m, hm⟩ : ∃ m, m = min n0 200 := ⟨_, rfl⟩
  have hm1 : m ≤ n0 := by omega
  have hm2 : m ≤ 200 := by omega
  have MIN : Hid (min n0 200 = m) := Lib.hid hm.symm
  obtain ⟨p1, hp1, R0⟩ := w0.slice (l := 0) (h := m) (m := c0) (by omega) (by omega) (by omega) (Nat.le_refl _)
  simp only [Nat.sub_zero, Nat.zero_add, Nat.add_zero] at hp1 R0
  have SL := Lib.hid (fun w : World => run_sl (w := w) (p := a0) (bounds_h (w := w) (n := n0) (c := c0) (h := m) (by omega)))
  rw [hp1] at SL
  have R := Lib.hid (show Row W p1 g0 o0 m c0 x0 from R0)
  have nb : n0 ≤ 140737488351232 := by omega
  have BX := Lib.hid (back_b (x := x0) (n := m) hm2 w0.byte)
  have BS := Lib.hid (fun h => back_s (s := s) h)
  clear hm w0 R0 hp1 m0 le
  obtain ⟨S1, hS1⟩ : ∃ S1, S1 = b58 (tl x0 m) := ⟨_, rfl⟩
  have HS := Lib.hid hS1
  have U1 := Lib.hid (fun w0 : World => (unb_any w0 S1).mono fun e w' h => (show ∃ p g c, e = .returned (.tuple #[.slice p m c, .int .i64 0]) ∧ Row w' p g 0 m c x0 ∧ Below w0.heap.size w0 w' from by
    rw [hS1] at h
    obtain ⟨hb, h⟩ := h
    obtain ⟨b1, b2, b3⟩ := BX.out
    rcases h with ⟨h, _⟩ | ⟨_, h, _⟩ | ⟨_, _, r, p, g, c, hr, he, N⟩
    · omega
    · exact absurd b2 h
    · rw [b3] at hr
      have e1 : r.length = m := by rw [hr, tl_length]
      rw [e1] at he N
      exact ⟨p, g, c, he, N.row.to (fun i hi => by rw [hr]; exact lf_tl _ hi) R.out.byte, hb⟩))
  clear hS1
  have B0 := Lib.hid (Below.refl W.heap.size W)
  rcases unb_ways s with hw | hw
  · have U2 := Lib.hid (fun w0 : World => (unb_any w0 s).mono fun e w' h => hw w0 e w' h)
    clear hw
    go_enter Try.func4, Try.ntmps4
    go_upto_region 6 with (first
      | ((with_reducible refine wpList_at 11 rfl ?_); refine wpList_known4 rfl (.int .i64 ((m : Nat) : Int)) _ (exec_min rfl rfl rfl rfl (by have := MIN.out; omega)) ?_; try simp only [Act.put, List.setIfInBounds_toArray, List.set_cons_zero, List.set_cons_succ])
      | ((with_reducible refine wpList_at 12 rfl ?_); refine wpList_known4 rfl (.slice p1 m c0) _ (exec_sl rfl (SL.out _)) ?_; try simp only [Act.put, List.setIfInBounds_toArray, List.set_cons_zero, List.set_cons_succ])
      | (go_at_call 7; ((with_reducible refine (b58_any R (by omega)).mono ?_); rintro e w2 ⟨rfl, hb⟩); rw [← HS.out]; replace R := Lib.hid (R.out.below hb); replace B0 := Lib.hid (B0.out.trans (hb.mono B0.out.size)); clear hb)
      | (go_at_call 5; ((with_reducible refine (U1.out _).mono ?_); rintro e w3 ⟨p3, g3, c3, rfl, R3, hb⟩); replace R := Lib.hid (R.out.below hb); have R4 := Lib.hid R3; replace B0 := Lib.hid (B0.out.trans (hb.mono B0.out.size)); clear hb R3)
      | (go_at_call 9; refine (equal_any R4 R rfl (Lib.hid fun i _ => rfl)).mono ?_; rintro e w4 ⟨rfl, rfl⟩)
      | (go_at_call 5; ((with_reducible refine (U2.out _).mono ?_); rintro e w5 ⟨z, hz, rfl, hb⟩); replace B0 := Lib.hid (B0.out.trans (hb.mono B0.out.size)); clear hb))
    rcases hz with rfl | rfl
    · go_wp2
      go_ret
      exact ⟨rfl, B0.out⟩
    · go_wp2
      go_ret
      exact ⟨rfl, B0.out⟩
  · have U2 := Lib.hid (fun w0 : World => (unb_any w0 s).mono fun e w' h => hw.2 w0 e w' h)
    obtain ⟨r, hr⟩ : ∃ r, r = reb 58 256 (plL D58 s) := ⟨_, rfl⟩
    have BK := Lib.hid (BS.out hw.1)
    rw [← hr] at U2 BK
    obtain ⟨q, hq⟩ : ∃ q, q = r.length := ⟨_, rfl⟩
    rw [← hq] at U2
    have HQ := Lib.hid hq
    clear hw hr hq
    go_enter Try.func4, Try.ntmps4
    go_upto_region 6 with (first
      | ((with_reducible refine wpList_at 11 rfl ?_); refine wpList_known4 rfl (.int .i64 ((m : Nat) : Int)) _ (exec_min rfl rfl rfl rfl (by have := MIN.out; omega)) ?_; try simp only [Act.put, List.setIfInBounds_toArray, List.set_cons_zero, List.set_cons_succ])
      | ((with_reducible refine wpList_at 12 rfl ?_); refine wpList_known4 rfl (.slice p1 m c0) _ (exec_sl rfl (SL.out _)) ?_; try simp only [Act.put, List.setIfInBounds_toArray, List.set_cons_zero, List.set_cons_succ])
      | (go_at_call 7; ((with_reducible refine (b58_any R (by omega)).mono ?_); rintro e w2 ⟨rfl, hb⟩); rw [← HS.out]; replace R := Lib.hid (R.out.below hb); replace B0 := Lib.hid (B0.out.trans (hb.mono B0.out.size)); clear hb)
      | (go_at_call 5; ((with_reducible refine (U1.out _).mono ?_); rintro e w3 ⟨p3, g3, c3, rfl, R3, hb⟩); replace R := Lib.hid (R.out.below hb); have R4 := Lib.hid R3; replace B0 := Lib.hid (B0.out.trans (hb.mono B0.out.size)); clear hb R3)
      | (go_at_call 9; refine (equal_any R4 R rfl (Lib.hid fun i _ => rfl)).mono ?_; rintro e w4 ⟨rfl, rfl⟩)
      | (go_at_call 5; ((with_reducible refine (U2.out _).mono ?_); rintro e w5 ⟨p5, g5, c5, rfl, N5, hb⟩); have R5 := Lib.hid N5; have q5 := N5.le; replace B0 := Lib.hid (B0.out.trans (hb.mono B0.out.size)); clear hb N5))
    by_cases hlt : 200 < q
    · go_wp2
      go_ret
      exact ⟨rfl, B0.out⟩
    · have BQ := Lib.hid (show b58 (tl (lf r) q) = s by rw [HQ.out, tl_lf]; exact BK.out (by rw [← HQ.out]; omega))
      have q6 : q ≤ 200 := by omega
      clear BK hlt
      go_wp2_with (first
        | (go_at_call 7; refine (b58_any R5 (by omega)).mono ?_; rintro e w6 ⟨rfl, hb⟩; rw [BQ.out]; replace B0 := Lib.hid (B0.out.trans (hb.mono B0.out.size)); clear hb)
        | (go_at_call 10; refine (awake14_any _).mono ?_; rintro e w7 ⟨rfl, hb⟩; replace B0 := Lib.hid (B0.out.trans (hb.mono B0.out.size)); clear hb))
      go_ret
      exact ⟨rfl, B0.out⟩

set_option maxRecDepth 100000 in
theorem lifted (os : Os) (started : os.Started) (H : Type) (enc : TypeId × Value → H) :
    ReturnsInHanded {} Try.checked os 4 .any (Rows.addressBaseSpec.pre6 enc Try.prog Try.f4 Rows.addressBaseRow.domain false) (Rows.addressBaseSpec.post enc Try.prog Try.f4 false true false false) := by
  refine returnsInHanded_of_change_sized (C := Try.checked) own started (by kernel_rfl) Try.func4
    (ChangeSpec.witness6 (enc := enc) (C := Try.checked) false ⟨#[], #[.slice none 0 0, .string ⟨#[]⟩], []⟩ 8 (by kernel_rfl) (by kernel_rfl) (by kernel_rfl) (by kernel_rfl)) ?_
  intro W base args ds gs before hval0 hW hcnd hsz0 _
  have hval : ∀ (j : Nat) t v, Try.f4.params[j]? = some t → args[j]? = some v → Value.okWide Try.prog W .any base t v := hval0
  have hsz : (DataW.weightsEach Try.prog (Try.f4.params.toList ++ Rows.addressBaseSpec.plain.varTypes Try.prog) (ds ++ gs)).all (· ≤ reachBytes) = true := hsz0
  have hW' := hW
  obtain ⟨p, q, hA0, hV, rfl, hfz, hnd⟩ := hW
  have hA : DataW.TrodAll enc Try.prog W 0 (fun _ => true) true Try.f4.params.toList args.toList ds p := hA0
  rw [Try.params4] at hA hval hsz
  obtain ⟨v0, vs0, d0, ds0, p0, q0, hargs, rfl, rfl, h0, r0⟩ := trodAll_cons hA
  obtain ⟨v1, vs1, d1, ds1, p1, q1, rfl, rfl, rfl, h1, r1⟩ := trodAll_cons r0
  obtain ⟨rfl, rfl, rfl⟩ := trodAll_nil r1
  obtain rfl : args = #[v0, v1] := by cases args; simp_all
  obtain ⟨rfl, rfl⟩ := trodVars_none hV
  have k0 := h0
  have lt0 : ∀ x ∈ p0, x.block < W.heap.size := by obtain ⟨m, hm⟩ := k0; exact DataW.trod_lt m _ _ _ hm
  obtain ⟨a0, g0, o0, n0, c0, x0, rfl, w0, m0⟩ := open_row (j := 0) (hval 0 22 v0 rfl rfl) h0 hsz rfl rfl
  have k1 := h1
  have lt1 : ∀ x ∈ p1, x.block < W.heap.size := by obtain ⟨m, hm⟩ := k1; exact DataW.trod_lt m _ _ _ hm
  obtain ⟨s1, rfl⟩ := open_str (hval 1 9 v1 rfl rfl)
  clear hA0 hval0 hsz0
  simp only [List.append_nil] at hW'
  refine (walk W a0 g0 o0 n0 c0 x0 w0 m0 s1).mono fun e W' ⟨he, bel⟩ => ?_
  subst he
  exact ⟨_, rfl, _, _, _, [], _, [], hW', trodAll_mk1 (shut_bool Try.underlying4 _), (trodAll_cons_mk (Below.trod laidOut (by kernel_rfl) (of_decide_eq_true (by kernel_rfl)) k0 bel lt0) (trodAll_cons_mk (Below.trod laidOut (by kernel_rfl) (of_decide_eq_true (by kernel_rfl)) k1 bel lt1) trodAll_mk0)), rfl, bel.frame _, fun h => by cases h⟩

theorem over : Rows.addressBaseRow.holds Try.pinned (OpenSpec.ofChange Rows.addressBaseSpec) :=
  OpenClaim.holds_of_wide 4 Try.f4 rfl rfl rfl rfl rfl rfl rfl ⟨rfl, rfl, rfl, rfl, rfl⟩ rfl rfl rfl rfl rfl (by kernel_rfl) Try.func4 (by kernel_rfl)
    (of_decide_eq_true (by kernel_rfl)) (by unfold Func.isWrapper; first | (rw [if_pos (by decide +kernel)]; kernel_rfl) | (rw [if_neg (by decide +kernel)]; exact ⟨rfl, rfl⟩))
    (fun os started H enc _ => lifted os started H enc)

/-- The statement. -/
theorem proved : Rows.AddressBaseSaid :=
  over
#print axioms proved
end Go.Proofs.Ytofmleiblcafiaa.addressBase
