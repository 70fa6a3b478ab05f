/- For every number and every slice of bytes: a tape with a fuse makes so many changes, then none, until it crashes; the call returns true. No condition. -/
import Derived.Test.YtlbbnaihhagfdaaTz8
import Derived.ShutString
import Derived.ChangeOld
import Derived.Below
import Derived.SizedLaws
set_option linter.unusedVariables false
set_option linter.unusedSimpArgs false
namespace Go.Proofs.Ytlbbnaihhagfdaa.tapeFuse
open Go.ChangeShapes Go.WideShapes Go.ChangeAt Go.RowKit Go.Lib Go.Sort Go.Proofs.Ytlbbnaihhagfdaa

set_option maxRecDepth 100000
set_option maxHeartbeats 8000000 in
theorem walk1 (W : World) (q0 u rv : Int) (j : Nat) (hj : j < 20) (x1' : IntKind.u64.wrap q0 = u) (x3' : u.tmod 20 = rv) (x4' : IntKind.i64.wrap rv = j) (a1 : Option Addr) (g1 o1 n1 c1 : Nat) (x1 : Nat → Nat) (w1 : Row W a1 g1 o1 n1 c1 x1) (m1 : c1 ≤ 140737488351232) :
    Calls Try.prog 5 #[.int .i64 q0, .slice a1 n1 c1] W fun e w' => e = .returned (.bool true) ∧ Below W.heap.size W w' := by
  obtain ⟨m, hm⟩ : ∃ m, m = min n1 100 := ⟨_, rfl⟩
  have rb : m ≤ n1 := by omega
  have SB := Lib.hid (fun W' => run_sl_take (w := W') rb w1.le (fun h => (w1.nil h).2))
  have RB := Lib.hid (w1.less rb)
  have MB := Lib.hid (show min ((n1 : Nat) : Int) 100 = ((m : Nat) : Int) by omega)
  have LB := Lib.hid (show m ≤ 100 by omega)
  have J := Lib.hid hj
  have JM : j * m ≤ 19 * 100 := Nat.mul_le_mul (by omega) (by omega)
  have HM := Lib.hid (show IntKind.i64.wrap (((j : Nat) : Int) * ((m : Nat) : Int)) = ((j * m : Nat) : Int) by rw [IntWalk.i64_in _ (by constructor <;> push_cast at * <;> omega)]; push_cast; rfl)
  clear hm rb w1 m1 hj JM
  go_enter Try.func5, Try.ntmps5
  go_upto_region 4 with (first
    | ((with_reducible refine wpList_at 14 rfl ?_); refine wpList_known4 rfl (.int .i64 (m : Int)) _ (exec_mini rfl rfl rfl rfl MB.out) ?_; try simp only [Act.put, List.setIfInBounds_toArray, List.set_cons_zero, List.set_cons_succ])
    | ((with_reducible refine wpList_at 15 rfl ?_); refine wpList_known4 rfl (.slice a1 m c1) _ (exec_sl rfl (SB.out _)) ?_; try simp only [Act.put, List.setIfInBounds_toArray, List.set_cons_zero, List.set_cons_succ])
    | (go_at_call 16; refine (new_ok 65536 (by omega)).mono ?_; rintro e w2 ⟨v, rfl, hM⟩; obtain ⟨bt, bs, p, g, c, rfl, hT, hb⟩ := hM; have T0 := Lib.hid hT; clear hT hb))
  clear x1' x3' x4'
  go_upto_region 7 with (first
    | (go_at_call 23; refine (fuse_ok T0 (j : Int) (by omega)).mono ?_; rintro e w3 ⟨rfl, hT, hF⟩; have T1 := Lib.hid (hT.mono (E := W) (Below.refl _ _)); clear hT hF T0))
  go_loopg [29] j (fun k i wr => ∃ (q : Nat) (p : Option Addr) (g c : Nat) (xs : List Nat), q + k = j ∧ i = .int .i64 (q : Int) ∧ Hid (Tp W bt bs 0 65536 true (k : Int) p g c xs wr) ∧ Hid (xs.length = q * m))
  case atStart => exact ⟨0, p, g, c, [], by omega, rfl, T1, Lib.hid (by simp)⟩
  case round =>
    clear T1
    obtain ⟨q, p3, g3, c3, xs, hq, rfl, T1, L1⟩ := hrel
    obtain ⟨k, rfl⟩ : ∃ k : Nat, k = gk := ⟨_, rfl⟩
    by_cases hlt : q < j
    · obtain ⟨k', rfl⟩ : ∃ k', k = k' + 1 := ⟨k - 1, by omega⟩
      have QM : q * m ≤ 19 * 100 := Nat.mul_le_mul (by have := J.out; omega) LB.out
      have XL : Hid (xs.length ≤ 1900) := Lib.hid (by rw [L1.out]; exact QM)
      have NK : Hid (((k' + 1 : Nat) : Int) ≠ 0) := Lib.hid (by omega)
      have EK : Hid (((k' + 1 : Nat) : Int) - 1 = (k' : Int)) := Lib.hid (by omega)
      have KJ : Hid (k' + 1 ≤ j) := Lib.hid (by omega)
      have JJ : Hid (j < 20) := J
      have j20 := J.out
      clear QM
      go_wp2_with (first
        | (go_at_call 14; refine (app_ok T1 (by have := KJ.out; have := JJ.out; omega) (by have := XL.out; omega) (bok_yes NK.out) (by have := LB.out; omega) (Lib.hid (RB.out.below T1.out.under0)) (fun h => T1.out.apart RB.out h) (by have := XL.out; have := LB.out; omega) (by have := XL.out; have := LB.out; omega)).mono ?_; rintro e w5 ⟨rfl, hT⟩; obtain ⟨p5, g5, c5, hT, hF, hL⟩ := hT; rw [bk_yes NK.out, EK.out] at hT; have T4 := Lib.hid hT; clear hT hF hL))
      go_roundg k'
      case measure => omega
      case rel =>
        have := JJ.out
        exact ⟨q + 1, p5, g5, c5, _, by omega, by go_num, T4, Lib.hid (by rw [List.length_append, tl_length, L1.out, Nat.add_mul, Nat.one_mul])⟩
    · obtain rfl : q = j := by omega
      obtain rfl : k = 0 := by omega
      have QM : q * m ≤ 19 * 100 := Nat.mul_le_mul (by have := J.out; omega) LB.out
      have XL : Hid (xs.length ≤ 1900) := Lib.hid (by rw [L1.out]; exact QM)
      clear QM
      go_wp2_with (first
        | (go_at_call 14; refine (app_dead T1 (by omega) bok_end _).mono ?_; rintro e w5 ⟨rfl, hT, hF⟩; rw [show ((0 : Nat) : Int) = 0 from rfl, bk_end] at hT; have T5 := Lib.hid hT; clear hT hF)
        | (go_at_call 17; refine (sync_dead T5 (by omega) bok_end).mono ?_; rintro e w6 ⟨rfl, hT, hF⟩; rw [bk_end] at hT; have T6 := Lib.hid hT; clear hT hF T5)
        | (go_at_call 24; refine (cut_dead T6 (by omega) bok_end 0 (by omega)).mono ?_; rintro e w7 ⟨rfl, hT, hF⟩; rw [bk_end] at hT; have T7 := Lib.hid hT; clear hT hF T6)
        | (go_at_call 21; refine (bytes_any T7 (by have := XL.out; omega)).mono ?_; rintro e w8 ⟨p8, g8, c8, rfl, N, hb⟩; rw [L1.out]; have T8 := Lib.hid (T7.out.call hb); clear N hb T7)
        | ((with_reducible refine wpList_at 57 rfl ?_); refine wpList_known4 rfl (.int .i64 ((q * m : Nat) : Int)) _ (exec_muli rfl rfl rfl HM.out) ?_; try simp only [Act.put, List.setIfInBounds_toArray, List.set_cons_zero, List.set_cons_succ])
        | (go_at_call 19; refine (crash_any (s := 0) T8 (by omega) (by have := XL.out; omega) 0 0 (by omega)).mono ?_; rintro e w9 ⟨rfl, hT⟩; obtain ⟨p9, g9, c9, hT, hF, hL⟩ := hT; rw [List.take_zero] at hT; have T9 := Lib.hid hT; clear hT hF hL T8)
        | (go_at_call 21; refine (bytes_any T9 (by simp)).mono ?_; rintro e w10 ⟨p10, g10, c10, rfl, N, hb⟩; have T10 := Lib.hid (T9.out.call hb); clear N hb T9)
        | ((with_reducible refine wpList_at 71 rfl ?_); refine wpList_bsy (ps := #[(0, .int .u8 1)]) rfl 1 _ rfl (by kernel_rfl) [1] (fun x hx => by simp at hx; omega) (by unfold maxLen; omega) run_one ?_; intro b11 w11 R11 B11 G11; have T11 := Lib.hid (T10.out.call B11.out); have A11 := Lib.hid (T10.out.apart2 G11.out); try simp only [Act.put, List.setIfInBounds_toArray, List.set_cons_zero, List.set_cons_succ])
        | (go_at_call 14; refine (app_ok T11 (by omega) (by simp) bok_no (by omega) R11 (fun _ => A11.out) (by simp) (by simp)).mono ?_; rintro e w12 ⟨rfl, hT⟩; obtain ⟨p12, g12, c12, hT, hF, hL⟩ := hT; have T12 := Lib.hid hT; clear hT hF hL T11)
        | (go_at_call 21; refine (bytes_any T12 (by simp [tl_length])).mono ?_; rintro e w13 ⟨p13, g13, c13, rfl, N, hb⟩; have T13 := Lib.hid (T12.out.call hb); clear N hb T12))
      go_ret
      exact ⟨rfl, T13.out.mem.below⟩
theorem twentieth (a : Int) : ∃ j : Nat, j < 20 ∧ IntKind.i64.wrap ((IntKind.u64.wrap a).tmod 20) = (j : Int) := by
  have h2 : 0 ≤ (a % 18446744073709551616) % 20 := Int.emod_nonneg _ (by omega)
  have h3 : (a % 18446744073709551616) % 20 < 20 := Int.emod_lt_of_pos _ (by omega)
  refine ⟨((a % 18446744073709551616) % 20).toNat, by omega, ?_⟩
  rw [IntKind.wrap_u64, Int.tmod_eq_emod_of_nonneg (by omega), Int.toNat_of_nonneg h2, IntKind.wrap_i64]
  omega
theorem walk (W : World) (a0 : Int) (w0 : (Lit.int .i64 a0).wf = true) (a1 : Option Addr) (g1 o1 n1 c1 : Nat) (x1 : Nat → Nat) (w1 : Row W a1 g1 o1 n1 c1 x1) (m1 : c1 ≤ 140737488351232) :
    Calls Try.prog 5 #[.int .i64 a0, .slice a1 n1 c1] W fun e w' => e = .returned (.bool true) ∧ Below W.heap.size W w' := by
  obtain ⟨j, hj, hj2⟩ := twentieth a0
  exact walk1 W a0 _ _ j hj rfl rfl hj2 a1 g1 o1 n1 c1 x1 w1 m1

set_option maxRecDepth 100000 in
theorem lifted (os : Os) (started : os.Started) (H : Type) (enc : TypeId × Value → H) :
    ReturnsInHanded {} Try.checked os 5 .any (Rows.tapeFuseSpec.pre6 enc Try.prog Try.f5 Rows.tapeFuseRow.domain false) (Rows.tapeFuseSpec.post enc Try.prog Try.f5 false true false false) := by
  refine returnsInHanded_of_change_sized (C := Try.checked) own started (by kernel_rfl) Try.func5
    (ChangeSpec.witness6 (enc := enc) (C := Try.checked) false ⟨#[], #[.int .i64 0, .slice none 0 0], []⟩ 8 (by kernel_rfl) (by kernel_rfl) (by kernel_rfl) (by kernel_rfl)) ?_
  intro W base args ds gs before hval0 hW hcnd hsz0 _
  have hval : ∀ (j : Nat) t v, Try.f5.params[j]? = some t → args[j]? = some v → Value.okWide Try.prog W .any base t v := hval0
  have hsz : (DataW.weightsEach Try.prog (Try.f5.params.toList ++ Rows.tapeFuseSpec.plain.varTypes Try.prog) (ds ++ gs)).all (· ≤ reachBytes) = true := hsz0
  have hW' := hW
  obtain ⟨p, q, hA0, hV, rfl, hfz, hnd⟩ := hW
  have hA : DataW.TrodAll enc Try.prog W 0 (fun _ => true) true Try.f5.params.toList args.toList ds p := hA0
  rw [Try.params5] at hA hval hsz
  obtain ⟨v0, vs0, d0, ds0, p0, q0, hargs, rfl, rfl, h0, r0⟩ := trodAll_cons hA
  obtain ⟨v1, vs1, d1, ds1, p1, q1, rfl, rfl, rfl, h1, r1⟩ := trodAll_cons r0
  obtain ⟨rfl, rfl, rfl⟩ := trodAll_nil r1
  obtain rfl : args = #[v0, v1] := by cases args; simp_all
  obtain ⟨rfl, rfl⟩ := trodVars_none hV
  obtain ⟨a0, rfl, rfl, rfl, w0⟩ := open_int Try.underlying3 (hval 0 3 v0 rfl rfl) h0
  have k1 := h1
  have lt1 : ∀ x ∈ p1, x.block < W.heap.size := by obtain ⟨m, hm⟩ := k1; exact DataW.trod_lt m _ _ _ hm
  obtain ⟨a1, g1, o1, n1, c1, x1, rfl, w1, m1⟩ := open_row (j := 1) (hval 1 22 v1 rfl rfl) h1 hsz rfl rfl
  clear hA0 hval0 hsz0
  simp only [List.append_nil] at hW'
  refine (walk W a0 w0 a1 g1 o1 n1 c1 x1 w1 m1).mono fun e W' ⟨he, bel⟩ => ?_
  subst he
  exact ⟨_, rfl, _, _, _, [], _, [], hW', trodAll_mk1 (shut_bool Try.underlying4 _), (trodAll_cons_mk (shut_int Try.underlying3 w0) (trodAll_cons_mk (Below.trod laidOut (by kernel_rfl) (of_decide_eq_true (by kernel_rfl)) k1 bel lt1) trodAll_mk0)), rfl, bel.frame _, fun h => by cases h⟩

theorem over : Rows.tapeFuseRow.holds Try.pinned (OpenSpec.ofChange Rows.tapeFuseSpec) :=
  OpenClaim.holds_of_wide 5 Try.f5 rfl rfl rfl rfl rfl rfl rfl ⟨rfl, rfl, rfl, rfl, rfl⟩ rfl rfl rfl rfl rfl (by kernel_rfl) Try.func5 (by kernel_rfl)
    (of_decide_eq_true (by kernel_rfl)) (by unfold Func.isWrapper; first | (rw [if_pos (by decide +kernel)]; kernel_rfl) | (rw [if_neg (by decide +kernel)]; exact ⟨rfl, rfl⟩))
    (fun os started H enc _ => lifted os started H enc)

/-- The statement. -/
theorem proved : Rows.TapeFuseSaid :=
  over
#print axioms proved
end Go.Proofs.Ytlbbnaihhagfdaa.tapeFuse
