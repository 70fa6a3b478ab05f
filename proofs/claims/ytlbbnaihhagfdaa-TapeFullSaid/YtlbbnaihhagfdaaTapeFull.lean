/- For every number and every list of slices of bytes: no tape has more bytes than its room, and what does not fit is not written at all; the call returns true. No condition. -/
import Derived.Test.YtlbbnaihhagfdaaTz8
import Derived.Test.YtlbbnaihhagfdaaLt
import Derived.ShutString
import Derived.ChangeOld
import Derived.Below
import Derived.SizedLaws
set_option linter.unusedVariables false
set_option linter.unusedSimpArgs false
namespace Go.Proofs.Ytlbbnaihhagfdaa.tapeFull
open Go.ChangeShapes Go.WideShapes Go.ChangeAt Go.RowKit Go.Lib Go.Sort Go.Proofs.Ytlbbnaihhagfdaa

set_option maxRecDepth 100000
theorem texts_fn {w : World} {v : Value} {ts : List (List Nat)} (h : TextsAt w v ts) : ∃ p g o c V n, ∃ tf : Nat → List Nat, v = .slice p n c ∧ n * 24 ≤ 140737488351232 ∧ VRow 1 w p g o n c V ∧ ∀ i, i < n → TextAt w (V i) (tf i) := by
  obtain ⟨p, g, o, c, V, rfl, hb, R, ht⟩ := h
  refine ⟨p, g, o, c, V, ts.length, fun i => ts.getD i [], rfl, hb, R, fun i hi => ?_⟩
  have := ht i hi
  show TextAt w (V i) (ts.getD i [])
  rw [List.getD_eq_getElem?_getD, List.getElem?_eq_getElem hi]
  exact this
set_option maxHeartbeats 8000000 in
theorem walk1 (W : World) (q0 u rv : Int) (r : Nat) (hj : r < 500) (x1' : IntKind.u64.wrap q0 = u) (x3' : u.tmod 500 = rv) (x4' : IntKind.i64.wrap rv = r) (v1 : Value) (ts : List (List Nat)) (w1 : TextsAt W v1 ts) :
    Calls Try.prog 6 #[.int .i64 q0, v1] W fun e w' => e = .returned (.bool true) ∧ Below W.heap.size W w' := by
  obtain ⟨a1, g1, o1, c1, V, n, tf, rfl, hb1, R1, ht⟩ := texts_fn w1
  have RR := Lib.hid R1
  have TT := Lib.hid ht
  have HR := Lib.hid hj
  have HB := Lib.hid hb1
  clear ht R1 hb1 w1
  go_enter Try.func6, Try.ntmps6
  go_upto_region 7 with (first
    | (go_at_call 16; refine (new_ok (r : Int) (by omega)).mono ?_; rintro e w2 ⟨v, rfl, hM⟩; obtain ⟨bt, bs, p, g, c, rfl, hT, hb⟩ := hM; have T0 := Lib.hid hT; clear hT hb))
  clear x1' x3' x4'
  have T1 : Hid (Tp W bt bs 0 (r : Int) false 0 p g c [] w2) := Lib.hid (T0.out.mono (E := W) (Below.refl _ _))
  clear T0
  go_loopg [7, 24] n (fun k u i wr => ∃ (q : Nat) (p : Option Addr) (g c : Nat) (xs : List Nat), q + k = n ∧ i = .int .i64 (q : Int) ∧ u = .int .i64 ((xs.length : Nat) : Int) ∧ Hid (Tp W bt bs 0 (r : Int) false 0 p g c xs wr) ∧ Hid (xs.length ≤ r))
  case atStart => exact ⟨0, p, g, c, [], by omega, rfl, rfl, T1, Lib.hid (by simp)⟩
  case round =>
    clear T1
    obtain ⟨q, p3, g3, c3, xs, hq, rfl, rfl, T2, L2⟩ := hrel
    obtain ⟨k, rfl⟩ : ∃ k : Nat, k = gk := ⟨_, rfl⟩
    obtain ⟨len, hlen⟩ : ∃ len, len = xs.length := ⟨_, rfl⟩
    have L3 := L2.out
    rw [← hlen] at L3
    have XL := Lib.hid hlen
    have n47 : n ≤ 5864062014800 := by have := HB.out; omega
    rw [← XL.out]
    clear hlen
    by_cases hlt : q < n
    · obtain rfl := RR.out.head (by omega)
      obtain ⟨p4, g4, o4, c4, hv4, hc4, R4⟩ := TT.out q hlt
      obtain ⟨m, hm⟩ : ∃ m, m = (tf q).length := ⟨_, rfl⟩
      obtain ⟨y, hy⟩ : ∃ y, y = lf (tf q) := ⟨_, rfl⟩
      rw [← hm] at hv4 hc4 R4
      rw [← hy] at R4
      have cell := (RR.out.below T2.out.under0).cell q (by omega)
      rw [hv4] at cell
      have CC := Lib.hid cell
      have R5 := Lib.hid R4
      have M5 := Lib.hid hc4
      clear hv4 hc4 R4 hm hy cell
      by_cases h40 : (40 : Int) < (q : Int)
      · go_wp2_with (first
          | ((with_reducible refine wpList_at 27 rfl ?_); refine wpList_ix (k := 1) (j := q) Try.underlying49 (by kernel_rfl) (.tmp 22) (.tmp 24) rfl rfl rfl rfl hlt rfl ?_; rw [Nat.mul_one]; try simp only [Act.put, List.setIfInBounds_toArray, List.set_cons_zero, List.set_cons_succ])
          | ((with_reducible refine wpList_at 28 rfl ?_); refine wpList_ld1 22 (.tmp 27) rfl rfl rfl Try.underlying22 rfl CC.out ?_; try simp only [Act.put, List.setIfInBounds_toArray, List.set_cons_zero, List.set_cons_succ])
          | (go_at_call 25; refine (room_ok none T2 (r : Int) (by have := HR.out; omega)).mono ?_; rintro e w9 ⟨rfl, hT, hF⟩; have T9 := Lib.hid hT; clear hT hF))
        go_ret
        exact ⟨rfl, T9.out.mem.below⟩
      · by_cases hfit : len + m ≤ r
        · have f1 : (m : Int) ≤ (r : Int) - (len : Int) := by omega
          have HF := Lib.hid hfit
          have L5 : Hid (len ≤ r) := Lib.hid L3
          go_wp2_with (first
            | ((with_reducible refine wpList_at 27 rfl ?_); refine wpList_ix (k := 1) (j := q) Try.underlying49 (by kernel_rfl) (.tmp 22) (.tmp 24) rfl rfl rfl rfl hlt rfl ?_; rw [Nat.mul_one]; try simp only [Act.put, List.setIfInBounds_toArray, List.set_cons_zero, List.set_cons_succ])
            | ((with_reducible refine wpList_at 28 rfl ?_); refine wpList_ld1 22 (.tmp 27) rfl rfl rfl Try.underlying22 rfl CC.out ?_; try simp only [Act.put, List.setIfInBounds_toArray, List.set_cons_zero, List.set_cons_succ])
            | (go_at_call 14; refine (app_ok T2 (by omega) (by rw [← XL.out]; have := L5.out; have := HR.out; omega) bok_no (by have := HF.out; have := HR.out; omega) (Lib.hid (R5.out.below T2.out.under0)) (fun h => T2.out.apart R5.out h) (by rw [← XL.out]; have := HF.out; have := HR.out; omega) (by rw [← XL.out]; have := HF.out; omega)).mono ?_; rintro e w5 ⟨rfl, hT⟩; obtain ⟨p5, g5, c5, hT, hF, hL⟩ := hT; rw [bk_no] at hT; have T4 := Lib.hid hT; have X4 := Lib.hid (show (xs ++ tl y m).length = len + m by rw [List.length_append, tl_length, ← XL.out]); clear hT hF hL)
            | (go_at_call 21; refine (bytes_any T4 (by rw [X4.out]; have := HF.out; have := HR.out; omega)).mono ?_; rintro e w6 ⟨p6, g6, c6, rfl, N, hb⟩; rw [X4.out]; have T5 := Lib.hid (T4.out.call hb); clear N hb T4))
          go_roundg (n - (q + 1))
          case measure => omega
          case rel => exact ⟨q + 1, p5, g5, c5, _, by omega, by go_num, by rw [X4.out]; push_cast; rfl, T5, Lib.hid (by rw [X4.out]; exact HF.out)⟩
        · have f1 : (r : Int) - (len : Int) < (m : Int) := by omega
          have HF := Lib.hid hfit
          have L5 : Hid (len ≤ r) := Lib.hid L3
          go_wp2_with (first
            | ((with_reducible refine wpList_at 27 rfl ?_); refine wpList_ix (k := 1) (j := q) Try.underlying49 (by kernel_rfl) (.tmp 22) (.tmp 24) rfl rfl rfl rfl hlt rfl ?_; rw [Nat.mul_one]; try simp only [Act.put, List.setIfInBounds_toArray, List.set_cons_zero, List.set_cons_succ])
            | ((with_reducible refine wpList_at 28 rfl ?_); refine wpList_ld1 22 (.tmp 27) rfl rfl rfl Try.underlying22 rfl CC.out ?_; try simp only [Act.put, List.setIfInBounds_toArray, List.set_cons_zero, List.set_cons_succ])
            | (go_at_call 14; refine (app_full T2 (by omega) (by rw [← XL.out]; have := L5.out; have := HR.out; omega) bok_no (by have := M5.out; omega) (by rw [← XL.out]; have := HF.out; omega)).mono ?_; rintro e w5 ⟨rfl, hT, hF⟩; rw [bk_no] at hT; have T4 := Lib.hid hT; clear hT hF)
            | (go_at_call 21; refine (bytes_any T4 (by rw [← XL.out]; have := L5.out; have := HR.out; omega)).mono ?_; rintro e w6 ⟨p6, g6, c6, rfl, N, hb⟩; rw [← XL.out]; have T5 := Lib.hid (T4.out.call hb); clear N hb T4))
          go_roundg (n - (q + 1))
          case measure => omega
          case rel => exact ⟨q + 1, p3, g3, c3, xs, by omega, by go_num, by rw [← XL.out], T5, Lib.hid (by rw [← XL.out]; exact L5.out)⟩
    · obtain rfl : q = n := by omega
      go_wp2_with (go_at_call 25; refine (room_ok none T2 (r : Int) (by have := HR.out; omega)).mono ?_; rintro e w9 ⟨rfl, hT, hF⟩; have T9 := Lib.hid hT; clear hT hF)
      go_ret
      exact ⟨rfl, T9.out.mem.below⟩
theorem fivehundredth (a : Int) : ∃ j : Nat, j < 500 ∧ IntKind.i64.wrap ((IntKind.u64.wrap a).tmod 500) = (j : Int) := by
  have h2 : 0 ≤ (a % 18446744073709551616) % 500 := Int.emod_nonneg _ (by omega)
  have h3 : (a % 18446744073709551616) % 500 < 500 := Int.emod_lt_of_pos _ (by omega)
  refine ⟨((a % 18446744073709551616) % 500).toNat, by omega, ?_⟩
  rw [IntKind.wrap_u64, Int.tmod_eq_emod_of_nonneg (by omega), Int.toNat_of_nonneg h2, IntKind.wrap_i64]
  omega
theorem walk (W : World) (a0 : Int) (w0 : (Lit.int .i64 a0).wf = true) (v1 : Value) (t1 : List (List Nat)) (w1 : TextsAt W v1 t1) :
    Calls Try.prog 6 #[.int .i64 a0, v1] W fun e w' => e = .returned (.bool true) ∧ Below W.heap.size W w' := by
  obtain ⟨j, hj, hj2⟩ := fivehundredth a0
  exact walk1 W a0 _ _ j hj rfl rfl hj2 v1 t1 w1

set_option maxRecDepth 100000 in
theorem lifted (os : Os) (started : os.Started) (H : Type) (enc : TypeId × Value → H) :
    ReturnsInHanded {} Try.checked os 6 .any (Rows.tapeFullSpec.pre6 enc Try.prog Try.f6 Rows.tapeFullRow.domain false) (Rows.tapeFullSpec.post enc Try.prog Try.f6 false true false false) := by
  refine returnsInHanded_of_change_sized (C := Try.checked) own started (by kernel_rfl) Try.func6
    (ChangeSpec.witness6 (enc := enc) (C := Try.checked) false ⟨#[], #[.int .i64 0, .slice none 0 0], []⟩ 8 (by kernel_rfl) (by kernel_rfl) (by kernel_rfl) (by kernel_rfl)) ?_
  intro W base args ds gs before hval0 hW hcnd hsz0 _
  have hval : ∀ (j : Nat) t v, Try.f6.params[j]? = some t → args[j]? = some v → Value.okWide Try.prog W .any base t v := hval0
  have hsz : (DataW.weightsEach Try.prog (Try.f6.params.toList ++ Rows.tapeFullSpec.plain.varTypes Try.prog) (ds ++ gs)).all (· ≤ reachBytes) = true := hsz0
  have hW' := hW
  obtain ⟨p, q, hA0, hV, rfl, hfz, hnd⟩ := hW
  have hA : DataW.TrodAll enc Try.prog W 0 (fun _ => true) true Try.f6.params.toList args.toList ds p := hA0
  rw [Try.params6] at hA hval hsz
  obtain ⟨v0, vs0, d0, ds0, p0, q0, hargs, rfl, rfl, h0, r0⟩ := trodAll_cons hA
  obtain ⟨v1, vs1, d1, ds1, p1, q1, rfl, rfl, rfl, h1, r1⟩ := trodAll_cons r0
  obtain ⟨rfl, rfl, rfl⟩ := trodAll_nil r1
  obtain rfl : args = #[v0, v1] := by cases args; simp_all
  obtain ⟨rfl, rfl⟩ := trodVars_none hV
  obtain ⟨a0, rfl, rfl, rfl, w0⟩ := open_int Try.underlying3 (hval 0 3 v0 rfl rfl) h0
  have k1 := h1
  have lt1 : ∀ x ∈ p1, x.block < W.heap.size := by obtain ⟨m, hm⟩ := k1; exact DataW.trod_lt m _ _ _ hm
  obtain ⟨t1, w1⟩ := open_texts_arg (j := 1) (hval 1 49 v1 rfl rfl) h1 hsz rfl rfl
  clear hA0 hval0 hsz0
  simp only [List.append_nil] at hW'
  refine (walk W a0 w0 v1 t1 w1).mono fun e W' ⟨he, bel⟩ => ?_
  subst he
  exact ⟨_, rfl, _, _, _, [], _, [], hW', trodAll_mk1 (shut_bool Try.underlying4 _), (trodAll_cons_mk (shut_int Try.underlying3 w0) (trodAll_cons_mk (Below.trod laidOut (by kernel_rfl) (of_decide_eq_true (by kernel_rfl)) k1 bel lt1) trodAll_mk0)), rfl, bel.frame _, fun h => by cases h⟩

theorem over : Rows.tapeFullRow.holds Try.pinned (OpenSpec.ofChange Rows.tapeFullSpec) :=
  OpenClaim.holds_of_wide 6 Try.f6 rfl rfl rfl rfl rfl rfl rfl ⟨rfl, rfl, rfl, rfl, rfl⟩ rfl rfl rfl rfl rfl (by kernel_rfl) Try.func6 (by kernel_rfl)
    (of_decide_eq_true (by kernel_rfl)) (by unfold Func.isWrapper; first | (rw [if_pos (by decide +kernel)]; kernel_rfl) | (rw [if_neg (by decide +kernel)]; exact ⟨rfl, rfl⟩))
    (fun os started H enc _ => lifted os started H enc)

/-- The statement. -/
theorem proved : Rows.TapeFullSaid :=
  over
#print axioms proved
end Go.Proofs.Ytlbbnaihhagfdaa.tapeFull
