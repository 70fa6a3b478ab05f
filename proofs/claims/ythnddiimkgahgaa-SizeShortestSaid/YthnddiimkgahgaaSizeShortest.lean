/- For every count and every int: a beginning of the count's bytes is too short, and the count's widest form is read just where it is the shortest; the call returns true. No condition. -/
import Derived.Test.YthnddiimkgahgaaSp
set_option linter.unusedVariables false
namespace Go.Proofs.Ythnddiimkgahgaa.sizeShortest
open Go.ChangeShapes Go.WideShapes Go.ChangeAt Go.RowKit Go.Lib Go.Proofs.Ythnddiimkgahgaa

set_option maxRecDepth 100000 in
set_option maxHeartbeats 4000000 in
theorem walk_small {W : World} {k q : Nat} {a1 : Int} (hq : wrap64 ((IntKind.u64.wrap a1).tmod ((wid k : Nat) : Int)) = ((q : Nat) : Int)) (hq2 : q < wid k) (SQ : Hid (dec q (enc k) = 50)) (tk : decide (4294967296 ≤ ((k : Nat) : Int)) = false) (SW : Hid (dec 9 (Go.Proofs.Ythnddiimkgahgaa.wide k) = 51)) :
    Calls Try.prog 6 #[.int .u64 ((k : Nat) : Int), .int .i64 a1] W fun e w' => e = .returned (.bool true) ∧ Below W.heap.size W w' := by
  have E := Lib.hid (Below.refl W.heap.size W)
  have hw := wid_bd k
  have t0 : (((wid k : Nat) : Int) == 0) = false := by simp; omega
  go_enter Try.func6, Try.ntmps6
  go_wp2_with (first
      | (go_at_call 15; (with_reducible refine (encode_any k _).mono ?_); rintro e w1 ⟨p1, g1, c1, rfl, N1', hb⟩; have lc := N1'.row.le; have N1 := Lib.hid (N1'.row.take (q := q) (by omega)); replace E := Lib.hid (E.out.trans (hb.mono E.out.size)); clear hb N1')
      | (go_at_call 12; first
        | ((with_reducible refine (decode_bad N1 SQ (by decide)).mono ?_); rintro e w2 ⟨rfl, hb⟩; replace E := Lib.hid (E.out.trans (hb.mono E.out.size)); have z := true; clear hb)
        | ((with_reducible refine (decode_bad N3 SW (by decide)).mono ?_); rintro e w5 ⟨rfl, hb⟩; replace E := Lib.hid (E.out.trans (hb.mono E.out.size)); clear hb))
      | (go_at_call 21; refine (low_any k 8 (by omega) _).mono ?_; rintro e w4 ⟨p2, g2, c2, rfl, N2', hb⟩; have N2 := Lib.hid N2'.row; have KW := Lib.hid (work_one E.out 255 (by omega) hb); clear hb N2' E)
      | (at_builtin; refine wpList_wapp (.inl rfl) (.tmp 32) (.tmp 34) rfl KW rfl rfl N2 (by omega) ?_; clear KW N2; intro p3 g3 c3 w3 KW; have E := Lib.hid KW.out.mem.below; have N3 : Hid (Row w3 p3 g3 0 9 c3 (Go.Proofs.Ythnddiimkgahgaa.wide k)) := Lib.hid KW.out.own.row; clear KW))
  go_ret
  exact ⟨rfl, E.out⟩
set_option maxRecDepth 100000 in
set_option maxHeartbeats 4000000 in
theorem walk_great {W : World} {k q : Nat} {a1 : Int} (hq : wrap64 ((IntKind.u64.wrap a1).tmod ((wid k : Nat) : Int)) = ((q : Nat) : Int)) (hq2 : q < wid k) (SQ : Hid (dec q (enc k) = 50)) (tk : decide (4294967296 ≤ ((k : Nat) : Int)) = true) (SW : Hid (dec 9 (Go.Proofs.Ythnddiimkgahgaa.wide k) = 0)) :
    Calls Try.prog 6 #[.int .u64 ((k : Nat) : Int), .int .i64 a1] W fun e w' => e = .returned (.bool true) ∧ Below W.heap.size W w' := by
  have E := Lib.hid (Below.refl W.heap.size W)
  have hw := wid_bd k
  have t0 : (((wid k : Nat) : Int) == 0) = false := by simp; omega
  go_enter Try.func6, Try.ntmps6
  go_wp2_with (first
      | (go_at_call 15; (with_reducible refine (encode_any k _).mono ?_); rintro e w1 ⟨p1, g1, c1, rfl, N1', hb⟩; have lc := N1'.row.le; have N1 := Lib.hid (N1'.row.take (q := q) (by omega)); replace E := Lib.hid (E.out.trans (hb.mono E.out.size)); clear hb N1')
      | (go_at_call 12; first
        | ((with_reducible refine (decode_bad N1 SQ (by decide)).mono ?_); rintro e w2 ⟨rfl, hb⟩; replace E := Lib.hid (E.out.trans (hb.mono E.out.size)); have z := true; clear hb)
        | ((with_reducible refine (decode_good N3 SW (Lib.hid (by omega))).mono ?_); rintro e w5 ⟨p5, g5, c5, rfl, R5, hb⟩; replace E := Lib.hid (E.out.trans (hb.mono E.out.size)); clear hb))
      | (go_at_call 21; refine (low_any k 8 (by omega) _).mono ?_; rintro e w4 ⟨p2, g2, c2, rfl, N2', hb⟩; have N2 := Lib.hid N2'.row; have KW := Lib.hid (work_one E.out 255 (by omega) hb); clear hb N2' E)
      | (at_builtin; refine wpList_wapp (.inl rfl) (.tmp 32) (.tmp 34) rfl KW rfl rfl N2 (by omega) ?_; clear KW N2; intro p3 g3 c3 w3 KW; have E := Lib.hid KW.out.mem.below; have N3 : Hid (Row w3 p3 g3 0 9 c3 (Go.Proofs.Ythnddiimkgahgaa.wide k)) := Lib.hid KW.out.own.row; clear KW))
  go_ret
  exact ⟨rfl, E.out⟩
theorem cut_in (a : Int) (m : Nat) (h1 : 1 ≤ m) (h9 : m ≤ 9) : ∃ q : Nat, wrap64 ((IntKind.u64.wrap a).tmod ((m : Nat) : Int)) = ((q : Nat) : Int) ∧ q < m := by
  rw [IntKind.wrap_u64, Int.tmod_eq_emod_of_nonneg (by omega)]
  have h2 : 0 ≤ (a % 18446744073709551616) % ((m : Nat) : Int) := Int.emod_nonneg _ (by omega)
  have h3 : (a % 18446744073709551616) % ((m : Nat) : Int) < ((m : Nat) : Int) := Int.emod_lt_of_pos _ (by omega)
  refine ⟨((a % 18446744073709551616) % ((m : Nat) : Int)).toNat, ?_, by omega⟩
  rw [Int.toNat_of_nonneg h2]
  unfold wrap64
  omega
theorem walk (W : World) (a0 : Int) (w0 : (Lit.int .u64 a0).wf = true) (a1 : Int) (w1 : (Lit.int .i64 a1).wf = true) :
    Calls Try.prog 6 #[.int .u64 a0, .int .i64 a1] W fun e w' => e = .returned (.bool true) ∧ Below W.heap.size W w' := by
  obtain ⟨k, rfl, hk⟩ := nat_of64 w0
  have hw := wid_bd k
  obtain ⟨q, hq, hq2⟩ := cut_in a1 (wid k) hw.1 hw.2
  have hs := wide_said hk
  by_cases h : 4294967296 ≤ k
  · exact walk_great hq hq2 (Lib.hid (enc_short hq2)) (by simp; omega) (Lib.hid (by rw [hs.2.2, if_pos h]))
  · exact walk_small hq hq2 (Lib.hid (enc_short hq2)) (by simp; omega) (Lib.hid (by rw [hs.2.2, if_neg h]))

set_option maxRecDepth 100000 in
theorem lifted (os : Os) (started : os.Started) (H : Type) (enc : TypeId × Value → H) :
    ReturnsInHanded {} Try.checked os 6 .any (Rows.sizeShortestSpec.pre6 enc Try.prog Try.f6 Rows.sizeShortestRow.domain false) (Rows.sizeShortestSpec.post enc Try.prog Try.f6 false true false false) := by
  refine returnsInHanded_of_change_sized (C := Try.checked) own started (by kernel_rfl) Try.func6
    (ChangeSpec.witness6 (enc := enc) (C := Try.checked) false ⟨#[], #[.int .u64 0, .int .i64 0], []⟩ 8 (by kernel_rfl) (by kernel_rfl) (by kernel_rfl) (by kernel_rfl)) ?_
  intro W base args ds gs before hval0 hW hcnd hsz0 _
  have hval : ∀ (j : Nat) t v, Try.f6.params[j]? = some t → args[j]? = some v → Value.okWide Try.prog W .any base t v := hval0
  have hsz : (DataW.weightsEach Try.prog (Try.f6.params.toList ++ Rows.sizeShortestSpec.plain.varTypes Try.prog) (ds ++ gs)).all (· ≤ reachBytes) = true := hsz0
  have hW' := hW
  obtain ⟨p, q, hA0, hV, rfl, hfz, hnd⟩ := hW
  have hA : DataW.TrodAll enc Try.prog W 0 (fun _ => true) true Try.f6.params.toList args.toList ds p := hA0
  rw [Try.params6] at hA hval hsz
  obtain ⟨v0, vs0, d0, ds0, p0, q0, hargs, rfl, rfl, h0, r0⟩ := trodAll_cons hA
  obtain ⟨v1, vs1, d1, ds1, p1, q1, rfl, rfl, rfl, h1, r1⟩ := trodAll_cons r0
  obtain ⟨rfl, rfl, rfl⟩ := trodAll_nil r1
  obtain rfl : args = #[v0, v1] := by cases args; simp_all
  obtain ⟨rfl, rfl⟩ := trodVars_none hV
  obtain ⟨a0, rfl, rfl, rfl, w0⟩ := open_int Try.underlying22 (hval 0 22 v0 rfl rfl) h0
  obtain ⟨a1, rfl, rfl, rfl, w1⟩ := open_int Try.underlying3 (hval 1 3 v1 rfl rfl) h1
  clear hA0 hval0 hsz0
  simp only [List.append_nil] at hW'
  refine (walk W a0 w0 a1 w1).mono fun e W' ⟨he, bel⟩ => ?_
  subst he
  exact ⟨_, rfl, _, _, _, [], _, [], hW', trodAll_mk1 (shut_bool Try.underlying4 _), (trodAll_cons_mk (shut_int Try.underlying22 w0) (trodAll_cons_mk (shut_int Try.underlying3 w1) trodAll_mk0)), rfl, bel.frame _, fun h => by cases h⟩

theorem over : Rows.sizeShortestRow.holds Try.pinned (OpenSpec.ofChange Rows.sizeShortestSpec) :=
  OpenClaim.holds_of_wide 6 Try.f6 rfl rfl rfl rfl rfl rfl rfl ⟨rfl, rfl, rfl, rfl, rfl⟩ rfl rfl rfl rfl rfl (by kernel_rfl) Try.func6 (by kernel_rfl)
    (of_decide_eq_true (by kernel_rfl)) (by unfold Func.isWrapper; first | (rw [if_pos (by decide +kernel)]; kernel_rfl) | (rw [if_neg (by decide +kernel)]; exact ⟨rfl, rfl⟩))
    (fun os started H enc _ => lifted os started H enc)

/-- The statement. -/
theorem proved : Rows.SizeShortestSaid :=
  over
#print axioms proved
end Go.Proofs.Ythnddiimkgahgaa.sizeShortest
