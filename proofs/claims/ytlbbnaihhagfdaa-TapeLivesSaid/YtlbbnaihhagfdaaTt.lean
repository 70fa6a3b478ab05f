/- More calls of a tape. -/
import Derived.Test.YtlbbnaihhagfdaaTs
set_option linter.unusedSimpArgs false
set_option linter.unusedVariables false
set_option maxRecDepth 100000
namespace Go.Proofs.Ytlbbnaihhagfdaa
open Go.RowKit Go.Lib Go.Sort

theorem wpList_knownS {P : Program} {ops : Array Oper} {rest : List Oper} {Q : Exit → Act → World → Prop} {op : Oper} {a : Act} {w : World} (hw : Region.wanted op (yielded ops a.tmps) = true) (v : Value) (w' : World) (hrun : (execOp a.eval op).run P w = .ok (.value v) w') (h : wpList P ops Q rest (a.put op.dst v) w') : wpList P ops Q (op :: rest) a w :=
  BigFrame.wpList_want hw fun _ hK => mo_known v w' hrun (hK _ _ h)
set_option maxHeartbeats 4000000
section
variable {D w : World} {bt bs : Nat} {v : Value} {s r k : Int} {f : Bool} {p : Option Addr} {g c : Nat} {xs : List Nat}
theorem run_sl_take (w : World) {p : Option Addr} {n c m : Nat} (hm : m ≤ n) (hc : n ≤ c) (hp : p = none → c = 0) : (Instr.sliceAt 22 (.slice p n c) none (some (.int .i64 (m : Int))) none).run Try.prog w = .ok (.slice p m c) w := by
  rw [run_sl (w := w) (bounds_h (n := n) (by omega : m ≤ c))]
  unfold sliced
  cases p with
  | none =>
    obtain rfl := hp rfl
    simp
  | some a =>
    by_cases h : c = 0
    · simp [h, Addr.add]
    · simp [h, Addr.add]
theorem synced_any (T : Hid (Tq D bt bs v s r f k p g c xs w)) : Calls Try.prog 18 #[.pointer (some ⟨bt, 0, none⟩)] w fun e w' => e = .returned (.int .i64 s) ∧ w = w' := by
  have c0 := cell_of_here T.out.cT 0 (v := .pointer (some ⟨bs, 0, none⟩)) rfl
  have d1 := cell_of_here T.out.cS 1 (v := .int .i64 s) rfl
  go_enter Try.func18, Try.ntmps18
  go_wp2_with (go_at_call 27; refine (made_any T).mono ?_; rintro e w2 ⟨rfl, rfl⟩)
  go_ret
  exact ⟨rfl, rfl⟩
theorem bytes_any (T : Hid (Tp D bt bs s r f k p g c xs w)) (hx : xs.length ≤ 140737488355328) : Calls Try.prog 21 #[.pointer (some ⟨bt, 0, none⟩)] w (GetsL w xs) := by
  have R := Lib.hid T.out.row
  have HX := Lib.hid hx
  clear hx
  have c0 := cell_of_here T.out.cT 0 (v := .pointer (some ⟨bs, 0, none⟩)) rfl
  have d0 := cell_of_here T.out.cS 0 (v := .slice p xs.length c) rfl
  go_enter Try.func21, Try.ntmps21
  go_wp2_with (first
    | (go_at_call 27; refine (made_any T).mono ?_; rintro e w2 ⟨rfl, rfl⟩)
    | (go_at_call 22; refine (clone_any R HX.out).mono ?_; rintro e w3 ⟨p3, g3, c3, rfl, N, hb⟩; have NN3 := Lib.hid N; have HB := Lib.hid hb; clear N hb))
  go_ret
  exact ⟨p3, g3, c3, rfl, NN3.out, HB.out⟩
theorem room_bad (T : Hid (Tq D bt bs v s r f k p g c xs w)) (n : Int) (hn : ¬ (0 ≤ n ∧ n ≤ 16777216)) : Calls Try.prog 25 #[.pointer (some ⟨bt, 0, none⟩), .int .i64 n] w fun e w' => e = .returned (.int .i64 1) ∧ w = w' := by
  have R := Lib.hid (fun w => isroom_any n w)
  rw [decide_eq_false hn] at R
  clear hn
  go_enter Try.func25, Try.ntmps25
  go_wp2_with (first
    | (go_at_call 27; refine (made_any T).mono ?_; rintro e w2 ⟨rfl, rfl⟩)
    | (go_at_call 26; refine (R.out _).mono ?_; rintro e w2 ⟨rfl, rfl⟩))
  go_ret
  exact ⟨rfl, rfl⟩
theorem room_ok (o : Option Nat) (T : Hid (Tq D bt bs v s r f k p g c xs w)) (n : Int) (hn : 0 ≤ n ∧ n ≤ 16777216) : Calls Try.prog 25 #[.pointer (some ⟨bt, 0, none⟩), .int .i64 n] w fun e w' => e = .returned (.int .i64 0) ∧ Tq D bt bs v s n f k p g c xs w' ∧ Fr bs o w w' := by
  have R := Lib.hid (fun w => isroom_any n w)
  rw [decide_eq_true hn] at R
  clear hn
  have c0 := cell_of_here T.out.cT 0 (v := .pointer (some ⟨bs, 0, none⟩)) rfl
  go_enter Try.func25, Try.ntmps25
  go_wp2_with (first
    | (go_at_call 27; refine (made_any T).mono ?_; rintro e w2 ⟨rfl, rfl⟩)
    | (go_at_call 26; refine (R.out _).mono ?_; rintro e w2 ⟨rfl, rfl⟩)
    | ((with_reducible refine wpList_atn rfl ?_); refine wpList_setc T.out.cS rfl 3 (.tmp 17) (.tmp 15) rfl rfl rfl (by kernel_rfl) rfl rfl rfl ?_))
  go_ret
  exact ⟨rfl, T.out.set2, (Fr.refl _ _ _).set _ _⟩
theorem Tq.fresh {w' : World} {p' : Option Addr} {g' c' : Nat} {zs : List Nat} (T : Tq D bt bs v s r f k p g c xs w) (N : Own w.heap.size w' p' g' zs.length c' (lf zs)) (hb : Below w.heap.size w w') : Tq D bt bs v s r f k p' g' c' zs w' ∧ Lies w (ob p) (ob p') :=
  ⟨⟨T.mem.call hb, N.mono T.mem.below.size, T.nb⟩, fun j e => .inr (World.ownsRow.lt N.own j (by rw [ob_own]; exact e)).1⟩
theorem leave_any (T : Hid (Tp D bt bs s r f k p g c xs w)) (m : Nat) (hm : m ≤ xs.length) (hx : xs.length ≤ 140737488355328) : Calls Try.prog 35 #[.pointer (some ⟨bs, 0, none⟩), .int .i64 (m : Int)] w fun e w' => e = .returned (.tuple #[]) ∧ Turns D bt bs m r f k p (xs.take m) w w' := by
  have R := T.out.row
  have SL := run_sl_take (w := w) hm R.le (fun h => (R.nil h).2)
  obtain ⟨zs, hz⟩ : ∃ zs, zs = xs.take m := ⟨_, rfl⟩
  have el : zs.length = m := by rw [hz, List.length_take]; omega
  have HL := Lib.hid el
  have HX := Lib.hid (show m ≤ 140737488355328 by omega)
  have SE := Lib.hid SL
  have T1 := T.out.less hm
  rw [← hz] at T1 ⊢
  replace T1 := Lib.hid T1
  clear R SL hm hx el hz
  have d0 := cell_of_here T.out.cS 0 (v := .slice p xs.length c) rfl
  go_enter Try.func35, Try.ntmps35
  go_upto_region 1 with (first
    | ((with_reducible refine wpList_at 10 rfl ?_); refine wpList_knownS rfl (.slice p m c) _ (exec_sl rfl SE.out) ?_; try simp only [Act.put, List.setIfInBounds_toArray, List.set_cons_zero, List.set_cons_succ])
    | ((with_reducible refine wpList_atn rfl ?_); refine wpList_setc (v := .slice p m c) T.out.cS rfl 22 (.tmp 12) (.tmp 10) rfl rfl rfl (by kernel_rfl) rfl rfl rfl ?_))
  have T2 : Hid (Tp D bt bs s r f k p g c zs (w.setCell ⟨bs, 0, none⟩ (.slice p m c))) := Lib.hid (by
    have := T1.out.set0 (u := .slice p m c)
    unfold Tp
    rw [HL.out]
    exact this)
  have F2 : Hid (Fr bs (ob p) w (w.setCell ⟨bs, 0, none⟩ (.slice p m c))) := Lib.hid ((Fr.refl _ _ _).set _ _)
  clear d0 SE T1 T
  generalize w.setCell ⟨bs, 0, none⟩ (.slice p m c) = w2 at *
  have d0 := cell_of_here T2.out.cS 0 (v := .slice p m c) (by show some (Value.slice p zs.length c) = _; rw [HL.out])
  by_cases hc : (m : Int) < wrap64 ((c : Int) / 2)
  · have R2 := T2.out.row
    rw [HL.out] at R2
    have R3 := Lib.hid R2
    clear R2
    go_wp2_with (first
      | (go_at_call 22; refine (clone_any R3 HX.out).mono ?_; rintro e w3 ⟨p3, g3, c3, rfl, N, hb⟩; rw [← HL.out] at N; have T3 := Lib.hid (T2.out.fresh N hb); have HB := Lib.hid hb; clear N hb)
      | ((with_reducible refine wpList_atn rfl ?_); refine wpList_setc (v := .slice p3 m c3) T3.out.1.cS rfl 22 (.tmp 28) (.tmp 26) rfl rfl rfl (by kernel_rfl) rfl rfl rfl ?_; have T4 := Lib.hid (T3.out.1.set0 (u := .slice p3 m c3)); have F4 := Lib.hid (F2.out.same ((Fr.below HB.out).set (j := 0) (v := .slice p3 m c3))); have L4 := Lib.hid T3.out.2; clear T3; generalize w3.setCell ⟨bs, 0, none⟩ (.slice p3 m c3) = w4 at *)
      | ((with_reducible refine wpList_atn rfl ?_); refine wpList_setc (v := .int .i64 m) T4.out.cS rfl 3 (.tmp 32) (.tmp 30) rfl rfl rfl (by kernel_rfl) rfl rfl rfl ?_))
    go_end0
    refine ⟨rfl, p3, g3, c3, ?_, F4.out.set _ _, fun j e => ?_⟩
    · unfold Tp
      rw [HL.out]
      exact T4.out.set1
    · rcases L4.out j e with q | q
      · exact .inl q
      · exact .inr (Nat.le_trans F2.out.size q)
  · go_wp2_with (first
      | ((with_reducible refine wpList_atn rfl ?_); refine wpList_setc (v := .int .i64 m) T2.out.cS rfl 3 (.tmp 32) (.tmp 30) rfl rfl rfl (by kernel_rfl) rfl rfl rfl ?_))
    go_end0
    exact ⟨rfl, p, g, c, T2.out.set1, F2.out.set _ _, Lies.refl _ _⟩
end
section
variable {ops : Array Oper} {rest : List Oper} {Q : Exit → Act → World → Prop} {op : Oper} {a : Act} {w : World}
end
end Go.Proofs.Ytlbbnaihhagfdaa
