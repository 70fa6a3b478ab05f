/- What turns a tape. -/
import Derived.Test.YtlbbnaihhagfdaaTt
set_option linter.unusedSimpArgs false
set_option linter.unusedVariables false
set_option maxRecDepth 100000
namespace Go.Proofs.Ytlbbnaihhagfdaa
open Go.RowKit Go.Lib Go.Sort

set_option maxHeartbeats 8000000
theorem exec_gtri {o : Oper} {ev : Operand → Value} {W : World} {x y : Operand} {a b : Int} {q : Bool} (ho : o.op = .binOp .gtr 3 x y 3) (hx : ev x = .int .i64 a) (hy : ev y = .int .i64 b) (hq : decide (b < a) = q) : (execOp ev o).run Try.prog W = .ok (.value (.bool q)) W := by
  subst hq
  unfold execOp
  simp [ho, hx, hy, go_sem]
section
variable {D w : World} {bt bs : Nat} {v : Value} {s r k : Int} {f : Bool} {p : Option Addr} {g c : Nat} {xs : List Nat}
theorem cut_bad (T : Hid (Tp D bt bs s r f k p g c xs w)) (n : Int) (hn : ¬ (0 ≤ n ∧ n ≤ xs.length)) : Calls Try.prog 24 #[.pointer (some ⟨bt, 0, none⟩), .int .i64 n] w fun e w' => e = .returned (.int .i64 1) ∧ w = w' := by
  have c0 := cell_of_here T.out.cT 0 (v := .pointer (some ⟨bs, 0, none⟩)) rfl
  have d0 := cell_of_here T.out.cS 0 (v := .slice p xs.length c) rfl
  by_cases h1 : n < 0
  · clear hn
    go_enter Try.func24, Try.ntmps24
    go_wp2_with (go_at_call 27; refine (made_any T).mono ?_; rintro e w2 ⟨rfl, rfl⟩)
    go_ret
    exact ⟨rfl, rfl⟩
  · have h2 : (xs.length : Int) < n := by omega
    clear hn
    go_enter Try.func24, Try.ntmps24
    go_wp2_with (go_at_call 27; refine (made_any T).mono ?_; rintro e w2 ⟨rfl, rfl⟩)
    go_ret
    exact ⟨rfl, rfl⟩
theorem cut_dead (T : Hid (Tp D bt bs s r f k p g c xs w)) (hk : 0 ≤ k ∧ k ≤ 9223372036854775807) (ho : bok f k = false) (n : Nat) (hn : n ≤ xs.length) : Calls Try.prog 24 #[.pointer (some ⟨bt, 0, none⟩), .int .i64 n] w fun e w' => e = .returned (.int .i64 150) ∧ Tp D bt bs s r f (bk f k) p g c xs w' ∧ Fr bs (ob p) w w' := by
  have HK := Lib.hid hk
  have HO := Lib.hid ho
  clear hk ho
  have c0 := cell_of_here T.out.cT 0 (v := .pointer (some ⟨bs, 0, none⟩)) rfl
  have d0 := cell_of_here T.out.cS 0 (v := .slice p xs.length c) rfl
  have h1 : ¬ ((n : Int) < 0) := by omega
  have h2 : ¬ ((xs.length : Int) < n) := by omega
  go_enter Try.func24, Try.ntmps24
  go_wp2_with (first
    | (go_at_call 27; refine (made_any T).mono ?_; rintro e w2 ⟨rfl, rfl⟩)
    | (go_at_call 33; refine (burn_any (ob p) T HK.out).mono ?_; rintro e w2 ⟨rfl, hT, hF⟩; rw [HO.out]; have T2 := Lib.hid hT; have F2 := Lib.hid hF; clear hT hF))
  go_ret
  exact ⟨rfl, T2.out, F2.out⟩
theorem cut_ok (T : Hid (Tp D bt bs s r f k p g c xs w)) (hk : 0 ≤ k ∧ k ≤ 9223372036854775807) (ho : bok f k = true) (n : Nat) (hn : n ≤ xs.length) (hx : xs.length ≤ 140737488355328) : Calls Try.prog 24 #[.pointer (some ⟨bt, 0, none⟩), .int .i64 n] w fun e w' => e = .returned (.int .i64 0) ∧ Turns D bt bs n r f (bk f k) p (xs.take n) w w' := by
  have HK := Lib.hid hk
  have HO := Lib.hid ho
  clear hk ho
  have c0 := cell_of_here T.out.cT 0 (v := .pointer (some ⟨bs, 0, none⟩)) rfl
  have d0 := cell_of_here T.out.cS 0 (v := .slice p xs.length c) rfl
  have h1 : ¬ ((n : Int) < 0) := by omega
  have h2 : ¬ ((xs.length : Int) < n) := by omega
  have HN := Lib.hid hn
  have HX := Lib.hid hx
  clear hn hx
  go_enter Try.func24, Try.ntmps24
  go_wp2_with (first
    | (go_at_call 27; refine (made_any T).mono ?_; rintro e w2 ⟨rfl, rfl⟩)
    | (go_at_call 33; refine (burn_any (ob p) T HK.out).mono ?_; rintro e w2 ⟨rfl, hT, hF⟩; rw [HO.out]; have T2 := Lib.hid hT; have F2 := Lib.hid hF; have b0 := cell_of_here hT.cT 0 (v := .pointer (some ⟨bs, 0, none⟩)) rfl; clear hT hF)
    | (go_at_call 35; refine (leave_any T2 n HN.out HX.out).mono ?_; rintro e w3 ⟨rfl, hT⟩; have T3 := Lib.hid (hT.before F2.out); clear hT))
  go_ret
  exact ⟨rfl, T3.out⟩
theorem sync_dead (T : Hid (Tq D bt bs v s r f k p g c xs w)) (hk : 0 ≤ k ∧ k ≤ 9223372036854775807) (ho : bok f k = false) : Calls Try.prog 17 #[.pointer (some ⟨bt, 0, none⟩)] w fun e w' => e = .returned (.int .i64 150) ∧ Tq D bt bs v s r f (bk f k) p g c xs w' ∧ Fr bs (ob p) w w' := by
  have HK := Lib.hid hk
  have HO := Lib.hid ho
  clear hk ho
  have c0 := cell_of_here T.out.cT 0 (v := .pointer (some ⟨bs, 0, none⟩)) rfl
  go_enter Try.func17, Try.ntmps17
  go_wp2_with (first
    | (go_at_call 27; refine (made_any T).mono ?_; rintro e w2 ⟨rfl, rfl⟩)
    | (go_at_call 33; refine (burn_any (ob p) T HK.out).mono ?_; rintro e w2 ⟨rfl, hT, hF⟩; rw [HO.out]; have T2 := Lib.hid hT; have F2 := Lib.hid hF; clear hT hF))
  go_ret
  exact ⟨rfl, T2.out, F2.out⟩
theorem sync_ok (T : Hid (Tp D bt bs s r f k p g c xs w)) (hk : 0 ≤ k ∧ k ≤ 9223372036854775807) (ho : bok f k = true) : Calls Try.prog 17 #[.pointer (some ⟨bt, 0, none⟩)] w fun e w' => e = .returned (.int .i64 0) ∧ Tp D bt bs xs.length r f (bk f k) p g c xs w' ∧ Fr bs (ob p) w w' := by
  have HK := Lib.hid hk
  have HO := Lib.hid ho
  clear hk ho
  have c0 := cell_of_here T.out.cT 0 (v := .pointer (some ⟨bs, 0, none⟩)) rfl
  go_enter Try.func17, Try.ntmps17
  go_upto_region 5 with (first
    | (go_at_call 27; refine (made_any T).mono ?_; rintro e w2 ⟨rfl, rfl⟩)
    | (go_at_call 33; refine (burn_any (ob p) T HK.out).mono ?_; rintro e w2 ⟨rfl, hT, hF⟩; rw [HO.out]; have T2 := Lib.hid hT; have F2 := Lib.hid hF; clear hT hF))
  refine wp_region_T (Φ := fun X => Tp D bt bs s r f (bk f k) p g c xs X ∧ Fr bs (ob p) w X) (S := fun X => X.heap[bt]? = some (.cells #[.pointer (some ⟨bs, 0, none⟩)] 53 (0, 0)) ∧ X.cell? ⟨bs, 0, none⟩ = some (.slice p xs.length c)) (Lib.hid ⟨T2.out, F2.out⟩) (fun _ h => ⟨h.1.drew, h.2.drew⟩) (fun _ h => ⟨h.1.cT, cell_of_here h.1.cS 0 rfl⟩) (by kernel_rfl) ?_
  intro w5 TT S0
  refine hm_run 0 12 (.pointer (some ⟨bt, 0, none⟩)) rfl rfl (by kernel_rfl) (by kernel_rfl) (by kernel_rfl) (fun _ _ _ h => h) rfl (fun _ _ => rfl) S0.out ?_
  try simp only [Act.put, List.getElem_toArray, List.getElem_cons_succ, List.getElem_cons_zero, List.setIfInBounds_toArray, List.set_cons_zero, List.set_cons_succ]
  refine hm_run 1 13 (.pointer (some ⟨bt, 0, none⟩)) rfl rfl (by kernel_rfl) (by kernel_rfl) (by kernel_rfl) (fun _ _ _ h => h) rfl (fun _ _ => rfl) S0.out ?_
  try simp only [Act.put, List.getElem_toArray, List.getElem_cons_succ, List.getElem_cons_zero, List.setIfInBounds_toArray, List.set_cons_zero, List.set_cons_succ]
  refine hm_run 2 14 (.pointer (some ⟨bt, 0, none⟩)) rfl rfl (by kernel_rfl) (by kernel_rfl) (by kernel_rfl) (fun _ _ _ h => h) rfl (fun _ _ => rfl) S0.out ?_
  try simp only [Act.put, List.getElem_toArray, List.getElem_cons_succ, List.getElem_cons_zero, List.setIfInBounds_toArray, List.set_cons_zero, List.set_cons_succ]
  refine hm_run 3 15 (.pointer (some ⟨bs, 0, none⟩)) rfl rfl (by kernel_rfl) (by kernel_rfl) (by kernel_rfl) (fun _ _ _ h => h) rfl (fun W hW => exec_load rfl (run_load_one Try.underlying51 rfl (cell_of_here hW.1 0 rfl))) S0.out ?_
  try simp only [Act.put, List.getElem_toArray, List.getElem_cons_succ, List.getElem_cons_zero, List.setIfInBounds_toArray, List.set_cons_zero, List.set_cons_succ]
  refine hm_run 4 16 (.pointer (some ⟨bt, 0, none⟩)) rfl rfl (by kernel_rfl) (by kernel_rfl) (by kernel_rfl) (fun _ _ _ h => h) rfl (fun _ _ => rfl) S0.out ?_
  try simp only [Act.put, List.getElem_toArray, List.getElem_cons_succ, List.getElem_cons_zero, List.setIfInBounds_toArray, List.set_cons_zero, List.set_cons_succ]
  refine hm_run 5 17 (.pointer (some ⟨bt, 0, none⟩)) rfl rfl (by kernel_rfl) (by kernel_rfl) (by kernel_rfl) (fun _ _ _ h => h) rfl (fun _ _ => rfl) S0.out ?_
  try simp only [Act.put, List.getElem_toArray, List.getElem_cons_succ, List.getElem_cons_zero, List.setIfInBounds_toArray, List.set_cons_zero, List.set_cons_succ]
  refine hm_run 6 18 (.pointer (some ⟨bt, 0, none⟩)) rfl rfl (by kernel_rfl) (by kernel_rfl) (by kernel_rfl) (fun _ _ _ h => h) rfl (fun _ _ => rfl) S0.out ?_
  try simp only [Act.put, List.getElem_toArray, List.getElem_cons_succ, List.getElem_cons_zero, List.setIfInBounds_toArray, List.set_cons_zero, List.set_cons_succ]
  refine hm_run 7 19 (.pointer (some ⟨bs, 0, none⟩)) rfl rfl (by kernel_rfl) (by kernel_rfl) (by kernel_rfl) (fun _ _ _ h => h) rfl (fun W hW => exec_load rfl (run_load_one Try.underlying51 rfl (cell_of_here hW.1 0 rfl))) S0.out ?_
  try simp only [Act.put, List.getElem_toArray, List.getElem_cons_succ, List.getElem_cons_zero, List.setIfInBounds_toArray, List.set_cons_zero, List.set_cons_succ]
  refine hm_run 8 20 (.pointer (some ⟨bs, 0, none⟩)) rfl rfl (by kernel_rfl) (by kernel_rfl) (by kernel_rfl) (fun _ _ _ h => h) rfl (fun _ _ => rfl) S0.out ?_
  try simp only [Act.put, List.getElem_toArray, List.getElem_cons_succ, List.getElem_cons_zero, List.setIfInBounds_toArray, List.set_cons_zero, List.set_cons_succ]
  refine hm_run 9 21 (.pointer (some ⟨bs, 0, none⟩)) rfl rfl (by kernel_rfl) (by kernel_rfl) (by kernel_rfl) (fun _ _ _ h => h) rfl (fun _ _ => rfl) S0.out ?_
  try simp only [Act.put, List.getElem_toArray, List.getElem_cons_succ, List.getElem_cons_zero, List.setIfInBounds_toArray, List.set_cons_zero, List.set_cons_succ]
  refine hm_run 10 22 (.slice p xs.length c) rfl rfl (by kernel_rfl) (by kernel_rfl) (by kernel_rfl) (fun _ _ _ h => h) rfl (fun W hW => exec_load rfl (run_load_one Try.underlying22 rfl (hW.2))) S0.out ?_
  try simp only [Act.put, List.getElem_toArray, List.getElem_cons_succ, List.getElem_cons_zero, List.setIfInBounds_toArray, List.set_cons_zero, List.set_cons_succ]
  refine hm_run 11 23 (.int .i64 ((xs.length : Nat) : Int)) rfl rfl (by kernel_rfl) (by kernel_rfl) (by kernel_rfl) (fun _ _ _ h => h) rfl (fun _ _ => exec_len Try.underlying22 rfl rfl) S0.out ?_
  try simp only [Act.put, List.getElem_toArray, List.getElem_cons_succ, List.getElem_cons_zero, List.setIfInBounds_toArray, List.set_cons_zero, List.set_cons_succ]
  refine hm_run 12 24 (.pointer (some ⟨bs, 0, none⟩)) rfl rfl (by kernel_rfl) (by kernel_rfl) (by kernel_rfl) (fun _ _ _ h => h) rfl (fun _ _ => rfl) S0.out ?_
  try simp only [Act.put, List.getElem_toArray, List.getElem_cons_succ, List.getElem_cons_zero, List.setIfInBounds_toArray, List.set_cons_zero, List.set_cons_succ]
  refine hm_run 13 25 (.pointer (some ⟨bs, 1, none⟩)) rfl rfl (by kernel_rfl) (by kernel_rfl) (by kernel_rfl) (fun _ _ _ h => h) rfl (fun _ _ => rfl) S0.out ?_
  try simp only [Act.put, List.getElem_toArray, List.getElem_cons_succ, List.getElem_cons_zero, List.setIfInBounds_toArray, List.set_cons_zero, List.set_cons_succ]
  refine hm_one (i := 14) (by kernel_rfl) ?_
  refine hm_step 14 rfl (by kernel_rfl) fun K hK => ?_
  try simp only [Act.put, List.getElem_toArray, List.getElem_cons_succ, List.getElem_cons_zero, List.setIfInBounds_toArray, List.set_cons_zero, List.set_cons_succ]
  refine mo_setc (v := .int .i64 xs.length) TT.out.1.cS 3 (.tmp 25) (.tmp 23) rfl rfl rfl (by kernel_rfl) rfl rfl rfl ?_
  have T5 := Lib.hid (TT.out.1.set1 (x := xs.length))
  have S14_14 := Lib.hid (And.intro T5.out.cT (cell_of_here T5.out.cS 0 (v := .slice p xs.length c) rfl))
  refine hK _ _ S14_14.out ?_
  clear hK K
  try simp only [Act.put, List.getElem_toArray, List.getElem_cons_succ, List.getElem_cons_zero, List.setIfInBounds_toArray, List.set_cons_zero, List.set_cons_succ]
  refine wpAnyH_done (by kernel_rfl) ?_ _
  go_wp2
  go_ret
  exact ⟨rfl, T5.out, TT.out.2.set _ _⟩
end
end Go.Proofs.Ytlbbnaihhagfdaa
