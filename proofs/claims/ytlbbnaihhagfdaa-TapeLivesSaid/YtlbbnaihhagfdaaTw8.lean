/- Append, Fuse, Crash of a tape. -/
import Derived.Test.YtlbbnaihhagfdaaTu
set_option linter.unusedSimpArgs false
set_option linter.unusedVariables false
set_option maxRecDepth 100000
namespace Go.Proofs.Ytlbbnaihhagfdaa
open Go.RowKit Go.Lib Go.Sort

set_option maxHeartbeats 8000000
theorem exec_mini {o : Oper} {ev : Operand → Value} {W : World} {x y : Operand} {a b q : Int} (ho : o.op = .call { callee := .builtin .min, args := #[x, y], argTypes := #[3, 3] }) (ht : o.type = 3) (hx : ev x = .int .i64 a) (hy : ev y = .int .i64 b) (hq : min a b = q) : (execOp ev o).run Try.prog W = .ok (.value (.int .i64 q)) W := by
  subst hq
  unfold execOp
  simp [ho, hx, hy, go_sem, resolve, invoke, builtin, ht]
  split <;> omega
theorem exec_maxi {o : Oper} {ev : Operand → Value} {W : World} {x y : Operand} {a b q : Int} (ho : o.op = .call { callee := .builtin .max, args := #[x, y], argTypes := #[3, 3] }) (ht : o.type = 3) (hx : ev x = .int .i64 a) (hy : ev y = .int .i64 b) (hq : max a b = q) : (execOp ev o).run Try.prog W = .ok (.value (.int .i64 q)) W := by
  subst hq
  unfold execOp
  simp [ho, hx, hy, go_sem, resolve, invoke, builtin, ht]
  split <;> omega
section
variable {D w : World} {bt bs : Nat} {v : Value} {s r k : Int} {f : Bool} {p : Option Addr} {g c : Nat} {xs : List Nat} {q : Option Addr} {h o m d : Nat} {y : Nat → Nat}
theorem app_dead (T : Hid (Tp D bt bs s r f k p g c xs w)) (hk : 0 ≤ k ∧ k ≤ 9223372036854775807) (ho : bok f k = false) (u : Value) : Calls Try.prog 14 #[.pointer (some ⟨bt, 0, none⟩), u] w fun e w' => e = .returned (.int .i64 150) ∧ Tp D bt bs s r f (bk f k) p g c xs w' ∧ Fr bs (ob p) w w' := by
  have HK := Lib.hid hk
  have HO := Lib.hid ho
  clear hk ho
  have c0 := cell_of_here T.out.cT 0 (v := .pointer (some ⟨bs, 0, none⟩)) rfl
  go_enter Try.func14, Try.ntmps14
  go_wp2_with (first
    | (go_at_call 27; refine (made_any T).mono ?_; rintro e w2 ⟨rfl, rfl⟩)
    | (go_at_call 33; refine (burn_any (ob p) T HK.out).mono ?_; rintro e w2 ⟨rfl, hT, hF⟩; rw [HO.out]; have T2 := Lib.hid hT; have F2 := Lib.hid hF; clear hT hF))
  go_ret
  exact ⟨rfl, T2.out, F2.out⟩
theorem app_full (T : Hid (Tp D bt bs s r f k p g c xs w)) (hk : 0 ≤ k ∧ k ≤ 9223372036854775807) (hx : xs.length ≤ 140737488355328) (ho : bok f k = true) (hm : m ≤ 140737488355328) (hf : ¬ (((xs.length + m : Nat) : Int) ≤ r)) : Calls Try.prog 14 #[.pointer (some ⟨bt, 0, none⟩), .slice q m d] w fun e w' => e = .returned (.int .i64 4) ∧ Tp D bt bs s r f (bk f k) p g c xs w' ∧ Fr bs (ob p) w w' := by
  have HK := Lib.hid hk
  have HO := Lib.hid ho
  clear hk ho
  have HF := Lib.hid (show decide (r < ((xs.length + m : Nat) : Int)) = true by simp; omega)
  have HW := Lib.hid (show IntKind.i64.wrap (((xs.length : Nat) : Int) + ((m : Nat) : Int)) = ((xs.length + m : Nat) : Int) by rw [IntWalk.i64_in _ (by omega)]; omega)
  clear hx hm hf
  have c0 := cell_of_here T.out.cT 0 (v := .pointer (some ⟨bs, 0, none⟩)) rfl
  go_enter Try.func14, Try.ntmps14
  go_upto_region 5 with (first
    | (go_at_call 27; refine (made_any T).mono ?_; rintro e w2 ⟨rfl, rfl⟩)
    | (go_at_call 33; refine (burn_any (ob p) T HK.out).mono ?_; rintro e w2 ⟨rfl, hT, hF⟩; rw [HO.out]; have T2 := Lib.hid hT; have F2 := Lib.hid hF; clear hT hF))
  refine wp_region_T (Φ := fun X => Tp D bt bs s r f (bk f k) p g c xs X ∧ Fr bs (ob p) w X) (S := fun X => Tp D bt bs s r f (bk f k) p g c xs X) (Lib.hid ⟨T2.out, F2.out⟩) (fun _ h => ⟨h.1.drew, h.2.drew⟩) (fun _ h => h.1) (by kernel_rfl) ?_
  intro w5 TT S0
  refine hm_run 0 14 (.pointer (some ⟨bt, 0, none⟩)) rfl rfl (by kernel_rfl) (by kernel_rfl) (by kernel_rfl) (fun _ _ _ h => h) rfl (fun _ _ => rfl) S0.out ?_
  try simp only [Act.put, List.getElem_toArray, List.getElem_cons_succ, List.getElem_cons_zero, List.setIfInBounds_toArray, List.set_cons_zero, List.set_cons_succ]
  refine hm_run 1 15 (.pointer (some ⟨bt, 0, none⟩)) rfl rfl (by kernel_rfl) (by kernel_rfl) (by kernel_rfl) (fun _ _ _ h => h) rfl (fun _ _ => rfl) S0.out ?_
  try simp only [Act.put, List.getElem_toArray, List.getElem_cons_succ, List.getElem_cons_zero, List.setIfInBounds_toArray, List.set_cons_zero, List.set_cons_succ]
  refine hm_run 2 16 (.pointer (some ⟨bt, 0, none⟩)) rfl rfl (by kernel_rfl) (by kernel_rfl) (by kernel_rfl) (fun _ _ _ h => h) rfl (fun _ _ => rfl) S0.out ?_
  try simp only [Act.put, List.getElem_toArray, List.getElem_cons_succ, List.getElem_cons_zero, List.setIfInBounds_toArray, List.set_cons_zero, List.set_cons_succ]
  refine hm_run 3 17 (.pointer (some ⟨bs, 0, none⟩)) rfl rfl (by kernel_rfl) (by kernel_rfl) (by kernel_rfl) (fun _ _ _ h => h) rfl (fun W hW => exec_load rfl (run_load_one Try.underlying51 rfl (cell_of_here hW.cT 0 rfl))) S0.out ?_
  try simp only [Act.put, List.getElem_toArray, List.getElem_cons_succ, List.getElem_cons_zero, List.setIfInBounds_toArray, List.set_cons_zero, List.set_cons_succ]
  refine hm_run 4 18 (.pointer (some ⟨bs, 0, none⟩)) rfl rfl (by kernel_rfl) (by kernel_rfl) (by kernel_rfl) (fun _ _ _ h => h) rfl (fun _ _ => rfl) S0.out ?_
  try simp only [Act.put, List.getElem_toArray, List.getElem_cons_succ, List.getElem_cons_zero, List.setIfInBounds_toArray, List.set_cons_zero, List.set_cons_succ]
  refine hm_run 5 19 (.pointer (some ⟨bs, 0, none⟩)) rfl rfl (by kernel_rfl) (by kernel_rfl) (by kernel_rfl) (fun _ _ _ h => h) rfl (fun _ _ => rfl) S0.out ?_
  try simp only [Act.put, List.getElem_toArray, List.getElem_cons_succ, List.getElem_cons_zero, List.setIfInBounds_toArray, List.set_cons_zero, List.set_cons_succ]
  refine hm_run 6 20 (.slice p xs.length c) rfl rfl (by kernel_rfl) (by kernel_rfl) (by kernel_rfl) (fun _ _ _ h => h) rfl (fun W hW => exec_load rfl (run_load_one Try.underlying22 rfl (cell_of_here hW.cS 0 rfl))) S0.out ?_
  try simp only [Act.put, List.getElem_toArray, List.getElem_cons_succ, List.getElem_cons_zero, List.setIfInBounds_toArray, List.set_cons_zero, List.set_cons_succ]
  refine hm_run 7 21 (.int .i64 ((xs.length : Nat) : Int)) rfl rfl (by kernel_rfl) (by kernel_rfl) (by kernel_rfl) (fun _ _ _ h => h) rfl (fun _ _ => exec_len Try.underlying22 rfl rfl) S0.out ?_
  try simp only [Act.put, List.getElem_toArray, List.getElem_cons_succ, List.getElem_cons_zero, List.setIfInBounds_toArray, List.set_cons_zero, List.set_cons_succ]
  refine hm_run 8 22 (.slice q m d) rfl rfl (by kernel_rfl) (by kernel_rfl) (by kernel_rfl) (fun _ _ _ h => h) rfl (fun _ _ => rfl) S0.out ?_
  try simp only [Act.put, List.getElem_toArray, List.getElem_cons_succ, List.getElem_cons_zero, List.setIfInBounds_toArray, List.set_cons_zero, List.set_cons_succ]
  refine hm_run 9 23 (.int .i64 ((m : Nat) : Int)) rfl rfl (by kernel_rfl) (by kernel_rfl) (by kernel_rfl) (fun _ _ _ h => h) rfl (fun _ _ => exec_len Try.underlying22 rfl rfl) S0.out ?_
  try simp only [Act.put, List.getElem_toArray, List.getElem_cons_succ, List.getElem_cons_zero, List.setIfInBounds_toArray, List.set_cons_zero, List.set_cons_succ]
  refine hm_run 10 24 (.int .i64 ((xs.length + m : Nat) : Int)) rfl rfl (by kernel_rfl) (by kernel_rfl) (by kernel_rfl) (fun _ _ _ h => h) rfl (fun _ _ => exec_add rfl rfl rfl HW.out) S0.out ?_
  try simp only [Act.put, List.getElem_toArray, List.getElem_cons_succ, List.getElem_cons_zero, List.setIfInBounds_toArray, List.set_cons_zero, List.set_cons_succ]
  refine hm_run 11 25 (.pointer (some ⟨bt, 0, none⟩)) rfl rfl (by kernel_rfl) (by kernel_rfl) (by kernel_rfl) (fun _ _ _ h => h) rfl (fun _ _ => rfl) S0.out ?_
  try simp only [Act.put, List.getElem_toArray, List.getElem_cons_succ, List.getElem_cons_zero, List.setIfInBounds_toArray, List.set_cons_zero, List.set_cons_succ]
  refine hm_run 12 26 (.pointer (some ⟨bt, 0, none⟩)) rfl rfl (by kernel_rfl) (by kernel_rfl) (by kernel_rfl) (fun _ _ _ h => h) rfl (fun _ _ => rfl) S0.out ?_
  try simp only [Act.put, List.getElem_toArray, List.getElem_cons_succ, List.getElem_cons_zero, List.setIfInBounds_toArray, List.set_cons_zero, List.set_cons_succ]
  refine hm_run 13 27 (.pointer (some ⟨bt, 0, none⟩)) rfl rfl (by kernel_rfl) (by kernel_rfl) (by kernel_rfl) (fun _ _ _ h => h) rfl (fun _ _ => rfl) S0.out ?_
  try simp only [Act.put, List.getElem_toArray, List.getElem_cons_succ, List.getElem_cons_zero, List.setIfInBounds_toArray, List.set_cons_zero, List.set_cons_succ]
  refine hm_run 14 28 (.pointer (some ⟨bs, 0, none⟩)) rfl rfl (by kernel_rfl) (by kernel_rfl) (by kernel_rfl) (fun _ _ _ h => h) rfl (fun W hW => exec_load rfl (run_load_one Try.underlying51 rfl (cell_of_here hW.cT 0 rfl))) S0.out ?_
  try simp only [Act.put, List.getElem_toArray, List.getElem_cons_succ, List.getElem_cons_zero, List.setIfInBounds_toArray, List.set_cons_zero, List.set_cons_succ]
  refine hm_run 15 29 (.pointer (some ⟨bs, 0, none⟩)) rfl rfl (by kernel_rfl) (by kernel_rfl) (by kernel_rfl) (fun _ _ _ h => h) rfl (fun _ _ => rfl) S0.out ?_
  try simp only [Act.put, List.getElem_toArray, List.getElem_cons_succ, List.getElem_cons_zero, List.setIfInBounds_toArray, List.set_cons_zero, List.set_cons_succ]
  refine hm_run 16 30 (.pointer (some ⟨bs, 2, none⟩)) rfl rfl (by kernel_rfl) (by kernel_rfl) (by kernel_rfl) (fun _ _ _ h => h) rfl (fun _ _ => rfl) S0.out ?_
  try simp only [Act.put, List.getElem_toArray, List.getElem_cons_succ, List.getElem_cons_zero, List.setIfInBounds_toArray, List.set_cons_zero, List.set_cons_succ]
  refine hm_run 17 31 (.int .i64 r) rfl rfl (by kernel_rfl) (by kernel_rfl) (by kernel_rfl) (fun _ _ _ h => h) rfl (fun W hW => exec_load rfl (run_load_one Try.underlying3 rfl (cell_of_here hW.cS 2 rfl))) S0.out ?_
  try simp only [Act.put, List.getElem_toArray, List.getElem_cons_succ, List.getElem_cons_zero, List.setIfInBounds_toArray, List.set_cons_zero, List.set_cons_succ]
  refine hm_run 18 32 (.bool true) rfl rfl (by kernel_rfl) (by kernel_rfl) (by kernel_rfl) (fun _ _ _ h => h) rfl (fun _ _ => exec_gtri rfl rfl rfl HF.out) S0.out ?_
  try simp only [Act.put, List.getElem_toArray, List.getElem_cons_succ, List.getElem_cons_zero, List.setIfInBounds_toArray, List.set_cons_zero, List.set_cons_succ]
  refine wpAnyH_done (by kernel_rfl) ?_ _
  go_wp2
  go_ret
  exact ⟨rfl, TT.out.1, TT.out.2⟩

theorem app_ok (T : Hid (Tp D bt bs s r f k p g c xs w)) (hk : 0 ≤ k ∧ k ≤ 9223372036854775807) (hx : xs.length ≤ 140737488355328) (ho : bok f k = true) (hm : m ≤ 140737488355328) (R : Hid (Row w q h o m d y)) (hfr : 0 < m → some h ≠ ob p ∧ h ≠ bs) (hsum : xs.length + m ≤ 140737488355328) (hf : ((xs.length + m : Nat) : Int) ≤ r) : Calls Try.prog 14 #[.pointer (some ⟨bt, 0, none⟩), .slice q m d] w fun e w' => e = .returned (.int .i64 0) ∧ Turns D bt bs s r f (bk f k) p (xs ++ tl y m) w w' := by
  have HK := Lib.hid hk
  have HO := Lib.hid ho
  clear hk ho
  have HF := Lib.hid (show decide (r < ((xs.length + m : Nat) : Int)) = false by simp; omega)
  have HW := Lib.hid (show IntKind.i64.wrap (((xs.length : Nat) : Int) + ((m : Nat) : Int)) = ((xs.length + m : Nat) : Int) by rw [IntWalk.i64_in _ (by omega)]; omega)
  have HS := Lib.hid hsum
  have RF : Hid (∀ w', Fr bs (ob p) w w' → Row w' q h o m d y) := Lib.hid fun w' F => ⟨R.out.le, R.out.cap, R.out.nil, R.out.head, fun i hi => by
    have hc := R.out.cell i hi
    rw [World.cell?_of_block (w := w) (F.block h (cell_lt hc) (hfr (by omega)).2 (hfr (by omega)).1)]
    exact hc, R.out.byte⟩
  clear hx hm hf hfr hsum R
  have c0 := cell_of_here T.out.cT 0 (v := .pointer (some ⟨bs, 0, none⟩)) rfl
  go_enter Try.func14, Try.ntmps14
  go_upto_region 5 with (first
    | (go_at_call 27; refine (made_any T).mono ?_; rintro e w2 ⟨rfl, rfl⟩)
    | (go_at_call 33; refine (burn_any (ob p) T HK.out).mono ?_; rintro e w2 ⟨rfl, hT, hF⟩; rw [HO.out]; have T2 := Lib.hid hT; have F2 := Lib.hid hF; clear hT hF))
  refine wp_region_T (Φ := fun X => Tp D bt bs s r f (bk f k) p g c xs X ∧ Fr bs (ob p) w X) (S := fun X => Tp D bt bs s r f (bk f k) p g c xs X) (Lib.hid ⟨T2.out, F2.out⟩) (fun _ h => ⟨h.1.drew, h.2.drew⟩) (fun _ h => h.1) (by kernel_rfl) ?_
  intro w5 TT S0
  refine hm_run 0 14 (.pointer (some ⟨bt, 0, none⟩)) rfl rfl (by kernel_rfl) (by kernel_rfl) (by kernel_rfl) (fun _ _ _ h => h) rfl (fun _ _ => rfl) S0.out ?_
  try simp only [Act.put, List.getElem_toArray, List.getElem_cons_succ, List.getElem_cons_zero, List.setIfInBounds_toArray, List.set_cons_zero, List.set_cons_succ]
  refine hm_run 1 15 (.pointer (some ⟨bt, 0, none⟩)) rfl rfl (by kernel_rfl) (by kernel_rfl) (by kernel_rfl) (fun _ _ _ h => h) rfl (fun _ _ => rfl) S0.out ?_
  try simp only [Act.put, List.getElem_toArray, List.getElem_cons_succ, List.getElem_cons_zero, List.setIfInBounds_toArray, List.set_cons_zero, List.set_cons_succ]
  refine hm_run 2 16 (.pointer (some ⟨bt, 0, none⟩)) rfl rfl (by kernel_rfl) (by kernel_rfl) (by kernel_rfl) (fun _ _ _ h => h) rfl (fun _ _ => rfl) S0.out ?_
  try simp only [Act.put, List.getElem_toArray, List.getElem_cons_succ, List.getElem_cons_zero, List.setIfInBounds_toArray, List.set_cons_zero, List.set_cons_succ]
  refine hm_run 3 17 (.pointer (some ⟨bs, 0, none⟩)) rfl rfl (by kernel_rfl) (by kernel_rfl) (by kernel_rfl) (fun _ _ _ h => h) rfl (fun W hW => exec_load rfl (run_load_one Try.underlying51 rfl (cell_of_here hW.cT 0 rfl))) S0.out ?_
  try simp only [Act.put, List.getElem_toArray, List.getElem_cons_succ, List.getElem_cons_zero, List.setIfInBounds_toArray, List.set_cons_zero, List.set_cons_succ]
  refine hm_run 4 18 (.pointer (some ⟨bs, 0, none⟩)) rfl rfl (by kernel_rfl) (by kernel_rfl) (by kernel_rfl) (fun _ _ _ h => h) rfl (fun _ _ => rfl) S0.out ?_
  try simp only [Act.put, List.getElem_toArray, List.getElem_cons_succ, List.getElem_cons_zero, List.setIfInBounds_toArray, List.set_cons_zero, List.set_cons_succ]
  refine hm_run 5 19 (.pointer (some ⟨bs, 0, none⟩)) rfl rfl (by kernel_rfl) (by kernel_rfl) (by kernel_rfl) (fun _ _ _ h => h) rfl (fun _ _ => rfl) S0.out ?_
  try simp only [Act.put, List.getElem_toArray, List.getElem_cons_succ, List.getElem_cons_zero, List.setIfInBounds_toArray, List.set_cons_zero, List.set_cons_succ]
  refine hm_run 6 20 (.slice p xs.length c) rfl rfl (by kernel_rfl) (by kernel_rfl) (by kernel_rfl) (fun _ _ _ h => h) rfl (fun W hW => exec_load rfl (run_load_one Try.underlying22 rfl (cell_of_here hW.cS 0 rfl))) S0.out ?_
  try simp only [Act.put, List.getElem_toArray, List.getElem_cons_succ, List.getElem_cons_zero, List.setIfInBounds_toArray, List.set_cons_zero, List.set_cons_succ]
  refine hm_run 7 21 (.int .i64 ((xs.length : Nat) : Int)) rfl rfl (by kernel_rfl) (by kernel_rfl) (by kernel_rfl) (fun _ _ _ h => h) rfl (fun _ _ => exec_len Try.underlying22 rfl rfl) S0.out ?_
  try simp only [Act.put, List.getElem_toArray, List.getElem_cons_succ, List.getElem_cons_zero, List.setIfInBounds_toArray, List.set_cons_zero, List.set_cons_succ]
  refine hm_run 8 22 (.slice q m d) rfl rfl (by kernel_rfl) (by kernel_rfl) (by kernel_rfl) (fun _ _ _ h => h) rfl (fun _ _ => rfl) S0.out ?_
  try simp only [Act.put, List.getElem_toArray, List.getElem_cons_succ, List.getElem_cons_zero, List.setIfInBounds_toArray, List.set_cons_zero, List.set_cons_succ]
  refine hm_run 9 23 (.int .i64 ((m : Nat) : Int)) rfl rfl (by kernel_rfl) (by kernel_rfl) (by kernel_rfl) (fun _ _ _ h => h) rfl (fun _ _ => exec_len Try.underlying22 rfl rfl) S0.out ?_
  try simp only [Act.put, List.getElem_toArray, List.getElem_cons_succ, List.getElem_cons_zero, List.setIfInBounds_toArray, List.set_cons_zero, List.set_cons_succ]
  refine hm_run 10 24 (.int .i64 ((xs.length + m : Nat) : Int)) rfl rfl (by kernel_rfl) (by kernel_rfl) (by kernel_rfl) (fun _ _ _ h => h) rfl (fun _ _ => exec_add rfl rfl rfl HW.out) S0.out ?_
  try simp only [Act.put, List.getElem_toArray, List.getElem_cons_succ, List.getElem_cons_zero, List.setIfInBounds_toArray, List.set_cons_zero, List.set_cons_succ]
  refine hm_run 11 25 (.pointer (some ⟨bt, 0, none⟩)) rfl rfl (by kernel_rfl) (by kernel_rfl) (by kernel_rfl) (fun _ _ _ h => h) rfl (fun _ _ => rfl) S0.out ?_
  try simp only [Act.put, List.getElem_toArray, List.getElem_cons_succ, List.getElem_cons_zero, List.setIfInBounds_toArray, List.set_cons_zero, List.set_cons_succ]
  refine hm_run 12 26 (.pointer (some ⟨bt, 0, none⟩)) rfl rfl (by kernel_rfl) (by kernel_rfl) (by kernel_rfl) (fun _ _ _ h => h) rfl (fun _ _ => rfl) S0.out ?_
  try simp only [Act.put, List.getElem_toArray, List.getElem_cons_succ, List.getElem_cons_zero, List.setIfInBounds_toArray, List.set_cons_zero, List.set_cons_succ]
  refine hm_run 13 27 (.pointer (some ⟨bt, 0, none⟩)) rfl rfl (by kernel_rfl) (by kernel_rfl) (by kernel_rfl) (fun _ _ _ h => h) rfl (fun _ _ => rfl) S0.out ?_
  try simp only [Act.put, List.getElem_toArray, List.getElem_cons_succ, List.getElem_cons_zero, List.setIfInBounds_toArray, List.set_cons_zero, List.set_cons_succ]
  refine hm_run 14 28 (.pointer (some ⟨bs, 0, none⟩)) rfl rfl (by kernel_rfl) (by kernel_rfl) (by kernel_rfl) (fun _ _ _ h => h) rfl (fun W hW => exec_load rfl (run_load_one Try.underlying51 rfl (cell_of_here hW.cT 0 rfl))) S0.out ?_
  try simp only [Act.put, List.getElem_toArray, List.getElem_cons_succ, List.getElem_cons_zero, List.setIfInBounds_toArray, List.set_cons_zero, List.set_cons_succ]
  refine hm_run 15 29 (.pointer (some ⟨bs, 0, none⟩)) rfl rfl (by kernel_rfl) (by kernel_rfl) (by kernel_rfl) (fun _ _ _ h => h) rfl (fun _ _ => rfl) S0.out ?_
  try simp only [Act.put, List.getElem_toArray, List.getElem_cons_succ, List.getElem_cons_zero, List.setIfInBounds_toArray, List.set_cons_zero, List.set_cons_succ]
  refine hm_run 16 30 (.pointer (some ⟨bs, 2, none⟩)) rfl rfl (by kernel_rfl) (by kernel_rfl) (by kernel_rfl) (fun _ _ _ h => h) rfl (fun _ _ => rfl) S0.out ?_
  try simp only [Act.put, List.getElem_toArray, List.getElem_cons_succ, List.getElem_cons_zero, List.setIfInBounds_toArray, List.set_cons_zero, List.set_cons_succ]
  refine hm_run 17 31 (.int .i64 r) rfl rfl (by kernel_rfl) (by kernel_rfl) (by kernel_rfl) (fun _ _ _ h => h) rfl (fun W hW => exec_load rfl (run_load_one Try.underlying3 rfl (cell_of_here hW.cS 2 rfl))) S0.out ?_
  try simp only [Act.put, List.getElem_toArray, List.getElem_cons_succ, List.getElem_cons_zero, List.setIfInBounds_toArray, List.set_cons_zero, List.set_cons_succ]
  refine hm_run 18 32 (.bool false) rfl rfl (by kernel_rfl) (by kernel_rfl) (by kernel_rfl) (fun _ _ _ h => h) rfl (fun _ _ => exec_gtri rfl rfl rfl HF.out) S0.out ?_
  try simp only [Act.put, List.getElem_toArray, List.getElem_cons_succ, List.getElem_cons_zero, List.setIfInBounds_toArray, List.set_cons_zero, List.set_cons_succ]
  refine wpAnyH_done (by kernel_rfl) ?_ _
  go_upto_region 7 with fail
  have T2 := Lib.hid TT.out.1
  have F2 := Lib.hid TT.out.2
  clear TT S0
  refine wp_region_T (Φ := fun X => Tp D bt bs s r f (bk f k) p g c xs X ∧ Fr bs (ob p) w X) (S := fun X => X.heap[bt]? = some (.cells #[.pointer (some ⟨bs, 0, none⟩)] 53 (0, 0))) (Lib.hid ⟨T2.out, F2.out⟩) (fun _ h => ⟨h.1.drew, h.2.drew⟩) (fun _ h => h.1.cT) (by kernel_rfl) ?_
  intro w5 TT S0
  refine hm_run 0 33 (.pointer (some ⟨bt, 0, none⟩)) rfl rfl (by kernel_rfl) (by kernel_rfl) (by kernel_rfl) (fun _ _ _ h => h) rfl (fun _ _ => rfl) S0.out ?_
  try simp only [Act.put, List.getElem_toArray, List.getElem_cons_succ, List.getElem_cons_zero, List.setIfInBounds_toArray, List.set_cons_zero, List.set_cons_succ]
  refine hm_run 1 34 (.pointer (some ⟨bt, 0, none⟩)) rfl rfl (by kernel_rfl) (by kernel_rfl) (by kernel_rfl) (fun _ _ _ h => h) rfl (fun _ _ => rfl) S0.out ?_
  try simp only [Act.put, List.getElem_toArray, List.getElem_cons_succ, List.getElem_cons_zero, List.setIfInBounds_toArray, List.set_cons_zero, List.set_cons_succ]
  refine hm_run 2 35 (.pointer (some ⟨bt, 0, none⟩)) rfl rfl (by kernel_rfl) (by kernel_rfl) (by kernel_rfl) (fun _ _ _ h => h) rfl (fun _ _ => rfl) S0.out ?_
  try simp only [Act.put, List.getElem_toArray, List.getElem_cons_succ, List.getElem_cons_zero, List.setIfInBounds_toArray, List.set_cons_zero, List.set_cons_succ]
  refine hm_run 3 36 (.pointer (some ⟨bs, 0, none⟩)) rfl rfl (by kernel_rfl) (by kernel_rfl) (by kernel_rfl) (fun _ _ _ h => h) rfl (fun W hW => exec_load rfl (run_load_one Try.underlying51 rfl (cell_of_here hW 0 rfl))) S0.out ?_
  try simp only [Act.put, List.getElem_toArray, List.getElem_cons_succ, List.getElem_cons_zero, List.setIfInBounds_toArray, List.set_cons_zero, List.set_cons_succ]
  refine hm_run 4 37 (.pointer (some ⟨bt, 0, none⟩)) rfl rfl (by kernel_rfl) (by kernel_rfl) (by kernel_rfl) (fun _ _ _ h => h) rfl (fun _ _ => rfl) S0.out ?_
  try simp only [Act.put, List.getElem_toArray, List.getElem_cons_succ, List.getElem_cons_zero, List.setIfInBounds_toArray, List.set_cons_zero, List.set_cons_succ]
  refine hm_run 5 38 (.pointer (some ⟨bt, 0, none⟩)) rfl rfl (by kernel_rfl) (by kernel_rfl) (by kernel_rfl) (fun _ _ _ h => h) rfl (fun _ _ => rfl) S0.out ?_
  try simp only [Act.put, List.getElem_toArray, List.getElem_cons_succ, List.getElem_cons_zero, List.setIfInBounds_toArray, List.set_cons_zero, List.set_cons_succ]
  refine hm_run 6 39 (.pointer (some ⟨bt, 0, none⟩)) rfl rfl (by kernel_rfl) (by kernel_rfl) (by kernel_rfl) (fun _ _ _ h => h) rfl (fun _ _ => rfl) S0.out ?_
  try simp only [Act.put, List.getElem_toArray, List.getElem_cons_succ, List.getElem_cons_zero, List.setIfInBounds_toArray, List.set_cons_zero, List.set_cons_succ]
  refine hm_run 7 40 (.pointer (some ⟨bs, 0, none⟩)) rfl rfl (by kernel_rfl) (by kernel_rfl) (by kernel_rfl) (fun _ _ _ h => h) rfl (fun W hW => exec_load rfl (run_load_one Try.underlying51 rfl (cell_of_here hW 0 rfl))) S0.out ?_
  try simp only [Act.put, List.getElem_toArray, List.getElem_cons_succ, List.getElem_cons_zero, List.setIfInBounds_toArray, List.set_cons_zero, List.set_cons_succ]
  refine hm_run 8 41 (.pointer (some ⟨bs, 0, none⟩)) rfl rfl (by kernel_rfl) (by kernel_rfl) (by kernel_rfl) (fun _ _ _ h => h) rfl (fun _ _ => rfl) S0.out ?_
  try simp only [Act.put, List.getElem_toArray, List.getElem_cons_succ, List.getElem_cons_zero, List.setIfInBounds_toArray, List.set_cons_zero, List.set_cons_succ]
  refine hm_run 9 42 (.pointer (some ⟨bs, 0, none⟩)) rfl rfl (by kernel_rfl) (by kernel_rfl) (by kernel_rfl) (fun _ _ _ h => h) rfl (fun _ _ => rfl) S0.out ?_
  try simp only [Act.put, List.getElem_toArray, List.getElem_cons_succ, List.getElem_cons_zero, List.setIfInBounds_toArray, List.set_cons_zero, List.set_cons_succ]
  refine hm_run 11 44 (.slice q m d) rfl rfl (by kernel_rfl) (by kernel_rfl) (by kernel_rfl) (fun _ _ _ h => h) rfl (fun _ _ => rfl) S0.out ?_
  try simp only [Act.put, List.getElem_toArray, List.getElem_cons_succ, List.getElem_cons_zero, List.setIfInBounds_toArray, List.set_cons_zero, List.set_cons_succ]
  refine hm_one (i := 10) (by kernel_rfl) ?_
  refine hm_step 10 rfl (by kernel_rfl) fun K hK => ?_
  try simp only [Act.put, List.getElem_toArray, List.getElem_cons_succ, List.getElem_cons_zero, List.setIfInBounds_toArray, List.set_cons_zero, List.set_cons_succ]
  refine mo_load_cell (Lib.hid TT.out.1.mem) 22 (.tmp 42) rfl rfl (List.mem_cons_of_mem _ List.mem_cons_self) Try.underlying22 rfl (v := .slice p xs.length c) rfl ?_
  have S10_11 := S0
  refine hK _ _ S10_11.out ?_
  clear hK K
  try simp only [Act.put, List.getElem_toArray, List.getElem_cons_succ, List.getElem_cons_zero, List.setIfInBounds_toArray, List.set_cons_zero, List.set_cons_succ]
  refine hm_one (i := 12) (by kernel_rfl) ?_
  refine hm_step 12 rfl (by kernel_rfl) fun K hK => ?_
  try simp only [Act.put, List.getElem_toArray, List.getElem_cons_succ, List.getElem_cons_zero, List.setIfInBounds_toArray, List.set_cons_zero, List.set_cons_succ]
  refine mo_wbl (.tmp 43) (.tmp 44) rfl (Lib.hid TT.out.1) rfl rfl rfl (Lib.hid (RF.out _ TT.out.2)) HS.out ?_
  intro p6 g6 c6 w6 zs Z6 K6 G6 L6
  have T6 : Hid (Tq D bt bs (.slice p xs.length c) s r f (bk f k) p6 g6 c6 zs w6) := K6
  have F6 := Lib.hid (TT.out.2.same (Fr.grown G6.out))
  have L7 : Hid (Lies w (ob p) (ob p6)) := Lib.hid (fun j e => (L6.out j e).imp id fun q => Nat.le_trans TT.out.2.size q)
  have S12_12 := Lib.hid T6.out.cT
  refine hK _ _ S12_12.out ?_
  clear hK K
  try simp only [Act.put, List.getElem_toArray, List.getElem_cons_succ, List.getElem_cons_zero, List.setIfInBounds_toArray, List.set_cons_zero, List.set_cons_succ]
  refine hm_run 13 46 (.pointer (some ⟨bs, 0, none⟩)) rfl rfl (by kernel_rfl) (by kernel_rfl) (by kernel_rfl) (fun _ _ _ h => h) rfl (fun _ _ => rfl) S12_12.out ?_
  try simp only [Act.put, List.getElem_toArray, List.getElem_cons_succ, List.getElem_cons_zero, List.setIfInBounds_toArray, List.set_cons_zero, List.set_cons_succ]
  refine hm_run 14 47 (.pointer (some ⟨bs, 0, none⟩)) rfl rfl (by kernel_rfl) (by kernel_rfl) (by kernel_rfl) (fun _ _ _ h => h) rfl (fun _ _ => rfl) S12_12.out ?_
  try simp only [Act.put, List.getElem_toArray, List.getElem_cons_succ, List.getElem_cons_zero, List.setIfInBounds_toArray, List.set_cons_zero, List.set_cons_succ]
  refine hm_one (i := 15) (by kernel_rfl) ?_
  refine hm_step 15 rfl (by kernel_rfl) fun K hK => ?_
  try simp only [Act.put, List.getElem_toArray, List.getElem_cons_succ, List.getElem_cons_zero, List.setIfInBounds_toArray, List.set_cons_zero, List.set_cons_succ]
  refine mo_setc (v := .slice p6 zs.length c6) T6.out.cS 22 (.tmp 47) (.tmp 45) rfl rfl rfl (by kernel_rfl) rfl rfl rfl ?_
  have T8 := Lib.hid (T6.out.set0 (u := .slice p6 zs.length c6))
  have S15_15 := Lib.hid T8.out.cT
  refine hK _ _ S15_15.out ?_
  clear hK K
  try simp only [Act.put, List.getElem_toArray, List.getElem_cons_succ, List.getElem_cons_zero, List.setIfInBounds_toArray, List.set_cons_zero, List.set_cons_succ]
  refine wpAnyH_done (by kernel_rfl) ?_ _
  go_wp2
  go_ret
  refine ⟨rfl, p6, g6, c6, ?_, F6.out.set _ _, L7.out⟩
  rw [← Z6.out]
  exact T8.out

theorem fuse_bad (T : Hid (Tp D bt bs s r f k p g c xs w)) (n : Int) (hn : n < 0) : Calls Try.prog 23 #[.pointer (some ⟨bt, 0, none⟩), .int .i64 n] w fun e w' => e = .returned (.int .i64 1) ∧ w = w' := by
  go_enter Try.func23, Try.ntmps23
  go_wp2_with (go_at_call 27; refine (made_any T).mono ?_; rintro e w2 ⟨rfl, rfl⟩)
  go_ret
  exact ⟨rfl, rfl⟩
theorem fuse_ok (T : Hid (Tp D bt bs s r f k p g c xs w)) (n : Int) (hn : 0 ≤ n) : Calls Try.prog 23 #[.pointer (some ⟨bt, 0, none⟩), .int .i64 n] w fun e w' => e = .returned (.int .i64 0) ∧ Tp D bt bs s r true n p g c xs w' ∧ Fr bs (ob p) w w' := by
  have h1 : ¬ (n < 0) := by omega
  clear hn
  go_enter Try.func23, Try.ntmps23
  go_upto_region 5 with (go_at_call 27; refine (made_any T).mono ?_; rintro e w2 ⟨rfl, rfl⟩)
  have T2 := T
  refine wp_region_T (Φ := fun X => Tp D bt bs s r f k p g c xs X ∧ Fr bs (ob p) w X) (S := fun X => X.heap[bt]? = some (.cells #[.pointer (some ⟨bs, 0, none⟩)] 53 (0, 0))) (Lib.hid ⟨T2.out, Fr.refl _ _ _⟩) (fun _ h => ⟨h.1.drew, h.2.drew⟩) (fun _ h => h.1.cT) (by kernel_rfl) ?_
  intro w5 TT S0
  refine hm_run 0 10 (.pointer (some ⟨bt, 0, none⟩)) rfl rfl (by kernel_rfl) (by kernel_rfl) (by kernel_rfl) (fun _ _ _ h => h) rfl (fun _ _ => rfl) S0.out ?_
  try simp only [Act.put, List.getElem_toArray, List.getElem_cons_succ, List.getElem_cons_zero, List.setIfInBounds_toArray, List.set_cons_zero, List.set_cons_succ]
  refine hm_run 1 11 (.pointer (some ⟨bt, 0, none⟩)) rfl rfl (by kernel_rfl) (by kernel_rfl) (by kernel_rfl) (fun _ _ _ h => h) rfl (fun _ _ => rfl) S0.out ?_
  try simp only [Act.put, List.getElem_toArray, List.getElem_cons_succ, List.getElem_cons_zero, List.setIfInBounds_toArray, List.set_cons_zero, List.set_cons_succ]
  refine hm_run 2 12 (.pointer (some ⟨bt, 0, none⟩)) rfl rfl (by kernel_rfl) (by kernel_rfl) (by kernel_rfl) (fun _ _ _ h => h) rfl (fun _ _ => rfl) S0.out ?_
  try simp only [Act.put, List.getElem_toArray, List.getElem_cons_succ, List.getElem_cons_zero, List.setIfInBounds_toArray, List.set_cons_zero, List.set_cons_succ]
  refine hm_run 3 13 (.pointer (some ⟨bs, 0, none⟩)) rfl rfl (by kernel_rfl) (by kernel_rfl) (by kernel_rfl) (fun _ _ _ h => h) rfl (fun W hW => exec_load rfl (run_load_one Try.underlying51 rfl (cell_of_here hW 0 rfl))) S0.out ?_
  try simp only [Act.put, List.getElem_toArray, List.getElem_cons_succ, List.getElem_cons_zero, List.setIfInBounds_toArray, List.set_cons_zero, List.set_cons_succ]
  refine hm_run 4 14 (.pointer (some ⟨bt, 0, none⟩)) rfl rfl (by kernel_rfl) (by kernel_rfl) (by kernel_rfl) (fun _ _ _ h => h) rfl (fun _ _ => rfl) S0.out ?_
  try simp only [Act.put, List.getElem_toArray, List.getElem_cons_succ, List.getElem_cons_zero, List.setIfInBounds_toArray, List.set_cons_zero, List.set_cons_succ]
  refine hm_run 5 15 (.pointer (some ⟨bt, 0, none⟩)) rfl rfl (by kernel_rfl) (by kernel_rfl) (by kernel_rfl) (fun _ _ _ h => h) rfl (fun _ _ => rfl) S0.out ?_
  try simp only [Act.put, List.getElem_toArray, List.getElem_cons_succ, List.getElem_cons_zero, List.setIfInBounds_toArray, List.set_cons_zero, List.set_cons_succ]
  refine hm_run 6 16 (.pointer (some ⟨bt, 0, none⟩)) rfl rfl (by kernel_rfl) (by kernel_rfl) (by kernel_rfl) (fun _ _ _ h => h) rfl (fun _ _ => rfl) S0.out ?_
  try simp only [Act.put, List.getElem_toArray, List.getElem_cons_succ, List.getElem_cons_zero, List.setIfInBounds_toArray, List.set_cons_zero, List.set_cons_succ]
  refine hm_run 7 17 (.pointer (some ⟨bs, 0, none⟩)) rfl rfl (by kernel_rfl) (by kernel_rfl) (by kernel_rfl) (fun _ _ _ h => h) rfl (fun W hW => exec_load rfl (run_load_one Try.underlying51 rfl (cell_of_here hW 0 rfl))) S0.out ?_
  try simp only [Act.put, List.getElem_toArray, List.getElem_cons_succ, List.getElem_cons_zero, List.setIfInBounds_toArray, List.set_cons_zero, List.set_cons_succ]
  refine hm_run 8 18 (.int .i64 n) rfl rfl (by kernel_rfl) (by kernel_rfl) (by kernel_rfl) (fun _ _ _ h => h) rfl (fun _ _ => rfl) S0.out ?_
  try simp only [Act.put, List.getElem_toArray, List.getElem_cons_succ, List.getElem_cons_zero, List.setIfInBounds_toArray, List.set_cons_zero, List.set_cons_succ]
  refine hm_run 9 19 (.pointer (some ⟨bs, 0, none⟩)) rfl rfl (by kernel_rfl) (by kernel_rfl) (by kernel_rfl) (fun _ _ _ h => h) rfl (fun _ _ => rfl) S0.out ?_
  try simp only [Act.put, List.getElem_toArray, List.getElem_cons_succ, List.getElem_cons_zero, List.setIfInBounds_toArray, List.set_cons_zero, List.set_cons_succ]
  refine hm_run 10 20 (.pointer (some ⟨bs, 3, none⟩)) rfl rfl (by kernel_rfl) (by kernel_rfl) (by kernel_rfl) (fun _ _ _ h => h) rfl (fun _ _ => rfl) S0.out ?_
  try simp only [Act.put, List.getElem_toArray, List.getElem_cons_succ, List.getElem_cons_zero, List.setIfInBounds_toArray, List.set_cons_zero, List.set_cons_succ]
  refine hm_one (i := 11) (by kernel_rfl) ?_
  refine hm_step 11 rfl (by kernel_rfl) fun K hK => ?_
  try simp only [Act.put, List.getElem_toArray, List.getElem_cons_succ, List.getElem_cons_zero, List.setIfInBounds_toArray, List.set_cons_zero, List.set_cons_succ]
  refine mo_setc (v := .bool true) TT.out.1.cS 4 (.tmp 20) _ rfl rfl rfl (by kernel_rfl) rfl rfl rfl ?_
  have T6 := Lib.hid (TT.out.1.set3 (y := true))
  have S11_11 := Lib.hid T6.out.cT
  refine hK _ _ S11_11.out ?_
  clear hK K
  try simp only [Act.put, List.getElem_toArray, List.getElem_cons_succ, List.getElem_cons_zero, List.setIfInBounds_toArray, List.set_cons_zero, List.set_cons_succ]
  refine hm_run 12 21 (.pointer (some ⟨bs, 0, none⟩)) rfl rfl (by kernel_rfl) (by kernel_rfl) (by kernel_rfl) (fun _ _ _ h => h) rfl (fun _ _ => rfl) S11_11.out ?_
  try simp only [Act.put, List.getElem_toArray, List.getElem_cons_succ, List.getElem_cons_zero, List.setIfInBounds_toArray, List.set_cons_zero, List.set_cons_succ]
  refine hm_run 13 22 (.pointer (some ⟨bs, 4, none⟩)) rfl rfl (by kernel_rfl) (by kernel_rfl) (by kernel_rfl) (fun _ _ _ h => h) rfl (fun _ _ => rfl) S11_11.out ?_
  try simp only [Act.put, List.getElem_toArray, List.getElem_cons_succ, List.getElem_cons_zero, List.setIfInBounds_toArray, List.set_cons_zero, List.set_cons_succ]
  refine hm_one (i := 14) (by kernel_rfl) ?_
  refine hm_step 14 rfl (by kernel_rfl) fun K hK => ?_
  try simp only [Act.put, List.getElem_toArray, List.getElem_cons_succ, List.getElem_cons_zero, List.setIfInBounds_toArray, List.set_cons_zero, List.set_cons_succ]
  refine mo_setc (v := .int .i64 n) T6.out.cS 3 (.tmp 22) (.tmp 18) rfl rfl rfl (by kernel_rfl) rfl rfl rfl ?_
  have T7 := Lib.hid (T6.out.set4 (x := n))
  have S14_14 := Lib.hid T7.out.cT
  refine hK _ _ S14_14.out ?_
  clear hK K
  try simp only [Act.put, List.getElem_toArray, List.getElem_cons_succ, List.getElem_cons_zero, List.setIfInBounds_toArray, List.set_cons_zero, List.set_cons_succ]
  refine wpAnyH_done (by kernel_rfl) ?_ _
  go_wp2
  go_ret
  exact ⟨rfl, T7.out, (TT.out.2.set _ _).set _ _⟩

end
end Go.Proofs.Ytlbbnaihhagfdaa
