/- For every two slices of bytes and every number: what was appended and synced stays behind a crash, and so many bytes more, the first ones, of what was appended and not synced; the call returns true. No condition. -/
import Derived.Test.YtlbbnaihhagfdaaTx8
import Derived.Test.YtlbbnaihhagfdaaOp
import Derived.ShutString
import Derived.ChangeOld
import Derived.Below
import Derived.SizedLaws
set_option linter.unusedVariables false
set_option linter.unusedSimpArgs false
namespace Go.Proofs.Ytlbbnaihhagfdaa.tapeStays
open Go.ChangeShapes Go.WideShapes Go.ChangeAt Go.RowKit Go.Lib Go.Sort Go.Proofs.Ytlbbnaihhagfdaa

set_option maxRecDepth 100000
theorem exec_eqli {o : Oper} {ev : Operand → Value} {W : World} {x y : Operand} {a b : Int} {q : Bool} (ho : o.op = .binOp .eql 3 x y 3) (hx : ev x = .int .i64 a) (hy : ev y = .int .i64 b) (hq : decide (a = b) = q) : (execOp ev o).run Try.prog W = .ok (.value (.bool q)) W := by
  subst hq
  unfold execOp
  by_cases h : a = b
  · subst h
    simp [ho, hx, hy, go_sem, Try.underlying3]
  · simp [ho, hx, hy, go_sem, Try.underlying3, h]
theorem below_drew (w : World) : Below w.heap.size w w.drew := ⟨rfl, rfl, rfl, Nat.le_refl _, fun _ _ => rfl⟩
theorem tl_take (x : Nat → Nat) {m n : Nat} (h : m ≤ n) : (tl x n).take m = tl x m := by
  unfold tl
  rw [← List.map_take, List.take_range, Nat.min_eq_left h]
theorem bok_no : bok false 0 = true := rfl
theorem bk_no : bk false 0 = 0 := rfl
set_option maxHeartbeats 8000000 in
theorem walk (W : World) (a0 : Option Addr) (g0 o0 n0 c0 : Nat) (x0 : Nat → Nat) (w0 : Row W a0 g0 o0 n0 c0 x0) (m0 : c0 ≤ 140737488351232) (a1 : Option Addr) (g1 o1 n1 c1 : Nat) (x1 : Nat → Nat) (w1 : Row W a1 g1 o1 n1 c1 x1) (m1 : c1 ≤ 140737488351232) (keep : Int) (wk : (Lit.int .i64 keep).wf = true) :
    Calls Try.prog 4 #[.slice a0 n0 c0, .slice a1 n1 c1, .int .i64 keep] W fun e w' => e = .returned (.bool true) ∧ Below W.heap.size W w' := by
  have hk := int_range wk
  clear wk
  obtain ⟨na, hna⟩ : ∃ na, na = min n0 1000 := ⟨_, rfl⟩
  obtain ⟨nb, hnb⟩ : ∃ nb, nb = min n1 1000 := ⟨_, rfl⟩
  have ra : na ≤ n0 := by omega
  have rb : nb ≤ n1 := by omega
  have SA := Lib.hid (fun W' => run_sl_take (w := W') ra w0.le (fun h => (w0.nil h).2))
  have SB := Lib.hid (fun W' => run_sl_take (w := W') rb w1.le (fun h => (w1.nil h).2))
  have RA := Lib.hid (w0.less ra)
  have RB := Lib.hid (w1.less rb)
  have MA := Lib.hid (show min ((n0 : Nat) : Int) 1000 = ((na : Nat) : Int) by omega)
  have MB := Lib.hid (show min ((n1 : Nat) : Int) 1000 = ((nb : Nat) : Int) by omega)
  have LA := Lib.hid (show na ≤ 1000 by omega)
  have LB := Lib.hid (show nb ≤ 1000 by omega)
  obtain ⟨kp, hkp⟩ : ∃ kp : Nat, ((kp : Nat) : Int) = min (max keep 0) ((nb : Nat) : Int) := ⟨(min (max keep 0) ((nb : Nat) : Int)).toNat, by omega⟩
  have KP := Lib.hid hkp
  have SC := Lib.hid (fun W' => run_sl_take (w := W') (p := a1) (show kp ≤ nb by omega) (show nb ≤ c1 by have := w1.le; omega) (fun h => (w1.nil h).2))
  have HW := Lib.hid (show IntKind.i64.wrap (((na : Nat) : Int) + ((kp : Nat) : Int)) = ((na + kp : Nat) : Int) by rw [IntWalk.i64_in _ (by omega)]; omega)
  have KB := Lib.hid (show kp ≤ nb by omega)
  have HK := Lib.hid hk
  clear hna hnb ra rb w0 w1 m0 m1 hkp hk
  have EW := Lib.hid (Mem.nil W)
  go_enter Try.func4, Try.ntmps4
  go_upto_region 1 with fail
  refine wp_region_T (Φ := fun X => Mem W [] X) (S := fun _ => True) (Lib.hid EW.out) (fun _ h => h.drew) (fun _ _ => trivial) (by kernel_rfl) ?_
  clear EW
  intro w1 TT S0
  refine hm_run 0 10 (.slice a0 n0 c0) rfl rfl (by kernel_rfl) (by kernel_rfl) (by kernel_rfl) (fun _ _ _ h => h) rfl (fun _ _ => rfl) S0.out ?_
  try simp only [Act.put, List.getElem_toArray, List.getElem_cons_succ, List.getElem_cons_zero, List.setIfInBounds_toArray, List.set_cons_zero, List.set_cons_succ]
  refine hm_run 1 11 (.slice a0 n0 c0) rfl rfl (by kernel_rfl) (by kernel_rfl) (by kernel_rfl) (fun _ _ _ h => h) rfl (fun _ _ => rfl) S0.out ?_
  try simp only [Act.put, List.getElem_toArray, List.getElem_cons_succ, List.getElem_cons_zero, List.setIfInBounds_toArray, List.set_cons_zero, List.set_cons_succ]
  refine hm_run 2 12 (.int .i64 ((n0 : Nat) : Int)) rfl rfl (by kernel_rfl) (by kernel_rfl) (by kernel_rfl) (fun _ _ _ h => h) rfl (fun _ _ => exec_len Try.underlying22 rfl rfl) S0.out ?_
  try simp only [Act.put, List.getElem_toArray, List.getElem_cons_succ, List.getElem_cons_zero, List.setIfInBounds_toArray, List.set_cons_zero, List.set_cons_succ]
  refine hm_run 3 13 (.int .i64 (na : Int)) rfl rfl (by kernel_rfl) (by kernel_rfl) (by kernel_rfl) (fun _ _ _ h => h) rfl (fun _ _ => exec_mini rfl rfl rfl rfl MA.out) S0.out ?_
  try simp only [Act.put, List.getElem_toArray, List.getElem_cons_succ, List.getElem_cons_zero, List.setIfInBounds_toArray, List.set_cons_zero, List.set_cons_succ]
  refine hm_run 4 14 (.slice a0 na c0) rfl rfl (by kernel_rfl) (by kernel_rfl) (by kernel_rfl) (fun _ _ _ h => h) rfl (fun _ _ => exec_sl rfl (SA.out _)) S0.out ?_
  try simp only [Act.put, List.getElem_toArray, List.getElem_cons_succ, List.getElem_cons_zero, List.setIfInBounds_toArray, List.set_cons_zero, List.set_cons_succ]
  refine hm_run 5 15 (.slice a1 n1 c1) rfl rfl (by kernel_rfl) (by kernel_rfl) (by kernel_rfl) (fun _ _ _ h => h) rfl (fun _ _ => rfl) S0.out ?_
  try simp only [Act.put, List.getElem_toArray, List.getElem_cons_succ, List.getElem_cons_zero, List.setIfInBounds_toArray, List.set_cons_zero, List.set_cons_succ]
  refine hm_run 6 16 (.slice a1 n1 c1) rfl rfl (by kernel_rfl) (by kernel_rfl) (by kernel_rfl) (fun _ _ _ h => h) rfl (fun _ _ => rfl) S0.out ?_
  try simp only [Act.put, List.getElem_toArray, List.getElem_cons_succ, List.getElem_cons_zero, List.setIfInBounds_toArray, List.set_cons_zero, List.set_cons_succ]
  refine hm_run 7 17 (.int .i64 ((n1 : Nat) : Int)) rfl rfl (by kernel_rfl) (by kernel_rfl) (by kernel_rfl) (fun _ _ _ h => h) rfl (fun _ _ => exec_len Try.underlying22 rfl rfl) S0.out ?_
  try simp only [Act.put, List.getElem_toArray, List.getElem_cons_succ, List.getElem_cons_zero, List.setIfInBounds_toArray, List.set_cons_zero, List.set_cons_succ]
  refine hm_run 8 18 (.int .i64 (nb : Int)) rfl rfl (by kernel_rfl) (by kernel_rfl) (by kernel_rfl) (fun _ _ _ h => h) rfl (fun _ _ => exec_mini rfl rfl rfl rfl MB.out) S0.out ?_
  try simp only [Act.put, List.getElem_toArray, List.getElem_cons_succ, List.getElem_cons_zero, List.setIfInBounds_toArray, List.set_cons_zero, List.set_cons_succ]
  refine hm_run 9 19 (.slice a1 nb c1) rfl rfl (by kernel_rfl) (by kernel_rfl) (by kernel_rfl) (fun _ _ _ h => h) rfl (fun _ _ => exec_sl rfl (SB.out _)) S0.out ?_
  try simp only [Act.put, List.getElem_toArray, List.getElem_cons_succ, List.getElem_cons_zero, List.setIfInBounds_toArray, List.set_cons_zero, List.set_cons_succ]
  refine hm_run 10 0 (.slice a0 na c0) rfl rfl (by kernel_rfl) (by kernel_rfl) (by kernel_rfl) (fun _ _ _ h => h) rfl (fun _ _ => rfl) S0.out ?_
  try simp only [Act.put, List.getElem_toArray, List.getElem_cons_succ, List.getElem_cons_zero, List.setIfInBounds_toArray, List.set_cons_zero, List.set_cons_succ]
  refine hm_run 11 1 (.slice a1 nb c1) rfl rfl (by kernel_rfl) (by kernel_rfl) (by kernel_rfl) (fun _ _ _ h => h) rfl (fun _ _ => rfl) S0.out ?_
  try simp only [Act.put, List.getElem_toArray, List.getElem_cons_succ, List.getElem_cons_zero, List.setIfInBounds_toArray, List.set_cons_zero, List.set_cons_succ]
  refine wpAnyH_done (by kernel_rfl) ?_ _
  clear S0 SA MA MB SB
  go_upto_region 3 with (go_at_call 16; refine (new_ok 4000 (by omega)).mono ?_; rintro e w2 ⟨v, rfl, hM⟩; obtain ⟨bt, bs, p, g, c, rfl, hT, hb⟩ := hM; have T0 := Lib.hid hT; have B0 := Lib.hid hb; clear hT hb)
  have T1 := Lib.hid (T0.out.mono TT.out.below)
  clear T0 B0 TT
  have X0 := Lib.hid (tl_length x0 na)
  have X1 := Lib.hid (tl_length x1 nb)
  obtain ⟨ys, hys⟩ : ∃ ys, ys = tl x0 na ++ tl x1 nb := ⟨_, rfl⟩
  have Y := Lib.hid (show ys.length = na + nb by rw [hys, List.length_append, tl_length, tl_length])
  have YS := Lib.hid hys
  obtain ⟨zs, hzs⟩ : ∃ zs, zs = ys.take (na + kp) := ⟨_, rfl⟩
  have Z := Lib.hid (show zs = tl x0 na ++ tl x1 kp by
    rw [hzs, hys, List.take_append, tl_length, List.take_of_length_le (by rw [tl_length]; omega), show na + kp - na = kp by omega, tl_take _ KB.out])
  have ZL := Lib.hid (show zs.length = na + kp by rw [Z.out, List.length_append, tl_length, tl_length])
  have ZS := Lib.hid hzs.symm
  obtain ⟨mx, hmx⟩ : ∃ mx, max keep 0 = mx := ⟨_, rfl⟩
  have MX := Lib.hid hmx
  have MN := Lib.hid (show min mx ((nb : Nat) : Int) = ((kp : Nat) : Int) by rw [← hmx]; exact KP.out.symm)
  have KK := Lib.hid (show ((na + kp : Nat) : Int) = ((na : Nat) : Int) + min (max keep 0) (((ys.length : Nat) : Int) - ((na : Nat) : Int)) by
    rw [Y.out, show (((na + nb : Nat) : Int) - ((na : Nat) : Int)) = ((nb : Nat) : Int) by omega, ← KP.out]; omega)
  clear hys hzs hmx
  go_upto_region 6 with (first
    | (go_at_call 14; refine (app_ok T1 (by omega) (by simp) bok_no (by have := LA.out; omega) (Lib.hid (RA.out.below T1.out.under0)) (fun h => T1.out.apart RA.out h) (by have := LA.out; simp; omega) (by have := LA.out; simp; omega)).mono ?_; rintro e w3 ⟨rfl, hT⟩; obtain ⟨p3, g3, c3, hT, hF, hL⟩ := hT; rw [bk_no, List.nil_append] at hT; have T2 := Lib.hid hT; clear hT hF hL T1)
    | (go_at_call 17; refine (sync_ok T2 (by omega) bok_no).mono ?_; rintro e w4 ⟨rfl, hT, hF⟩; rw [bk_no, X0.out] at hT; have T3 := Lib.hid hT; clear hT hF T2)
    | (go_at_call 14; refine (app_ok T3 (by omega) (by rw [X0.out]; have := LA.out; omega) bok_no (by have := LB.out; omega) (Lib.hid (RB.out.below T3.out.under0)) (fun h => T3.out.apart RB.out h) (by rw [X0.out]; have := LA.out; have := LB.out; omega) (by rw [X0.out]; have := LA.out; have := LB.out; omega)).mono ?_; rintro e w5 ⟨rfl, hT⟩; obtain ⟨p5, g5, c5, hT, hF, hL⟩ := hT; rw [bk_no, ← YS.out] at hT; have T4 := Lib.hid hT; clear hT hF hL T3)
    | (go_at_call 18; refine (synced_any T4).mono ?_; rintro e w6 ⟨rfl, rfl⟩)
    | (go_at_call 19; refine (crash_any T4 (by rw [Y.out]; omega) (by rw [Y.out]; have := LA.out; have := LB.out; omega) keep (na + kp) KK.out).mono ?_; rintro e w7 ⟨rfl, hT⟩; obtain ⟨p7, g7, c7, hT, hF, hL⟩ := hT; rw [ZS.out] at hT; have T5 := Lib.hid hT; clear hT hF hL T4)
    | ((with_reducible refine wpList_at 57 rfl ?_); refine wpList_known4 rfl (.int .i64 mx) _ (exec_maxi rfl rfl rfl rfl MX.out) ?_; try simp only [Act.put, List.setIfInBounds_toArray, List.set_cons_zero, List.set_cons_succ])
    | ((with_reducible refine wpList_at 60 rfl ?_); refine wpList_known4 rfl (.int .i64 (kp : Int)) _ (exec_mini rfl rfl rfl rfl MN.out) ?_; try simp only [Act.put, List.setIfInBounds_toArray, List.set_cons_zero, List.set_cons_succ]))
  refine wp_region_T (Φ := fun X => Tp W bt bs ((na + kp : Nat) : Int) 4000 false 0 p7 g7 c7 zs X) (S := fun X => Tp W bt bs ((na + kp : Nat) : Int) 4000 false 0 p7 g7 c7 zs X) (Lib.hid T5.out) (fun _ h => h.drew) (fun _ h => h) (by kernel_rfl) ?_
  clear T5
  intro w8 TT S0
  clear TT
  refine hm_run 0 61 (.pointer (some ⟨bt, 0, none⟩)) rfl rfl (by kernel_rfl) (by kernel_rfl) (by kernel_rfl) (fun _ _ _ h => h) rfl (fun _ _ => rfl) S0.out ?_
  try simp only [Act.put, List.getElem_toArray, List.getElem_cons_succ, List.getElem_cons_zero, List.setIfInBounds_toArray, List.set_cons_zero, List.set_cons_succ]
  refine hm_run 2 63 (.slice a0 na c0) rfl rfl (by kernel_rfl) (by kernel_rfl) (by kernel_rfl) (fun _ _ _ h => h) rfl (fun _ _ => rfl) S0.out ?_
  try simp only [Act.put, List.getElem_toArray, List.getElem_cons_succ, List.getElem_cons_zero, List.setIfInBounds_toArray, List.set_cons_zero, List.set_cons_succ]
  refine hm_run 4 65 (.slice a1 nb c1) rfl rfl (by kernel_rfl) (by kernel_rfl) (by kernel_rfl) (fun _ _ _ h => h) rfl (fun _ _ => rfl) S0.out ?_
  try simp only [Act.put, List.getElem_toArray, List.getElem_cons_succ, List.getElem_cons_zero, List.setIfInBounds_toArray, List.set_cons_zero, List.set_cons_succ]
  refine hm_run 5 66 (.int .i64 (kp : Int)) rfl rfl (by kernel_rfl) (by kernel_rfl) (by kernel_rfl) (fun _ _ _ h => h) rfl (fun _ _ => rfl) S0.out ?_
  try simp only [Act.put, List.getElem_toArray, List.getElem_cons_succ, List.getElem_cons_zero, List.setIfInBounds_toArray, List.set_cons_zero, List.set_cons_succ]
  refine hm_run 6 67 (.slice a1 kp c1) rfl rfl (by kernel_rfl) (by kernel_rfl) (by kernel_rfl) (fun _ _ _ h => h) rfl (fun _ _ => exec_sl rfl (SC.out _)) S0.out ?_
  try simp only [Act.put, List.getElem_toArray, List.getElem_cons_succ, List.getElem_cons_zero, List.setIfInBounds_toArray, List.set_cons_zero, List.set_cons_succ]
  refine hm_one (i := 1) (by kernel_rfl) ?_
  refine hm_step 1 rfl (by kernel_rfl) fun K hK => ?_
  try simp only [Act.put, List.getElem_toArray, List.getElem_cons_succ, List.getElem_cons_zero, List.setIfInBounds_toArray, List.set_cons_zero, List.set_cons_succ]
  go_simp
  go_at_call 21
  refine (bytes_any (Lib.hid S0.out) (by rw [ZL.out]; have := LA.out; have := LB.out; have := KB.out; omega)).mono ?_
  rintro e w9 ⟨p9, g9, c9, rfl, N, hb⟩
  have N9 := Lib.hid N
  have S9 := Lib.hid (S0.out.call hb)
  have S1_5 := S9
  clear N hb
  refine hK _ _ S1_5.out ?_
  clear hK K
  try simp only [Act.put, List.getElem_toArray, List.getElem_cons_succ, List.getElem_cons_zero, List.setIfInBounds_toArray, List.set_cons_zero, List.set_cons_succ]
  refine hm_one (i := 3) (by kernel_rfl) ?_
  refine hm_step 3 rfl (by kernel_rfl) fun K hK => ?_
  try simp only [Act.put, List.getElem_toArray, List.getElem_cons_succ, List.getElem_cons_zero, List.setIfInBounds_toArray, List.set_cons_zero, List.set_cons_succ]
  go_simp
  go_at_call 22
  refine (clone_any (Lib.hid (RA.out.below S9.out.under0)) (by have := LA.out; omega)).mono ?_
  rintro e w10 ⟨p10, g10, c10, rfl, N, hb⟩
  have N10 := Lib.hid N
  have B10 := Lib.hid hb
  have S3_6 := Lib.hid (S9.out.call hb)
  clear N hb
  refine hK _ _ S3_6.out ?_
  clear hK K
  try simp only [Act.put, List.getElem_toArray, List.getElem_cons_succ, List.getElem_cons_zero, List.setIfInBounds_toArray, List.set_cons_zero, List.set_cons_succ]
  refine hm_one (i := 7) (by kernel_rfl) ?_
  refine hm_step 7 rfl (by kernel_rfl) fun K hK => ?_
  try simp only [Act.put, List.getElem_toArray, List.getElem_cons_succ, List.getElem_cons_zero, List.setIfInBounds_toArray, List.set_cons_zero, List.set_cons_succ]
  refine mo_app (.tmp 64) (.tmp 67) rfl rfl N10 rfl (Lib.hid ((RB.out.less KB.out).below (S9.out.call B10.out).under0)) (by have := LA.out; have := LB.out; have := KB.out; omega) ?_
  intro p11 g11 c11 w11 N11 B11
  have B12 := Lib.hid (B10.out.trans B11.out)
  have S7_7 := Lib.hid (S9.out.call B12.out)
  refine hK _ _ S7_7.out ?_
  clear hK K
  try simp only [Act.put, List.getElem_toArray, List.getElem_cons_succ, List.getElem_cons_zero, List.setIfInBounds_toArray, List.set_cons_zero, List.set_cons_succ]
  refine hm_one (i := 8) (by kernel_rfl) ?_
  refine hm_step 8 rfl (by kernel_rfl) fun K hK => ?_
  try simp only [Act.put, List.getElem_toArray, List.getElem_cons_succ, List.getElem_cons_zero, List.setIfInBounds_toArray, List.set_cons_zero, List.set_cons_succ]
  go_simp
  go_at_call 20
  refine (equal_any (Lib.hid (N9.out.row.below B12.out)) (Lib.hid N11.out.row) (by rw [ZL.out]) (Lib.hid (fun i hi => by rw [Z.out, ← lf_cat, tl_length]; unfold cat; split; exact lf_tl _ (by assumption); exact lf_tl _ (by rw [ZL.out] at hi; omega)))).mono ?_
  rintro e w12 ⟨rfl, rfl⟩
  have S8_8 := S7_7
  refine hK _ _ S8_8.out ?_
  clear hK K
  try simp only [Act.put, List.getElem_toArray, List.getElem_cons_succ, List.getElem_cons_zero, List.setIfInBounds_toArray, List.set_cons_zero, List.set_cons_succ]
  refine hm_run 9 70 (.bool true) rfl rfl (by kernel_rfl) (by kernel_rfl) (by kernel_rfl) (fun _ _ _ h => h) rfl (fun _ _ => rfl) S8_8.out ?_
  try simp only [Act.put, List.getElem_toArray, List.getElem_cons_succ, List.getElem_cons_zero, List.setIfInBounds_toArray, List.set_cons_zero, List.set_cons_succ]
  refine hm_run 10 71 (.pointer (some ⟨bt, 0, none⟩)) rfl rfl (by kernel_rfl) (by kernel_rfl) (by kernel_rfl) (fun _ _ _ h => h) rfl (fun _ _ => rfl) S8_8.out ?_
  try simp only [Act.put, List.getElem_toArray, List.getElem_cons_succ, List.getElem_cons_zero, List.setIfInBounds_toArray, List.set_cons_zero, List.set_cons_succ]
  refine hm_run 12 73 (.slice a0 na c0) rfl rfl (by kernel_rfl) (by kernel_rfl) (by kernel_rfl) (fun _ _ _ h => h) rfl (fun _ _ => rfl) S8_8.out ?_
  try simp only [Act.put, List.getElem_toArray, List.getElem_cons_succ, List.getElem_cons_zero, List.setIfInBounds_toArray, List.set_cons_zero, List.set_cons_succ]
  refine hm_run 13 74 (.int .i64 ((na : Nat) : Int)) rfl rfl (by kernel_rfl) (by kernel_rfl) (by kernel_rfl) (fun _ _ _ h => h) rfl (fun _ _ => exec_len Try.underlying22 rfl rfl) S8_8.out ?_
  try simp only [Act.put, List.getElem_toArray, List.getElem_cons_succ, List.getElem_cons_zero, List.setIfInBounds_toArray, List.set_cons_zero, List.set_cons_succ]
  refine hm_run 14 75 (.int .i64 (kp : Int)) rfl rfl (by kernel_rfl) (by kernel_rfl) (by kernel_rfl) (fun _ _ _ h => h) rfl (fun _ _ => rfl) S8_8.out ?_
  try simp only [Act.put, List.getElem_toArray, List.getElem_cons_succ, List.getElem_cons_zero, List.setIfInBounds_toArray, List.set_cons_zero, List.set_cons_succ]
  refine hm_run 15 76 (.int .i64 ((na + kp : Nat) : Int)) rfl rfl (by kernel_rfl) (by kernel_rfl) (by kernel_rfl) (fun _ _ _ h => h) rfl (fun _ _ => exec_add rfl rfl rfl HW.out) S8_8.out ?_
  try simp only [Act.put, List.getElem_toArray, List.getElem_cons_succ, List.getElem_cons_zero, List.setIfInBounds_toArray, List.set_cons_zero, List.set_cons_succ]
  refine hm_one (i := 11) (by kernel_rfl) ?_
  refine hm_step 11 rfl (by kernel_rfl) fun K hK => ?_
  try simp only [Act.put, List.getElem_toArray, List.getElem_cons_succ, List.getElem_cons_zero, List.setIfInBounds_toArray, List.set_cons_zero, List.set_cons_succ]
  go_simp
  go_at_call 18
  refine (synced_any (Lib.hid S8_8.out)).mono ?_
  rintro e w13 ⟨rfl, rfl⟩
  have S11_15 := S8_8
  refine hK _ _ S11_15.out ?_
  clear hK K
  try simp only [Act.put, List.getElem_toArray, List.getElem_cons_succ, List.getElem_cons_zero, List.setIfInBounds_toArray, List.set_cons_zero, List.set_cons_succ]
  refine hm_run 16 77 (.bool true) rfl rfl (by kernel_rfl) (by kernel_rfl) (by kernel_rfl) (fun _ _ _ h => h) rfl (fun _ _ => exec_eqli rfl rfl rfl (decide_eq_true rfl)) S11_15.out ?_
  try simp only [Act.put, List.getElem_toArray, List.getElem_cons_succ, List.getElem_cons_zero, List.setIfInBounds_toArray, List.set_cons_zero, List.set_cons_succ]
  refine hm_run 17 78 (.bool true) rfl rfl (by kernel_rfl) (by kernel_rfl) (by kernel_rfl) (fun _ _ _ h => h) rfl (fun _ _ => rfl) S11_15.out ?_
  try simp only [Act.put, List.getElem_toArray, List.getElem_cons_succ, List.getElem_cons_zero, List.setIfInBounds_toArray, List.set_cons_zero, List.set_cons_succ]
  refine hm_run 18 6 (.bool true) rfl rfl (by kernel_rfl) (by kernel_rfl) (by kernel_rfl) (fun _ _ _ h => h) rfl (fun _ _ => rfl) S11_15.out ?_
  try simp only [Act.put, List.getElem_toArray, List.getElem_cons_succ, List.getElem_cons_zero, List.setIfInBounds_toArray, List.set_cons_zero, List.set_cons_succ]
  refine wpAnyH_done (by kernel_rfl) ?_ _
  go_wp2
  go_ret
  exact ⟨rfl, S11_15.out.mem.below⟩

set_option maxRecDepth 100000 in
theorem lifted (os : Os) (started : os.Started) (H : Type) (enc : TypeId × Value → H) :
    ReturnsInHanded {} Try.checked os 4 .any (Rows.tapeStaysSpec.pre6 enc Try.prog Try.f4 Rows.tapeStaysRow.domain false) (Rows.tapeStaysSpec.post enc Try.prog Try.f4 false true false false) := by
  refine returnsInHanded_of_change_sized (C := Try.checked) own started (by kernel_rfl) Try.func4
    (ChangeSpec.witness6 (enc := enc) (C := Try.checked) false ⟨#[], #[.slice none 0 0, .slice none 0 0, .int .i64 0], []⟩ 8 (by kernel_rfl) (by kernel_rfl) (by kernel_rfl) (by kernel_rfl)) ?_
  intro W base args ds gs before hval0 hW hcnd hsz0 _
  have hval : ∀ (j : Nat) t v, Try.f4.params[j]? = some t → args[j]? = some v → Value.okWide Try.prog W .any base t v := hval0
  have hsz : (DataW.weightsEach Try.prog (Try.f4.params.toList ++ Rows.tapeStaysSpec.plain.varTypes Try.prog) (ds ++ gs)).all (· ≤ reachBytes) = true := hsz0
  have hW' := hW
  obtain ⟨p, q, hA0, hV, rfl, hfz, hnd⟩ := hW
  have hA : DataW.TrodAll enc Try.prog W 0 (fun _ => true) true Try.f4.params.toList args.toList ds p := hA0
  rw [Try.params4] at hA hval hsz
  obtain ⟨v0, vs0, d0, ds0, p0, q0, hargs, rfl, rfl, h0, r0⟩ := trodAll_cons hA
  obtain ⟨v1, vs1, d1, ds1, p1, q1, rfl, rfl, rfl, h1, r1⟩ := trodAll_cons r0
  obtain ⟨v2, vs2, d2, ds2, p2, q2, rfl, rfl, rfl, h2, r2⟩ := trodAll_cons r1
  obtain ⟨rfl, rfl, rfl⟩ := trodAll_nil r2
  obtain rfl : args = #[v0, v1, v2] := by cases args; simp_all
  obtain ⟨rfl, rfl⟩ := trodVars_none hV
  have k0 := h0
  have lt0 : ∀ x ∈ p0, x.block < W.heap.size := by obtain ⟨m, hm⟩ := k0; exact DataW.trod_lt m _ _ _ hm
  obtain ⟨a0, g0, o0, n0, c0, x0, rfl, w0, m0⟩ := open_row (j := 0) (hval 0 22 v0 rfl rfl) h0 hsz rfl rfl
  have k1 := h1
  have lt1 : ∀ x ∈ p1, x.block < W.heap.size := by obtain ⟨m, hm⟩ := k1; exact DataW.trod_lt m _ _ _ hm
  obtain ⟨a1, g1, o1, n1, c1, x1, rfl, w1, m1⟩ := open_row (j := 1) (hval 1 22 v1 rfl rfl) h1 hsz rfl rfl
  obtain ⟨a2, rfl, rfl, rfl, w2⟩ := open_int Try.underlying3 (hval 2 3 v2 rfl rfl) h2
  clear hA0 hval0 hsz0
  simp only [List.append_nil] at hW'
  refine (walk W a0 g0 o0 n0 c0 x0 w0 m0 a1 g1 o1 n1 c1 x1 w1 m1 a2 w2).mono fun e W' ⟨he, bel⟩ => ?_
  subst he
  exact ⟨_, rfl, _, _, _, [], _, [], hW', trodAll_mk1 (shut_bool Try.underlying4 _), (trodAll_cons_mk (Below.trod laidOut (by kernel_rfl) (of_decide_eq_true (by kernel_rfl)) k0 bel lt0) (trodAll_cons_mk (Below.trod laidOut (by kernel_rfl) (of_decide_eq_true (by kernel_rfl)) k1 bel lt1) (trodAll_cons_mk (shut_int Try.underlying3 w2) trodAll_mk0))), rfl, bel.frame _, fun h => by cases h⟩

theorem over : Rows.tapeStaysRow.holds Try.pinned (OpenSpec.ofChange Rows.tapeStaysSpec) :=
  OpenClaim.holds_of_wide 4 Try.f4 rfl rfl rfl rfl rfl rfl rfl ⟨rfl, rfl, rfl, rfl, rfl⟩ rfl rfl rfl rfl rfl (by kernel_rfl) Try.func4 (by kernel_rfl)
    (of_decide_eq_true (by kernel_rfl)) (by unfold Func.isWrapper; first | (rw [if_pos (by decide +kernel)]; kernel_rfl) | (rw [if_neg (by decide +kernel)]; exact ⟨rfl, rfl⟩))
    (fun os started H enc _ => lifted os started H enc)

/-- The statement. -/
theorem proved : Rows.TapeStaysSaid :=
  over
#print axioms proved
end Go.Proofs.Ytlbbnaihhagfdaa.tapeStays
