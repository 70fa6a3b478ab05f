/- The document's upper and lower. -/
import Derived.Test.YtghjgkgfpblijaaDoorD2
set_option linter.unusedSimpArgs false
set_option linter.unusedVariables false
set_option maxRecDepth 100000
namespace Go.Proofs.YtghjgkgfpblijaaDoor
open Go.ChangeShapes Go.WideShapes Go.RowKit Go.Lib Go.Sort

set_option maxHeartbeats 16000000 in
theorem rupper_any (s : ByteArray) (hs : s.size ≤ 140737488355328) (w : World) : Calls Tryd.prog 30 #[.string s] w fun e w' => e = .returned (.bool (decide (isUp s))) ∧ w' = w := by
  obtain ⟨sz, hsz⟩ : ∃ sz, sz = s.size := ⟨_, rfl⟩
  have HSZ := Lib.hid hsz.symm
  have szb : sz ≤ 140737488355328 := by omega
  have U0 := Lib.hid (show ∀ i, i < 0 → ¬ (97 ≤ byt s i ∧ byt s i ≤ 122) from fun i h => absurd h (by omega))
  go_enter Tryd.func30, Tryd.ntmps30
  go_upto_region 2 with fail
  go_loopg [3] sz (fun k i wr => ∃ j : Nat, j + k = sz ∧ i = .int .i64 (j : Int) ∧ Hid (∀ i, i < j → ¬ (97 ≤ byt s i ∧ byt s i ≤ 122)) ∧ Hid (wr = w))
  case atStart => exact ⟨0, by omega, rfl, U0, Lib.hid rfl⟩
  case round =>
    clear U0
    obtain ⟨j, hj, rfl, UU, HW⟩ := hrel
    obtain ⟨kk, rfl⟩ : ∃ kk : Nat, kk = gk := ⟨_, rfl⟩
    obtain rfl : wr = w := HW.out
    by_cases hlt : j < sz
    · have HL := Lib.hid (show decide (j < sz) = true by simp [hlt])
      obtain ⟨y, hy⟩ : ∃ y, y = byt s j := ⟨_, rfl⟩
      have HIX := Lib.hid (show ∀ W : World, (Instr.index 9 (.string s) (.int .i64 (j : Int))).run Tryd.prog W = .ok (.int .u8 (y : Int)) W from fun W => by rw [hy]; exact run_ixS64 s j (by omega) W)
      by_cases h1 : 97 ≤ y
      · have Y1 := Lib.hid (show decide (97 ≤ y) = true by simp [h1])
        by_cases h2 : y ≤ 122
        · have Y2 := Lib.hid (show decide (y ≤ 122) = true by simp [h2])
          have NU := Lib.hid (show decide (isUp s) = false from decide_eq_false fun h => h j (by omega) (by rw [← hy]; exact ⟨h1, h2⟩))
          clear hy h1 h2 hsz
          go_wp2_with (first
            | ((with_reducible refine wpList_at 6 rfl ?_); refine wpList_known4 rfl (.int .i64 (sz : Int)) _ (by exact by rw [← HSZ.out]; exact exec_lenS rfl rfl) ?_; try simp only [Act.put, List.setIfInBounds_toArray, List.set_cons_zero, List.set_cons_succ])
            | ((with_reducible refine wpList_at 7 rfl ?_); refine wpList_known4 rfl (.bool true) _ (by exact exec_lss3v (a := j) (b := sz) (q := true) rfl rfl rfl HL.out) ?_; try simp only [Act.put, List.setIfInBounds_toArray, List.set_cons_zero, List.set_cons_succ])
            | ((with_reducible refine wpList_at 12 rfl ?_); refine wpList_known4 rfl (.int .u8 (y : Int)) _ (by exact exec_index rfl (HIX.out _)) ?_; try simp only [Act.put, List.setIfInBounds_toArray, List.set_cons_zero, List.set_cons_succ])
            | ((with_reducible refine wpList_at 13 rfl ?_); refine wpList_known4 rfl (.bool true) _ (by exact exec_geq8v (a := y) (b := 97) (q := true) rfl rfl rfl Y1.out) ?_; try simp only [Act.put, List.setIfInBounds_toArray, List.set_cons_zero, List.set_cons_succ])
            | ((with_reducible refine wpList_at 17 rfl ?_); refine wpList_known4 rfl (.int .u8 (y : Int)) _ (by exact exec_index rfl (HIX.out _)) ?_; try simp only [Act.put, List.setIfInBounds_toArray, List.set_cons_zero, List.set_cons_succ])
            | ((with_reducible refine wpList_at 18 rfl ?_); refine wpList_known4 rfl (.bool true) _ (by exact exec_leq8v (a := y) (b := 122) (q := true) rfl rfl rfl Y2.out) ?_; try simp only [Act.put, List.setIfInBounds_toArray, List.set_cons_zero, List.set_cons_succ]))
          go_ret
          exact ⟨by rw [NU.out]; rfl, rfl⟩
        · have Y2 := Lib.hid (show decide (y ≤ 122) = false by simp; omega)
          have U1 := Lib.hid (show ∀ i, i < j + 1 → ¬ (97 ≤ byt s i ∧ byt s i ≤ 122) from fun i hi => by
            rcases Nat.lt_or_ge i j with q | q
            · exact UU.out i q
            · obtain rfl : i = j := by omega
              rw [← hy]; omega)
          clear hy h1 h2 hsz UU
          go_wp2_with (first
            | ((with_reducible refine wpList_at 6 rfl ?_); refine wpList_known4 rfl (.int .i64 (sz : Int)) _ (by exact by rw [← HSZ.out]; exact exec_lenS rfl rfl) ?_; try simp only [Act.put, List.setIfInBounds_toArray, List.set_cons_zero, List.set_cons_succ])
            | ((with_reducible refine wpList_at 7 rfl ?_); refine wpList_known4 rfl (.bool true) _ (by exact exec_lss3v (a := j) (b := sz) (q := true) rfl rfl rfl HL.out) ?_; try simp only [Act.put, List.setIfInBounds_toArray, List.set_cons_zero, List.set_cons_succ])
            | ((with_reducible refine wpList_at 12 rfl ?_); refine wpList_known4 rfl (.int .u8 (y : Int)) _ (by exact exec_index rfl (HIX.out _)) ?_; try simp only [Act.put, List.setIfInBounds_toArray, List.set_cons_zero, List.set_cons_succ])
            | ((with_reducible refine wpList_at 13 rfl ?_); refine wpList_known4 rfl (.bool true) _ (by exact exec_geq8v (a := y) (b := 97) (q := true) rfl rfl rfl Y1.out) ?_; try simp only [Act.put, List.setIfInBounds_toArray, List.set_cons_zero, List.set_cons_succ])
            | ((with_reducible refine wpList_at 17 rfl ?_); refine wpList_known4 rfl (.int .u8 (y : Int)) _ (by exact exec_index rfl (HIX.out _)) ?_; try simp only [Act.put, List.setIfInBounds_toArray, List.set_cons_zero, List.set_cons_succ])
            | ((with_reducible refine wpList_at 18 rfl ?_); refine wpList_known4 rfl (.bool false) _ (by exact exec_leq8v (a := y) (b := 122) (q := false) rfl rfl rfl Y2.out) ?_; try simp only [Act.put, List.setIfInBounds_toArray, List.set_cons_zero, List.set_cons_succ]))
          go_roundg (sz - (j + 1))
          case measure => omega
          case rel => exact ⟨j + 1, by omega, by go_num, U1, Lib.hid rfl⟩
      · have Y1 := Lib.hid (show decide (97 ≤ y) = false by simp; omega)
        have U1 := Lib.hid (show ∀ i, i < j + 1 → ¬ (97 ≤ byt s i ∧ byt s i ≤ 122) from fun i hi => by
            rcases Nat.lt_or_ge i j with q | q
            · exact UU.out i q
            · obtain rfl : i = j := by omega
              rw [← hy]; omega)
        clear hy h1 hsz UU
        go_wp2_with (first
          | ((with_reducible refine wpList_at 6 rfl ?_); refine wpList_known4 rfl (.int .i64 (sz : Int)) _ (by exact by rw [← HSZ.out]; exact exec_lenS rfl rfl) ?_; try simp only [Act.put, List.setIfInBounds_toArray, List.set_cons_zero, List.set_cons_succ])
          | ((with_reducible refine wpList_at 7 rfl ?_); refine wpList_known4 rfl (.bool true) _ (by exact exec_lss3v (a := j) (b := sz) (q := true) rfl rfl rfl HL.out) ?_; try simp only [Act.put, List.setIfInBounds_toArray, List.set_cons_zero, List.set_cons_succ])
          | ((with_reducible refine wpList_at 12 rfl ?_); refine wpList_known4 rfl (.int .u8 (y : Int)) _ (by exact exec_index rfl (HIX.out _)) ?_; try simp only [Act.put, List.setIfInBounds_toArray, List.set_cons_zero, List.set_cons_succ])
          | ((with_reducible refine wpList_at 13 rfl ?_); refine wpList_known4 rfl (.bool false) _ (by exact exec_geq8v (a := y) (b := 97) (q := false) rfl rfl rfl Y1.out) ?_; try simp only [Act.put, List.setIfInBounds_toArray, List.set_cons_zero, List.set_cons_succ]))
        go_roundg (sz - (j + 1))
        case measure => omega
        case rel => exact ⟨j + 1, by omega, by go_num, U1, Lib.hid rfl⟩
    · obtain rfl : j = sz := by omega
      have HL := Lib.hid (show decide (j < j) = false by simp)
      have NU := Lib.hid (show decide (isUp s) = true from decide_eq_true fun i hi => UU.out i (by omega))
      clear hlt UU hsz
      go_wp2_with (first
        | ((with_reducible refine wpList_at 6 rfl ?_); refine wpList_known4 rfl (.int .i64 (j : Int)) _ (by exact by rw [← HSZ.out]; exact exec_lenS rfl rfl) ?_; try simp only [Act.put, List.setIfInBounds_toArray, List.set_cons_zero, List.set_cons_succ])
        | ((with_reducible refine wpList_at 7 rfl ?_); refine wpList_known4 rfl (.bool false) _ (by exact exec_lss3v (a := j) (b := j) (q := false) rfl rfl rfl HL.out) ?_; try simp only [Act.put, List.setIfInBounds_toArray, List.set_cons_zero, List.set_cons_succ]))
      go_ret
      exact ⟨by rw [NU.out]; rfl, rfl⟩
/-- The row, small up to j. -/
def lwJ (s : ByteArray) (j : Nat) : Nat → Nat := fun k => if k < j then lwN (byt s k) else byt s k
theorem lwJ_keep {s : ByteArray} {j : Nat} (h : lwN (byt s j) = byt s j) : lwJ s j = lwJ s (j + 1) := by
  funext k
  unfold lwJ
  by_cases h1 : k < j
  · rw [if_pos h1, if_pos (by omega)]
  · rw [if_neg h1]
    by_cases h2 : k = j
    · subst h2; rw [if_pos (by omega), h]
    · rw [if_neg (by omega)]
theorem lwJ_put {s : ByteArray} {j v : Nat} (h : v = lwN (byt s j)) : (fun k => if k = j then v else lwJ s j k) = lwJ s (j + 1) := by
  funext k
  unfold lwJ
  by_cases h2 : k = j
  · subst h2; rw [if_pos rfl, if_pos (by omega), h]
  · rw [if_neg h2]
    by_cases h1 : k < j
    · rw [if_pos h1, if_pos (by omega)]
    · rw [if_neg h1, if_neg (by omega)]
set_option maxHeartbeats 16000000 in
theorem rlower_any {w : World} (s : ByteArray) (hs : s.size ≤ 140737488355328) : Calls Tryd.prog 31 #[.string s] w fun e w' => e = .returned (.string (lwS s)) ∧ Below w.heap.size w w' := by
  go_enter Tryd.func31, Tryd.ntmps31
  go_upto_region 3 with (first
    | ((with_reducible refine wpList_at 7 rfl ?_); refine wpList_cv rfl (.tmp 6) rfl rfl hs ?_; intro p7 g7 c7 w7 N7 hb7; try simp only [Act.put, List.setIfInBounds_toArray, List.set_cons_zero, List.set_cons_succ]))
  obtain rfl := N7.out.hd
  obtain ⟨sz, hsz⟩ : ∃ sz, sz = s.size := ⟨_, rfl⟩
  have N0 := Lib.hid (show OwnM w.heap.size w7 (some ⟨g7, 0, none⟩) g7 sz c7 (lwJ s 0) by rw [hsz]; exact N7.out)
  have B0 := hb7
  have HSZ := Lib.hid hsz.symm
  have szb : sz ≤ 140737488355328 := by omega
  rw [← hsz]
  clear N7 hb7 hs
  go_loopg [10] sz (fun k i wr => ∃ j : Nat, j + k = sz ∧ i = .int .i64 (j : Int) ∧ Hid (OwnM w.heap.size wr (some ⟨g7, 0, none⟩) g7 sz c7 (lwJ s j)) ∧ Hid (Below w.heap.size w wr))
  case atStart => exact ⟨0, by omega, rfl, N0, B0⟩
  case round =>
    clear N0 B0
    obtain ⟨j, hj, rfl, N, BB⟩ := hrel
    obtain ⟨kk, rfl⟩ : ∃ kk : Nat, kk = gk := ⟨_, rfl⟩
    obtain ⟨wo, rfl⟩ : ∃ wo : World, wo = wr := ⟨_, rfl⟩
    by_cases hlt : j < sz
    · have HLT := Lib.hid hlt
      obtain ⟨y, hy⟩ : ∃ y, y = byt s j := ⟨_, rfl⟩
      have CL := Lib.hid (show wo.cell? ⟨g7, j, none⟩ = some (.int .u8 (y : Int)) by
        have := N.out.row.cell j hlt
        rw [Nat.zero_add] at this
        rw [this, hy]
        unfold lwJ
        rw [if_neg (by omega)])
      by_cases h1 : 65 ≤ y
      · have Y1 := Lib.hid (show decide (65 ≤ y) = true by simp [h1])
        by_cases h2 : y ≤ 90
        · have Y2 := Lib.hid (show decide (y ≤ 90) = true by simp [h2])
          obtain ⟨v, hv⟩ : ∃ v, v = y + 32 := ⟨_, rfl⟩
          have vb : v < 256 := by omega
          have E := Lib.hid (lwJ_put (s := s) (j := j) (v := v) (by rw [← hy, hv]; unfold lwN; rw [if_pos ⟨h1, h2⟩]))
          have Y3 := Lib.hid (show y + 32 = v ∧ v < 256 from ⟨hv.symm, vb⟩)
          clear hy h1 h2 hv hsz
          go_wp2_with (first
            | ((with_reducible refine wpList_at 13 rfl ?_); refine wpList_ix (k := 1) (j := j) Tryd.underlying22 (by kernel_rfl) (.tmp 8) (.tmp 10) rfl rfl rfl rfl HLT.out rfl ?_; rw [Nat.mul_one, Nat.zero_add]; try simp only [Act.put, List.setIfInBounds_toArray, List.set_cons_zero, List.set_cons_succ])
            | ((with_reducible refine wpList_at 14 rfl ?_); refine wpList_ld1 5 (.tmp 13) rfl rfl rfl Tryd.underlying5 rfl CL.out ?_; try simp only [Act.put, List.setIfInBounds_toArray, List.set_cons_zero, List.set_cons_succ])
            | ((with_reducible refine wpList_at 16 rfl ?_); refine wpList_known4 rfl (.bool true) _ (by exact exec_geq8v (a := y) (b := 65) (q := true) rfl rfl rfl Y1.out) ?_; try simp only [Act.put, List.setIfInBounds_toArray, List.set_cons_zero, List.set_cons_succ])
            | ((with_reducible refine wpList_at 19 rfl ?_); refine wpList_known4 rfl (.bool true) _ (by exact exec_leq8v (a := y) (b := 90) (q := true) rfl rfl rfl Y2.out) ?_; try simp only [Act.put, List.setIfInBounds_toArray, List.set_cons_zero, List.set_cons_succ])
            | ((with_reducible refine wpList_at 24 rfl ?_); refine wpList_known4 rfl (.int .u8 (v : Int)) _ (by exact exec_add8v (a := y) (b := 32) (r := v) rfl rfl rfl Y3.out.1 Y3.out.2) ?_; try simp only [Act.put, List.setIfInBounds_toArray, List.set_cons_zero, List.set_cons_succ])
            | ((with_reducible refine wpList_at 25 rfl ?_); refine wpList_ix (k := 1) (j := j) Tryd.underlying22 (by kernel_rfl) (.tmp 21) (.tmp 22) rfl rfl rfl rfl HLT.out rfl ?_; rw [Nat.mul_one, Nat.zero_add]; try simp only [Act.put, List.setIfInBounds_toArray, List.set_cons_zero, List.set_cons_succ])
            | ((with_reducible refine wpList_atn rfl ?_); refine wpList_mput0 (v := v) (i := j) rfl (.tmp 25) (.tmp 24) rfl N rfl rfl HLT.out Y3.out.2 ?_; clear N; intro w9 N hb9; rw [E.out] at N; replace BB := Lib.hid (BB.out.trans hb9.out); clear hb9; try simp only [Act.put, List.setIfInBounds_toArray, List.set_cons_zero, List.set_cons_succ]))
          go_roundg (sz - (j + 1))
          case measure => omega
          case rel => exact ⟨j + 1, by omega, by go_num, N, BB⟩
        · have Y2 := Lib.hid (show decide (y ≤ 90) = false by simp; omega)
          have E := lwJ_keep (s := s) (j := j) (by rw [← hy]; unfold lwN; rw [if_neg (by omega)])
          rw [E] at N
          clear hy h1 h2 hsz E
          go_wp2_with (first
            | ((with_reducible refine wpList_at 13 rfl ?_); refine wpList_ix (k := 1) (j := j) Tryd.underlying22 (by kernel_rfl) (.tmp 8) (.tmp 10) rfl rfl rfl rfl HLT.out rfl ?_; rw [Nat.mul_one, Nat.zero_add]; try simp only [Act.put, List.setIfInBounds_toArray, List.set_cons_zero, List.set_cons_succ])
            | ((with_reducible refine wpList_at 14 rfl ?_); refine wpList_ld1 5 (.tmp 13) rfl rfl rfl Tryd.underlying5 rfl CL.out ?_; try simp only [Act.put, List.setIfInBounds_toArray, List.set_cons_zero, List.set_cons_succ])
            | ((with_reducible refine wpList_at 16 rfl ?_); refine wpList_known4 rfl (.bool true) _ (by exact exec_geq8v (a := y) (b := 65) (q := true) rfl rfl rfl Y1.out) ?_; try simp only [Act.put, List.setIfInBounds_toArray, List.set_cons_zero, List.set_cons_succ])
            | ((with_reducible refine wpList_at 19 rfl ?_); refine wpList_known4 rfl (.bool false) _ (by exact exec_leq8v (a := y) (b := 90) (q := false) rfl rfl rfl Y2.out) ?_; try simp only [Act.put, List.setIfInBounds_toArray, List.set_cons_zero, List.set_cons_succ]))
          go_roundg (sz - (j + 1))
          case measure => omega
          case rel => exact ⟨j + 1, by omega, by go_num, N, BB⟩
      · have Y1 := Lib.hid (show decide (65 ≤ y) = false by simp; omega)
        have E := lwJ_keep (s := s) (j := j) (by rw [← hy]; unfold lwN; rw [if_neg (by omega)])
        rw [E] at N
        clear hy h1 hsz E
        go_wp2_with (first
          | ((with_reducible refine wpList_at 13 rfl ?_); refine wpList_ix (k := 1) (j := j) Tryd.underlying22 (by kernel_rfl) (.tmp 8) (.tmp 10) rfl rfl rfl rfl HLT.out rfl ?_; rw [Nat.mul_one, Nat.zero_add]; try simp only [Act.put, List.setIfInBounds_toArray, List.set_cons_zero, List.set_cons_succ])
          | ((with_reducible refine wpList_at 14 rfl ?_); refine wpList_ld1 5 (.tmp 13) rfl rfl rfl Tryd.underlying5 rfl CL.out ?_; try simp only [Act.put, List.setIfInBounds_toArray, List.set_cons_zero, List.set_cons_succ])
          | ((with_reducible refine wpList_at 16 rfl ?_); refine wpList_known4 rfl (.bool false) _ (by exact exec_geq8v (a := y) (b := 65) (q := false) rfl rfl rfl Y1.out) ?_; try simp only [Act.put, List.setIfInBounds_toArray, List.set_cons_zero, List.set_cons_succ]))
        go_roundg (sz - (j + 1))
        case measure => omega
        case rel => exact ⟨j + 1, by omega, by go_num, N, BB⟩
    · obtain rfl : j = sz := by omega
      have e : strX (lwJ s j) j = lwS s := by
        refine ba_ext (by rw [strX_size, lwS_size, hsz]) fun i hi => ?_
        rw [strX_size] at hi
        rw [strX_byt N.out.byte hi, lwS_byt (by omega)]
        unfold lwJ
        rw [if_pos hi]
      have CV := Lib.hid ((row_strX N.out.row).trans (by rw [e]))
      clear e hlt hsz N
      go_wp2_with (first
        | ((with_reducible refine wpList_at 28 rfl ?_); refine wpList_known4 rfl (.string (lwS s)) _ (by exact exec_cv rfl CV.out) ?_; try simp only [Act.put, List.setIfInBounds_toArray, List.set_cons_zero, List.set_cons_succ]))
      go_ret
      exact ⟨rfl, BB.out⟩
end Go.Proofs.YtghjgkgfpblijaaDoor
