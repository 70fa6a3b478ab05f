/- Whether an element of a list is so: slices.IndexFunc, slices.ContainsFunc. -/
import Derived.Test.YtllndneplkigpaaZA
set_option linter.unusedSimpArgs false
set_option linter.unusedVariables false
set_option maxRecDepth 100000
namespace Go.Proofs.Ytllndneplkigpaa
open Go.RowKit Go.Lib Go.Sort

section
variable {w : World} {v : Value} {ts : List TIn}
set_option maxHeartbeats 2000000 in
theorem ifbadin_any {pr : TIn → Bool} (HF : Hid (∀ (W : World) (V : Nat → Value) (t : TIn), InCells W V t → Calls Try.prog 72 #[.agg (arr 36 V)] W fun e w' => e = .returned (.bool (pr t)) ∧ Below W.heap.size W w')) (A : Hid (InsAt w v ts)) :
    Calls Try.prog 75 #[v, .func (.func 72) #[] #[]] w fun e w' => (∃ r : Int, e = .returned (.int .i64 r) ∧ decide (0 ≤ r) = ts.any pr) ∧ Below w.heap.size w w' := by
  obtain ⟨p, g, o, c, V, hv, hc, R0, hi⟩ := A.out
  subst hv
  have RR := Lib.hid R0
  have TT := Lib.hid hi
  have cn : ts.length ≤ c := R0.le
  clear R0 hi A
  obtain ⟨n, hn⟩ : ∃ n, n = ts.length := ⟨_, rfl⟩
  have HN := Lib.hid hn
  rw [← hn] at RR cn hc ⊢
  have hn3 : n ≤ 140737488355328 := by omega
  clear hn hc cn
  go_enter Try.func75, Try.ntmps75
  go_wp2
  go_loopg [8] n (fun k i wr => ∃ j : Nat, j + k = n ∧ i = .int .i64 (j : Int) ∧ Hid ((ts.take j).any pr = false) ∧ Hid (Below w.heap.size w wr))
  case atStart => exact ⟨0, by omega, rfl, Lib.hid (by simp), Lib.hid (Below.refl _ _)⟩
  case round =>
    obtain ⟨j, hj, rfl, F, B⟩ := hrel
    obtain ⟨kk, rfl⟩ : ∃ kk : Nat, kk = gk := ⟨_, rfl⟩
    by_cases hlt : j < n
    · obtain rfl := RR.out.head (by omega)
      have ht : j < ts.length := by rw [← HN.out]; exact hlt
      have EC := Lib.hid ((TT.out j ht).below B.out)
      have AN := Lib.hid (show (ts.take (j + 1)).any pr = ((ts.take j).any pr || pr ts[j]) by rw [take_get ts ht, List.any_append]; simp)
      have YES := Lib.hid (fun h : pr ts[j] = true => (List.any_eq_true.2 ⟨ts[j], List.getElem_mem ht, h⟩ : ts.any pr = true))
      obtain ⟨b, hb⟩ : ∃ b, b = pr ts[j] := ⟨_, rfl⟩
      have CALL := Lib.hid (HF.out _ _ _ EC.out)
      rw [← hb] at AN YES CALL
      clear hb EC
      cases b
      · go_wp2_with (first
          | (refine wpList_ix (k := 36) (j := j) Try.underlying25 (by kernel_rfl) (.tmp 12) (.tmp 13) rfl rfl rfl rfl hlt rfl ?_)
          | (refine wpList_ld 67 (.tmp 14) rfl rfl rfl ((RR.out.below B.out).load hlt Try.underlying67 rfl (by kernel_rfl)) ?_)
          | (go_at_call 72; refine CALL.out.mono ?_; rintro e w1 ⟨rfl, hb⟩; have B1 := Lib.hid (B.out.trans (hb.mono B.out.size)); clear hb B))
        go_roundg (n - (j + 1))
        case measure => omega
        case rel => exact ⟨j + 1, by omega, by go_num, Lib.hid (by rw [AN.out, F.out]; rfl), B1⟩
      · have Y := Lib.hid (YES.out rfl)
        go_wp2_with (first
          | (refine wpList_ix (k := 36) (j := j) Try.underlying25 (by kernel_rfl) (.tmp 12) (.tmp 13) rfl rfl rfl rfl hlt rfl ?_)
          | (refine wpList_ld 67 (.tmp 14) rfl rfl rfl ((RR.out.below B.out).load hlt Try.underlying67 rfl (by kernel_rfl)) ?_)
          | (go_at_call 72; refine CALL.out.mono ?_; rintro e w1 ⟨rfl, hb⟩; have B1 := Lib.hid (B.out.trans (hb.mono B.out.size)); clear hb B))
        go_ret
        exact ⟨⟨_, rfl, by rw [Y.out]; simp⟩, B1.out⟩
    · obtain rfl : j = n := by omega
      have F2 := Lib.hid (show ts.any pr = false by have := F.out; rwa [HN.out, List.take_length] at this)
      go_wp2
      go_ret
      exact ⟨⟨-1, rfl, by rw [F2.out]; rfl⟩, B.out⟩
set_option maxHeartbeats 2000000 in
theorem cfbadin_any {pr : TIn → Bool} (HF : Hid (∀ (W : World) (V : Nat → Value) (t : TIn), InCells W V t → Calls Try.prog 72 #[.agg (arr 36 V)] W fun e w' => e = .returned (.bool (pr t)) ∧ Below W.heap.size W w')) (A : Hid (InsAt w v ts)) :
    Calls Try.prog 38 #[v, .func (.func 72) #[] #[]] w fun e w' => e = .returned (.bool (ts.any pr)) ∧ Below w.heap.size w w' := by
  have I := Lib.hid (ifbadin_any HF A)
  obtain ⟨ANY, hA⟩ : ∃ b, b = ts.any pr := ⟨_, rfl⟩
  rw [← hA] at I ⊢
  clear hA A HF
  go_enter Try.func38, Try.ntmps38
  go_wp2_with (go_at_call 75; refine I.out.mono ?_; rintro e w1 ⟨⟨r, rfl, hr⟩, hb⟩; have B := Lib.hid hb; have HR := Lib.hid hr; clear hb hr)
  rw [← HR.out]
  go_ret
  exact ⟨by simp, B.out⟩
end

section
variable {w : World} {v : Value} {ts : List TIn}
set_option maxHeartbeats 2000000 in
theorem ifhasw_any {pr : TIn → Bool} (HF : Hid (∀ (W : World) (V : Nat → Value) (t : TIn), InCells W V t → Calls Try.prog 39 #[.agg (arr 36 V)] W fun e w' => e = .returned (.bool (pr t)) ∧ Below W.heap.size W w')) (A : Hid (InsAt w v ts)) :
    Calls Try.prog 75 #[v, .func (.func 39) #[] #[]] w fun e w' => (∃ r : Int, e = .returned (.int .i64 r) ∧ decide (0 ≤ r) = ts.any pr) ∧ Below w.heap.size w w' := by
  obtain ⟨p, g, o, c, V, hv, hc, R0, hi⟩ := A.out
  subst hv
  have RR := Lib.hid R0
  have TT := Lib.hid hi
  have cn : ts.length ≤ c := R0.le
  clear R0 hi A
  obtain ⟨n, hn⟩ : ∃ n, n = ts.length := ⟨_, rfl⟩
  have HN := Lib.hid hn
  rw [← hn] at RR cn hc ⊢
  have hn3 : n ≤ 140737488355328 := by omega
  clear hn hc cn
  go_enter Try.func75, Try.ntmps75
  go_wp2
  go_loopg [8] n (fun k i wr => ∃ j : Nat, j + k = n ∧ i = .int .i64 (j : Int) ∧ Hid ((ts.take j).any pr = false) ∧ Hid (Below w.heap.size w wr))
  case atStart => exact ⟨0, by omega, rfl, Lib.hid (by simp), Lib.hid (Below.refl _ _)⟩
  case round =>
    obtain ⟨j, hj, rfl, F, B⟩ := hrel
    obtain ⟨kk, rfl⟩ : ∃ kk : Nat, kk = gk := ⟨_, rfl⟩
    by_cases hlt : j < n
    · obtain rfl := RR.out.head (by omega)
      have ht : j < ts.length := by rw [← HN.out]; exact hlt
      have EC := Lib.hid ((TT.out j ht).below B.out)
      have AN := Lib.hid (show (ts.take (j + 1)).any pr = ((ts.take j).any pr || pr ts[j]) by rw [take_get ts ht, List.any_append]; simp)
      have YES := Lib.hid (fun h : pr ts[j] = true => (List.any_eq_true.2 ⟨ts[j], List.getElem_mem ht, h⟩ : ts.any pr = true))
      obtain ⟨b, hb⟩ : ∃ b, b = pr ts[j] := ⟨_, rfl⟩
      have CALL := Lib.hid (HF.out _ _ _ EC.out)
      rw [← hb] at AN YES CALL
      clear hb EC
      cases b
      · go_wp2_with (first
          | (refine wpList_ix (k := 36) (j := j) Try.underlying25 (by kernel_rfl) (.tmp 12) (.tmp 13) rfl rfl rfl rfl hlt rfl ?_)
          | (refine wpList_ld 67 (.tmp 14) rfl rfl rfl ((RR.out.below B.out).load hlt Try.underlying67 rfl (by kernel_rfl)) ?_)
          | (go_at_call 39; refine CALL.out.mono ?_; rintro e w1 ⟨rfl, hb⟩; have B1 := Lib.hid (B.out.trans (hb.mono B.out.size)); clear hb B))
        go_roundg (n - (j + 1))
        case measure => omega
        case rel => exact ⟨j + 1, by omega, by go_num, Lib.hid (by rw [AN.out, F.out]; rfl), B1⟩
      · have Y := Lib.hid (YES.out rfl)
        go_wp2_with (first
          | (refine wpList_ix (k := 36) (j := j) Try.underlying25 (by kernel_rfl) (.tmp 12) (.tmp 13) rfl rfl rfl rfl hlt rfl ?_)
          | (refine wpList_ld 67 (.tmp 14) rfl rfl rfl ((RR.out.below B.out).load hlt Try.underlying67 rfl (by kernel_rfl)) ?_)
          | (go_at_call 39; refine CALL.out.mono ?_; rintro e w1 ⟨rfl, hb⟩; have B1 := Lib.hid (B.out.trans (hb.mono B.out.size)); clear hb B))
        go_ret
        exact ⟨⟨_, rfl, by rw [Y.out]; simp⟩, B1.out⟩
    · obtain rfl : j = n := by omega
      have F2 := Lib.hid (show ts.any pr = false by have := F.out; rwa [HN.out, List.take_length] at this)
      go_wp2
      go_ret
      exact ⟨⟨-1, rfl, by rw [F2.out]; rfl⟩, B.out⟩
set_option maxHeartbeats 2000000 in
theorem cfhasw_any {pr : TIn → Bool} (HF : Hid (∀ (W : World) (V : Nat → Value) (t : TIn), InCells W V t → Calls Try.prog 39 #[.agg (arr 36 V)] W fun e w' => e = .returned (.bool (pr t)) ∧ Below W.heap.size W w')) (A : Hid (InsAt w v ts)) :
    Calls Try.prog 38 #[v, .func (.func 39) #[] #[]] w fun e w' => e = .returned (.bool (ts.any pr)) ∧ Below w.heap.size w w' := by
  have I := Lib.hid (ifhasw_any HF A)
  obtain ⟨ANY, hA⟩ : ∃ b, b = ts.any pr := ⟨_, rfl⟩
  rw [← hA] at I ⊢
  clear hA A HF
  go_enter Try.func38, Try.ntmps38
  go_wp2_with (go_at_call 75; refine I.out.mono ?_; rintro e w1 ⟨⟨r, rfl, hr⟩, hb⟩; have B := Lib.hid hb; have HR := Lib.hid hr; clear hb hr)
  rw [← HR.out]
  go_ret
  exact ⟨by simp, B.out⟩
end

section
variable {w : World} {v : Value} {ts : List TOut}
set_option maxHeartbeats 2000000 in
theorem ifbadout_any {pr : TOut → Bool} (HF : Hid (∀ (W : World) (V : Nat → Value) (t : TOut), OutCells W V t → Calls Try.prog 74 #[.agg (arr 2 V)] W fun e w' => e = .returned (.bool (pr t)) ∧ Below W.heap.size W w')) (A : Hid (OutsAt w v ts)) :
    Calls Try.prog 97 #[v, .func (.func 74) #[] #[]] w fun e w' => (∃ r : Int, e = .returned (.int .i64 r) ∧ decide (0 ≤ r) = ts.any pr) ∧ Below w.heap.size w w' := by
  obtain ⟨p, g, o, c, V, hv, hc, R0, hi⟩ := A.out
  subst hv
  have RR := Lib.hid R0
  have TT := Lib.hid hi
  have cn : ts.length ≤ c := R0.le
  clear R0 hi A
  obtain ⟨n, hn⟩ : ∃ n, n = ts.length := ⟨_, rfl⟩
  have HN := Lib.hid hn
  rw [← hn] at RR cn hc ⊢
  have hn3 : n ≤ 140737488355328 := by omega
  clear hn hc cn
  go_enter Try.func97, Try.ntmps97
  go_wp2
  go_loopg [8] n (fun k i wr => ∃ j : Nat, j + k = n ∧ i = .int .i64 (j : Int) ∧ Hid ((ts.take j).any pr = false) ∧ Hid (Below w.heap.size w wr))
  case atStart => exact ⟨0, by omega, rfl, Lib.hid (by simp), Lib.hid (Below.refl _ _)⟩
  case round =>
    obtain ⟨j, hj, rfl, F, B⟩ := hrel
    obtain ⟨kk, rfl⟩ : ∃ kk : Nat, kk = gk := ⟨_, rfl⟩
    by_cases hlt : j < n
    · obtain rfl := RR.out.head (by omega)
      have ht : j < ts.length := by rw [← HN.out]; exact hlt
      have EC := Lib.hid ((TT.out j ht).below B.out)
      have AN := Lib.hid (show (ts.take (j + 1)).any pr = ((ts.take j).any pr || pr ts[j]) by rw [take_get ts ht, List.any_append]; simp)
      have YES := Lib.hid (fun h : pr ts[j] = true => (List.any_eq_true.2 ⟨ts[j], List.getElem_mem ht, h⟩ : ts.any pr = true))
      obtain ⟨b, hb⟩ : ∃ b, b = pr ts[j] := ⟨_, rfl⟩
      have CALL := Lib.hid (HF.out _ _ _ EC.out)
      rw [← hb] at AN YES CALL
      clear hb EC
      cases b
      · go_wp2_with (first
          | (refine wpList_ix (k := 2) (j := j) Try.underlying26 (by kernel_rfl) (.tmp 12) (.tmp 13) rfl rfl rfl rfl hlt rfl ?_)
          | (refine wpList_ld 70 (.tmp 14) rfl rfl rfl ((RR.out.below B.out).load hlt Try.underlying70 rfl (by kernel_rfl)) ?_)
          | (go_at_call 74; refine CALL.out.mono ?_; rintro e w1 ⟨rfl, hb⟩; have B1 := Lib.hid (B.out.trans (hb.mono B.out.size)); clear hb B))
        go_roundg (n - (j + 1))
        case measure => omega
        case rel => exact ⟨j + 1, by omega, by go_num, Lib.hid (by rw [AN.out, F.out]; rfl), B1⟩
      · have Y := Lib.hid (YES.out rfl)
        go_wp2_with (first
          | (refine wpList_ix (k := 2) (j := j) Try.underlying26 (by kernel_rfl) (.tmp 12) (.tmp 13) rfl rfl rfl rfl hlt rfl ?_)
          | (refine wpList_ld 70 (.tmp 14) rfl rfl rfl ((RR.out.below B.out).load hlt Try.underlying70 rfl (by kernel_rfl)) ?_)
          | (go_at_call 74; refine CALL.out.mono ?_; rintro e w1 ⟨rfl, hb⟩; have B1 := Lib.hid (B.out.trans (hb.mono B.out.size)); clear hb B))
        go_ret
        exact ⟨⟨_, rfl, by rw [Y.out]; simp⟩, B1.out⟩
    · obtain rfl : j = n := by omega
      have F2 := Lib.hid (show ts.any pr = false by have := F.out; rwa [HN.out, List.take_length] at this)
      go_wp2
      go_ret
      exact ⟨⟨-1, rfl, by rw [F2.out]; rfl⟩, B.out⟩
set_option maxHeartbeats 2000000 in
theorem cfbadout_any {pr : TOut → Bool} (HF : Hid (∀ (W : World) (V : Nat → Value) (t : TOut), OutCells W V t → Calls Try.prog 74 #[.agg (arr 2 V)] W fun e w' => e = .returned (.bool (pr t)) ∧ Below W.heap.size W w')) (A : Hid (OutsAt w v ts)) :
    Calls Try.prog 73 #[v, .func (.func 74) #[] #[]] w fun e w' => e = .returned (.bool (ts.any pr)) ∧ Below w.heap.size w w' := by
  have I := Lib.hid (ifbadout_any HF A)
  obtain ⟨ANY, hA⟩ : ∃ b, b = ts.any pr := ⟨_, rfl⟩
  rw [← hA] at I ⊢
  clear hA A HF
  go_enter Try.func73, Try.ntmps73
  go_wp2_with (go_at_call 97; refine I.out.mono ?_; rintro e w1 ⟨⟨r, rfl, hr⟩, hb⟩; have B := Lib.hid hb; have HR := Lib.hid hr; clear hb hr)
  rw [← HR.out]
  go_ret
  exact ⟨by simp, B.out⟩
end

section
variable {w : World} {v : Value} {ts : List (List Nat)}
set_option maxHeartbeats 2000000 in
theorem iftoolong_any {pr : (List Nat) → Bool} (HF : Hid (∀ (W : World) (v : Value) (t : (List Nat)), TextAt W v t → Calls Try.prog 95 #[v] W fun e w' => e = .returned (.bool (pr t)) ∧ Below W.heap.size W w')) (A : Hid (TextsAt w v ts)) :
    Calls Try.prog 104 #[v, .func (.func 95) #[] #[]] w fun e w' => (∃ r : Int, e = .returned (.int .i64 r) ∧ decide (0 ≤ r) = ts.any pr) ∧ Below w.heap.size w w' := by
  obtain ⟨p, g, o, c, V, hv, hc, R0, hi⟩ := A.out
  subst hv
  have RR := Lib.hid R0
  have TT := Lib.hid hi
  have cn : ts.length ≤ c := R0.le
  clear R0 hi A
  obtain ⟨n, hn⟩ : ∃ n, n = ts.length := ⟨_, rfl⟩
  have HN := Lib.hid hn
  rw [← hn] at RR cn hc ⊢
  have hn3 : n ≤ 140737488355328 := by omega
  clear hn hc cn
  go_enter Try.func104, Try.ntmps104
  go_wp2
  go_loopg [8] n (fun k i wr => ∃ j : Nat, j + k = n ∧ i = .int .i64 (j : Int) ∧ Hid ((ts.take j).any pr = false) ∧ Hid (Below w.heap.size w wr))
  case atStart => exact ⟨0, by omega, rfl, Lib.hid (by simp), Lib.hid (Below.refl _ _)⟩
  case round =>
    obtain ⟨j, hj, rfl, F, B⟩ := hrel
    obtain ⟨kk, rfl⟩ : ∃ kk : Nat, kk = gk := ⟨_, rfl⟩
    by_cases hlt : j < n
    · obtain rfl := RR.out.head (by omega)
      have ht : j < ts.length := by rw [← HN.out]; exact hlt
      have EC := Lib.hid ((TT.out j ht).below B.out)
      have CC := Lib.hid ((RR.out.below B.out).cell j (by omega))
      have AN := Lib.hid (show (ts.take (j + 1)).any pr = ((ts.take j).any pr || pr ts[j]) by rw [take_get ts ht, List.any_append]; simp)
      have YES := Lib.hid (fun h : pr ts[j] = true => (List.any_eq_true.2 ⟨ts[j], List.getElem_mem ht, h⟩ : ts.any pr = true))
      obtain ⟨b, hb⟩ : ∃ b, b = pr ts[j] := ⟨_, rfl⟩
      have CALL := Lib.hid (HF.out _ _ _ EC.out)
      rw [← hb] at AN YES CALL
      clear hb EC
      cases b
      · go_wp2_with (first
          | (refine wpList_ix (k := 1) (j := j) Try.underlying65 (by kernel_rfl) (.tmp 12) (.tmp 13) rfl rfl rfl rfl hlt rfl ?_; rw [Nat.mul_one])
          | (refine wpList_ld1 22 (.tmp 14) rfl rfl rfl Try.underlying22 rfl CC.out ?_)
          | (go_at_call 95; refine CALL.out.mono ?_; rintro e w1 ⟨rfl, hb⟩; have B1 := Lib.hid (B.out.trans (hb.mono B.out.size)); clear hb B))
        go_roundg (n - (j + 1))
        case measure => omega
        case rel => exact ⟨j + 1, by omega, by go_num, Lib.hid (by rw [AN.out, F.out]; rfl), B1⟩
      · have Y := Lib.hid (YES.out rfl)
        go_wp2_with (first
          | (refine wpList_ix (k := 1) (j := j) Try.underlying65 (by kernel_rfl) (.tmp 12) (.tmp 13) rfl rfl rfl rfl hlt rfl ?_; rw [Nat.mul_one])
          | (refine wpList_ld1 22 (.tmp 14) rfl rfl rfl Try.underlying22 rfl CC.out ?_)
          | (go_at_call 95; refine CALL.out.mono ?_; rintro e w1 ⟨rfl, hb⟩; have B1 := Lib.hid (B.out.trans (hb.mono B.out.size)); clear hb B))
        go_ret
        exact ⟨⟨_, rfl, by rw [Y.out]; simp⟩, B1.out⟩
    · obtain rfl : j = n := by omega
      have F2 := Lib.hid (show ts.any pr = false by have := F.out; rwa [HN.out, List.take_length] at this)
      go_wp2
      go_ret
      exact ⟨⟨-1, rfl, by rw [F2.out]; rfl⟩, B.out⟩
set_option maxHeartbeats 2000000 in
theorem cftoolong_any {pr : (List Nat) → Bool} (HF : Hid (∀ (W : World) (v : Value) (t : (List Nat)), TextAt W v t → Calls Try.prog 95 #[v] W fun e w' => e = .returned (.bool (pr t)) ∧ Below W.heap.size W w')) (A : Hid (TextsAt w v ts)) :
    Calls Try.prog 96 #[v, .func (.func 95) #[] #[]] w fun e w' => e = .returned (.bool (ts.any pr)) ∧ Below w.heap.size w w' := by
  have I := Lib.hid (iftoolong_any HF A)
  obtain ⟨ANY, hA⟩ : ∃ b, b = ts.any pr := ⟨_, rfl⟩
  rw [← hA] at I ⊢
  clear hA A HF
  go_enter Try.func96, Try.ntmps96
  go_wp2_with (go_at_call 104; refine I.out.mono ?_; rintro e w1 ⟨⟨r, rfl, hr⟩, hb⟩; have B := Lib.hid hb; have HR := Lib.hid hr; clear hb hr)
  rw [← HR.out]
  go_ret
  exact ⟨by simp, B.out⟩
end
end Go.Proofs.Ytllndneplkigpaa
