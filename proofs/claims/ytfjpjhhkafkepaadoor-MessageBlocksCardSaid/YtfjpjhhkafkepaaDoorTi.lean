/- Whether an element of a list is so: slices.IndexFunc, slices.ContainsFunc. -/
import Derived.Test.YtfjpjhhkafkepaaDoorZA
set_option linter.unusedSimpArgs false
set_option linter.unusedVariables false
set_option maxRecDepth 100000
namespace Go.Proofs.YtfjpjhhkafkepaaDoor
open Go.RowKit Go.Lib Go.Sort

section
variable {w : World} {v : Value} {ts : List TIn}
set_option maxHeartbeats 2000000 in
theorem ifbadin_any {pr : TIn → Bool} (HF : Hid (∀ (W : World) (V : Nat → Value) (t : TIn), InCells W V t → Calls Tryd.prog 69 #[.agg (arr 36 V)] W fun e w' => e = .returned (.bool (pr t)) ∧ Below W.heap.size W w')) (A : Hid (InsAt w v ts)) :
    Calls Tryd.prog 72 #[v, .func (.func 69) #[] #[]] w fun e w' => (∃ r : Int, e = .returned (.int .i64 r) ∧ decide (0 ≤ r) = ts.any pr) ∧ Below w.heap.size w w' := by
  obtain ⟨p, g, o, c, V, hv, hc, R0, hi⟩ := A.out
  subst hv
  have RR := Lib.hid R0
  have TT := Lib.hid hi
  have cn : ts.length ≤ c := R0.le
  clear R0 hi A
  obtain ⟨n, hn⟩ : ∃ n, n = ts.length := ⟨_, rfl⟩
  have HN := Lib.hid hn
  rw [← hn] at RR cn hc ⊢
  have hn3 : n ≤ 140737488355328 := by omega
  clear hn hc cn
  go_enter Tryd.func72, Tryd.ntmps72
  go_wp2
  go_loopg [8] n (fun k i wr => ∃ j : Nat, j + k = n ∧ i = .int .i64 (j : Int) ∧ Hid ((ts.take j).any pr = false) ∧ Hid (Below w.heap.size w wr))
  case atStart => exact ⟨0, by omega, rfl, Lib.hid (by simp), Lib.hid (Below.refl _ _)⟩
  case round =>
    obtain ⟨j, hj, rfl, F, B⟩ := hrel
    obtain ⟨kk, rfl⟩ : ∃ kk : Nat, kk = gk := ⟨_, rfl⟩
    by_cases hlt : j < n
    · obtain rfl := RR.out.head (by omega)
      have ht : j < ts.length := by rw [← HN.out]; exact hlt
      have EC := Lib.hid ((TT.out j ht).below B.out)
      have AN := Lib.hid (show (ts.take (j + 1)).any pr = ((ts.take j).any pr || pr ts[j]) by rw [take_get ts ht, List.any_append]; simp)
      have YES := Lib.hid (fun h : pr ts[j] = true => (List.any_eq_true.2 ⟨ts[j], List.getElem_mem ht, h⟩ : ts.any pr = true))
      obtain ⟨b, hb⟩ : ∃ b, b = pr ts[j] := ⟨_, rfl⟩
      have CALL := Lib.hid (HF.out _ _ _ EC.out)
      rw [← hb] at AN YES CALL
      clear hb EC
      cases b
      · go_wp2_with (first
          | (refine wpList_ix (k := 36) (j := j) Tryd.underlying55 (by kernel_rfl) (.tmp 12) (.tmp 13) rfl rfl rfl rfl hlt rfl ?_)
          | (refine wpList_ld 75 (.tmp 14) rfl rfl rfl ((RR.out.below B.out).load hlt Tryd.underlying75 rfl (by kernel_rfl)) ?_)
          | (go_at_call 69; refine CALL.out.mono ?_; rintro e w1 ⟨rfl, hb⟩; have B1 := Lib.hid (B.out.trans (hb.mono B.out.size)); clear hb B))
        go_roundg (n - (j + 1))
        case measure => omega
        case rel => exact ⟨j + 1, by omega, by go_num, Lib.hid (by rw [AN.out, F.out]; rfl), B1⟩
      · have Y := Lib.hid (YES.out rfl)
        go_wp2_with (first
          | (refine wpList_ix (k := 36) (j := j) Tryd.underlying55 (by kernel_rfl) (.tmp 12) (.tmp 13) rfl rfl rfl rfl hlt rfl ?_)
          | (refine wpList_ld 75 (.tmp 14) rfl rfl rfl ((RR.out.below B.out).load hlt Tryd.underlying75 rfl (by kernel_rfl)) ?_)
          | (go_at_call 69; refine CALL.out.mono ?_; rintro e w1 ⟨rfl, hb⟩; have B1 := Lib.hid (B.out.trans (hb.mono B.out.size)); clear hb B))
        go_ret
        exact ⟨⟨_, rfl, by rw [Y.out]; simp⟩, B1.out⟩
    · obtain rfl : j = n := by omega
      have F2 := Lib.hid (show ts.any pr = false by have := F.out; rwa [HN.out, List.take_length] at this)
      go_wp2
      go_ret
      exact ⟨⟨-1, rfl, by rw [F2.out]; rfl⟩, B.out⟩
set_option maxHeartbeats 2000000 in
theorem cfbadin_any {pr : TIn → Bool} (HF : Hid (∀ (W : World) (V : Nat → Value) (t : TIn), InCells W V t → Calls Tryd.prog 69 #[.agg (arr 36 V)] W fun e w' => e = .returned (.bool (pr t)) ∧ Below W.heap.size W w')) (A : Hid (InsAt w v ts)) :
    Calls Tryd.prog 56 #[v, .func (.func 69) #[] #[]] w fun e w' => e = .returned (.bool (ts.any pr)) ∧ Below w.heap.size w w' := by
  have I := Lib.hid (ifbadin_any HF A)
  obtain ⟨ANY, hA⟩ : ∃ b, b = ts.any pr := ⟨_, rfl⟩
  rw [← hA] at I ⊢
  clear hA A HF
  go_enter Tryd.func56, Tryd.ntmps56
  go_wp2_with (go_at_call 72; refine I.out.mono ?_; rintro e w1 ⟨⟨r, rfl, hr⟩, hb⟩; have B := Lib.hid hb; have HR := Lib.hid hr; clear hb hr)
  rw [← HR.out]
  go_ret
  exact ⟨by simp, B.out⟩
end

section
variable {w : World} {v : Value} {ts : List TIn}
set_option maxHeartbeats 2000000 in
theorem ifhasw_any {pr : TIn → Bool} (HF : Hid (∀ (W : World) (V : Nat → Value) (t : TIn), InCells W V t → Calls Tryd.prog 57 #[.agg (arr 36 V)] W fun e w' => e = .returned (.bool (pr t)) ∧ Below W.heap.size W w')) (A : Hid (InsAt w v ts)) :
    Calls Tryd.prog 72 #[v, .func (.func 57) #[] #[]] w fun e w' => (∃ r : Int, e = .returned (.int .i64 r) ∧ decide (0 ≤ r) = ts.any pr) ∧ Below w.heap.size w w' := by
  obtain ⟨p, g, o, c, V, hv, hc, R0, hi⟩ := A.out
  subst hv
  have RR := Lib.hid R0
  have TT := Lib.hid hi
  have cn : ts.length ≤ c := R0.le
  clear R0 hi A
  obtain ⟨n, hn⟩ : ∃ n, n = ts.length := ⟨_, rfl⟩
  have HN := Lib.hid hn
  rw [← hn] at RR cn hc ⊢
  have hn3 : n ≤ 140737488355328 := by omega
  clear hn hc cn
  go_enter Tryd.func72, Tryd.ntmps72
  go_wp2
  go_loopg [8] n (fun k i wr => ∃ j : Nat, j + k = n ∧ i = .int .i64 (j : Int) ∧ Hid ((ts.take j).any pr = false) ∧ Hid (Below w.heap.size w wr))
  case atStart => exact ⟨0, by omega, rfl, Lib.hid (by simp), Lib.hid (Below.refl _ _)⟩
  case round =>
    obtain ⟨j, hj, rfl, F, B⟩ := hrel
    obtain ⟨kk, rfl⟩ : ∃ kk : Nat, kk = gk := ⟨_, rfl⟩
    by_cases hlt : j < n
    · obtain rfl := RR.out.head (by omega)
      have ht : j < ts.length := by rw [← HN.out]; exact hlt
      have EC := Lib.hid ((TT.out j ht).below B.out)
      have AN := Lib.hid (show (ts.take (j + 1)).any pr = ((ts.take j).any pr || pr ts[j]) by rw [take_get ts ht, List.any_append]; simp)
      have YES := Lib.hid (fun h : pr ts[j] = true => (List.any_eq_true.2 ⟨ts[j], List.getElem_mem ht, h⟩ : ts.any pr = true))
      obtain ⟨b, hb⟩ : ∃ b, b = pr ts[j] := ⟨_, rfl⟩
      have CALL := Lib.hid (HF.out _ _ _ EC.out)
      rw [← hb] at AN YES CALL
      clear hb EC
      cases b
      · go_wp2_with (first
          | (refine wpList_ix (k := 36) (j := j) Tryd.underlying55 (by kernel_rfl) (.tmp 12) (.tmp 13) rfl rfl rfl rfl hlt rfl ?_)
          | (refine wpList_ld 75 (.tmp 14) rfl rfl rfl ((RR.out.below B.out).load hlt Tryd.underlying75 rfl (by kernel_rfl)) ?_)
          | (go_at_call 57; refine CALL.out.mono ?_; rintro e w1 ⟨rfl, hb⟩; have B1 := Lib.hid (B.out.trans (hb.mono B.out.size)); clear hb B))
        go_roundg (n - (j + 1))
        case measure => omega
        case rel => exact ⟨j + 1, by omega, by go_num, Lib.hid (by rw [AN.out, F.out]; rfl), B1⟩
      · have Y := Lib.hid (YES.out rfl)
        go_wp2_with (first
          | (refine wpList_ix (k := 36) (j := j) Tryd.underlying55 (by kernel_rfl) (.tmp 12) (.tmp 13) rfl rfl rfl rfl hlt rfl ?_)
          | (refine wpList_ld 75 (.tmp 14) rfl rfl rfl ((RR.out.below B.out).load hlt Tryd.underlying75 rfl (by kernel_rfl)) ?_)
          | (go_at_call 57; refine CALL.out.mono ?_; rintro e w1 ⟨rfl, hb⟩; have B1 := Lib.hid (B.out.trans (hb.mono B.out.size)); clear hb B))
        go_ret
        exact ⟨⟨_, rfl, by rw [Y.out]; simp⟩, B1.out⟩
    · obtain rfl : j = n := by omega
      have F2 := Lib.hid (show ts.any pr = false by have := F.out; rwa [HN.out, List.take_length] at this)
      go_wp2
      go_ret
      exact ⟨⟨-1, rfl, by rw [F2.out]; rfl⟩, B.out⟩
set_option maxHeartbeats 2000000 in
theorem cfhasw_any {pr : TIn → Bool} (HF : Hid (∀ (W : World) (V : Nat → Value) (t : TIn), InCells W V t → Calls Tryd.prog 57 #[.agg (arr 36 V)] W fun e w' => e = .returned (.bool (pr t)) ∧ Below W.heap.size W w')) (A : Hid (InsAt w v ts)) :
    Calls Tryd.prog 56 #[v, .func (.func 57) #[] #[]] w fun e w' => e = .returned (.bool (ts.any pr)) ∧ Below w.heap.size w w' := by
  have I := Lib.hid (ifhasw_any HF A)
  obtain ⟨ANY, hA⟩ : ∃ b, b = ts.any pr := ⟨_, rfl⟩
  rw [← hA] at I ⊢
  clear hA A HF
  go_enter Tryd.func56, Tryd.ntmps56
  go_wp2_with (go_at_call 72; refine I.out.mono ?_; rintro e w1 ⟨⟨r, rfl, hr⟩, hb⟩; have B := Lib.hid hb; have HR := Lib.hid hr; clear hb hr)
  rw [← HR.out]
  go_ret
  exact ⟨by simp, B.out⟩
end

section
variable {w : World} {v : Value} {ts : List TOut}
set_option maxHeartbeats 2000000 in
theorem ifbadout_any {pr : TOut → Bool} (HF : Hid (∀ (W : World) (V : Nat → Value) (t : TOut), OutCells W V t → Calls Tryd.prog 71 #[.agg (arr 2 V)] W fun e w' => e = .returned (.bool (pr t)) ∧ Below W.heap.size W w')) (A : Hid (OutsAt w v ts)) :
    Calls Tryd.prog 80 #[v, .func (.func 71) #[] #[]] w fun e w' => (∃ r : Int, e = .returned (.int .i64 r) ∧ decide (0 ≤ r) = ts.any pr) ∧ Below w.heap.size w w' := by
  obtain ⟨p, g, o, c, V, hv, hc, R0, hi⟩ := A.out
  subst hv
  have RR := Lib.hid R0
  have TT := Lib.hid hi
  have cn : ts.length ≤ c := R0.le
  clear R0 hi A
  obtain ⟨n, hn⟩ : ∃ n, n = ts.length := ⟨_, rfl⟩
  have HN := Lib.hid hn
  rw [← hn] at RR cn hc ⊢
  have hn3 : n ≤ 140737488355328 := by omega
  clear hn hc cn
  go_enter Tryd.func80, Tryd.ntmps80
  go_wp2
  go_loopg [8] n (fun k i wr => ∃ j : Nat, j + k = n ∧ i = .int .i64 (j : Int) ∧ Hid ((ts.take j).any pr = false) ∧ Hid (Below w.heap.size w wr))
  case atStart => exact ⟨0, by omega, rfl, Lib.hid (by simp), Lib.hid (Below.refl _ _)⟩
  case round =>
    obtain ⟨j, hj, rfl, F, B⟩ := hrel
    obtain ⟨kk, rfl⟩ : ∃ kk : Nat, kk = gk := ⟨_, rfl⟩
    by_cases hlt : j < n
    · obtain rfl := RR.out.head (by omega)
      have ht : j < ts.length := by rw [← HN.out]; exact hlt
      have EC := Lib.hid ((TT.out j ht).below B.out)
      have AN := Lib.hid (show (ts.take (j + 1)).any pr = ((ts.take j).any pr || pr ts[j]) by rw [take_get ts ht, List.any_append]; simp)
      have YES := Lib.hid (fun h : pr ts[j] = true => (List.any_eq_true.2 ⟨ts[j], List.getElem_mem ht, h⟩ : ts.any pr = true))
      obtain ⟨b, hb⟩ : ∃ b, b = pr ts[j] := ⟨_, rfl⟩
      have CALL := Lib.hid (HF.out _ _ _ EC.out)
      rw [← hb] at AN YES CALL
      clear hb EC
      cases b
      · go_wp2_with (first
          | (refine wpList_ix (k := 2) (j := j) Tryd.underlying56 (by kernel_rfl) (.tmp 12) (.tmp 13) rfl rfl rfl rfl hlt rfl ?_)
          | (refine wpList_ld 77 (.tmp 14) rfl rfl rfl ((RR.out.below B.out).load hlt Tryd.underlying77 rfl (by kernel_rfl)) ?_)
          | (go_at_call 71; refine CALL.out.mono ?_; rintro e w1 ⟨rfl, hb⟩; have B1 := Lib.hid (B.out.trans (hb.mono B.out.size)); clear hb B))
        go_roundg (n - (j + 1))
        case measure => omega
        case rel => exact ⟨j + 1, by omega, by go_num, Lib.hid (by rw [AN.out, F.out]; rfl), B1⟩
      · have Y := Lib.hid (YES.out rfl)
        go_wp2_with (first
          | (refine wpList_ix (k := 2) (j := j) Tryd.underlying56 (by kernel_rfl) (.tmp 12) (.tmp 13) rfl rfl rfl rfl hlt rfl ?_)
          | (refine wpList_ld 77 (.tmp 14) rfl rfl rfl ((RR.out.below B.out).load hlt Tryd.underlying77 rfl (by kernel_rfl)) ?_)
          | (go_at_call 71; refine CALL.out.mono ?_; rintro e w1 ⟨rfl, hb⟩; have B1 := Lib.hid (B.out.trans (hb.mono B.out.size)); clear hb B))
        go_ret
        exact ⟨⟨_, rfl, by rw [Y.out]; simp⟩, B1.out⟩
    · obtain rfl : j = n := by omega
      have F2 := Lib.hid (show ts.any pr = false by have := F.out; rwa [HN.out, List.take_length] at this)
      go_wp2
      go_ret
      exact ⟨⟨-1, rfl, by rw [F2.out]; rfl⟩, B.out⟩
set_option maxHeartbeats 2000000 in
theorem cfbadout_any {pr : TOut → Bool} (HF : Hid (∀ (W : World) (V : Nat → Value) (t : TOut), OutCells W V t → Calls Tryd.prog 71 #[.agg (arr 2 V)] W fun e w' => e = .returned (.bool (pr t)) ∧ Below W.heap.size W w')) (A : Hid (OutsAt w v ts)) :
    Calls Tryd.prog 70 #[v, .func (.func 71) #[] #[]] w fun e w' => e = .returned (.bool (ts.any pr)) ∧ Below w.heap.size w w' := by
  have I := Lib.hid (ifbadout_any HF A)
  obtain ⟨ANY, hA⟩ : ∃ b, b = ts.any pr := ⟨_, rfl⟩
  rw [← hA] at I ⊢
  clear hA A HF
  go_enter Tryd.func70, Tryd.ntmps70
  go_wp2_with (go_at_call 80; refine I.out.mono ?_; rintro e w1 ⟨⟨r, rfl, hr⟩, hb⟩; have B := Lib.hid hb; have HR := Lib.hid hr; clear hb hr)
  rw [← HR.out]
  go_ret
  exact ⟨by simp, B.out⟩
end

section
variable {w : World} {v : Value} {ts : List (List Nat)}
set_option maxHeartbeats 2000000 in
theorem iftoolong_any {pr : (List Nat) → Bool} (HF : Hid (∀ (W : World) (v : Value) (t : (List Nat)), TextAt W v t → Calls Tryd.prog 78 #[v] W fun e w' => e = .returned (.bool (pr t)) ∧ Below W.heap.size W w')) (A : Hid (TextsAt w v ts)) :
    Calls Tryd.prog 85 #[v, .func (.func 78) #[] #[]] w fun e w' => (∃ r : Int, e = .returned (.int .i64 r) ∧ decide (0 ≤ r) = ts.any pr) ∧ Below w.heap.size w w' := by
  obtain ⟨p, g, o, c, V, hv, hc, R0, hi⟩ := A.out
  subst hv
  have RR := Lib.hid R0
  have TT := Lib.hid hi
  have cn : ts.length ≤ c := R0.le
  clear R0 hi A
  obtain ⟨n, hn⟩ : ∃ n, n = ts.length := ⟨_, rfl⟩
  have HN := Lib.hid hn
  rw [← hn] at RR cn hc ⊢
  have hn3 : n ≤ 140737488355328 := by omega
  clear hn hc cn
  go_enter Tryd.func85, Tryd.ntmps85
  go_wp2
  go_loopg [8] n (fun k i wr => ∃ j : Nat, j + k = n ∧ i = .int .i64 (j : Int) ∧ Hid ((ts.take j).any pr = false) ∧ Hid (Below w.heap.size w wr))
  case atStart => exact ⟨0, by omega, rfl, Lib.hid (by simp), Lib.hid (Below.refl _ _)⟩
  case round =>
    obtain ⟨j, hj, rfl, F, B⟩ := hrel
    obtain ⟨kk, rfl⟩ : ∃ kk : Nat, kk = gk := ⟨_, rfl⟩
    by_cases hlt : j < n
    · obtain rfl := RR.out.head (by omega)
      have ht : j < ts.length := by rw [← HN.out]; exact hlt
      have EC := Lib.hid ((TT.out j ht).below B.out)
      have CC := Lib.hid ((RR.out.below B.out).cell j (by omega))
      have AN := Lib.hid (show (ts.take (j + 1)).any pr = ((ts.take j).any pr || pr ts[j]) by rw [take_get ts ht, List.any_append]; simp)
      have YES := Lib.hid (fun h : pr ts[j] = true => (List.any_eq_true.2 ⟨ts[j], List.getElem_mem ht, h⟩ : ts.any pr = true))
      obtain ⟨b, hb⟩ : ∃ b, b = pr ts[j] := ⟨_, rfl⟩
      have CALL := Lib.hid (HF.out _ _ _ EC.out)
      rw [← hb] at AN YES CALL
      clear hb EC
      cases b
      · go_wp2_with (first
          | (refine wpList_ix (k := 1) (j := j) Tryd.underlying73 (by kernel_rfl) (.tmp 12) (.tmp 13) rfl rfl rfl rfl hlt rfl ?_; rw [Nat.mul_one])
          | (refine wpList_ld1 30 (.tmp 14) rfl rfl rfl Tryd.underlying30 rfl CC.out ?_)
          | (go_at_call 78; refine CALL.out.mono ?_; rintro e w1 ⟨rfl, hb⟩; have B1 := Lib.hid (B.out.trans (hb.mono B.out.size)); clear hb B))
        go_roundg (n - (j + 1))
        case measure => omega
        case rel => exact ⟨j + 1, by omega, by go_num, Lib.hid (by rw [AN.out, F.out]; rfl), B1⟩
      · have Y := Lib.hid (YES.out rfl)
        go_wp2_with (first
          | (refine wpList_ix (k := 1) (j := j) Tryd.underlying73 (by kernel_rfl) (.tmp 12) (.tmp 13) rfl rfl rfl rfl hlt rfl ?_; rw [Nat.mul_one])
          | (refine wpList_ld1 30 (.tmp 14) rfl rfl rfl Tryd.underlying30 rfl CC.out ?_)
          | (go_at_call 78; refine CALL.out.mono ?_; rintro e w1 ⟨rfl, hb⟩; have B1 := Lib.hid (B.out.trans (hb.mono B.out.size)); clear hb B))
        go_ret
        exact ⟨⟨_, rfl, by rw [Y.out]; simp⟩, B1.out⟩
    · obtain rfl : j = n := by omega
      have F2 := Lib.hid (show ts.any pr = false by have := F.out; rwa [HN.out, List.take_length] at this)
      go_wp2
      go_ret
      exact ⟨⟨-1, rfl, by rw [F2.out]; rfl⟩, B.out⟩
set_option maxHeartbeats 2000000 in
theorem cftoolong_any {pr : (List Nat) → Bool} (HF : Hid (∀ (W : World) (v : Value) (t : (List Nat)), TextAt W v t → Calls Tryd.prog 78 #[v] W fun e w' => e = .returned (.bool (pr t)) ∧ Below W.heap.size W w')) (A : Hid (TextsAt w v ts)) :
    Calls Tryd.prog 79 #[v, .func (.func 78) #[] #[]] w fun e w' => e = .returned (.bool (ts.any pr)) ∧ Below w.heap.size w w' := by
  have I := Lib.hid (iftoolong_any HF A)
  obtain ⟨ANY, hA⟩ : ∃ b, b = ts.any pr := ⟨_, rfl⟩
  rw [← hA] at I ⊢
  clear hA A HF
  go_enter Tryd.func79, Tryd.ntmps79
  go_wp2_with (go_at_call 85; refine I.out.mono ?_; rintro e w1 ⟨⟨r, rfl, hr⟩, hb⟩; have B := Lib.hid hb; have HR := Lib.hid hr; clear hb hr)
  rw [← HR.out]
  go_ret
  exact ⟨by simp, B.out⟩
end
end Go.Proofs.YtfjpjhhkafkepaaDoor

