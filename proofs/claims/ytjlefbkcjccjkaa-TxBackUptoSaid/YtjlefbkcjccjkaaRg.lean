/- parts.Part of counts. -/
import Derived.Test.YtjlefbkcjccjkaaRf
import Derived.Test.YtjlefbkcjccjkaaSh
set_option linter.unusedSimpArgs false
set_option linter.unusedVariables false
set_option maxRecDepth 100000
namespace Go.Proofs.Ytjlefbkcjccjkaa
open Go.RowKit Go.Lib Go.Sort

theorem dec_min (n : Nat) (x : Nat → Nat) : dec (min 9 n) x = dec n x := by
  have := wOf_bd (x 0)
  unfold dec
  have e : (min 9 n < wOf (x 0) ∨ min 9 n = 0) ↔ (n < wOf (x 0) ∨ n = 0) := by omega
  simp only [e]
theorem dec_zero {n : Nat} {x : Nat → Nat} (h : dec n x = 0) : wOf (x 0) ≤ n := by
  unfold dec at h
  split at h
  · cases h
  · omega
theorem dec_lit {n : Nat} {x : Nat → Nat} (h : dec n x ≠ 0) : dec n x = 50 ∨ dec n x = 51 := by
  rcases dec_cases n x with h | h | h | h
  · exact .inl h.2
  · exact .inl h.2.2
  · exact .inr h.2.2
  · exact absurd h.2.2 (by assumption)
section
variable {D W : World} {b : Nat} {u : Value} {xs : List Nat}
/-- What Part shows to a decoder. -/
theorem Rd.shown (R : Rd D W b u xs) (M : Nat) : ∃ p g o c n k p1, u = .slice p n c ∧ n = xs.length ∧ n ≤ 140737488351232 ∧ min ((M : Nat) : Int) ((n : Nat) : Int) = ((k : Nat) : Int) ∧ k = min M n ∧ k ≤ c ∧ k ≤ n ∧ sliced p 0 k c 1 = .slice p1 k c ∧ Row D p1 g o k c (lf xs) := by
  obtain ⟨p, g, o, c, rfl, hl, RW⟩ := R.dat
  have hk : min M xs.length ≤ xs.length := Nat.min_le_right _ _
  obtain ⟨p1, e1, R1⟩ := RW.slice (l := 0) (h := min M xs.length) (m := c) (by omega) hk (Nat.le_trans hk RW.le) (Nat.le_refl _)
  refine ⟨p, g, o, c, xs.length, min M xs.length, p1, rfl, rfl, hl, by omega, rfl, Nat.le_trans hk RW.le, hk, ?_, ?_⟩
  · rw [e1, Nat.sub_zero, Nat.sub_zero]
  · rw [Nat.sub_zero, Nat.sub_zero, Nat.add_zero] at R1
    exact R1.to (fun i _ => by rw [Nat.zero_add]) RW.byte

set_option maxHeartbeats 4000000 in
theorem partn_bad (R : Hid (Rd D W b u xs)) {e0 : Nat} (hd : dec xs.length (lf xs) = e0) (he : e0 = 50 ∨ e0 = 51) : Calls Try.prog 104 #[.pointer (some ⟨b, 0, none⟩), .int .i64 9, .func (.func 105) #[] #[]] W (RdPost D W b (fun _ v a => v = .int .u64 ((a : Nat) : Int)) (pVal xs)) := by
  obtain ⟨p, g, o, c, n, k, p1, rfl, hn, hl, mn, hk, kc, kn, sl, R1⟩ := R.out.shown 9
  have E := Lib.hid R.out.start
  have DK : Hid (dec k (lf xs) = e0) := Lib.hid (by rw [hk, dec_min, hn, hd])
  have PV : Hid (pVal xs = .bad ((e0 : Nat) : Int)) := Lib.hid (by unfold pVal; rw [hd, if_neg (by omega)])
  have MN := Lib.hid mn
  have SL := Lib.hid sl
  have KC := Lib.hid kc
  have RS := Lib.hid R1
  have e1 := Lib.hid (show e0 ≠ 0 by omega)
  have e2 : (((e0 : Nat) : Int) == 0) = false := by simp; omega
  clear hn mn hk kc sl R1 hd he kn
  go_enter Try.func104, Try.ntmps104
  go_upto_region 1 with fail
  go_cut [7] (fun s7 wx => ∃ p1', s7 = .slice p1' k c ∧ p1' = p1 ∧ Hid (Mem (rb W b #[.slice p n c]) [] wx))
  case first =>
    refine wp_region_mem E (by kernel_rfl) ?_
    clear E
    intro wx E0
    refine hm_run 0 11 (.pointer (some ⟨b, 0, none⟩)) rfl rfl (by kernel_rfl) (by kernel_rfl) (by kernel_rfl) (fun _ _ _ h => h) rfl (fun _ _ => rfl) (E0.out) ?_
    try simp only [Act.put, List.getElem_toArray, List.getElem_cons_succ, List.getElem_cons_zero, List.setIfInBounds_toArray, List.set_cons_zero, List.set_cons_succ]
    refine hm_run 1 12 (.pointer (some ⟨b, 0, none⟩)) rfl rfl (by kernel_rfl) (by kernel_rfl) (by kernel_rfl) (fun _ _ _ h => h) rfl (fun _ _ => rfl) (E0.out) ?_
    try simp only [Act.put, List.getElem_toArray, List.getElem_cons_succ, List.getElem_cons_zero, List.setIfInBounds_toArray, List.set_cons_zero, List.set_cons_succ]
    refine hm_run 2 13 (.pointer (some ⟨b, 0, none⟩)) rfl rfl (by kernel_rfl) (by kernel_rfl) (by kernel_rfl) (fun _ _ _ h => h) rfl (fun _ _ => rfl) (E0.out) ?_
    try simp only [Act.put, List.getElem_toArray, List.getElem_cons_succ, List.getElem_cons_zero, List.setIfInBounds_toArray, List.set_cons_zero, List.set_cons_succ]
    refine hm_run 3 14 (.slice p n c) rfl rfl (by kernel_rfl) (by kernel_rfl) (by kernel_rfl) (fun _ _ _ h => h) rfl (fun W' hW => exec_load rfl (run_load_one Try.underlying22 rfl (cell_of_here (hW.rbox R.out.box) 0 rfl))) (E0.out) ?_
    try simp only [Act.put, List.getElem_toArray, List.getElem_cons_succ, List.getElem_cons_zero, List.setIfInBounds_toArray, List.set_cons_zero, List.set_cons_succ]
    refine hm_run 4 15 (.int .i64 9) rfl rfl (by kernel_rfl) (by kernel_rfl) (by kernel_rfl) (fun _ _ _ h => h) rfl (fun _ _ => rfl) (E0.out) ?_
    try simp only [Act.put, List.getElem_toArray, List.getElem_cons_succ, List.getElem_cons_zero, List.setIfInBounds_toArray, List.set_cons_zero, List.set_cons_succ]
    refine hm_run 5 16 (.pointer (some ⟨b, 0, none⟩)) rfl rfl (by kernel_rfl) (by kernel_rfl) (by kernel_rfl) (fun _ _ _ h => h) rfl (fun _ _ => rfl) (E0.out) ?_
    try simp only [Act.put, List.getElem_toArray, List.getElem_cons_succ, List.getElem_cons_zero, List.setIfInBounds_toArray, List.set_cons_zero, List.set_cons_succ]
    refine hm_run 6 17 (.pointer (some ⟨b, 0, none⟩)) rfl rfl (by kernel_rfl) (by kernel_rfl) (by kernel_rfl) (fun _ _ _ h => h) rfl (fun _ _ => rfl) (E0.out) ?_
    try simp only [Act.put, List.getElem_toArray, List.getElem_cons_succ, List.getElem_cons_zero, List.setIfInBounds_toArray, List.set_cons_zero, List.set_cons_succ]
    refine hm_run 7 18 (.pointer (some ⟨b, 0, none⟩)) rfl rfl (by kernel_rfl) (by kernel_rfl) (by kernel_rfl) (fun _ _ _ h => h) rfl (fun _ _ => rfl) (E0.out) ?_
    try simp only [Act.put, List.getElem_toArray, List.getElem_cons_succ, List.getElem_cons_zero, List.setIfInBounds_toArray, List.set_cons_zero, List.set_cons_succ]
    refine hm_run 8 19 (.slice p n c) rfl rfl (by kernel_rfl) (by kernel_rfl) (by kernel_rfl) (fun _ _ _ h => h) rfl (fun W' hW => exec_load rfl (run_load_one Try.underlying22 rfl (cell_of_here (hW.rbox R.out.box) 0 rfl))) (E0.out) ?_
    try simp only [Act.put, List.getElem_toArray, List.getElem_cons_succ, List.getElem_cons_zero, List.setIfInBounds_toArray, List.set_cons_zero, List.set_cons_succ]
    refine hm_run 9 20 (.int .i64 ((n : Nat) : Int)) rfl rfl (by kernel_rfl) (by kernel_rfl) (by kernel_rfl) (fun _ _ _ h => h) rfl (fun W' _ => exec_len Try.underlying22 rfl rfl) (E0.out) ?_
    try simp only [Act.put, List.getElem_toArray, List.getElem_cons_succ, List.getElem_cons_zero, List.setIfInBounds_toArray, List.set_cons_zero, List.set_cons_succ]
    refine hm_run 10 21 (.int .i64 ((k : Nat) : Int)) rfl rfl (by kernel_rfl) (by kernel_rfl) (by kernel_rfl) (fun _ _ _ h => h) rfl (fun W' _ => exec_min rfl rfl rfl rfl MN.out) (E0.out) ?_
    try simp only [Act.put, List.getElem_toArray, List.getElem_cons_succ, List.getElem_cons_zero, List.setIfInBounds_toArray, List.set_cons_zero, List.set_cons_succ]
    refine hm_run 11 22 (.slice p1 k c) rfl rfl (by kernel_rfl) (by kernel_rfl) (by kernel_rfl) (fun _ _ _ h => h) rfl (fun W' _ => exec_sl rfl ((run_h KC.out W').trans (by rw [SL.out]))) (E0.out) ?_
    try simp only [Act.put, List.getElem_toArray, List.getElem_cons_succ, List.getElem_cons_zero, List.setIfInBounds_toArray, List.set_cons_zero, List.set_cons_succ]
    refine hm_run 12 7 (.slice p1 k c) rfl rfl (by kernel_rfl) (by kernel_rfl) (by kernel_rfl) (fun _ _ _ h => h) rfl (fun _ _ => rfl) (E0.out) ?_
    try simp only [Act.put, List.getElem_toArray, List.getElem_cons_succ, List.getElem_cons_zero, List.setIfInBounds_toArray, List.set_cons_zero, List.set_cons_succ]
    refine wpAnyH_done (by kernel_rfl) ?_ _
    go_wp2_with fail
    go_meet
    exact ⟨p1, rfl, rfl, E0⟩
  case rest =>
    obtain ⟨_, rfl, rfl, E⟩ := hcut
    go_wp2_with (first
      | (go_at_call 105; refine (decode_bad (Lib.hid (RS.out.below (only_old R.out E.out.ronly))) DK e1.out).mono ?_; rintro e w1 ⟨rfl, hb⟩; replace E := Lib.hid (E.out.call hb); clear hb)
      | (go_at_call 67; refine (need_bad _ _ _).mono ?_; rintro e w2 ⟨rfl, rfl⟩))
    exact ⟨rfl, RdPost.bad PV.out E.out.ronly⟩
set_option maxHeartbeats 4000000 in
theorem partn_good (R : Hid (Rd D W b u xs)) (hd : dec xs.length (lf xs) = 0) : Calls Try.prog 104 #[.pointer (some ⟨b, 0, none⟩), .int .i64 9, .func (.func 105) #[] #[]] W (RdPost D W b (fun _ v a => v = .int .u64 ((a : Nat) : Int)) (pVal xs)) := by
  have hw := dec_zero hd
  obtain ⟨q, cq, hq, _⟩ := R.out.dat.slice
  obtain ⟨p3, m3, c3, s3, A3⟩ := (show TextAt D (.slice q xs.length cq) xs by rw [← hq]; exact R.out.dat).drop hw
  obtain ⟨p, g, o, c, n, k, p1, rfl, hn, hl, mn, hk, kc, kn, sl, R1⟩ := R.out.shown 9
  injection hq with q1 q2 q3
  subst q1 q3
  have E := Lib.hid R.out.start
  have DK : Hid (dec k (lf xs) = 0) := Lib.hid (by rw [hk, dec_min, hn, hd])
  have PV : Hid (pVal xs = .good (val (lf xs)) (xs.drop (wOf (lf xs 0)))) := Lib.hid (by unfold pVal; rw [if_pos hd])
  have hk9 : wOf (lf xs 0) ≤ k := by have := (wOf_bd (lf xs 0)).2; omega
  rw [← hn] at s3 hw
  have MN := Lib.hid mn
  have SL := Lib.hid sl
  have S3 := Lib.hid s3
  have T3 := Lib.hid A3
  have KC := Lib.hid kc
  have RS := Lib.hid R1
  obtain ⟨o9, ho9⟩ : ∃ o9, o9 = wOf (lf xs 0) := ⟨_, rfl⟩
  rw [← ho9] at hk9 hw S3
  obtain ⟨k9, hk9'⟩ : ∃ k9, k9 = k - o9 := ⟨_, rfl⟩
  have K9 : Hid (IntKind.i64.wrap ((k : Int) - (k9 : Int)) = ((o9 : Nat) : Int)) := Lib.hid (by rw [IntKind.wrap_i64]; omega)
  have HO9 := Lib.hid ho9
  have HK9 := Lib.hid hk9'
  have L9 := Lib.hid hw
  clear hn mn hk kc sl R1 hd s3 A3 ho9 hk9' q2 hk9 hw
  go_enter Try.func104, Try.ntmps104
  go_upto_region 1 with fail
  go_cut [7] (fun s7 wx => ∃ p1', s7 = .slice p1' k c ∧ p1' = p1 ∧ Hid (Mem (rb W b #[.slice p n c]) [] wx))
  case first =>
    refine wp_region_mem E (by kernel_rfl) ?_
    clear E
    intro wx E0
    refine hm_run 0 11 (.pointer (some ⟨b, 0, none⟩)) rfl rfl (by kernel_rfl) (by kernel_rfl) (by kernel_rfl) (fun _ _ _ h => h) rfl (fun _ _ => rfl) (E0.out) ?_
    try simp only [Act.put, List.getElem_toArray, List.getElem_cons_succ, List.getElem_cons_zero, List.setIfInBounds_toArray, List.set_cons_zero, List.set_cons_succ]
    refine hm_run 1 12 (.pointer (some ⟨b, 0, none⟩)) rfl rfl (by kernel_rfl) (by kernel_rfl) (by kernel_rfl) (fun _ _ _ h => h) rfl (fun _ _ => rfl) (E0.out) ?_
    try simp only [Act.put, List.getElem_toArray, List.getElem_cons_succ, List.getElem_cons_zero, List.setIfInBounds_toArray, List.set_cons_zero, List.set_cons_succ]
    refine hm_run 2 13 (.pointer (some ⟨b, 0, none⟩)) rfl rfl (by kernel_rfl) (by kernel_rfl) (by kernel_rfl) (fun _ _ _ h => h) rfl (fun _ _ => rfl) (E0.out) ?_
    try simp only [Act.put, List.getElem_toArray, List.getElem_cons_succ, List.getElem_cons_zero, List.setIfInBounds_toArray, List.set_cons_zero, List.set_cons_succ]
    refine hm_run 3 14 (.slice p n c) rfl rfl (by kernel_rfl) (by kernel_rfl) (by kernel_rfl) (fun _ _ _ h => h) rfl (fun W' hW => exec_load rfl (run_load_one Try.underlying22 rfl (cell_of_here (hW.rbox R.out.box) 0 rfl))) (E0.out) ?_
    try simp only [Act.put, List.getElem_toArray, List.getElem_cons_succ, List.getElem_cons_zero, List.setIfInBounds_toArray, List.set_cons_zero, List.set_cons_succ]
    refine hm_run 4 15 (.int .i64 9) rfl rfl (by kernel_rfl) (by kernel_rfl) (by kernel_rfl) (fun _ _ _ h => h) rfl (fun _ _ => rfl) (E0.out) ?_
    try simp only [Act.put, List.getElem_toArray, List.getElem_cons_succ, List.getElem_cons_zero, List.setIfInBounds_toArray, List.set_cons_zero, List.set_cons_succ]
    refine hm_run 5 16 (.pointer (some ⟨b, 0, none⟩)) rfl rfl (by kernel_rfl) (by kernel_rfl) (by kernel_rfl) (fun _ _ _ h => h) rfl (fun _ _ => rfl) (E0.out) ?_
    try simp only [Act.put, List.getElem_toArray, List.getElem_cons_succ, List.getElem_cons_zero, List.setIfInBounds_toArray, List.set_cons_zero, List.set_cons_succ]
    refine hm_run 6 17 (.pointer (some ⟨b, 0, none⟩)) rfl rfl (by kernel_rfl) (by kernel_rfl) (by kernel_rfl) (fun _ _ _ h => h) rfl (fun _ _ => rfl) (E0.out) ?_
    try simp only [Act.put, List.getElem_toArray, List.getElem_cons_succ, List.getElem_cons_zero, List.setIfInBounds_toArray, List.set_cons_zero, List.set_cons_succ]
    refine hm_run 7 18 (.pointer (some ⟨b, 0, none⟩)) rfl rfl (by kernel_rfl) (by kernel_rfl) (by kernel_rfl) (fun _ _ _ h => h) rfl (fun _ _ => rfl) (E0.out) ?_
    try simp only [Act.put, List.getElem_toArray, List.getElem_cons_succ, List.getElem_cons_zero, List.setIfInBounds_toArray, List.set_cons_zero, List.set_cons_succ]
    refine hm_run 8 19 (.slice p n c) rfl rfl (by kernel_rfl) (by kernel_rfl) (by kernel_rfl) (fun _ _ _ h => h) rfl (fun W' hW => exec_load rfl (run_load_one Try.underlying22 rfl (cell_of_here (hW.rbox R.out.box) 0 rfl))) (E0.out) ?_
    try simp only [Act.put, List.getElem_toArray, List.getElem_cons_succ, List.getElem_cons_zero, List.setIfInBounds_toArray, List.set_cons_zero, List.set_cons_succ]
    refine hm_run 9 20 (.int .i64 ((n : Nat) : Int)) rfl rfl (by kernel_rfl) (by kernel_rfl) (by kernel_rfl) (fun _ _ _ h => h) rfl (fun W' _ => exec_len Try.underlying22 rfl rfl) (E0.out) ?_
    try simp only [Act.put, List.getElem_toArray, List.getElem_cons_succ, List.getElem_cons_zero, List.setIfInBounds_toArray, List.set_cons_zero, List.set_cons_succ]
    refine hm_run 10 21 (.int .i64 ((k : Nat) : Int)) rfl rfl (by kernel_rfl) (by kernel_rfl) (by kernel_rfl) (fun _ _ _ h => h) rfl (fun W' _ => exec_min rfl rfl rfl rfl MN.out) (E0.out) ?_
    try simp only [Act.put, List.getElem_toArray, List.getElem_cons_succ, List.getElem_cons_zero, List.setIfInBounds_toArray, List.set_cons_zero, List.set_cons_succ]
    refine hm_run 11 22 (.slice p1 k c) rfl rfl (by kernel_rfl) (by kernel_rfl) (by kernel_rfl) (fun _ _ _ h => h) rfl (fun W' _ => exec_sl rfl ((run_h KC.out W').trans (by rw [SL.out]))) (E0.out) ?_
    try simp only [Act.put, List.getElem_toArray, List.getElem_cons_succ, List.getElem_cons_zero, List.setIfInBounds_toArray, List.set_cons_zero, List.set_cons_succ]
    refine hm_run 12 7 (.slice p1 k c) rfl rfl (by kernel_rfl) (by kernel_rfl) (by kernel_rfl) (fun _ _ _ h => h) rfl (fun _ _ => rfl) (E0.out) ?_
    try simp only [Act.put, List.getElem_toArray, List.getElem_cons_succ, List.getElem_cons_zero, List.setIfInBounds_toArray, List.set_cons_zero, List.set_cons_succ]
    refine wpAnyH_done (by kernel_rfl) ?_ _
    go_wp2_with fail
    go_meet
    exact ⟨p1, rfl, rfl, E0⟩
  case rest =>
    obtain ⟨_, rfl, rfl, E⟩ := hcut
    go_wp2_with (first
      | (go_at_call 105; refine (decode_good (Lib.hid (RS.out.below (only_old R.out E.out.ronly))) DK (Lib.hid (by omega))).mono ?_; rintro e w1 ⟨p4, g4, c4, rfl, hrow, hb⟩; replace E := Lib.hid (E.out.call hb); clear hb hrow; rw [← HO9.out, ← HK9.out])
      | (go_at_call 67; refine (need_ok _ _ _).mono ?_; rintro e w2 ⟨⟨r2, rfl⟩, rfl⟩)
      | (refine wpList_xld E R.out.hbox 22 _ rfl rfl rfl Try.underlying22 rfl rfl ?_)
      | (refine mem_known rfl (.int .i64 ((o9 : Nat) : Int)) _ (exec_sub rfl rfl rfl K9.out) ?_)
      | (refine mem_known rfl (.slice p3 m3 c3) _ (exec_sl rfl (by exact (run_l L9.out _).trans (by rw [S3.out]))) ?_)
      | (refine wpList_xst E R.out.hbox 22 (.tmp 47) (.tmp 45) rfl rfl rfl (v := .slice p3 m3 c3) rfl (by kernel_rfl) rfl rfl rfl (cs' := #[.slice p3 m3 c3]) rfl ?_; clear E; intro w1 E))
    go_ret
    exact RdPost.good PV.out T3.out E.out rfl
theorem partn_any (R : Hid (Rd D W b u xs)) : Calls Try.prog 104 #[.pointer (some ⟨b, 0, none⟩), .int .i64 9, .func (.func 105) #[] #[]] W (RdPost D W b (fun _ v a => v = .int .u64 ((a : Nat) : Int)) (pVal xs)) := by
  by_cases h : dec xs.length (lf xs) = 0
  · exact partn_good R h
  · exact partn_bad R rfl (dec_lit h)
end
end Go.Proofs.Ytjlefbkcjccjkaa
