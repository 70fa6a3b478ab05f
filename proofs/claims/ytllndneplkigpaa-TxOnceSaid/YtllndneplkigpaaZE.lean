/- Texts of ours, merged: Re, Rf, Rg, Rh. -/
import Derived.Test.YtllndneplkigpaaRd
import Derived.Test.YtllndneplkigpaaZB
import Derived.Test.YtllndneplkigpaaZC
import Derived.Test.YtllndneplkigpaaZD
section
set_option linter.unusedSimpArgs false
set_option linter.unusedVariables false
set_option maxRecDepth 100000
namespace Go.Proofs.Ytllndneplkigpaa
open Go.RowKit Go.Lib Go.Sort

theorem pTake_good {n : Nat} {xs a r : List Nat} (h : pTake n xs = .good a r) : n ≤ xs.length ∧ a = xs.take n ∧ r = xs.drop n ∧ a.length = n := by
  unfold pTake at h
  split at h
  · injection h with h1 h2
    subst h1 h2
    refine ⟨by assumption, rfl, rfl, ?_⟩
    rw [List.length_take]
    omega
  · cases h
theorem pTake_bad {n : Nat} {xs : List Nat} {e : Int} (h : pTake n xs = .bad e) : xs.length < n ∧ e = 50 := by
  unfold pTake at h
  split at h
  · cases h
  · injection h with h
    exact ⟨by omega, h.symm⟩
set_option maxHeartbeats 2000000 in
theorem bnum_any {w : World} {p : Option Addr} {g o n c : Nat} {x : Nat → Nat} (R : Hid (Row w p g o n c x)) (hn : n ≤ 8) : Calls Try.prog 89 #[.slice p n c] w fun e w' => e = .returned (.int .u64 ((ofBytes x n : Nat) : Int)) ∧ w = w' := by
  rcases Nat.eq_zero_or_pos n with h0 | h0
  · subst h0
    go_enter Try.func89, Try.ntmps89
    go_wp2
    go_loop [3, 8] (fun s i => s = .int .u64 0 ∧ i = .int .i64 0) (fun _ _ => 0)
    case atStart => exact ⟨rfl, rfl⟩
    case round =>
      obtain ⟨rfl, rfl⟩ := hrel
      go_wp2
      go_ret
      exact ⟨rfl, rfl⟩
  · obtain rfl := R.out.head h0
    go_enter Try.func89, Try.ntmps89
    go_wp2
    go_loop [3, 8] (fun s i => ∃ k : Nat, k ≤ n ∧ i = .int .i64 (k : Int) ∧ s = .int .u64 ((ofBytes x k : Nat) : Int)) (fun _ i => n - (intOf i).toNat)
    case atStart => exact ⟨0, by omega, rfl, rfl⟩
    case round =>
      obtain ⟨k, hk, rfl, rfl⟩ := hrel
      by_cases hlt : k < n
      · have c0 := R.out.cell k hlt
        have fl := R.out.byte k
        have OR := Lib.hid (or_byte64 (a := ofBytes x k) (f := x k) (k := k) (by omega) (ofBytes_lt fun i _ => R.out.byte i) fl)
        have t8 : (8 * (k : Int)).toNat = 8 * k := by omega
        have ol : ofBytes x k < 18446744073709551616 := by
          have h1 := ofBytes_lt (f := x) (m := k) fun i _ => R.out.byte i
          have h2 : 2 ^ (8 * k) ≤ 2 ^ 64 := Nat.pow_le_pow_right (by decide) (by omega)
          omega
        go_wp2
        go_round
        case rel => exact ⟨k + 1, by omega, by go_num, by rw [OR.out, ofBytes]⟩
        case measure => simp [intOf]; omega
      · obtain rfl : k = n := by omega
        go_wp2
        go_ret
        exact ⟨rfl, rfl⟩
section
variable {D W : World} {b : Nat} {u : Value} {xs : List Nat}
/-- A number's contract, for its arguments as they come. -/
def NumC (D W : World) (b : Nat) (Rel : World → Value → Nat → Prop) (r : Res Nat) := RdPost D W b Rel r
set_option maxHeartbeats 2000000 in
theorem pnum_any (R : Hid (Rd D W b u xs)) (m : Nat) (hm : m ≤ 8) : Calls Try.prog 60 #[.pointer (some ⟨b, 0, none⟩), .int .i64 ((m : Nat) : Int)] W (RdPost D W b (fun _ v a => v = .int .u64 ((a : Nat) : Int)) (pNum m xs)) := by
  have E := Lib.hid R.out.start
  go_enter Try.func60, Try.ntmps60
  go_wp2_with (first
    | (go_at_call 90; refine (take_any R m).mono ?_; intro e1 w1 h1; rcases h1.cases with ⟨er, hr, rfl, ho⟩ | ⟨a1, r1, v1, u1, hr, rfl, ha, hb, p1, g1, o1, c1, rfl, hl1, RW⟩; case inl => exact ⟨rfl, RdPost.bad (by unfold pNum; rw [hr]; rfl) ho⟩
       (have HR := Lib.hid hr; have HA := Lib.hid ha; have E1 := Lib.hid (E.out.rcall R.out.box hb); obtain ⟨k1, hk1⟩ : ∃ k1, k1 = a1.length := ⟨_, rfl⟩; have HK := Lib.hid (show k1 = m by rw [hk1]; exact (pTake_good hr).2.2.2); have RR := Lib.hid (RW.below (only_old R.out E1.out.ronly)); rw [← hk1] at RR ⊢; clear hr ha hb h1 RW hk1 hl1))
    | (go_at_call 89; refine (bnum_any RR (by have := HK.out; omega)).mono ?_; rintro e2 w2 ⟨rfl, rfl⟩))
  go_ret
  exact RdPost.good (by unfold pNum; rw [HR.out]; rfl) HA.out E1.out (by rw [HK.out]; rfl)
theorem pnum1 (R : Hid (Rd D W b u xs)) : Calls Try.prog 60 #[.pointer (some ⟨b, 0, none⟩), .int .i64 1] W (RdPost D W b (fun _ v a => v = .int .u64 ((a : Nat) : Int)) (pNum 1 xs)) := pnum_any R 1 (by omega)
theorem pnum4 (R : Hid (Rd D W b u xs)) : Calls Try.prog 60 #[.pointer (some ⟨b, 0, none⟩), .int .i64 4] W (RdPost D W b (fun _ v a => v = .int .u64 ((a : Nat) : Int)) (pNum 4 xs)) := pnum_any R 4 (by omega)
theorem pnum8 (R : Hid (Rd D W b u xs)) : Calls Try.prog 60 #[.pointer (some ⟨b, 0, none⟩), .int .i64 8] W (RdPost D W b (fun _ v a => v = .int .u64 ((a : Nat) : Int)) (pNum 8 xs)) := pnum_any R 8 (by omega)
theorem take1 (R : Hid (Rd D W b u xs)) : Calls Try.prog 90 #[.pointer (some ⟨b, 0, none⟩), .int .i64 1] W (RdPost D W b (fun _ v a => TextAt D v a) (pTake 1 xs)) := take_any R 1
theorem take32 (R : Hid (Rd D W b u xs)) : Calls Try.prog 90 #[.pointer (some ⟨b, 0, none⟩), .int .i64 32] W (RdPost D W b (fun _ v a => TextAt D v a) (pTake 32 xs)) := take_any R 32
end
end Go.Proofs.Ytllndneplkigpaa
end
section
set_option linter.unusedSimpArgs false
set_option linter.unusedVariables false
set_option maxRecDepth 100000
namespace Go.Proofs.Ytllndneplkigpaa
open Go.RowKit Go.Lib Go.Sort

theorem infoHsh : (Try.prog.info? 37).map (fun i => (i.zero, i.size)) = some (some (.agg (arr 32 fun _ => .int .u8 0)), 32) := by kernel_rfl
section
variable {D W : World} {b : Nat} {u : Value} {xs : List Nat}
def HashAt (v : Value) (a : List Nat) : Prop := v = .agg (arr 32 (bv (lf a))) ∧ a.length = 32 ∧ IsB a
set_option maxHeartbeats 2000000 in
theorem phash_any (R : Hid (Rd D W b u xs)) : Calls Try.prog 93 #[.pointer (some ⟨b, 0, none⟩)] W (RdPost D W b (fun _ v a => HashAt v a) (pTake 32 xs)) := by
  have E := Lib.hid R.out.start
  go_enter Try.func93, Try.ntmps93
  go_wp2_with (first
    | (refine mem_alloc E 37 rfl rfl infoHsh ?_; clear E; intro b2 w2 E; simp only [arr_cells'] at E)
    | (go_at_call 90; refine (take32 (Lib.hid (E.out.rnext R.out R.out.dat))).mono ?_; intro e1 w1 h1; rcases h1.cases with ⟨er, hr, rfl, ho⟩ | ⟨a1, r1, v1, u1, hr, rfl, ha, hb, p1, g1, o1, c1, rfl, hl1, RW⟩; case inl => exact ⟨rfl, RdPost.bad hr (E.out.ronly.trans ho)⟩
       (have HR := Lib.hid hr; have HA := Lib.hid ha; have E1 := Lib.hid (E.out.rcall R.out.box hb); have H32 := (pTake_good hr).2.2.2; have HB := Lib.hid (isB_row RW); rw [H32] at RW ⊢; have RR := Lib.hid (RW.below (only_old R.out E1.out.ronly)); obtain rfl := RW.head (by omega); clear hr ha hb h1 RW hl1 E))
    | (refine mem_known rfl (.pointer (some ⟨g1, o1, none⟩)) _ (exec_arr rfl (by exact run_arrayAt _ _ _ (by omega) _)) ?_)
    | (refine mem_known rfl (.agg (arr 32 (bv (lf a1)))) _ (exec_load rfl (by exact load_hash RR.out (by omega))) ?_)
    | (refine mem_store_row 0 E1 37 rfl (.tmp 2) (.tmp 6) rfl rfl rfl rfl (by kernel_rfl) (by simp only [arr_size]) (bv_one _ _) ?_; clear E1; intro w5 E1; simp only [List.set_cons_zero, List.set_cons_succ] at E1))
  refine bodyPost_ret (results_cell_row (fn := Try.f93) rfl _ _ b2 37 _ (0, 0) _ rfl (E1.out.get List.mem_cons_self) Try.underlying37 rfl (by rw [arr_size]; kernel_rfl)) rfl ?_
  exact RdPost.good HR.out HA.out E1.out ⟨rfl, H32, HB.out⟩
/-- Whether x comes next. -/
def nextIs (x : Nat) (xs : List Nat) : Bool := decide (0 < xs.length ∧ lf xs 0 = x)
set_option maxHeartbeats 2000000 in
theorem pnext_any (R : Hid (Rd D W b u xs)) (x : Nat) : Calls Try.prog 91 #[.pointer (some ⟨b, 0, none⟩), .int .u8 ((x : Nat) : Int)] W fun e w' => e = .returned (.bool (nextIs x xs)) ∧ w' = W := by
  have E := Lib.hid R.out.start
  obtain ⟨p, g, o, c, rfl, hl, RW⟩ := R.out.dat
  obtain ⟨n, hn⟩ : ∃ n, n = xs.length := ⟨_, rfl⟩
  obtain ⟨r, hr⟩ : ∃ r, r = nextIs x xs := ⟨_, rfl⟩
  rw [← hr]
  rw [← hn] at RW hl E R
  rcases Nat.eq_zero_or_pos n with h0 | h0
  · subst h0
    have hr2 : r = false := by rw [hr]; unfold nextIs; rw [← hn]; simp
    subst hr2
    clear hr hn
    go_enter Try.func91, Try.ntmps91
    go_wp2_with (first
      | (refine wpList_xld E R.out.hbox 22 _ rfl rfl rfl Try.underlying22 rfl rfl ?_))
    go_ret
    exact ⟨rfl, rfl⟩
  · obtain rfl := RW.head h0
    have RR := RW.below R.out.old
    have c0 := RR.cell 0 h0
    rw [Nat.add_zero] at c0
    have hr2 : r = decide (lf xs 0 = x) := by rw [hr]; unfold nextIs; rw [← hn]; simp [h0]
    obtain ⟨y, hy⟩ : ∃ y, y = lf xs 0 := ⟨_, rfl⟩
    rw [← hy] at hr2 c0
    have hx : r = decide ((y : Int) = (x : Int)) := by rw [hr2]; congr 1; exact propext ⟨fun h => by rw [h], fun h => by omega⟩
    have HX := Lib.hid hx
    clear hr hr2 hx hn hy
    go_enter Try.func91, Try.ntmps91
    go_wp2_with (first
      | (refine wpList_xld E R.out.hbox 22 _ rfl rfl rfl Try.underlying22 rfl rfl ?_))
    go_ret
    refine ⟨?_, rfl⟩
    rw [HX.out]
    rfl
theorem pnext0 (R : Hid (Rd D W b u xs)) : Calls Try.prog 91 #[.pointer (some ⟨b, 0, none⟩), .int .u8 0] W fun e w' => e = .returned (.bool (nextIs 0 xs)) ∧ w' = W := pnext_any R 0
end
end Go.Proofs.Ytllndneplkigpaa
end
section
set_option linter.unusedSimpArgs false
set_option linter.unusedVariables false
set_option maxRecDepth 100000
namespace Go.Proofs.Ytllndneplkigpaa
open Go.RowKit Go.Lib Go.Sort

theorem dec_min (n : Nat) (x : Nat → Nat) : dec (min 9 n) x = dec n x := by
  have := wOf_bd (x 0)
  unfold dec
  have e : (min 9 n < wOf (x 0) ∨ min 9 n = 0) ↔ (n < wOf (x 0) ∨ n = 0) := by omega
  simp only [e]
theorem dec_zero {n : Nat} {x : Nat → Nat} (h : dec n x = 0) : wOf (x 0) ≤ n := by
  unfold dec at h
  split at h
  · cases h
  · omega
theorem dec_lit {n : Nat} {x : Nat → Nat} (h : dec n x ≠ 0) : dec n x = 50 ∨ dec n x = 51 := by
  rcases dec_cases n x with h | h | h | h
  · exact .inl h.2
  · exact .inl h.2.2
  · exact .inr h.2.2
  · exact absurd h.2.2 (by assumption)
section
variable {D W : World} {b : Nat} {u : Value} {xs : List Nat}
/-- What Part shows to a decoder. -/
theorem Rd.shown (R : Rd D W b u xs) (M : Nat) : ∃ p g o c n k p1, u = .slice p n c ∧ n = xs.length ∧ n ≤ 140737488351232 ∧ min ((M : Nat) : Int) ((n : Nat) : Int) = ((k : Nat) : Int) ∧ k = min M n ∧ k ≤ c ∧ k ≤ n ∧ sliced p 0 k c 1 = .slice p1 k c ∧ Row D p1 g o k c (lf xs) := by
  obtain ⟨p, g, o, c, rfl, hl, RW⟩ := R.dat
  have hk : min M xs.length ≤ xs.length := Nat.min_le_right _ _
  obtain ⟨p1, e1, R1⟩ := RW.slice (l := 0) (h := min M xs.length) (m := c) (by omega) hk (Nat.le_trans hk RW.le) (Nat.le_refl _)
  refine ⟨p, g, o, c, xs.length, min M xs.length, p1, rfl, rfl, hl, by omega, rfl, Nat.le_trans hk RW.le, hk, ?_, ?_⟩
  · rw [e1, Nat.sub_zero, Nat.sub_zero]
  · rw [Nat.sub_zero, Nat.sub_zero, Nat.add_zero] at R1
    exact R1.to (fun i _ => by rw [Nat.zero_add]) RW.byte

set_option maxHeartbeats 4000000 in
theorem partn_bad (R : Hid (Rd D W b u xs)) {e0 : Nat} (hd : dec xs.length (lf xs) = e0) (he : e0 = 50 ∨ e0 = 51) : Calls Try.prog 102 #[.pointer (some ⟨b, 0, none⟩), .int .i64 9, .func (.func 103) #[] #[]] W (RdPost D W b (fun _ v a => v = .int .u64 ((a : Nat) : Int)) (pVal xs)) := by
  obtain ⟨p, g, o, c, n, k, p1, rfl, hn, hl, mn, hk, kc, kn, sl, R1⟩ := R.out.shown 9
  have E := Lib.hid R.out.start
  have DK : Hid (dec k (lf xs) = e0) := Lib.hid (by rw [hk, dec_min, hn, hd])
  have PV : Hid (pVal xs = .bad ((e0 : Nat) : Int)) := Lib.hid (by unfold pVal; rw [hd, if_neg (by omega)])
  have MN := Lib.hid mn
  have SL := Lib.hid sl
  have KC := Lib.hid kc
  have RS := Lib.hid R1
  have e1 := Lib.hid (show e0 ≠ 0 by omega)
  have e2 : (((e0 : Nat) : Int) == 0) = false := by simp; omega
  clear hn mn hk kc sl R1 hd he kn
  go_enter Try.func102, Try.ntmps102
  go_upto_region 1 with fail
  go_cut [7] (fun s7 wx => ∃ p1', s7 = .slice p1' k c ∧ p1' = p1 ∧ Hid (Mem (rb W b #[.slice p n c]) [] wx))
  case first =>
    refine wp_region_mem E (by kernel_rfl) ?_
    clear E
    intro wx E0
    refine hm_run 0 11 (.pointer (some ⟨b, 0, none⟩)) rfl rfl (by kernel_rfl) (by kernel_rfl) (by kernel_rfl) (fun _ _ _ h => h) rfl (fun _ _ => rfl) (E0.out) ?_
    try simp only [Act.put, List.getElem_toArray, List.getElem_cons_succ, List.getElem_cons_zero, List.setIfInBounds_toArray, List.set_cons_zero, List.set_cons_succ]
    refine hm_run 1 12 (.pointer (some ⟨b, 0, none⟩)) rfl rfl (by kernel_rfl) (by kernel_rfl) (by kernel_rfl) (fun _ _ _ h => h) rfl (fun _ _ => rfl) (E0.out) ?_
    try simp only [Act.put, List.getElem_toArray, List.getElem_cons_succ, List.getElem_cons_zero, List.setIfInBounds_toArray, List.set_cons_zero, List.set_cons_succ]
    refine hm_run 2 13 (.pointer (some ⟨b, 0, none⟩)) rfl rfl (by kernel_rfl) (by kernel_rfl) (by kernel_rfl) (fun _ _ _ h => h) rfl (fun _ _ => rfl) (E0.out) ?_
    try simp only [Act.put, List.getElem_toArray, List.getElem_cons_succ, List.getElem_cons_zero, List.setIfInBounds_toArray, List.set_cons_zero, List.set_cons_succ]
    refine hm_run 3 14 (.slice p n c) rfl rfl (by kernel_rfl) (by kernel_rfl) (by kernel_rfl) (fun _ _ _ h => h) rfl (fun W' hW => exec_load rfl (run_load_one Try.underlying22 rfl (cell_of_here (hW.rbox R.out.box) 0 rfl))) (E0.out) ?_
    try simp only [Act.put, List.getElem_toArray, List.getElem_cons_succ, List.getElem_cons_zero, List.setIfInBounds_toArray, List.set_cons_zero, List.set_cons_succ]
    refine hm_run 4 15 (.int .i64 9) rfl rfl (by kernel_rfl) (by kernel_rfl) (by kernel_rfl) (fun _ _ _ h => h) rfl (fun _ _ => rfl) (E0.out) ?_
    try simp only [Act.put, List.getElem_toArray, List.getElem_cons_succ, List.getElem_cons_zero, List.setIfInBounds_toArray, List.set_cons_zero, List.set_cons_succ]
    refine hm_run 5 16 (.pointer (some ⟨b, 0, none⟩)) rfl rfl (by kernel_rfl) (by kernel_rfl) (by kernel_rfl) (fun _ _ _ h => h) rfl (fun _ _ => rfl) (E0.out) ?_
    try simp only [Act.put, List.getElem_toArray, List.getElem_cons_succ, List.getElem_cons_zero, List.setIfInBounds_toArray, List.set_cons_zero, List.set_cons_succ]
    refine hm_run 6 17 (.pointer (some ⟨b, 0, none⟩)) rfl rfl (by kernel_rfl) (by kernel_rfl) (by kernel_rfl) (fun _ _ _ h => h) rfl (fun _ _ => rfl) (E0.out) ?_
    try simp only [Act.put, List.getElem_toArray, List.getElem_cons_succ, List.getElem_cons_zero, List.setIfInBounds_toArray, List.set_cons_zero, List.set_cons_succ]
    refine hm_run 7 18 (.pointer (some ⟨b, 0, none⟩)) rfl rfl (by kernel_rfl) (by kernel_rfl) (by kernel_rfl) (fun _ _ _ h => h) rfl (fun _ _ => rfl) (E0.out) ?_
    try simp only [Act.put, List.getElem_toArray, List.getElem_cons_succ, List.getElem_cons_zero, List.setIfInBounds_toArray, List.set_cons_zero, List.set_cons_succ]
    refine hm_run 8 19 (.slice p n c) rfl rfl (by kernel_rfl) (by kernel_rfl) (by kernel_rfl) (fun _ _ _ h => h) rfl (fun W' hW => exec_load rfl (run_load_one Try.underlying22 rfl (cell_of_here (hW.rbox R.out.box) 0 rfl))) (E0.out) ?_
    try simp only [Act.put, List.getElem_toArray, List.getElem_cons_succ, List.getElem_cons_zero, List.setIfInBounds_toArray, List.set_cons_zero, List.set_cons_succ]
    refine hm_run 9 20 (.int .i64 ((n : Nat) : Int)) rfl rfl (by kernel_rfl) (by kernel_rfl) (by kernel_rfl) (fun _ _ _ h => h) rfl (fun W' _ => exec_len Try.underlying22 rfl rfl) (E0.out) ?_
    try simp only [Act.put, List.getElem_toArray, List.getElem_cons_succ, List.getElem_cons_zero, List.setIfInBounds_toArray, List.set_cons_zero, List.set_cons_succ]
    refine hm_run 10 21 (.int .i64 ((k : Nat) : Int)) rfl rfl (by kernel_rfl) (by kernel_rfl) (by kernel_rfl) (fun _ _ _ h => h) rfl (fun W' _ => exec_min rfl rfl rfl rfl MN.out) (E0.out) ?_
    try simp only [Act.put, List.getElem_toArray, List.getElem_cons_succ, List.getElem_cons_zero, List.setIfInBounds_toArray, List.set_cons_zero, List.set_cons_succ]
    refine hm_run 11 22 (.slice p1 k c) rfl rfl (by kernel_rfl) (by kernel_rfl) (by kernel_rfl) (fun _ _ _ h => h) rfl (fun W' _ => exec_sl rfl ((run_h KC.out W').trans (by rw [SL.out]))) (E0.out) ?_
    try simp only [Act.put, List.getElem_toArray, List.getElem_cons_succ, List.getElem_cons_zero, List.setIfInBounds_toArray, List.set_cons_zero, List.set_cons_succ]
    refine hm_run 12 7 (.slice p1 k c) rfl rfl (by kernel_rfl) (by kernel_rfl) (by kernel_rfl) (fun _ _ _ h => h) rfl (fun _ _ => rfl) (E0.out) ?_
    try simp only [Act.put, List.getElem_toArray, List.getElem_cons_succ, List.getElem_cons_zero, List.setIfInBounds_toArray, List.set_cons_zero, List.set_cons_succ]
    refine wpAnyH_done (by kernel_rfl) ?_ _
    go_wp2_with fail
    go_meet
    exact ⟨p1, rfl, rfl, E0⟩
  case rest =>
    obtain ⟨_, rfl, rfl, E⟩ := hcut
    go_wp2_with (first
      | (go_at_call 103; refine (decode_bad (Lib.hid (RS.out.below (only_old R.out E.out.ronly))) DK e1.out).mono ?_; rintro e w1 ⟨rfl, hb⟩; replace E := Lib.hid (E.out.call hb); clear hb)
      | (go_at_call 64; refine (need_bad _ _ _).mono ?_; rintro e w2 ⟨rfl, rfl⟩))
    exact ⟨rfl, RdPost.bad PV.out E.out.ronly⟩
set_option maxHeartbeats 4000000 in
theorem partn_good (R : Hid (Rd D W b u xs)) (hd : dec xs.length (lf xs) = 0) : Calls Try.prog 102 #[.pointer (some ⟨b, 0, none⟩), .int .i64 9, .func (.func 103) #[] #[]] W (RdPost D W b (fun _ v a => v = .int .u64 ((a : Nat) : Int)) (pVal xs)) := by
  have hw := dec_zero hd
  obtain ⟨q, cq, hq, _⟩ := R.out.dat.slice
  obtain ⟨p3, m3, c3, s3, A3⟩ := (show TextAt D (.slice q xs.length cq) xs by rw [← hq]; exact R.out.dat).drop hw
  obtain ⟨p, g, o, c, n, k, p1, rfl, hn, hl, mn, hk, kc, kn, sl, R1⟩ := R.out.shown 9
  injection hq with q1 q2 q3
  subst q1 q3
  have E := Lib.hid R.out.start
  have DK : Hid (dec k (lf xs) = 0) := Lib.hid (by rw [hk, dec_min, hn, hd])
  have PV : Hid (pVal xs = .good (val (lf xs)) (xs.drop (wOf (lf xs 0)))) := Lib.hid (by unfold pVal; rw [if_pos hd])
  have hk9 : wOf (lf xs 0) ≤ k := by have := (wOf_bd (lf xs 0)).2; omega
  rw [← hn] at s3 hw
  have MN := Lib.hid mn
  have SL := Lib.hid sl
  have S3 := Lib.hid s3
  have T3 := Lib.hid A3
  have KC := Lib.hid kc
  have RS := Lib.hid R1
  obtain ⟨o9, ho9⟩ : ∃ o9, o9 = wOf (lf xs 0) := ⟨_, rfl⟩
  rw [← ho9] at hk9 hw S3
  obtain ⟨k9, hk9'⟩ : ∃ k9, k9 = k - o9 := ⟨_, rfl⟩
  have K9 : Hid (IntKind.i64.wrap ((k : Int) - (k9 : Int)) = ((o9 : Nat) : Int)) := Lib.hid (by rw [IntKind.wrap_i64]; omega)
  have HO9 := Lib.hid ho9
  have HK9 := Lib.hid hk9'
  have L9 := Lib.hid hw
  clear hn mn hk kc sl R1 hd s3 A3 ho9 hk9' q2 hk9 hw
  go_enter Try.func102, Try.ntmps102
  go_upto_region 1 with fail
  go_cut [7] (fun s7 wx => ∃ p1', s7 = .slice p1' k c ∧ p1' = p1 ∧ Hid (Mem (rb W b #[.slice p n c]) [] wx))
  case first =>
    refine wp_region_mem E (by kernel_rfl) ?_
    clear E
    intro wx E0
    refine hm_run 0 11 (.pointer (some ⟨b, 0, none⟩)) rfl rfl (by kernel_rfl) (by kernel_rfl) (by kernel_rfl) (fun _ _ _ h => h) rfl (fun _ _ => rfl) (E0.out) ?_
    try simp only [Act.put, List.getElem_toArray, List.getElem_cons_succ, List.getElem_cons_zero, List.setIfInBounds_toArray, List.set_cons_zero, List.set_cons_succ]
    refine hm_run 1 12 (.pointer (some ⟨b, 0, none⟩)) rfl rfl (by kernel_rfl) (by kernel_rfl) (by kernel_rfl) (fun _ _ _ h => h) rfl (fun _ _ => rfl) (E0.out) ?_
    try simp only [Act.put, List.getElem_toArray, List.getElem_cons_succ, List.getElem_cons_zero, List.setIfInBounds_toArray, List.set_cons_zero, List.set_cons_succ]
    refine hm_run 2 13 (.pointer (some ⟨b, 0, none⟩)) rfl rfl (by kernel_rfl) (by kernel_rfl) (by kernel_rfl) (fun _ _ _ h => h) rfl (fun _ _ => rfl) (E0.out) ?_
    try simp only [Act.put, List.getElem_toArray, List.getElem_cons_succ, List.getElem_cons_zero, List.setIfInBounds_toArray, List.set_cons_zero, List.set_cons_succ]
    refine hm_run 3 14 (.slice p n c) rfl rfl (by kernel_rfl) (by kernel_rfl) (by kernel_rfl) (fun _ _ _ h => h) rfl (fun W' hW => exec_load rfl (run_load_one Try.underlying22 rfl (cell_of_here (hW.rbox R.out.box) 0 rfl))) (E0.out) ?_
    try simp only [Act.put, List.getElem_toArray, List.getElem_cons_succ, List.getElem_cons_zero, List.setIfInBounds_toArray, List.set_cons_zero, List.set_cons_succ]
    refine hm_run 4 15 (.int .i64 9) rfl rfl (by kernel_rfl) (by kernel_rfl) (by kernel_rfl) (fun _ _ _ h => h) rfl (fun _ _ => rfl) (E0.out) ?_
    try simp only [Act.put, List.getElem_toArray, List.getElem_cons_succ, List.getElem_cons_zero, List.setIfInBounds_toArray, List.set_cons_zero, List.set_cons_succ]
    refine hm_run 5 16 (.pointer (some ⟨b, 0, none⟩)) rfl rfl (by kernel_rfl) (by kernel_rfl) (by kernel_rfl) (fun _ _ _ h => h) rfl (fun _ _ => rfl) (E0.out) ?_
    try simp only [Act.put, List.getElem_toArray, List.getElem_cons_succ, List.getElem_cons_zero, List.setIfInBounds_toArray, List.set_cons_zero, List.set_cons_succ]
    refine hm_run 6 17 (.pointer (some ⟨b, 0, none⟩)) rfl rfl (by kernel_rfl) (by kernel_rfl) (by kernel_rfl) (fun _ _ _ h => h) rfl (fun _ _ => rfl) (E0.out) ?_
    try simp only [Act.put, List.getElem_toArray, List.getElem_cons_succ, List.getElem_cons_zero, List.setIfInBounds_toArray, List.set_cons_zero, List.set_cons_succ]
    refine hm_run 7 18 (.pointer (some ⟨b, 0, none⟩)) rfl rfl (by kernel_rfl) (by kernel_rfl) (by kernel_rfl) (fun _ _ _ h => h) rfl (fun _ _ => rfl) (E0.out) ?_
    try simp only [Act.put, List.getElem_toArray, List.getElem_cons_succ, List.getElem_cons_zero, List.setIfInBounds_toArray, List.set_cons_zero, List.set_cons_succ]
    refine hm_run 8 19 (.slice p n c) rfl rfl (by kernel_rfl) (by kernel_rfl) (by kernel_rfl) (fun _ _ _ h => h) rfl (fun W' hW => exec_load rfl (run_load_one Try.underlying22 rfl (cell_of_here (hW.rbox R.out.box) 0 rfl))) (E0.out) ?_
    try simp only [Act.put, List.getElem_toArray, List.getElem_cons_succ, List.getElem_cons_zero, List.setIfInBounds_toArray, List.set_cons_zero, List.set_cons_succ]
    refine hm_run 9 20 (.int .i64 ((n : Nat) : Int)) rfl rfl (by kernel_rfl) (by kernel_rfl) (by kernel_rfl) (fun _ _ _ h => h) rfl (fun W' _ => exec_len Try.underlying22 rfl rfl) (E0.out) ?_
    try simp only [Act.put, List.getElem_toArray, List.getElem_cons_succ, List.getElem_cons_zero, List.setIfInBounds_toArray, List.set_cons_zero, List.set_cons_succ]
    refine hm_run 10 21 (.int .i64 ((k : Nat) : Int)) rfl rfl (by kernel_rfl) (by kernel_rfl) (by kernel_rfl) (fun _ _ _ h => h) rfl (fun W' _ => exec_min rfl rfl rfl rfl MN.out) (E0.out) ?_
    try simp only [Act.put, List.getElem_toArray, List.getElem_cons_succ, List.getElem_cons_zero, List.setIfInBounds_toArray, List.set_cons_zero, List.set_cons_succ]
    refine hm_run 11 22 (.slice p1 k c) rfl rfl (by kernel_rfl) (by kernel_rfl) (by kernel_rfl) (fun _ _ _ h => h) rfl (fun W' _ => exec_sl rfl ((run_h KC.out W').trans (by rw [SL.out]))) (E0.out) ?_
    try simp only [Act.put, List.getElem_toArray, List.getElem_cons_succ, List.getElem_cons_zero, List.setIfInBounds_toArray, List.set_cons_zero, List.set_cons_succ]
    refine hm_run 12 7 (.slice p1 k c) rfl rfl (by kernel_rfl) (by kernel_rfl) (by kernel_rfl) (fun _ _ _ h => h) rfl (fun _ _ => rfl) (E0.out) ?_
    try simp only [Act.put, List.getElem_toArray, List.getElem_cons_succ, List.getElem_cons_zero, List.setIfInBounds_toArray, List.set_cons_zero, List.set_cons_succ]
    refine wpAnyH_done (by kernel_rfl) ?_ _
    go_wp2_with fail
    go_meet
    exact ⟨p1, rfl, rfl, E0⟩
  case rest =>
    obtain ⟨_, rfl, rfl, E⟩ := hcut
    go_wp2_with (first
      | (go_at_call 103; refine (decode_good (Lib.hid (RS.out.below (only_old R.out E.out.ronly))) DK (Lib.hid (by omega))).mono ?_; rintro e w1 ⟨p4, g4, c4, rfl, hrow, hb⟩; replace E := Lib.hid (E.out.call hb); clear hb hrow; rw [← HO9.out, ← HK9.out])
      | (go_at_call 64; refine (need_ok _ _ _).mono ?_; rintro e w2 ⟨⟨r2, rfl⟩, rfl⟩)
      | (refine wpList_xld E R.out.hbox 22 _ rfl rfl rfl Try.underlying22 rfl rfl ?_)
      | (refine mem_known rfl (.int .i64 ((o9 : Nat) : Int)) _ (exec_sub rfl rfl rfl K9.out) ?_)
      | (refine mem_known rfl (.slice p3 m3 c3) _ (exec_sl rfl (by exact (run_l L9.out _).trans (by rw [S3.out]))) ?_)
      | (refine wpList_xst E R.out.hbox 22 (.tmp 47) (.tmp 45) rfl rfl rfl (v := .slice p3 m3 c3) rfl (by kernel_rfl) rfl rfl rfl (cs' := #[.slice p3 m3 c3]) rfl ?_; clear E; intro w1 E))
    go_ret
    exact RdPost.good PV.out T3.out E.out rfl
theorem partn_any (R : Hid (Rd D W b u xs)) : Calls Try.prog 102 #[.pointer (some ⟨b, 0, none⟩), .int .i64 9, .func (.func 103) #[] #[]] W (RdPost D W b (fun _ v a => v = .int .u64 ((a : Nat) : Int)) (pVal xs)) := by
  by_cases h : dec xs.length (lf xs) = 0
  · exact partn_good R h
  · exact partn_bad R rfl (dec_lit h)
end
end Go.Proofs.Ytllndneplkigpaa
end
section
set_option linter.unusedSimpArgs false
set_option linter.unusedVariables false
set_option maxRecDepth 100000
namespace Go.Proofs.Ytllndneplkigpaa
open Go.RowKit Go.Lib Go.Sort

theorem need_any (v : Value) (c : Bool) (e : Int) (w : World) : Calls Try.prog 64 #[v, .bool c, .int .i64 e] w fun en w' => w' = w ∧ ((c = true ∧ ∃ r, en = .returned r) ∨ (c = false ∧ en = Quit e)) := by
  cases c
  · exact (need_bad v e w).mono fun en w' ⟨h1, h2⟩ => ⟨h2, .inr ⟨rfl, h1⟩⟩
  · exact (need_ok v e w).mono fun en w' ⟨h1, h2⟩ => ⟨h2, .inl ⟨rfl, h1⟩⟩
section
variable {D W : World} {b : Nat} {u : Value} {xs : List Nat}
set_option maxHeartbeats 2000000 in
theorem pcnt_any (R : Hid (Rd D W b u xs)) (M : Nat) (hM : M < 9223372036854775808) : Calls Try.prog 92 #[.pointer (some ⟨b, 0, none⟩), .int .i64 ((M : Nat) : Int)] W (RdPost D W b (fun _ v a => v = .int .i64 ((a : Nat) : Int)) (pCnt M xs)) := by
  have E := Lib.hid R.out.start
  have cw : IntKind.u64.wrap (M : Int) = (M : Int) := by rw [IntKind.wrap_u64]; omega
  go_enter Try.func92, Try.ntmps92
  go_wp2_with (first
    | (go_at_call 102; refine (partn_any R).mono ?_; intro e1 w1 h1; rcases h1.cases with ⟨er, hr, rfl, ho⟩ | ⟨a1, r1, v1, u1, hr, rfl, ha, hb, rfl⟩; case inl => exact ⟨rfl, RdPost.bad (Res.bb hr) ho⟩
       (have HR := Lib.hid hr; have HA := Lib.hid ha; have E1 := Lib.hid (E.out.rcall R.out.box hb); clear hr ha hb h1 E))
    | (go_at_call 64; refine (need_any _ _ _ _).mono ?_; rintro e2 w2 ⟨rfl, ⟨hc, r2, rfl⟩ | ⟨hc, rfl⟩⟩; case inr => exact ⟨rfl, RdPost.bad ((Res.bg HR.out).trans (if_neg (by simp at hc; omega))) E1.out.ronly⟩
       (have HC := Lib.hid (show a1 ≤ M by simp at hc; omega); clear hc; have cw2 : IntKind.i64.wrap (a1 : Int) = (a1 : Int) := by rw [IntKind.wrap_i64]; have := HC.out; omega)))
  go_ret
  exact RdPost.good ((Res.bg HR.out).trans (if_pos HC.out)) HA.out E1.out rfl
theorem pcnt10k (R : Hid (Rd D W b u xs)) : Calls Try.prog 92 #[.pointer (some ⟨b, 0, none⟩), .int .i64 10000] W (RdPost D W b (fun _ v a => v = .int .i64 ((a : Nat) : Int)) (pCnt 10000 xs)) := pcnt_any R 10000 (by omega)
set_option maxHeartbeats 2000000 in
theorem ptext_any (R : Hid (Rd D W b u xs)) (M : Nat) (hM : M < 9223372036854775808) : Calls Try.prog 94 #[.pointer (some ⟨b, 0, none⟩), .int .i64 ((M : Nat) : Int)] W (RdPost D W b (fun w' v a => TextOwn W.heap.size w' v a) (pText M xs)) := by
  have E := Lib.hid R.out.start
  go_enter Try.func94, Try.ntmps94
  go_wp2_with (first
    | (go_at_call 92; refine (pcnt_any R M hM).mono ?_; intro e1 w1 h1; rcases h1.cases with ⟨er, hr, rfl, ho⟩ | ⟨a1, r1, v1, u1, hr, rfl, ha, hb, rfl⟩; case inl => exact ⟨rfl, RdPost.bad (Res.bb hr) ho⟩
       (have HR := Lib.hid hr; have E1 := Lib.hid (E.out.rcall R.out.box hb); have R1 := Lib.hid (E1.out.rnext R.out ha); clear hr ha hb h1 E))
    | (go_at_call 90; refine (take_any R1 a1).mono ?_; intro e2 w2 h2; rcases h2.cases with ⟨er, hr, rfl, ho⟩ | ⟨a2, r2, v2, u2, hr, rfl, ha, hb, p2, g2, o2, c2, rfl, hl2, RW⟩; case inl => exact ⟨rfl, RdPost.bad ((Res.bg HR.out).trans hr) (E1.out.ronly.trans ho)⟩
       (have HR2 := Lib.hid hr; have HA := Lib.hid ha; have E2 := Lib.hid (E1.out.rcall R.out.box hb); have RR := Lib.hid (RW.below (only_old R.out E2.out.ronly)); obtain ⟨k2, hk2⟩ : ∃ k2, k2 = a2.length := ⟨_, rfl⟩; have HK := Lib.hid hk2; rw [← hk2] at RR hl2 ⊢; clear hr ha hb h2 RW hk2 E1))
    | (at_builtin; refine wpList_app (.inl rfl) _ _ rfl rfl (Lib.hid (own_nothing w2 w2.heap.size (fun _ => 0) (fun _ => by omega) (Nat.le_refl _))) rfl RR (by omega) ?_; intro p3 g3 c3 w3 N3 hb3; rw [Nat.zero_add] at N3 ⊢; have E3 := Lib.hid (E2.out.call hb3.out); have HB3 := Lib.hid E2.out.rsize; clear hb3 E2))
  go_ret
  refine RdPost.good ((Res.bg HR.out).trans HR2.out) HA.out E3.out ⟨p3, g3, c3, by rw [HK.out]; rfl, by rw [← HK.out]; exact hl2, ?_⟩
  have N4 := N3.out.mono HB3.out
  rw [HK.out] at N4
  exact N4.to (fun i hi => by unfold cat; rw [if_neg (by omega)]; rfl) (lf_lt (isB_row (by have := RR.out; rw [HK.out] at this; exact this)))
theorem ptext10k (R : Hid (Rd D W b u xs)) : Calls Try.prog 94 #[.pointer (some ⟨b, 0, none⟩), .int .i64 10000] W (RdPost D W b (fun w' v a => TextOwn W.heap.size w' v a) (pText 10000 xs)) := ptext_any R 10000 (by omega)
set_option maxHeartbeats 2000000 in
theorem preadtext_any (R : Hid (Rd D W b u xs)) : Calls Try.prog 68 #[.pointer (some ⟨b, 0, none⟩)] W (RdPost D W b (fun w' v a => TextOwn W.heap.size w' v a) (pText 10000 xs)) := by
  have E := Lib.hid R.out.start
  go_enter Try.func68, Try.ntmps68
  go_wp2_with (first
    | (go_at_call 94; refine (ptext10k R).mono ?_; intro e1 w1 h1; rcases h1.cases with ⟨er, hr, rfl, ho⟩ | ⟨a1, r1, v1, u1, hr, rfl, ha, hb, hv⟩; case inl => exact ⟨rfl, RdPost.bad hr ho⟩
       (have HR := Lib.hid hr; have HA := Lib.hid ha; have HV := Lib.hid hv; have E1 := Lib.hid (E.out.rcall R.out.box hb); clear hr ha hb h1 hv E)))
  go_ret
  exact RdPost.good HR.out HA.out E1.out HV.out
set_option maxHeartbeats 2000000 in
theorem pmark_any (R : Hid (Rd D W b u xs)) : Calls Try.prog 61 #[.pointer (some ⟨b, 0, none⟩)] W (RdPost D W b (fun _ v a => v = .bool a) (pMark xs)) := by
  have E := Lib.hid R.out.start
  by_cases hn : nextIs 0 xs = true
  · have HN := Lib.hid hn
    have HC : 0 < xs.length ∧ lf xs 0 = 0 := by unfold nextIs at hn; simpa using hn
    have PM : Hid (pMark xs = (pTake 1 xs).bind fun _ r => (pNum 1 r).bind fun x s => if x = 1 then .good true s else .bad 51) := Lib.hid (by unfold pMark; rw [if_pos HC])
    clear hn HC
    go_enter Try.func61, Try.ntmps61
    go_wp2_with (first
      | (go_at_call 91; refine (pnext0 R).mono ?_; rintro e1 w1 ⟨rfl, rfl⟩; rw [HN.out])
      | (go_at_call 90; refine (take1 R).mono ?_; intro e1 w1 h1; rcases h1.cases with ⟨er, hr, rfl, ho⟩ | ⟨a1, r1, v1, u1, hr, rfl, ha, hb, hv⟩; case inl => exact ⟨rfl, RdPost.bad (PM.out.trans (Res.bb hr)) ho⟩
         (have HR := Lib.hid hr; have E1 := Lib.hid (E.out.rcall R.out.box hb); have R1 := Lib.hid (E1.out.rnext R.out ha); clear hr ha hb h1 hv E))
      | (go_at_call 60; refine (pnum1 R1).mono ?_; intro e2 w2 h2; rcases h2.cases with ⟨er, hr, rfl, ho⟩ | ⟨a2, r2, v2, u2, hr, rfl, ha, hb, rfl⟩; case inl => exact ⟨rfl, RdPost.bad (PM.out.trans ((Res.bg HR.out).trans (Res.bb hr))) (E1.out.ronly.trans ho)⟩
         (have HR2 := Lib.hid hr; have HA := Lib.hid ha; have E2 := Lib.hid (E1.out.rcall R.out.box hb); clear hr ha hb h2 E1))
      | (go_at_call 64; refine (need_any _ _ _ _).mono ?_; rintro e2 w2 ⟨rfl, ⟨hc, r2, rfl⟩ | ⟨hc, rfl⟩⟩; case inr => exact ⟨rfl, RdPost.bad (PM.out.trans ((Res.bg HR.out).trans ((Res.bg HR2.out).trans (if_neg (by simp at hc; omega))))) E2.out.ronly⟩
         (have HC := Lib.hid (show a2 = 1 by simp at hc; omega); clear hc)))
    go_ret
    exact RdPost.good (PM.out.trans ((Res.bg HR.out).trans ((Res.bg HR2.out).trans (if_pos HC.out)))) HA.out E2.out rfl
  · have HN := Lib.hid (show nextIs 0 xs = false by simpa using hn)
    have HC : ¬ (0 < xs.length ∧ lf xs 0 = 0) := by unfold nextIs at hn; simpa using hn
    have PM : Hid (pMark xs = .good false xs) := Lib.hid (by unfold pMark; rw [if_neg HC])
    clear hn HC
    go_enter Try.func61, Try.ntmps61
    go_wp2_with (first
      | (go_at_call 91; refine (pnext0 R).mono ?_; rintro e1 w1 ⟨rfl, rfl⟩; rw [HN.out]))
    go_ret
    exact RdPost.good PM.out R.out.dat E.out rfl
end
end Go.Proofs.Ytllndneplkigpaa
end
