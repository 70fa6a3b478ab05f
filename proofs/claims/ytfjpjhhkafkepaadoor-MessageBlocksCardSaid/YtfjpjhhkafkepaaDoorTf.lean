/- Lists written, the program's. -/
import Derived.Test.YtfjpjhhkafkepaaDoorTe
set_option linter.unusedSimpArgs false
set_option linter.unusedVariables false
set_option maxRecDepth 100000
namespace Go.Proofs.YtfjpjhhkafkepaaDoor
open Go.RowKit Go.Lib Go.Sort
section
variable {w0 w : World} {l : List (Nat × TypeId × Array Value)} {p : Option Addr} {g c : Nat} {xs : List Nat}

set_option maxHeartbeats 4000000 in
theorem plin_any {v : Value} {ts : List TIn} (A : Hid (InsAt w0 v ts)) (K0 : Hid (Wb w0 l p g c xs w)) (hl : xs.length + (listB inB ts).length ≤ 140737488355328) :
    Calls Tryd.prog 58 #[.slice p xs.length c, v, .func (.func 59) #[] #[]] w (Puts w0 l (xs ++ listB inB ts)) := by
  obtain ⟨p0, g0, o0, c0, V, hv, hc, R0, hi⟩ := A.out
  subst hv
  have RR := Lib.hid R0
  have TT := Lib.hid hi
  have cn : ts.length ≤ c0 := R0.le
  clear R0 hi A
  have SUM := Lib.hid (show ∀ j, j ≤ ts.length → (fl (ts.map inB) j).length ≤ ((ts.map inB).flatten).length from fun j hj => by
    rw [← fl_all, fl_length, fl_length]
    exact sm_le _ (by rw [List.length_map]; exact hj))
  obtain ⟨n, hn⟩ : ∃ n, n = ts.length := ⟨_, rfl⟩
  have HN := Lib.hid hn
  have HL : Hid (xs.length + (cnt n).length + ((ts.map inB).flatten).length ≤ 140737488355328) := Lib.hid (by unfold listB at hl; rw [List.length_append, ← hn] at hl; omega)
  rw [← hn] at RR cn SUM hc ⊢
  have hn3 : n ≤ 140737488355328 := by omega
  have cw : IntKind.u64.wrap (n : Int) = (n : Int) := by rw [IntKind.wrap_u64]; omega
  clear hn hc cn hl
  go_enter Tryd.func58, Tryd.ntmps58
  go_wp2_with (first
    | (go_at_call 31; refine (encode_any n _).mono ?_; rintro e w1 ⟨p1, g1, c1, rfl, N1, hb⟩; have K1 := Lib.hid (K0.out.call hb); have R1 := Lib.hid N1.row; clear hb N1 K0)
    | (at_builtin; refine wpList_wb rfl (.tmp 9) (.tmp 13) rfl K1 rfl rfl rfl R1 (by have := HL.out; rw [cnt_length] at this; omega) ?_; clear K1; intro p3 g3 c3 w3 z3 Z3 K))
  have Z3 : Hid (z3 = xs ++ cnt n) := Z3
  go_loopg [0, 17] n (fun k s i wr => ∃ (j : Nat) (p : Option Addr) (g c : Nat) (zs : List Nat), j + k = n ∧ i = .int .i64 (j : Int) ∧ s = .slice p zs.length c ∧ Hid (zs = xs ++ cnt n ++ fl (ts.map inB) j) ∧ Hid (Wb w0 l p g c zs wr))
  case atStart => exact ⟨0, p3, g3, c3, z3, by omega, rfl, rfl, Lib.hid (by rw [Z3.out]; simp [fl]), K⟩
  case round =>
    clear K Z3
    obtain ⟨j, p, g, c, zs, hj, rfl, rfl, Z, K⟩ := hrel
    obtain ⟨kk, rfl⟩ : ∃ kk : Nat, kk = gk := ⟨_, rfl⟩
    by_cases hlt : j < n
    · obtain rfl := RR.out.head (by omega)
      have ht : j < ts.length := by rw [← HN.out]; exact hlt
      have EC := Lib.hid (TT.out j ht)
      have FS := Lib.hid (show fl (ts.map inB) (j + 1) = fl (ts.map inB) j ++ inB ts[j] by rw [fl_succ _ (by rw [List.length_map]; exact ht), List.getElem_map])
      have BD := Lib.hid (show zs.length + (inB ts[j]).length ≤ 140737488355328 by
        have h1 := SUM.out (j + 1) (by omega)
        have h2 := HL.out
        rw [FS.out, List.length_append] at h1
        rw [Z.out, List.length_append, List.length_append]
        omega)
      go_wp2_with (first
        | (refine wpList_ix (k := 36) (j := j) Tryd.underlying55 (by kernel_rfl) (.tmp 15) (.tmp 17) rfl rfl rfl rfl hlt rfl ?_)
        | (refine wpList_ld 75 (.tmp 19) rfl rfl rfl ((RR.out.below K.out.mem.below).load hlt Tryd.underlying75 rfl (by kernel_rfl)) ?_)
        | (refine wb_alloc K 75 (by decide) rfl rfl infoIn ?_; clear K; intro b8 w4 K; simp only [arr_cells'] at K)
        | (refine wb_store_row 0 K 75 rfl (.tmp 8) (.tmp 20) rfl rfl rfl rfl (by kernel_rfl) (by simp only [arr_size]) (RR.out.arr_one hlt) ?_; clear K; intro w5 K; simp only [List.set_cons_zero, List.set_cons_succ] at K)
        | (refine mem_load_row (Lib.hid K.out.mem) 75 rfl (.tmp 8) rfl rfl List.mem_cons_self Tryd.underlying75 rfl (by simp only [arr_size]; kernel_rfl) ?_)
        | (go_at_call 59; refine (putin_any EC K BD.out).mono ?_; intro e w6 h6; obtain ⟨p6, g6, c6, z6, rfl, Z6, K6⟩ := h6.any; have K6 := Lib.hid K6.out.tail; clear h6 K))
      go_roundg (n - (j + 1))
      case measure => omega
      case rel => exact ⟨j + 1, p6, g6, c6, z6, by omega, by go_num, rfl, Lib.hid (by rw [Z6.out, Z.out, FS.out]; simp only [List.append_assoc]), K6⟩
    · obtain rfl : j = n := by omega
      have E2 := Lib.hid (show zs = xs ++ listB inB ts by
        have e := fl_all (ts.map inB)
        rw [List.length_map, ← HN.out] at e
        rw [Z.out, e]
        unfold listB
        rw [← HN.out, List.append_assoc])
      go_wp2
      go_ret
      exact Puts.of E2.out K.out

set_option maxHeartbeats 4000000 in
theorem plout_any {v : Value} {ts : List TOut} (A : Hid (OutsAt w0 v ts)) (K0 : Hid (Wb w0 l p g c xs w)) (hl : xs.length + (listB outB ts).length ≤ 140737488355328) :
    Calls Tryd.prog 60 #[.slice p xs.length c, v, .func (.func 61) #[] #[]] w (Puts w0 l (xs ++ listB outB ts)) := by
  obtain ⟨p0, g0, o0, c0, V, hv, hc, R0, hi⟩ := A.out
  subst hv
  have RR := Lib.hid R0
  have TT := Lib.hid hi
  have cn : ts.length ≤ c0 := R0.le
  clear R0 hi A
  have SUM := Lib.hid (show ∀ j, j ≤ ts.length → (fl (ts.map outB) j).length ≤ ((ts.map outB).flatten).length from fun j hj => by
    rw [← fl_all, fl_length, fl_length]
    exact sm_le _ (by rw [List.length_map]; exact hj))
  obtain ⟨n, hn⟩ : ∃ n, n = ts.length := ⟨_, rfl⟩
  have HN := Lib.hid hn
  have HL : Hid (xs.length + (cnt n).length + ((ts.map outB).flatten).length ≤ 140737488355328) := Lib.hid (by unfold listB at hl; rw [List.length_append, ← hn] at hl; omega)
  rw [← hn] at RR cn SUM hc ⊢
  have hn3 : n ≤ 140737488355328 := by omega
  have cw : IntKind.u64.wrap (n : Int) = (n : Int) := by rw [IntKind.wrap_u64]; omega
  clear hn hc cn hl
  go_enter Tryd.func60, Tryd.ntmps60
  go_wp2_with (first
    | (go_at_call 31; refine (encode_any n _).mono ?_; rintro e w1 ⟨p1, g1, c1, rfl, N1, hb⟩; have K1 := Lib.hid (K0.out.call hb); have R1 := Lib.hid N1.row; clear hb N1 K0)
    | (at_builtin; refine wpList_wb rfl (.tmp 9) (.tmp 13) rfl K1 rfl rfl rfl R1 (by have := HL.out; rw [cnt_length] at this; omega) ?_; clear K1; intro p3 g3 c3 w3 z3 Z3 K))
  have Z3 : Hid (z3 = xs ++ cnt n) := Z3
  go_loopg [0, 17] n (fun k s i wr => ∃ (j : Nat) (p : Option Addr) (g c : Nat) (zs : List Nat), j + k = n ∧ i = .int .i64 (j : Int) ∧ s = .slice p zs.length c ∧ Hid (zs = xs ++ cnt n ++ fl (ts.map outB) j) ∧ Hid (Wb w0 l p g c zs wr))
  case atStart => exact ⟨0, p3, g3, c3, z3, by omega, rfl, rfl, Lib.hid (by rw [Z3.out]; simp [fl]), K⟩
  case round =>
    clear K Z3
    obtain ⟨j, p, g, c, zs, hj, rfl, rfl, Z, K⟩ := hrel
    obtain ⟨kk, rfl⟩ : ∃ kk : Nat, kk = gk := ⟨_, rfl⟩
    by_cases hlt : j < n
    · obtain rfl := RR.out.head (by omega)
      have ht : j < ts.length := by rw [← HN.out]; exact hlt
      have EC := Lib.hid (TT.out j ht)
      have FS := Lib.hid (show fl (ts.map outB) (j + 1) = fl (ts.map outB) j ++ outB ts[j] by rw [fl_succ _ (by rw [List.length_map]; exact ht), List.getElem_map])
      have BD := Lib.hid (show zs.length + (outB ts[j]).length ≤ 140737488355328 by
        have h1 := SUM.out (j + 1) (by omega)
        have h2 := HL.out
        rw [FS.out, List.length_append] at h1
        rw [Z.out, List.length_append, List.length_append]
        omega)
      go_wp2_with (first
        | (refine wpList_ix (k := 2) (j := j) Tryd.underlying56 (by kernel_rfl) (.tmp 15) (.tmp 17) rfl rfl rfl rfl hlt rfl ?_)
        | (refine wpList_ld 77 (.tmp 19) rfl rfl rfl ((RR.out.below K.out.mem.below).load hlt Tryd.underlying77 rfl (by kernel_rfl)) ?_)
        | (refine wb_alloc K 77 (by decide) rfl rfl infoOut ?_; clear K; intro b8 w4 K)
        | (refine wb_store_row 0 K 77 rfl (.tmp 8) (.tmp 20) rfl rfl rfl rfl (by kernel_rfl) (by rw [arr_size]; rfl) (RR.out.arr_one hlt) ?_; clear K; intro w5 K; simp only [List.set_cons_zero, List.set_cons_succ] at K)
        | (refine mem_load_row (Lib.hid K.out.mem) 77 rfl (.tmp 8) rfl rfl List.mem_cons_self Tryd.underlying77 rfl (by simp only [arr_size]; kernel_rfl) ?_)
        | (go_at_call 61; refine (putout_any EC K BD.out).mono ?_; intro e w6 h6; obtain ⟨p6, g6, c6, z6, rfl, Z6, K6⟩ := h6.any; have K6 := Lib.hid K6.out.tail; clear h6 K))
      go_roundg (n - (j + 1))
      case measure => omega
      case rel => exact ⟨j + 1, p6, g6, c6, z6, by omega, by go_num, rfl, Lib.hid (by rw [Z6.out, Z.out, FS.out]; simp only [List.append_assoc]), K6⟩
    · obtain rfl : j = n := by omega
      have E2 := Lib.hid (show zs = xs ++ listB outB ts by
        have e := fl_all (ts.map outB)
        rw [List.length_map, ← HN.out] at e
        rw [Z.out, e]
        unfold listB
        rw [← HN.out, List.append_assoc])
      go_wp2
      go_ret
      exact Puts.of E2.out K.out

set_option maxHeartbeats 4000000 in
theorem pltext_any {v : Value} {ts : List (List Nat)} (A : Hid (TextsAt w0 v ts)) (K0 : Hid (Wb w0 l p g c xs w)) (hl : xs.length + (listB text ts).length ≤ 140737488355328) :
    Calls Tryd.prog 62 #[.slice p xs.length c, v, .func (.func 63) #[] #[]] w (Puts w0 l (xs ++ listB text ts)) := by
  obtain ⟨p0, g0, o0, c0, V, hv, hc, R0, hi⟩ := A.out
  subst hv
  have RR := Lib.hid R0
  have TT := Lib.hid hi
  have cn : ts.length ≤ c0 := R0.le
  clear R0 hi A
  have SUM := Lib.hid (show ∀ j, j ≤ ts.length → (fl (ts.map text) j).length ≤ ((ts.map text).flatten).length from fun j hj => by
    rw [← fl_all, fl_length, fl_length]
    exact sm_le _ (by rw [List.length_map]; exact hj))
  obtain ⟨n, hn⟩ : ∃ n, n = ts.length := ⟨_, rfl⟩
  have HN := Lib.hid hn
  have HL : Hid (xs.length + (cnt n).length + ((ts.map text).flatten).length ≤ 140737488355328) := Lib.hid (by unfold listB at hl; rw [List.length_append, ← hn] at hl; omega)
  rw [← hn] at RR cn SUM hc ⊢
  have hn3 : n ≤ 140737488355328 := by omega
  have cw : IntKind.u64.wrap (n : Int) = (n : Int) := by rw [IntKind.wrap_u64]; omega
  clear hn hc cn hl
  go_enter Tryd.func62, Tryd.ntmps62
  go_wp2_with (first
    | (go_at_call 31; refine (encode_any n _).mono ?_; rintro e w1 ⟨p1, g1, c1, rfl, N1, hb⟩; have K1 := Lib.hid (K0.out.call hb); have R1 := Lib.hid N1.row; clear hb N1 K0)
    | (at_builtin; refine wpList_wb rfl (.tmp 9) (.tmp 13) rfl K1 rfl rfl rfl R1 (by have := HL.out; rw [cnt_length] at this; omega) ?_; clear K1; intro p3 g3 c3 w3 z3 Z3 K))
  have Z3 : Hid (z3 = xs ++ cnt n) := Z3
  go_loopg [0, 17] n (fun k s i wr => ∃ (j : Nat) (p : Option Addr) (g c : Nat) (zs : List Nat), j + k = n ∧ i = .int .i64 (j : Int) ∧ s = .slice p zs.length c ∧ Hid (zs = xs ++ cnt n ++ fl (ts.map text) j) ∧ Hid (Wb w0 l p g c zs wr))
  case atStart => exact ⟨0, p3, g3, c3, z3, by omega, rfl, rfl, Lib.hid (by rw [Z3.out]; simp [fl]), K⟩
  case round =>
    clear K Z3
    obtain ⟨j, p, g, c, zs, hj, rfl, rfl, Z, K⟩ := hrel
    obtain ⟨kk, rfl⟩ : ∃ kk : Nat, kk = gk := ⟨_, rfl⟩
    by_cases hlt : j < n
    · obtain rfl := RR.out.head (by omega)
      have ht : j < ts.length := by rw [← HN.out]; exact hlt
      have EC := Lib.hid (TT.out j ht)
      have FS := Lib.hid (show fl (ts.map text) (j + 1) = fl (ts.map text) j ++ text ts[j] by rw [fl_succ _ (by rw [List.length_map]; exact ht), List.getElem_map])
      have CC := Lib.hid ((RR.out.below K.out.mem.below).cell j (by omega))
      have BD := Lib.hid (show zs.length + (text ts[j]).length ≤ 140737488355328 by
        have h1 := SUM.out (j + 1) (by omega)
        have h2 := HL.out
        rw [FS.out, List.length_append] at h1
        rw [Z.out, List.length_append, List.length_append]
        omega)
      go_wp2_with (first
        | (refine wpList_ix (k := 1) (j := j) Tryd.underlying73 (by kernel_rfl) (.tmp 15) (.tmp 17) rfl rfl rfl rfl hlt rfl ?_; rw [Nat.mul_one])
        | (refine wpList_ld1 30 (.tmp 19) rfl rfl rfl Tryd.underlying30 rfl CC.out ?_)
        | (go_at_call 63; refine (puttext_any EC K BD.out).mono ?_; intro e w6 h6; obtain ⟨p6, g6, c6, z6, rfl, Z6, K6⟩ := h6.any; clear h6 K))
      go_roundg (n - (j + 1))
      case measure => omega
      case rel => exact ⟨j + 1, p6, g6, c6, z6, by omega, by go_num, rfl, Lib.hid (by rw [Z6.out, Z.out, FS.out]; simp only [List.append_assoc]), K6⟩
    · obtain rfl : j = n := by omega
      have E2 := Lib.hid (show zs = xs ++ listB text ts by
        have e := fl_all (ts.map text)
        rw [List.length_map, ← HN.out] at e
        rw [Z.out, e]
        unfold listB
        rw [← HN.out, List.append_assoc])
      go_wp2
      go_ret
      exact Puts.of E2.out K.out
end
end Go.Proofs.YtfjpjhhkafkepaaDoor

