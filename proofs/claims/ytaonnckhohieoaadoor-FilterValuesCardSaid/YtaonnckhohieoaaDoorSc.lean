/- The shortest form of a count, and what a form says. -/
import Derived.Test.YtaonnckhohieoaaDoorSa
import Derived.Test.YtaonnckhohieoaaDoorSb
set_option linter.unusedSimpArgs false
set_option maxRecDepth 100000
namespace Go.Proofs.YtaonnckhohieoaaDoor
open Go.RowKit Go.Lib

abbrev frm (n : Nat) : Nat → Nat := cut (enc n) (wid n)
theorem infoF : (Tryd.prog.info? 68).map (fun i => (i.zero, i.size)) = some (some (.agg (arr 9 (bv fun _ => 0))), 9) := by kernel_rfl
theorem builtF (m : Nat) : Tryd.prog.built 68 (#[(0, .int .u8 (m : Int))] : Array (Nat × Value)).toList = some (arr 9 (bv fun i => if i = 0 then m else 0)) := by kernel_rfl
theorem cut_one (n : Nat) : arr 9 (bv fun i => if i = 0 then mk n else 0) = arr 9 (bv (cut (enc n) 1)) := arr_congr fun i _ => by
  have e : (if i = 0 then mk n else 0) = cut (enc n) 1 i := by
    unfold cut enc
    by_cases h : i = 0
    · rw [if_pos h, if_pos (by omega), if_pos h]
    · rw [if_neg h, if_neg (by omega)]
  unfold bv
  rw [← e]
theorem arr_cells (n : Nat) (f : Nat → Value) : (Value.agg (arr n f)).cells = arr n f := rfl
theorem cut_more (n k : Nat) : (arr 9 (bv (cut (enc n) (k + 1)))).setIfInBounds (1 + k) (.int .u8 ((byteAt n k : Nat) : Int)) = arr 9 (bv (cut (enc n) (k + 1 + 1))) := by
  rw [arr_set]
  refine arr_congr fun i _ => ?_
  unfold upd bv cut
  by_cases h : i = 1 + k
  · rw [if_pos h, if_pos (by omega)]
    unfold enc
    rw [if_neg (by omega)]
    subst h
    congr 3
    omega
  · rw [if_neg h]
    by_cases h2 : i < k + 1
    · rw [if_pos h2, if_pos (by omega)]
    · rw [if_neg h2, if_neg (by omega)]
set_option maxRecDepth 100000 in
set_option maxHeartbeats 2000000 in
theorem shortest_any (n : Nat) (w : World) : Calls Tryd.prog 38 #[.int .u64 ((n : Nat) : Int)] w fun e w' => e = .returned (.tuple #[.agg (arr 9 (bv (frm n))), .int .i64 ((wid n : Nat) : Int)]) ∧ Below w.heap.size w w' := by
  have E := Lib.hid (Mem.nil w)
  have hw := wid_bd n
  have bb := builtF (mk n)
  rw [cut_one] at bb
  have BB := Lib.hid bb
  have ml := mk_lt n
  have WM : Hid (∀ W : World, Calls Tryd.prog 36 #[.int .u8 ((mk n : Nat) : Int)] W fun e w' => e = .returned (.int .i64 ((wid n : Nat) : Int)) ∧ W = w') := Lib.hid (width_any (mk n) ml)
  clear bb
  go_enter Tryd.func38, Tryd.ntmps38
  go_wp2_with (first
    | (with_reducible refine mem_alloc E 68 rfl rfl infoF ?_; clear E; intro b w2 E; simp only [arr_cells] at E)
    | (go_at_call 51; refine (mark_any n _).mono ?_; rintro e w1 ⟨rfl, rfl⟩)
    | (go_at_call 36; refine (WM.out _).mono ?_; rintro e w1 ⟨rfl, rfl⟩)
    | (refine wpList_build_to rfl 68 _ rfl #[(0, .int .u8 ((mk n : Nat) : Int))] (by first | kernel_rfl | (simp; rfl)) _ BB.out ?_)
    | (refine mem_store_row 0 E 68 rfl _ _ rfl rfl rfl rfl (by kernel_rfl) (by rw [arr_size, arr_size]) (bv_one _ _) ?_; clear E; intro w2 E; simp only [List.set_cons_zero, List.set_cons_succ] at E)
    | (with_reducible refine mem_load_cell E 5 (by kernel_rfl) _ rfl rfl List.mem_cons_self Tryd.underlying5 rfl rfl ?_))
  rename_i b2 _ _ _ _
  clear BB WM
  go_loopg [15] (wid n - 1) (fun k i wr => ∃ j : Nat, j + k = wid n - 1 ∧ i = .int .i64 (j : Int) ∧ Hid (Mem w [(b, 68, arr 9 (bv (cut (enc n) (j + 1)))), (b2, 68, arr 9 (bv fun _ => 0))] wr))
  case atStart => exact ⟨0, by omega, rfl, E⟩
  case round =>
    clear E
    obtain ⟨j, hj, rfl, E⟩ := hrel
    obtain ⟨kk, rfl⟩ : ∃ kk : Nat, kk = gk := ⟨_, rfl⟩
    by_cases hlt : j < wid n - 1
    · have hlt' : (j : Int) < ((wid n : Nat) : Int) - 1 := by omega
      have BI := byte_int n j
      have t8 : (8 * (j : Int)).toNat = 8 * j := by omega
      have cm := Lib.hid (cut_more n j)
      go_wp2_with (refine mem_store_cell 0 E 5 rfl _ _ rfl rfl rfl rfl (by kernel_rfl) rfl rfl (arr_get 9 _ (1 + j) (by omega)) cm.out ?_; clear E; intro w3 E; simp only [List.set_cons_zero, List.set_cons_succ] at E)
      go_roundg (kk - 1)
      case measure => omega
      case rel => exact ⟨j + 1, by omega, by go_num, E⟩
    · have e : j + 1 = wid n := by omega
      rw [e] at E
      have hlt' : ¬ (j : Int) < ((wid n : Nat) : Int) - 1 := by omega
      clear e hj
      go_wp2_with (first
        | (with_reducible refine mem_load_row E 68 (by kernel_rfl) _ rfl rfl List.mem_cons_self Tryd.underlying68 rfl (by rw [arr_size]; kernel_rfl) ?_)
        | (refine mem_store_row 1 E 68 rfl _ _ rfl rfl rfl rfl (by kernel_rfl) (by rw [arr_size, arr_size]) (bv_one _ _) ?_; clear E; intro w2 E; simp only [List.set_cons_zero, List.set_cons_succ] at E))
      exact bodyPost_ret (res_row_tmp (fn := Tryd.f38) rfl _ _ b2 9 68 _ _ rfl (E.out.get (List.mem_cons_of_mem _ List.mem_cons_self)) Tryd.underlying68 rfl (by kernel_rfl)) rfl ⟨rfl, E.out.below⟩

set_option maxRecDepth 100000 in
set_option maxHeartbeats 2000000 in
theorem form_number_any (f : Nat → Nat) (hf : Hid (∀ i, f i < 256)) (w : World) : Calls Tryd.prog 37 #[.agg (arr 9 (bv f))] w fun e w' => e = .returned (.int .u64 ((num f : Nat) : Int)) ∧ Below w.heap.size w w' := by
  have E := Lib.hid (Mem.nil w)
  by_cases h0 : f 0 < 253
  · have t0 : decide ((f 0 : Int) < 253) = true := by simp; omega
    have en : num f = f 0 := by unfold num; rw [if_pos h0]
    have EN := Lib.hid en
    clear en
    go_enter Tryd.func37, Tryd.ntmps37
    go_wp2_with (first
      | (refine mem_box E 68 rfl _ rfl rfl (arr_cells 9 (bv f)) ?_; clear E; intro b w2 E)
      | (refine mem_load_cell E 5 (by kernel_rfl) _ rfl rfl List.mem_cons_self Tryd.underlying5 rfl (arr_get 9 _ 0 (by decide)) ?_; simp only [bv]))

    go_ret
    exact ⟨ret_of (by rw [EN.out]), E.out.below⟩
  · have t0 : decide ((f 0 : Int) < 253) = false := by simp; omega
    have en : num f = ofBytes (fun i => f (1 + i)) 8 := by unfold num; rw [if_neg h0]
    have EN := Lib.hid en
    clear en h0
    go_enter Tryd.func37, Tryd.ntmps37
    go_wp2_with (first
      | (refine mem_box E 68 rfl _ rfl rfl (arr_cells 9 (bv f)) ?_; clear E; intro b w2 E)
      | (refine mem_load_cell E 5 (by kernel_rfl) _ rfl rfl List.mem_cons_self Tryd.underlying5 rfl (arr_get 9 _ 0 (by decide)) ?_; simp only [bv]))
    go_loop [3, 14] (fun s i => ∃ k : Nat, k ≤ 8 ∧ i = .int .i64 (k : Int) ∧ s = .int .u64 ((ofBytes (fun i => f (1 + i)) k : Nat) : Int)) (fun _ i => 8 - (intOf i).toNat)
    case atStart => exact ⟨0, by omega, rfl, rfl⟩
    case round =>
      obtain ⟨k, hk, rfl, rfl⟩ := hrel
      by_cases hlt : k < 8
      · have c0 := cell_of_here (E.out.get List.mem_cons_self) (1 + k) (arr_get 9 (bv f) (1 + k) (by omega))
        simp only [bv] at c0
        have fl := hf.out (1 + k)
        have ob := ofBytes_lt (f := fun i => f (1 + i)) (m := k) fun i _ => hf.out (1 + i)
        have OR := Lib.hid (or_byte64 (a := ofBytes (fun i => f (1 + i)) k) (f := f (1 + k)) (k := k) (by omega) ob fl)
        have t8 : (8 * (k : Int)).toNat = 8 * k := by omega
        have ol : ofBytes (fun i => f (1 + i)) k < 18446744073709551616 := by
          have h2 : 2 ^ (8 * k) ≤ 2 ^ 64 := Nat.pow_le_pow_right (by decide) (by omega)
          omega
        clear ob
        go_wp2
        go_round
        case rel => exact ⟨k + 1, by omega, by go_num, by rw [OR.out, ofBytes]⟩
        case measure => simp [intOf]; omega
      · obtain rfl : k = 8 := by omega
        go_wp2
        go_ret
        exact ⟨ret_of (by rw [EN.out]), E.out.below⟩
end Go.Proofs.YtaonnckhohieoaaDoor

