/- The shortest form of a count, and what a form says. -/
import Derived.Test.YtbhmolpmlkemdaaDoorSa
import Derived.Test.YtbhmolpmlkemdaaDoorSb
set_option linter.unusedSimpArgs false
set_option maxRecDepth 100000
namespace Go.Proofs.YtbhmolpmlkemdaaDoor
open Go.RowKit Go.Lib

abbrev frm (n : Nat) : Nat → Nat := cut (enc n) (wid n)
theorem infoF : (Tryd.prog.info? 69).map (fun i => (i.zero, i.size)) = some (some (.agg (arr 9 (bv fun _ => 0))), 9) := by kernel_rfl
theorem builtF (m : Nat) : Tryd.prog.built 69 (#[(0, .int .u8 (m : Int))] : Array (Nat × Value)).toList = some (arr 9 (bv fun i => if i = 0 then m else 0)) := by kernel_rfl
theorem cut_one (n : Nat) : arr 9 (bv fun i => if i = 0 then mk n else 0) = arr 9 (bv (cut (enc n) 1)) := arr_congr fun i _ => by
  have e : (if i = 0 then mk n else 0) = cut (enc n) 1 i := by
    unfold cut enc
    by_cases h : i = 0
    · rw [if_pos h, if_pos (by omega), if_pos h]
    · rw [if_neg h, if_neg (by omega)]
  unfold bv
  rw [← e]
theorem arr_cells (n : Nat) (f : Nat → Value) : (Value.agg (arr n f)).cells = arr n f := rfl
theorem cut_more (n k : Nat) : (arr 9 (bv (cut (enc n) (k + 1)))).setIfInBounds (1 + k) (.int .u8 ((byteAt n k : Nat) : Int)) = arr 9 (bv (cut (enc n) (k + 1 + 1))) := by
  rw [arr_set]
  refine arr_congr fun i _ => ?_
  unfold upd bv cut
  by_cases h : i = 1 + k
  · rw [if_pos h, if_pos (by omega)]
    unfold enc
    rw [if_neg (by omega)]
    subst h
    congr 3
    omega
  · rw [if_neg h]
    by_cases h2 : i < k + 1
    · rw [if_pos h2, if_pos (by omega)]
    · rw [if_neg h2, if_neg (by omega)]
set_option maxRecDepth 100000 in
set_option maxHeartbeats 2000000 in
theorem shortest_any (n : Nat) (w : World) : Calls Tryd.prog 41 #[.int .u64 ((n : Nat) : Int)] w fun e w' => e = .returned (.tuple #[.agg (arr 9 (bv (frm n))), .int .i64 ((wid n : Nat) : Int)]) ∧ Below w.heap.size w w' := by
  have E := Lib.hid (Mem.nil w)
  have hw := wid_bd n
  have bb := builtF (mk n)
  rw [cut_one] at bb
  have BB := Lib.hid bb
  have ml := mk_lt n
  have WM : Hid (∀ W : World, Calls Tryd.prog 62 #[.int .u8 ((mk n : Nat) : Int)] W fun e w' => e = .returned (.int .i64 ((wid n : Nat) : Int)) ∧ W = w') := Lib.hid (width_any (mk n) ml)
  clear bb
  go_enter Tryd.func41, Tryd.ntmps41
  go_wp2_with (first
    | (with_reducible refine mem_alloc E 69 rfl rfl infoF ?_; clear E; intro b w2 E; simp only [arr_cells] at E)
    | (go_at_call 61; refine (mark_any n _).mono ?_; rintro e w1 ⟨rfl, rfl⟩)
    | (go_at_call 62; refine (WM.out _).mono ?_; rintro e w1 ⟨rfl, rfl⟩)
    | (refine wpList_build_to rfl 69 _ rfl #[(0, .int .u8 ((mk n : Nat) : Int))] (by first | kernel_rfl | (simp; rfl)) _ BB.out ?_)
    | (refine mem_store_row 0 E 69 rfl _ _ rfl rfl rfl rfl (by kernel_rfl) (by rw [arr_size, arr_size]) (bv_one _ _) ?_; clear E; intro w2 E; simp only [List.set_cons_zero, List.set_cons_succ] at E)
    | (with_reducible refine mem_load_cell E 5 (by kernel_rfl) _ rfl rfl List.mem_cons_self Tryd.underlying5 rfl rfl ?_))
  rename_i b2 _ _ _ _
  clear BB WM
  go_loopg [15] (wid n - 1) (fun k i wr => ∃ j : Nat, j + k = wid n - 1 ∧ i = .int .i64 (j : Int) ∧ Hid (Mem w [(b, 69, arr 9 (bv (cut (enc n) (j + 1)))), (b2, 69, arr 9 (bv fun _ => 0))] wr))
  case atStart => exact ⟨0, by omega, rfl, E⟩
  case round =>
    clear E
    obtain ⟨j, hj, rfl, E⟩ := hrel
    obtain ⟨kk, rfl⟩ : ∃ kk : Nat, kk = gk := ⟨_, rfl⟩
    by_cases hlt : j < wid n - 1
    · have hlt' : (j : Int) < ((wid n : Nat) : Int) - 1 := by omega
      have BI := byte_int n j
      have t8 : (8 * (j : Int)).toNat = 8 * j := by omega
      have cm := Lib.hid (cut_more n j)
      go_wp2_with (refine mem_store_cell 0 E 5 rfl _ _ rfl rfl rfl rfl (by kernel_rfl) rfl rfl (arr_get 9 _ (1 + j) (by omega)) cm.out ?_; clear E; intro w3 E; simp only [List.set_cons_zero, List.set_cons_succ] at E)
      go_roundg (kk - 1)
      case measure => omega
      case rel => exact ⟨j + 1, by omega, by go_num, E⟩
    · have e : j + 1 = wid n := by omega
      rw [e] at E
      have hlt' : ¬ (j : Int) < ((wid n : Nat) : Int) - 1 := by omega
      clear e hj
      go_wp2_with (first
        | (with_reducible refine mem_load_row E 69 (by kernel_rfl) _ rfl rfl List.mem_cons_self Tryd.underlying69 rfl (by rw [arr_size]; kernel_rfl) ?_)
        | (refine mem_store_row 1 E 69 rfl _ _ rfl rfl rfl rfl (by kernel_rfl) (by rw [arr_size, arr_size]) (bv_one _ _) ?_; clear E; intro w2 E; simp only [List.set_cons_zero, List.set_cons_succ] at E))
      exact bodyPost_ret (res_row_tmp (fn := Tryd.f41) rfl _ _ b2 9 69 _ _ rfl (E.out.get (List.mem_cons_of_mem _ List.mem_cons_self)) Tryd.underlying69 rfl (by kernel_rfl)) rfl ⟨rfl, E.out.below⟩

end Go.Proofs.YtbhmolpmlkemdaaDoor

