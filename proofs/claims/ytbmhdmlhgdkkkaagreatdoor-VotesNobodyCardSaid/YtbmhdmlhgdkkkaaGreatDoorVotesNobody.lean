/- For every call of votes: votes that no call made, the nil ones and the empty ones, answer each call with the error for it, or with nothing; and bytes that are none can't be a filter, whatever sum is said; the call returns true. The tables that the row lists (those of package sha, one of sip, and three of the library's) are laid as the card ties them. No other condition. -/
import Derived.Test.YtbmhdmlhgdkkkaaGreatDoorVn
import Derived.Test.YtbmhdmlhgdkkkaaGreatDoorOp
import Derived.Test.YtbmhdmlhgdkkkaaGreatDoorTie
import Derived.Test.YtbmhdmlhgdkkkaaGreatDoorCards
import Derived.Lay
import Derived.Deep.LoopGhost
import Derived.ShutString
import Derived.ChangeOld
import Derived.Below
import Derived.SevenTiedAt
set_option linter.unusedVariables false
set_option linter.unusedSimpArgs false
namespace Go.Proofs.YtbmhdmlhgdkkkaaGreatDoor.votesNobody
open Go.ChangeShapes Go.WideShapes Go.ChangeAt Go.RowKit Go.Lib Go.Sort Go.Proofs.YtbmhdmlhgdkkkaaGreatDoor

set_option maxRecDepth 100000
theorem own : ownKnob Tryz.prog.godebug = none := by kernel_rfl
theorem infoPV : (Tryz.prog.info? 26).map (fun i => (i.zero, i.size, i.bytes)) = some (some (.pointer none), 1, 8) := by kernel_rfl
theorem built_votes : Tryz.prog.built 29 (#[] : Array (Nat × Value)).toList = some #[.pointer none] := by kernel_rfl
theorem built_blk : (Tryz.prog.built 47 (#[] : Array (Nat × Value)).toList).isSome = true := by kernel_rfl
theorem exec_bsl {o : Oper} {ev : Operand → Value} {W W' : World} {T : TypeId} {m : Nat} {parts : Array (Nat × Operand)} (ho : o.op = .buildSlice T m parts) {ps : Array (Nat × Value)} (hp : (parts.map fun (i, y) => (i, ev y)) = ps) {v : Value} (h : (Instr.buildSlice T m ps).run Tryz.prog W = .ok v W') : (execOp ev o).run Tryz.prog W = .ok (.value v) W' := by
  unfold execOp
  simp only [ho, hp, Sem.run_bind, h, Result.andThen_ok]
  rfl
theorem bs_two (b : Nat) (W : World) : (Instr.buildSlice 30 2 #[(0, .pointer none), (1, .pointer (some ⟨b, 0, none⟩))]).run Tryz.prog W = .ok (.slice (some ⟨W.heap.size, 0, none⟩) 2 2) (W.alloc (.cells #[.pointer none, .pointer (some ⟨b, 0, none⟩)] 26)) := by kernel_rfl
set_option maxHeartbeats 16000000 in
theorem walk (W : World) (hL : laidMetH Tryz.prog S.vnLaid W) (V0 : Nat → Value) (a0 : List Nat) (w0 : ∀ j, j < 32 → V0 (1 + j) = byv (lf a0 j)) :
    Calls Tryz.prog 3 #[.agg (arr 34 V0)] W fun e w' => e = .returned (.bool true) ∧ Below W.heap.size W w' := by
  have KL := Lib.hid (show S.Both W from S.of_vn hL)
  have E := Lib.hid (Mem.nil W)
  have H0 := Lib.hid w0
  obtain ⟨blk, hblk⟩ := Option.isSome_iff_exists.1 built_blk
  have HB := Lib.hid hblk
  clear hL w0 hblk
  go_enter Tryz.func3, Tryz.ntmps3
  go_upto_region 2 with (first
    | ((with_reducible refine wpList_at 1 rfl ?_); refine mem_box E 25 rfl _ rfl rfl (arr_cells' 34 V0) ?_; clear E; intro b1 w1 E)
    | ((with_reducible refine wpList_at 5 rfl ?_); refine wpList_bld 29 _ rfl rfl (ps := #[]) (by kernel_rfl) built_votes ?_)
    | ((with_reducible refine wpList_at 6 rfl ?_); refine mem_box (c := #[.pointer none]) E 29 rfl _ rfl rfl rfl ?_; clear E; intro b6 w6 E)
    | ((with_reducible refine wpList_at 7 rfl ?_); refine mem_known rfl _ _ (exec_bsl rfl (by kernel_rfl) (bs_two b6 _)) ?_; have E2 := Lib.hid (E.out.new 26 #[.pointer none, .pointer (some ⟨b6, 0, none⟩)]); generalize w6.heap.size = b7 at E2 ⊢; generalize w6.alloc (.cells #[.pointer none, .pointer (some ⟨b6, 0, none⟩)] 26) = w7 at E2 ⊢; clear E))
  go_wp2_with fail
  go_loopg [9] 2 (fun k i wr => ∃ j : Nat, j + k = 2 ∧ i = .int .i64 (j : Int) ∧ Hid (Mem W [(b7, 26, #[.pointer none, .pointer (some ⟨b6, 0, none⟩)]), (b6, 29, #[.pointer none]), (b1, 25, arr 34 V0)] wr))
  case atStart => exact ⟨0, by omega, rfl, E2⟩
  case round =>
    clear E2
    obtain ⟨j, hj, rfl, E3⟩ := hrel
    obtain rfl | rfl | rfl : j = 0 ∨ j = 1 ∨ j = 2 := by omega
    · obtain ⟨kk, hkk⟩ : ∃ kk : Nat, kk = gk := ⟨_, rfl⟩
      have U := Lib.hid (show Un wr (.pointer none) from .inl rfl)
      go_upto_region 4 with (first
        | (refine wpList_ix (k := 1) (j := 0) Tryz.underlying30 (by kernel_rfl) (.tmp 7) (.tmp 9) rfl rfl rfl rfl (by omega) rfl ?_)
        | (refine mem_load_cell E3 26 rfl (.tmp 11) rfl rfl List.mem_cons_self Tryz.underlying26 rfl (v := .pointer none) rfl ?_))
      have CX := Lib.hid (E3.out.get (b := b1) (T := 25) (c := arr 34 V0) (List.mem_cons_of_mem _ (List.mem_cons_of_mem _ List.mem_cons_self)))
      refine wp_region_T (Φ := fun X => Below wr.heap.size wr X) (S := fun X => X.heap[b1]? = some (.cells (arr 34 V0) 25 (0, 0))) (Lib.hid (Below.refl _ _)) (fun _ h => h.drew) (fun X h => (h.block b1 (heap_lt CX.out)).trans CX.out) (by kernel_rfl) ?_
      intro wx TT S0
      clear CX
      refine hm_run 0 13 (.pointer none) rfl rfl (by kernel_rfl) (by kernel_rfl) (by kernel_rfl) (fun _ _ _ h => h) rfl (fun _ _ => rfl) S0.out ?_
      try simp only [Act.put, List.getElem_toArray, List.getElem_cons_succ, List.getElem_cons_zero, List.setIfInBounds_toArray, List.set_cons_zero, List.set_cons_succ]
      refine hm_run 1 14 (.pointer (some ⟨b1, 0, none⟩)) rfl rfl (by kernel_rfl) (by kernel_rfl) (by kernel_rfl) (fun _ _ _ h => h) rfl (fun _ _ => rfl) S0.out ?_
      try simp only [Act.put, List.getElem_toArray, List.getElem_cons_succ, List.getElem_cons_zero, List.setIfInBounds_toArray, List.set_cons_zero, List.set_cons_succ]
      refine hm_run 2 15 (V0 0) rfl rfl (by kernel_rfl) (by kernel_rfl) (by kernel_rfl) (fun _ _ _ h => h) rfl (fun W hW => exec_load rfl (run_load_one Tryz.underlying3 rfl (cell_of_here hW 0 (arr_get 34 V0 0 (by omega))))) S0.out ?_
      try simp only [Act.put, List.getElem_toArray, List.getElem_cons_succ, List.getElem_cons_zero, List.setIfInBounds_toArray, List.set_cons_zero, List.set_cons_succ]
      refine hm_run 3 16 (.pointer (some ⟨b1, 1, none⟩)) rfl rfl (by kernel_rfl) (by kernel_rfl) (by kernel_rfl) (fun _ _ _ h => h) rfl (fun _ _ => rfl) S0.out ?_
      try simp only [Act.put, List.getElem_toArray, List.getElem_cons_succ, List.getElem_cons_zero, List.setIfInBounds_toArray, List.set_cons_zero, List.set_cons_succ]
      refine hm_run 4 17 (.agg (arr 32 (bv (lf a0)))) rfl rfl (by kernel_rfl) (by kernel_rfl) (by kernel_rfl) (fun _ _ _ h => h) rfl (fun W hW => exec_load rfl (hash_mid hW (by omega) H0.out)) S0.out ?_
      try simp only [Act.put, List.getElem_toArray, List.getElem_cons_succ, List.getElem_cons_zero, List.setIfInBounds_toArray, List.set_cons_zero, List.set_cons_succ]
      refine hm_one (i := 5) (by kernel_rfl) ?_
      refine hm_step 5 rfl (by kernel_rfl) fun K hK => ?_
      try simp only [Act.put, List.getElem_toArray, List.getElem_cons_succ, List.getElem_cons_zero, List.setIfInBounds_toArray, List.set_cons_zero, List.set_cons_succ]
      go_simp
      go_at_call 4
      refine (vote_un (U.out.below TT.out)).mono ?_
      rintro e w7 ⟨rfl, hb7⟩
      replace TT := Lib.hid (TT.out.trans (hb7.mono TT.out.size))
      have S5_5 := Lib.hid (show w7.heap[b1]? = _ from (hb7.block b1 (heap_lt S0.out)).trans S0.out)
      clear hb7
      refine hK _ _ S5_5.out ?_
      clear hK K
      try simp only [Act.put, List.getElem_toArray, List.getElem_cons_succ, List.getElem_cons_zero, List.setIfInBounds_toArray, List.set_cons_zero, List.set_cons_succ]
      refine hm_run 6 19 (.bool false) rfl rfl (by kernel_rfl) (by kernel_rfl) (by kernel_rfl) (fun _ _ _ h => h) rfl (fun _ _ => exec_neqE rfl rfl rfl rfl) S5_5.out ?_
      try simp only [Act.put, List.getElem_toArray, List.getElem_cons_succ, List.getElem_cons_zero, List.setIfInBounds_toArray, List.set_cons_zero, List.set_cons_succ]
      refine hm_run 7 20 (.bool false) rfl rfl (by kernel_rfl) (by kernel_rfl) (by kernel_rfl) (fun _ _ _ h => h) rfl (fun _ _ => rfl) S5_5.out ?_
      try simp only [Act.put, List.getElem_toArray, List.getElem_cons_succ, List.getElem_cons_zero, List.setIfInBounds_toArray, List.set_cons_zero, List.set_cons_succ]
      refine hm_run 8 21 (.pointer none) rfl rfl (by kernel_rfl) (by kernel_rfl) (by kernel_rfl) (fun _ _ _ h => h) rfl (fun _ _ => rfl) S5_5.out ?_
      try simp only [Act.put, List.getElem_toArray, List.getElem_cons_succ, List.getElem_cons_zero, List.setIfInBounds_toArray, List.set_cons_zero, List.set_cons_succ]
      refine hm_run 9 22 (.pointer (some ⟨b1, 0, none⟩)) rfl rfl (by kernel_rfl) (by kernel_rfl) (by kernel_rfl) (fun _ _ _ h => h) rfl (fun _ _ => rfl) S5_5.out ?_
      try simp only [Act.put, List.getElem_toArray, List.getElem_cons_succ, List.getElem_cons_zero, List.setIfInBounds_toArray, List.set_cons_zero, List.set_cons_succ]
      refine hm_run 10 23 (V0 0) rfl rfl (by kernel_rfl) (by kernel_rfl) (by kernel_rfl) (fun _ _ _ h => h) rfl (fun W hW => exec_load rfl (run_load_one Tryz.underlying3 rfl (cell_of_here hW 0 (arr_get 34 V0 0 (by omega))))) S5_5.out ?_
      try simp only [Act.put, List.getElem_toArray, List.getElem_cons_succ, List.getElem_cons_zero, List.setIfInBounds_toArray, List.set_cons_zero, List.set_cons_succ]
      refine hm_one (i := 11) (by kernel_rfl) ?_
      refine hm_step 11 rfl (by kernel_rfl) fun K hK => ?_
      try simp only [Act.put, List.getElem_toArray, List.getElem_cons_succ, List.getElem_cons_zero, List.setIfInBounds_toArray, List.set_cons_zero, List.set_cons_succ]
      go_simp
      go_at_call 5
      refine (leave_un (U.out.below TT.out)).mono ?_
      rintro e w7 ⟨rfl, hb7⟩
      replace TT := Lib.hid (TT.out.trans (hb7.mono TT.out.size))
      have S11_11 := Lib.hid (show w7.heap[b1]? = _ from (hb7.block b1 (heap_lt S5_5.out)).trans S5_5.out)
      clear hb7
      refine hK _ _ S11_11.out ?_
      clear hK K
      try simp only [Act.put, List.getElem_toArray, List.getElem_cons_succ, List.getElem_cons_zero, List.setIfInBounds_toArray, List.set_cons_zero, List.set_cons_succ]
      refine hm_run 12 25 (.bool false) rfl rfl (by kernel_rfl) (by kernel_rfl) (by kernel_rfl) (fun _ _ _ h => h) rfl (fun _ _ => exec_neqE rfl rfl rfl rfl) S11_11.out ?_
      try simp only [Act.put, List.getElem_toArray, List.getElem_cons_succ, List.getElem_cons_zero, List.setIfInBounds_toArray, List.set_cons_zero, List.set_cons_succ]
      refine hm_run 13 26 (.bool false) rfl rfl (by kernel_rfl) (by kernel_rfl) (by kernel_rfl) (fun _ _ _ h => h) rfl (fun _ _ => rfl) S11_11.out ?_
      try simp only [Act.put, List.getElem_toArray, List.getElem_cons_succ, List.getElem_cons_zero, List.setIfInBounds_toArray, List.set_cons_zero, List.set_cons_succ]
      refine hm_run 14 27 (.bool false) rfl rfl (by kernel_rfl) (by kernel_rfl) (by kernel_rfl) (fun _ _ _ h => h) rfl (fun _ _ => rfl) S11_11.out ?_
      try simp only [Act.put, List.getElem_toArray, List.getElem_cons_succ, List.getElem_cons_zero, List.setIfInBounds_toArray, List.set_cons_zero, List.set_cons_succ]
      refine hm_run 15 28 (.pointer none) rfl rfl (by kernel_rfl) (by kernel_rfl) (by kernel_rfl) (fun _ _ _ h => h) rfl (fun _ _ => rfl) S11_11.out ?_
      try simp only [Act.put, List.getElem_toArray, List.getElem_cons_succ, List.getElem_cons_zero, List.setIfInBounds_toArray, List.set_cons_zero, List.set_cons_succ]
      refine hm_run 16 29 (.pointer (some ⟨b1, 0, none⟩)) rfl rfl (by kernel_rfl) (by kernel_rfl) (by kernel_rfl) (fun _ _ _ h => h) rfl (fun _ _ => rfl) S11_11.out ?_
      try simp only [Act.put, List.getElem_toArray, List.getElem_cons_succ, List.getElem_cons_zero, List.setIfInBounds_toArray, List.set_cons_zero, List.set_cons_succ]
      refine hm_run 17 30 (V0 0) rfl rfl (by kernel_rfl) (by kernel_rfl) (by kernel_rfl) (fun _ _ _ h => h) rfl (fun W hW => exec_load rfl (run_load_one Tryz.underlying3 rfl (cell_of_here hW 0 (arr_get 34 V0 0 (by omega))))) S11_11.out ?_
      try simp only [Act.put, List.getElem_toArray, List.getElem_cons_succ, List.getElem_cons_zero, List.setIfInBounds_toArray, List.set_cons_zero, List.set_cons_succ]
      refine hm_one (i := 18) (by kernel_rfl) ?_
      refine hm_step 18 rfl (by kernel_rfl) fun K hK => ?_
      try simp only [Act.put, List.getElem_toArray, List.getElem_cons_succ, List.getElem_cons_zero, List.setIfInBounds_toArray, List.set_cons_zero, List.set_cons_succ]
      go_simp
      go_at_call 6
      refine (has_un (U.out.below TT.out)).mono ?_
      rintro e w7 ⟨rfl, hb7⟩
      replace TT := Lib.hid (TT.out.trans (hb7.mono TT.out.size))
      have S18_18 := Lib.hid (show w7.heap[b1]? = _ from (hb7.block b1 (heap_lt S11_11.out)).trans S11_11.out)
      clear hb7
      refine hK _ _ S18_18.out ?_
      clear hK K
      try simp only [Act.put, List.getElem_toArray, List.getElem_cons_succ, List.getElem_cons_zero, List.setIfInBounds_toArray, List.set_cons_zero, List.set_cons_succ]
      refine hm_run 19 32 (.bool false) rfl rfl (by kernel_rfl) (by kernel_rfl) (by kernel_rfl) (fun _ _ _ h => h) rfl (fun _ _ => rfl) S18_18.out ?_
      try simp only [Act.put, List.getElem_toArray, List.getElem_cons_succ, List.getElem_cons_zero, List.setIfInBounds_toArray, List.set_cons_zero, List.set_cons_succ]
      refine hm_run 20 33 (.bool false) rfl rfl (by kernel_rfl) (by kernel_rfl) (by kernel_rfl) (fun _ _ _ h => h) rfl (fun _ _ => rfl) S18_18.out ?_
      try simp only [Act.put, List.getElem_toArray, List.getElem_cons_succ, List.getElem_cons_zero, List.setIfInBounds_toArray, List.set_cons_zero, List.set_cons_succ]
      refine hm_run 21 34 (.pointer none) rfl rfl (by kernel_rfl) (by kernel_rfl) (by kernel_rfl) (fun _ _ _ h => h) rfl (fun _ _ => rfl) S18_18.out ?_
      try simp only [Act.put, List.getElem_toArray, List.getElem_cons_succ, List.getElem_cons_zero, List.setIfInBounds_toArray, List.set_cons_zero, List.set_cons_succ]
      refine hm_run 24 37 (.pointer none) rfl rfl (by kernel_rfl) (by kernel_rfl) (by kernel_rfl) (fun _ _ _ h => h) rfl (fun _ _ => rfl) S18_18.out ?_
      try simp only [Act.put, List.getElem_toArray, List.getElem_cons_succ, List.getElem_cons_zero, List.setIfInBounds_toArray, List.set_cons_zero, List.set_cons_succ]
      refine hm_run 25 38 (.pointer (some ⟨b1, 1, none⟩)) rfl rfl (by kernel_rfl) (by kernel_rfl) (by kernel_rfl) (fun _ _ _ h => h) rfl (fun _ _ => rfl) S18_18.out ?_
      try simp only [Act.put, List.getElem_toArray, List.getElem_cons_succ, List.getElem_cons_zero, List.setIfInBounds_toArray, List.set_cons_zero, List.set_cons_succ]
      refine hm_run 26 39 (.agg (arr 32 (bv (lf a0)))) rfl rfl (by kernel_rfl) (by kernel_rfl) (by kernel_rfl) (fun _ _ _ h => h) rfl (fun W hW => exec_load rfl (hash_mid hW (by omega) H0.out)) S18_18.out ?_
      try simp only [Act.put, List.getElem_toArray, List.getElem_cons_succ, List.getElem_cons_zero, List.setIfInBounds_toArray, List.set_cons_zero, List.set_cons_succ]
      refine hm_one (i := 22) (by kernel_rfl) ?_
      refine hm_step 22 rfl (by kernel_rfl) fun K hK => ?_
      try simp only [Act.put, List.getElem_toArray, List.getElem_cons_succ, List.getElem_cons_zero, List.setIfInBounds_toArray, List.set_cons_zero, List.set_cons_succ]
      go_simp
      go_at_call 7
      refine (sums_un (U.out.below TT.out)).mono ?_
      rintro e w7 ⟨rfl, hb7⟩
      replace TT := Lib.hid (TT.out.trans (hb7.mono TT.out.size))
      have S22_25 := Lib.hid (show w7.heap[b1]? = _ from (hb7.block b1 (heap_lt S18_18.out)).trans S18_18.out)
      clear hb7
      refine hK _ _ S22_25.out ?_
      clear hK K
      try simp only [Act.put, List.getElem_toArray, List.getElem_cons_succ, List.getElem_cons_zero, List.setIfInBounds_toArray, List.set_cons_zero, List.set_cons_succ]
      refine hm_run 23 36 (.int .i64 ((0 : Nat) : Int)) rfl rfl (by kernel_rfl) (by kernel_rfl) (by kernel_rfl) (fun _ _ _ h => h) rfl (fun _ _ => exec_len Tryz.underlying35 rfl rfl) S22_25.out ?_
      try simp only [Act.put, List.getElem_toArray, List.getElem_cons_succ, List.getElem_cons_zero, List.setIfInBounds_toArray, List.set_cons_zero, List.set_cons_succ]
      refine hm_one (i := 27) (by kernel_rfl) ?_
      refine hm_step 27 rfl (by kernel_rfl) fun K hK => ?_
      try simp only [Act.put, List.getElem_toArray, List.getElem_cons_succ, List.getElem_cons_zero, List.setIfInBounds_toArray, List.set_cons_zero, List.set_cons_succ]
      go_simp
      go_at_call 8
      refine (peers_un (U.out.below TT.out)).mono ?_
      rintro e w7 ⟨rfl, hb7⟩
      replace TT := Lib.hid (TT.out.trans (hb7.mono TT.out.size))
      have S27_27 := Lib.hid (show w7.heap[b1]? = _ from (hb7.block b1 (heap_lt S22_25.out)).trans S22_25.out)
      clear hb7
      refine hK _ _ S27_27.out ?_
      clear hK K
      try simp only [Act.put, List.getElem_toArray, List.getElem_cons_succ, List.getElem_cons_zero, List.setIfInBounds_toArray, List.set_cons_zero, List.set_cons_succ]
      refine hm_run 28 41 (.int .i64 ((0 : Nat) : Int)) rfl rfl (by kernel_rfl) (by kernel_rfl) (by kernel_rfl) (fun _ _ _ h => h) rfl (fun _ _ => exec_len Tryz.underlying37 rfl rfl) S27_27.out ?_
      try simp only [Act.put, List.getElem_toArray, List.getElem_cons_succ, List.getElem_cons_zero, List.setIfInBounds_toArray, List.set_cons_zero, List.set_cons_succ]
      refine hm_run 29 42 (.int .i64 0) rfl rfl (by kernel_rfl) (by kernel_rfl) (by kernel_rfl) (fun _ _ _ h => h) rfl (fun _ _ => exec_add rfl rfl rfl (by decide)) S27_27.out ?_
      try simp only [Act.put, List.getElem_toArray, List.getElem_cons_succ, List.getElem_cons_zero, List.setIfInBounds_toArray, List.set_cons_zero, List.set_cons_succ]
      refine hm_run 30 43 (.bool false) rfl rfl (by kernel_rfl) (by kernel_rfl) (by kernel_rfl) (fun _ _ _ h => h) rfl (fun _ _ => exec_gtri rfl rfl rfl rfl) S27_27.out ?_
      try simp only [Act.put, List.getElem_toArray, List.getElem_cons_succ, List.getElem_cons_zero, List.setIfInBounds_toArray, List.set_cons_zero, List.set_cons_succ]
      refine hm_run 31 44 (.bool false) rfl rfl (by kernel_rfl) (by kernel_rfl) (by kernel_rfl) (fun _ _ _ h => h) rfl (fun _ _ => rfl) S27_27.out ?_
      try simp only [Act.put, List.getElem_toArray, List.getElem_cons_succ, List.getElem_cons_zero, List.setIfInBounds_toArray, List.set_cons_zero, List.set_cons_succ]
      refine wpAnyH_done (by kernel_rfl) ?_ _
      go_wp2_with fail
      go_roundg 1
      case measure => omega
      case rel => exact ⟨1, by omega, by go_num, Lib.hid (E3.out.call TT.out)⟩
    · obtain ⟨kk, hkk⟩ : ∃ kk : Nat, kk = gk := ⟨_, rfl⟩
      have U := Lib.hid (show Un wr (.pointer (some ⟨b6, 0, none⟩)) from .inr ⟨b6, rfl, E3.out.get (List.mem_cons_of_mem _ List.mem_cons_self)⟩)
      go_upto_region 4 with (first
        | (refine wpList_ix (k := 1) (j := 1) Tryz.underlying30 (by kernel_rfl) (.tmp 7) (.tmp 9) rfl rfl rfl rfl (by omega) rfl ?_)
        | (refine mem_load_cell E3 26 rfl (.tmp 11) rfl rfl List.mem_cons_self Tryz.underlying26 rfl (v := .pointer (some ⟨b6, 0, none⟩)) rfl ?_))
      have CX := Lib.hid (E3.out.get (b := b1) (T := 25) (c := arr 34 V0) (List.mem_cons_of_mem _ (List.mem_cons_of_mem _ List.mem_cons_self)))
      refine wp_region_T (Φ := fun X => Below wr.heap.size wr X) (S := fun X => X.heap[b1]? = some (.cells (arr 34 V0) 25 (0, 0))) (Lib.hid (Below.refl _ _)) (fun _ h => h.drew) (fun X h => (h.block b1 (heap_lt CX.out)).trans CX.out) (by kernel_rfl) ?_
      intro wx TT S0
      clear CX
      refine hm_run 0 13 (.pointer (some ⟨b6, 0, none⟩)) rfl rfl (by kernel_rfl) (by kernel_rfl) (by kernel_rfl) (fun _ _ _ h => h) rfl (fun _ _ => rfl) S0.out ?_
      try simp only [Act.put, List.getElem_toArray, List.getElem_cons_succ, List.getElem_cons_zero, List.setIfInBounds_toArray, List.set_cons_zero, List.set_cons_succ]
      refine hm_run 1 14 (.pointer (some ⟨b1, 0, none⟩)) rfl rfl (by kernel_rfl) (by kernel_rfl) (by kernel_rfl) (fun _ _ _ h => h) rfl (fun _ _ => rfl) S0.out ?_
      try simp only [Act.put, List.getElem_toArray, List.getElem_cons_succ, List.getElem_cons_zero, List.setIfInBounds_toArray, List.set_cons_zero, List.set_cons_succ]
      refine hm_run 2 15 (V0 0) rfl rfl (by kernel_rfl) (by kernel_rfl) (by kernel_rfl) (fun _ _ _ h => h) rfl (fun W hW => exec_load rfl (run_load_one Tryz.underlying3 rfl (cell_of_here hW 0 (arr_get 34 V0 0 (by omega))))) S0.out ?_
      try simp only [Act.put, List.getElem_toArray, List.getElem_cons_succ, List.getElem_cons_zero, List.setIfInBounds_toArray, List.set_cons_zero, List.set_cons_succ]
      refine hm_run 3 16 (.pointer (some ⟨b1, 1, none⟩)) rfl rfl (by kernel_rfl) (by kernel_rfl) (by kernel_rfl) (fun _ _ _ h => h) rfl (fun _ _ => rfl) S0.out ?_
      try simp only [Act.put, List.getElem_toArray, List.getElem_cons_succ, List.getElem_cons_zero, List.setIfInBounds_toArray, List.set_cons_zero, List.set_cons_succ]
      refine hm_run 4 17 (.agg (arr 32 (bv (lf a0)))) rfl rfl (by kernel_rfl) (by kernel_rfl) (by kernel_rfl) (fun _ _ _ h => h) rfl (fun W hW => exec_load rfl (hash_mid hW (by omega) H0.out)) S0.out ?_
      try simp only [Act.put, List.getElem_toArray, List.getElem_cons_succ, List.getElem_cons_zero, List.setIfInBounds_toArray, List.set_cons_zero, List.set_cons_succ]
      refine hm_one (i := 5) (by kernel_rfl) ?_
      refine hm_step 5 rfl (by kernel_rfl) fun K hK => ?_
      try simp only [Act.put, List.getElem_toArray, List.getElem_cons_succ, List.getElem_cons_zero, List.setIfInBounds_toArray, List.set_cons_zero, List.set_cons_succ]
      go_simp
      go_at_call 4
      refine (vote_un (U.out.below TT.out)).mono ?_
      rintro e w7 ⟨rfl, hb7⟩
      replace TT := Lib.hid (TT.out.trans (hb7.mono TT.out.size))
      have S5_5 := Lib.hid (show w7.heap[b1]? = _ from (hb7.block b1 (heap_lt S0.out)).trans S0.out)
      clear hb7
      refine hK _ _ S5_5.out ?_
      clear hK K
      try simp only [Act.put, List.getElem_toArray, List.getElem_cons_succ, List.getElem_cons_zero, List.setIfInBounds_toArray, List.set_cons_zero, List.set_cons_succ]
      refine hm_run 6 19 (.bool false) rfl rfl (by kernel_rfl) (by kernel_rfl) (by kernel_rfl) (fun _ _ _ h => h) rfl (fun _ _ => exec_neqE rfl rfl rfl rfl) S5_5.out ?_
      try simp only [Act.put, List.getElem_toArray, List.getElem_cons_succ, List.getElem_cons_zero, List.setIfInBounds_toArray, List.set_cons_zero, List.set_cons_succ]
      refine hm_run 7 20 (.bool false) rfl rfl (by kernel_rfl) (by kernel_rfl) (by kernel_rfl) (fun _ _ _ h => h) rfl (fun _ _ => rfl) S5_5.out ?_
      try simp only [Act.put, List.getElem_toArray, List.getElem_cons_succ, List.getElem_cons_zero, List.setIfInBounds_toArray, List.set_cons_zero, List.set_cons_succ]
      refine hm_run 8 21 (.pointer (some ⟨b6, 0, none⟩)) rfl rfl (by kernel_rfl) (by kernel_rfl) (by kernel_rfl) (fun _ _ _ h => h) rfl (fun _ _ => rfl) S5_5.out ?_
      try simp only [Act.put, List.getElem_toArray, List.getElem_cons_succ, List.getElem_cons_zero, List.setIfInBounds_toArray, List.set_cons_zero, List.set_cons_succ]
      refine hm_run 9 22 (.pointer (some ⟨b1, 0, none⟩)) rfl rfl (by kernel_rfl) (by kernel_rfl) (by kernel_rfl) (fun _ _ _ h => h) rfl (fun _ _ => rfl) S5_5.out ?_
      try simp only [Act.put, List.getElem_toArray, List.getElem_cons_succ, List.getElem_cons_zero, List.setIfInBounds_toArray, List.set_cons_zero, List.set_cons_succ]
      refine hm_run 10 23 (V0 0) rfl rfl (by kernel_rfl) (by kernel_rfl) (by kernel_rfl) (fun _ _ _ h => h) rfl (fun W hW => exec_load rfl (run_load_one Tryz.underlying3 rfl (cell_of_here hW 0 (arr_get 34 V0 0 (by omega))))) S5_5.out ?_
      try simp only [Act.put, List.getElem_toArray, List.getElem_cons_succ, List.getElem_cons_zero, List.setIfInBounds_toArray, List.set_cons_zero, List.set_cons_succ]
      refine hm_one (i := 11) (by kernel_rfl) ?_
      refine hm_step 11 rfl (by kernel_rfl) fun K hK => ?_
      try simp only [Act.put, List.getElem_toArray, List.getElem_cons_succ, List.getElem_cons_zero, List.setIfInBounds_toArray, List.set_cons_zero, List.set_cons_succ]
      go_simp
      go_at_call 5
      refine (leave_un (U.out.below TT.out)).mono ?_
      rintro e w7 ⟨rfl, hb7⟩
      replace TT := Lib.hid (TT.out.trans (hb7.mono TT.out.size))
      have S11_11 := Lib.hid (show w7.heap[b1]? = _ from (hb7.block b1 (heap_lt S5_5.out)).trans S5_5.out)
      clear hb7
      refine hK _ _ S11_11.out ?_
      clear hK K
      try simp only [Act.put, List.getElem_toArray, List.getElem_cons_succ, List.getElem_cons_zero, List.setIfInBounds_toArray, List.set_cons_zero, List.set_cons_succ]
      refine hm_run 12 25 (.bool false) rfl rfl (by kernel_rfl) (by kernel_rfl) (by kernel_rfl) (fun _ _ _ h => h) rfl (fun _ _ => exec_neqE rfl rfl rfl rfl) S11_11.out ?_
      try simp only [Act.put, List.getElem_toArray, List.getElem_cons_succ, List.getElem_cons_zero, List.setIfInBounds_toArray, List.set_cons_zero, List.set_cons_succ]
      refine hm_run 13 26 (.bool false) rfl rfl (by kernel_rfl) (by kernel_rfl) (by kernel_rfl) (fun _ _ _ h => h) rfl (fun _ _ => rfl) S11_11.out ?_
      try simp only [Act.put, List.getElem_toArray, List.getElem_cons_succ, List.getElem_cons_zero, List.setIfInBounds_toArray, List.set_cons_zero, List.set_cons_succ]
      refine hm_run 14 27 (.bool false) rfl rfl (by kernel_rfl) (by kernel_rfl) (by kernel_rfl) (fun _ _ _ h => h) rfl (fun _ _ => rfl) S11_11.out ?_
      try simp only [Act.put, List.getElem_toArray, List.getElem_cons_succ, List.getElem_cons_zero, List.setIfInBounds_toArray, List.set_cons_zero, List.set_cons_succ]
      refine hm_run 15 28 (.pointer (some ⟨b6, 0, none⟩)) rfl rfl (by kernel_rfl) (by kernel_rfl) (by kernel_rfl) (fun _ _ _ h => h) rfl (fun _ _ => rfl) S11_11.out ?_
      try simp only [Act.put, List.getElem_toArray, List.getElem_cons_succ, List.getElem_cons_zero, List.setIfInBounds_toArray, List.set_cons_zero, List.set_cons_succ]
      refine hm_run 16 29 (.pointer (some ⟨b1, 0, none⟩)) rfl rfl (by kernel_rfl) (by kernel_rfl) (by kernel_rfl) (fun _ _ _ h => h) rfl (fun _ _ => rfl) S11_11.out ?_
      try simp only [Act.put, List.getElem_toArray, List.getElem_cons_succ, List.getElem_cons_zero, List.setIfInBounds_toArray, List.set_cons_zero, List.set_cons_succ]
      refine hm_run 17 30 (V0 0) rfl rfl (by kernel_rfl) (by kernel_rfl) (by kernel_rfl) (fun _ _ _ h => h) rfl (fun W hW => exec_load rfl (run_load_one Tryz.underlying3 rfl (cell_of_here hW 0 (arr_get 34 V0 0 (by omega))))) S11_11.out ?_
      try simp only [Act.put, List.getElem_toArray, List.getElem_cons_succ, List.getElem_cons_zero, List.setIfInBounds_toArray, List.set_cons_zero, List.set_cons_succ]
      refine hm_one (i := 18) (by kernel_rfl) ?_
      refine hm_step 18 rfl (by kernel_rfl) fun K hK => ?_
      try simp only [Act.put, List.getElem_toArray, List.getElem_cons_succ, List.getElem_cons_zero, List.setIfInBounds_toArray, List.set_cons_zero, List.set_cons_succ]
      go_simp
      go_at_call 6
      refine (has_un (U.out.below TT.out)).mono ?_
      rintro e w7 ⟨rfl, hb7⟩
      replace TT := Lib.hid (TT.out.trans (hb7.mono TT.out.size))
      have S18_18 := Lib.hid (show w7.heap[b1]? = _ from (hb7.block b1 (heap_lt S11_11.out)).trans S11_11.out)
      clear hb7
      refine hK _ _ S18_18.out ?_
      clear hK K
      try simp only [Act.put, List.getElem_toArray, List.getElem_cons_succ, List.getElem_cons_zero, List.setIfInBounds_toArray, List.set_cons_zero, List.set_cons_succ]
      refine hm_run 19 32 (.bool false) rfl rfl (by kernel_rfl) (by kernel_rfl) (by kernel_rfl) (fun _ _ _ h => h) rfl (fun _ _ => rfl) S18_18.out ?_
      try simp only [Act.put, List.getElem_toArray, List.getElem_cons_succ, List.getElem_cons_zero, List.setIfInBounds_toArray, List.set_cons_zero, List.set_cons_succ]
      refine hm_run 20 33 (.bool false) rfl rfl (by kernel_rfl) (by kernel_rfl) (by kernel_rfl) (fun _ _ _ h => h) rfl (fun _ _ => rfl) S18_18.out ?_
      try simp only [Act.put, List.getElem_toArray, List.getElem_cons_succ, List.getElem_cons_zero, List.setIfInBounds_toArray, List.set_cons_zero, List.set_cons_succ]
      refine hm_run 21 34 (.pointer (some ⟨b6, 0, none⟩)) rfl rfl (by kernel_rfl) (by kernel_rfl) (by kernel_rfl) (fun _ _ _ h => h) rfl (fun _ _ => rfl) S18_18.out ?_
      try simp only [Act.put, List.getElem_toArray, List.getElem_cons_succ, List.getElem_cons_zero, List.setIfInBounds_toArray, List.set_cons_zero, List.set_cons_succ]
      refine hm_run 24 37 (.pointer (some ⟨b6, 0, none⟩)) rfl rfl (by kernel_rfl) (by kernel_rfl) (by kernel_rfl) (fun _ _ _ h => h) rfl (fun _ _ => rfl) S18_18.out ?_
      try simp only [Act.put, List.getElem_toArray, List.getElem_cons_succ, List.getElem_cons_zero, List.setIfInBounds_toArray, List.set_cons_zero, List.set_cons_succ]
      refine hm_run 25 38 (.pointer (some ⟨b1, 1, none⟩)) rfl rfl (by kernel_rfl) (by kernel_rfl) (by kernel_rfl) (fun _ _ _ h => h) rfl (fun _ _ => rfl) S18_18.out ?_
      try simp only [Act.put, List.getElem_toArray, List.getElem_cons_succ, List.getElem_cons_zero, List.setIfInBounds_toArray, List.set_cons_zero, List.set_cons_succ]
      refine hm_run 26 39 (.agg (arr 32 (bv (lf a0)))) rfl rfl (by kernel_rfl) (by kernel_rfl) (by kernel_rfl) (fun _ _ _ h => h) rfl (fun W hW => exec_load rfl (hash_mid hW (by omega) H0.out)) S18_18.out ?_
      try simp only [Act.put, List.getElem_toArray, List.getElem_cons_succ, List.getElem_cons_zero, List.setIfInBounds_toArray, List.set_cons_zero, List.set_cons_succ]
      refine hm_one (i := 22) (by kernel_rfl) ?_
      refine hm_step 22 rfl (by kernel_rfl) fun K hK => ?_
      try simp only [Act.put, List.getElem_toArray, List.getElem_cons_succ, List.getElem_cons_zero, List.setIfInBounds_toArray, List.set_cons_zero, List.set_cons_succ]
      go_simp
      go_at_call 7
      refine (sums_un (U.out.below TT.out)).mono ?_
      rintro e w7 ⟨rfl, hb7⟩
      replace TT := Lib.hid (TT.out.trans (hb7.mono TT.out.size))
      have S22_25 := Lib.hid (show w7.heap[b1]? = _ from (hb7.block b1 (heap_lt S18_18.out)).trans S18_18.out)
      clear hb7
      refine hK _ _ S22_25.out ?_
      clear hK K
      try simp only [Act.put, List.getElem_toArray, List.getElem_cons_succ, List.getElem_cons_zero, List.setIfInBounds_toArray, List.set_cons_zero, List.set_cons_succ]
      refine hm_run 23 36 (.int .i64 ((0 : Nat) : Int)) rfl rfl (by kernel_rfl) (by kernel_rfl) (by kernel_rfl) (fun _ _ _ h => h) rfl (fun _ _ => exec_len Tryz.underlying35 rfl rfl) S22_25.out ?_
      try simp only [Act.put, List.getElem_toArray, List.getElem_cons_succ, List.getElem_cons_zero, List.setIfInBounds_toArray, List.set_cons_zero, List.set_cons_succ]
      refine hm_one (i := 27) (by kernel_rfl) ?_
      refine hm_step 27 rfl (by kernel_rfl) fun K hK => ?_
      try simp only [Act.put, List.getElem_toArray, List.getElem_cons_succ, List.getElem_cons_zero, List.setIfInBounds_toArray, List.set_cons_zero, List.set_cons_succ]
      go_simp
      go_at_call 8
      refine (peers_un (U.out.below TT.out)).mono ?_
      rintro e w7 ⟨rfl, hb7⟩
      replace TT := Lib.hid (TT.out.trans (hb7.mono TT.out.size))
      have S27_27 := Lib.hid (show w7.heap[b1]? = _ from (hb7.block b1 (heap_lt S22_25.out)).trans S22_25.out)
      clear hb7
      refine hK _ _ S27_27.out ?_
      clear hK K
      try simp only [Act.put, List.getElem_toArray, List.getElem_cons_succ, List.getElem_cons_zero, List.setIfInBounds_toArray, List.set_cons_zero, List.set_cons_succ]
      refine hm_run 28 41 (.int .i64 ((0 : Nat) : Int)) rfl rfl (by kernel_rfl) (by kernel_rfl) (by kernel_rfl) (fun _ _ _ h => h) rfl (fun _ _ => exec_len Tryz.underlying37 rfl rfl) S27_27.out ?_
      try simp only [Act.put, List.getElem_toArray, List.getElem_cons_succ, List.getElem_cons_zero, List.setIfInBounds_toArray, List.set_cons_zero, List.set_cons_succ]
      refine hm_run 29 42 (.int .i64 0) rfl rfl (by kernel_rfl) (by kernel_rfl) (by kernel_rfl) (fun _ _ _ h => h) rfl (fun _ _ => exec_add rfl rfl rfl (by decide)) S27_27.out ?_
      try simp only [Act.put, List.getElem_toArray, List.getElem_cons_succ, List.getElem_cons_zero, List.setIfInBounds_toArray, List.set_cons_zero, List.set_cons_succ]
      refine hm_run 30 43 (.bool false) rfl rfl (by kernel_rfl) (by kernel_rfl) (by kernel_rfl) (fun _ _ _ h => h) rfl (fun _ _ => exec_gtri rfl rfl rfl rfl) S27_27.out ?_
      try simp only [Act.put, List.getElem_toArray, List.getElem_cons_succ, List.getElem_cons_zero, List.setIfInBounds_toArray, List.set_cons_zero, List.set_cons_succ]
      refine hm_run 31 44 (.bool false) rfl rfl (by kernel_rfl) (by kernel_rfl) (by kernel_rfl) (fun _ _ _ h => h) rfl (fun _ _ => rfl) S27_27.out ?_
      try simp only [Act.put, List.getElem_toArray, List.getElem_cons_succ, List.getElem_cons_zero, List.setIfInBounds_toArray, List.set_cons_zero, List.set_cons_succ]
      refine wpAnyH_done (by kernel_rfl) ?_ _
      go_wp2_with fail
      go_roundg 0
      case measure => omega
      case rel => exact ⟨2, by omega, by go_num, Lib.hid (E3.out.call TT.out)⟩
    · have KX := Lib.hid (KL.out.below E3.out.below)
      have CX := Lib.hid (hash_mid (E3.out.get (b := b1) (T := 25) (c := arr 34 V0) (List.mem_cons_of_mem _ (List.mem_cons_of_mem _ List.mem_cons_self))) (by omega) H0.out)
      go_wp2_with (first
        | (go_at_call 9; refine texts_nil.mono ?_; rintro e w8 ⟨rfl, rfl⟩)
        | ((with_reducible refine wpList_at 50 rfl ?_); refine wpList_bld 47 _ rfl rfl (ps := #[]) (by kernel_rfl) HB.out ?_)
        | ((with_reducible refine wpList_at 52 rfl ?_); refine wpList_ld 23 (.tmp 51) rfl rfl rfl CX.out ?_)
        | (go_at_call 10; refine (lies_nil KX).mono ?_; rintro e w9 ⟨rfl, hb9⟩; have E9 := Lib.hid (E3.out.call hb9); clear hb9))
      go_ret
      exact ⟨rfl, E9.out.below⟩

set_option maxRecDepth 100000 in
theorem lifted (os : Os) (started : os.Started) (H : Type) (enc : TypeId × Value → H) :
    ReturnsInHanded {} Tryz.checked os 3 .any (fun w args => (Rows.votesNobodySpec.pre enc Tryz.prog Tryz.f3 [] false w args ∧ laidMetH Tryz.prog S.vnLaid w) ∧ sizedMet enc Tryz.prog Tryz.f3 (OpenSpec.ofChange Rows.votesNobodySpec) false w args)
      (Rows.votesNobodySpec.post enc Tryz.prog Tryz.f3 false true false false) := by
  refine returnsInHanded_of_change_and (C := Tryz.checked) (X := fun w _ => laidMetH Tryz.prog S.vnLaid w) (fun _ _ _ hh h => h.of_heap hh) own started (by kernel_rfl) Tryz.func3
    (ChangeSpec.witness_shaped (enc := enc) (C := Tryz.checked) (os := os) (X := fun w _ => laidMetH Tryz.prog S.vnLaid w) false (World.laidAll Tryz.prog os S.vnLaid) #[.agg #[.int .i64 0, .int .u8 0, .int .u8 0, .int .u8 0, .int .u8 0, .int .u8 0, .int .u8 0, .int .u8 0, .int .u8 0, .int .u8 0, .int .u8 0, .int .u8 0, .int .u8 0, .int .u8 0, .int .u8 0, .int .u8 0, .int .u8 0, .int .u8 0, .int .u8 0, .int .u8 0, .int .u8 0, .int .u8 0, .int .u8 0, .int .u8 0, .int .u8 0, .int .u8 0, .int .u8 0, .int .u8 0, .int .u8 0, .int .u8 0, .int .u8 0, .int .u8 0, .int .u8 0, .bool false]] 8 (World.laidAll_os _ _ _)
      (World.shaped_of_ZipB (by kernel_rfl) (by kernel_rfl)) (by kernel_rfl) (by kernel_rfl) (by kernel_rfl)
      (by rw [MakeChecks.laidMetH_plain _ _ _ (by kernel_rfl)]; exact laidMet_laidAll _ (by kernel_rfl) (by kernel_rfl))) ?_
  intro W base args ds gs before hval0 hW _ hsz0 hL _
  have hval : ∀ (j : Nat) t v, Tryz.f3.params[j]? = some t → args[j]? = some v → Value.okWide Tryz.prog W .any base t v := hval0
  have hsz : (DataW.weightsEach Tryz.prog (Tryz.f3.params.toList ++ Rows.votesNobodySpec.plain.varTypes Tryz.prog) (ds ++ gs)).all (· ≤ reachBytes) = true := hsz0
  have hW' := hW
  obtain ⟨p, q, hA0, hV, rfl, hfz, hnd⟩ := hW
  have hA : DataW.TrodAll enc Tryz.prog W 0 (fun _ => true) true Tryz.f3.params.toList args.toList ds p := hA0
  rw [Tryz.params3] at hA hval hsz
  obtain ⟨v0, vs0, d0, ds0, p0, q0, hargs, rfl, rfl, h0, r0⟩ := trodAll_cons hA
  obtain ⟨rfl, rfl, rfl⟩ := trodAll_nil r0
  obtain rfl : args = #[v0] := by cases args; simp_all
  obtain ⟨rfl, rfl⟩ := trodVars_none hV
  have k0 := h0
  have lt0 : ∀ x ∈ p0, x.block < W.heap.size := by obtain ⟨m, hm⟩ := k0; exact DataW.trod_lt m _ _ _ hm
  obtain ⟨V0, a0, rfl, w0⟩ := open_do (hval 0 25 v0 rfl rfl) h0
  clear hA0 hval0 hsz0
  simp only [List.append_nil] at hW'
  refine (walk W hL V0 a0 w0).mono fun e W' ⟨he, bel⟩ => ?_
  subst he
  exact ⟨_, rfl, _, _, _, [], _, [], hW', trodAll_mk1 (shut_bool Tryz.underlying4 _), (trodAll_cons_mk (Below.trod laidOut (by kernel_rfl) (of_decide_eq_true (by kernel_rfl)) k0 bel lt0) trodAll_mk0), rfl, bel.frame _, fun h => by cases h⟩

theorem over : Rows.VotesNobodySaid :=
  OpenClaim.holds_of_wide 3 Tryz.f3 rfl rfl rfl rfl rfl rfl rfl ⟨rfl, rfl, rfl, rfl, rfl⟩ rfl rfl rfl rfl rfl (by kernel_rfl) Tryz.func3 (by kernel_rfl)
    (of_decide_eq_true (by kernel_rfl)) (by unfold Func.isWrapper; first | (rw [if_pos (by decide +kernel)]; kernel_rfl) | (rw [if_neg (by decide +kernel)]; exact ⟨rfl, rfl⟩))
    (fun os started H enc _ => lifted os started H enc)

/-- The tied card. -/
theorem card_holds : Rows.VotesNobodyCardSaid :=
  Claim7.holds_tied_plain_at .later [] [.data, .data, .data, .data, .data, .data] true (true, "3ef540fb5d67af04deb911816e28404898633f6d42dad980860b58ef5a3796d4") false
    over (fun _ h => by cases h) (by kernel_rfl) (fun _ h => by cases h) votesNobody_row_tie rfl ⟨rfl, rfl⟩ (by kernel_rfl) rfl
    (fun f fn hf hfn => by
      obtain rfl : f = 3 := Option.some.inj ((show Tryz.prog.funcNamed "sporran/sporranlaw18.VotesNobody" = some 3 by kernel_rfl).symm.trans hf) |>.symm
      obtain rfl : fn = Tryz.f3 := (Option.some.inj (Tryz.func3.symm.trans hfn)).symm
      exact ⟨by kernel_rfl, fun j t ht => by
        rw [Tryz.params3] at ht
        have hm : t ∈ [25] := by simpa using Array.mem_of_getElem? ht
        have hall : ([25].all fun u => !Tryz.prog.wantsStandIn u) = true := by kernel_rfl
        exact (show Tryz.prog.wantsStandIn t = false by simpa using List.all_eq_true.1 hall t hm)⟩)
    (by kernel_rfl)
#print axioms card_holds
end Go.Proofs.YtbmhdmlhgdkkkaaGreatDoor.votesNobody
