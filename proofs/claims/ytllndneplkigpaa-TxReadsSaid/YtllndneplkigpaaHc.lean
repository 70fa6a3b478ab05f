/- A header read: the walk. -/
import Derived.Test.YtllndneplkigpaaZC
set_option linter.unusedSimpArgs false
set_option linter.unusedVariables false
namespace Go.Proofs.Ytllndneplkigpaa
open Go.RowKit Go.Lib Go.Sort

set_option maxRecDepth 100000 in
set_option maxHeartbeats 2000000 in
theorem hdec_walk {w : World} {g o n c : Nat} {H : Hd} {y : Nat → Nat} {p8 : Option Addr} {o8 : Nat} (h : 80 ≤ n) (hn : n ≤ 140737488355328)
    (S0 : Hid (∀ W, (Instr.sliceAt 22 (.slice (some ⟨g, o, none⟩) n c) (some (.int .i64 0)) (some (.int .i64 4)) (some (.int .i64 4))).run Try.prog W = .ok (.slice (some ⟨g, o, none⟩) 4 4) W))
    (S4 : Hid (∀ W, (Instr.sliceAt 22 (.slice (some ⟨g, o, none⟩) n c) (some (.int .i64 4)) (some (.int .i64 36)) (some (.int .i64 36))).run Try.prog W = .ok (.slice (some ⟨g, o + 4, none⟩) 32 32) W))
    (S36 : Hid (∀ W, (Instr.sliceAt 22 (.slice (some ⟨g, o, none⟩) n c) (some (.int .i64 36)) (some (.int .i64 68)) (some (.int .i64 68))).run Try.prog W = .ok (.slice (some ⟨g, o + 36, none⟩) 32 32) W))
    (S68 : Hid (∀ W, (Instr.sliceAt 22 (.slice (some ⟨g, o, none⟩) n c) (some (.int .i64 68)) (some (.int .i64 72)) (some (.int .i64 72))).run Try.prog W = .ok (.slice (some ⟨g, o + 68, none⟩) 4 4) W))
    (S72 : Hid (∀ W, (Instr.sliceAt 22 (.slice (some ⟨g, o, none⟩) n c) (some (.int .i64 72)) (some (.int .i64 76)) (some (.int .i64 76))).run Try.prog W = .ok (.slice (some ⟨g, o + 72, none⟩) 4 4) W))
    (S76 : Hid (∀ W, (Instr.sliceAt 22 (.slice (some ⟨g, o, none⟩) n c) (some (.int .i64 76)) (some (.int .i64 80)) (some (.int .i64 80))).run Try.prog W = .ok (.slice (some ⟨g, o + 76, none⟩) 4 4) W))
    (C0 : Hid (∀ W : World, Below w.heap.size w W → Calls Try.prog 98 #[.slice (some ⟨g, o, none⟩) 4 4] W fun e w' => e = .returned (.int .u32 ((H.v : Nat) : Int)) ∧ W = w'))
    (C68 : Hid (∀ W : World, Below w.heap.size w W → Calls Try.prog 98 #[.slice (some ⟨g, o + 68, none⟩) 4 4] W fun e w' => e = .returned (.int .u32 ((H.t : Nat) : Int)) ∧ W = w'))
    (C72 : Hid (∀ W : World, Below w.heap.size w W → Calls Try.prog 98 #[.slice (some ⟨g, o + 72, none⟩) 4 4] W fun e w' => e = .returned (.int .u32 ((H.b : Nat) : Int)) ∧ W = w'))
    (C76 : Hid (∀ W : World, Below w.heap.size w W → Calls Try.prog 98 #[.slice (some ⟨g, o + 76, none⟩) 4 4] W fun e w' => e = .returned (.int .u32 ((H.n : Nat) : Int)) ∧ W = w'))
    (L4 : Hid (∀ W : World, Below w.heap.size w W → (Instr.loadAt 37 (.pointer (some ⟨g, o + 4, none⟩))).run Try.prog W = .ok (.agg (arr 32 (bv H.prev))) W))
    (L36 : Hid (∀ W : World, Below w.heap.size w W → (Instr.loadAt 37 (.pointer (some ⟨g, o + 36, none⟩))).run Try.prog W = .ok (.agg (arr 32 (bv H.merkle))) W))
    (S80 : Hid (∀ W, (Instr.sliceAt 22 (.slice (some ⟨g, o, none⟩) n c) (some (.int .i64 80)) none none).run Try.prog W = .ok (.slice p8 (n - 80) (c - 80)) W)) (RT : Hid (Row w p8 g o8 (n - 80) (c - 80) y)) :
    Calls Try.prog 79 #[.slice (some ⟨g, o, none⟩) n c] w fun e w' => ∃ p g c, e = .returned (.tuple #[.agg (arr 68 (hc H)), .slice p (n - 80) c, .int .i64 0]) ∧ Row w' p g 0 (n - 80) c y ∧ Below w.heap.size w w' := by
  have E := Lib.hid (Mem.nil w)
  go_enter Try.func79, Try.ntmps79
  go_upto_region 3 with (refine mem_alloc E 39 rfl rfl infoH ?_; clear E; intro b2 w2 E; simp only [arr_cells'] at E)
  go_cut [5] (fun s5 wx => ∃ b5, s5 = .pointer (some ⟨b5, 0, none⟩) ∧ Hid (Mem w [(b5, 39, arr 68 (hc H)), (b2, 39, arr 68 (hc h0))] wx))
  case first =>
    refine wp_region_mem E (by kernel_rfl) ?_
    clear E
    intro wx E0
    refine hm_run 0 10 (.slice (some ⟨g, o, none⟩) n c) rfl rfl (by kernel_rfl) (by kernel_rfl) (by kernel_rfl) (fun _ _ _ h => h) rfl (fun _ _ => rfl) (E0.out) ?_
    try simp only [Act.put, List.getElem_toArray, List.getElem_cons_succ, List.getElem_cons_zero, List.setIfInBounds_toArray, List.set_cons_zero, List.set_cons_succ]
    refine hm_run 1 11 (.slice (some ⟨g, o, none⟩) 4 4) rfl rfl (by kernel_rfl) (by kernel_rfl) (by kernel_rfl) (fun _ _ _ h => h) rfl (fun W _ => exec_sl rfl (S0.out W)) (E0.out) ?_
    try simp only [Act.put, List.getElem_toArray, List.getElem_cons_succ, List.getElem_cons_zero, List.setIfInBounds_toArray, List.set_cons_zero, List.set_cons_succ]
    refine hm_run 3 13 (.slice (some ⟨g, o, none⟩) n c) rfl rfl (by kernel_rfl) (by kernel_rfl) (by kernel_rfl) (fun _ _ _ h => h) rfl (fun _ _ => rfl) (E0.out) ?_
    try simp only [Act.put, List.getElem_toArray, List.getElem_cons_succ, List.getElem_cons_zero, List.setIfInBounds_toArray, List.set_cons_zero, List.set_cons_succ]
    refine hm_run 4 14 (.slice (some ⟨g, o + 4, none⟩) 32 32) rfl rfl (by kernel_rfl) (by kernel_rfl) (by kernel_rfl) (fun _ _ _ h => h) rfl (fun W _ => exec_sl rfl (S4.out W)) (E0.out) ?_
    try simp only [Act.put, List.getElem_toArray, List.getElem_cons_succ, List.getElem_cons_zero, List.setIfInBounds_toArray, List.set_cons_zero, List.set_cons_succ]
    refine hm_run 5 15 (.pointer (some ⟨g, o + 4, none⟩)) rfl rfl (by kernel_rfl) (by kernel_rfl) (by kernel_rfl) (fun _ _ _ h => h) rfl (fun W _ => exec_arr rfl (run_arrayAt _ 32 32 (by omega) W)) (E0.out) ?_
    try simp only [Act.put, List.getElem_toArray, List.getElem_cons_succ, List.getElem_cons_zero, List.setIfInBounds_toArray, List.set_cons_zero, List.set_cons_succ]
    refine hm_run 6 16 (.agg (arr 32 (bv H.prev))) rfl rfl (by kernel_rfl) (by kernel_rfl) (by kernel_rfl) (fun _ _ _ h => h) rfl (fun W hW => exec_load rfl (L4.out W hW.below)) (E0.out) ?_
    try simp only [Act.put, List.getElem_toArray, List.getElem_cons_succ, List.getElem_cons_zero, List.setIfInBounds_toArray, List.set_cons_zero, List.set_cons_succ]
    refine hm_run 7 17 (.slice (some ⟨g, o, none⟩) n c) rfl rfl (by kernel_rfl) (by kernel_rfl) (by kernel_rfl) (fun _ _ _ h => h) rfl (fun _ _ => rfl) (E0.out) ?_
    try simp only [Act.put, List.getElem_toArray, List.getElem_cons_succ, List.getElem_cons_zero, List.setIfInBounds_toArray, List.set_cons_zero, List.set_cons_succ]
    refine hm_run 8 18 (.slice (some ⟨g, o + 36, none⟩) 32 32) rfl rfl (by kernel_rfl) (by kernel_rfl) (by kernel_rfl) (fun _ _ _ h => h) rfl (fun W _ => exec_sl rfl (S36.out W)) (E0.out) ?_
    try simp only [Act.put, List.getElem_toArray, List.getElem_cons_succ, List.getElem_cons_zero, List.setIfInBounds_toArray, List.set_cons_zero, List.set_cons_succ]
    refine hm_run 9 19 (.pointer (some ⟨g, o + 36, none⟩)) rfl rfl (by kernel_rfl) (by kernel_rfl) (by kernel_rfl) (fun _ _ _ h => h) rfl (fun W _ => exec_arr rfl (run_arrayAt _ 32 32 (by omega) W)) (E0.out) ?_
    try simp only [Act.put, List.getElem_toArray, List.getElem_cons_succ, List.getElem_cons_zero, List.setIfInBounds_toArray, List.set_cons_zero, List.set_cons_succ]
    refine hm_run 10 20 (.agg (arr 32 (bv H.merkle))) rfl rfl (by kernel_rfl) (by kernel_rfl) (by kernel_rfl) (fun _ _ _ h => h) rfl (fun W hW => exec_load rfl (L36.out W hW.below)) (E0.out) ?_
    try simp only [Act.put, List.getElem_toArray, List.getElem_cons_succ, List.getElem_cons_zero, List.setIfInBounds_toArray, List.set_cons_zero, List.set_cons_succ]
    refine hm_run 11 21 (.slice (some ⟨g, o, none⟩) n c) rfl rfl (by kernel_rfl) (by kernel_rfl) (by kernel_rfl) (fun _ _ _ h => h) rfl (fun _ _ => rfl) (E0.out) ?_
    try simp only [Act.put, List.getElem_toArray, List.getElem_cons_succ, List.getElem_cons_zero, List.setIfInBounds_toArray, List.set_cons_zero, List.set_cons_succ]
    refine hm_run 12 22 (.slice (some ⟨g, o + 68, none⟩) 4 4) rfl rfl (by kernel_rfl) (by kernel_rfl) (by kernel_rfl) (fun _ _ _ h => h) rfl (fun W _ => exec_sl rfl (S68.out W)) (E0.out) ?_
    try simp only [Act.put, List.getElem_toArray, List.getElem_cons_succ, List.getElem_cons_zero, List.setIfInBounds_toArray, List.set_cons_zero, List.set_cons_succ]
    refine hm_run 14 24 (.slice (some ⟨g, o, none⟩) n c) rfl rfl (by kernel_rfl) (by kernel_rfl) (by kernel_rfl) (fun _ _ _ h => h) rfl (fun _ _ => rfl) (E0.out) ?_
    try simp only [Act.put, List.getElem_toArray, List.getElem_cons_succ, List.getElem_cons_zero, List.setIfInBounds_toArray, List.set_cons_zero, List.set_cons_succ]
    refine hm_run 15 25 (.slice (some ⟨g, o + 72, none⟩) 4 4) rfl rfl (by kernel_rfl) (by kernel_rfl) (by kernel_rfl) (fun _ _ _ h => h) rfl (fun W _ => exec_sl rfl (S72.out W)) (E0.out) ?_
    try simp only [Act.put, List.getElem_toArray, List.getElem_cons_succ, List.getElem_cons_zero, List.setIfInBounds_toArray, List.set_cons_zero, List.set_cons_succ]
    refine hm_run 17 27 (.slice (some ⟨g, o, none⟩) n c) rfl rfl (by kernel_rfl) (by kernel_rfl) (by kernel_rfl) (fun _ _ _ h => h) rfl (fun _ _ => rfl) (E0.out) ?_
    try simp only [Act.put, List.getElem_toArray, List.getElem_cons_succ, List.getElem_cons_zero, List.setIfInBounds_toArray, List.set_cons_zero, List.set_cons_succ]
    refine hm_run 18 28 (.slice (some ⟨g, o + 76, none⟩) 4 4) rfl rfl (by kernel_rfl) (by kernel_rfl) (by kernel_rfl) (fun _ _ _ h => h) rfl (fun W _ => exec_sl rfl (S76.out W)) (E0.out) ?_
    try simp only [Act.put, List.getElem_toArray, List.getElem_cons_succ, List.getElem_cons_zero, List.setIfInBounds_toArray, List.set_cons_zero, List.set_cons_succ]
    refine hm_two (i := 2) (j := 21) (by kernel_rfl) ?_ ?_
    · refine hm_step 2 rfl (by kernel_rfl) fun K hK => ?_
      try simp only [Act.put, List.getElem_toArray, List.getElem_cons_succ, List.getElem_cons_zero, List.setIfInBounds_toArray, List.set_cons_zero, List.set_cons_succ]
      go_simp
      go_at_call 98
      refine (C0.out _ E0.out.below).mono ?_
      rintro e wn ⟨rfl, rfl⟩
      have E16_2 := E0
      refine hK _ _ (E16_2.out) ?_
      clear hK K
      try simp only [Act.put, List.getElem_toArray, List.getElem_cons_succ, List.getElem_cons_zero, List.setIfInBounds_toArray, List.set_cons_zero, List.set_cons_succ]
      refine hm_two (i := 13) (j := 21) (by kernel_rfl) ?_ ?_
      · refine hm_step 13 rfl (by kernel_rfl) fun K hK => ?_
        try simp only [Act.put, List.getElem_toArray, List.getElem_cons_succ, List.getElem_cons_zero, List.setIfInBounds_toArray, List.set_cons_zero, List.set_cons_succ]
        go_simp
        go_at_call 98
        refine (C68.out _ E16_2.out.below).mono ?_
        rintro e wn ⟨rfl, rfl⟩
        have E17_13 := E16_2
        refine hK _ _ (E17_13.out) ?_
        clear hK K
        try simp only [Act.put, List.getElem_toArray, List.getElem_cons_succ, List.getElem_cons_zero, List.setIfInBounds_toArray, List.set_cons_zero, List.set_cons_succ]
        refine hm_two (i := 16) (j := 21) (by kernel_rfl) ?_ ?_
        · refine hm_step 16 rfl (by kernel_rfl) fun K hK => ?_
          try simp only [Act.put, List.getElem_toArray, List.getElem_cons_succ, List.getElem_cons_zero, List.setIfInBounds_toArray, List.set_cons_zero, List.set_cons_succ]
          go_simp
          go_at_call 98
          refine (C72.out _ E17_13.out.below).mono ?_
          rintro e wn ⟨rfl, rfl⟩
          have E18_16 := E17_13
          refine hK _ _ (E18_16.out) ?_
          clear hK K
          try simp only [Act.put, List.getElem_toArray, List.getElem_cons_succ, List.getElem_cons_zero, List.setIfInBounds_toArray, List.set_cons_zero, List.set_cons_succ]
          refine hm_two (i := 19) (j := 21) (by kernel_rfl) ?_ ?_
          · refine hm_step 19 rfl (by kernel_rfl) fun K hK => ?_
            try simp only [Act.put, List.getElem_toArray, List.getElem_cons_succ, List.getElem_cons_zero, List.setIfInBounds_toArray, List.set_cons_zero, List.set_cons_succ]
            go_simp
            go_at_call 98
            refine (C76.out _ E18_16.out.below).mono ?_
            rintro e wn ⟨rfl, rfl⟩
            have E19_19 := E18_16
            refine hK _ _ (E19_19.out) ?_
            clear hK K
            try simp only [Act.put, List.getElem_toArray, List.getElem_cons_succ, List.getElem_cons_zero, List.setIfInBounds_toArray, List.set_cons_zero, List.set_cons_succ]
            refine hm_run 20 30 (.agg (arr 68 (hc H))) rfl rfl (by kernel_rfl) (by kernel_rfl) (by kernel_rfl) (fun _ _ _ h => h) rfl (fun W _ => exec_build (ps := #[(0, .int .u32 ((H.v : Nat) : Int)), (1, .agg (arr 32 (bv H.prev))), (2, .agg (arr 32 (bv H.merkle))), (3, .int .u32 ((H.t : Nat) : Int)), (4, .int .u32 ((H.b : Nat) : Int)), (5, .int .u32 ((H.n : Nat) : Int))]) rfl (by first | kernel_rfl | (simp; rfl)) (built_hd H)) (E19_19.out) ?_
            try simp only [Act.put, List.getElem_toArray, List.getElem_cons_succ, List.getElem_cons_zero, List.setIfInBounds_toArray, List.set_cons_zero, List.set_cons_succ]
            refine hm_one (i := 21) (by kernel_rfl) ?_
            refine hm_step 21 rfl (by kernel_rfl) fun K hK => ?_
            try simp only [Act.put, List.getElem_toArray, List.getElem_cons_succ, List.getElem_cons_zero, List.setIfInBounds_toArray, List.set_cons_zero, List.set_cons_succ]
            refine mo_alloc E19_19 39 rfl infoH ?_
            intro bn wn E21_21
            simp only [arr_cells'] at E21_21
            refine hK _ _ (E21_21.out.tail) ?_
            clear hK K
            try simp only [Act.put, List.getElem_toArray, List.getElem_cons_succ, List.getElem_cons_zero, List.setIfInBounds_toArray, List.set_cons_zero, List.set_cons_succ]
            refine hm_one (i := 22) (by kernel_rfl) ?_
            refine hm_step 22 rfl (by kernel_rfl) fun K hK => ?_
            try simp only [Act.put, List.getElem_toArray, List.getElem_cons_succ, List.getElem_cons_zero, List.setIfInBounds_toArray, List.set_cons_zero, List.set_cons_succ]
            refine mo_store_row 0 E21_21 39 (.tmp 5) (.tmp 30) rfl rfl rfl rfl (by kernel_rfl) (by simp only [arr_size]) (hc_one _) ?_
            intro wn E22_22
            simp only [List.set_cons_zero, List.set_cons_succ] at E22_22
            refine hK _ _ (E22_22.out.tail) ?_
            clear hK K
            try simp only [Act.put, List.getElem_toArray, List.getElem_cons_succ, List.getElem_cons_zero, List.setIfInBounds_toArray, List.set_cons_zero, List.set_cons_succ]
            refine wpAnyH_done (by kernel_rfl) ?_ _
            go_wp2_with fail
            go_meet
            exact ⟨_, rfl, E22_22⟩
          · refine hm_step 21 rfl (by kernel_rfl) fun K hK => ?_
            try simp only [Act.put, List.getElem_toArray, List.getElem_cons_succ, List.getElem_cons_zero, List.setIfInBounds_toArray, List.set_cons_zero, List.set_cons_succ]
            refine mo_alloc E18_16 39 rfl infoH ?_
            intro bn wn E19_21
            simp only [arr_cells'] at E19_21
            refine hK _ _ (E19_21.out.tail) ?_
            clear hK K
            try simp only [Act.put, List.getElem_toArray, List.getElem_cons_succ, List.getElem_cons_zero, List.setIfInBounds_toArray, List.set_cons_zero, List.set_cons_succ]
            refine hm_one (i := 19) (by kernel_rfl) ?_
            refine hm_step 19 rfl (by kernel_rfl) fun K hK => ?_
            try simp only [Act.put, List.getElem_toArray, List.getElem_cons_succ, List.getElem_cons_zero, List.setIfInBounds_toArray, List.set_cons_zero, List.set_cons_succ]
            go_simp
            go_at_call 98
            refine (C76.out _ E19_21.out.below).mono ?_
            rintro e wn ⟨rfl, rfl⟩
            have E20_19 := E19_21
            refine hK _ _ (E20_19.out.tail) ?_
            clear hK K
            try simp only [Act.put, List.getElem_toArray, List.getElem_cons_succ, List.getElem_cons_zero, List.setIfInBounds_toArray, List.set_cons_zero, List.set_cons_succ]
            refine hm_run 20 30 (.agg (arr 68 (hc H))) rfl rfl (by kernel_rfl) (by kernel_rfl) (by kernel_rfl) (fun _ _ _ h => h) rfl (fun W _ => exec_build (ps := #[(0, .int .u32 ((H.v : Nat) : Int)), (1, .agg (arr 32 (bv H.prev))), (2, .agg (arr 32 (bv H.merkle))), (3, .int .u32 ((H.t : Nat) : Int)), (4, .int .u32 ((H.b : Nat) : Int)), (5, .int .u32 ((H.n : Nat) : Int))]) rfl (by first | kernel_rfl | (simp; rfl)) (built_hd H)) (E20_19.out.tail) ?_
            try simp only [Act.put, List.getElem_toArray, List.getElem_cons_succ, List.getElem_cons_zero, List.setIfInBounds_toArray, List.set_cons_zero, List.set_cons_succ]
            refine hm_one (i := 22) (by kernel_rfl) ?_
            refine hm_step 22 rfl (by kernel_rfl) fun K hK => ?_
            try simp only [Act.put, List.getElem_toArray, List.getElem_cons_succ, List.getElem_cons_zero, List.setIfInBounds_toArray, List.set_cons_zero, List.set_cons_succ]
            refine mo_store_row 0 E20_19 39 (.tmp 5) (.tmp 30) rfl rfl rfl rfl (by kernel_rfl) (by simp only [arr_size]) (hc_one _) ?_
            intro wn E22_22
            simp only [List.set_cons_zero, List.set_cons_succ] at E22_22
            refine hK _ _ (E22_22.out.tail) ?_
            clear hK K
            try simp only [Act.put, List.getElem_toArray, List.getElem_cons_succ, List.getElem_cons_zero, List.setIfInBounds_toArray, List.set_cons_zero, List.set_cons_succ]
            refine wpAnyH_done (by kernel_rfl) ?_ _
            go_wp2_with fail
            go_meet
            exact ⟨_, rfl, E22_22⟩
        · refine hm_step 21 rfl (by kernel_rfl) fun K hK => ?_
          try simp only [Act.put, List.getElem_toArray, List.getElem_cons_succ, List.getElem_cons_zero, List.setIfInBounds_toArray, List.set_cons_zero, List.set_cons_succ]
          refine mo_alloc E17_13 39 rfl infoH ?_
          intro bn wn E18_21
          simp only [arr_cells'] at E18_21
          refine hK _ _ (E18_21.out.tail) ?_
          clear hK K
          try simp only [Act.put, List.getElem_toArray, List.getElem_cons_succ, List.getElem_cons_zero, List.setIfInBounds_toArray, List.set_cons_zero, List.set_cons_succ]
          refine hm_one (i := 16) (by kernel_rfl) ?_
          refine hm_step 16 rfl (by kernel_rfl) fun K hK => ?_
          try simp only [Act.put, List.getElem_toArray, List.getElem_cons_succ, List.getElem_cons_zero, List.setIfInBounds_toArray, List.set_cons_zero, List.set_cons_succ]
          go_simp
          go_at_call 98
          refine (C72.out _ E18_21.out.below).mono ?_
          rintro e wn ⟨rfl, rfl⟩
          have E19_16 := E18_21
          refine hK _ _ (E19_16.out.tail) ?_
          clear hK K
          try simp only [Act.put, List.getElem_toArray, List.getElem_cons_succ, List.getElem_cons_zero, List.setIfInBounds_toArray, List.set_cons_zero, List.set_cons_succ]
          refine hm_one (i := 19) (by kernel_rfl) ?_
          refine hm_step 19 rfl (by kernel_rfl) fun K hK => ?_
          try simp only [Act.put, List.getElem_toArray, List.getElem_cons_succ, List.getElem_cons_zero, List.setIfInBounds_toArray, List.set_cons_zero, List.set_cons_succ]
          go_simp
          go_at_call 98
          refine (C76.out _ E19_16.out.below).mono ?_
          rintro e wn ⟨rfl, rfl⟩
          have E20_19 := E19_16
          refine hK _ _ (E20_19.out.tail) ?_
          clear hK K
          try simp only [Act.put, List.getElem_toArray, List.getElem_cons_succ, List.getElem_cons_zero, List.setIfInBounds_toArray, List.set_cons_zero, List.set_cons_succ]
          refine hm_run 20 30 (.agg (arr 68 (hc H))) rfl rfl (by kernel_rfl) (by kernel_rfl) (by kernel_rfl) (fun _ _ _ h => h) rfl (fun W _ => exec_build (ps := #[(0, .int .u32 ((H.v : Nat) : Int)), (1, .agg (arr 32 (bv H.prev))), (2, .agg (arr 32 (bv H.merkle))), (3, .int .u32 ((H.t : Nat) : Int)), (4, .int .u32 ((H.b : Nat) : Int)), (5, .int .u32 ((H.n : Nat) : Int))]) rfl (by first | kernel_rfl | (simp; rfl)) (built_hd H)) (E20_19.out.tail) ?_
          try simp only [Act.put, List.getElem_toArray, List.getElem_cons_succ, List.getElem_cons_zero, List.setIfInBounds_toArray, List.set_cons_zero, List.set_cons_succ]
          refine hm_one (i := 22) (by kernel_rfl) ?_
          refine hm_step 22 rfl (by kernel_rfl) fun K hK => ?_
          try simp only [Act.put, List.getElem_toArray, List.getElem_cons_succ, List.getElem_cons_zero, List.setIfInBounds_toArray, List.set_cons_zero, List.set_cons_succ]
          refine mo_store_row 0 E20_19 39 (.tmp 5) (.tmp 30) rfl rfl rfl rfl (by kernel_rfl) (by simp only [arr_size]) (hc_one _) ?_
          intro wn E22_22
          simp only [List.set_cons_zero, List.set_cons_succ] at E22_22
          refine hK _ _ (E22_22.out.tail) ?_
          clear hK K
          try simp only [Act.put, List.getElem_toArray, List.getElem_cons_succ, List.getElem_cons_zero, List.setIfInBounds_toArray, List.set_cons_zero, List.set_cons_succ]
          refine wpAnyH_done (by kernel_rfl) ?_ _
          go_wp2_with fail
          go_meet
          exact ⟨_, rfl, E22_22⟩
      · refine hm_step 21 rfl (by kernel_rfl) fun K hK => ?_
        try simp only [Act.put, List.getElem_toArray, List.getElem_cons_succ, List.getElem_cons_zero, List.setIfInBounds_toArray, List.set_cons_zero, List.set_cons_succ]
        refine mo_alloc E16_2 39 rfl infoH ?_
        intro bn wn E17_21
        simp only [arr_cells'] at E17_21
        refine hK _ _ (E17_21.out.tail) ?_
        clear hK K
        try simp only [Act.put, List.getElem_toArray, List.getElem_cons_succ, List.getElem_cons_zero, List.setIfInBounds_toArray, List.set_cons_zero, List.set_cons_succ]
        refine hm_one (i := 13) (by kernel_rfl) ?_
        refine hm_step 13 rfl (by kernel_rfl) fun K hK => ?_
        try simp only [Act.put, List.getElem_toArray, List.getElem_cons_succ, List.getElem_cons_zero, List.setIfInBounds_toArray, List.set_cons_zero, List.set_cons_succ]
        go_simp
        go_at_call 98
        refine (C68.out _ E17_21.out.below).mono ?_
        rintro e wn ⟨rfl, rfl⟩
        have E18_13 := E17_21
        refine hK _ _ (E18_13.out.tail) ?_
        clear hK K
        try simp only [Act.put, List.getElem_toArray, List.getElem_cons_succ, List.getElem_cons_zero, List.setIfInBounds_toArray, List.set_cons_zero, List.set_cons_succ]
        refine hm_one (i := 16) (by kernel_rfl) ?_
        refine hm_step 16 rfl (by kernel_rfl) fun K hK => ?_
        try simp only [Act.put, List.getElem_toArray, List.getElem_cons_succ, List.getElem_cons_zero, List.setIfInBounds_toArray, List.set_cons_zero, List.set_cons_succ]
        go_simp
        go_at_call 98
        refine (C72.out _ E18_13.out.below).mono ?_
        rintro e wn ⟨rfl, rfl⟩
        have E19_16 := E18_13
        refine hK _ _ (E19_16.out.tail) ?_
        clear hK K
        try simp only [Act.put, List.getElem_toArray, List.getElem_cons_succ, List.getElem_cons_zero, List.setIfInBounds_toArray, List.set_cons_zero, List.set_cons_succ]
        refine hm_one (i := 19) (by kernel_rfl) ?_
        refine hm_step 19 rfl (by kernel_rfl) fun K hK => ?_
        try simp only [Act.put, List.getElem_toArray, List.getElem_cons_succ, List.getElem_cons_zero, List.setIfInBounds_toArray, List.set_cons_zero, List.set_cons_succ]
        go_simp
        go_at_call 98
        refine (C76.out _ E19_16.out.below).mono ?_
        rintro e wn ⟨rfl, rfl⟩
        have E20_19 := E19_16
        refine hK _ _ (E20_19.out.tail) ?_
        clear hK K
        try simp only [Act.put, List.getElem_toArray, List.getElem_cons_succ, List.getElem_cons_zero, List.setIfInBounds_toArray, List.set_cons_zero, List.set_cons_succ]
        refine hm_run 20 30 (.agg (arr 68 (hc H))) rfl rfl (by kernel_rfl) (by kernel_rfl) (by kernel_rfl) (fun _ _ _ h => h) rfl (fun W _ => exec_build (ps := #[(0, .int .u32 ((H.v : Nat) : Int)), (1, .agg (arr 32 (bv H.prev))), (2, .agg (arr 32 (bv H.merkle))), (3, .int .u32 ((H.t : Nat) : Int)), (4, .int .u32 ((H.b : Nat) : Int)), (5, .int .u32 ((H.n : Nat) : Int))]) rfl (by first | kernel_rfl | (simp; rfl)) (built_hd H)) (E20_19.out.tail) ?_
        try simp only [Act.put, List.getElem_toArray, List.getElem_cons_succ, List.getElem_cons_zero, List.setIfInBounds_toArray, List.set_cons_zero, List.set_cons_succ]
        refine hm_one (i := 22) (by kernel_rfl) ?_
        refine hm_step 22 rfl (by kernel_rfl) fun K hK => ?_
        try simp only [Act.put, List.getElem_toArray, List.getElem_cons_succ, List.getElem_cons_zero, List.setIfInBounds_toArray, List.set_cons_zero, List.set_cons_succ]
        refine mo_store_row 0 E20_19 39 (.tmp 5) (.tmp 30) rfl rfl rfl rfl (by kernel_rfl) (by simp only [arr_size]) (hc_one _) ?_
        intro wn E22_22
        simp only [List.set_cons_zero, List.set_cons_succ] at E22_22
        refine hK _ _ (E22_22.out.tail) ?_
        clear hK K
        try simp only [Act.put, List.getElem_toArray, List.getElem_cons_succ, List.getElem_cons_zero, List.setIfInBounds_toArray, List.set_cons_zero, List.set_cons_succ]
        refine wpAnyH_done (by kernel_rfl) ?_ _
        go_wp2_with fail
        go_meet
        exact ⟨_, rfl, E22_22⟩
    · refine hm_step 21 rfl (by kernel_rfl) fun K hK => ?_
      try simp only [Act.put, List.getElem_toArray, List.getElem_cons_succ, List.getElem_cons_zero, List.setIfInBounds_toArray, List.set_cons_zero, List.set_cons_succ]
      refine mo_alloc E0 39 rfl infoH ?_
      intro bn wn E16_21
      simp only [arr_cells'] at E16_21
      refine hK _ _ (E16_21.out.tail) ?_
      clear hK K
      try simp only [Act.put, List.getElem_toArray, List.getElem_cons_succ, List.getElem_cons_zero, List.setIfInBounds_toArray, List.set_cons_zero, List.set_cons_succ]
      refine hm_one (i := 2) (by kernel_rfl) ?_
      refine hm_step 2 rfl (by kernel_rfl) fun K hK => ?_
      try simp only [Act.put, List.getElem_toArray, List.getElem_cons_succ, List.getElem_cons_zero, List.setIfInBounds_toArray, List.set_cons_zero, List.set_cons_succ]
      go_simp
      go_at_call 98
      refine (C0.out _ E16_21.out.below).mono ?_
      rintro e wn ⟨rfl, rfl⟩
      have E17_2 := E16_21
      refine hK _ _ (E17_2.out.tail) ?_
      clear hK K
      try simp only [Act.put, List.getElem_toArray, List.getElem_cons_succ, List.getElem_cons_zero, List.setIfInBounds_toArray, List.set_cons_zero, List.set_cons_succ]
      refine hm_one (i := 13) (by kernel_rfl) ?_
      refine hm_step 13 rfl (by kernel_rfl) fun K hK => ?_
      try simp only [Act.put, List.getElem_toArray, List.getElem_cons_succ, List.getElem_cons_zero, List.setIfInBounds_toArray, List.set_cons_zero, List.set_cons_succ]
      go_simp
      go_at_call 98
      refine (C68.out _ E17_2.out.below).mono ?_
      rintro e wn ⟨rfl, rfl⟩
      have E18_13 := E17_2
      refine hK _ _ (E18_13.out.tail) ?_
      clear hK K
      try simp only [Act.put, List.getElem_toArray, List.getElem_cons_succ, List.getElem_cons_zero, List.setIfInBounds_toArray, List.set_cons_zero, List.set_cons_succ]
      refine hm_one (i := 16) (by kernel_rfl) ?_
      refine hm_step 16 rfl (by kernel_rfl) fun K hK => ?_
      try simp only [Act.put, List.getElem_toArray, List.getElem_cons_succ, List.getElem_cons_zero, List.setIfInBounds_toArray, List.set_cons_zero, List.set_cons_succ]
      go_simp
      go_at_call 98
      refine (C72.out _ E18_13.out.below).mono ?_
      rintro e wn ⟨rfl, rfl⟩
      have E19_16 := E18_13
      refine hK _ _ (E19_16.out.tail) ?_
      clear hK K
      try simp only [Act.put, List.getElem_toArray, List.getElem_cons_succ, List.getElem_cons_zero, List.setIfInBounds_toArray, List.set_cons_zero, List.set_cons_succ]
      refine hm_one (i := 19) (by kernel_rfl) ?_
      refine hm_step 19 rfl (by kernel_rfl) fun K hK => ?_
      try simp only [Act.put, List.getElem_toArray, List.getElem_cons_succ, List.getElem_cons_zero, List.setIfInBounds_toArray, List.set_cons_zero, List.set_cons_succ]
      go_simp
      go_at_call 98
      refine (C76.out _ E19_16.out.below).mono ?_
      rintro e wn ⟨rfl, rfl⟩
      have E20_19 := E19_16
      refine hK _ _ (E20_19.out.tail) ?_
      clear hK K
      try simp only [Act.put, List.getElem_toArray, List.getElem_cons_succ, List.getElem_cons_zero, List.setIfInBounds_toArray, List.set_cons_zero, List.set_cons_succ]
      refine hm_run 20 30 (.agg (arr 68 (hc H))) rfl rfl (by kernel_rfl) (by kernel_rfl) (by kernel_rfl) (fun _ _ _ h => h) rfl (fun W _ => exec_build (ps := #[(0, .int .u32 ((H.v : Nat) : Int)), (1, .agg (arr 32 (bv H.prev))), (2, .agg (arr 32 (bv H.merkle))), (3, .int .u32 ((H.t : Nat) : Int)), (4, .int .u32 ((H.b : Nat) : Int)), (5, .int .u32 ((H.n : Nat) : Int))]) rfl (by first | kernel_rfl | (simp; rfl)) (built_hd H)) (E20_19.out.tail) ?_
      try simp only [Act.put, List.getElem_toArray, List.getElem_cons_succ, List.getElem_cons_zero, List.setIfInBounds_toArray, List.set_cons_zero, List.set_cons_succ]
      refine hm_one (i := 22) (by kernel_rfl) ?_
      refine hm_step 22 rfl (by kernel_rfl) fun K hK => ?_
      try simp only [Act.put, List.getElem_toArray, List.getElem_cons_succ, List.getElem_cons_zero, List.setIfInBounds_toArray, List.set_cons_zero, List.set_cons_succ]
      refine mo_store_row 0 E20_19 39 (.tmp 5) (.tmp 30) rfl rfl rfl rfl (by kernel_rfl) (by simp only [arr_size]) (hc_one _) ?_
      intro wn E22_22
      simp only [List.set_cons_zero, List.set_cons_succ] at E22_22
      refine hK _ _ (E22_22.out.tail) ?_
      clear hK K
      try simp only [Act.put, List.getElem_toArray, List.getElem_cons_succ, List.getElem_cons_zero, List.setIfInBounds_toArray, List.set_cons_zero, List.set_cons_succ]
      refine wpAnyH_done (by kernel_rfl) ?_ _
      go_wp2_with fail
      go_meet
      exact ⟨_, rfl, E22_22⟩
  case rest =>
    obtain ⟨b5, rfl, E⟩ := hcut
    go_upto_region 4 with fail
    refine wp_region_memS (S := fun W => Mem w [(b5, 39, arr 68 (hc H))] W) E (by kernel_rfl) ?_
    clear E
    intro wx E0
    refine hm_run 0 31 (.agg (arr 68 (hc H))) rfl rfl (by kernel_rfl) (by kernel_rfl) (by kernel_rfl) (fun _ _ _ h => h) rfl (fun W hW => exec_load rfl (load_hdr hW List.mem_cons_self)) (E0.out.fst) ?_
    try simp only [Act.put, List.getElem_toArray, List.getElem_cons_succ, List.getElem_cons_zero, List.setIfInBounds_toArray, List.set_cons_zero, List.set_cons_succ]
    refine hm_run 1 32 (.slice (some ⟨g, o, none⟩) n c) rfl rfl (by kernel_rfl) (by kernel_rfl) (by kernel_rfl) (fun _ _ _ h => h) rfl (fun _ _ => rfl) (E0.out.fst) ?_
    try simp only [Act.put, List.getElem_toArray, List.getElem_cons_succ, List.getElem_cons_zero, List.setIfInBounds_toArray, List.set_cons_zero, List.set_cons_succ]
    refine hm_run 2 33 (.slice p8 (n - 80) (c - 80)) rfl rfl (by kernel_rfl) (by kernel_rfl) (by kernel_rfl) (fun _ _ _ h => h) rfl (fun W _ => exec_sl rfl (S80.out W)) (E0.out.fst) ?_
    try simp only [Act.put, List.getElem_toArray, List.getElem_cons_succ, List.getElem_cons_zero, List.setIfInBounds_toArray, List.set_cons_zero, List.set_cons_succ]
    refine hm_one (i := 3) (by kernel_rfl) ?_
    refine hm_step 3 rfl (by kernel_rfl) fun K hK => ?_
    try simp only [Act.put, List.getElem_toArray, List.getElem_cons_succ, List.getElem_cons_zero, List.setIfInBounds_toArray, List.set_cons_zero, List.set_cons_succ]
    go_simp
    go_at_call 8
    refine (clone_any (Lib.hid (RT.out.below E0.out.below)) (by omega)).mono ?_
    rintro e wn ⟨p9, g9, c9, rfl, N9', hb⟩
    have N9 := Lib.hid N9'
    have HS := Lib.hid E0.out.lt
    have WS := Lib.hid E0.out.below.size
    have E3_3 := Lib.hid (E0.out.call hb)
    clear hb N9'
    refine hK _ _ (E3_3.out.fst) ?_
    clear hK K
    try simp only [Act.put, List.getElem_toArray, List.getElem_cons_succ, List.getElem_cons_zero, List.setIfInBounds_toArray, List.set_cons_zero, List.set_cons_succ]
    refine hm_one (i := 4) (by kernel_rfl) ?_
    refine hm_step 4 rfl (by kernel_rfl) fun K hK => ?_
    try simp only [Act.put, List.getElem_toArray, List.getElem_cons_succ, List.getElem_cons_zero, List.setIfInBounds_toArray, List.set_cons_zero, List.set_cons_succ]
    refine mo_store_only 1 E3_3 39 (.tmp 2) (.tmp 31) rfl rfl rfl rfl (by kernel_rfl) (by simp only [arr_size]) (hc_one _) ?_
    intro wm E4_4 HO
    simp only [List.set_cons_zero, List.set_cons_succ] at E4_4
    have NZ : Hid (Row wm p9 g9 0 (n - 80) c9 y) := Lib.hid (row_of_own N9.out E3_3.out HS.out (i := 1) rfl HO.out)
    refine hK _ _ (E4_4.out.fst) ?_
    clear hK K
    try simp only [Act.put, List.getElem_toArray, List.getElem_cons_succ, List.getElem_cons_zero, List.setIfInBounds_toArray, List.set_cons_zero, List.set_cons_succ]
    refine hm_run 5 3 _ rfl rfl (by kernel_rfl) (by kernel_rfl) (by kernel_rfl) (fun _ _ _ h => h) rfl (fun _ _ => rfl) (E4_4.out.fst) ?_
    try simp only [Act.put, List.getElem_toArray, List.getElem_cons_succ, List.getElem_cons_zero, List.setIfInBounds_toArray, List.set_cons_zero, List.set_cons_succ]
    refine hm_run 6 4 _ rfl rfl (by kernel_rfl) (by kernel_rfl) (by kernel_rfl) (fun _ _ _ h => h) rfl (fun _ _ => rfl) (E4_4.out.fst) ?_
    try simp only [Act.put, List.getElem_toArray, List.getElem_cons_succ, List.getElem_cons_zero, List.setIfInBounds_toArray, List.set_cons_zero, List.set_cons_succ]
    refine wpAnyH_done (by kernel_rfl) ?_ _
    go_wp2_with fail
    exact bodyPost_ret (res_row_tmp_tmp (fn := Try.f79) rfl _ _ b2 68 39 _ _ rfl (E4_4.out.get (List.mem_cons_of_mem _ List.mem_cons_self)) Try.underlying39 rfl (by kernel_rfl)) rfl ⟨p9, g9, c9, rfl, NZ.out, E4_4.out.below⟩

theorem hdec_long {w : World} {g o n c : Nat} {x : Nat → Nat} (R : Hid (Row w (some ⟨g, o, none⟩) g o n c x)) (h : 80 ≤ n) (hn : n ≤ 140737488355328) : Calls Try.prog 79 #[.slice (some ⟨g, o, none⟩) n c] w (HdGood w n x) := by
  have hc' : n ≤ c := R.out.le
  obtain ⟨p8, e8, R8⟩ := R.out.slice (l := 80) (h := n) (m := c) h (Nat.le_refl _) R.out.le (Nat.le_refl _)
  have S80 : Hid (∀ W, (Instr.sliceAt 22 (.slice (some ⟨g, o, none⟩) n c) (some (.int .i64 80)) none none).run Try.prog W = .ok (.slice p8 (n - 80) (c - 80)) W) := Lib.hid fun W => by
    have := run_sl (w := W) (p := some ⟨g, o, none⟩) (bounds_l (n := n) (c := c) (l := 80) h)
    rw [e8] at this
    exact this
  have R0 : Row w (some ⟨g, o, none⟩) g o 4 4 x := ⟨Nat.le_refl _, by unfold maxLen; omega, fun e => (by cases e), fun _ => rfl, fun i hi => R.out.cell i (by omega), R.out.byte⟩
  exact hdec_walk (H := hdOf x) h hn (Lib.hid (run_part 0 4 (by omega) (by omega))) (Lib.hid (run_part 4 32 (by omega) (by omega))) (Lib.hid (run_part 36 32 (by omega) (by omega))) (Lib.hid (run_part 68 4 (by omega) (by omega))) (Lib.hid (run_part 72 4 (by omega) (by omega))) (Lib.hid (run_part 76 4 (by omega) (by omega)))
    (Lib.hid fun W hW => number_any (Lib.hid (R0.below hW)) (by omega) (by omega)) (Lib.hid fun W hW => number_any (Lib.hid ((R.out.part 68 4 (by omega)).below hW)) (by omega) (by omega)) (Lib.hid fun W hW => number_any (Lib.hid ((R.out.part 72 4 (by omega)).below hW)) (by omega) (by omega)) (Lib.hid fun W hW => number_any (Lib.hid ((R.out.part 76 4 (by omega)).below hW)) (by omega) (by omega))
    (Lib.hid fun W hW => load_hash ((R.out.part 4 32 (by omega)).below hW) (by omega)) (Lib.hid fun W hW => load_hash ((R.out.part 36 32 (by omega)).below hW) (by omega)) S80 (Lib.hid R8)
end Go.Proofs.Ytllndneplkigpaa
