/- The root of hashes, and whether it may be of others: the document's. -/
import Derived.Test.YtgicnmfodbenlaaDoorMr
set_option linter.unusedSimpArgs false
set_option linter.unusedVariables false
set_option maxRecDepth 100000
namespace Go.Proofs.YtgicnmfodbenlaaDoor
open Go.RowKit Go.Lib Go.Sort

theorem row_hash {w : World} {b T : Nat} {a : List Nat} (hh : w.heap[b]? = some (.cells (arr 32 (bv (lf a))) T (0, 0))) (ha : IsH a) : Row w (some ⟨b, 0, none⟩) b 0 32 32 (lf a) :=
  ⟨by omega, by unfold maxLen; omega, fun e => (by cases e), fun _ => rfl, fun i hi => by
    rw [Nat.zero_add]
    exact cell_of_here hh i (arr_get 32 _ i hi), lf_lt ha.byte⟩
theorem tl32 {a : List Nat} (ha : IsH a) : tl (lf a) 32 = a := by
  have := tl_lf a
  rwa [ha.len] at this
theorem mo_bs0 {Q : Exit → Act → World → Prop} {op : Oper} {a : Act} {w w0 : World} {l : List (Nat × TypeId × Array Value)} {K : Act → World → Prop} (ho : op.op = .buildSlice 31 0 #[]) (E : Hid (Mem w0 l w)) (nb : ∀ q, q ∈ l → q.2.1 ≠ 5)
    (k : ∀ p g w', Hid (Wb w0 l p g 0 [] w') → K (a.put op.dst (.slice p 0 0)) w') : op.wp Tryd.prog a w K Q := by
  refine mo_known (.slice (some ⟨w.heap.size, 0, none⟩) 0 0) (w.alloc (.cells #[] 5)) ?_ (k _ _ _ (Lib.hid (Wb.start E.out nb (own_start w (lf []) (lf_lt isB_nil)) (below_new w _))))
  unfold execOp
  simp only [ho, Array.map_empty, Sem.run_bind, run_bs0 Tryd.underlying31 infoB w, Result.andThen_ok]
  rfl
theorem Mem.any {w0 w w' : World} {l : List (Nat × TypeId × Array Value)} (E : Mem w0 l w) (h1 : w'.os = w.os) (h2 : w'.tape = w.tape) (h3 : w'.output = w.output) (h4 : w'.heap = w.heap) : Mem w0 l w' :=
  ⟨⟨h1.trans E.below.os, h2.trans E.below.tape, h3.trans E.below.output, by rw [h4]; exact E.below.size, fun k hk => by rw [h4]; exact E.below.block k hk⟩, fun p hp => by rw [h4]; exact E.has p hp, E.nd, E.ge⟩
theorem tw_step (h : Nat → List Nat) (n j : Nat) (hj : 2 * j + 1 < n) : tw h (min (j + 1) (n / 2)) = (tw h (min j (n / 2)) || decide (h (2 * j) = h (2 * j + 1))) := by
  rw [show min (j + 1) (n / 2) = j + 1 by omega, show min j (n / 2) = j by omega, tw_succ]

set_option maxHeartbeats 8000000 in
theorem rmerkle_any : ∀ (N : Nat) (w : World) (p : Option Addr) (g o n c : Nat) (h : Nat → List Nat) (R : Hid (HRow w p g o n c h)) (h0 : 0 < n) (hN : n ≤ N) (hn : n ≤ 1000000),
    Calls Tryd.prog 14 #[.slice p n c] w fun e w' => e = .returned (.tuple #[.agg (arr 32 (bv (lf (mroot h n).1))), .bool (mroot h n).2]) ∧ Below w.heap.size w w' := by
  intro N
  induction N with
  | zero => intro w p g o n c h R h0 hN hn; omega
  | succ N ih0 =>
    intro w p g o n c h R h0 hN hn
    have IH := Lib.hid ih0
    clear ih0
    have E := Lib.hid (Mem.nil w)
    have t0 : ((n : Int) == 0) = false := by simp; omega
    have t0' : decide ((n : Int) = 0) = false := by simp; omega
    by_cases hlt : 1 < n
    · have t1 : ((n : Int) == 1) = false := by simp; omega
      have t1' : decide ((n : Int) = 1) = false := by simp; omega
      have MM := Lib.hid (mroot_more h hlt)
      obtain rfl := R.out.row.head (by omega)
      go_enter Tryd.func14, Tryd.ntmps14
      go_wp2_with (refine mem_alloc E 24 rfl rfl infoHash ?_; clear E; intro b2 w2 E; simp only [arr_cells'] at E)
      have HB : Hid (w.heap.size ≤ w2.heap.size ∧ b2 < w2.heap.size) := Lib.hid ⟨E.out.below.size, E.out.lt _ List.mem_cons_self⟩
      go_loopg [4, 5, 6] ((n + 1) / 2) (fun k s a i wr => ∃ (j : Nat) (p : Option Addr) (g c : Nat), j + k = (n + 1) / 2 ∧ i = .int .i64 (((2 * j : Nat) : Nat) : Int) ∧ a = .bool (tw h (min j (n / 2))) ∧ s = .slice p j c ∧ Hid (VOwn 24 32 w2.heap.size wr p g j c (hv (up h n))) ∧ Hid (Mem w [(b2, 24, arr 32 (bv fun _ => 0))] wr))
      case atStart => exact ⟨0, none, 0, 0, by omega, rfl, by rw [Nat.zero_min]; rfl, rfl, Lib.hid (vown_nothing _ _ _ _ _ (Nat.le_refl _)), E⟩
      case round =>
        clear E
        obtain ⟨j, p2, g2, c2, hj, rfl, rfl, rfl, N, EM1⟩ := hrel
        obtain ⟨kk, rfl⟩ : ∃ kk : Nat, kk = gk := ⟨_, rfl⟩
        by_cases hlt : 2 * j < n
        · have hlt' : (((2 * j : Nat) : Nat) : Int) < (n : Int) := by omega
          have R1 := Lib.hid (R.out.below EM1.out.below)
          have E := Lib.hid (Mem.nil wr)
          go_upto_region 10 with fail
          go_cut [7, 8] (fun a b wx => ∃ b7 b8, a = .pointer (some ⟨b7, 0, none⟩) ∧ b = .pointer (some ⟨b8, 0, none⟩) ∧ Hid (Mem wr [(b8, 24, arr 32 (bv (lf (h (2 * j))))), (b7, 24, arr 32 (bv (lf (h (2 * j)))))] wx))
          case first =>
            refine wp_region_memS (S := fun W => Below wr.heap.size wr W) E (by kernel_rfl) ?_
            clear E
            intro wx E0
            refine hm_run 0 27 _ rfl rfl (by kernel_rfl) (by kernel_rfl) (by kernel_rfl) (fun _ _ _ h => h) rfl (fun _ _ => rfl) E0.out.below ?_
            try simp only [Act.put, List.getElem_toArray, List.getElem_cons_succ, List.getElem_cons_zero, List.setIfInBounds_toArray, List.set_cons_zero, List.set_cons_succ]
            refine hm_run 1 28 _ rfl rfl (by kernel_rfl) (by kernel_rfl) (by kernel_rfl) (fun _ _ _ h => h) rfl (fun _ _ => rfl) E0.out.below ?_
            try simp only [Act.put, List.getElem_toArray, List.getElem_cons_succ, List.getElem_cons_zero, List.setIfInBounds_toArray, List.set_cons_zero, List.set_cons_succ]
            refine hm_run 2 29 (.pointer (some ⟨g, o + 2 * j * 32, none⟩)) rfl rfl (by kernel_rfl) (by kernel_rfl) (by kernel_rfl) (fun _ _ _ h => h) rfl (fun W _ => exec_ix rfl (run_ix (k := 32) (j := 2 * j) Tryd.underlying40 (by kernel_rfl) (by omega) (by go_num) W)) E0.out.below ?_
            try simp only [Act.put, List.getElem_toArray, List.getElem_cons_succ, List.getElem_cons_zero, List.setIfInBounds_toArray, List.set_cons_zero, List.set_cons_succ]
            refine hm_run 3 30 (.agg (arr 32 (bv (lf (h (2 * j)))))) rfl rfl (by kernel_rfl) (by kernel_rfl) (by kernel_rfl) (fun _ _ _ h => h) rfl (fun W hW => exec_load rfl ((R1.out.below hW).load (by omega))) E0.out.below ?_
            try simp only [Act.put, List.getElem_toArray, List.getElem_cons_succ, List.getElem_cons_zero, List.setIfInBounds_toArray, List.set_cons_zero, List.set_cons_succ]
            refine hm_run 4 31 _ rfl rfl (by kernel_rfl) (by kernel_rfl) (by kernel_rfl) (fun _ _ _ h => h) rfl (fun _ _ => rfl) E0.out.below ?_
            try simp only [Act.put, List.getElem_toArray, List.getElem_cons_succ, List.getElem_cons_zero, List.setIfInBounds_toArray, List.set_cons_zero, List.set_cons_succ]
            refine hm_run 5 32 _ rfl rfl (by kernel_rfl) (by kernel_rfl) (by kernel_rfl) (fun _ _ _ h => h) rfl (fun _ _ => rfl) E0.out.below ?_
            try simp only [Act.put, List.getElem_toArray, List.getElem_cons_succ, List.getElem_cons_zero, List.setIfInBounds_toArray, List.set_cons_zero, List.set_cons_succ]
            refine hm_run 6 33 (.pointer (some ⟨g, o + 2 * j * 32, none⟩)) rfl rfl (by kernel_rfl) (by kernel_rfl) (by kernel_rfl) (fun _ _ _ h => h) rfl (fun W _ => exec_ix rfl (run_ix (k := 32) (j := 2 * j) Tryd.underlying40 (by kernel_rfl) (by omega) (by go_num) W)) E0.out.below ?_
            try simp only [Act.put, List.getElem_toArray, List.getElem_cons_succ, List.getElem_cons_zero, List.setIfInBounds_toArray, List.set_cons_zero, List.set_cons_succ]
            refine hm_run 7 34 (.agg (arr 32 (bv (lf (h (2 * j)))))) rfl rfl (by kernel_rfl) (by kernel_rfl) (by kernel_rfl) (fun _ _ _ h => h) rfl (fun W hW => exec_load rfl ((R1.out.below hW).load (by omega))) E0.out.below ?_
            try simp only [Act.put, List.getElem_toArray, List.getElem_cons_succ, List.getElem_cons_zero, List.setIfInBounds_toArray, List.set_cons_zero, List.set_cons_succ]
            refine hm_two (i := 8) (j := 9) (by kernel_rfl) ?_ ?_
            · refine hm_step 8 rfl (by kernel_rfl) fun K hK => ?_
              try simp only [Act.put, List.getElem_toArray, List.getElem_cons_succ, List.getElem_cons_zero, List.setIfInBounds_toArray, List.set_cons_zero, List.set_cons_succ]
              refine mo_alloc E0 24 rfl infoHash ?_
              intro b7 w_b7 E8_8
              simp only [arr_cells'] at E8_8
              refine hK _ _ E8_8.out.below ?_
              clear hK K
              try simp only [Act.put, List.getElem_toArray, List.getElem_cons_succ, List.getElem_cons_zero, List.setIfInBounds_toArray, List.set_cons_zero, List.set_cons_succ]
              refine hm_one (i := 9) (by kernel_rfl) ?_
              refine hm_step 9 rfl (by kernel_rfl) fun K hK => ?_
              try simp only [Act.put, List.getElem_toArray, List.getElem_cons_succ, List.getElem_cons_zero, List.setIfInBounds_toArray, List.set_cons_zero, List.set_cons_succ]
              refine mo_alloc E8_8 24 rfl infoHash ?_
              intro b8 w_b8 E9_9
              simp only [arr_cells'] at E9_9
              refine hK _ _ E9_9.out.below ?_
              clear hK K
              try simp only [Act.put, List.getElem_toArray, List.getElem_cons_succ, List.getElem_cons_zero, List.setIfInBounds_toArray, List.set_cons_zero, List.set_cons_succ]
              refine hm_one (i := 10) (by kernel_rfl) ?_
              refine hm_step 10 rfl (by kernel_rfl) fun K hK => ?_
              try simp only [Act.put, List.getElem_toArray, List.getElem_cons_succ, List.getElem_cons_zero, List.setIfInBounds_toArray, List.set_cons_zero, List.set_cons_succ]
              first
                | (refine mo_store_row 0 E9_9 24 (.tmp 7) (.tmp 30) rfl rfl rfl rfl (by kernel_rfl) (by simp only [arr_size]) (bv_one _ _) ?_)
                | (refine mo_store_row 1 E9_9 24 (.tmp 7) (.tmp 30) rfl rfl rfl rfl (by kernel_rfl) (by simp only [arr_size]) (bv_one _ _) ?_)
              intro w_s E10_10
              simp only [List.set_cons_zero, List.set_cons_succ] at E10_10
              refine hK _ _ E10_10.out.below ?_
              clear hK K
              try simp only [Act.put, List.getElem_toArray, List.getElem_cons_succ, List.getElem_cons_zero, List.setIfInBounds_toArray, List.set_cons_zero, List.set_cons_succ]
              refine hm_one (i := 11) (by kernel_rfl) ?_
              refine hm_step 11 rfl (by kernel_rfl) fun K hK => ?_
              try simp only [Act.put, List.getElem_toArray, List.getElem_cons_succ, List.getElem_cons_zero, List.setIfInBounds_toArray, List.set_cons_zero, List.set_cons_succ]
              first
                | (refine mo_store_row 0 E10_10 24 (.tmp 8) (.tmp 34) rfl rfl rfl rfl (by kernel_rfl) (by simp only [arr_size]) (bv_one _ _) ?_)
                | (refine mo_store_row 1 E10_10 24 (.tmp 8) (.tmp 34) rfl rfl rfl rfl (by kernel_rfl) (by simp only [arr_size]) (bv_one _ _) ?_)
              intro w_s E11_11
              simp only [List.set_cons_zero, List.set_cons_succ] at E11_11
              refine hK _ _ E11_11.out.below ?_
              clear hK K
              try simp only [Act.put, List.getElem_toArray, List.getElem_cons_succ, List.getElem_cons_zero, List.setIfInBounds_toArray, List.set_cons_zero, List.set_cons_succ]
              refine wpAnyH_done (by kernel_rfl) ?_ _
              go_wp2_with fail
              go_meet
              first
                | exact ⟨b7, b8, rfl, rfl, E11_11⟩
                | exact ⟨b7, b8, rfl, rfl, Lib.hid E11_11.out.swap⟩
            · refine hm_step 9 rfl (by kernel_rfl) fun K hK => ?_
              try simp only [Act.put, List.getElem_toArray, List.getElem_cons_succ, List.getElem_cons_zero, List.setIfInBounds_toArray, List.set_cons_zero, List.set_cons_succ]
              refine mo_alloc E0 24 rfl infoHash ?_
              intro b8 w_b8 E8_9
              simp only [arr_cells'] at E8_9
              refine hK _ _ E8_9.out.below ?_
              clear hK K
              try simp only [Act.put, List.getElem_toArray, List.getElem_cons_succ, List.getElem_cons_zero, List.setIfInBounds_toArray, List.set_cons_zero, List.set_cons_succ]
              refine hm_one (i := 8) (by kernel_rfl) ?_
              refine hm_step 8 rfl (by kernel_rfl) fun K hK => ?_
              try simp only [Act.put, List.getElem_toArray, List.getElem_cons_succ, List.getElem_cons_zero, List.setIfInBounds_toArray, List.set_cons_zero, List.set_cons_succ]
              refine mo_alloc E8_9 24 rfl infoHash ?_
              intro b7 w_b7 E9_8
              simp only [arr_cells'] at E9_8
              refine hK _ _ E9_8.out.below ?_
              clear hK K
              try simp only [Act.put, List.getElem_toArray, List.getElem_cons_succ, List.getElem_cons_zero, List.setIfInBounds_toArray, List.set_cons_zero, List.set_cons_succ]
              refine hm_one (i := 10) (by kernel_rfl) ?_
              refine hm_step 10 rfl (by kernel_rfl) fun K hK => ?_
              try simp only [Act.put, List.getElem_toArray, List.getElem_cons_succ, List.getElem_cons_zero, List.setIfInBounds_toArray, List.set_cons_zero, List.set_cons_succ]
              first
                | (refine mo_store_row 0 E9_8 24 (.tmp 7) (.tmp 30) rfl rfl rfl rfl (by kernel_rfl) (by simp only [arr_size]) (bv_one _ _) ?_)
                | (refine mo_store_row 1 E9_8 24 (.tmp 7) (.tmp 30) rfl rfl rfl rfl (by kernel_rfl) (by simp only [arr_size]) (bv_one _ _) ?_)
              intro w_s E10_10
              simp only [List.set_cons_zero, List.set_cons_succ] at E10_10
              refine hK _ _ E10_10.out.below ?_
              clear hK K
              try simp only [Act.put, List.getElem_toArray, List.getElem_cons_succ, List.getElem_cons_zero, List.setIfInBounds_toArray, List.set_cons_zero, List.set_cons_succ]
              refine hm_one (i := 11) (by kernel_rfl) ?_
              refine hm_step 11 rfl (by kernel_rfl) fun K hK => ?_
              try simp only [Act.put, List.getElem_toArray, List.getElem_cons_succ, List.getElem_cons_zero, List.setIfInBounds_toArray, List.set_cons_zero, List.set_cons_succ]
              first
                | (refine mo_store_row 0 E10_10 24 (.tmp 8) (.tmp 34) rfl rfl rfl rfl (by kernel_rfl) (by simp only [arr_size]) (bv_one _ _) ?_)
                | (refine mo_store_row 1 E10_10 24 (.tmp 8) (.tmp 34) rfl rfl rfl rfl (by kernel_rfl) (by simp only [arr_size]) (bv_one _ _) ?_)
              intro w_s E11_11
              simp only [List.set_cons_zero, List.set_cons_succ] at E11_11
              refine hK _ _ E11_11.out.below ?_
              clear hK K
              try simp only [Act.put, List.getElem_toArray, List.getElem_cons_succ, List.getElem_cons_zero, List.setIfInBounds_toArray, List.set_cons_zero, List.set_cons_succ]
              refine wpAnyH_done (by kernel_rfl) ?_ _
              go_wp2_with fail
              go_meet
              first
                | exact ⟨b7, b8, rfl, rfl, E11_11⟩
                | exact ⟨b7, b8, rfl, rfl, Lib.hid E11_11.out.swap⟩
          case rest =>
            obtain ⟨b7, b8, rfl, rfl, E⟩ := hcut
            by_cases hodd : 2 * j + 1 < n
            · have ho' : (((2 * j + 1 : Nat) : Nat) : Int) < (n : Int) := by omega
              have ho2 : (2 : Int) * (j : Int) + 1 < (n : Int) := by omega
              have eM : min (2 * j + 1) (n - 1) = 2 * j + 1 := by omega
              have TW := Lib.hid (tw_step h n j hodd)
              obtain ⟨acc, hacc⟩ : ∃ acc, acc = tw h (min j (n / 2)) := ⟨_, rfl⟩
              rw [← hacc] at TW
              simp only [← hacc]
              clear hacc
              go_upto_region 13 with (first
                | (refine wpList_ix (k := 32) (j := 2 * j + 1) Tryd.underlying40 (by kernel_rfl) (.tmp 40) (.tmp 42) rfl rfl rfl rfl (by omega) (by go_num) ?_)
                | (refine wpList_ld 24 (.tmp 43) rfl rfl rfl ((R1.out.below E.out.below).load (by omega)) ?_)
                | (refine mem_store_row 0 E 24 rfl (.tmp 8) (.tmp 44) rfl rfl rfl rfl (by kernel_rfl) (by simp only [arr_size]) (bv_one _ _) ?_; clear E; intro w6 E; simp only [List.set_cons_zero, List.set_cons_succ] at E))
              replace E : Hid (Mem wr [(b8, 24, arr 32 (bv (lf (h (min (2 * j + 1) (n - 1)))))), (b7, 24, arr 32 (bv (lf (h (2 * j)))))] w6) := by rw [eM]; exact E
              go_simp
              go_cut [5] (fun a wx => a = .bool (tw h (min (j + 1) (n / 2))) ∧ Hid (Mem wr [(b8, 24, arr 32 (bv (lf (h (min (2 * j + 1) (n - 1)))))), (b7, 24, arr 32 (bv (lf (h (2 * j)))))] wx))
              case first =>
                have EQ := eq_hash Tryd.underlying24 (R1.out.is (2 * j)) (R1.out.is (2 * j + 1))
                cases acc
                · go_wp2_with (first
                    | (refine mem_load_row E 24 rfl (.tmp 7) rfl rfl (List.mem_cons_of_mem _ List.mem_cons_self) Tryd.underlying24 rfl (by simp only [arr_size]; kernel_rfl) ?_)
                    | (refine mem_load_row E 24 rfl (.tmp 8) rfl rfl List.mem_cons_self Tryd.underlying24 rfl (by simp only [arr_size]; kernel_rfl) ?_))
                  go_meet
                  exact ⟨by rw [TW.out]; simp, E⟩
                · go_wp2
                  go_meet
                  exact ⟨by rw [TW.out]; simp, E⟩
              case rest =>
                obtain ⟨rfl, E⟩ := hcut
                clear TW
                go_upto_region 14 with fail
                refine wp_region_memS (S := fun _ => True) E (by kernel_rfl) ?_
                clear E
                intro wx E1
                refine hm_run 0 51 _ rfl rfl (by kernel_rfl) (by kernel_rfl) (by kernel_rfl) (fun _ _ _ h => h) rfl (fun _ _ => rfl) trivial ?_
                try simp only [Act.put, List.getElem_toArray, List.getElem_cons_succ, List.getElem_cons_zero, List.setIfInBounds_toArray, List.set_cons_zero, List.set_cons_succ]
                refine hm_run 2 53 (.slice (some ⟨b7, 0, none⟩) 32 32) rfl rfl (by kernel_rfl) (by kernel_rfl) (by kernel_rfl) (fun _ _ _ h => h) rfl (fun W _ => exec_sl rfl (run_hash b7 0 W)) trivial ?_
                try simp only [Act.put, List.getElem_toArray, List.getElem_cons_succ, List.getElem_cons_zero, List.setIfInBounds_toArray, List.set_cons_zero, List.set_cons_succ]
                refine hm_run 4 55 (.slice (some ⟨b8, 0, none⟩) 32 32) rfl rfl (by kernel_rfl) (by kernel_rfl) (by kernel_rfl) (fun _ _ _ h => h) rfl (fun W _ => exec_sl rfl (run_hash b8 0 W)) trivial ?_
                try simp only [Act.put, List.getElem_toArray, List.getElem_cons_succ, List.getElem_cons_zero, List.setIfInBounds_toArray, List.set_cons_zero, List.set_cons_succ]
                refine hm_one (i := 1) (by kernel_rfl) ?_
                refine hm_step 1 rfl (by kernel_rfl) fun K hK => ?_
                try simp only [Act.put, List.getElem_toArray, List.getElem_cons_succ, List.getElem_cons_zero, List.setIfInBounds_toArray, List.set_cons_zero, List.set_cons_succ]
                refine mo_bs0 rfl (Lib.hid E1.out) (by simp) ?_
                intro p_b g_b w_b E3_1
                refine hK _ _ trivial ?_
                clear hK K
                try simp only [Act.put, List.getElem_toArray, List.getElem_cons_succ, List.getElem_cons_zero, List.setIfInBounds_toArray, List.set_cons_zero, List.set_cons_succ]
                refine hm_one (i := 3) (by kernel_rfl) ?_
                refine hm_step 3 rfl (by kernel_rfl) fun K hK => ?_
                try simp only [Act.put, List.getElem_toArray, List.getElem_cons_succ, List.getElem_cons_zero, List.setIfInBounds_toArray, List.set_cons_zero, List.set_cons_succ]
                refine mo_wb (.tmp 52) (.tmp 53) rfl E3_1 rfl (by rfl) rfl (Lib.hid (row_hash (E3_1.out.mem.get (List.mem_cons_of_mem _ List.mem_cons_self)) (R1.out.is _))) (by simp) ?_
                intro p_a g_a c_a w_a zs1 Z1 E4_3
                refine hK _ _ trivial ?_
                clear hK K
                try simp only [Act.put, List.getElem_toArray, List.getElem_cons_succ, List.getElem_cons_zero, List.setIfInBounds_toArray, List.set_cons_zero, List.set_cons_succ]
                refine hm_one (i := 5) (by kernel_rfl) ?_
                refine hm_step 5 rfl (by kernel_rfl) fun K hK => ?_
                try simp only [Act.put, List.getElem_toArray, List.getElem_cons_succ, List.getElem_cons_zero, List.setIfInBounds_toArray, List.set_cons_zero, List.set_cons_succ]
                refine mo_wb (.tmp 54) (.tmp 55) rfl E4_3 rfl (by rfl) rfl (Lib.hid (row_hash (E4_3.out.mem.get List.mem_cons_self) (R1.out.is _))) (by rw [Z1.out]; simp [tl_length]) ?_
                intro p_a g_a c_a w_a zs2 Z2 E5_5
                refine hK _ _ trivial ?_
                clear hK K
                try simp only [Act.put, List.getElem_toArray, List.getElem_cons_succ, List.getElem_cons_zero, List.setIfInBounds_toArray, List.set_cons_zero, List.set_cons_succ]
                refine hm_one (i := 6) (by kernel_rfl) ?_
                refine hm_step 6 rfl (by kernel_rfl) fun K hK => ?_
                try simp only [Act.put, List.getElem_toArray, List.getElem_cons_succ, List.getElem_cons_zero, List.setIfInBounds_toArray, List.set_cons_zero, List.set_cons_succ]
                go_simp
                go_at_call 26
                have ZZ : zs2 = h (2 * j) ++ h (min (2 * j + 1) (n - 1)) := by rw [Z2.out, Z1.out, tl32 (R1.out.is _), tl32 (R1.out.is _)]; rfl
                have ZL : zs2.length = 64 := by rw [ZZ, List.length_append, (R1.out.is _).len, (R1.out.is _).len]
                refine (ref_double_l (Lib.hid E5_5.out.row) (by omega)).mono ?_
                rintro e w9 ⟨rfl, hb9⟩
                have E6_6 := Lib.hid (E5_5.out.call hb9)
                have ND : dbl zs2 = up h n j := by rw [ZZ]; rfl
                rw [ND]
                clear ND hb9 ZZ ZL Z1 Z2
                refine hK _ _ trivial ?_
                clear hK K
                try simp only [Act.put, List.getElem_toArray, List.getElem_cons_succ, List.getElem_cons_zero, List.setIfInBounds_toArray, List.set_cons_zero, List.set_cons_succ]
                refine hm_one (i := 7) (by kernel_rfl) ?_
                refine hm_step 7 rfl (by kernel_rfl) fun K hK => ?_
                try simp only [Act.put, List.getElem_toArray, List.getElem_cons_succ, List.getElem_cons_zero, List.setIfInBounds_toArray, List.set_cons_zero, List.set_cons_succ]
                refine mo_vbs 40 24 32 1 _ rfl (hv (fun _ => up h n j)) (fun i _ => rfl) (by unfold maxLen; omega) (ps := #[(0, .agg (arr 32 (bv (lf (up h n j)))))]) (by kernel_rfl) (fun W => run_bs1 Tryd.underlying40 infoHash3 (by omega) (by omega) _ (arr_size _ _) W) (one_hash _).symm ?_
                intro p10 g10 w10 N10 hb10
                have E7_7 := Lib.hid (E6_6.out.call hb10.out)
                clear hb10
                refine hK _ _ trivial ?_
                clear hK K
                try simp only [Act.put, List.getElem_toArray, List.getElem_cons_succ, List.getElem_cons_zero, List.setIfInBounds_toArray, List.set_cons_zero, List.set_cons_succ]
                refine hm_one (i := 8) (by kernel_rfl) ?_
                refine hm_step 8 rfl (by kernel_rfl) fun K hK => ?_
                try simp only [Act.put, List.getElem_toArray, List.getElem_cons_succ, List.getElem_cons_zero, List.setIfInBounds_toArray, List.set_cons_zero, List.set_cons_succ]
                refine mo_vapp 40 24 32 32 Tryd.underlying40 infoHash3 rfl (by omega) (.tmp 51) (.tmp 58) rfl rfl (Lib.hid (N.out.below E7_7.out.mem.below)) rfl (Lib.hid N10.out.row) (by unfold maxLen; omega) (by omega) ?_
                intro p11 g11 c11 w11 N11 hg11
                have B11 := Lib.hid ((N.out.below E7_7.out.mem.below).under hg11.out (Nat.le_refl _) (Nat.le_trans N.out.low E7_7.out.mem.below.size))
                have EM := Lib.hid ((EM1.out.call E7_7.out.mem.below).part B11.out HB.out.1 (fun q hq => by obtain rfl := List.mem_singleton.1 hq; exact HB.out.2))
                have E8_8 := E7_7
                clear B11 hg11 N10
                refine hK _ _ trivial ?_
                clear hK K
                try simp only [Act.put, List.getElem_toArray, List.getElem_cons_succ, List.getElem_cons_zero, List.setIfInBounds_toArray, List.set_cons_zero, List.set_cons_succ]
                refine hm_run 9 4 _ rfl rfl (by kernel_rfl) (by kernel_rfl) (by kernel_rfl) (fun _ _ _ h => h) rfl (fun _ _ => rfl) trivial ?_
                try simp only [Act.put, List.getElem_toArray, List.getElem_cons_succ, List.getElem_cons_zero, List.setIfInBounds_toArray, List.set_cons_zero, List.set_cons_succ]
                refine wpAnyH_done (by kernel_rfl) ?_ _
                go_wp2_with fail
                go_roundg ((n + 1) / 2 - (j + 1))
                case measure => omega
                case rel => exact ⟨j + 1, p11, g11, c11, by omega, by go_num, rfl, rfl, Lib.hid (N11.out.to (up_step h n j)), EM⟩
            · have ho' : ¬ ((((2 * j + 1 : Nat) : Nat) : Int) < (n : Int)) := by omega
              have ho2 : ¬ ((2 : Int) * (j : Int) + 1 < (n : Int)) := by omega
              have eM : min (2 * j + 1) (n - 1) = 2 * j := by omega
              have TW := Lib.hid (show tw h (min (j + 1) (n / 2)) = tw h (min j (n / 2)) by rw [show min (j + 1) (n / 2) = min j (n / 2) by omega])
              replace E : Hid (Mem wr [(b8, 24, arr 32 (bv (lf (h (min (2 * j + 1) (n - 1)))))), (b7, 24, arr 32 (bv (lf (h (2 * j)))))] wc) := by rw [eM]; exact E
              rw [← TW.out]
              clear TW
              go_upto_region 14 with fail
              refine wp_region_memS (S := fun _ => True) E (by kernel_rfl) ?_
              clear E
              intro wx E1
              refine hm_run 0 51 _ rfl rfl (by kernel_rfl) (by kernel_rfl) (by kernel_rfl) (fun _ _ _ h => h) rfl (fun _ _ => rfl) trivial ?_
              try simp only [Act.put, List.getElem_toArray, List.getElem_cons_succ, List.getElem_cons_zero, List.setIfInBounds_toArray, List.set_cons_zero, List.set_cons_succ]
              refine hm_run 2 53 (.slice (some ⟨b7, 0, none⟩) 32 32) rfl rfl (by kernel_rfl) (by kernel_rfl) (by kernel_rfl) (fun _ _ _ h => h) rfl (fun W _ => exec_sl rfl (run_hash b7 0 W)) trivial ?_
              try simp only [Act.put, List.getElem_toArray, List.getElem_cons_succ, List.getElem_cons_zero, List.setIfInBounds_toArray, List.set_cons_zero, List.set_cons_succ]
              refine hm_run 4 55 (.slice (some ⟨b8, 0, none⟩) 32 32) rfl rfl (by kernel_rfl) (by kernel_rfl) (by kernel_rfl) (fun _ _ _ h => h) rfl (fun W _ => exec_sl rfl (run_hash b8 0 W)) trivial ?_
              try simp only [Act.put, List.getElem_toArray, List.getElem_cons_succ, List.getElem_cons_zero, List.setIfInBounds_toArray, List.set_cons_zero, List.set_cons_succ]
              refine hm_one (i := 1) (by kernel_rfl) ?_
              refine hm_step 1 rfl (by kernel_rfl) fun K hK => ?_
              try simp only [Act.put, List.getElem_toArray, List.getElem_cons_succ, List.getElem_cons_zero, List.setIfInBounds_toArray, List.set_cons_zero, List.set_cons_succ]
              refine mo_bs0 rfl (Lib.hid E1.out) (by simp) ?_
              intro p_b g_b w_b E3_1
              refine hK _ _ trivial ?_
              clear hK K
              try simp only [Act.put, List.getElem_toArray, List.getElem_cons_succ, List.getElem_cons_zero, List.setIfInBounds_toArray, List.set_cons_zero, List.set_cons_succ]
              refine hm_one (i := 3) (by kernel_rfl) ?_
              refine hm_step 3 rfl (by kernel_rfl) fun K hK => ?_
              try simp only [Act.put, List.getElem_toArray, List.getElem_cons_succ, List.getElem_cons_zero, List.setIfInBounds_toArray, List.set_cons_zero, List.set_cons_succ]
              refine mo_wb (.tmp 52) (.tmp 53) rfl E3_1 rfl (by rfl) rfl (Lib.hid (row_hash (E3_1.out.mem.get (List.mem_cons_of_mem _ List.mem_cons_self)) (R1.out.is _))) (by simp) ?_
              intro p_a g_a c_a w_a zs1 Z1 E4_3
              refine hK _ _ trivial ?_
              clear hK K
              try simp only [Act.put, List.getElem_toArray, List.getElem_cons_succ, List.getElem_cons_zero, List.setIfInBounds_toArray, List.set_cons_zero, List.set_cons_succ]
              refine hm_one (i := 5) (by kernel_rfl) ?_
              refine hm_step 5 rfl (by kernel_rfl) fun K hK => ?_
              try simp only [Act.put, List.getElem_toArray, List.getElem_cons_succ, List.getElem_cons_zero, List.setIfInBounds_toArray, List.set_cons_zero, List.set_cons_succ]
              refine mo_wb (.tmp 54) (.tmp 55) rfl E4_3 rfl (by rfl) rfl (Lib.hid (row_hash (E4_3.out.mem.get List.mem_cons_self) (R1.out.is _))) (by rw [Z1.out]; simp [tl_length]) ?_
              intro p_a g_a c_a w_a zs2 Z2 E5_5
              refine hK _ _ trivial ?_
              clear hK K
              try simp only [Act.put, List.getElem_toArray, List.getElem_cons_succ, List.getElem_cons_zero, List.setIfInBounds_toArray, List.set_cons_zero, List.set_cons_succ]
              refine hm_one (i := 6) (by kernel_rfl) ?_
              refine hm_step 6 rfl (by kernel_rfl) fun K hK => ?_
              try simp only [Act.put, List.getElem_toArray, List.getElem_cons_succ, List.getElem_cons_zero, List.setIfInBounds_toArray, List.set_cons_zero, List.set_cons_succ]
              go_simp
              go_at_call 26
              have ZZ : zs2 = h (2 * j) ++ h (min (2 * j + 1) (n - 1)) := by rw [Z2.out, Z1.out, tl32 (R1.out.is _), tl32 (R1.out.is _)]; rfl
              have ZL : zs2.length = 64 := by rw [ZZ, List.length_append, (R1.out.is _).len, (R1.out.is _).len]
              refine (ref_double_l (Lib.hid E5_5.out.row) (by omega)).mono ?_
              rintro e w9 ⟨rfl, hb9⟩
              have E6_6 := Lib.hid (E5_5.out.call hb9)
              have ND : dbl zs2 = up h n j := by rw [ZZ]; rfl
              rw [ND]
              clear ND hb9 ZZ ZL Z1 Z2
              refine hK _ _ trivial ?_
              clear hK K
              try simp only [Act.put, List.getElem_toArray, List.getElem_cons_succ, List.getElem_cons_zero, List.setIfInBounds_toArray, List.set_cons_zero, List.set_cons_succ]
              refine hm_one (i := 7) (by kernel_rfl) ?_
              refine hm_step 7 rfl (by kernel_rfl) fun K hK => ?_
              try simp only [Act.put, List.getElem_toArray, List.getElem_cons_succ, List.getElem_cons_zero, List.setIfInBounds_toArray, List.set_cons_zero, List.set_cons_succ]
              refine mo_vbs 40 24 32 1 _ rfl (hv (fun _ => up h n j)) (fun i _ => rfl) (by unfold maxLen; omega) (ps := #[(0, .agg (arr 32 (bv (lf (up h n j)))))]) (by kernel_rfl) (fun W => run_bs1 Tryd.underlying40 infoHash3 (by omega) (by omega) _ (arr_size _ _) W) (one_hash _).symm ?_
              intro p10 g10 w10 N10 hb10
              have E7_7 := Lib.hid (E6_6.out.call hb10.out)
              clear hb10
              refine hK _ _ trivial ?_
              clear hK K
              try simp only [Act.put, List.getElem_toArray, List.getElem_cons_succ, List.getElem_cons_zero, List.setIfInBounds_toArray, List.set_cons_zero, List.set_cons_succ]
              refine hm_one (i := 8) (by kernel_rfl) ?_
              refine hm_step 8 rfl (by kernel_rfl) fun K hK => ?_
              try simp only [Act.put, List.getElem_toArray, List.getElem_cons_succ, List.getElem_cons_zero, List.setIfInBounds_toArray, List.set_cons_zero, List.set_cons_succ]
              refine mo_vapp 40 24 32 32 Tryd.underlying40 infoHash3 rfl (by omega) (.tmp 51) (.tmp 58) rfl rfl (Lib.hid (N.out.below E7_7.out.mem.below)) rfl (Lib.hid N10.out.row) (by unfold maxLen; omega) (by omega) ?_
              intro p11 g11 c11 w11 N11 hg11
              have B11 := Lib.hid ((N.out.below E7_7.out.mem.below).under hg11.out (Nat.le_refl _) (Nat.le_trans N.out.low E7_7.out.mem.below.size))
              have EM := Lib.hid ((EM1.out.call E7_7.out.mem.below).part B11.out HB.out.1 (fun q hq => by obtain rfl := List.mem_singleton.1 hq; exact HB.out.2))
              have E8_8 := E7_7
              clear B11 hg11 N10
              refine hK _ _ trivial ?_
              clear hK K
              try simp only [Act.put, List.getElem_toArray, List.getElem_cons_succ, List.getElem_cons_zero, List.setIfInBounds_toArray, List.set_cons_zero, List.set_cons_succ]
              refine hm_run 9 4 _ rfl rfl (by kernel_rfl) (by kernel_rfl) (by kernel_rfl) (fun _ _ _ h => h) rfl (fun _ _ => rfl) trivial ?_
              try simp only [Act.put, List.getElem_toArray, List.getElem_cons_succ, List.getElem_cons_zero, List.setIfInBounds_toArray, List.set_cons_zero, List.set_cons_succ]
              refine wpAnyH_done (by kernel_rfl) ?_ _
              go_wp2_with fail
              go_roundg ((n + 1) / 2 - (j + 1))
              case measure => omega
              case rel => exact ⟨j + 1, p11, g11, c11, by omega, by go_num, rfl, rfl, Lib.hid (N11.out.to (up_step h n j)), EM⟩
        · have hlt' : ¬ ((((2 * j : Nat) : Nat) : Int) < (n : Int)) := by omega
          obtain rfl : j = (n + 1) / 2 := by omega
          have RU := Lib.hid (HRow.of N.out.row (isH_up h n))
          rw [show min ((n + 1) / 2) (n / 2) = n / 2 by omega]
          clear N
          obtain ⟨acc, hacc⟩ : ∃ acc, acc = tw h (n / 2) := ⟨_, rfl⟩
          rw [← hacc] at MM ⊢
          clear hacc
          cases acc
          · go_wp2_with (first
              | (go_at_call 14; refine (IH.out _ _ _ _ _ _ _ RU (by omega) (by omega) (by omega)).mono ?_; rintro e w3 ⟨rfl, hb⟩; replace EM1 := Lib.hid (EM1.out.call hb); clear hb)
              | (refine mem_alloc EM1 24 rfl rfl infoHash ?_; clear EM1; intro b9 w4 EM1; simp only [arr_cells'] at EM1)
              | (refine mem_store_row 0 EM1 24 rfl (.tmp 9) (.tmp 63) rfl rfl rfl rfl (by kernel_rfl) (by simp only [arr_size]) (bv_one _ _) ?_; clear EM1; intro w5 EM1; simp only [List.set_cons_zero, List.set_cons_succ] at EM1)
              | (refine mem_load_row EM1 24 rfl (.tmp 9) rfl rfl List.mem_cons_self Tryd.underlying24 rfl (by simp only [arr_size]; kernel_rfl) ?_)
              | (refine mem_store_row 1 EM1 24 rfl (.tmp 2) (.tmp 65) rfl rfl rfl rfl (by kernel_rfl) (by simp only [arr_size]) (bv_one _ _) ?_; clear EM1; intro w6 EM1; simp only [List.set_cons_zero, List.set_cons_succ] at EM1))
            refine bodyPost_ret (res_row_tmp (fn := Tryd.f14) (p := 2) (u := 3) rfl _ _ b2 32 24 _ _ rfl (EM1.out.get (List.mem_cons_of_mem _ List.mem_cons_self)) Tryd.underlying24 rfl (by kernel_rfl)) rfl ⟨?_, EM1.out.below⟩
            rw [MM.out]
            simp
          · go_wp2_with (first
              | (go_at_call 14; refine (IH.out _ _ _ _ _ _ _ RU (by omega) (by omega) (by omega)).mono ?_; rintro e w3 ⟨rfl, hb⟩; replace EM1 := Lib.hid (EM1.out.call hb); clear hb)
              | (refine mem_alloc EM1 24 rfl rfl infoHash ?_; clear EM1; intro b9 w4 EM1; simp only [arr_cells'] at EM1)
              | (refine mem_store_row 0 EM1 24 rfl (.tmp 9) (.tmp 63) rfl rfl rfl rfl (by kernel_rfl) (by simp only [arr_size]) (bv_one _ _) ?_; clear EM1; intro w5 EM1; simp only [List.set_cons_zero, List.set_cons_succ] at EM1)
              | (refine mem_load_row EM1 24 rfl (.tmp 9) rfl rfl List.mem_cons_self Tryd.underlying24 rfl (by simp only [arr_size]; kernel_rfl) ?_)
              | (refine mem_store_row 1 EM1 24 rfl (.tmp 2) (.tmp 65) rfl rfl rfl rfl (by kernel_rfl) (by simp only [arr_size]) (bv_one _ _) ?_; clear EM1; intro w6 EM1; simp only [List.set_cons_zero, List.set_cons_succ] at EM1))
            refine bodyPost_ret (res_row_tmp (fn := Tryd.f14) (p := 2) (u := 3) rfl _ _ b2 32 24 _ _ rfl (EM1.out.get (List.mem_cons_of_mem _ List.mem_cons_self)) Tryd.underlying24 rfl (by kernel_rfl)) rfl ⟨?_, EM1.out.below⟩
            rw [MM.out]
            simp
    · obtain rfl : n = 1 := by omega
      have MM := Lib.hid (mroot_one h (n := 1) (by omega))
      obtain rfl := R.out.row.head (by omega)
      go_enter Tryd.func14, Tryd.ntmps14
      go_wp2_with (first
        | (refine mem_alloc E 24 rfl rfl infoHash ?_; clear E; intro b2 w2 E; simp only [arr_cells'] at E)
        | (refine wpList_ix (k := 32) (j := 0) Tryd.underlying40 (by kernel_rfl) (.tmp 18) (.const (.int .i64 0)) rfl rfl rfl rfl (by omega) rfl ?_)
        | (refine wpList_ld 24 (.tmp 19) rfl rfl rfl ((R.out.below E.out.below).load (by omega)) ?_)
        | (refine mem_store_row 0 E 24 rfl (.tmp 2) (.tmp 20) rfl rfl rfl rfl (by kernel_rfl) (by simp only [arr_size]) (bv_one _ _) ?_; clear E; intro w6 E; simp only [List.set_cons_zero, List.set_cons_succ] at E))
      refine bodyPost_ret (res_row_tmp (fn := Tryd.f14) (p := 2) (u := 3) rfl _ _ b2 32 24 _ _ rfl (E.out.get List.mem_cons_self) Tryd.underlying24 rfl (by kernel_rfl)) rfl ⟨?_, E.out.below⟩
      rw [MM.out]
      simp
end Go.Proofs.YtgicnmfodbenlaaDoor
