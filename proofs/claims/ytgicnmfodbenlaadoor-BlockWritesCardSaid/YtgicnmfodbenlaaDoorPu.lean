/- The hashes above some, pair by pair. -/
import Derived.Test.YtgicnmfodbenlaaDoorDl
import Derived.Test.YtgicnmfodbenlaaDoorCo
import Derived.Test.YtgicnmfodbenlaaDoorBs
set_option linter.unusedSimpArgs false
set_option linter.unusedVariables false
set_option maxRecDepth 100000
namespace Go.Proofs.YtgicnmfodbenlaaDoor
open Go.RowKit Go.Lib Go.Sort

theorem Mem.swap {w0 w : World} {x y : Nat × TypeId × Array Value} {l : List (Nat × TypeId × Array Value)} (E : Mem w0 (x :: y :: l) w) : Mem w0 (y :: x :: l) w := by
  refine ⟨E.below, fun p hp => E.has p ?_, ?_, fun p hp => E.ge p ?_⟩
  · simp only [List.mem_cons] at hp ⊢
    rcases hp with h | h | h
    · exact .inr (.inl h)
    · exact .inl h
    · exact .inr (.inr h)
  · have h := E.nd
    simp only [List.map_cons, List.nodup_cons, List.mem_cons] at h ⊢
    exact ⟨fun e => by rcases e with e | e; · exact h.1 (.inl e.symm)
                       · exact h.2.1 e, fun e => h.1 (.inr e), h.2.2⟩
  · simp only [List.mem_cons] at hp ⊢
    rcases hp with h | h | h
    · exact .inr (.inl h)
    · exact .inl h
    · exact .inr (.inr h)
/-- Two cells. -/
def two (a b : Value) : Nat → Value := fun i => if i = 0 then a else b
theorem two_one {a b : Value} (ha : a.oneCell' = true) (hb : b.oneCell' = true) : ∀ i, i < 2 * 1 → (two a b i).oneCell' = true := fun i _ => by
  unfold two
  split
  · exact ha
  · exact hb
/-- A hash that lies in a block of its own is a text. -/
theorem text_hash {w : World} {b T : Nat} {a : List Nat} (hh : w.heap[b]? = some (.cells (arr 32 (bv (lf a))) T (0, 0))) (ha : IsH a) : TextAt w (.slice (some ⟨b, 0, none⟩) 32 32) a := by
  refine ⟨some ⟨b, 0, none⟩, b, 0, 32, by rw [ha.len], by rw [ha.len]; omega, by rw [ha.len]; omega, by unfold maxLen; omega, fun e => (by cases e), fun _ => rfl, fun i hi => ?_, lf_lt ha.byte⟩
  rw [ha.len] at hi
  rw [Nat.zero_add]
  exact cell_of_here hh i (arr_get 32 _ i hi)
theorem texts_two {w w0 : World} {x y T B : Nat} {p : Option Addr} {g : Nat} {a b : List Nat} (E : Mem w0 [(y, T, arr 32 (bv (lf b))), (x, T, arr 32 (bv (lf a)))] w) (N : VOwn 31 1 B w p g 2 2 (two (.slice (some ⟨x, 0, none⟩) 32 32) (.slice (some ⟨y, 0, none⟩) 32 32))) (ha : IsH a) (hb : IsH b) :
    TextsAt w (.slice p 2 2) [a, b] := by
  refine ⟨p, g, 0, 2, _, rfl, by simp, N.row, fun i hi => ?_⟩
  have hi2 : i = 0 ∨ i = 1 := by simp at hi; omega
  rcases hi2 with rfl | rfl
  · exact text_hash (E.get (List.mem_cons_of_mem _ List.mem_cons_self)) ha
  · exact text_hash (E.get List.mem_cons_self) hb
theorem one_hash (a : List Nat) : vs (hv fun _ => a) (1 * 32) = (arr 32 (bv (lf a))).toList := by
  have := hv_elem (fun _ => a) 0
  rw [← this]
  unfold vs
  simp
theorem up_step (h : Nat → List Nat) (n j : Nat) (i : Nat) (hi : i < (j + 1) * 32) : vcat (hv (up h n)) (j * 32) (hv fun _ => up h n j) i = hv (up h n) i := by
  unfold vcat
  split
  · rfl
  · unfold hv
    rw [show i / 32 = j from by omega, show (i - j * 32) % 32 = i % 32 from by omega]

set_option maxHeartbeats 4000000 in
theorem pairup_any {w : World} {p : Option Addr} {g o n c : Nat} {h : Nat → List Nat} (R : Hid (HRow w p g o n c h)) (hn : n ≤ 1000000) (L : Hid (S.Both w)) : Calls Tryd.prog 49 #[.slice p n c] w fun e w' => ∃ p' g' c', e = .returned (.slice p' ((n + 1) / 2) c') ∧ VOwn 24 32 w.heap.size w' p' g' ((n + 1) / 2) c' (hv (up h n)) ∧ Below w.heap.size w w' := by
  have hq : ((n : Int) + 1).tdiv 2 = (((n + 1) / 2 : Nat) : Int) := by rw [show (n : Int) + 1 = ((n + 1 : Nat) : Int) by omega, Int.tdiv_eq_ediv_of_nonneg (by omega)]; omega
  go_enter Tryd.func49, Tryd.ntmps49
  go_wp2_with (at_make; refine wpList_vmk 40 24 32 32 Tryd.underlying40 infoHash3 rfl _ _ rfl ((n + 1) / 2) _ rfl rfl (by go_num) (by unfold maxLen; omega) (by omega) (hv (up h n)) ?_; intro p1 g1 w1 N1 B1)
  go_loopg [3, 4] ((n + 1) / 2) (fun k s i wr => ∃ (j : Nat) (p : Option Addr) (g c : Nat), j + k = (n + 1) / 2 ∧ i = .int .i64 (((2 * j : Nat) : Nat) : Int) ∧ s = .slice p j c ∧ Hid (VOwn 24 32 w.heap.size wr p g j c (hv (up h n))) ∧ Hid (Below w.heap.size w wr))
  case atStart => exact ⟨0, p1, g1, _, by omega, rfl, rfl, N1, B1⟩
  case round =>
    clear N1 B1
    obtain ⟨j, p2, g2, c2, hj, rfl, rfl, N, B⟩ := hrel
    obtain ⟨kk, rfl⟩ : ∃ kk : Nat, kk = gk := ⟨_, rfl⟩
    by_cases hlt : 2 * j < n
    · have hlt' : (((2 * j : Nat) : Nat) : Int) < (n : Int) := by omega
      obtain rfl := R.out.row.head (by omega)
      have R1 := Lib.hid (R.out.below B.out)
      have L1 := Lib.hid (L.out.below B.out)
      have E := Lib.hid (Mem.nil wr)
      go_upto_region 5 with fail
      go_cut [5, 6] (fun a b wx => ∃ b5 b6, a = .pointer (some ⟨b5, 0, none⟩) ∧ b = .pointer (some ⟨b6, 0, none⟩) ∧ Hid (Mem wr [(b6, 24, arr 32 (bv (lf (h (min (2 * j + 1) (n - 1)))))), (b5, 24, arr 32 (bv (lf (h (2 * j)))))] wx))
      case first =>
        refine wp_region_memS (S := fun W => Below wr.heap.size wr W) E (by kernel_rfl) ?_
        clear E
        intro wx E0
        refine hm_run 0 18 _ rfl rfl (by kernel_rfl) (by kernel_rfl) (by kernel_rfl) (fun _ _ _ h => h) rfl (fun _ _ => rfl) E0.out.below ?_
        try simp only [Act.put, List.getElem_toArray, List.getElem_cons_succ, List.getElem_cons_zero, List.setIfInBounds_toArray, List.set_cons_zero, List.set_cons_succ]
        refine hm_run 1 19 _ rfl rfl (by kernel_rfl) (by kernel_rfl) (by kernel_rfl) (fun _ _ _ h => h) rfl (fun _ _ => rfl) E0.out.below ?_
        try simp only [Act.put, List.getElem_toArray, List.getElem_cons_succ, List.getElem_cons_zero, List.setIfInBounds_toArray, List.set_cons_zero, List.set_cons_succ]
        refine hm_run 2 20 (.pointer (some ⟨g, o + 2 * j * 32, none⟩)) rfl rfl (by kernel_rfl) (by kernel_rfl) (by kernel_rfl) (fun _ _ _ h => h) rfl (fun W _ => exec_ix rfl (run_ix (k := 32) (j := 2 * j) Tryd.underlying40 (by kernel_rfl) (by omega) (by go_num) W)) E0.out.below ?_
        try simp only [Act.put, List.getElem_toArray, List.getElem_cons_succ, List.getElem_cons_zero, List.setIfInBounds_toArray, List.set_cons_zero, List.set_cons_succ]
        refine hm_run 3 21 (.agg (arr 32 (bv (lf (h (2 * j)))))) rfl rfl (by kernel_rfl) (by kernel_rfl) (by kernel_rfl) (fun _ _ _ h => h) rfl (fun W hW => exec_load rfl ((R1.out.below hW).load (by omega))) E0.out.below ?_
        try simp only [Act.put, List.getElem_toArray, List.getElem_cons_succ, List.getElem_cons_zero, List.setIfInBounds_toArray, List.set_cons_zero, List.set_cons_succ]
        refine hm_run 4 22 _ rfl rfl (by kernel_rfl) (by kernel_rfl) (by kernel_rfl) (fun _ _ _ h => h) rfl (fun _ _ => rfl) E0.out.below ?_
        try simp only [Act.put, List.getElem_toArray, List.getElem_cons_succ, List.getElem_cons_zero, List.setIfInBounds_toArray, List.set_cons_zero, List.set_cons_succ]
        refine hm_run 5 23 _ rfl rfl (by kernel_rfl) (by kernel_rfl) (by kernel_rfl) (fun _ _ _ h => h) rfl (fun _ _ => rfl) E0.out.below ?_
        try simp only [Act.put, List.getElem_toArray, List.getElem_cons_succ, List.getElem_cons_zero, List.setIfInBounds_toArray, List.set_cons_zero, List.set_cons_succ]
        refine hm_run 6 24 (.int .i64 ((2 * j + 1 : Nat) : Int)) rfl rfl (by kernel_rfl) (by kernel_rfl) (by kernel_rfl) (fun _ _ _ h => h) rfl (fun W _ => exec_add rfl rfl rfl (by rw [IntKind.wrap_i64]; omega)) E0.out.below ?_
        try simp only [Act.put, List.getElem_toArray, List.getElem_cons_succ, List.getElem_cons_zero, List.setIfInBounds_toArray, List.set_cons_zero, List.set_cons_succ]
        refine hm_run 7 25 _ rfl rfl (by kernel_rfl) (by kernel_rfl) (by kernel_rfl) (fun _ _ _ h => h) rfl (fun _ _ => rfl) E0.out.below ?_
        try simp only [Act.put, List.getElem_toArray, List.getElem_cons_succ, List.getElem_cons_zero, List.setIfInBounds_toArray, List.set_cons_zero, List.set_cons_succ]
        refine hm_run 8 26 (.int .i64 (n : Int)) rfl rfl (by kernel_rfl) (by kernel_rfl) (by kernel_rfl) (fun _ _ _ h => h) rfl (fun W _ => exec_len Tryd.underlying40 rfl rfl) E0.out.below ?_
        try simp only [Act.put, List.getElem_toArray, List.getElem_cons_succ, List.getElem_cons_zero, List.setIfInBounds_toArray, List.set_cons_zero, List.set_cons_succ]
        refine hm_run 9 27 (.int .i64 ((n - 1 : Nat) : Int)) rfl rfl (by kernel_rfl) (by kernel_rfl) (by kernel_rfl) (fun _ _ _ h => h) rfl (fun W _ => exec_sub rfl rfl rfl (by rw [IntKind.wrap_i64]; omega)) E0.out.below ?_
        try simp only [Act.put, List.getElem_toArray, List.getElem_cons_succ, List.getElem_cons_zero, List.setIfInBounds_toArray, List.set_cons_zero, List.set_cons_succ]
        refine hm_run 10 28 (.int .i64 ((min (2 * j + 1) (n - 1) : Nat) : Int)) rfl rfl (by kernel_rfl) (by kernel_rfl) (by kernel_rfl) (fun _ _ _ h => h) rfl (fun W _ => exec_min rfl rfl rfl rfl (by omega)) E0.out.below ?_
        try simp only [Act.put, List.getElem_toArray, List.getElem_cons_succ, List.getElem_cons_zero, List.setIfInBounds_toArray, List.set_cons_zero, List.set_cons_succ]
        refine hm_run 11 29 (.pointer (some ⟨g, o + min (2 * j + 1) (n - 1) * 32, none⟩)) rfl rfl (by kernel_rfl) (by kernel_rfl) (by kernel_rfl) (fun _ _ _ h => h) rfl (fun W _ => exec_ix rfl (run_ix (k := 32) (j := min (2 * j + 1) (n - 1)) Tryd.underlying40 (by kernel_rfl) (by omega) rfl W)) E0.out.below ?_
        try simp only [Act.put, List.getElem_toArray, List.getElem_cons_succ, List.getElem_cons_zero, List.setIfInBounds_toArray, List.set_cons_zero, List.set_cons_succ]
        refine hm_run 12 30 (.agg (arr 32 (bv (lf (h (min (2 * j + 1) (n - 1))))))) rfl rfl (by kernel_rfl) (by kernel_rfl) (by kernel_rfl) (fun _ _ _ h => h) rfl (fun W hW => exec_load rfl ((R1.out.below hW).load (by omega))) E0.out.below ?_
        try simp only [Act.put, List.getElem_toArray, List.getElem_cons_succ, List.getElem_cons_zero, List.setIfInBounds_toArray, List.set_cons_zero, List.set_cons_succ]
        refine hm_two (i := 13) (j := 14) (by kernel_rfl) ?_ ?_
        · refine hm_step 13 rfl (by kernel_rfl) fun K hK => ?_
          try simp only [Act.put, List.getElem_toArray, List.getElem_cons_succ, List.getElem_cons_zero, List.setIfInBounds_toArray, List.set_cons_zero, List.set_cons_succ]
          refine mo_alloc E0 24 rfl infoHash ?_
          intro b5 w_b5 E13_13
          simp only [arr_cells'] at E13_13
          refine hK _ _ E13_13.out.below ?_
          clear hK K
          try simp only [Act.put, List.getElem_toArray, List.getElem_cons_succ, List.getElem_cons_zero, List.setIfInBounds_toArray, List.set_cons_zero, List.set_cons_succ]
          refine hm_one (i := 14) (by kernel_rfl) ?_
          refine hm_step 14 rfl (by kernel_rfl) fun K hK => ?_
          try simp only [Act.put, List.getElem_toArray, List.getElem_cons_succ, List.getElem_cons_zero, List.setIfInBounds_toArray, List.set_cons_zero, List.set_cons_succ]
          refine mo_alloc E13_13 24 rfl infoHash ?_
          intro b6 w_b6 E14_14
          simp only [arr_cells'] at E14_14
          refine hK _ _ E14_14.out.below ?_
          clear hK K
          try simp only [Act.put, List.getElem_toArray, List.getElem_cons_succ, List.getElem_cons_zero, List.setIfInBounds_toArray, List.set_cons_zero, List.set_cons_succ]
          refine hm_one (i := 15) (by kernel_rfl) ?_
          refine hm_step 15 rfl (by kernel_rfl) fun K hK => ?_
          try simp only [Act.put, List.getElem_toArray, List.getElem_cons_succ, List.getElem_cons_zero, List.setIfInBounds_toArray, List.set_cons_zero, List.set_cons_succ]
          first
            | (refine mo_store_row 0 E14_14 24 (.tmp 5) (.tmp 21) rfl rfl rfl rfl (by kernel_rfl) (by simp only [arr_size]) (bv_one _ _) ?_)
            | (refine mo_store_row 1 E14_14 24 (.tmp 5) (.tmp 21) rfl rfl rfl rfl (by kernel_rfl) (by simp only [arr_size]) (bv_one _ _) ?_)
          intro w_s E15_15
          simp only [List.set_cons_zero, List.set_cons_succ] at E15_15
          refine hK _ _ E15_15.out.below ?_
          clear hK K
          try simp only [Act.put, List.getElem_toArray, List.getElem_cons_succ, List.getElem_cons_zero, List.setIfInBounds_toArray, List.set_cons_zero, List.set_cons_succ]
          refine hm_one (i := 16) (by kernel_rfl) ?_
          refine hm_step 16 rfl (by kernel_rfl) fun K hK => ?_
          try simp only [Act.put, List.getElem_toArray, List.getElem_cons_succ, List.getElem_cons_zero, List.setIfInBounds_toArray, List.set_cons_zero, List.set_cons_succ]
          first
            | (refine mo_store_row 0 E15_15 24 (.tmp 6) (.tmp 30) rfl rfl rfl rfl (by kernel_rfl) (by simp only [arr_size]) (bv_one _ _) ?_)
            | (refine mo_store_row 1 E15_15 24 (.tmp 6) (.tmp 30) rfl rfl rfl rfl (by kernel_rfl) (by simp only [arr_size]) (bv_one _ _) ?_)
          intro w_s E16_16
          simp only [List.set_cons_zero, List.set_cons_succ] at E16_16
          refine hK _ _ E16_16.out.below ?_
          clear hK K
          try simp only [Act.put, List.getElem_toArray, List.getElem_cons_succ, List.getElem_cons_zero, List.setIfInBounds_toArray, List.set_cons_zero, List.set_cons_succ]
          refine wpAnyH_done (by kernel_rfl) ?_ _
          go_wp2_with fail
          go_meet
          first
            | exact ⟨b5, b6, rfl, rfl, E16_16⟩
            | exact ⟨b5, b6, rfl, rfl, Lib.hid E16_16.out.swap⟩
        · refine hm_step 14 rfl (by kernel_rfl) fun K hK => ?_
          try simp only [Act.put, List.getElem_toArray, List.getElem_cons_succ, List.getElem_cons_zero, List.setIfInBounds_toArray, List.set_cons_zero, List.set_cons_succ]
          refine mo_alloc E0 24 rfl infoHash ?_
          intro b6 w_b6 E13_14
          simp only [arr_cells'] at E13_14
          refine hK _ _ E13_14.out.below ?_
          clear hK K
          try simp only [Act.put, List.getElem_toArray, List.getElem_cons_succ, List.getElem_cons_zero, List.setIfInBounds_toArray, List.set_cons_zero, List.set_cons_succ]
          refine hm_one (i := 13) (by kernel_rfl) ?_
          refine hm_step 13 rfl (by kernel_rfl) fun K hK => ?_
          try simp only [Act.put, List.getElem_toArray, List.getElem_cons_succ, List.getElem_cons_zero, List.setIfInBounds_toArray, List.set_cons_zero, List.set_cons_succ]
          refine mo_alloc E13_14 24 rfl infoHash ?_
          intro b5 w_b5 E14_13
          simp only [arr_cells'] at E14_13
          refine hK _ _ E14_13.out.below ?_
          clear hK K
          try simp only [Act.put, List.getElem_toArray, List.getElem_cons_succ, List.getElem_cons_zero, List.setIfInBounds_toArray, List.set_cons_zero, List.set_cons_succ]
          refine hm_one (i := 15) (by kernel_rfl) ?_
          refine hm_step 15 rfl (by kernel_rfl) fun K hK => ?_
          try simp only [Act.put, List.getElem_toArray, List.getElem_cons_succ, List.getElem_cons_zero, List.setIfInBounds_toArray, List.set_cons_zero, List.set_cons_succ]
          first
            | (refine mo_store_row 0 E14_13 24 (.tmp 5) (.tmp 21) rfl rfl rfl rfl (by kernel_rfl) (by simp only [arr_size]) (bv_one _ _) ?_)
            | (refine mo_store_row 1 E14_13 24 (.tmp 5) (.tmp 21) rfl rfl rfl rfl (by kernel_rfl) (by simp only [arr_size]) (bv_one _ _) ?_)
          intro w_s E15_15
          simp only [List.set_cons_zero, List.set_cons_succ] at E15_15
          refine hK _ _ E15_15.out.below ?_
          clear hK K
          try simp only [Act.put, List.getElem_toArray, List.getElem_cons_succ, List.getElem_cons_zero, List.setIfInBounds_toArray, List.set_cons_zero, List.set_cons_succ]
          refine hm_one (i := 16) (by kernel_rfl) ?_
          refine hm_step 16 rfl (by kernel_rfl) fun K hK => ?_
          try simp only [Act.put, List.getElem_toArray, List.getElem_cons_succ, List.getElem_cons_zero, List.setIfInBounds_toArray, List.set_cons_zero, List.set_cons_succ]
          first
            | (refine mo_store_row 0 E15_15 24 (.tmp 6) (.tmp 30) rfl rfl rfl rfl (by kernel_rfl) (by simp only [arr_size]) (bv_one _ _) ?_)
            | (refine mo_store_row 1 E15_15 24 (.tmp 6) (.tmp 30) rfl rfl rfl rfl (by kernel_rfl) (by simp only [arr_size]) (bv_one _ _) ?_)
          intro w_s E16_16
          simp only [List.set_cons_zero, List.set_cons_succ] at E16_16
          refine hK _ _ E16_16.out.below ?_
          clear hK K
          try simp only [Act.put, List.getElem_toArray, List.getElem_cons_succ, List.getElem_cons_zero, List.setIfInBounds_toArray, List.set_cons_zero, List.set_cons_succ]
          refine wpAnyH_done (by kernel_rfl) ?_ _
          go_wp2_with fail
          go_meet
          first
            | exact ⟨b5, b6, rfl, rfl, E16_16⟩
            | exact ⟨b5, b6, rfl, rfl, Lib.hid E16_16.out.swap⟩
      case rest =>
        obtain ⟨b5, b6, rfl, rfl, E⟩ := hcut
        go_upto_region 6 with fail
        refine wp_region_memS (S := fun _ => True) E (by kernel_rfl) ?_
        clear E
        intro wx E1
        refine hm_run 0 31 _ rfl rfl (by kernel_rfl) (by kernel_rfl) (by kernel_rfl) (fun _ _ _ h => h) rfl (fun _ _ => rfl) trivial ?_
        try simp only [Act.put, List.getElem_toArray, List.getElem_cons_succ, List.getElem_cons_zero, List.setIfInBounds_toArray, List.set_cons_zero, List.set_cons_succ]
        refine hm_run 1 32 (.slice (some ⟨b5, 0, none⟩) 32 32) rfl rfl (by kernel_rfl) (by kernel_rfl) (by kernel_rfl) (fun _ _ _ h => h) rfl (fun W _ => exec_sl rfl (run_hash b5 0 W)) trivial ?_
        try simp only [Act.put, List.getElem_toArray, List.getElem_cons_succ, List.getElem_cons_zero, List.setIfInBounds_toArray, List.set_cons_zero, List.set_cons_succ]
        refine hm_run 2 33 (.slice (some ⟨b6, 0, none⟩) 32 32) rfl rfl (by kernel_rfl) (by kernel_rfl) (by kernel_rfl) (fun _ _ _ h => h) rfl (fun W _ => exec_sl rfl (run_hash b6 0 W)) trivial ?_
        try simp only [Act.put, List.getElem_toArray, List.getElem_cons_succ, List.getElem_cons_zero, List.setIfInBounds_toArray, List.set_cons_zero, List.set_cons_succ]
        refine hm_one (i := 3) (by kernel_rfl) ?_
        refine hm_step 3 rfl (by kernel_rfl) fun K hK => ?_
        try simp only [Act.put, List.getElem_toArray, List.getElem_cons_succ, List.getElem_cons_zero, List.setIfInBounds_toArray, List.set_cons_zero, List.set_cons_succ]
        refine mo_vbs 62 31 1 2 _ rfl (two (.slice (some ⟨b5, 0, none⟩) 32 32) (.slice (some ⟨b6, 0, none⟩) 32 32)) (two_one rfl rfl) (by unfold maxLen; omega) (ps := #[(0, .slice (some ⟨b5, 0, none⟩) 32 32), (1, .slice (some ⟨b6, 0, none⟩) 32 32)]) (by kernel_rfl) (fun W => run_bs2v Tryd.underlying62 infoText3 _ _ rfl rfl W) rfl ?_
        intro p7 g7 w7 N7 hb7
        have E3_3 := Lib.hid (E1.out.call hb7.out)
        have TT := Lib.hid (texts_two E3_3.out N7.out (R1.out.is _) (R1.out.is _))
        clear N7 hb7
        refine hK _ _ trivial ?_
        clear hK K
        try simp only [Act.put, List.getElem_toArray, List.getElem_cons_succ, List.getElem_cons_zero, List.setIfInBounds_toArray, List.set_cons_zero, List.set_cons_succ]
        refine hm_one (i := 4) (by kernel_rfl) ?_
        refine hm_step 4 rfl (by kernel_rfl) fun K hK => ?_
        try simp only [Act.put, List.getElem_toArray, List.getElem_cons_succ, List.getElem_cons_zero, List.setIfInBounds_toArray, List.set_cons_zero, List.set_cons_succ]
        go_simp
        go_at_call 66
        refine (concat_any TT (by simp [sm, (R1.out.is (2 * j)).len, (R1.out.is (min (2 * j + 1) (n - 1))).len])).mono ?_
        rintro e w8 ⟨p8, g8, c8, rfl, N8, hb8⟩
        have E4_4 := Lib.hid (E3_3.out.call hb8)
        obtain ⟨xs, hxs⟩ : ∃ xs, xs = [h (2 * j), h (min (2 * j + 1) (n - 1))].flatten := ⟨_, rfl⟩
        rw [← hxs] at N8
        rw [← hxs]
        have R8 := Lib.hid N8.row
        have XS := Lib.hid hxs
        clear N8 hb8 TT hxs
        refine hK _ _ trivial ?_
        clear hK K
        try simp only [Act.put, List.getElem_toArray, List.getElem_cons_succ, List.getElem_cons_zero, List.setIfInBounds_toArray, List.set_cons_zero, List.set_cons_succ]
        refine hm_one (i := 5) (by kernel_rfl) ?_
        refine hm_step 5 rfl (by kernel_rfl) fun K hK => ?_
        try simp only [Act.put, List.getElem_toArray, List.getElem_cons_succ, List.getElem_cons_zero, List.setIfInBounds_toArray, List.set_cons_zero, List.set_cons_succ]
        go_simp
        go_at_call 24
        refine (double_l R8 (by rw [XS.out]; simp [(R1.out.is (2 * j)).len, (R1.out.is (min (2 * j + 1) (n - 1))).len]) (Lib.hid ((L1.out.below E4_4.out.below)))).mono ?_
        rintro e w9 ⟨rfl, hb9⟩
        have E5_5 := Lib.hid (E4_4.out.call hb9)
        have ND : dbl xs = up h n j := by rw [XS.out]; unfold up node; simp
        rw [ND]
        clear ND R8 hb9 XS
        refine hK _ _ trivial ?_
        clear hK K
        try simp only [Act.put, List.getElem_toArray, List.getElem_cons_succ, List.getElem_cons_zero, List.setIfInBounds_toArray, List.set_cons_zero, List.set_cons_succ]
        refine hm_one (i := 6) (by kernel_rfl) ?_
        refine hm_step 6 rfl (by kernel_rfl) fun K hK => ?_
        try simp only [Act.put, List.getElem_toArray, List.getElem_cons_succ, List.getElem_cons_zero, List.setIfInBounds_toArray, List.set_cons_zero, List.set_cons_succ]
        refine mo_vbs 40 24 32 1 _ rfl (hv (fun _ => up h n j)) (fun i _ => rfl) (by unfold maxLen; omega) (ps := #[(0, .agg (arr 32 (bv (lf (up h n j)))))]) (by kernel_rfl) (fun W => run_bs1 Tryd.underlying40 infoHash3 (by omega) (by omega) _ (arr_size _ _) W) (one_hash _).symm ?_
        intro p10 g10 w10 N10 hb10
        have E6_6 := Lib.hid (E5_5.out.call hb10.out)
        clear hb10
        refine hK _ _ trivial ?_
        clear hK K
        try simp only [Act.put, List.getElem_toArray, List.getElem_cons_succ, List.getElem_cons_zero, List.setIfInBounds_toArray, List.set_cons_zero, List.set_cons_succ]
        refine hm_one (i := 7) (by kernel_rfl) ?_
        refine hm_step 7 rfl (by kernel_rfl) fun K hK => ?_
        try simp only [Act.put, List.getElem_toArray, List.getElem_cons_succ, List.getElem_cons_zero, List.setIfInBounds_toArray, List.set_cons_zero, List.set_cons_succ]
        refine mo_vapp 40 24 32 32 Tryd.underlying40 infoHash3 rfl (by omega) (.tmp 31) (.tmp 37) rfl rfl (Lib.hid (N.out.below E6_6.out.below)) rfl (Lib.hid N10.out.row) (by unfold maxLen; omega) (by omega) ?_
        intro p11 g11 c11 w11 N11 hg11
        have B11 := Lib.hid ((N.out.below E6_6.out.below).under hg11.out (Nat.le_refl _) (Nat.le_trans N.out.low E6_6.out.below.size))
        have BB := Lib.hid ((B.out.trans (E6_6.out.below.mono B.out.size)).trans B11.out)
        have E7_7 := E6_6
        clear B11 hg11 N10
        refine hK _ _ trivial ?_
        clear hK K
        try simp only [Act.put, List.getElem_toArray, List.getElem_cons_succ, List.getElem_cons_zero, List.setIfInBounds_toArray, List.set_cons_zero, List.set_cons_succ]
        refine hm_run 8 3 _ rfl rfl (by kernel_rfl) (by kernel_rfl) (by kernel_rfl) (fun _ _ _ h => h) rfl (fun _ _ => rfl) trivial ?_
        try simp only [Act.put, List.getElem_toArray, List.getElem_cons_succ, List.getElem_cons_zero, List.setIfInBounds_toArray, List.set_cons_zero, List.set_cons_succ]
        refine wpAnyH_done (by kernel_rfl) ?_ _
        go_wp2_with fail
        go_roundg ((n + 1) / 2 - (j + 1))
        case measure => omega
        case rel => exact ⟨j + 1, p11, g11, c11, by omega, by go_num, rfl, Lib.hid (N11.out.to (up_step h n j)), BB⟩
    · have hlt' : ¬ ((((2 * j : Nat) : Nat) : Int) < (n : Int)) := by omega
      obtain rfl : j = (n + 1) / 2 := by omega
      go_wp2
      go_ret
      exact ⟨p2, g2, c2, rfl, N.out, B.out⟩
end Go.Proofs.YtgicnmfodbenlaaDoor
