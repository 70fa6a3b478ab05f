/- Whether headers make a way: the program's, the document's. -/
import Derived.Test.YtoopcmcmjaikhaaDoorHl
import Derived.Deep.LoopGhost
set_option linter.unusedSimpArgs false
set_option linter.unusedVariables false
set_option maxRecDepth 100000
namespace Go.Proofs.YtoopcmcmjaikhaaDoor
open Go.ChangeShapes Go.WideShapes Go.RowKit Go.Lib

theorem wpList_nd {P : Program} {ops : Array Oper} {rest : List Oper} {Q : Exit → Act → World → Prop} {op : Oper} {a : Act} {w : World} (hd : op.dst = none) (h : wpList P ops Q (op :: rest) a w) : wpList P ops Q (op :: rest) a w := h
theorem bad_snoc {f : Nat → Nat} {l : List Hd} {j : Nat} (h : ∀ i, i < j → badN f l i = false) (hj : badN f l j = false) : ∀ i, i < j + 1 → badN f l i = false := fun i hi => by
  rcases Nat.lt_or_ge i j with q | q
  · exact h i q
  · obtain rfl : i = j := by omega
    exact hj
set_option maxHeartbeats 16000000 in
theorem leads_any {w : World} {f : Nat → Nat} {v : Value} {l : List Hd} (A : Hid (HdsAt w v l)) (LB : Hid (S.Both w)) : Calls Tryd.prog 10 #[.agg (arr 32 (bv f)), v] w fun e w' => e = .returned (.bool (leadsN f l)) ∧ Below w.heap.size w w' := by
  have E := Lib.hid (Mem.nil w)
  obtain ⟨p, g, o, c, V, hv, hc', R0, hi⟩ := A.out
  subst hv
  have RR := Lib.hid R0
  have TT := Lib.hid hi
  obtain ⟨z0, hz0, hzi⟩ := infoHz
  have ZI := Lib.hid hzi
  have ZS := Lib.hid hz0
  obtain ⟨r, hr⟩ : ∃ r, r = leadsN f l := ⟨_, rfl⟩
  have YES := Lib.hid (show ∀ i, i < l.length → badN f l i = true → r = false from fun i hi h => by rw [hr]; exact leads_bad hi h)
  have ALL := Lib.hid (show (∀ i, i < l.length → badN f l i = false) → r = true from fun h => by rw [hr]; exact leads_all h)
  have cn : l.length ≤ c := R0.le
  obtain ⟨n, hn⟩ : ∃ n, n = l.length := ⟨_, rfl⟩
  have HN := Lib.hid (show n = l.length ∧ n ≤ 140737488355328 from ⟨hn, by omega⟩)
  rw [← hn] at RR ⊢
  rw [← hr]
  clear R0 hi A hzi hz0 cn hn hc' hr
  go_enter Tryd.func10, Tryd.ntmps10
  go_wp2_with ((with_reducible refine wpList_at 2 rfl ?_); refine mem_box E 23 rfl _ rfl rfl (arr_cells' 32 (bv f)) ?_; clear E; intro b2 w2 E)
  go_loopg [9] n (fun k s9 wr => ∃ (j : Nat), j + k = n ∧ s9 = .int .i64 (j : Int) ∧ Hid (∀ i, i < j → badN f l i = false) ∧ Hid (Mem w [(b2, 23, arr 32 (bv f))] wr))
  case atStart => exact ⟨0, by omega, rfl, Lib.hid (fun i h => absurd h (by omega)), E⟩
  case round =>
    clear E
    obtain ⟨j, hj, rfl, BN, E⟩ := hrel
    obtain ⟨kk, rfl⟩ : ∃ kk : Nat, kk = gk := ⟨_, rfl⟩
    by_cases hlt : j < n
    · have LT := Lib.hid (show decide ((j : Int) < (n : Int)) = true from decide_eq_true (by omega))
      obtain rfl := RR.out.head (by omega)
      have ht : j < l.length := by rw [← HN.out.1]; exact hlt
      obtain ⟨h, hh⟩ : ∃ h, h = l[j] := ⟨_, rfl⟩
      have CC := TT.out j ht
      rw [← hh] at CC
      have LD := Lib.hid (show ∀ W, Below w.heap.size w W → (Instr.loadAt 28 (.pointer (some ⟨g, o + j * 68, none⟩))).run Tryd.prog W = .ok (.agg (arr 68 (hc h))) W from fun W hb => by
        have := (RR.out.below hb).load hlt Tryd.underlying28 rfl (by kernel_rfl)
        rwa [arr_congr CC.1] at this)
      have OK := Lib.hid CC.2
      have e0 : l.getD j h0 = h := by rw [List.getD_eq_getElem?_getD, List.getElem?_eq_getElem ht, hh]; rfl
      have MJ := Lib.hid (And.intro hj hlt)
      have JL := Lib.hid ht
      by_cases j0 : j = 0
      · have EQ0 := Lib.hid (show decide ((j : Int) = 0) = true from decide_eq_true (by omega))
        have GT0 := Lib.hid (show decide ((0 : Int) < (j : Int)) = false from decide_eq_false (by omega))
        obtain ⟨r1, hr1⟩ : ∃ r1, r1 = eqN (idF h) f := ⟨_, rfl⟩
        have EQ := Lib.hid (show ∀ W, (Op.equalIn 10000 23 (.agg (arr 32 (bv (idF h)))) (.agg (arr 32 (bv f)))).run Tryd.prog W = .ok r1 W from fun W => by rw [hr1]; exact eq_bytes (T := 23) (N := 32) Tryd.underlying23 (idF h) f W)
        have BD := Lib.hid (show badN f l j = !r1 by
          unfold badN
          rw [if_pos j0, hr1]
          rw [j0] at e0
          rw [e0])
        clear hh CC e0 ht j0 hr1 hj
        go_upto_region 4 with (first | ((with_reducible refine wpList_at 10 rfl ?_); refine wpList_kn rfl (.bool true) (by exact exec_lss3 rfl rfl rfl LT.out) ?_) | ((with_reducible refine wpList_at 12 rfl ?_); refine wpList_ix (k := 68) (j := j) Tryd.underlying24 (by kernel_rfl) (.tmp 7) (.tmp 9) rfl rfl rfl rfl hlt rfl ?_) | ((with_reducible refine wpList_at 13 rfl ?_); refine wpList_ld 28 (.tmp 12) rfl rfl rfl (LD.out _ E.out.below) ?_) | ((with_reducible refine wpList_at 6 rfl ?_); refine mem_alloc E 28 rfl rfl ZI.out ?_; clear E; intro b6 w6 E) | ((with_reducible refine wpList_nd rfl ?_); refine mem_store_row 0 E 28 rfl (.tmp 6) (.tmp 13) rfl rfl rfl rfl (by rw [arr_size]; kernel_rfl) (by rw [arr_size]; exact ZS.out) (hc_one h) ?_; clear E; intro w7 E; simp only [List.set_cons_zero] at E))
        refine wp_region_T (Φ := fun X => Mem w [(b6, 28, arr 68 (hc h)), (b2, 23, arr 32 (bv f))] X) (S := fun X => Mem w [(b6, 28, arr 68 (hc h)), (b2, 23, arr 32 (bv f))] X) E (fun X h => h.drew) (fun X h => h) (by kernel_rfl) ?_
        clear E
        intro wx TT S0
        clear TT
        refine hm_run 0 15 (.int .i64 (j : Int)) rfl rfl (by kernel_rfl) (by kernel_rfl) (by kernel_rfl) (fun _ _ _ h => h) rfl (fun _ _ => rfl) S0.out ?_
        try simp only [Act.put, List.getElem_toArray, List.getElem_cons_succ, List.getElem_cons_zero, List.setIfInBounds_toArray, List.set_cons_zero, List.set_cons_succ]
        refine hm_run 1 16 (.bool true) rfl rfl (by kernel_rfl) (by kernel_rfl) (by kernel_rfl) (fun _ _ _ h => h) rfl (fun _ _ => exec_eql3 rfl rfl rfl EQ0.out) S0.out ?_
        try simp only [Act.put, List.getElem_toArray, List.getElem_cons_succ, List.getElem_cons_zero, List.setIfInBounds_toArray, List.set_cons_zero, List.set_cons_succ]
        refine hm_run 2 17 (.bool true) rfl rfl (by kernel_rfl) (by kernel_rfl) (by kernel_rfl) (fun _ _ _ h => h) rfl (fun _ _ => rfl) S0.out ?_
        try simp only [Act.put, List.getElem_toArray, List.getElem_cons_succ, List.getElem_cons_zero, List.setIfInBounds_toArray, List.set_cons_zero, List.set_cons_succ]
        refine hm_load_row 3 18 28 (.tmp 6) rfl rfl (by kernel_rfl) (by kernel_rfl) (by kernel_rfl) (fun _ _ _ h => h) rfl rfl rfl (fun X hX => hX.get List.mem_cons_self) Tryd.underlying28 rfl (by rw [arr_size]; kernel_rfl) S0.out ?_
        try simp only [Act.put, List.getElem_toArray, List.getElem_cons_succ, List.getElem_cons_zero, List.setIfInBounds_toArray, List.set_cons_zero, List.set_cons_succ]
        refine hm_load_row 5 20 23 (.tmp 2) rfl rfl (by kernel_rfl) (by kernel_rfl) (by kernel_rfl) (fun _ _ _ h => h) rfl rfl rfl (fun X hX => hX.get (List.mem_cons_of_mem _ List.mem_cons_self)) Tryd.underlying23 rfl (by rw [arr_size]; kernel_rfl) S0.out ?_
        try simp only [Act.put, List.getElem_toArray, List.getElem_cons_succ, List.getElem_cons_zero, List.setIfInBounds_toArray, List.set_cons_zero, List.set_cons_succ]
        refine hm_one (i := 4) (by kernel_rfl) ?_
        refine hm_step 4 rfl (by kernel_rfl) fun K hK => ?_
        try simp only [Act.put, List.getElem_toArray, List.getElem_cons_succ, List.getElem_cons_zero, List.setIfInBounds_toArray, List.set_cons_zero, List.set_cons_succ]
        go_simp
        go_at_call 31
        refine (idb_any OK (Lib.hid (LB.out.below S0.out.below))).mono ?_
        rintro e w8 ⟨rfl, hb⟩
        have S4_5 := Lib.hid (S0.out.call hb)
        clear hb
        refine hK _ _ S4_5.out ?_
        clear hK K
        try simp only [Act.put, List.getElem_toArray, List.getElem_cons_succ, List.getElem_cons_zero, List.setIfInBounds_toArray, List.set_cons_zero, List.set_cons_succ]
        refine hm_run 6 21 (.bool (!r1)) rfl rfl (by kernel_rfl) (by kernel_rfl) (by kernel_rfl) (fun _ _ _ h => h) rfl (fun W _ => exec_neqA rfl rfl rfl (by kernel_rfl) (EQ.out W)) S4_5.out ?_
        try simp only [Act.put, List.getElem_toArray, List.getElem_cons_succ, List.getElem_cons_zero, List.setIfInBounds_toArray, List.set_cons_zero, List.set_cons_succ]
        refine hm_run 7 22 (.bool (!r1)) rfl rfl (by kernel_rfl) (by kernel_rfl) (by kernel_rfl) (fun _ _ _ h => h) rfl (fun _ _ => rfl) S4_5.out ?_
        try simp only [Act.put, List.getElem_toArray, List.getElem_cons_succ, List.getElem_cons_zero, List.setIfInBounds_toArray, List.set_cons_zero, List.set_cons_succ]
        refine hm_run 8 14 (.bool (!r1)) rfl rfl (by kernel_rfl) (by kernel_rfl) (by kernel_rfl) (fun _ _ _ h => h) rfl (fun _ _ => rfl) S4_5.out ?_
        try simp only [Act.put, List.getElem_toArray, List.getElem_cons_succ, List.getElem_cons_zero, List.setIfInBounds_toArray, List.set_cons_zero, List.set_cons_succ]
        refine wpAnyH_done (by kernel_rfl) ?_ _
        have E := S4_5
        clear S4_5
        cases r1
        · go_wp2_with fail
          go_ret
          exact ⟨by rw [YES.out j JL.out BD.out]; rfl, E.out.below⟩
        · go_upto_region 6 with fail
          refine wp_region_T (Φ := fun X => Mem w [(b6, 28, arr 68 (hc h)), (b2, 23, arr 32 (bv f))] X) (S := fun X => Mem w [(b6, 28, arr 68 (hc h)), (b2, 23, arr 32 (bv f))] X) E (fun X h => h.drew) (fun X h => h) (by kernel_rfl) ?_
          clear E
          intro wx TT S0
          clear TT
          refine hm_run 0 24 (.int .i64 (j : Int)) rfl rfl (by kernel_rfl) (by kernel_rfl) (by kernel_rfl) (fun _ _ _ h => h) rfl (fun _ _ => rfl) S0.out ?_
          try simp only [Act.put, List.getElem_toArray, List.getElem_cons_succ, List.getElem_cons_zero, List.setIfInBounds_toArray, List.set_cons_zero, List.set_cons_succ]
          refine hm_run 1 25 (.bool false) rfl rfl (by kernel_rfl) (by kernel_rfl) (by kernel_rfl) (fun _ _ _ h => h) rfl (fun _ _ => exec_gtr3 rfl rfl rfl GT0.out) S0.out ?_
          try simp only [Act.put, List.getElem_toArray, List.getElem_cons_succ, List.getElem_cons_zero, List.setIfInBounds_toArray, List.set_cons_zero, List.set_cons_succ]
          refine hm_run 2 26 (.bool false) rfl rfl (by kernel_rfl) (by kernel_rfl) (by kernel_rfl) (fun _ _ _ h => h) rfl (fun _ _ => rfl) S0.out ?_
          try simp only [Act.put, List.getElem_toArray, List.getElem_cons_succ, List.getElem_cons_zero, List.setIfInBounds_toArray, List.set_cons_zero, List.set_cons_succ]
          refine hm_off 3 27 rfl rfl (by kernel_rfl) (by kernel_rfl) (by kernel_rfl) (fun _ _ _ h => h) rfl S0.out ?_
          try simp only [Act.put, List.getElem_toArray, List.getElem_cons_succ, List.getElem_cons_zero, List.setIfInBounds_toArray, List.set_cons_zero, List.set_cons_succ]
          refine hm_off 4 28 rfl rfl (by kernel_rfl) (by kernel_rfl) (by kernel_rfl) (fun _ _ _ h => h) rfl S0.out ?_
          try simp only [Act.put, List.getElem_toArray, List.getElem_cons_succ, List.getElem_cons_zero, List.setIfInBounds_toArray, List.set_cons_zero, List.set_cons_succ]
          refine hm_off 5 29 rfl rfl (by kernel_rfl) (by kernel_rfl) (by kernel_rfl) (fun _ _ _ h => h) rfl S0.out ?_
          try simp only [Act.put, List.getElem_toArray, List.getElem_cons_succ, List.getElem_cons_zero, List.setIfInBounds_toArray, List.set_cons_zero, List.set_cons_succ]
          refine hm_off 6 30 rfl rfl (by kernel_rfl) (by kernel_rfl) (by kernel_rfl) (fun _ _ _ h => h) rfl S0.out ?_
          try simp only [Act.put, List.getElem_toArray, List.getElem_cons_succ, List.getElem_cons_zero, List.setIfInBounds_toArray, List.set_cons_zero, List.set_cons_succ]
          refine hm_off 7 31 rfl rfl (by kernel_rfl) (by kernel_rfl) (by kernel_rfl) (fun _ _ _ h => h) rfl S0.out ?_
          try simp only [Act.put, List.getElem_toArray, List.getElem_cons_succ, List.getElem_cons_zero, List.setIfInBounds_toArray, List.set_cons_zero, List.set_cons_succ]
          refine hm_off 8 32 rfl rfl (by kernel_rfl) (by kernel_rfl) (by kernel_rfl) (fun _ _ _ h => h) rfl S0.out ?_
          try simp only [Act.put, List.getElem_toArray, List.getElem_cons_succ, List.getElem_cons_zero, List.setIfInBounds_toArray, List.set_cons_zero, List.set_cons_succ]
          refine hm_off 9 33 rfl rfl (by kernel_rfl) (by kernel_rfl) (by kernel_rfl) (fun _ _ _ h => h) rfl S0.out ?_
          try simp only [Act.put, List.getElem_toArray, List.getElem_cons_succ, List.getElem_cons_zero, List.setIfInBounds_toArray, List.set_cons_zero, List.set_cons_succ]
          refine hm_off 10 34 rfl rfl (by kernel_rfl) (by kernel_rfl) (by kernel_rfl) (fun _ _ _ h => h) rfl S0.out ?_
          try simp only [Act.put, List.getElem_toArray, List.getElem_cons_succ, List.getElem_cons_zero, List.setIfInBounds_toArray, List.set_cons_zero, List.set_cons_succ]
          refine hm_off 11 35 rfl rfl (by kernel_rfl) (by kernel_rfl) (by kernel_rfl) (fun _ _ _ h => h) rfl S0.out ?_
          try simp only [Act.put, List.getElem_toArray, List.getElem_cons_succ, List.getElem_cons_zero, List.setIfInBounds_toArray, List.set_cons_zero, List.set_cons_succ]
          refine hm_run 12 36 (.bool false) rfl rfl (by kernel_rfl) (by kernel_rfl) (by kernel_rfl) (fun _ _ _ h => h) rfl (fun _ _ => rfl) S0.out ?_
          try simp only [Act.put, List.getElem_toArray, List.getElem_cons_succ, List.getElem_cons_zero, List.setIfInBounds_toArray, List.set_cons_zero, List.set_cons_succ]
          refine hm_run 13 23 (.bool false) rfl rfl (by kernel_rfl) (by kernel_rfl) (by kernel_rfl) (fun _ _ _ h => h) rfl (fun _ _ => rfl) S0.out ?_
          try simp only [Act.put, List.getElem_toArray, List.getElem_cons_succ, List.getElem_cons_zero, List.setIfInBounds_toArray, List.set_cons_zero, List.set_cons_succ]
          refine wpAnyH_done (by kernel_rfl) ?_ _
          have E := S0
          clear S0
          go_wp2_with ((with_reducible refine wpList_at 37 rfl ?_); refine wpList_kn rfl (.int .i64 ((j + 1 : Nat) : Int)) (by exact exec_add rfl rfl rfl (by have := MJ.out; have := HN.out; rw [IntKind.wrap_i64]; omega)) ?_)
          go_roundg (n - (j + 1))
          case measure => have := MJ.out; omega
          case rel => exact ⟨j + 1, by have := MJ.out; omega, rfl, Lib.hid (bad_snoc BN.out BD.out), Lib.hid E.out.tail⟩
          
        
      · obtain ⟨j1, hj1⟩ : ∃ j1, j1 = j - 1 := ⟨_, rfl⟩
        have EQ0 := Lib.hid (show decide ((j : Int) = 0) = false from decide_eq_false (by omega))
        have GT0 := Lib.hid (show decide ((0 : Int) < (j : Int)) = true from decide_eq_true (by omega))
        have J1 := Lib.hid (show j1 < n by omega)
        have SB := Lib.hid (show IntKind.i64.wrap ((j : Int) - 1) = ((j1 : Nat) : Int) by have := HN.out; rw [IntKind.wrap_i64]; omega)
        have ht1 : j1 < l.length := by omega
        obtain ⟨y, hy⟩ : ∃ y, y = l[j1] := ⟨_, rfl⟩
        have CY := TT.out j1 ht1
        rw [← hy] at CY
        have LD1 := Lib.hid (show ∀ W, Below w.heap.size w W → (Instr.loadAt 28 (.pointer (some ⟨g, o + j1 * 68, none⟩))).run Tryd.prog W = .ok (.agg (arr 68 (hc y))) W from fun W hb => by
          have := (RR.out.below hb).load J1.out Tryd.underlying28 rfl (by kernel_rfl)
          rwa [arr_congr CY.1] at this)
        have OKY := Lib.hid CY.2
        have e1 : l.getD (j - 1) h0 = y := by rw [← hj1, List.getD_eq_getElem?_getD, List.getElem?_eq_getElem ht1, hy]; rfl
        obtain ⟨r1, hr1⟩ : ∃ r1, r1 = eqN h.prev (idF y) := ⟨_, rfl⟩
        have EQ := Lib.hid (show ∀ W, (Op.equalIn 10000 23 (.agg (arr 32 (bv h.prev))) (.agg (arr 32 (bv (idF y))))).run Tryd.prog W = .ok r1 W from fun W => by rw [hr1]; exact eq_bytes (T := 23) (N := 32) Tryd.underlying23 h.prev (idF y) W)
        have BD := Lib.hid (show badN f l j = !r1 by
          unfold badN
          rw [if_neg j0, hr1, e0, e1])
        clear hh CC e0 ht j0 hr1 hj hj1 ht1 hy CY e1
        go_upto_region 4 with (first | ((with_reducible refine wpList_at 10 rfl ?_); refine wpList_kn rfl (.bool true) (by exact exec_lss3 rfl rfl rfl LT.out) ?_) | ((with_reducible refine wpList_at 12 rfl ?_); refine wpList_ix (k := 68) (j := j) Tryd.underlying24 (by kernel_rfl) (.tmp 7) (.tmp 9) rfl rfl rfl rfl hlt rfl ?_) | ((with_reducible refine wpList_at 13 rfl ?_); refine wpList_ld 28 (.tmp 12) rfl rfl rfl (LD.out _ E.out.below) ?_) | ((with_reducible refine wpList_at 6 rfl ?_); refine mem_alloc E 28 rfl rfl ZI.out ?_; clear E; intro b6 w6 E) | ((with_reducible refine wpList_nd rfl ?_); refine mem_store_row 0 E 28 rfl (.tmp 6) (.tmp 13) rfl rfl rfl rfl (by rw [arr_size]; kernel_rfl) (by rw [arr_size]; exact ZS.out) (hc_one h) ?_; clear E; intro w7 E; simp only [List.set_cons_zero] at E))
        refine wp_region_T (Φ := fun X => Mem w [(b6, 28, arr 68 (hc h)), (b2, 23, arr 32 (bv f))] X) (S := fun X => Mem w [(b6, 28, arr 68 (hc h)), (b2, 23, arr 32 (bv f))] X) E (fun X h => h.drew) (fun X h => h) (by kernel_rfl) ?_
        clear E
        intro wx TT S0
        clear TT
        refine hm_run 0 15 (.int .i64 (j : Int)) rfl rfl (by kernel_rfl) (by kernel_rfl) (by kernel_rfl) (fun _ _ _ h => h) rfl (fun _ _ => rfl) S0.out ?_
        try simp only [Act.put, List.getElem_toArray, List.getElem_cons_succ, List.getElem_cons_zero, List.setIfInBounds_toArray, List.set_cons_zero, List.set_cons_succ]
        refine hm_run 1 16 (.bool false) rfl rfl (by kernel_rfl) (by kernel_rfl) (by kernel_rfl) (fun _ _ _ h => h) rfl (fun _ _ => exec_eql3 rfl rfl rfl EQ0.out) S0.out ?_
        try simp only [Act.put, List.getElem_toArray, List.getElem_cons_succ, List.getElem_cons_zero, List.setIfInBounds_toArray, List.set_cons_zero, List.set_cons_succ]
        refine hm_run 2 17 (.bool false) rfl rfl (by kernel_rfl) (by kernel_rfl) (by kernel_rfl) (fun _ _ _ h => h) rfl (fun _ _ => rfl) S0.out ?_
        try simp only [Act.put, List.getElem_toArray, List.getElem_cons_succ, List.getElem_cons_zero, List.setIfInBounds_toArray, List.set_cons_zero, List.set_cons_succ]
        refine hm_off 3 18 rfl rfl (by kernel_rfl) (by kernel_rfl) (by kernel_rfl) (fun _ _ _ h => h) rfl S0.out ?_
        try simp only [Act.put, List.getElem_toArray, List.getElem_cons_succ, List.getElem_cons_zero, List.setIfInBounds_toArray, List.set_cons_zero, List.set_cons_succ]
        refine hm_off 4 19 rfl rfl (by kernel_rfl) (by kernel_rfl) (by kernel_rfl) (fun _ _ _ h => h) rfl S0.out ?_
        try simp only [Act.put, List.getElem_toArray, List.getElem_cons_succ, List.getElem_cons_zero, List.setIfInBounds_toArray, List.set_cons_zero, List.set_cons_succ]
        refine hm_off 5 20 rfl rfl (by kernel_rfl) (by kernel_rfl) (by kernel_rfl) (fun _ _ _ h => h) rfl S0.out ?_
        try simp only [Act.put, List.getElem_toArray, List.getElem_cons_succ, List.getElem_cons_zero, List.setIfInBounds_toArray, List.set_cons_zero, List.set_cons_succ]
        refine hm_off 6 21 rfl rfl (by kernel_rfl) (by kernel_rfl) (by kernel_rfl) (fun _ _ _ h => h) rfl S0.out ?_
        try simp only [Act.put, List.getElem_toArray, List.getElem_cons_succ, List.getElem_cons_zero, List.setIfInBounds_toArray, List.set_cons_zero, List.set_cons_succ]
        refine hm_run 7 22 (.bool false) rfl rfl (by kernel_rfl) (by kernel_rfl) (by kernel_rfl) (fun _ _ _ h => h) rfl (fun _ _ => rfl) S0.out ?_
        try simp only [Act.put, List.getElem_toArray, List.getElem_cons_succ, List.getElem_cons_zero, List.setIfInBounds_toArray, List.set_cons_zero, List.set_cons_succ]
        refine hm_run 8 14 (.bool false) rfl rfl (by kernel_rfl) (by kernel_rfl) (by kernel_rfl) (fun _ _ _ h => h) rfl (fun _ _ => rfl) S0.out ?_
        try simp only [Act.put, List.getElem_toArray, List.getElem_cons_succ, List.getElem_cons_zero, List.setIfInBounds_toArray, List.set_cons_zero, List.set_cons_succ]
        refine wpAnyH_done (by kernel_rfl) ?_ _
        have E := S0
        clear S0
        go_upto_region 6 with fail
        refine wp_region_T (Φ := fun X => Mem w [(b6, 28, arr 68 (hc h)), (b2, 23, arr 32 (bv f))] X) (S := fun X => Mem w [(b6, 28, arr 68 (hc h)), (b2, 23, arr 32 (bv f))] X) E (fun X h => h.drew) (fun X h => h) (by kernel_rfl) ?_
        clear E
        intro wx TT S0
        clear TT
        refine hm_run 0 24 (.int .i64 (j : Int)) rfl rfl (by kernel_rfl) (by kernel_rfl) (by kernel_rfl) (fun _ _ _ h => h) rfl (fun _ _ => rfl) S0.out ?_
        try simp only [Act.put, List.getElem_toArray, List.getElem_cons_succ, List.getElem_cons_zero, List.setIfInBounds_toArray, List.set_cons_zero, List.set_cons_succ]
        refine hm_run 1 25 (.bool true) rfl rfl (by kernel_rfl) (by kernel_rfl) (by kernel_rfl) (fun _ _ _ h => h) rfl (fun _ _ => exec_gtr3 rfl rfl rfl GT0.out) S0.out ?_
        try simp only [Act.put, List.getElem_toArray, List.getElem_cons_succ, List.getElem_cons_zero, List.setIfInBounds_toArray, List.set_cons_zero, List.set_cons_succ]
        refine hm_run 2 26 (.bool true) rfl rfl (by kernel_rfl) (by kernel_rfl) (by kernel_rfl) (fun _ _ _ h => h) rfl (fun _ _ => rfl) S0.out ?_
        try simp only [Act.put, List.getElem_toArray, List.getElem_cons_succ, List.getElem_cons_zero, List.setIfInBounds_toArray, List.set_cons_zero, List.set_cons_succ]
        refine hm_run 3 27 (.pointer (some ⟨b6, 1, none⟩)) rfl rfl (by kernel_rfl) (by kernel_rfl) (by kernel_rfl) (fun _ _ _ h => h) rfl (fun _ _ => rfl) S0.out ?_
        try simp only [Act.put, List.getElem_toArray, List.getElem_cons_succ, List.getElem_cons_zero, List.setIfInBounds_toArray, List.set_cons_zero, List.set_cons_succ]
        refine hm_run 4 28 (.agg (arr 32 (bv h.prev))) rfl rfl (by kernel_rfl) (by kernel_rfl) (by kernel_rfl) (fun _ _ _ h => h) rfl (fun W hW => exec_load rfl (load_prev (hW.get List.mem_cons_self))) S0.out ?_
        try simp only [Act.put, List.getElem_toArray, List.getElem_cons_succ, List.getElem_cons_zero, List.setIfInBounds_toArray, List.set_cons_zero, List.set_cons_succ]
        refine hm_run 5 29 (.slice (some ⟨g, o, none⟩) n c) rfl rfl (by kernel_rfl) (by kernel_rfl) (by kernel_rfl) (fun _ _ _ h => h) rfl (fun _ _ => rfl) S0.out ?_
        try simp only [Act.put, List.getElem_toArray, List.getElem_cons_succ, List.getElem_cons_zero, List.setIfInBounds_toArray, List.set_cons_zero, List.set_cons_succ]
        refine hm_run 6 30 (.int .i64 (j : Int)) rfl rfl (by kernel_rfl) (by kernel_rfl) (by kernel_rfl) (fun _ _ _ h => h) rfl (fun _ _ => rfl) S0.out ?_
        try simp only [Act.put, List.getElem_toArray, List.getElem_cons_succ, List.getElem_cons_zero, List.setIfInBounds_toArray, List.set_cons_zero, List.set_cons_succ]
        refine hm_run 7 31 (.int .i64 ((j1 : Nat) : Int)) rfl rfl (by kernel_rfl) (by kernel_rfl) (by kernel_rfl) (fun _ _ _ h => h) rfl (fun _ _ => exec_sub rfl rfl rfl SB.out) S0.out ?_
        try simp only [Act.put, List.getElem_toArray, List.getElem_cons_succ, List.getElem_cons_zero, List.setIfInBounds_toArray, List.set_cons_zero, List.set_cons_succ]
        refine hm_run 8 32 (.pointer (some ⟨g, o + j1 * 68, none⟩)) rfl rfl (by kernel_rfl) (by kernel_rfl) (by kernel_rfl) (fun _ _ _ h => h) rfl (fun W _ => exec_ix rfl (run_ix (k := 68) Tryd.underlying24 (by kernel_rfl) J1.out rfl W)) S0.out ?_
        try simp only [Act.put, List.getElem_toArray, List.getElem_cons_succ, List.getElem_cons_zero, List.setIfInBounds_toArray, List.set_cons_zero, List.set_cons_succ]
        refine hm_run 9 33 (.agg (arr 68 (hc y))) rfl rfl (by kernel_rfl) (by kernel_rfl) (by kernel_rfl) (fun _ _ _ h => h) rfl (fun W hW => exec_load rfl (LD1.out W hW.below)) S0.out ?_
        try simp only [Act.put, List.getElem_toArray, List.getElem_cons_succ, List.getElem_cons_zero, List.setIfInBounds_toArray, List.set_cons_zero, List.set_cons_succ]
        refine hm_one (i := 10) (by kernel_rfl) ?_
        refine hm_step 10 rfl (by kernel_rfl) fun K hK => ?_
        try simp only [Act.put, List.getElem_toArray, List.getElem_cons_succ, List.getElem_cons_zero, List.setIfInBounds_toArray, List.set_cons_zero, List.set_cons_succ]
        go_simp
        go_at_call 31
        refine (idb_any OKY (Lib.hid (LB.out.below S0.out.below))).mono ?_
        rintro e w8 ⟨rfl, hb⟩
        have S10_10 := Lib.hid (S0.out.call hb)
        clear hb
        refine hK _ _ S10_10.out ?_
        clear hK K
        try simp only [Act.put, List.getElem_toArray, List.getElem_cons_succ, List.getElem_cons_zero, List.setIfInBounds_toArray, List.set_cons_zero, List.set_cons_succ]
        refine hm_run 11 35 (.bool (!r1)) rfl rfl (by kernel_rfl) (by kernel_rfl) (by kernel_rfl) (fun _ _ _ h => h) rfl (fun W _ => exec_neqA rfl rfl rfl (by kernel_rfl) (EQ.out W)) S10_10.out ?_
        try simp only [Act.put, List.getElem_toArray, List.getElem_cons_succ, List.getElem_cons_zero, List.setIfInBounds_toArray, List.set_cons_zero, List.set_cons_succ]
        refine hm_run 12 36 (.bool (!r1)) rfl rfl (by kernel_rfl) (by kernel_rfl) (by kernel_rfl) (fun _ _ _ h => h) rfl (fun _ _ => rfl) S10_10.out ?_
        try simp only [Act.put, List.getElem_toArray, List.getElem_cons_succ, List.getElem_cons_zero, List.setIfInBounds_toArray, List.set_cons_zero, List.set_cons_succ]
        refine hm_run 13 23 (.bool (!r1)) rfl rfl (by kernel_rfl) (by kernel_rfl) (by kernel_rfl) (fun _ _ _ h => h) rfl (fun _ _ => rfl) S10_10.out ?_
        try simp only [Act.put, List.getElem_toArray, List.getElem_cons_succ, List.getElem_cons_zero, List.setIfInBounds_toArray, List.set_cons_zero, List.set_cons_succ]
        refine wpAnyH_done (by kernel_rfl) ?_ _
        have E := S10_10
        clear S10_10
        cases r1
        · go_wp2_with fail
          go_ret
          exact ⟨by rw [YES.out j JL.out BD.out]; rfl, E.out.below⟩
        · go_wp2_with ((with_reducible refine wpList_at 37 rfl ?_); refine wpList_kn rfl (.int .i64 ((j + 1 : Nat) : Int)) (by exact exec_add rfl rfl rfl (by have := MJ.out; have := HN.out; rw [IntKind.wrap_i64]; omega)) ?_)
          go_roundg (n - (j + 1))
          case measure => have := MJ.out; omega
          case rel => exact ⟨j + 1, by have := MJ.out; omega, rfl, Lib.hid (bad_snoc BN.out BD.out), Lib.hid E.out.tail⟩
        
        
    · have LT := Lib.hid (show decide ((j : Int) < (n : Int)) = false from decide_eq_false (by omega))
      have R := Lib.hid (show r = true from ALL.out fun i hi => BN.out i (by have := HN.out; omega))
      clear hlt hj
      go_wp2_with ((with_reducible refine wpList_at 10 rfl ?_); refine wpList_kn rfl (.bool false) (by exact exec_lss3 rfl rfl rfl LT.out) ?_)
      go_ret
      exact ⟨by rw [R.out]; rfl, E.out.below⟩
set_option maxHeartbeats 16000000 in
theorem rleads_any {w : World} {f : Nat → Nat} {v : Value} {l : List Hd} (A : Hid (HdsAt w v l)) (LB : Hid (S.Both w)) : Calls Tryd.prog 11 #[.agg (arr 32 (bv f)), v] w fun e w' => e = .returned (.bool (leadsN f l)) ∧ Below w.heap.size w w' := by
  have E := Lib.hid (Mem.nil w)
  obtain ⟨p, g, o, c, V, hv, hc', R0, hi⟩ := A.out
  subst hv
  have RR := Lib.hid R0
  have TT := Lib.hid hi
  obtain ⟨z0, hz0, hzi⟩ := infoHz
  have ZI := Lib.hid hzi
  have ZS := Lib.hid hz0
  obtain ⟨r, hr⟩ : ∃ r, r = leadsN f l := ⟨_, rfl⟩
  have YES := Lib.hid (show ∀ i, i < l.length → badN f l i = true → r = false from fun i hi h => by rw [hr]; exact leads_bad hi h)
  have ALL := Lib.hid (show (∀ i, i < l.length → badN f l i = false) → r = true from fun h => by rw [hr]; exact leads_all h)
  have cn : l.length ≤ c := R0.le
  obtain ⟨n, hn⟩ : ∃ n, n = l.length := ⟨_, rfl⟩
  have HN := Lib.hid (show n = l.length ∧ n ≤ 140737488355328 from ⟨hn, by omega⟩)
  rw [← hn] at RR ⊢
  rw [← hr]
  clear R0 hi A hzi hz0 cn hn hc' hr
  go_enter Tryd.func11, Tryd.ntmps11
  go_wp2_with ((with_reducible refine wpList_at 2 rfl ?_); refine mem_box E 23 rfl _ rfl rfl (arr_cells' 32 (bv f)) ?_; clear E; intro b2 w2 E)
  go_loopg [9] n (fun k s9 wr => ∃ (j : Nat), j + k = n ∧ s9 = .int .i64 (j : Int) ∧ Hid (∀ i, i < j → badN f l i = false) ∧ Hid (Mem w [(b2, 23, arr 32 (bv f))] wr))
  case atStart => exact ⟨0, by omega, rfl, Lib.hid (fun i h => absurd h (by omega)), E⟩
  case round =>
    clear E
    obtain ⟨j, hj, rfl, BN, E⟩ := hrel
    obtain ⟨kk, rfl⟩ : ∃ kk : Nat, kk = gk := ⟨_, rfl⟩
    by_cases hlt : j < n
    · have LT := Lib.hid (show decide ((j : Int) < (n : Int)) = true from decide_eq_true (by omega))
      obtain rfl := RR.out.head (by omega)
      have ht : j < l.length := by rw [← HN.out.1]; exact hlt
      obtain ⟨h, hh⟩ : ∃ h, h = l[j] := ⟨_, rfl⟩
      have CC := TT.out j ht
      rw [← hh] at CC
      have LD := Lib.hid (show ∀ W, Below w.heap.size w W → (Instr.loadAt 28 (.pointer (some ⟨g, o + j * 68, none⟩))).run Tryd.prog W = .ok (.agg (arr 68 (hc h))) W from fun W hb => by
        have := (RR.out.below hb).load hlt Tryd.underlying28 rfl (by kernel_rfl)
        rwa [arr_congr CC.1] at this)
      have OK := Lib.hid CC.2
      have e0 : l.getD j h0 = h := by rw [List.getD_eq_getElem?_getD, List.getElem?_eq_getElem ht, hh]; rfl
      have MJ := Lib.hid (And.intro hj hlt)
      have JL := Lib.hid ht
      by_cases j0 : j = 0
      · have EQ0 := Lib.hid (show decide ((j : Int) = 0) = true from decide_eq_true (by omega))
        have GT0 := Lib.hid (show decide ((0 : Int) < (j : Int)) = false from decide_eq_false (by omega))
        obtain ⟨r1, hr1⟩ : ∃ r1, r1 = eqN (idF h) f := ⟨_, rfl⟩
        have EQ := Lib.hid (show ∀ W, (Op.equalIn 10000 23 (.agg (arr 32 (bv (idF h)))) (.agg (arr 32 (bv f)))).run Tryd.prog W = .ok r1 W from fun W => by rw [hr1]; exact eq_bytes (T := 23) (N := 32) Tryd.underlying23 (idF h) f W)
        have BD := Lib.hid (show badN f l j = !r1 by
          unfold badN
          rw [if_pos j0, hr1]
          rw [j0] at e0
          rw [e0])
        clear hh CC e0 ht j0 hr1 hj
        go_upto_region 4 with (first | ((with_reducible refine wpList_at 10 rfl ?_); refine wpList_kn rfl (.bool true) (by exact exec_lss3 rfl rfl rfl LT.out) ?_) | ((with_reducible refine wpList_at 12 rfl ?_); refine wpList_ix (k := 68) (j := j) Tryd.underlying24 (by kernel_rfl) (.tmp 7) (.tmp 9) rfl rfl rfl rfl hlt rfl ?_) | ((with_reducible refine wpList_at 13 rfl ?_); refine wpList_ld 28 (.tmp 12) rfl rfl rfl (LD.out _ E.out.below) ?_) | ((with_reducible refine wpList_at 6 rfl ?_); refine mem_alloc E 28 rfl rfl ZI.out ?_; clear E; intro b6 w6 E) | ((with_reducible refine wpList_nd rfl ?_); refine mem_store_row 0 E 28 rfl (.tmp 6) (.tmp 13) rfl rfl rfl rfl (by rw [arr_size]; kernel_rfl) (by rw [arr_size]; exact ZS.out) (hc_one h) ?_; clear E; intro w7 E; simp only [List.set_cons_zero] at E))
        cases r1
        · refine wp_region_T (Φ := fun X => Mem w [(b6, 28, arr 68 (hc h)), (b2, 23, arr 32 (bv f))] X) (S := fun X => Mem w [(b6, 28, arr 68 (hc h)), (b2, 23, arr 32 (bv f))] X) E (fun X h => h.drew) (fun X h => h) (by kernel_rfl) ?_
          clear E
          intro wx TT S0
          clear TT
          refine hm_run 0 14 (.int .i64 (j : Int)) rfl rfl (by kernel_rfl) (by kernel_rfl) (by kernel_rfl) (fun _ _ _ h => h) rfl (fun _ _ => rfl) S0.out ?_
          try simp only [Act.put, List.getElem_toArray, List.getElem_cons_succ, List.getElem_cons_zero, List.setIfInBounds_toArray, List.set_cons_zero, List.set_cons_succ]
          refine hm_run 1 15 (.bool true) rfl rfl (by kernel_rfl) (by kernel_rfl) (by kernel_rfl) (fun _ _ _ h => h) rfl (fun _ _ => exec_eql3 rfl rfl rfl EQ0.out) S0.out ?_
          try simp only [Act.put, List.getElem_toArray, List.getElem_cons_succ, List.getElem_cons_zero, List.setIfInBounds_toArray, List.set_cons_zero, List.set_cons_succ]
          refine hm_run 2 16 (.bool true) rfl rfl (by kernel_rfl) (by kernel_rfl) (by kernel_rfl) (fun _ _ _ h => h) rfl (fun _ _ => rfl) S0.out ?_
          try simp only [Act.put, List.getElem_toArray, List.getElem_cons_succ, List.getElem_cons_zero, List.setIfInBounds_toArray, List.set_cons_zero, List.set_cons_succ]
          refine hm_load_row 3 17 28 (.tmp 6) rfl rfl (by kernel_rfl) (by kernel_rfl) (by kernel_rfl) (fun _ _ _ h => h) rfl rfl rfl (fun X hX => hX.get List.mem_cons_self) Tryd.underlying28 rfl (by rw [arr_size]; kernel_rfl) S0.out ?_
          try simp only [Act.put, List.getElem_toArray, List.getElem_cons_succ, List.getElem_cons_zero, List.setIfInBounds_toArray, List.set_cons_zero, List.set_cons_succ]
          refine hm_load_row 5 19 23 (.tmp 2) rfl rfl (by kernel_rfl) (by kernel_rfl) (by kernel_rfl) (fun _ _ _ h => h) rfl rfl rfl (fun X hX => hX.get (List.mem_cons_of_mem _ List.mem_cons_self)) Tryd.underlying23 rfl (by rw [arr_size]; kernel_rfl) S0.out ?_
          try simp only [Act.put, List.getElem_toArray, List.getElem_cons_succ, List.getElem_cons_zero, List.setIfInBounds_toArray, List.set_cons_zero, List.set_cons_succ]
          refine hm_one (i := 4) (by kernel_rfl) ?_
          refine hm_step 4 rfl (by kernel_rfl) fun K hK => ?_
          try simp only [Act.put, List.getElem_toArray, List.getElem_cons_succ, List.getElem_cons_zero, List.setIfInBounds_toArray, List.set_cons_zero, List.set_cons_succ]
          go_simp
          go_at_call 9
          refine (ridb_any OK).mono ?_
          rintro e w8 ⟨rfl, hb⟩
          have S4_5 := Lib.hid (S0.out.call hb)
          clear hb
          refine hK _ _ S4_5.out ?_
          clear hK K
          try simp only [Act.put, List.getElem_toArray, List.getElem_cons_succ, List.getElem_cons_zero, List.setIfInBounds_toArray, List.set_cons_zero, List.set_cons_succ]
          refine hm_run 6 20 (.bool true) rfl rfl (by kernel_rfl) (by kernel_rfl) (by kernel_rfl) (fun _ _ _ h => h) rfl (fun W _ => exec_neqA (r := false) rfl rfl rfl (by kernel_rfl) (EQ.out W)) S4_5.out ?_
          try simp only [Act.put, List.getElem_toArray, List.getElem_cons_succ, List.getElem_cons_zero, List.setIfInBounds_toArray, List.set_cons_zero, List.set_cons_succ]
          refine hm_run 7 21 (.bool true) rfl rfl (by kernel_rfl) (by kernel_rfl) (by kernel_rfl) (fun _ _ _ h => h) rfl (fun _ _ => rfl) S4_5.out ?_
          try simp only [Act.put, List.getElem_toArray, List.getElem_cons_succ, List.getElem_cons_zero, List.setIfInBounds_toArray, List.set_cons_zero, List.set_cons_succ]
          refine hm_run 8 22 (.bool true) rfl rfl (by kernel_rfl) (by kernel_rfl) (by kernel_rfl) (fun _ _ _ h => h) rfl (fun _ _ => rfl) S4_5.out ?_
          try simp only [Act.put, List.getElem_toArray, List.getElem_cons_succ, List.getElem_cons_zero, List.setIfInBounds_toArray, List.set_cons_zero, List.set_cons_succ]
          refine hm_off 9 23 rfl rfl (by kernel_rfl) (by kernel_rfl) (by kernel_rfl) (fun _ _ _ h => h) rfl S4_5.out ?_
          try simp only [Act.put, List.getElem_toArray, List.getElem_cons_succ, List.getElem_cons_zero, List.setIfInBounds_toArray, List.set_cons_zero, List.set_cons_succ]
          refine hm_off 10 24 rfl rfl (by kernel_rfl) (by kernel_rfl) (by kernel_rfl) (fun _ _ _ h => h) rfl S4_5.out ?_
          try simp only [Act.put, List.getElem_toArray, List.getElem_cons_succ, List.getElem_cons_zero, List.setIfInBounds_toArray, List.set_cons_zero, List.set_cons_succ]
          refine hm_off 11 25 rfl rfl (by kernel_rfl) (by kernel_rfl) (by kernel_rfl) (fun _ _ _ h => h) rfl S4_5.out ?_
          try simp only [Act.put, List.getElem_toArray, List.getElem_cons_succ, List.getElem_cons_zero, List.setIfInBounds_toArray, List.set_cons_zero, List.set_cons_succ]
          refine hm_off 12 26 rfl rfl (by kernel_rfl) (by kernel_rfl) (by kernel_rfl) (fun _ _ _ h => h) rfl S4_5.out ?_
          try simp only [Act.put, List.getElem_toArray, List.getElem_cons_succ, List.getElem_cons_zero, List.setIfInBounds_toArray, List.set_cons_zero, List.set_cons_succ]
          refine hm_off 13 27 rfl rfl (by kernel_rfl) (by kernel_rfl) (by kernel_rfl) (fun _ _ _ h => h) rfl S4_5.out ?_
          try simp only [Act.put, List.getElem_toArray, List.getElem_cons_succ, List.getElem_cons_zero, List.setIfInBounds_toArray, List.set_cons_zero, List.set_cons_succ]
          refine hm_off 14 28 rfl rfl (by kernel_rfl) (by kernel_rfl) (by kernel_rfl) (fun _ _ _ h => h) rfl S4_5.out ?_
          try simp only [Act.put, List.getElem_toArray, List.getElem_cons_succ, List.getElem_cons_zero, List.setIfInBounds_toArray, List.set_cons_zero, List.set_cons_succ]
          refine hm_off 15 29 rfl rfl (by kernel_rfl) (by kernel_rfl) (by kernel_rfl) (fun _ _ _ h => h) rfl S4_5.out ?_
          try simp only [Act.put, List.getElem_toArray, List.getElem_cons_succ, List.getElem_cons_zero, List.setIfInBounds_toArray, List.set_cons_zero, List.set_cons_succ]
          refine hm_off 16 30 rfl rfl (by kernel_rfl) (by kernel_rfl) (by kernel_rfl) (fun _ _ _ h => h) rfl S4_5.out ?_
          try simp only [Act.put, List.getElem_toArray, List.getElem_cons_succ, List.getElem_cons_zero, List.setIfInBounds_toArray, List.set_cons_zero, List.set_cons_succ]
          refine hm_off 17 31 rfl rfl (by kernel_rfl) (by kernel_rfl) (by kernel_rfl) (fun _ _ _ h => h) rfl S4_5.out ?_
          try simp only [Act.put, List.getElem_toArray, List.getElem_cons_succ, List.getElem_cons_zero, List.setIfInBounds_toArray, List.set_cons_zero, List.set_cons_succ]
          refine hm_off 18 32 rfl rfl (by kernel_rfl) (by kernel_rfl) (by kernel_rfl) (fun _ _ _ h => h) rfl S4_5.out ?_
          try simp only [Act.put, List.getElem_toArray, List.getElem_cons_succ, List.getElem_cons_zero, List.setIfInBounds_toArray, List.set_cons_zero, List.set_cons_succ]
          refine hm_off 19 33 rfl rfl (by kernel_rfl) (by kernel_rfl) (by kernel_rfl) (fun _ _ _ h => h) rfl S4_5.out ?_
          try simp only [Act.put, List.getElem_toArray, List.getElem_cons_succ, List.getElem_cons_zero, List.setIfInBounds_toArray, List.set_cons_zero, List.set_cons_succ]
          refine hm_off 20 34 rfl rfl (by kernel_rfl) (by kernel_rfl) (by kernel_rfl) (fun _ _ _ h => h) rfl S4_5.out ?_
          try simp only [Act.put, List.getElem_toArray, List.getElem_cons_succ, List.getElem_cons_zero, List.setIfInBounds_toArray, List.set_cons_zero, List.set_cons_succ]
          refine hm_off 21 35 rfl rfl (by kernel_rfl) (by kernel_rfl) (by kernel_rfl) (fun _ _ _ h => h) rfl S4_5.out ?_
          try simp only [Act.put, List.getElem_toArray, List.getElem_cons_succ, List.getElem_cons_zero, List.setIfInBounds_toArray, List.set_cons_zero, List.set_cons_succ]
          refine hm_run 22 36 (.bool true) rfl rfl (by kernel_rfl) (by kernel_rfl) (by kernel_rfl) (fun _ _ _ h => h) rfl (fun _ _ => rfl) S4_5.out ?_
          try simp only [Act.put, List.getElem_toArray, List.getElem_cons_succ, List.getElem_cons_zero, List.setIfInBounds_toArray, List.set_cons_zero, List.set_cons_succ]
          refine wpAnyH_done (by kernel_rfl) ?_ _
          have E := S4_5
          clear S4_5
          go_wp2_with fail
          go_ret
          exact ⟨by rw [YES.out j JL.out BD.out]; rfl, E.out.below⟩
          
        · refine wp_region_T (Φ := fun X => Mem w [(b6, 28, arr 68 (hc h)), (b2, 23, arr 32 (bv f))] X) (S := fun X => Mem w [(b6, 28, arr 68 (hc h)), (b2, 23, arr 32 (bv f))] X) E (fun X h => h.drew) (fun X h => h) (by kernel_rfl) ?_
          clear E
          intro wx TT S0
          clear TT
          refine hm_run 0 14 (.int .i64 (j : Int)) rfl rfl (by kernel_rfl) (by kernel_rfl) (by kernel_rfl) (fun _ _ _ h => h) rfl (fun _ _ => rfl) S0.out ?_
          try simp only [Act.put, List.getElem_toArray, List.getElem_cons_succ, List.getElem_cons_zero, List.setIfInBounds_toArray, List.set_cons_zero, List.set_cons_succ]
          refine hm_run 1 15 (.bool true) rfl rfl (by kernel_rfl) (by kernel_rfl) (by kernel_rfl) (fun _ _ _ h => h) rfl (fun _ _ => exec_eql3 rfl rfl rfl EQ0.out) S0.out ?_
          try simp only [Act.put, List.getElem_toArray, List.getElem_cons_succ, List.getElem_cons_zero, List.setIfInBounds_toArray, List.set_cons_zero, List.set_cons_succ]
          refine hm_run 2 16 (.bool true) rfl rfl (by kernel_rfl) (by kernel_rfl) (by kernel_rfl) (fun _ _ _ h => h) rfl (fun _ _ => rfl) S0.out ?_
          try simp only [Act.put, List.getElem_toArray, List.getElem_cons_succ, List.getElem_cons_zero, List.setIfInBounds_toArray, List.set_cons_zero, List.set_cons_succ]
          refine hm_load_row 3 17 28 (.tmp 6) rfl rfl (by kernel_rfl) (by kernel_rfl) (by kernel_rfl) (fun _ _ _ h => h) rfl rfl rfl (fun X hX => hX.get List.mem_cons_self) Tryd.underlying28 rfl (by rw [arr_size]; kernel_rfl) S0.out ?_
          try simp only [Act.put, List.getElem_toArray, List.getElem_cons_succ, List.getElem_cons_zero, List.setIfInBounds_toArray, List.set_cons_zero, List.set_cons_succ]
          refine hm_load_row 5 19 23 (.tmp 2) rfl rfl (by kernel_rfl) (by kernel_rfl) (by kernel_rfl) (fun _ _ _ h => h) rfl rfl rfl (fun X hX => hX.get (List.mem_cons_of_mem _ List.mem_cons_self)) Tryd.underlying23 rfl (by rw [arr_size]; kernel_rfl) S0.out ?_
          try simp only [Act.put, List.getElem_toArray, List.getElem_cons_succ, List.getElem_cons_zero, List.setIfInBounds_toArray, List.set_cons_zero, List.set_cons_succ]
          refine hm_one (i := 4) (by kernel_rfl) ?_
          refine hm_step 4 rfl (by kernel_rfl) fun K hK => ?_
          try simp only [Act.put, List.getElem_toArray, List.getElem_cons_succ, List.getElem_cons_zero, List.setIfInBounds_toArray, List.set_cons_zero, List.set_cons_succ]
          go_simp
          go_at_call 9
          refine (ridb_any OK).mono ?_
          rintro e w8 ⟨rfl, hb⟩
          have S4_5 := Lib.hid (S0.out.call hb)
          clear hb
          refine hK _ _ S4_5.out ?_
          clear hK K
          try simp only [Act.put, List.getElem_toArray, List.getElem_cons_succ, List.getElem_cons_zero, List.setIfInBounds_toArray, List.set_cons_zero, List.set_cons_succ]
          refine hm_run 6 20 (.bool false) rfl rfl (by kernel_rfl) (by kernel_rfl) (by kernel_rfl) (fun _ _ _ h => h) rfl (fun W _ => exec_neqA (r := true) rfl rfl rfl (by kernel_rfl) (EQ.out W)) S4_5.out ?_
          try simp only [Act.put, List.getElem_toArray, List.getElem_cons_succ, List.getElem_cons_zero, List.setIfInBounds_toArray, List.set_cons_zero, List.set_cons_succ]
          refine hm_run 7 21 (.bool false) rfl rfl (by kernel_rfl) (by kernel_rfl) (by kernel_rfl) (fun _ _ _ h => h) rfl (fun _ _ => rfl) S4_5.out ?_
          try simp only [Act.put, List.getElem_toArray, List.getElem_cons_succ, List.getElem_cons_zero, List.setIfInBounds_toArray, List.set_cons_zero, List.set_cons_succ]
          refine hm_run 8 22 (.bool false) rfl rfl (by kernel_rfl) (by kernel_rfl) (by kernel_rfl) (fun _ _ _ h => h) rfl (fun _ _ => rfl) S4_5.out ?_
          try simp only [Act.put, List.getElem_toArray, List.getElem_cons_succ, List.getElem_cons_zero, List.setIfInBounds_toArray, List.set_cons_zero, List.set_cons_succ]
          refine hm_run 9 23 (.int .i64 (j : Int)) rfl rfl (by kernel_rfl) (by kernel_rfl) (by kernel_rfl) (fun _ _ _ h => h) rfl (fun _ _ => rfl) S4_5.out ?_
          try simp only [Act.put, List.getElem_toArray, List.getElem_cons_succ, List.getElem_cons_zero, List.setIfInBounds_toArray, List.set_cons_zero, List.set_cons_succ]
          refine hm_run 10 24 (.bool false) rfl rfl (by kernel_rfl) (by kernel_rfl) (by kernel_rfl) (fun _ _ _ h => h) rfl (fun _ _ => exec_gtr3 rfl rfl rfl GT0.out) S4_5.out ?_
          try simp only [Act.put, List.getElem_toArray, List.getElem_cons_succ, List.getElem_cons_zero, List.setIfInBounds_toArray, List.set_cons_zero, List.set_cons_succ]
          refine hm_run 11 25 (.bool false) rfl rfl (by kernel_rfl) (by kernel_rfl) (by kernel_rfl) (fun _ _ _ h => h) rfl (fun _ _ => rfl) S4_5.out ?_
          try simp only [Act.put, List.getElem_toArray, List.getElem_cons_succ, List.getElem_cons_zero, List.setIfInBounds_toArray, List.set_cons_zero, List.set_cons_succ]
          refine hm_off 12 26 rfl rfl (by kernel_rfl) (by kernel_rfl) (by kernel_rfl) (fun _ _ _ h => h) rfl S4_5.out ?_
          try simp only [Act.put, List.getElem_toArray, List.getElem_cons_succ, List.getElem_cons_zero, List.setIfInBounds_toArray, List.set_cons_zero, List.set_cons_succ]
          refine hm_off 13 27 rfl rfl (by kernel_rfl) (by kernel_rfl) (by kernel_rfl) (fun _ _ _ h => h) rfl S4_5.out ?_
          try simp only [Act.put, List.getElem_toArray, List.getElem_cons_succ, List.getElem_cons_zero, List.setIfInBounds_toArray, List.set_cons_zero, List.set_cons_succ]
          refine hm_off 14 28 rfl rfl (by kernel_rfl) (by kernel_rfl) (by kernel_rfl) (fun _ _ _ h => h) rfl S4_5.out ?_
          try simp only [Act.put, List.getElem_toArray, List.getElem_cons_succ, List.getElem_cons_zero, List.setIfInBounds_toArray, List.set_cons_zero, List.set_cons_succ]
          refine hm_off 15 29 rfl rfl (by kernel_rfl) (by kernel_rfl) (by kernel_rfl) (fun _ _ _ h => h) rfl S4_5.out ?_
          try simp only [Act.put, List.getElem_toArray, List.getElem_cons_succ, List.getElem_cons_zero, List.setIfInBounds_toArray, List.set_cons_zero, List.set_cons_succ]
          refine hm_off 16 30 rfl rfl (by kernel_rfl) (by kernel_rfl) (by kernel_rfl) (fun _ _ _ h => h) rfl S4_5.out ?_
          try simp only [Act.put, List.getElem_toArray, List.getElem_cons_succ, List.getElem_cons_zero, List.setIfInBounds_toArray, List.set_cons_zero, List.set_cons_succ]
          refine hm_off 17 31 rfl rfl (by kernel_rfl) (by kernel_rfl) (by kernel_rfl) (fun _ _ _ h => h) rfl S4_5.out ?_
          try simp only [Act.put, List.getElem_toArray, List.getElem_cons_succ, List.getElem_cons_zero, List.setIfInBounds_toArray, List.set_cons_zero, List.set_cons_succ]
          refine hm_off 18 32 rfl rfl (by kernel_rfl) (by kernel_rfl) (by kernel_rfl) (fun _ _ _ h => h) rfl S4_5.out ?_
          try simp only [Act.put, List.getElem_toArray, List.getElem_cons_succ, List.getElem_cons_zero, List.setIfInBounds_toArray, List.set_cons_zero, List.set_cons_succ]
          refine hm_off 19 33 rfl rfl (by kernel_rfl) (by kernel_rfl) (by kernel_rfl) (fun _ _ _ h => h) rfl S4_5.out ?_
          try simp only [Act.put, List.getElem_toArray, List.getElem_cons_succ, List.getElem_cons_zero, List.setIfInBounds_toArray, List.set_cons_zero, List.set_cons_succ]
          refine hm_off 20 34 rfl rfl (by kernel_rfl) (by kernel_rfl) (by kernel_rfl) (fun _ _ _ h => h) rfl S4_5.out ?_
          try simp only [Act.put, List.getElem_toArray, List.getElem_cons_succ, List.getElem_cons_zero, List.setIfInBounds_toArray, List.set_cons_zero, List.set_cons_succ]
          refine hm_run 21 35 (.bool false) rfl rfl (by kernel_rfl) (by kernel_rfl) (by kernel_rfl) (fun _ _ _ h => h) rfl (fun _ _ => rfl) S4_5.out ?_
          try simp only [Act.put, List.getElem_toArray, List.getElem_cons_succ, List.getElem_cons_zero, List.setIfInBounds_toArray, List.set_cons_zero, List.set_cons_succ]
          refine hm_run 22 36 (.bool false) rfl rfl (by kernel_rfl) (by kernel_rfl) (by kernel_rfl) (fun _ _ _ h => h) rfl (fun _ _ => rfl) S4_5.out ?_
          try simp only [Act.put, List.getElem_toArray, List.getElem_cons_succ, List.getElem_cons_zero, List.setIfInBounds_toArray, List.set_cons_zero, List.set_cons_succ]
          refine wpAnyH_done (by kernel_rfl) ?_ _
          have E := S4_5
          clear S4_5
          go_wp2_with ((with_reducible refine wpList_at 37 rfl ?_); refine wpList_kn rfl (.int .i64 ((j + 1 : Nat) : Int)) (by exact exec_add rfl rfl rfl (by have := MJ.out; have := HN.out; rw [IntKind.wrap_i64]; omega)) ?_)
          go_roundg (n - (j + 1))
          case measure => have := MJ.out; omega
          case rel => exact ⟨j + 1, by have := MJ.out; omega, rfl, Lib.hid (bad_snoc BN.out BD.out), Lib.hid E.out.tail⟩
          
      · obtain ⟨j1, hj1⟩ : ∃ j1, j1 = j - 1 := ⟨_, rfl⟩
        have EQ0 := Lib.hid (show decide ((j : Int) = 0) = false from decide_eq_false (by omega))
        have GT0 := Lib.hid (show decide ((0 : Int) < (j : Int)) = true from decide_eq_true (by omega))
        have J1 := Lib.hid (show j1 < n by omega)
        have SB := Lib.hid (show IntKind.i64.wrap ((j : Int) - 1) = ((j1 : Nat) : Int) by have := HN.out; rw [IntKind.wrap_i64]; omega)
        have ht1 : j1 < l.length := by omega
        obtain ⟨y, hy⟩ : ∃ y, y = l[j1] := ⟨_, rfl⟩
        have CY := TT.out j1 ht1
        rw [← hy] at CY
        have LD1 := Lib.hid (show ∀ W, Below w.heap.size w W → (Instr.loadAt 28 (.pointer (some ⟨g, o + j1 * 68, none⟩))).run Tryd.prog W = .ok (.agg (arr 68 (hc y))) W from fun W hb => by
          have := (RR.out.below hb).load J1.out Tryd.underlying28 rfl (by kernel_rfl)
          rwa [arr_congr CY.1] at this)
        have OKY := Lib.hid CY.2
        have e1 : l.getD (j - 1) h0 = y := by rw [← hj1, List.getD_eq_getElem?_getD, List.getElem?_eq_getElem ht1, hy]; rfl
        obtain ⟨r1, hr1⟩ : ∃ r1, r1 = eqN h.prev (idF y) := ⟨_, rfl⟩
        have EQ := Lib.hid (show ∀ W, (Op.equalIn 10000 23 (.agg (arr 32 (bv h.prev))) (.agg (arr 32 (bv (idF y))))).run Tryd.prog W = .ok r1 W from fun W => by rw [hr1]; exact eq_bytes (T := 23) (N := 32) Tryd.underlying23 h.prev (idF y) W)
        have BD := Lib.hid (show badN f l j = !r1 by
          unfold badN
          rw [if_neg j0, hr1, e0, e1])
        clear hh CC e0 ht j0 hr1 hj hj1 ht1 hy CY e1
        go_upto_region 4 with (first | ((with_reducible refine wpList_at 10 rfl ?_); refine wpList_kn rfl (.bool true) (by exact exec_lss3 rfl rfl rfl LT.out) ?_) | ((with_reducible refine wpList_at 12 rfl ?_); refine wpList_ix (k := 68) (j := j) Tryd.underlying24 (by kernel_rfl) (.tmp 7) (.tmp 9) rfl rfl rfl rfl hlt rfl ?_) | ((with_reducible refine wpList_at 13 rfl ?_); refine wpList_ld 28 (.tmp 12) rfl rfl rfl (LD.out _ E.out.below) ?_) | ((with_reducible refine wpList_at 6 rfl ?_); refine mem_alloc E 28 rfl rfl ZI.out ?_; clear E; intro b6 w6 E) | ((with_reducible refine wpList_nd rfl ?_); refine mem_store_row 0 E 28 rfl (.tmp 6) (.tmp 13) rfl rfl rfl rfl (by rw [arr_size]; kernel_rfl) (by rw [arr_size]; exact ZS.out) (hc_one h) ?_; clear E; intro w7 E; simp only [List.set_cons_zero] at E))
        refine wp_region_T (Φ := fun X => Mem w [(b6, 28, arr 68 (hc h)), (b2, 23, arr 32 (bv f))] X) (S := fun X => Mem w [(b6, 28, arr 68 (hc h)), (b2, 23, arr 32 (bv f))] X) E (fun X h => h.drew) (fun X h => h) (by kernel_rfl) ?_
        clear E
        intro wx TT S0
        clear TT
        refine hm_run 0 14 (.int .i64 (j : Int)) rfl rfl (by kernel_rfl) (by kernel_rfl) (by kernel_rfl) (fun _ _ _ h => h) rfl (fun _ _ => rfl) S0.out ?_
        try simp only [Act.put, List.getElem_toArray, List.getElem_cons_succ, List.getElem_cons_zero, List.setIfInBounds_toArray, List.set_cons_zero, List.set_cons_succ]
        refine hm_run 1 15 (.bool false) rfl rfl (by kernel_rfl) (by kernel_rfl) (by kernel_rfl) (fun _ _ _ h => h) rfl (fun _ _ => exec_eql3 rfl rfl rfl EQ0.out) S0.out ?_
        try simp only [Act.put, List.getElem_toArray, List.getElem_cons_succ, List.getElem_cons_zero, List.setIfInBounds_toArray, List.set_cons_zero, List.set_cons_succ]
        refine hm_run 2 16 (.bool false) rfl rfl (by kernel_rfl) (by kernel_rfl) (by kernel_rfl) (fun _ _ _ h => h) rfl (fun _ _ => rfl) S0.out ?_
        try simp only [Act.put, List.getElem_toArray, List.getElem_cons_succ, List.getElem_cons_zero, List.setIfInBounds_toArray, List.set_cons_zero, List.set_cons_succ]
        refine hm_off 3 17 rfl rfl (by kernel_rfl) (by kernel_rfl) (by kernel_rfl) (fun _ _ _ h => h) rfl S0.out ?_
        try simp only [Act.put, List.getElem_toArray, List.getElem_cons_succ, List.getElem_cons_zero, List.setIfInBounds_toArray, List.set_cons_zero, List.set_cons_succ]
        refine hm_off 4 18 rfl rfl (by kernel_rfl) (by kernel_rfl) (by kernel_rfl) (fun _ _ _ h => h) rfl S0.out ?_
        try simp only [Act.put, List.getElem_toArray, List.getElem_cons_succ, List.getElem_cons_zero, List.setIfInBounds_toArray, List.set_cons_zero, List.set_cons_succ]
        refine hm_off 5 19 rfl rfl (by kernel_rfl) (by kernel_rfl) (by kernel_rfl) (fun _ _ _ h => h) rfl S0.out ?_
        try simp only [Act.put, List.getElem_toArray, List.getElem_cons_succ, List.getElem_cons_zero, List.setIfInBounds_toArray, List.set_cons_zero, List.set_cons_succ]
        refine hm_off 6 20 rfl rfl (by kernel_rfl) (by kernel_rfl) (by kernel_rfl) (fun _ _ _ h => h) rfl S0.out ?_
        try simp only [Act.put, List.getElem_toArray, List.getElem_cons_succ, List.getElem_cons_zero, List.setIfInBounds_toArray, List.set_cons_zero, List.set_cons_succ]
        refine hm_run 7 21 (.bool false) rfl rfl (by kernel_rfl) (by kernel_rfl) (by kernel_rfl) (fun _ _ _ h => h) rfl (fun _ _ => rfl) S0.out ?_
        try simp only [Act.put, List.getElem_toArray, List.getElem_cons_succ, List.getElem_cons_zero, List.setIfInBounds_toArray, List.set_cons_zero, List.set_cons_succ]
        refine hm_run 8 22 (.bool false) rfl rfl (by kernel_rfl) (by kernel_rfl) (by kernel_rfl) (fun _ _ _ h => h) rfl (fun _ _ => rfl) S0.out ?_
        try simp only [Act.put, List.getElem_toArray, List.getElem_cons_succ, List.getElem_cons_zero, List.setIfInBounds_toArray, List.set_cons_zero, List.set_cons_succ]
        refine hm_run 9 23 (.int .i64 (j : Int)) rfl rfl (by kernel_rfl) (by kernel_rfl) (by kernel_rfl) (fun _ _ _ h => h) rfl (fun _ _ => rfl) S0.out ?_
        try simp only [Act.put, List.getElem_toArray, List.getElem_cons_succ, List.getElem_cons_zero, List.setIfInBounds_toArray, List.set_cons_zero, List.set_cons_succ]
        refine hm_run 10 24 (.bool true) rfl rfl (by kernel_rfl) (by kernel_rfl) (by kernel_rfl) (fun _ _ _ h => h) rfl (fun _ _ => exec_gtr3 rfl rfl rfl GT0.out) S0.out ?_
        try simp only [Act.put, List.getElem_toArray, List.getElem_cons_succ, List.getElem_cons_zero, List.setIfInBounds_toArray, List.set_cons_zero, List.set_cons_succ]
        refine hm_run 11 25 (.bool true) rfl rfl (by kernel_rfl) (by kernel_rfl) (by kernel_rfl) (fun _ _ _ h => h) rfl (fun _ _ => rfl) S0.out ?_
        try simp only [Act.put, List.getElem_toArray, List.getElem_cons_succ, List.getElem_cons_zero, List.setIfInBounds_toArray, List.set_cons_zero, List.set_cons_succ]
        refine hm_run 12 26 (.pointer (some ⟨b6, 1, none⟩)) rfl rfl (by kernel_rfl) (by kernel_rfl) (by kernel_rfl) (fun _ _ _ h => h) rfl (fun _ _ => rfl) S0.out ?_
        try simp only [Act.put, List.getElem_toArray, List.getElem_cons_succ, List.getElem_cons_zero, List.setIfInBounds_toArray, List.set_cons_zero, List.set_cons_succ]
        refine hm_run 13 27 (.agg (arr 32 (bv h.prev))) rfl rfl (by kernel_rfl) (by kernel_rfl) (by kernel_rfl) (fun _ _ _ h => h) rfl (fun W hW => exec_load rfl (load_prev (hW.get List.mem_cons_self))) S0.out ?_
        try simp only [Act.put, List.getElem_toArray, List.getElem_cons_succ, List.getElem_cons_zero, List.setIfInBounds_toArray, List.set_cons_zero, List.set_cons_succ]
        refine hm_run 14 28 (.slice (some ⟨g, o, none⟩) n c) rfl rfl (by kernel_rfl) (by kernel_rfl) (by kernel_rfl) (fun _ _ _ h => h) rfl (fun _ _ => rfl) S0.out ?_
        try simp only [Act.put, List.getElem_toArray, List.getElem_cons_succ, List.getElem_cons_zero, List.setIfInBounds_toArray, List.set_cons_zero, List.set_cons_succ]
        refine hm_run 15 29 (.int .i64 (j : Int)) rfl rfl (by kernel_rfl) (by kernel_rfl) (by kernel_rfl) (fun _ _ _ h => h) rfl (fun _ _ => rfl) S0.out ?_
        try simp only [Act.put, List.getElem_toArray, List.getElem_cons_succ, List.getElem_cons_zero, List.setIfInBounds_toArray, List.set_cons_zero, List.set_cons_succ]
        refine hm_run 16 30 (.int .i64 ((j1 : Nat) : Int)) rfl rfl (by kernel_rfl) (by kernel_rfl) (by kernel_rfl) (fun _ _ _ h => h) rfl (fun _ _ => exec_sub rfl rfl rfl SB.out) S0.out ?_
        try simp only [Act.put, List.getElem_toArray, List.getElem_cons_succ, List.getElem_cons_zero, List.setIfInBounds_toArray, List.set_cons_zero, List.set_cons_succ]
        refine hm_run 17 31 (.pointer (some ⟨g, o + j1 * 68, none⟩)) rfl rfl (by kernel_rfl) (by kernel_rfl) (by kernel_rfl) (fun _ _ _ h => h) rfl (fun W _ => exec_ix rfl (run_ix (k := 68) Tryd.underlying24 (by kernel_rfl) J1.out rfl W)) S0.out ?_
        try simp only [Act.put, List.getElem_toArray, List.getElem_cons_succ, List.getElem_cons_zero, List.setIfInBounds_toArray, List.set_cons_zero, List.set_cons_succ]
        refine hm_run 18 32 (.agg (arr 68 (hc y))) rfl rfl (by kernel_rfl) (by kernel_rfl) (by kernel_rfl) (fun _ _ _ h => h) rfl (fun W hW => exec_load rfl (LD1.out W hW.below)) S0.out ?_
        try simp only [Act.put, List.getElem_toArray, List.getElem_cons_succ, List.getElem_cons_zero, List.setIfInBounds_toArray, List.set_cons_zero, List.set_cons_succ]
        refine hm_one (i := 19) (by kernel_rfl) ?_
        refine hm_step 19 rfl (by kernel_rfl) fun K hK => ?_
        try simp only [Act.put, List.getElem_toArray, List.getElem_cons_succ, List.getElem_cons_zero, List.setIfInBounds_toArray, List.set_cons_zero, List.set_cons_succ]
        go_simp
        go_at_call 9
        refine (ridb_any OKY).mono ?_
        rintro e w8 ⟨rfl, hb⟩
        have S19_19 := Lib.hid (S0.out.call hb)
        clear hb
        refine hK _ _ S19_19.out ?_
        clear hK K
        try simp only [Act.put, List.getElem_toArray, List.getElem_cons_succ, List.getElem_cons_zero, List.setIfInBounds_toArray, List.set_cons_zero, List.set_cons_succ]
        refine hm_run 20 34 (.bool (!r1)) rfl rfl (by kernel_rfl) (by kernel_rfl) (by kernel_rfl) (fun _ _ _ h => h) rfl (fun W _ => exec_neqA rfl rfl rfl (by kernel_rfl) (EQ.out W)) S19_19.out ?_
        try simp only [Act.put, List.getElem_toArray, List.getElem_cons_succ, List.getElem_cons_zero, List.setIfInBounds_toArray, List.set_cons_zero, List.set_cons_succ]
        refine hm_run 21 35 (.bool (!r1)) rfl rfl (by kernel_rfl) (by kernel_rfl) (by kernel_rfl) (fun _ _ _ h => h) rfl (fun _ _ => rfl) S19_19.out ?_
        try simp only [Act.put, List.getElem_toArray, List.getElem_cons_succ, List.getElem_cons_zero, List.setIfInBounds_toArray, List.set_cons_zero, List.set_cons_succ]
        refine hm_run 22 36 (.bool (!r1)) rfl rfl (by kernel_rfl) (by kernel_rfl) (by kernel_rfl) (fun _ _ _ h => h) rfl (fun _ _ => rfl) S19_19.out ?_
        try simp only [Act.put, List.getElem_toArray, List.getElem_cons_succ, List.getElem_cons_zero, List.setIfInBounds_toArray, List.set_cons_zero, List.set_cons_succ]
        refine wpAnyH_done (by kernel_rfl) ?_ _
        have E := S19_19
        clear S19_19
        cases r1
        · go_wp2_with fail
          go_ret
          exact ⟨by rw [YES.out j JL.out BD.out]; rfl, E.out.below⟩
        · go_wp2_with ((with_reducible refine wpList_at 37 rfl ?_); refine wpList_kn rfl (.int .i64 ((j + 1 : Nat) : Int)) (by exact exec_add rfl rfl rfl (by have := MJ.out; have := HN.out; rw [IntKind.wrap_i64]; omega)) ?_)
          go_roundg (n - (j + 1))
          case measure => have := MJ.out; omega
          case rel => exact ⟨j + 1, by have := MJ.out; omega, rfl, Lib.hid (bad_snoc BN.out BD.out), Lib.hid E.out.tail⟩
        
    · have LT := Lib.hid (show decide ((j : Int) < (n : Int)) = false from decide_eq_false (by omega))
      have R := Lib.hid (show r = true from ALL.out fun i hi => BN.out i (by have := HN.out; omega))
      clear hlt hj
      go_wp2_with ((with_reducible refine wpList_at 10 rfl ?_); refine wpList_kn rfl (.bool false) (by exact exec_lss3 rfl rfl rfl LT.out) ?_)
      go_ret
      exact ⟨by rw [R.out]; rfl, E.out.below⟩
end Go.Proofs.YtoopcmcmjaikhaaDoor
