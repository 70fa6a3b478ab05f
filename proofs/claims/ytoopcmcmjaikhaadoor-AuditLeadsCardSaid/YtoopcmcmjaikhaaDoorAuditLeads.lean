/- For every hash and every list of headers: of the first forty of them, and of the first one's ID in place of a hash whose first byte is even, the program and the document tell the same: whether the headers make a way; no headers make one; the call returns true. The two tables of package sha are laid as the program's text lays them; the card ties it. No other condition. -/
import Derived.Test.YtoopcmcmjaikhaaDoorLe
import Derived.Test.YtoopcmcmjaikhaaDoorZA
import Derived.Test.YtoopcmcmjaikhaaDoorLt2
import Derived.Test.YtoopcmcmjaikhaaDoorRop
import Derived.Test.YtoopcmcmjaikhaaDoorTie
import Derived.Test.YtoopcmcmjaikhaaDoorCards
import Derived.Lay
import Derived.ShutString
import Derived.ChangeOld
import Derived.Below
import Derived.SevenTiedAt
set_option linter.unusedVariables false
set_option linter.unusedSimpArgs false
namespace Go.Proofs.YtoopcmcmjaikhaaDoor.auditLeads
open Go.ChangeShapes Go.WideShapes Go.ChangeAt Go.RowKit Go.Lib Go.Sort Go.Proofs.YtoopcmcmjaikhaaDoor

set_option maxRecDepth 100000
theorem own : ownKnob Tryd.prog.godebug = none := by kernel_rfl
theorem bv_one (f : Nat → Nat) : (arr 32 (bv f)).all (·.oneCell') = true := Array.all_eq_true_iff_forall_mem.2 fun v hv => by
  simp only [arr, List.mem_toArray, List.mem_map] at hv
  obtain ⟨i, _, rfl⟩ := hv
  rfl
theorem exec_eqb3 {o : Oper} {ev : Operand → Value} {W : World} {x y : Operand} {a : Bool} (ho : o.op = .binOp .eql 4 x y 4) (hx : ev x = .bool a) (hy : ev y = .bool a) : (execOp ev o).run Tryd.prog W = .ok (.value (.bool true)) W := by
  unfold execOp
  simp [ho, hx, hy, go_sem, Tryd.underlying4]
theorem exec_rem5 {o : Oper} {ev : Operand → Value} {W : World} {x y : Operand} {a : Nat} (ho : o.op = .binOp .rem 5 x y 5) (hx : ev x = .int .u8 ((a : Nat) : Int)) (hy : ev y = .int .u8 2) : (execOp ev o).run Tryd.prog W = .ok (.value (.int .u8 ((a % 2 : Nat) : Int))) W := by
  have e0 : (a : Int).tmod 2 = ((a % 2 : Nat) : Int) := rfl
  have e : IntKind.u8.wrap ((a % 2 : Nat) : Int) = ((a % 2 : Nat) : Int) := by
    have : a % 2 < 2 := Nat.mod_lt _ (by decide)
    rw [IntKind.wrap_u8]; omega
  unfold execOp
  simp [ho, hx, hy, go_sem, Tryd.underlying5, e0, e]
theorem exec_eq5 {o : Oper} {ev : Operand → Value} {W : World} {x y : Operand} {a b : Int} {q : Bool} (ho : o.op = .binOp .eql 5 x y 5) (hx : ev x = .int .u8 a) (hy : ev y = .int .u8 b) (hq : decide (a = b) = q) : (execOp ev o).run Tryd.prog W = .ok (.value (.bool q)) W := by
  subst hq
  unfold execOp
  by_cases h : a = b
  · simp [ho, hx, hy, go_sem, Tryd.underlying5, h]
  · simp [ho, hx, hy, go_sem, Tryd.underlying5, h]
set_option maxHeartbeats 16000000 in
theorem walk (W : World) (hL : laidMetH Tryd.prog S.shaLaid W) (t0 : List Nat) (w0 : IsH t0) (v1 : Value) (t1 : List Hd) (w1 : HdsAt W v1 t1) :
    Calls Tryd.prog 3 #[.agg (arr 32 (bv (lf t0))), v1] W fun e w' => e = .returned (.bool true) ∧ Below W.heap.size W w' := by
  have E := Lib.hid (Mem.nil W)
  have LB := Lib.hid (show S.Both W from S.of_sha hL)
  obtain ⟨p, g, o, c, V, hv, hc', RV, hi⟩ := id w1
  subst hv
  obtain ⟨m, hm⟩ : ∃ m, m = min t1.length 40 := ⟨_, rfl⟩
  obtain ⟨q, hq, hmc, A2⟩ := heads_take w1 (m := m) (by omega)
  have hml : (t1.take m).length = m := by rw [List.length_take]; omega
  obtain ⟨ts, hts⟩ : ∃ ts, ts = t1.take m := ⟨_, rfl⟩
  rw [← hts] at A2 hml
  rw [hml] at A2
  have A := Lib.hid A2
  have CUTS := Lib.hid (show ∀ w, (Instr.sliceAt 24 (.slice p t1.length c) none (some (.int .i64 ((m : Nat) : Int))) none).run Tryd.prog w = .ok (.slice q m c) w from fun w => run_cut Tryd.underlying24 (by intro w; kernel_rfl) hq hmc w)
  obtain ⟨N, hN⟩ : ∃ N, N = t1.length := ⟨_, rfl⟩
  rw [← hN] at CUTS ⊢
  have MIN := Lib.hid (show min (N : Int) 40 = ((m : Nat) : Int) by omega)
  have CALL := Lib.hid (show ∀ f1 : Nat → Nat, ∃ r, (∀ w, Below W.heap.size W w → Calls Tryd.prog 10 #[.agg (arr 32 (bv f1)), .slice q m c] w fun e w' => e = .returned (.bool r) ∧ Below w.heap.size w w') ∧ (∀ w, Below W.heap.size W w → Calls Tryd.prog 11 #[.agg (arr 32 (bv f1)), .slice q m c] w fun e w' => e = .returned (.bool r) ∧ Below w.heap.size w w') ∧ (∀ w, Below W.heap.size W w → Calls Tryd.prog 10 #[.agg (arr 32 (bv f1)), .slice none 0 0] w fun e w' => e = .returned (.bool true) ∧ Below w.heap.size w w') from fun f1 =>
    ⟨leadsN f1 ts, fun w hb => leads_any (Lib.hid (A.out.below hb)) (Lib.hid (LB.out.below hb)), fun w hb => rleads_any (Lib.hid (A.out.below hb)) (Lib.hid (LB.out.below hb)), fun w hb => leads_any (l := []) (Lib.hid (HdsAt.empty w)) (Lib.hid (LB.out.below hb))⟩)
  obtain ⟨x0, hx0⟩ : ∃ x0, x0 = lf t0 0 := ⟨_, rfl⟩
  have X0 := Lib.hid (show (arr 32 (bv (lf t0)))[0]? = some (.int .u8 ((x0 : Nat) : Int)) by rw [arr_get 32 _ 0 (by decide), hx0]; rfl)
  by_cases hm0 : 0 < m
  · have GM := Lib.hid (show decide ((0 : Int) < (m : Int)) = true from decide_eq_true (by omega))
    by_cases h2 : x0 % 2 = 0
    · have G2 := Lib.hid (show decide (((x0 % 2 : Nat) : Int) = 0) = true from decide_eq_true (by omega))
      obtain ⟨p2, g2, o2, c2, V2, hv2, hc2, RV2, hi2⟩ := A.out
      rw [hml] at hv2 RV2
      injection hv2 with e1 _ e3
      subst e1 e3
      obtain rfl := RV2.head (by omega)
      have ht : 0 < ts.length := by omega
      obtain ⟨h, hh⟩ : ∃ h, h = ts[0] := ⟨_, rfl⟩
      have CC := hi2 0 ht
      rw [← hh] at CC
      have LD := Lib.hid (show ∀ w, Below W.heap.size W w → (Instr.loadAt 28 (.pointer (some ⟨g2, o2 + 0 * 68, none⟩))).run Tryd.prog w = .ok (.agg (arr 68 (hc h))) w from fun w hb => by
        have := (RV2.below hb).load (i := 0) hm0 Tryd.underlying28 rfl (by kernel_rfl)
        rwa [arr_congr CC.1] at this)
      have OK := Lib.hid CC.2
      obtain ⟨f1, hf1⟩ : ∃ f1, f1 = idF h := ⟨_, rfl⟩
      obtain ⟨r, c1', c2', c3'⟩ := CALL.out f1
      have C1 := Lib.hid c1'
      have C2 := Lib.hid c2'
      have C3 := Lib.hid c3'
      have MP := Lib.hid hm0
      have ID := Lib.hid (show ∀ w, Calls Tryd.prog 9 #[.agg (arr 68 (hc h))] w fun e w' => e = .returned (.agg (arr 32 (bv f1))) ∧ Below w.heap.size w w' from fun w => by rw [hf1]; exact ridb_any OK)
      clear hL w0 w1 hc' RV hi hm hq hmc A2 hml hts hN A hm0 h2 hc2 RV2 hi2 ht hh CC hf1 CALL c1' c2' c3' hx0
      go_enter Tryd.func3, Tryd.ntmps3
      go_upto_region 4 with (first
    | ((with_reducible refine wpList_at 2 rfl ?_); refine mem_box E 23 rfl _ rfl rfl (arr_cells' 32 (bv (lf t0))) ?_; clear E; intro b2 w2 E)
    | ((with_reducible refine wpList_at 8 rfl ?_); refine wpList_kn rfl (.int .i64 ((m : Nat) : Int)) (by exact exec_min rfl rfl rfl rfl MIN.out) ?_)
    | ((with_reducible refine wpList_at 9 rfl ?_); refine wpList_kn rfl (.slice (some ⟨g2, o2, none⟩) m c) (by exact exec_sl rfl (CUTS.out _)) ?_)
    | ((with_reducible refine wpList_at 12 rfl ?_); refine wpList_kn rfl (.bool true) (by exact exec_gtr3 rfl rfl rfl GM.out) ?_)
    | ((with_reducible refine wpList_at 15 rfl ?_); refine mem_load_cell E 5 rfl (.tmp 14) rfl rfl List.mem_cons_self Tryd.underlying5 rfl X0.out ?_)
    | ((with_reducible refine wpList_at 16 rfl ?_); refine wpList_kn rfl (.int .u8 ((x0 % 2 : Nat) : Int)) (by exact exec_rem5 rfl rfl rfl) ?_)
    | ((with_reducible refine wpList_at 17 rfl ?_); refine wpList_kn rfl (.bool true) (by exact exec_eq5 rfl rfl rfl G2.out) ?_)
    | ((with_reducible refine wpList_at 20 rfl ?_); refine wpList_ix (k := 68) (j := 0) Tryd.underlying24 (by kernel_rfl) (.tmp 19) (.const (.int .i64 0)) rfl rfl rfl rfl MP.out rfl ?_)
    | ((with_reducible refine wpList_at 21 rfl ?_); refine wpList_ld 28 (.tmp 20) rfl rfl rfl (LD.out _ E.out.below) ?_)
    | (go_at_call 9; refine (ID.out _).mono ?_; rintro e w5 ⟨rfl, hb⟩; replace E := Lib.hid (E.out.call hb); clear hb)
    | ((with_reducible refine wpList_nd rfl ?_); refine mem_store_row 0 E 23 rfl (.tmp 2) (.tmp 22) rfl rfl rfl rfl (by rw [arr_size]; kernel_rfl) (by simp only [arr_size]) (bv_one f1) ?_; clear E; intro w7 E; simp only [List.set_cons_zero] at E))
      refine wp_region_T (Φ := fun X => Mem W [(b2, 23, arr 32 (bv f1))] X) (S := fun X => Mem W [(b2, 23, arr 32 (bv f1))] X) E (fun X h => h.drew) (fun X h => h) (by kernel_rfl) ?_
      clear E
      intro wx TT S0
      clear TT
      refine hm_load_row 0 23 23 (.tmp 2) rfl rfl (by kernel_rfl) (by kernel_rfl) (by kernel_rfl) (fun _ _ _ h => h) rfl rfl rfl (fun X hX => hX.get List.mem_cons_self) Tryd.underlying23 rfl (by rw [arr_size]; kernel_rfl) S0.out ?_
      try simp only [Act.put, List.getElem_toArray, List.getElem_cons_succ, List.getElem_cons_zero, List.setIfInBounds_toArray, List.set_cons_zero, List.set_cons_succ]
      refine hm_run 1 24 (.slice (some ⟨g2, o2, none⟩) m c) rfl rfl (by kernel_rfl) (by kernel_rfl) (by kernel_rfl) (fun _ _ _ h => h) rfl (fun _ _ => rfl) S0.out ?_
      try simp only [Act.put, List.getElem_toArray, List.getElem_cons_succ, List.getElem_cons_zero, List.setIfInBounds_toArray, List.set_cons_zero, List.set_cons_succ]
      refine hm_load_row 3 26 23 (.tmp 2) rfl rfl (by kernel_rfl) (by kernel_rfl) (by kernel_rfl) (fun _ _ _ h => h) rfl rfl rfl (fun X hX => hX.get List.mem_cons_self) Tryd.underlying23 rfl (by rw [arr_size]; kernel_rfl) S0.out ?_
      try simp only [Act.put, List.getElem_toArray, List.getElem_cons_succ, List.getElem_cons_zero, List.setIfInBounds_toArray, List.set_cons_zero, List.set_cons_succ]
      refine hm_run 4 27 (.slice (some ⟨g2, o2, none⟩) m c) rfl rfl (by kernel_rfl) (by kernel_rfl) (by kernel_rfl) (fun _ _ _ h => h) rfl (fun _ _ => rfl) S0.out ?_
      try simp only [Act.put, List.getElem_toArray, List.getElem_cons_succ, List.getElem_cons_zero, List.setIfInBounds_toArray, List.set_cons_zero, List.set_cons_succ]
      refine hm_one (i := 2) (by kernel_rfl) ?_
      refine hm_step 2 rfl (by kernel_rfl) fun K hK => ?_
      try simp only [Act.put, List.getElem_toArray, List.getElem_cons_succ, List.getElem_cons_zero, List.setIfInBounds_toArray, List.set_cons_zero, List.set_cons_succ]
      go_simp
      go_at_call 10
      with_reducible refine (C1.out _ S0.out.below).mono ?_
      rintro e w8 ⟨rfl, hb⟩
      have S2_4 := Lib.hid (S0.out.call hb)
      clear hb
      refine hK _ _ S2_4.out ?_
      clear hK K
      try simp only [Act.put, List.getElem_toArray, List.getElem_cons_succ, List.getElem_cons_zero, List.setIfInBounds_toArray, List.set_cons_zero, List.set_cons_succ]
      refine hm_one (i := 5) (by kernel_rfl) ?_
      refine hm_step 5 rfl (by kernel_rfl) fun K hK => ?_
      try simp only [Act.put, List.getElem_toArray, List.getElem_cons_succ, List.getElem_cons_zero, List.setIfInBounds_toArray, List.set_cons_zero, List.set_cons_succ]
      go_simp
      go_at_call 11
      with_reducible refine (C2.out _ S2_4.out.below).mono ?_
      rintro e w8 ⟨rfl, hb⟩
      have S5_5 := Lib.hid (S2_4.out.call hb)
      clear hb
      refine hK _ _ S5_5.out ?_
      clear hK K
      try simp only [Act.put, List.getElem_toArray, List.getElem_cons_succ, List.getElem_cons_zero, List.setIfInBounds_toArray, List.set_cons_zero, List.set_cons_succ]
      refine hm_run 6 29 (.bool true) rfl rfl (by kernel_rfl) (by kernel_rfl) (by kernel_rfl) (fun _ _ _ h => h) rfl (fun _ _ => exec_eqb3 rfl rfl rfl) S5_5.out ?_
      try simp only [Act.put, List.getElem_toArray, List.getElem_cons_succ, List.getElem_cons_zero, List.setIfInBounds_toArray, List.set_cons_zero, List.set_cons_succ]
      refine hm_run 7 30 (.bool true) rfl rfl (by kernel_rfl) (by kernel_rfl) (by kernel_rfl) (fun _ _ _ h => h) rfl (fun _ _ => rfl) S5_5.out ?_
      try simp only [Act.put, List.getElem_toArray, List.getElem_cons_succ, List.getElem_cons_zero, List.setIfInBounds_toArray, List.set_cons_zero, List.set_cons_succ]
      refine hm_load_row 8 31 23 (.tmp 2) rfl rfl (by kernel_rfl) (by kernel_rfl) (by kernel_rfl) (fun _ _ _ h => h) rfl rfl rfl (fun X hX => hX.get List.mem_cons_self) Tryd.underlying23 rfl (by rw [arr_size]; kernel_rfl) S5_5.out ?_
      try simp only [Act.put, List.getElem_toArray, List.getElem_cons_succ, List.getElem_cons_zero, List.setIfInBounds_toArray, List.set_cons_zero, List.set_cons_succ]
      refine hm_one (i := 9) (by kernel_rfl) ?_
      refine hm_step 9 rfl (by kernel_rfl) fun K hK => ?_
      try simp only [Act.put, List.getElem_toArray, List.getElem_cons_succ, List.getElem_cons_zero, List.setIfInBounds_toArray, List.set_cons_zero, List.set_cons_succ]
      go_simp
      go_at_call 10
      with_reducible refine (C3.out _ S5_5.out.below).mono ?_
      rintro e w8 ⟨rfl, hb⟩
      have S9_9 := Lib.hid (S5_5.out.call hb)
      clear hb
      refine hK _ _ S9_9.out ?_
      clear hK K
      try simp only [Act.put, List.getElem_toArray, List.getElem_cons_succ, List.getElem_cons_zero, List.setIfInBounds_toArray, List.set_cons_zero, List.set_cons_succ]
      refine hm_run 10 33 (.bool true) rfl rfl (by kernel_rfl) (by kernel_rfl) (by kernel_rfl) (fun _ _ _ h => h) rfl (fun _ _ => rfl) S9_9.out ?_
      try simp only [Act.put, List.getElem_toArray, List.getElem_cons_succ, List.getElem_cons_zero, List.setIfInBounds_toArray, List.set_cons_zero, List.set_cons_succ]
      refine hm_run 11 4 (.bool true) rfl rfl (by kernel_rfl) (by kernel_rfl) (by kernel_rfl) (fun _ _ _ h => h) rfl (fun _ _ => rfl) S9_9.out ?_
      try simp only [Act.put, List.getElem_toArray, List.getElem_cons_succ, List.getElem_cons_zero, List.setIfInBounds_toArray, List.set_cons_zero, List.set_cons_succ]
      refine wpAnyH_done (by kernel_rfl) ?_ _
      have E := S9_9
      clear S9_9
      go_wp2_with fail
      go_ret
      exact ⟨rfl, E.out.below⟩
    
    · have G2 := Lib.hid (show decide (((x0 % 2 : Nat) : Int) = 0) = false from decide_eq_false (by omega))
      obtain ⟨f1, hf1⟩ : ∃ f1, f1 = lf t0 := ⟨_, rfl⟩
      rw [← hf1] at X0 ⊢
      obtain ⟨r, c1', c2', c3'⟩ := CALL.out f1
      have C1 := Lib.hid c1'
      have C2 := Lib.hid c2'
      have C3 := Lib.hid c3'
      clear hL w0 w1 hc' RV hi hm hq hmc A2 hml hts hN A hm0 h2 hf1 CALL c1' c2' c3' hx0
      go_enter Tryd.func3, Tryd.ntmps3
      go_upto_region 4 with (first
    | ((with_reducible refine wpList_at 2 rfl ?_); refine mem_box E 23 rfl _ rfl rfl (arr_cells' 32 (bv (f1))) ?_; clear E; intro b2 w2 E)
    | ((with_reducible refine wpList_at 8 rfl ?_); refine wpList_kn rfl (.int .i64 ((m : Nat) : Int)) (by exact exec_min rfl rfl rfl rfl MIN.out) ?_)
    | ((with_reducible refine wpList_at 9 rfl ?_); refine wpList_kn rfl (.slice q m c) (by exact exec_sl rfl (CUTS.out _)) ?_)
    | ((with_reducible refine wpList_at 12 rfl ?_); refine wpList_kn rfl (.bool true) (by exact exec_gtr3 rfl rfl rfl GM.out) ?_)
    | ((with_reducible refine wpList_at 15 rfl ?_); refine mem_load_cell E 5 rfl (.tmp 14) rfl rfl List.mem_cons_self Tryd.underlying5 rfl X0.out ?_)
    | ((with_reducible refine wpList_at 16 rfl ?_); refine wpList_kn rfl (.int .u8 ((x0 % 2 : Nat) : Int)) (by exact exec_rem5 rfl rfl rfl) ?_)
    | ((with_reducible refine wpList_at 17 rfl ?_); refine wpList_kn rfl (.bool false) (by exact exec_eq5 rfl rfl rfl G2.out) ?_))
      refine wp_region_T (Φ := fun X => Mem W [(b2, 23, arr 32 (bv f1))] X) (S := fun X => Mem W [(b2, 23, arr 32 (bv f1))] X) E (fun X h => h.drew) (fun X h => h) (by kernel_rfl) ?_
      clear E
      intro wx TT S0
      clear TT
      refine hm_load_row 0 23 23 (.tmp 2) rfl rfl (by kernel_rfl) (by kernel_rfl) (by kernel_rfl) (fun _ _ _ h => h) rfl rfl rfl (fun X hX => hX.get List.mem_cons_self) Tryd.underlying23 rfl (by rw [arr_size]; kernel_rfl) S0.out ?_
      try simp only [Act.put, List.getElem_toArray, List.getElem_cons_succ, List.getElem_cons_zero, List.setIfInBounds_toArray, List.set_cons_zero, List.set_cons_succ]
      refine hm_run 1 24 (.slice q m c) rfl rfl (by kernel_rfl) (by kernel_rfl) (by kernel_rfl) (fun _ _ _ h => h) rfl (fun _ _ => rfl) S0.out ?_
      try simp only [Act.put, List.getElem_toArray, List.getElem_cons_succ, List.getElem_cons_zero, List.setIfInBounds_toArray, List.set_cons_zero, List.set_cons_succ]
      refine hm_load_row 3 26 23 (.tmp 2) rfl rfl (by kernel_rfl) (by kernel_rfl) (by kernel_rfl) (fun _ _ _ h => h) rfl rfl rfl (fun X hX => hX.get List.mem_cons_self) Tryd.underlying23 rfl (by rw [arr_size]; kernel_rfl) S0.out ?_
      try simp only [Act.put, List.getElem_toArray, List.getElem_cons_succ, List.getElem_cons_zero, List.setIfInBounds_toArray, List.set_cons_zero, List.set_cons_succ]
      refine hm_run 4 27 (.slice q m c) rfl rfl (by kernel_rfl) (by kernel_rfl) (by kernel_rfl) (fun _ _ _ h => h) rfl (fun _ _ => rfl) S0.out ?_
      try simp only [Act.put, List.getElem_toArray, List.getElem_cons_succ, List.getElem_cons_zero, List.setIfInBounds_toArray, List.set_cons_zero, List.set_cons_succ]
      refine hm_one (i := 2) (by kernel_rfl) ?_
      refine hm_step 2 rfl (by kernel_rfl) fun K hK => ?_
      try simp only [Act.put, List.getElem_toArray, List.getElem_cons_succ, List.getElem_cons_zero, List.setIfInBounds_toArray, List.set_cons_zero, List.set_cons_succ]
      go_simp
      go_at_call 10
      with_reducible refine (C1.out _ S0.out.below).mono ?_
      rintro e w8 ⟨rfl, hb⟩
      have S2_4 := Lib.hid (S0.out.call hb)
      clear hb
      refine hK _ _ S2_4.out ?_
      clear hK K
      try simp only [Act.put, List.getElem_toArray, List.getElem_cons_succ, List.getElem_cons_zero, List.setIfInBounds_toArray, List.set_cons_zero, List.set_cons_succ]
      refine hm_one (i := 5) (by kernel_rfl) ?_
      refine hm_step 5 rfl (by kernel_rfl) fun K hK => ?_
      try simp only [Act.put, List.getElem_toArray, List.getElem_cons_succ, List.getElem_cons_zero, List.setIfInBounds_toArray, List.set_cons_zero, List.set_cons_succ]
      go_simp
      go_at_call 11
      with_reducible refine (C2.out _ S2_4.out.below).mono ?_
      rintro e w8 ⟨rfl, hb⟩
      have S5_5 := Lib.hid (S2_4.out.call hb)
      clear hb
      refine hK _ _ S5_5.out ?_
      clear hK K
      try simp only [Act.put, List.getElem_toArray, List.getElem_cons_succ, List.getElem_cons_zero, List.setIfInBounds_toArray, List.set_cons_zero, List.set_cons_succ]
      refine hm_run 6 29 (.bool true) rfl rfl (by kernel_rfl) (by kernel_rfl) (by kernel_rfl) (fun _ _ _ h => h) rfl (fun _ _ => exec_eqb3 rfl rfl rfl) S5_5.out ?_
      try simp only [Act.put, List.getElem_toArray, List.getElem_cons_succ, List.getElem_cons_zero, List.setIfInBounds_toArray, List.set_cons_zero, List.set_cons_succ]
      refine hm_run 7 30 (.bool true) rfl rfl (by kernel_rfl) (by kernel_rfl) (by kernel_rfl) (fun _ _ _ h => h) rfl (fun _ _ => rfl) S5_5.out ?_
      try simp only [Act.put, List.getElem_toArray, List.getElem_cons_succ, List.getElem_cons_zero, List.setIfInBounds_toArray, List.set_cons_zero, List.set_cons_succ]
      refine hm_load_row 8 31 23 (.tmp 2) rfl rfl (by kernel_rfl) (by kernel_rfl) (by kernel_rfl) (fun _ _ _ h => h) rfl rfl rfl (fun X hX => hX.get List.mem_cons_self) Tryd.underlying23 rfl (by rw [arr_size]; kernel_rfl) S5_5.out ?_
      try simp only [Act.put, List.getElem_toArray, List.getElem_cons_succ, List.getElem_cons_zero, List.setIfInBounds_toArray, List.set_cons_zero, List.set_cons_succ]
      refine hm_one (i := 9) (by kernel_rfl) ?_
      refine hm_step 9 rfl (by kernel_rfl) fun K hK => ?_
      try simp only [Act.put, List.getElem_toArray, List.getElem_cons_succ, List.getElem_cons_zero, List.setIfInBounds_toArray, List.set_cons_zero, List.set_cons_succ]
      go_simp
      go_at_call 10
      with_reducible refine (C3.out _ S5_5.out.below).mono ?_
      rintro e w8 ⟨rfl, hb⟩
      have S9_9 := Lib.hid (S5_5.out.call hb)
      clear hb
      refine hK _ _ S9_9.out ?_
      clear hK K
      try simp only [Act.put, List.getElem_toArray, List.getElem_cons_succ, List.getElem_cons_zero, List.setIfInBounds_toArray, List.set_cons_zero, List.set_cons_succ]
      refine hm_run 10 33 (.bool true) rfl rfl (by kernel_rfl) (by kernel_rfl) (by kernel_rfl) (fun _ _ _ h => h) rfl (fun _ _ => rfl) S9_9.out ?_
      try simp only [Act.put, List.getElem_toArray, List.getElem_cons_succ, List.getElem_cons_zero, List.setIfInBounds_toArray, List.set_cons_zero, List.set_cons_succ]
      refine hm_run 11 4 (.bool true) rfl rfl (by kernel_rfl) (by kernel_rfl) (by kernel_rfl) (fun _ _ _ h => h) rfl (fun _ _ => rfl) S9_9.out ?_
      try simp only [Act.put, List.getElem_toArray, List.getElem_cons_succ, List.getElem_cons_zero, List.setIfInBounds_toArray, List.set_cons_zero, List.set_cons_succ]
      refine wpAnyH_done (by kernel_rfl) ?_ _
      have E := S9_9
      clear S9_9
      go_wp2_with fail
      go_ret
      exact ⟨rfl, E.out.below⟩
    
  · have GM := Lib.hid (show decide ((0 : Int) < (m : Int)) = false from decide_eq_false (by omega))
    obtain ⟨f1, hf1⟩ : ∃ f1, f1 = lf t0 := ⟨_, rfl⟩
    rw [← hf1] at X0 ⊢
    obtain ⟨r, c1', c2', c3'⟩ := CALL.out f1
    have C1 := Lib.hid c1'
    have C2 := Lib.hid c2'
    have C3 := Lib.hid c3'
    clear hL w0 w1 hc' RV hi hm hq hmc A2 hml hts hN A hm0 hf1 CALL c1' c2' c3' hx0
    go_enter Tryd.func3, Tryd.ntmps3
    go_upto_region 4 with (first
    | ((with_reducible refine wpList_at 2 rfl ?_); refine mem_box E 23 rfl _ rfl rfl (arr_cells' 32 (bv (f1))) ?_; clear E; intro b2 w2 E)
    | ((with_reducible refine wpList_at 8 rfl ?_); refine wpList_kn rfl (.int .i64 ((m : Nat) : Int)) (by exact exec_min rfl rfl rfl rfl MIN.out) ?_)
    | ((with_reducible refine wpList_at 9 rfl ?_); refine wpList_kn rfl (.slice q m c) (by exact exec_sl rfl (CUTS.out _)) ?_)
    | ((with_reducible refine wpList_at 12 rfl ?_); refine wpList_kn rfl (.bool false) (by exact exec_gtr3 rfl rfl rfl GM.out) ?_))
    refine wp_region_T (Φ := fun X => Mem W [(b2, 23, arr 32 (bv f1))] X) (S := fun X => Mem W [(b2, 23, arr 32 (bv f1))] X) E (fun X h => h.drew) (fun X h => h) (by kernel_rfl) ?_
    clear E
    intro wx TT S0
    clear TT
    refine hm_load_row 0 23 23 (.tmp 2) rfl rfl (by kernel_rfl) (by kernel_rfl) (by kernel_rfl) (fun _ _ _ h => h) rfl rfl rfl (fun X hX => hX.get List.mem_cons_self) Tryd.underlying23 rfl (by rw [arr_size]; kernel_rfl) S0.out ?_
    try simp only [Act.put, List.getElem_toArray, List.getElem_cons_succ, List.getElem_cons_zero, List.setIfInBounds_toArray, List.set_cons_zero, List.set_cons_succ]
    refine hm_run 1 24 (.slice q m c) rfl rfl (by kernel_rfl) (by kernel_rfl) (by kernel_rfl) (fun _ _ _ h => h) rfl (fun _ _ => rfl) S0.out ?_
    try simp only [Act.put, List.getElem_toArray, List.getElem_cons_succ, List.getElem_cons_zero, List.setIfInBounds_toArray, List.set_cons_zero, List.set_cons_succ]
    refine hm_load_row 3 26 23 (.tmp 2) rfl rfl (by kernel_rfl) (by kernel_rfl) (by kernel_rfl) (fun _ _ _ h => h) rfl rfl rfl (fun X hX => hX.get List.mem_cons_self) Tryd.underlying23 rfl (by rw [arr_size]; kernel_rfl) S0.out ?_
    try simp only [Act.put, List.getElem_toArray, List.getElem_cons_succ, List.getElem_cons_zero, List.setIfInBounds_toArray, List.set_cons_zero, List.set_cons_succ]
    refine hm_run 4 27 (.slice q m c) rfl rfl (by kernel_rfl) (by kernel_rfl) (by kernel_rfl) (fun _ _ _ h => h) rfl (fun _ _ => rfl) S0.out ?_
    try simp only [Act.put, List.getElem_toArray, List.getElem_cons_succ, List.getElem_cons_zero, List.setIfInBounds_toArray, List.set_cons_zero, List.set_cons_succ]
    refine hm_one (i := 2) (by kernel_rfl) ?_
    refine hm_step 2 rfl (by kernel_rfl) fun K hK => ?_
    try simp only [Act.put, List.getElem_toArray, List.getElem_cons_succ, List.getElem_cons_zero, List.setIfInBounds_toArray, List.set_cons_zero, List.set_cons_succ]
    go_simp
    go_at_call 10
    with_reducible refine (C1.out _ S0.out.below).mono ?_
    rintro e w8 ⟨rfl, hb⟩
    have S2_4 := Lib.hid (S0.out.call hb)
    clear hb
    refine hK _ _ S2_4.out ?_
    clear hK K
    try simp only [Act.put, List.getElem_toArray, List.getElem_cons_succ, List.getElem_cons_zero, List.setIfInBounds_toArray, List.set_cons_zero, List.set_cons_succ]
    refine hm_one (i := 5) (by kernel_rfl) ?_
    refine hm_step 5 rfl (by kernel_rfl) fun K hK => ?_
    try simp only [Act.put, List.getElem_toArray, List.getElem_cons_succ, List.getElem_cons_zero, List.setIfInBounds_toArray, List.set_cons_zero, List.set_cons_succ]
    go_simp
    go_at_call 11
    with_reducible refine (C2.out _ S2_4.out.below).mono ?_
    rintro e w8 ⟨rfl, hb⟩
    have S5_5 := Lib.hid (S2_4.out.call hb)
    clear hb
    refine hK _ _ S5_5.out ?_
    clear hK K
    try simp only [Act.put, List.getElem_toArray, List.getElem_cons_succ, List.getElem_cons_zero, List.setIfInBounds_toArray, List.set_cons_zero, List.set_cons_succ]
    refine hm_run 6 29 (.bool true) rfl rfl (by kernel_rfl) (by kernel_rfl) (by kernel_rfl) (fun _ _ _ h => h) rfl (fun _ _ => exec_eqb3 rfl rfl rfl) S5_5.out ?_
    try simp only [Act.put, List.getElem_toArray, List.getElem_cons_succ, List.getElem_cons_zero, List.setIfInBounds_toArray, List.set_cons_zero, List.set_cons_succ]
    refine hm_run 7 30 (.bool true) rfl rfl (by kernel_rfl) (by kernel_rfl) (by kernel_rfl) (fun _ _ _ h => h) rfl (fun _ _ => rfl) S5_5.out ?_
    try simp only [Act.put, List.getElem_toArray, List.getElem_cons_succ, List.getElem_cons_zero, List.setIfInBounds_toArray, List.set_cons_zero, List.set_cons_succ]
    refine hm_load_row 8 31 23 (.tmp 2) rfl rfl (by kernel_rfl) (by kernel_rfl) (by kernel_rfl) (fun _ _ _ h => h) rfl rfl rfl (fun X hX => hX.get List.mem_cons_self) Tryd.underlying23 rfl (by rw [arr_size]; kernel_rfl) S5_5.out ?_
    try simp only [Act.put, List.getElem_toArray, List.getElem_cons_succ, List.getElem_cons_zero, List.setIfInBounds_toArray, List.set_cons_zero, List.set_cons_succ]
    refine hm_one (i := 9) (by kernel_rfl) ?_
    refine hm_step 9 rfl (by kernel_rfl) fun K hK => ?_
    try simp only [Act.put, List.getElem_toArray, List.getElem_cons_succ, List.getElem_cons_zero, List.setIfInBounds_toArray, List.set_cons_zero, List.set_cons_succ]
    go_simp
    go_at_call 10
    with_reducible refine (C3.out _ S5_5.out.below).mono ?_
    rintro e w8 ⟨rfl, hb⟩
    have S9_9 := Lib.hid (S5_5.out.call hb)
    clear hb
    refine hK _ _ S9_9.out ?_
    clear hK K
    try simp only [Act.put, List.getElem_toArray, List.getElem_cons_succ, List.getElem_cons_zero, List.setIfInBounds_toArray, List.set_cons_zero, List.set_cons_succ]
    refine hm_run 10 33 (.bool true) rfl rfl (by kernel_rfl) (by kernel_rfl) (by kernel_rfl) (fun _ _ _ h => h) rfl (fun _ _ => rfl) S9_9.out ?_
    try simp only [Act.put, List.getElem_toArray, List.getElem_cons_succ, List.getElem_cons_zero, List.setIfInBounds_toArray, List.set_cons_zero, List.set_cons_succ]
    refine hm_run 11 4 (.bool true) rfl rfl (by kernel_rfl) (by kernel_rfl) (by kernel_rfl) (fun _ _ _ h => h) rfl (fun _ _ => rfl) S9_9.out ?_
    try simp only [Act.put, List.getElem_toArray, List.getElem_cons_succ, List.getElem_cons_zero, List.setIfInBounds_toArray, List.set_cons_zero, List.set_cons_succ]
    refine wpAnyH_done (by kernel_rfl) ?_ _
    have E := S9_9
    clear S9_9
    go_wp2_with fail
    go_ret
    exact ⟨rfl, E.out.below⟩
  

set_option maxRecDepth 100000 in
theorem lifted (os : Os) (started : os.Started) (H : Type) (enc : TypeId × Value → H) :
    ReturnsInHanded {} Tryd.checked os 3 .any (fun w args => (Rows.auditLeadsSpec.pre enc Tryd.prog Tryd.f3 [] false w args ∧ laidMetH Tryd.prog S.shaLaid w) ∧ sizedMet enc Tryd.prog Tryd.f3 (OpenSpec.ofChange Rows.auditLeadsSpec) false w args)
      (Rows.auditLeadsSpec.post enc Tryd.prog Tryd.f3 false true false false) := by
  refine returnsInHanded_of_change_and (C := Tryd.checked) (X := fun w _ => laidMetH Tryd.prog S.shaLaid w) (fun _ _ _ hh h => h.of_heap hh) own started (by kernel_rfl) Tryd.func3
    (ChangeSpec.witness_shaped (enc := enc) (C := Tryd.checked) (os := os) (X := fun w _ => laidMetH Tryd.prog S.shaLaid w) false (World.laidAll Tryd.prog os S.shaLaid) #[.agg #[.int .u8 0, .int .u8 0, .int .u8 0, .int .u8 0, .int .u8 0, .int .u8 0, .int .u8 0, .int .u8 0, .int .u8 0, .int .u8 0, .int .u8 0, .int .u8 0, .int .u8 0, .int .u8 0, .int .u8 0, .int .u8 0, .int .u8 0, .int .u8 0, .int .u8 0, .int .u8 0, .int .u8 0, .int .u8 0, .int .u8 0, .int .u8 0, .int .u8 0, .int .u8 0, .int .u8 0, .int .u8 0, .int .u8 0, .int .u8 0, .int .u8 0, .int .u8 0], .slice none 0 0] 8 (World.laidAll_os _ _ _)
      (World.shaped_of_ZipB (by kernel_rfl) (by kernel_rfl)) (by kernel_rfl) (by kernel_rfl) (by kernel_rfl)
      (by rw [MakeChecks.laidMetH_plain _ _ _ (by kernel_rfl)]; exact laidMet_laidAll _ (by kernel_rfl) (by kernel_rfl))) ?_
  intro W base args ds gs before hval0 hW _ hsz0 hL _
  have hval : ∀ (j : Nat) t v, Tryd.f3.params[j]? = some t → args[j]? = some v → Value.okWide Tryd.prog W .any base t v := hval0
  have hsz : (DataW.weightsEach Tryd.prog (Tryd.f3.params.toList ++ Rows.auditLeadsSpec.plain.varTypes Tryd.prog) (ds ++ gs)).all (· ≤ reachBytes) = true := hsz0
  have hW' := hW
  obtain ⟨p, q, hA0, hV, rfl, hfz, hnd⟩ := hW
  have hA : DataW.TrodAll enc Tryd.prog W 0 (fun _ => true) true Tryd.f3.params.toList args.toList ds p := hA0
  rw [Tryd.params3] at hA hval hsz
  obtain ⟨v0, vs0, d0, ds0, p0, q0, hargs, rfl, rfl, h0, r0⟩ := trodAll_cons hA
  obtain ⟨v1, vs1, d1, ds1, p1, q1, rfl, rfl, rfl, h1, r1⟩ := trodAll_cons r0
  obtain ⟨rfl, rfl, rfl⟩ := trodAll_nil r1
  obtain rfl : args = #[v0, v1] := by cases args; simp_all
  obtain ⟨rfl, rfl⟩ := trodVars_none hV
  have k0 := h0
  have lt0 : ∀ x ∈ p0, x.block < W.heap.size := by obtain ⟨m, hm⟩ := k0; exact DataW.trod_lt m _ _ _ hm
  obtain ⟨t0, w0, rfl⟩ := open_hash_arg (hval 0 23 v0 rfl rfl) h0
  have k1 := h1
  have lt1 : ∀ x ∈ p1, x.block < W.heap.size := by obtain ⟨m, hm⟩ := k1; exact DataW.trod_lt m _ _ _ hm
  obtain ⟨t1, w1⟩ := open_heads_arg (j := 1) (hval 1 24 v1 rfl rfl) h1 hsz rfl rfl
  clear hA0 hval0 hsz0
  simp only [List.append_nil] at hW'
  refine (walk W hL t0 w0 v1 t1 w1).mono fun e W' ⟨he, bel⟩ => ?_
  subst he
  exact ⟨_, rfl, _, _, _, [], _, [], hW', trodAll_mk1 (shut_bool Tryd.underlying4 _), (trodAll_cons_mk (Below.trod laidOut (by kernel_rfl) (of_decide_eq_true (by kernel_rfl)) k0 bel lt0) (trodAll_cons_mk (Below.trod laidOut (by kernel_rfl) (of_decide_eq_true (by kernel_rfl)) k1 bel lt1) trodAll_mk0)), rfl, bel.frame _, fun h => by cases h⟩

theorem over : Rows.AuditLeadsSaid :=
  OpenClaim.holds_of_wide 3 Tryd.f3 rfl rfl rfl rfl rfl rfl rfl ⟨rfl, rfl, rfl, rfl, rfl⟩ rfl rfl rfl rfl rfl (by kernel_rfl) Tryd.func3 (by kernel_rfl)
    (of_decide_eq_true (by kernel_rfl)) (by unfold Func.isWrapper; first | (rw [if_pos (by decide +kernel)]; kernel_rfl) | (rw [if_neg (by decide +kernel)]; exact ⟨rfl, rfl⟩))
    (fun os started H enc _ => lifted os started H enc)

/-- The tied card. -/
theorem card_holds : Rows.AuditLeadsCardSaid :=
  Claim7.holds_tied_plain_at .later [] [.data, .data] true (true, "0199c94cb409754160ff1d9dd08a3fca2d5985d0812adfda39cfc780a5302024") false
    over (fun _ h => by cases h) (by kernel_rfl) (fun _ h => by cases h) auditLeads_row_tie rfl ⟨rfl, rfl⟩ (by kernel_rfl) rfl
    (fun f fn hf hfn => by
      obtain rfl : f = 3 := Option.some.inj ((show Tryd.prog.funcNamed "sporran/sporranlaw24.AuditLeads" = some 3 by kernel_rfl).symm.trans hf) |>.symm
      obtain rfl : fn = Tryd.f3 := (Option.some.inj (Tryd.func3.symm.trans hfn)).symm
      exact ⟨by kernel_rfl, fun j t ht => by
        rw [Tryd.params3] at ht
        have hm : t ∈ [23, 24] := by simpa using Array.mem_of_getElem? ht
        have hall : ([23, 24].all fun u => !Tryd.prog.wantsStandIn u) = true := by kernel_rfl
        exact (show Tryd.prog.wantsStandIn t = false by simpa using List.all_eq_true.1 hall t hm)⟩)
    (by kernel_rfl)
#print axioms card_holds
end Go.Proofs.YtoopcmcmjaikhaaDoor.auditLeads
