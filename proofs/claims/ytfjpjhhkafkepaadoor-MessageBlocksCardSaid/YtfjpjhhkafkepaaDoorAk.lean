/- An empty block, written. -/
import Derived.Test.YtfjpjhhkafkepaaDoorZC
import Derived.Test.YtfjpjhhkafkepaaDoorAw
import Derived.Test.YtfjpjhhkafkepaaDoorTr
set_option linter.unusedSimpArgs false
set_option linter.unusedVariables false
set_option maxRecDepth 100000
namespace Go.Proofs.YtfjpjhhkafkepaaDoor
open Go.RowKit Go.Lib Go.Sort

section
variable {w : World} {v : Value} {ts : List TTx}
set_option maxHeartbeats 2000000 in
theorem iftx_any {pr : TTx → Bool} (HF : Hid (∀ (W : World) (V : Nat → Value) (t : TTx), TxCells W V t → Calls Tryd.prog 35 #[.agg (arr 4 V)] W fun e w' => e = .returned (.bool (pr t)) ∧ Below W.heap.size W w')) (A : Hid (TxsAt w v ts)) :
    Calls Tryd.prog 54 #[v, .func (.func 35) #[] #[]] w fun e w' => (∃ r : Int, e = .returned (.int .i64 r) ∧ decide (0 ≤ r) = ts.any pr) ∧ Below w.heap.size w w' := by
  obtain ⟨p, g, o, c, V, hv, hc, R0, hi⟩ := A.out
  subst hv
  have RR := Lib.hid R0
  have TT := Lib.hid hi
  have cn : ts.length ≤ c := R0.le
  clear R0 hi A
  obtain ⟨n, hn⟩ : ∃ n, n = ts.length := ⟨_, rfl⟩
  have HN := Lib.hid hn
  rw [← hn] at RR cn hc ⊢
  have hn3 : n ≤ 140737488355328 := by omega
  clear hn hc cn
  go_enter Tryd.func54, Tryd.ntmps54
  go_wp2
  go_loopg [8] n (fun k i wr => ∃ j : Nat, j + k = n ∧ i = .int .i64 (j : Int) ∧ Hid ((ts.take j).any pr = false) ∧ Hid (Below w.heap.size w wr))
  case atStart => exact ⟨0, by omega, rfl, Lib.hid (by simp), Lib.hid (Below.refl _ _)⟩
  case round =>
    obtain ⟨j, hj, rfl, F, B⟩ := hrel
    obtain ⟨kk, rfl⟩ : ∃ kk : Nat, kk = gk := ⟨_, rfl⟩
    by_cases hlt : j < n
    · obtain rfl := RR.out.head (by omega)
      have ht : j < ts.length := by rw [← HN.out]; exact hlt
      have EC := Lib.hid ((TT.out j ht).below B.out)
      have AN := Lib.hid (show (ts.take (j + 1)).any pr = ((ts.take j).any pr || pr ts[j]) by rw [take_get ts ht, List.any_append]; simp)
      have YES := Lib.hid (fun h : pr ts[j] = true => (List.any_eq_true.2 ⟨ts[j], List.getElem_mem ht, h⟩ : ts.any pr = true))
      obtain ⟨b, hb⟩ : ∃ b, b = pr ts[j] := ⟨_, rfl⟩
      have CALL := Lib.hid (HF.out _ _ _ EC.out)
      rw [← hb] at AN YES CALL
      clear hb EC
      cases b
      · go_wp2_with (first
          | (refine wpList_ix (k := 4) (j := j) Tryd.underlying27 (by kernel_rfl) (.tmp 12) (.tmp 13) rfl rfl rfl rfl hlt rfl ?_)
          | (refine wpList_ld 58 (.tmp 14) rfl rfl rfl ((RR.out.below B.out).load hlt Tryd.underlying58 rfl (by kernel_rfl)) ?_)
          | (go_at_call 35; refine CALL.out.mono ?_; rintro e w1 ⟨rfl, hb⟩; have B1 := Lib.hid (B.out.trans (hb.mono B.out.size)); clear hb B))
        go_roundg (n - (j + 1))
        case measure => omega
        case rel => exact ⟨j + 1, by omega, by go_num, Lib.hid (by rw [AN.out, F.out]; rfl), B1⟩
      · have Y := Lib.hid (YES.out rfl)
        go_wp2_with (first
          | (refine wpList_ix (k := 4) (j := j) Tryd.underlying27 (by kernel_rfl) (.tmp 12) (.tmp 13) rfl rfl rfl rfl hlt rfl ?_)
          | (refine wpList_ld 58 (.tmp 14) rfl rfl rfl ((RR.out.below B.out).load hlt Tryd.underlying58 rfl (by kernel_rfl)) ?_)
          | (go_at_call 35; refine CALL.out.mono ?_; rintro e w1 ⟨rfl, hb⟩; have B1 := Lib.hid (B.out.trans (hb.mono B.out.size)); clear hb B))
        go_ret
        exact ⟨⟨_, rfl, by rw [Y.out]; simp⟩, B1.out⟩
    · obtain rfl : j = n := by omega
      have F2 := Lib.hid (show ts.any pr = false by have := F.out; rwa [HN.out, List.take_length] at this)
      go_wp2
      go_ret
      exact ⟨⟨-1, rfl, by rw [F2.out]; rfl⟩, B.out⟩
set_option maxHeartbeats 2000000 in
theorem cftx_any {pr : TTx → Bool} (HF : Hid (∀ (W : World) (V : Nat → Value) (t : TTx), TxCells W V t → Calls Tryd.prog 35 #[.agg (arr 4 V)] W fun e w' => e = .returned (.bool (pr t)) ∧ Below W.heap.size W w')) (A : Hid (TxsAt w v ts)) :
    Calls Tryd.prog 34 #[v, .func (.func 35) #[] #[]] w fun e w' => e = .returned (.bool (ts.any pr)) ∧ Below w.heap.size w w' := by
  have I := Lib.hid (iftx_any HF A)
  obtain ⟨ANY, hA⟩ : ∃ b, b = ts.any pr := ⟨_, rfl⟩
  rw [← hA] at I ⊢
  clear hA A HF
  go_enter Tryd.func34, Tryd.ntmps34
  go_wp2_with (go_at_call 54; refine I.out.mono ?_; rintro e w1 ⟨⟨r, rfl, hr⟩, hb⟩; have B := Lib.hid hb; have HR := Lib.hid hr; clear hb hr)
  rw [← HR.out]
  go_ret
  exact ⟨by simp, B.out⟩
end

/-- The cells of a block with a header and a list of transactions. -/
def bc (h : Hd) (v : Value) : Nat → Value := fun j => if j = 68 then v else hc h j
def hr (m : Nat → Nat) : Hd := ⟨0, fun _ => 0, m, 0, 0, 0⟩
theorem hr_ok {m : Nat → Nat} (h : ∀ i, m i < 256) : (hr m).Ok := ⟨by show 0 < 4294967296; decide, by show 0 < 4294967296; decide, by show 0 < 4294967296; decide, by show 0 < 4294967296; decide, fun i => by show 0 < 256; decide, h⟩
theorem bc_at {w : World} {h : Hd} {v : Value} {ts : List TTx} (ok : h.Ok) (T : TxsAt w v ts) : BlkCells w (bc h v) ⟨h, ts⟩ := ⟨fun j hj => by unfold bc; rw [if_neg (by omega)], ok, by unfold bc; rw [if_pos rfl]; exact T⟩
theorem txs_nil (w : World) : TxsAt w (.slice none 0 0) [] := ⟨none, 0, 0, 0, fun _ => undef, rfl, by decide, VRow.nothing _ _ _, fun i hi => absurd hi (by simp)⟩
theorem built_blk0 : Tryd.prog.built 29 (#[] : Array (Nat × Value)).toList = some (arr 69 (bc (hr fun _ => 0) (.slice none 0 0))) := by kernel_rfl
theorem built_blk1 (p : Option Addr) (n c : Nat) : Tryd.prog.built 29 (#[(1, .slice p n c)] : Array (Nat × Value)).toList = some (arr 69 (bc (hr fun _ => 0) (.slice p n c))) := by kernel_rfl
theorem infoBlk0 : (Tryd.prog.info? 29).map (fun i => (i.zero, i.size)) = some (some (.agg (arr 69 (bc (hr fun _ => 0) (.slice none 0 0)))), 69) := by kernel_rfl
theorem blk0_at (w : World) : BlkAt w (.agg (arr 69 (bc (hr fun _ => 0) (.slice none 0 0)))) ⟨hr fun _ => 0, []⟩ := ⟨_, rfl, bc_at (hr_ok fun _ => by decide) (txs_nil w)⟩
/-- The header, read out of a block's variable. -/
theorem ld_hdr {w : World} {b T : Nat} {h : Hd} {v : Value} (hh : w.heap[b]? = some (.cells (arr 69 (bc h v)) T (0, 0))) :
    (Instr.loadAt 26 (.pointer (some ⟨b, 0, none⟩))).run Tryd.prog w = .ok (.agg (arr 68 (hc h))) w := by
  have hr : w.rangeAt b 0 (vs (hc h) 68) := fun j x hj => by
    obtain ⟨hl, rfl⟩ := vs_get _ _ _ _ hj
    rw [Nat.zero_add]
    refine cell_of_here hh j ?_
    rw [arr_get 69 _ j (by omega)]
    unfold bc
    rw [if_neg (by omega)]
  have := run_loadAt_mid (P := Tryd.prog) w b 0 26 (vs (hc h) 68) _ hr hdr_is' rfl (by rw [vs_length]; kernel_rfl)
  rwa [vs_arr] at this
set_option maxHeartbeats 4000000 in
theorem cannot_any {W : World} {V : Nat → Value} {t : TTx} (A : TxCells W V t) : Calls Tryd.prog 35 #[.agg (arr 4 V)] W fun e w' => e = .returned (.bool (!canB t)) ∧ Below W.heap.size W w' := by
  have EC := Lib.hid A
  have E := Lib.hid (Mem.nil W)
  clear A
  go_enter Tryd.func35, Tryd.ntmps35
  go_wp2_with (first
    | (refine mem_box E 58 rfl (.tmp 0) rfl rfl (arr_cells' 4 V) ?_; clear E; intro b w1 E)
    | (refine mem_load_row E 58 rfl (.tmp 1) rfl rfl List.mem_cons_self Tryd.underlying58 rfl (by simp only [arr_size]; kernel_rfl) ?_)
    | (go_at_call 55; refine (can_any (Lib.hid (⟨V, rfl, EC.out.below E.out.below⟩ : TxAt _ (.agg (arr 4 V)) t))).mono ?_; rintro e w2 ⟨rfl, hb⟩; replace E := Lib.hid (E.out.call hb); clear hb))
  go_ret
  exact ⟨by simp, E.out.below⟩

set_option maxHeartbeats 4000000 in
theorem enc0_any (W : World) : Calls Tryd.prog 21 #[.agg (arr 69 (bc (hr fun _ => 0) (.slice none 0 0)))] W fun e w' => ∃ p c, e = .returned (.tuple #[.slice p 81 c, .int .i64 0]) ∧ Below W.heap.size W w' := by
  have E := Lib.hid (Mem.nil W)
  have c68 : (arr 69 (bc (hr fun _ => 0) (.slice none 0 0)))[68]? = some (.slice none 0 0) := by rw [arr_get 69 _ 68 (by omega)]; rfl
  have CF := Lib.hid (fun w : World => cftx_any (w := w) (pr := fun t => !canB t) (Lib.hid fun W V t h => cannot_any h) (Lib.hid (txs_nil w)))
  have CE := Lib.hid (fun w : World => show Calls Tryd.prog 31 #[.int .u64 ((0 : Nat) : Int)] w (Gets w 1 (enc 0)) from encode_any 0 w)
  obtain ⟨bv0, hbv⟩ : ∃ f, f = bc (hr fun _ => 0) (.slice none 0 0) := ⟨_, rfl⟩
  rw [← hbv] at c68 ⊢
  have HBV := Lib.hid hbv
  clear hbv
  go_enter Tryd.func21, Tryd.ntmps21
  go_upto_region 3 with (first
    | ((with_reducible refine wpList_at 1 rfl ?_); refine mem_box E 29 rfl (.tmp 0) rfl rfl (arr_cells' 69 bv0) ?_; clear E; intro b w1 E)
    | ((with_reducible refine wpList_at 10 rfl ?_); refine mem_load_cell E 27 (by kernel_rfl) (.tmp 9) rfl rfl List.mem_cons_self Tryd.underlying27 rfl c68 ?_)
    | ((with_reducible refine wpList_at 15 rfl ?_); refine mem_load_cell E 27 (by kernel_rfl) (.tmp 14) rfl rfl List.mem_cons_self Tryd.underlying27 rfl c68 ?_)
    | ((with_reducible refine wpList_at 22 rfl ?_); refine mem_load_cell E 27 (by kernel_rfl) (.tmp 21) rfl rfl List.mem_cons_self Tryd.underlying27 rfl c68 ?_)
    | ((with_reducible refine wpList_at 28 rfl ?_); refine mem_load_cell E 27 (by kernel_rfl) (.tmp 27) rfl rfl List.mem_cons_self Tryd.underlying27 rfl c68 ?_)
    | (go_at_call 34; refine (CF.out _).mono ?_; rintro e w2 ⟨rfl, hb⟩; replace E := Lib.hid (E.out.call hb); clear hb)
    )
  have HB := Lib.hid (E.out.get List.mem_cons_self)
  have BE := Lib.hid E.out.below
  have C68 := Lib.hid (cell_of_here HB.out 68 c68)
  refine wp_region_memS (S := fun X => Below w2.heap.size w2 X) (Lib.hid (Mem.nil w2)) (by kernel_rfl) ?_
  clear E
  intro wx E1
  have S0 := Lib.hid E1.out.below
  clear E1
  refine hm_run 0 18 (.pointer (some ⟨b, 0, none⟩)) rfl rfl (by kernel_rfl) (by kernel_rfl) (by kernel_rfl) (fun _ _ _ h => h) rfl (fun _ _ => rfl) S0.out ?_
  try simp only [Act.put, List.getElem_toArray, List.getElem_cons_succ, List.getElem_cons_zero, List.setIfInBounds_toArray, List.set_cons_zero, List.set_cons_succ]
  refine hm_run 1 19 (.agg (arr 68 (hc (hr fun _ => 0)))) rfl rfl (by kernel_rfl) (by kernel_rfl) (by kernel_rfl) (fun _ _ _ h => h) rfl (fun W hW => exec_load rfl (ld_hdr (by rw [hW.block b (heap_lt HB.out)]; have h := HB.out; rw [HBV.out] at h; exact h))) S0.out ?_
  try simp only [Act.put, List.getElem_toArray, List.getElem_cons_succ, List.getElem_cons_zero, List.setIfInBounds_toArray, List.set_cons_zero, List.set_cons_succ]
  refine hm_run 3 21 (.pointer (some ⟨b, 68, none⟩)) rfl rfl (by kernel_rfl) (by kernel_rfl) (by kernel_rfl) (fun _ _ _ h => h) rfl (fun _ _ => rfl) S0.out ?_
  try simp only [Act.put, List.getElem_toArray, List.getElem_cons_succ, List.getElem_cons_zero, List.setIfInBounds_toArray, List.set_cons_zero, List.set_cons_succ]
  refine hm_run 4 22 (.slice none 0 0) rfl rfl (by kernel_rfl) (by kernel_rfl) (by kernel_rfl) (fun _ _ _ h => h) rfl (fun W hW => exec_load rfl (run_load_one Tryd.underlying27 rfl (by rw [hW.cell (cell_lt C68.out)]; exact C68.out))) S0.out ?_
  try simp only [Act.put, List.getElem_toArray, List.getElem_cons_succ, List.getElem_cons_zero, List.setIfInBounds_toArray, List.set_cons_zero, List.set_cons_succ]
  refine hm_run 5 23 (.int .i64 ((0 : Nat) : Int)) rfl rfl (by kernel_rfl) (by kernel_rfl) (by kernel_rfl) (fun _ _ _ h => h) rfl (fun _ _ => exec_len Tryd.underlying27 rfl rfl) S0.out ?_
  try simp only [Act.put, List.getElem_toArray, List.getElem_cons_succ, List.getElem_cons_zero, List.setIfInBounds_toArray, List.set_cons_zero, List.set_cons_succ]
  refine hm_run 6 24 (.int .u64 ((0 : Nat) : Int)) rfl rfl (by kernel_rfl) (by kernel_rfl) (by kernel_rfl) (fun _ _ _ h => h) rfl (fun _ _ => exec_cv rfl rfl ⟨by kernel_rfl, rfl⟩) S0.out ?_
  try simp only [Act.put, List.getElem_toArray, List.getElem_cons_succ, List.getElem_cons_zero, List.setIfInBounds_toArray, List.set_cons_zero, List.set_cons_succ]
  refine hm_one (i := 2) (by kernel_rfl) ?_
  refine hm_step 2 rfl (by kernel_rfl) fun K hK => ?_
  try simp only [Act.put, List.getElem_toArray, List.getElem_cons_succ, List.getElem_cons_zero, List.setIfInBounds_toArray, List.set_cons_zero, List.set_cons_succ]
  go_simp
  go_at_call 32
  refine (henc_any (Lib.hid (hr_ok fun _ => by decide)) _).mono ?_
  rintro e w3 ⟨p3, g3, c3, rfl, N, hb⟩
  have N3 := Lib.hid (N.mono S0.out.size)
  have S2_6 := Lib.hid (S0.out.trans (hb.mono S0.out.size))
  clear hb N
  refine hK _ _ S2_6.out ?_
  clear hK K
  try simp only [Act.put, List.getElem_toArray, List.getElem_cons_succ, List.getElem_cons_zero, List.setIfInBounds_toArray, List.set_cons_zero, List.set_cons_succ]
  refine hm_one (i := 7) (by kernel_rfl) ?_
  refine hm_step 7 rfl (by kernel_rfl) fun K hK => ?_
  try simp only [Act.put, List.getElem_toArray, List.getElem_cons_succ, List.getElem_cons_zero, List.setIfInBounds_toArray, List.set_cons_zero, List.set_cons_succ]
  go_simp
  go_at_call 31
  refine (CE.out _).mono ?_
  rintro e w4 ⟨p4, g4, c4, rfl, N, hb⟩
  replace N3 := Lib.hid (N3.out.below hb)
  have R4 := Lib.hid N.row
  have S7_7 := Lib.hid (S2_6.out.trans (hb.mono S2_6.out.size))
  clear hb N
  refine hK _ _ S7_7.out ?_
  clear hK K
  try simp only [Act.put, List.getElem_toArray, List.getElem_cons_succ, List.getElem_cons_zero, List.setIfInBounds_toArray, List.set_cons_zero, List.set_cons_succ]
  refine hm_one (i := 8) (by kernel_rfl) ?_
  refine hm_step 8 rfl (by kernel_rfl) fun K hK => ?_
  try simp only [Act.put, List.getElem_toArray, List.getElem_cons_succ, List.getElem_cons_zero, List.setIfInBounds_toArray, List.set_cons_zero, List.set_cons_succ]
  refine mo_app (.tmp 20) (.tmp 25) rfl rfl N3 rfl R4 (by omega) ?_
  intro p5 g5 c5 w5 N5 hb5
  have S8_8 := Lib.hid (S7_7.out.trans hb5.out)
  clear hb5
  refine hK _ _ S8_8.out ?_
  clear hK K
  try simp only [Act.put, List.getElem_toArray, List.getElem_cons_succ, List.getElem_cons_zero, List.setIfInBounds_toArray, List.set_cons_zero, List.set_cons_succ]
  refine hm_run 9 4 (.slice p5 81 c5) rfl rfl (by kernel_rfl) (by kernel_rfl) (by kernel_rfl) (fun _ _ _ h => h) rfl (fun _ _ => rfl) S8_8.out ?_
  try simp only [Act.put, List.getElem_toArray, List.getElem_cons_succ, List.getElem_cons_zero, List.setIfInBounds_toArray, List.set_cons_zero, List.set_cons_succ]
  refine wpAnyH_done (by kernel_rfl) ?_ _
  have BX := Lib.hid (BE.out.trans (S8_8.out.mono BE.out.size))
  have C68' := Lib.hid (show w5.cell? ⟨b, 68, none⟩ = some (.slice none 0 0) by rw [S8_8.out.cell (cell_lt C68.out)]; exact C68.out)
  go_wp2_with (refine wpList_ld1 27 (.tmp 27) rfl rfl rfl Tryd.underlying27 rfl C68'.out ?_)
  go_loopg [4, 30] 0 (fun k s i wr => s = .slice p5 81 c5 ∧ i = .int .i64 0 ∧ Hid (Below W.heap.size W wr))
  case atStart => exact ⟨rfl, rfl, BX⟩
  case round =>
    obtain ⟨rfl, rfl, BY⟩ := hrel
    go_wp2
    refine bodyPost_ret (res2 (fn := Tryd.f21) rfl _ _) rfl ?_
    exact ⟨_, _, rfl, BY.out⟩
end Go.Proofs.YtfjpjhhkafkepaaDoor

