/- Whether a transaction can be written, and whether an input has a witness: the document's. -/
import Derived.Test.YtfjpjhhkafkepaaDoorTc
set_option linter.unusedSimpArgs false
set_option linter.unusedVariables false
set_option maxRecDepth 100000
namespace Go.Proofs.YtfjpjhhkafkepaaDoor
open Go.RowKit Go.Lib Go.Sort

theorem any_at {α : Type} {pr : α → Bool} {l : List α} {j : Nat} (h : j < l.length) (hp : pr l[j] = true) : l.any pr = true := List.any_eq_true.2 ⟨l[j], List.getElem_mem h, hp⟩
theorem any_take {α : Type} {pr : α → Bool} {l : List α} {j : Nat} (h : j < l.length) : (l.take (j + 1)).any pr = ((l.take j).any pr || pr l[j]) := by
  rw [take_get l h, List.any_append]
  simp
theorem can_false_in {t : TTx} {j : Nat} (h : j < t.ins.length) (hb : badInB t.ins[j] = true) : canB t = false := by
  unfold canB
  rw [any_at h hb]
  simp
theorem can_false_out {t : TTx} {j : Nat} (h : j < t.outs.length) (hb : badOutB t.outs[j] = true) : canB t = false := by
  unfold canB
  rw [any_at h hb]
  simp
set_option maxHeartbeats 8000000 in
theorem rcan_any {W : World} {v : Value} {t : TTx} (A0 : Hid (TxAt W v t)) : Calls Tryd.prog 23 #[v] W fun e w' => e = .returned (.bool (canB t)) ∧ Below W.heap.size W w' := by
  have E := Lib.hid (Mem.nil W)
  obtain ⟨V, rfl, A⟩ := A0.out
  have c1 : (arr 4 V)[1]? = some (V 1) := arr_get 4 V 1 (by omega)
  have c2 : (arr 4 V)[2]? = some (V 2) := arr_get 4 V 2 (by omega)
  obtain ⟨p1, g1, o1, d1, U1, hv1, hb1, R1, T1⟩ := A.ins
  obtain ⟨p2, g2, o2, d2, U2, hv2, hb2, R2, T2⟩ := A.outs
  have RI := Lib.hid R1
  have RO := Lib.hid R2
  have TI := Lib.hid T1
  have TO := Lib.hid T2
  obtain ⟨n, hn⟩ : ∃ n, n = t.ins.length := ⟨_, rfl⟩
  obtain ⟨m, hm⟩ : ∃ m, m = t.outs.length := ⟨_, rfl⟩
  have le1 : n * 96 ≤ 140737488351232 := by rw [hn]; exact hb1
  have le2 : m * 32 ≤ 140737488351232 := by rw [hm]; exact hb2
  have L := Lib.hid (show canB t = (!(decide (n = 0) || decide (2000 < n) || decide (2000 < m)) && !t.ins.any badInB && !t.outs.any badOutB) by rw [hn, hm]; rfl)
  have HN := Lib.hid hn
  have HM := Lib.hid hm
  rw [hv1, ← hn] at c1
  rw [hv2, ← hm] at c2
  rw [← hn] at RI
  rw [← hm] at RO
  have n3 : n ≤ 140737488355328 := by omega
  have m3 : m ≤ 140737488355328 := by omega
  clear R1 R2 T1 T2 hn hm hv1 hv2 A A0 hb1 hb2 le1 le2
  by_cases h0 : n < 1
  · have h0' : decide ((n : Int) < 1) = true := by simp; omega
    have F := Lib.hid (show canB t = false by rw [L.out, show decide (n = 0) = true from decide_eq_true (by omega)]; simp)
    rw [F.out]
    clear L F
    go_enter Tryd.func23, Tryd.ntmps23
    go_wp2_with (first
      | (refine mem_box E 58 rfl _ rfl rfl (arr_cells' 4 V) ?_; clear E; intro b3 w3 E)
      | (refine mem_load_cell E 55 rfl _ rfl rfl List.mem_cons_self Tryd.underlying55 rfl c1 ?_))
    go_ret
    exact ⟨rfl, E.out.below⟩
  · have h0' : decide ((n : Int) < 1) = false := by simp; omega
    by_cases h1 : 2000 < n
    · have h1' : decide ((2000 : Int) < (n : Int)) = true := by simp; omega
      have F := Lib.hid (show canB t = false by rw [L.out, show decide (2000 < n) = true from decide_eq_true h1]; simp)
      rw [F.out]
      clear L F
      go_enter Tryd.func23, Tryd.ntmps23
      go_wp2_with (first
        | (refine mem_box E 58 rfl _ rfl rfl (arr_cells' 4 V) ?_; clear E; intro b3 w3 E)
        | (refine mem_load_cell E 55 rfl _ rfl rfl List.mem_cons_self Tryd.underlying55 rfl c1 ?_))
      go_ret
      exact ⟨rfl, E.out.below⟩
    · have h1' : decide ((2000 : Int) < (n : Int)) = false := by simp; omega
      by_cases h2 : 2000 < m
      · have h2' : decide ((2000 : Int) < (m : Int)) = true := by simp; omega
        have F := Lib.hid (show canB t = false by rw [L.out, show decide (2000 < m) = true from decide_eq_true h2]; simp)
        rw [F.out]
        clear L F
        go_enter Tryd.func23, Tryd.ntmps23
        go_wp2_with (first
          | (refine mem_box E 58 rfl _ rfl rfl (arr_cells' 4 V) ?_; clear E; intro b3 w3 E)
          | (refine mem_load_cell E 55 rfl _ rfl rfl List.mem_cons_self Tryd.underlying55 rfl c1 ?_)
          | (refine mem_load_cell E 56 rfl _ rfl rfl List.mem_cons_self Tryd.underlying56 rfl c2 ?_))
        go_ret
        exact ⟨rfl, E.out.below⟩
      · have h2' : decide ((2000 : Int) < (m : Int)) = false := by simp; omega
        have L2 := Lib.hid (show canB t = (!t.ins.any badInB && !t.outs.any badOutB) by
          rw [L.out, show decide (n = 0) = false from decide_eq_false (by omega), show decide (2000 < n) = false from decide_eq_false h1, show decide (2000 < m) = false from decide_eq_false h2]; simp)
        clear L
        go_enter Tryd.func23, Tryd.ntmps23
        go_wp2_with (first
          | (refine mem_box E 58 rfl _ rfl rfl (arr_cells' 4 V) ?_; clear E; intro b1 w1 E)
          | (refine mem_load_cell E 55 rfl _ rfl rfl List.mem_cons_self Tryd.underlying55 rfl c1 ?_)
          | (refine mem_load_cell E 56 rfl _ rfl rfl List.mem_cons_self Tryd.underlying56 rfl c2 ?_))
        go_loopg [28] n (fun k i wr => ∃ j : Nat, j + k = n ∧ i = .int .i64 (j : Int) ∧ Hid ((t.ins.take j).any badInB = false) ∧ Hid (Mem W [(b1, 58, arr 4 V)] wr))
        case atStart => exact ⟨0, by omega, rfl, Lib.hid (by simp), E⟩
        case round =>
          clear E
          obtain ⟨j, hj, rfl, F, E⟩ := hrel
          obtain ⟨kk, rfl⟩ : ∃ kk : Nat, kk = gk := ⟨_, rfl⟩
          by_cases hlt : j < n
          · obtain rfl := RI.out.head (by omega)
            have ht : j < t.ins.length := by rw [← HN.out]; exact hlt
            have EC := TI.out j ht
            obtain ⟨ps, gs, os, cs, hvs, hcs, Rs⟩ := EC.sc
            obtain ⟨pw, gw, ow, cw, Vw, hvw, hcw, Rw, Tw⟩ := EC.wit
            have RW := Lib.hid Rw
            have TW := Lib.hid Tw
            have a33 : (arr 36 fun i => U1 (j * 36 + i))[33]? = some (.slice ps t.ins[j].sc.length cs) := by rw [arr_get 36 _ 33 (by omega), hvs]
            have a35 : (arr 36 fun i => U1 (j * 36 + i))[35]? = some (.slice pw t.ins[j].wit.length cw) := by rw [arr_get 36 _ 35 (by omega), hvw]
            have lw := hcw
            obtain ⟨x, hx⟩ : ∃ x, x = t.ins[j] := ⟨_, rfl⟩
            have BADF := Lib.hid (fun h : badInB t.ins[j] = true => can_false_in ht h)
            have NXT := Lib.hid (any_take (pr := badInB) ht)
            rw [← hx] at a33 a35 RW TW lw BADF NXT
            obtain ⟨ns, hns⟩ : ∃ ns, ns = x.sc.length := ⟨_, rfl⟩
            obtain ⟨nw, hnw⟩ : ∃ nw, nw = x.wit.length := ⟨_, rfl⟩
            have HNW := Lib.hid hnw
            have BX := Lib.hid (show badInB x = (decide (10000 < ns) || decide (100 < nw) || x.wit.any longB) by rw [hns, hnw]; rfl)
            rw [← hns] at a33
            rw [← hnw] at a35 RW lw
            have nw3 : nw ≤ 140737488355328 := by omega
            clear EC hvs hcs Rs hvw hcw Rw Tw hx hns hnw
            by_cases hs : 10000 < ns
            · have hs' : decide ((10000 : Int) < (ns : Int)) = true := by simp; omega
              have FF := Lib.hid (BADF.out (by rw [BX.out, decide_eq_true hs]; simp))
              go_wp2_with (first
                | (refine wpList_ix (k := 36) (j := j) Tryd.underlying55 (by kernel_rfl) (.tmp 26) (.tmp 28) rfl rfl rfl rfl hlt rfl ?_)
                | (refine wpList_ld 75 (.tmp 30) rfl rfl rfl ((RI.out.below E.out.below).load hlt Tryd.underlying75 rfl (by kernel_rfl)) ?_)
                | (refine mem_alloc E 75 rfl rfl infoIn ?_; clear E; intro b4 w4 E; simp only [arr_cells'] at E)
                | (refine mem_store_row 0 E 75 rfl (.tmp 4) (.tmp 31) rfl rfl rfl rfl (by kernel_rfl) (by simp only [arr_size]) (RI.out.arr_one hlt) ?_; clear E; intro w5 E; simp only [List.set_cons_zero, List.set_cons_succ] at E)
                | (refine mem_load_cell E 30 rfl (.tmp 32) rfl rfl List.mem_cons_self Tryd.underlying30 rfl a33 ?_))
              rw [FF.out]
              go_ret
              exact ⟨rfl, E.out.below⟩
            · have hs' : decide ((10000 : Int) < (ns : Int)) = false := by simp; omega
              by_cases hw : 100 < nw
              · have hw' : decide ((100 : Int) < (nw : Int)) = true := by simp; omega
                have FF := Lib.hid (BADF.out (by rw [BX.out, decide_eq_true hw]; simp))
                go_wp2_with (first
                  | (refine wpList_ix (k := 36) (j := j) Tryd.underlying55 (by kernel_rfl) (.tmp 26) (.tmp 28) rfl rfl rfl rfl hlt rfl ?_)
                  | (refine wpList_ld 75 (.tmp 30) rfl rfl rfl ((RI.out.below E.out.below).load hlt Tryd.underlying75 rfl (by kernel_rfl)) ?_)
                  | (refine mem_alloc E 75 rfl rfl infoIn ?_; clear E; intro b4 w4 E; simp only [arr_cells'] at E)
                  | (refine mem_store_row 0 E 75 rfl (.tmp 4) (.tmp 31) rfl rfl rfl rfl (by kernel_rfl) (by simp only [arr_size]) (RI.out.arr_one hlt) ?_; clear E; intro w5 E; simp only [List.set_cons_zero, List.set_cons_succ] at E)
                  | (refine mem_load_cell E 30 rfl (.tmp 32) rfl rfl List.mem_cons_self Tryd.underlying30 rfl a33 ?_)
                  | (refine mem_load_cell E 73 rfl (.tmp 37) rfl rfl List.mem_cons_self Tryd.underlying73 rfl a35 ?_))
                rw [FF.out]
                go_ret
                exact ⟨rfl, E.out.below⟩
              · have hw' : decide ((100 : Int) < (nw : Int)) = false := by simp; omega
                have BX2 := Lib.hid (show badInB x = x.wit.any longB by rw [BX.out, decide_eq_false hs, decide_eq_false hw]; simp)
                clear BX
                go_wp2_with (first
                  | (refine wpList_ix (k := 36) (j := j) Tryd.underlying55 (by kernel_rfl) (.tmp 26) (.tmp 28) rfl rfl rfl rfl hlt rfl ?_)
                  | (refine wpList_ld 75 (.tmp 30) rfl rfl rfl ((RI.out.below E.out.below).load hlt Tryd.underlying75 rfl (by kernel_rfl)) ?_)
                  | (refine mem_alloc E 75 rfl rfl infoIn ?_; clear E; intro b4 w4 E; simp only [arr_cells'] at E)
                  | (refine mem_store_row 0 E 75 rfl (.tmp 4) (.tmp 31) rfl rfl rfl rfl (by kernel_rfl) (by simp only [arr_size]) (RI.out.arr_one hlt) ?_; clear E; intro w5 E; simp only [List.set_cons_zero, List.set_cons_succ] at E)
                  | (refine mem_load_cell E 30 rfl (.tmp 32) rfl rfl List.mem_cons_self Tryd.underlying30 rfl a33 ?_)
                  | (refine mem_load_cell E 73 rfl (.tmp 37) rfl rfl List.mem_cons_self Tryd.underlying73 rfl a35 ?_)
                  | (refine mem_load_cell E 73 rfl (.tmp 42) rfl rfl List.mem_cons_self Tryd.underlying73 rfl a35 ?_))
                go_loopg [45] nw (fun k i wr => ∃ j2 : Nat, j2 + k = nw ∧ i = .int .i64 (j2 : Int) ∧ Hid ((x.wit.take j2).any longB = false) ∧ Hid (Mem W [(b4, 75, arr 36 fun i => U1 (j * 36 + i)), (b1, 58, arr 4 V)] wr))
                case atStart => exact ⟨0, by omega, rfl, Lib.hid (by simp), E⟩
                case round =>
                  clear E
                  obtain ⟨j2, hj2, rfl, F2, E⟩ := hrel
                  obtain ⟨k2, rfl⟩ : ∃ k2 : Nat, k2 = gk := ⟨_, rfl⟩
                  by_cases hlt2 : j2 < nw
                  · obtain rfl := RW.out.head (by omega)
                    have ht2 : j2 < x.wit.length := by rw [← HNW.out]; exact hlt2
                    obtain ⟨py, gy, oy, cy, hvy, hcy, Ry⟩ := TW.out j2 ht2
                    have CC := Lib.hid ((RW.out.below E.out.below).cell j2 (by omega))
                    rw [hvy] at CC
                    have NX2 := Lib.hid (any_take (pr := longB) ht2)
                    have AT2 := Lib.hid (fun h : longB x.wit[j2] = true => any_at (pr := longB) ht2 h)
                    obtain ⟨ny, hny⟩ : ∃ ny, ny = x.wit[j2].length := ⟨_, rfl⟩
                    have LY := Lib.hid (show longB x.wit[j2] = decide (10000 < ny) by rw [hny]; rfl)
                    rw [← hny] at CC
                    clear hvy hcy Ry hny
                    by_cases hy : 10000 < ny
                    · have hy' : decide ((10000 : Int) < (ny : Int)) = true := by simp; omega
                      have FF := Lib.hid (BADF.out (by rw [BX2.out]; exact AT2.out (by rw [LY.out, decide_eq_true hy])))
                      go_wp2_with (first
                        | (refine wpList_ix (k := 1) (j := j2) Tryd.underlying73 (by kernel_rfl) (.tmp 43) (.tmp 45) rfl rfl rfl rfl hlt2 rfl ?_; rw [Nat.mul_one])
                        | (refine wpList_ld1 30 (.tmp 47) rfl rfl rfl Tryd.underlying30 rfl CC.out ?_))
                      rw [FF.out]
                      go_ret
                      exact ⟨rfl, E.out.below⟩
                    · have hy' : decide ((10000 : Int) < (ny : Int)) = false := by simp; omega
                      go_wp2_with (first
                        | (refine wpList_ix (k := 1) (j := j2) Tryd.underlying73 (by kernel_rfl) (.tmp 43) (.tmp 45) rfl rfl rfl rfl hlt2 rfl ?_; rw [Nat.mul_one])
                        | (refine wpList_ld1 30 (.tmp 47) rfl rfl rfl Tryd.underlying30 rfl CC.out ?_))
                      go_roundg (nw - (j2 + 1))
                      case measure => omega
                      case rel => exact ⟨j2 + 1, by omega, by go_num, Lib.hid (by rw [NX2.out, F2.out, LY.out, decide_eq_false hy]; rfl), E⟩
                  · obtain rfl : j2 = nw := by omega
                    have WA := Lib.hid (show badInB x = false by rw [BX2.out]; have := F2.out; rwa [HNW.out, List.take_length] at this)
                    have E' := Lib.hid E.out.tail
                    clear E
                    go_wp2
                    go_roundg (n - (j + 1))
                    case measure => omega
                    case rel => exact ⟨j + 1, by omega, by go_num, Lib.hid (by rw [NXT.out, F.out, WA.out]; rfl), E'⟩
          · obtain rfl : j = n := by omega
            have FI := Lib.hid (show t.ins.any badInB = false by have := F.out; rwa [HN.out, List.take_length] at this)
            go_wp2_with (refine mem_load_cell E 56 rfl (.tmp 54) rfl rfl List.mem_cons_self Tryd.underlying56 rfl c2 ?_)
            go_loopg [57] m (fun k i wr => ∃ j2 : Nat, j2 + k = m ∧ i = .int .i64 (j2 : Int) ∧ Hid ((t.outs.take j2).any badOutB = false) ∧ Hid (Mem W [(b1, 58, arr 4 V)] wr))
            case atStart => exact ⟨0, by omega, rfl, Lib.hid (by simp), E⟩
            case round =>
              clear E
              obtain ⟨j2, hj2, rfl, F2, E⟩ := hrel
              obtain ⟨k2, rfl⟩ : ∃ k2 : Nat, k2 = gk := ⟨_, rfl⟩
              by_cases hlt2 : j2 < m
              · obtain rfl := RO.out.head (by omega)
                have ht2 : j2 < t.outs.length := by rw [← HM.out]; exact hlt2
                have EC := TO.out j2 ht2
                obtain ⟨py, gy, oy, cy, hvy, hcy, Ry⟩ := EC.sc
                have a0 : (arr 2 fun i => U2 (j2 * 2 + i))[0]? = some (.int .i64 t.outs[j2].val) := by rw [arr_get 2 _ 0 (by omega), EC.val]
                have a1 : (arr 2 fun i => U2 (j2 * 2 + i))[1]? = some (.slice py t.outs[j2].sc.length cy) := by rw [arr_get 2 _ 1 (by omega), hvy]
                have NX2 := Lib.hid (any_take (pr := badOutB) ht2)
                have BADF := Lib.hid (fun h : badOutB t.outs[j2] = true => can_false_out ht2 h)
                obtain ⟨x, hx⟩ : ∃ x, x = t.outs[j2] := ⟨_, rfl⟩
                rw [← hx] at a0 a1 NX2 BADF
                obtain ⟨val, hval⟩ : ∃ val, val = x.val := ⟨_, rfl⟩
                obtain ⟨ny, hny⟩ : ∃ ny, ny = x.sc.length := ⟨_, rfl⟩
                have BX := Lib.hid (show badOutB x = (decide (val < 0) || decide (10000 < ny)) by rw [hval, hny]; rfl)
                rw [← hval] at a0
                rw [← hny] at a1
                clear EC hvy hcy Ry hx hval hny
                by_cases hv : val < 0
                · have hv' : decide (val < 0) = true := decide_eq_true hv
                  have FF := Lib.hid (BADF.out (by rw [BX.out, hv']; rfl))
                  go_wp2_with (first
                    | (refine wpList_ix (k := 2) (j := j2) Tryd.underlying56 (by kernel_rfl) (.tmp 55) (.tmp 57) rfl rfl rfl rfl hlt2 rfl ?_)
                    | (refine wpList_ld 77 (.tmp 59) rfl rfl rfl ((RO.out.below E.out.below).load hlt2 Tryd.underlying77 rfl (by kernel_rfl)) ?_)
                    | (refine mem_alloc E 77 rfl rfl infoOut ?_; clear E; intro b8 w8 E)
                    | (refine mem_store_row 0 E 77 rfl (.tmp 8) (.tmp 60) rfl rfl rfl rfl (by kernel_rfl) (by rw [arr_size]; rfl) (RO.out.arr_one hlt2) ?_; clear E; intro w9 E; simp only [List.set_cons_zero, List.set_cons_succ] at E)
                    | (refine mem_load_cell E 2 rfl (.tmp 61) rfl rfl List.mem_cons_self Tryd.underlying2 rfl a0 ?_))
                  rw [FF.out]
                  go_ret
                  exact ⟨rfl, E.out.below⟩
                · have hv' : decide (val < 0) = false := decide_eq_false hv
                  by_cases hy : 10000 < ny
                  · have hy' : decide ((10000 : Int) < (ny : Int)) = true := by simp; omega
                    have FF := Lib.hid (BADF.out (by rw [BX.out, decide_eq_true hy]; simp))
                    go_wp2_with (first
                      | (refine wpList_ix (k := 2) (j := j2) Tryd.underlying56 (by kernel_rfl) (.tmp 55) (.tmp 57) rfl rfl rfl rfl hlt2 rfl ?_)
                      | (refine wpList_ld 77 (.tmp 59) rfl rfl rfl ((RO.out.below E.out.below).load hlt2 Tryd.underlying77 rfl (by kernel_rfl)) ?_)
                      | (refine mem_alloc E 77 rfl rfl infoOut ?_; clear E; intro b8 w8 E)
                      | (refine mem_store_row 0 E 77 rfl (.tmp 8) (.tmp 60) rfl rfl rfl rfl (by kernel_rfl) (by rw [arr_size]; rfl) (RO.out.arr_one hlt2) ?_; clear E; intro w9 E; simp only [List.set_cons_zero, List.set_cons_succ] at E)
                      | (refine mem_load_cell E 2 rfl (.tmp 61) rfl rfl List.mem_cons_self Tryd.underlying2 rfl a0 ?_)
                      | (refine mem_load_cell E 30 rfl (.tmp 65) rfl rfl List.mem_cons_self Tryd.underlying30 rfl a1 ?_))
                    rw [FF.out]
                    go_ret
                    exact ⟨rfl, E.out.below⟩
                  · have hy' : decide ((10000 : Int) < (ny : Int)) = false := by simp; omega
                    have BX2 := Lib.hid (show badOutB x = false by rw [BX.out, hv', decide_eq_false hy]; rfl)
                    go_wp2_with (first
                      | (refine wpList_ix (k := 2) (j := j2) Tryd.underlying56 (by kernel_rfl) (.tmp 55) (.tmp 57) rfl rfl rfl rfl hlt2 rfl ?_)
                      | (refine wpList_ld 77 (.tmp 59) rfl rfl rfl ((RO.out.below E.out.below).load hlt2 Tryd.underlying77 rfl (by kernel_rfl)) ?_)
                      | (refine mem_alloc E 77 rfl rfl infoOut ?_; clear E; intro b8 w8 E)
                      | (refine mem_store_row 0 E 77 rfl (.tmp 8) (.tmp 60) rfl rfl rfl rfl (by kernel_rfl) (by rw [arr_size]; rfl) (RO.out.arr_one hlt2) ?_; clear E; intro w9 E; simp only [List.set_cons_zero, List.set_cons_succ] at E)
                      | (refine mem_load_cell E 2 rfl (.tmp 61) rfl rfl List.mem_cons_self Tryd.underlying2 rfl a0 ?_)
                      | (refine mem_load_cell E 30 rfl (.tmp 65) rfl rfl List.mem_cons_self Tryd.underlying30 rfl a1 ?_))
                    go_roundg (m - (j2 + 1))
                    case measure => omega
                    case rel => exact ⟨j2 + 1, by omega, by go_num, Lib.hid (by rw [NX2.out, F2.out, BX2.out]; rfl), Lib.hid E.out.tail⟩
              · obtain rfl : j2 = m := by omega
                have FO := Lib.hid (show canB t = true by rw [L2.out, FI.out]; have := F2.out; rw [HM.out, List.take_length] at this; rw [this]; rfl)
                go_wp2
                rw [FO.out]
                go_ret
                exact ⟨rfl, E.out.below⟩
set_option maxHeartbeats 4000000 in
theorem rhas_any {W : World} {v : Value} {t : TTx} (A0 : Hid (TxAt W v t)) : Calls Tryd.prog 24 #[v] W fun e w' => e = .returned (.bool (t.ins.any hasB)) ∧ Below W.heap.size W w' := by
  have E := Lib.hid (Mem.nil W)
  obtain ⟨V, rfl, A⟩ := A0.out
  have c1 : (arr 4 V)[1]? = some (V 1) := arr_get 4 V 1 (by omega)
  obtain ⟨p1, g1, o1, d1, U1, hv1, hb1, R1, T1⟩ := A.ins
  have RI := Lib.hid R1
  have TI := Lib.hid T1
  obtain ⟨n, hn⟩ : ∃ n, n = t.ins.length := ⟨_, rfl⟩
  have le1 : n * 96 ≤ 140737488351232 := by rw [hn]; exact hb1
  have HN := Lib.hid hn
  rw [hv1, ← hn] at c1
  rw [← hn] at RI
  have n3 : n ≤ 140737488355328 := by omega
  clear R1 T1 hn hv1 A A0 hb1 le1
  go_enter Tryd.func24, Tryd.ntmps24
  go_wp2_with (first
    | (refine mem_box E 58 rfl _ rfl rfl (arr_cells' 4 V) ?_; clear E; intro b1 w1 E)
    | (refine mem_load_cell E 55 rfl _ rfl rfl List.mem_cons_self Tryd.underlying55 rfl c1 ?_))
  go_loopg [8] n (fun k i wr => ∃ j : Nat, j + k = n ∧ i = .int .i64 (j : Int) ∧ Hid ((t.ins.take j).any hasB = false) ∧ Hid (Mem W [(b1, 58, arr 4 V)] wr))
  case atStart => exact ⟨0, by omega, rfl, Lib.hid (by simp), E⟩
  case round =>
    clear E
    obtain ⟨j, hj, rfl, F, E⟩ := hrel
    obtain ⟨kk, rfl⟩ : ∃ kk : Nat, kk = gk := ⟨_, rfl⟩
    by_cases hlt : j < n
    · obtain rfl := RI.out.head (by omega)
      have ht : j < t.ins.length := by rw [← HN.out]; exact hlt
      have EC := TI.out j ht
      obtain ⟨pw, gw, ow, cw, Vw, hvw, hcw, Rw, Tw⟩ := EC.wit
      have a35 : (arr 36 fun i => U1 (j * 36 + i))[35]? = some (.slice pw t.ins[j].wit.length cw) := by rw [arr_get 36 _ 35 (by omega), hvw]
      have ANY := Lib.hid (fun h : hasB t.ins[j] = true => any_at (pr := hasB) ht h)
      have NXT := Lib.hid (any_take (pr := hasB) ht)
      obtain ⟨nw, hnw⟩ : ∃ nw, nw = t.ins[j].wit.length := ⟨_, rfl⟩
      have HB := Lib.hid (show hasB t.ins[j] = decide (0 < nw) by rw [hnw]; rfl)
      rw [← hnw] at a35
      clear EC hvw hcw Rw Tw hnw
      by_cases hw : 0 < nw
      · have hw' : decide ((0 : Int) < (nw : Int)) = true := by simp; omega
        have hw2 : (0 : Int) < (nw : Int) := by omega
        have FF := Lib.hid (ANY.out (by rw [HB.out, decide_eq_true hw]))
        go_wp2_with (first
          | (refine wpList_ix (k := 36) (j := j) Tryd.underlying55 (by kernel_rfl) (.tmp 6) (.tmp 8) rfl rfl rfl rfl hlt rfl ?_)
          | (refine wpList_ld 75 (.tmp 10) rfl rfl rfl ((RI.out.below E.out.below).load hlt Tryd.underlying75 rfl (by kernel_rfl)) ?_)
          | (refine mem_alloc E 75 rfl rfl infoIn ?_; clear E; intro b4 w4 E; simp only [arr_cells'] at E)
          | (refine mem_store_row 0 E 75 rfl (.tmp 4) (.tmp 11) rfl rfl rfl rfl (by kernel_rfl) (by simp only [arr_size]) (RI.out.arr_one hlt) ?_; clear E; intro w5 E; simp only [List.set_cons_zero, List.set_cons_succ] at E)
          | (refine mem_load_cell E 73 rfl (.tmp 12) rfl rfl List.mem_cons_self Tryd.underlying73 rfl a35 ?_))
        rw [FF.out]
        go_ret
        exact ⟨rfl, E.out.below⟩
      · obtain rfl : nw = 0 := by omega
        go_wp2_with (first
          | (refine wpList_ix (k := 36) (j := j) Tryd.underlying55 (by kernel_rfl) (.tmp 6) (.tmp 8) rfl rfl rfl rfl hlt rfl ?_)
          | (refine wpList_ld 75 (.tmp 10) rfl rfl rfl ((RI.out.below E.out.below).load hlt Tryd.underlying75 rfl (by kernel_rfl)) ?_)
          | (refine mem_alloc E 75 rfl rfl infoIn ?_; clear E; intro b4 w4 E; simp only [arr_cells'] at E)
          | (refine mem_store_row 0 E 75 rfl (.tmp 4) (.tmp 11) rfl rfl rfl rfl (by kernel_rfl) (by simp only [arr_size]) (RI.out.arr_one hlt) ?_; clear E; intro w5 E; simp only [List.set_cons_zero, List.set_cons_succ] at E)
          | (refine mem_load_cell E 73 rfl (.tmp 12) rfl rfl List.mem_cons_self Tryd.underlying73 rfl a35 ?_))
        go_roundg (n - (j + 1))
        case measure => omega
        case rel => exact ⟨j + 1, by omega, by go_num, Lib.hid (by rw [NXT.out, F.out, HB.out]; rfl), Lib.hid E.out.tail⟩
    · obtain rfl : j = n := by omega
      have FI := Lib.hid (show t.ins.any hasB = false by have := F.out; rwa [HN.out, List.take_length] at this)
      go_wp2
      rw [FI.out]
      go_ret
      exact ⟨rfl, E.out.below⟩
end Go.Proofs.YtfjpjhhkafkepaaDoor

