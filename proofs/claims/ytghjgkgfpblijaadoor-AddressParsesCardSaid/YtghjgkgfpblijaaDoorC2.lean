/- The document's polymod and segwit. -/
import Derived.Test.YtghjgkgfpblijaaDoorC1
set_option linter.unusedSimpArgs false
set_option linter.unusedVariables false
set_option maxRecDepth 100000
namespace Go.Proofs.YtghjgkgfpblijaaDoor
open Go.ChangeShapes Go.WideShapes Go.RowKit Go.Lib Go.Sort

theorem irow_cell {w : World} {p : Option Addr} {g o n c : Nat} {x : Nat → Nat} (R : VRow 1 w p g o n c (iv x)) {i : Nat} (h : i < n) : w.cell? ⟨g, o + i, none⟩ = some (.int .i64 ((x i : Nat) : Int)) := R.cell i (by omega)
set_option maxHeartbeats 16000000 in
theorem polymod_any {w : World} {p : Option Addr} {g o n cc : Nat} {x : Nat → Nat} (R : Hid (VRow 1 w p g o n cc (iv x))) (hn : n ≤ 1000) (hx : Hid (∀ i, i < n → x i < 32)) : Calls Tryd.prog 45 #[.slice p n cc] w fun e w' => e = .returned (.int .i64 ((pol 1 (tl x n) : Nat) : Int)) ∧ Below w.heap.size w w' := by
  have B0 := Lib.hid (Below.refl w.heap.size w)
  go_enter Tryd.func45, Tryd.ntmps45
  go_upto_region 3 with fail
  go_loopg [3, 11] n (fun k s i wr => ∃ j v : Nat, j + k = n ∧ v < 1073741824 ∧ i = .int .i64 (j : Int) ∧ s = .int .i64 (v : Int) ∧ Hid (v = pol 1 (tl x j)) ∧ Hid (Below w.heap.size w wr))
  case atStart => exact ⟨0, 1, by omega, by omega, rfl, rfl, Lib.hid rfl, B0⟩
  case round =>
    clear B0
    obtain ⟨j, v, hj, hv, rfl, rfl, D, BB⟩ := hrel
    obtain ⟨kk, rfl⟩ : ∃ kk : Nat, kk = gk := ⟨_, rfl⟩
    obtain ⟨wo, rfl⟩ : ∃ wo : World, wo = wr := ⟨_, rfl⟩
    by_cases hlt : j < n
    · obtain rfl := R.out.head (by omega)
      have HLT := Lib.hid hlt
      have xb := hx.out j hlt
      obtain ⟨y, hy⟩ : ∃ y, y = x j := ⟨_, rfl⟩
      have CY := Lib.hid (show wo.cell? ⟨g, o + j, none⟩ = some (.int .i64 (y : Int)) by rw [hy]; exact irow_cell (R.out.below BB.out) hlt)
      rw [← hy] at xb
      obtain ⟨tp, htp⟩ : ∃ tp, tp = v / 33554432 := ⟨_, rfl⟩
      obtain ⟨m5, hm5⟩ : ∃ m5, m5 = v % 33554432 := ⟨_, rfl⟩
      obtain ⟨lo, hlo⟩ : ∃ lo, lo = v % 33554432 * 32 := ⟨_, rfl⟩
      obtain ⟨z, hz⟩ : ∃ z, z = lo ^^^ y := ⟨_, rfl⟩
      have zb : z < 1073741824 := by rw [hz, hlo]; exact xor_lt (k := 30) (by show _ < 1073741824; omega) (by show _ < 1073741824; omega)
      have X1 := Lib.hid (show v / 2 ^ 25 = tp by rw [htp])
      have X2 := Lib.hid (show v < 9223372036854775808 ∧ v &&& 33554431 = m5 from ⟨by omega, by have := Nat.and_two_pow_sub_one_eq_mod v 25; rw [show (2 : Nat) ^ 25 - 1 = 33554431 by decide] at this; rw [this, hm5]⟩)
      have X3 := Lib.hid (show m5 * 2 ^ 5 = lo ∧ lo < 9223372036854775808 from ⟨by rw [hm5, hlo], by omega⟩)
      have X4 := Lib.hid (show lo < 9223372036854775808 ∧ y < 9223372036854775808 by omega)
      have X5 := Lib.hid hz.symm
      have tpb : tp < 32 := by omega
      have PS := Lib.hid (show gxs z tp 5 = pol 1 (tl x (j + 1)) by rw [← pol_step D.out, ← hy, hz, hlo, htp]; rfl)
      clear hy htp hm5 hlo hz D
      go_upto_region 8 with (first
        | ((with_reducible refine wpList_at 13 rfl ?_); refine wpList_ix (k := 1) (j := j) Tryd.underlying37 (by kernel_rfl) (.tmp 9) (.tmp 11) rfl rfl rfl rfl HLT.out rfl ?_; rw [Nat.mul_one]; try simp only [Act.put, List.setIfInBounds_toArray, List.set_cons_zero, List.set_cons_succ])
        | ((with_reducible refine wpList_at 14 rfl ?_); refine wpList_ld1 3 (.tmp 13) rfl rfl rfl Tryd.underlying3 rfl CY.out ?_; try simp only [Act.put, List.setIfInBounds_toArray, List.set_cons_zero, List.set_cons_succ])
        | ((with_reducible refine wpList_at 16 rfl ?_); refine wpList_known4 rfl (.int .i64 (tp : Int)) _ (by exact exec_shrIc (n := v) (k := 25) (r := tp) rfl rfl rfl (by decide) X1.out) ?_; try simp only [Act.put, List.setIfInBounds_toArray, List.set_cons_zero, List.set_cons_succ])
        | ((with_reducible refine wpList_at 18 rfl ?_); refine wpList_known4 rfl (.int .i64 (m5 : Int)) _ (by exact exec_andIv (a := v) (b := 33554431) (r := m5) rfl rfl rfl X2.out.1 (by decide) X2.out.2) ?_; try simp only [Act.put, List.setIfInBounds_toArray, List.set_cons_zero, List.set_cons_succ])
        | ((with_reducible refine wpList_at 19 rfl ?_); refine wpList_known4 rfl (.int .i64 (lo : Int)) _ (by exact exec_shlIc (n := m5) (k := 5) (r := lo) rfl rfl rfl (by decide) X3.out.1 X3.out.2) ?_; try simp only [Act.put, List.setIfInBounds_toArray, List.set_cons_zero, List.set_cons_succ])
        | ((with_reducible refine wpList_at 21 rfl ?_); refine wpList_known4 rfl (.int .i64 (z : Int)) _ (by exact exec_xorIv (a := lo) (b := y) (r := z) rfl rfl rfl X4.out.1 X4.out.2 X5.out) ?_; try simp only [Act.put, List.setIfInBounds_toArray, List.set_cons_zero, List.set_cons_succ])
        | ((with_reducible refine wpList_at 22 rfl ?_); refine wpList_ibs rfl 5 _ rfl gw (by unfold maxLen; omega) (fun W => by kernel_rfl) ?_; intro p7 g7 w7 N7 hb7; replace BB := Lib.hid (BB.out.trans (hb7.out.mono BB.out.size)); clear hb7; try simp only [Act.put, List.setIfInBounds_toArray, List.set_cons_zero, List.set_cons_succ]))
      obtain rfl := N7.out.row.head (by omega)
      clear X1 X2 X3 X4 X5 CY
      go_loopg [3, 24] 5 (fun k s i wr => ∃ q u : Nat, q + k = 5 ∧ u < 1073741824 ∧ i = .int .i64 (q : Int) ∧ s = .int .i64 (u : Int) ∧ Hid (u = gxs z tp q) ∧ Hid (wr = w7))
      case atStart => exact ⟨0, z, by omega, zb, rfl, rfl, Lib.hid rfl, Lib.hid rfl⟩
      case round =>
        obtain ⟨q, u, hq, hu, rfl, rfl, D, HW2⟩ := hrel
        obtain ⟨k2, rfl⟩ : ∃ kk : Nat, kk = gk := ⟨_, rfl⟩
        obtain rfl : wr = w7 := HW2.out
        by_cases hlq : q < 5
        · have HLQ := Lib.hid hlq
          obtain ⟨sh, hsh⟩ : ∃ sh, sh = tp / 2 ^ q := ⟨_, rfl⟩
          have shb : sh < 32 := by rw [hsh]; exact Nat.lt_of_le_of_lt (Nat.div_le_self _ _) tpb
          obtain ⟨bt, hbt⟩ : ∃ bt, bt = sh % 2 := ⟨_, rfl⟩
          obtain ⟨wd, hwd⟩ : ∃ wd, wd = gw q := ⟨_, rfl⟩
          have wdb : wd < 1073741824 := by rw [hwd]; exact gw_lt q
          have CW := Lib.hid (show wr.cell? ⟨g7, q, none⟩ = some (.int .i64 (wd : Int)) by have := irow_cell N7.out.row hlq; rwa [Nat.zero_add, ← hwd] at this)
          have Y1 := Lib.hid (show q < 64 ∧ tp / 2 ^ q = sh from ⟨by omega, hsh.symm⟩)
          have Y2 := Lib.hid (show sh < 9223372036854775808 ∧ sh &&& 1 = bt by rw [Nat.and_one_is_mod]; omega)
          have Y3 := Lib.hid (show u < 9223372036854775808 ∧ wd < 9223372036854775808 by omega)
          by_cases hb1 : bt = 1
          · obtain ⟨u2, hu2⟩ : ∃ u2, u2 = u ^^^ wd := ⟨_, rfl⟩
            have u2b : u2 < 1073741824 := by rw [hu2]; exact xor_lt (k := 30) hu wdb
            have DD := Lib.hid (show u2 = gxs z tp (q + 1) by
              unfold gxs
              rw [← hsh, ← hbt, if_pos hb1, ← D.out, ← hwd, hu2])
            have Y4 := Lib.hid hu2.symm
            have Y5 := Lib.hid (show decide (bt = 1) = true by simp [hb1])
            clear hu2 D hsh hbt hwd hb1
            go_wp2_with (first
              | ((with_reducible refine wpList_at 27 rfl ?_); refine wpList_ix (k := 1) (j := q) Tryd.underlying37 (by kernel_rfl) (.tmp 22) (.tmp 24) rfl rfl rfl rfl HLQ.out rfl ?_; rw [Nat.mul_one, Nat.zero_add]; try simp only [Act.put, List.setIfInBounds_toArray, List.set_cons_zero, List.set_cons_succ])
              | ((with_reducible refine wpList_at 28 rfl ?_); refine wpList_ld1 3 (.tmp 27) rfl rfl rfl Tryd.underlying3 rfl CW.out ?_; try simp only [Act.put, List.setIfInBounds_toArray, List.set_cons_zero, List.set_cons_succ])
              | ((with_reducible refine wpList_at 31 rfl ?_); refine wpList_known4 rfl (.int .i64 (sh : Int)) _ (by exact exec_shrIv (n := tp) (k := q) (r := sh) rfl rfl rfl Y1.out.1 Y1.out.2) ?_; try simp only [Act.put, List.setIfInBounds_toArray, List.set_cons_zero, List.set_cons_succ])
              | ((with_reducible refine wpList_at 32 rfl ?_); refine wpList_known4 rfl (.int .i64 (bt : Int)) _ (by exact exec_andIv (a := sh) (b := 1) (r := bt) rfl rfl rfl Y2.out.1 (by decide) Y2.out.2) ?_; try simp only [Act.put, List.setIfInBounds_toArray, List.set_cons_zero, List.set_cons_succ])
              | ((with_reducible refine wpList_at 33 rfl ?_); refine wpList_known4 rfl (.bool true) _ (by exact exec_eql3v (a := bt) (b := 1) (q := true) rfl rfl rfl Y5.out) ?_; try simp only [Act.put, List.setIfInBounds_toArray, List.set_cons_zero, List.set_cons_succ])
              | ((with_reducible refine wpList_at 36 rfl ?_); refine wpList_known4 rfl (.int .i64 (u2 : Int)) _ (by exact exec_xorIv (a := u) (b := wd) (r := u2) rfl rfl rfl Y3.out.1 Y3.out.2 Y4.out) ?_; try simp only [Act.put, List.setIfInBounds_toArray, List.set_cons_zero, List.set_cons_succ]))
            go_roundg (5 - (q + 1))
            case measure => omega
            case rel => exact ⟨q + 1, u2, by omega, u2b, by go_num, rfl, DD, Lib.hid rfl⟩
          · have DD := Lib.hid (show u = gxs z tp (q + 1) by
              unfold gxs
              rw [← hsh, ← hbt, if_neg hb1, ← D.out])
            have Y5 := Lib.hid (show decide (bt = 1) = false by simp [hb1])
            clear D hsh hbt hwd hb1
            go_wp2_with (first
              | ((with_reducible refine wpList_at 27 rfl ?_); refine wpList_ix (k := 1) (j := q) Tryd.underlying37 (by kernel_rfl) (.tmp 22) (.tmp 24) rfl rfl rfl rfl HLQ.out rfl ?_; rw [Nat.mul_one, Nat.zero_add]; try simp only [Act.put, List.setIfInBounds_toArray, List.set_cons_zero, List.set_cons_succ])
              | ((with_reducible refine wpList_at 28 rfl ?_); refine wpList_ld1 3 (.tmp 27) rfl rfl rfl Tryd.underlying3 rfl CW.out ?_; try simp only [Act.put, List.setIfInBounds_toArray, List.set_cons_zero, List.set_cons_succ])
              | ((with_reducible refine wpList_at 31 rfl ?_); refine wpList_known4 rfl (.int .i64 (sh : Int)) _ (by exact exec_shrIv (n := tp) (k := q) (r := sh) rfl rfl rfl Y1.out.1 Y1.out.2) ?_; try simp only [Act.put, List.setIfInBounds_toArray, List.set_cons_zero, List.set_cons_succ])
              | ((with_reducible refine wpList_at 32 rfl ?_); refine wpList_known4 rfl (.int .i64 (bt : Int)) _ (by exact exec_andIv (a := sh) (b := 1) (r := bt) rfl rfl rfl Y2.out.1 (by decide) Y2.out.2) ?_; try simp only [Act.put, List.setIfInBounds_toArray, List.set_cons_zero, List.set_cons_succ])
              | ((with_reducible refine wpList_at 33 rfl ?_); refine wpList_known4 rfl (.bool false) _ (by exact exec_eql3v (a := bt) (b := 1) (q := false) rfl rfl rfl Y5.out) ?_; try simp only [Act.put, List.setIfInBounds_toArray, List.set_cons_zero, List.set_cons_succ]))
            go_roundg (5 - (q + 1))
            case measure => omega
            case rel => exact ⟨q + 1, u, by omega, hu, by go_num, rfl, DD, Lib.hid rfl⟩
        · obtain rfl : q = 5 := by omega
          have DD := Lib.hid (show u = pol 1 (tl x (j + 1)) by rw [D.out]; exact PS.out)
          clear D
          go_wp2
          go_roundg (n - (j + 1))
          case measure => omega
          case rel => exact ⟨j + 1, u, by omega, hu, by go_num, rfl, DD, BB⟩
    · obtain rfl : j = n := by omega
      clear hlt
      go_wp2
      go_ret
      exact ⟨by rw [← D.out]; rfl, BB.out⟩
theorem cut_SL {r : Nat} (h : r < 32) : SL.extract r (r + 1) = ltS SL [r] := by
  have k : ∀ i : Fin 32, SL.extract i.1 (i.1 + 1) = ltS SL [i.1] := by decide +kernel
  exact k ⟨r, h⟩
theorem ltS_cat (L : ByteArray) (a b : List Nat) : ltS L (a ++ b) = ltS L a ++ ltS L b := by
  refine ba_ext (by rw [ByteArray.size_append, ltS_size, ltS_size, ltS_size, List.length_append]) fun i hi => ?_
  rw [ltS_size, List.length_append] at hi
  rw [ltS_byt (by rw [List.length_append]; exact hi), ← lf_cat]
  unfold cat
  by_cases h : i < a.length
  · rw [if_pos h, byt_catl (by rw [ltS_size]; exact h), ltS_byt h]
  · rw [if_neg h, byt_catr (by rw [ltS_size]; omega) (by rw [ltS_size, ltS_size]; exact hi), ltS_size, ltS_byt (by omega)]
theorem exec_cutSL {o : Oper} {ev : Operand → Value} {W : World} {x y : Operand} {r : Nat} {S : ByteArray} (ho : o.op = .slice 9 (.const (.string ⟨#[113, 112, 122, 114, 121, 57, 120, 56, 103, 102, 50, 116, 118, 100, 119, 48, 115, 51, 106, 110, 53, 52, 107, 104, 99, 101, 54, 109, 117, 97, 55, 108]⟩)) (some x) (some y) none) (hc : ev (.const (.string ⟨#[113, 112, 122, 114, 121, 57, 120, 56, 103, 102, 50, 116, 118, 100, 119, 48, 115, 51, 106, 110, 53, 52, 107, 104, 99, 101, 54, 109, 117, 97, 55, 108]⟩)) = .string ⟨#[113, 112, 122, 114, 121, 57, 120, 56, 103, 102, 50, 116, 118, 100, 119, 48, 115, 51, 106, 110, 53, 52, 107, 104, 99, 101, 54, 109, 117, 97, 55, 108]⟩) (hx : ev x = .int .i64 (r : Int)) (hy : ev y = .int .i64 ((r : Int) + 1)) (hr : r < 32) (hS : S = ltS SL [r]) : (execOp ev o).run Tryd.prog W = .ok (.value (.string S)) W := by
  have hl : (Instr.slice 9 (.string SL) (some (.int .i64 (r : Int))) (some (.int .i64 ((r : Int) + 1))) none).run Tryd.prog W = .ok (.string (SL.extract r (r + 1))) W := by
    have e : ((r : Int) + 1).toNat = r + 1 := by omega
    simp [Instr.slice, run_underlying Tryd.underlying9, Instr.sliceBounds, run_sliceBound, sliced, SL_size, e, (by omega : (0 : Int) ≤ r), (by omega : (0 : Int) ≤ (r : Int) + 1), (by omega : (r : Int) + 1 ≤ 32), (by omega : (r : Int) ≤ (r : Int) + 1), (by omega : r + 1 ≤ 32)]
  rw [cut_SL hr, ← hS] at hl
  unfold SL at hl
  unfold execOp
  simp only [ho, Option.map_some, Option.map_none, hx, hy, hc, Sem.run_bind, run_sliceAt_string (w := W) 9 _ _ _ _ Tryd.underlying9, hl, Result.andThen_ok]
  rfl
end Go.Proofs.YtghjgkgfpblijaaDoor
