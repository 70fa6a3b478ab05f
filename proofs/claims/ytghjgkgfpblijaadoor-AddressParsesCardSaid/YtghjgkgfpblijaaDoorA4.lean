/- The four tables that an address leans on, as the rows list them; address.check: the sum of an address of bits. -/
import Derived.Test.YtghjgkgfpblijaaDoorZB
import Derived.Test.YtghjgkgfpblijaaDoorZE
import Derived.Test.YtghjgkgfpblijaaDoorSE
import Derived.Lay
set_option linter.unusedSimpArgs false
set_option linter.unusedVariables false
set_option maxRecDepth 100000
namespace Go.Proofs.YtghjgkgfpblijaaDoor.S
open Go.ChangeShapes Go.WideShapes Go.ChangeAt Go.RowKit

/-- What the rows list. -/
def adLaid : List (String × DataW Unit) := [("sporran/sha.startWords", Rows.laid_sporran_sha_startWords), ("sporran/sha.roundWords", Rows.laid_sporran_sha_roundWords), ("sporran/script.patterns", Rows.laid_sporran_script_patterns), ("sporran/address.checkWords", Rows.laid_sporran_address_checkWords)]
theorem gChkw : Tryd.prog.globalNamed "sporran/address.checkWords" = some 2 := by kernel_rfl
theorem tChkw : (Tryd.prog.globals[2]?).map (·.type) = some 76 := by kernel_rfl
def chkList : List Int := [996825010, 642813549, 513874426, 1027748829, 705979059]
theorem ad_door_met (os : Os) (args : Array Value) : laidMetH Tryd.prog adLaid ((World.doorLaid Tryd.prog 400 os).forCall (fun _ _ => 0) ⟨#[], args, []⟩).memory :=
  laidMetH_of_parts3 (fuel := 8) (laidMet_of_run' 8 (by kernel_rfl) (by kernel_rfl)) (by kernel_rfl) (by kernel_rfl)
/-- The words of the check lie where they are laid. -/
def CLaid (w : World) : Prop := ∀ i, i < 5 → w.cell? ⟨2, i, none⟩ = some (.int .u32 ((gw i : Nat) : Int))
theorem of_ad {W : World} (h : laidMetH Tryd.prog adLaid W) : Both W ∧ PLaid W ∧ CLaid W := by
  rw [MakeChecks.laidMetH_plain _ _ _ (by kernel_rfl)] at h
  obtain ⟨ps, ⟨g0, t0, cs0, f0, p0, q0, hg0, ht0, hv0, hd0, ⟨g1, t1, cs1, f1, p1, q1, hg1, ht1, hv1, hd1, ⟨g2, t2, cs2, f2, p2, q2, hg2, ht2, hv2, hd2, ⟨g3, t3, cs3, f3, p3, q3, hg3, ht3, hv3, hd3, _, _⟩, _⟩, _⟩, _⟩, _, _⟩ := h
  obtain rfl := Option.some.inj (gStart.symm.trans hg0)
  obtain rfl := Option.some.inj (tStart.symm.trans ht0)
  obtain rfl := Option.some.inj (gRound.symm.trans hg1)
  obtain rfl := Option.some.inj (tRound.symm.trans ht1)
  obtain rfl := Option.some.inj (gPat.symm.trans hg2)
  obtain rfl := Option.some.inj (tPat.symm.trans ht2)
  obtain rfl := Option.some.inj (gChkw.symm.trans hg3)
  obtain rfl := Option.some.inj (tChkw.symm.trans ht3)
  refine ⟨⟨?_, ?_⟩, ?_, ?_⟩
  · intro i hi
    have hd : DataW.trod _ Tryd.prog W 0 _ _ f0 77 cs0.toList = some (.agg (startList.map fun z => .lit (.int .u32 z)), p0) := hd0
    have hz : startList[i]? = some (startList.getD i 0) := by
      rw [List.getD_eq_getElem?_getD, List.getElem?_eq_getElem (by show i < 8; exact hi)]; rfl
    have h1 := ints_of_trod Tryd.underlying77 Tryd.underlying59 cU32 hd i _ hz
    rw [World.var?_cell hg0 hv0 i]
    have e : rv H0 i = .int .u32 (startList.getD i 0) := by
      match i, hi with
      | 0, _ => rfl
      | 1, _ => rfl
      | 2, _ => rfl
      | 3, _ => rfl
      | 4, _ => rfl
      | 5, _ => rfl
      | 6, _ => rfl
      | 7, _ => rfl
    rw [e]
    simpa using h1
  · intro i hi
    rw [roundList] at hd1
    have hz : kList[i]? = some (kWord i) := by
      unfold kWord
      rw [List.getD_eq_getElem?_getD, List.getElem?_eq_getElem (by show i < 64; exact hi)]; rfl
    have h1 := ints_of_trod Tryd.underlying87 Tryd.underlying59 cU32 hd1 i _ hz
    rw [World.var?_cell hg1 hv1 i]
    simpa using h1
  · intro i hi
    rw [World.var?_cell hg2 hv2 i]
    have := patsOf hd2 i hi
    simpa using this
  · intro i hi
    have hd : DataW.trod _ Tryd.prog W 0 _ _ f3 76 cs3.toList = some (.agg (chkList.map fun z => .lit (.int .u32 z)), p3) := hd3
    have hz : chkList[i]? = some (chkList.getD i 0) := by
      rw [List.getD_eq_getElem?_getD, List.getElem?_eq_getElem (by show i < 5; exact hi)]; rfl
    have h1 := ints_of_trod Tryd.underlying76 Tryd.underlying59 cU32 hd i _ hz
    rw [World.var?_cell hg3 hv3 i]
    have e : (.int .u32 ((gw i : Nat) : Int) : Value) = .int .u32 (chkList.getD i 0) := by
      match i, hi with
      | 0, _ => rfl
      | 1, _ => rfl
      | 2, _ => rfl
      | 3, _ => rfl
      | 4, _ => rfl
    rw [e]
    simpa using h1
end Go.Proofs.YtghjgkgfpblijaaDoor.S
namespace Go.Proofs.YtghjgkgfpblijaaDoor
open Go.ChangeShapes Go.WideShapes Go.RowKit Go.Lib Go.Sort

theorem S.CLaid.below {w w' : World} (h : S.CLaid w) (hb : Below w.heap.size w w') : S.CLaid w' := fun i hi => by
  rw [hb.cell (cell_lt (h i hi))]; exact h i hi
def gwv (i : Nat) : Value := .int .u32 ((gw i : Nat) : Int)
theorem S.CLaid.load {w : World} (h : S.CLaid w) : (Instr.loadAt 76 (.pointer (some ⟨2, 0, none⟩))).run Tryd.prog w = .ok (.agg (arr 5 gwv)) w := by
  have hr : w.rangeAt 2 0 (vs gwv 5) := fun j v hj => by
    obtain ⟨h1, rfl⟩ := vs_get _ _ _ _ hj
    rw [Nat.zero_add]
    exact h j h1
  have := run_loadAt_mid (P := Tryd.prog) w 2 0 76 (vs gwv 5) _ hr Tryd.underlying76 rfl (by rw [vs_length]; kernel_rfl)
  rwa [vs_arr] at this
theorem gw_index (j : Nat) (hj : j < 5) (w : World) : (Instr.index 76 (.agg (arr 5 gwv)) (.int .i64 (j : Int))).run Tryd.prog w = .ok (.int .u32 ((gw j : Nat) : Int)) w := by
  match j, hj with
  | 0, _ => (show _ = _; kernel_rfl)
  | 1, _ => (show _ = _; kernel_rfl)
  | 2, _ => (show _ = _; kernel_rfl)
  | 3, _ => (show _ = _; kernel_rfl)
  | 4, _ => (show _ = _; kernel_rfl)
theorem gw_lt (i : Nat) : gw i < 1073741824 := by
  unfold gw; split <;> decide
theorem gxs_lt {s t : Nat} (hs : s < 1073741824) : ∀ i, gxs s t i < 1073741824
  | 0 => hs
  | i + 1 => by
    unfold gxs
    split
    · exact xor_lt (k := 30) (gxs_lt hs i) (gw_lt i)
    · exact gxs_lt hs i
section
variable {o : Oper} {ev : Operand → Value} {W : World} {x y : Operand}
theorem exec_shl32c {n k r : Nat} (ho : o.op = .binOp .shl 59 x y 32) (hx : ev x = .int .u32 (n : Int)) (hy : ev y = .int .u64 (k : Int)) (hk : k < 32) (hr : n * 2 ^ k % 4294967296 = r) : (execOp ev o).run Tryd.prog W = .ok (.value (.int .u32 (r : Int))) W := by
  subst hr
  have h1 : min k 32 = k := by omega
  unfold execOp
  simp [ho, hx, hy, go_sem, IntKind.bits, h1, IntKind.wrap_u32]
theorem exec_shr32c {n k r : Nat} (ho : o.op = .binOp .shr 59 x y 32) (hx : ev x = .int .u32 (n : Int)) (hy : ev y = .int .u64 (k : Int)) (hk : k < 32) (hr : n / 2 ^ k = r) : (execOp ev o).run Tryd.prog W = .ok (.value (.int .u32 (r : Int))) W := by
  subst hr
  have h1 : min k 32 = k := by omega
  unfold execOp
  simp [ho, hx, hy, go_sem, IntKind.bits, h1]
end
/-- The words that stand ahead. -/
theorem ahead5 (x : Nat → Nat) (n : Nat) : tl (cat (lf [3, 3, 0, 2, 3]) 5 x) (5 + n) = [3, 3, 0, 2, 3] ++ tl x n := by
  rw [tl_cat]; congr 1
theorem pol_step {X : Nat → Nat} {s j : Nat} (h : s = pol 1 (tl X j)) : pst s (X j) = pol 1 (tl X (j + 1)) := by rw [tl_succ, pol_app, ← h]; rfl
set_option maxHeartbeats 16000000 in
theorem check_any {w : World} (CL : Hid (S.CLaid w)) {p : Option Addr} {g o n cc : Nat} {x : Nat → Nat} (R : Hid (Row w p g o n cc x)) (hn : n ≤ 1000) (hx : Hid (∀ i, i < n → x i < 32)) : Calls Tryd.prog 40 #[.slice p n cc] w fun e w' => e = .returned (.int .u32 ((chk (tl x n) : Nat) : Int)) ∧ Below w.heap.size w w' := by
  have E := Lib.hid (Mem.nil w)
  obtain ⟨m, hm⟩ : ∃ m, m = 5 + n := ⟨_, rfl⟩
  have hm2 : m ≤ 1005 := by omega
  have HM := Lib.hid hm.symm
  clear hm
  go_enter Tryd.func40, Tryd.ntmps40
  go_upto_region 3 with (first
    | ((with_reducible refine wpList_at 9 rfl ?_); refine wpList_bsw rfl 5 _ rfl E (lf [3, 3, 0, 2, 3]) (lf_lt (by intro x hx; simp at hx; omega)) (by unfold maxLen; omega) (fun W => by kernel_rfl) ?_; clear E; intro B1 p1 g1 w1 WK; have N := Lib.hid WK.out.gets.1; have BB := Lib.hid WK.out.gets.2; replace R := Lib.hid (R.out.below BB.out); clear WK; try simp only [Act.put, List.setIfInBounds_toArray, List.set_cons_zero, List.set_cons_succ])
    | ((with_reducible refine wpList_at 11 rfl ?_); refine wpList_app (.inl rfl) (.tmp 9) (.tmp 10) rfl rfl N rfl R (by omega) ?_; clear N; intro p8 g8 c8 w8 N hb8; replace BB := Lib.hid (BB.out.trans hb8.out); clear hb8; rw [HM.out] at N ⊢; try simp only [Act.put, List.setIfInBounds_toArray, List.set_cons_zero, List.set_cons_succ]))
  obtain ⟨X, hX⟩ : ∃ X, X = cat (lf [3, 3, 0, 2, 3]) 5 x := ⟨_, rfl⟩
  have XL := Lib.hid (show ∀ i, i < m → X i < 32 from fun i hi => by
    rw [← HM.out] at hi
    rw [hX]
    unfold cat
    split
    · rename_i h
      have : ∀ i : Fin 5, lf [3, 3, 0, 2, 3] i.1 < 32 := by decide
      exact this ⟨i, h⟩
    · exact hx.out _ (by omega))
  have FE := Lib.hid (show chk (tl x n) = pol 1 (tl X m) by rw [← HM.out, hX, ahead5]; rfl)
  rw [← hX] at N
  replace CL := Lib.hid (CL.out.below BB.out)
  clear hX R hx
  go_loopg [3, 13] m (fun k s i wr => ∃ j v : Nat, j + k = m ∧ v < 1073741824 ∧ i = .int .i64 (j : Int) ∧ s = .int .u32 (v : Int) ∧ Hid (v = pol 1 (tl X j)) ∧ Hid (wr = w8))
  case atStart => exact ⟨0, 1, by omega, by omega, rfl, rfl, Lib.hid rfl, Lib.hid rfl⟩
  case round =>
    obtain ⟨j, v, hj, hv, rfl, rfl, D, HW⟩ := hrel
    obtain ⟨kk, rfl⟩ : ∃ kk : Nat, kk = gk := ⟨_, rfl⟩
    obtain ⟨wo, rfl⟩ : ∃ wo : World, wo = wr := ⟨_, rfl⟩
    obtain rfl : wo = w8 := HW.out
    by_cases hlt : j < m
    · obtain rfl := N.out.row.head (by omega)
      have HLT := Lib.hid hlt
      have xb := XL.out j hlt
      obtain ⟨y, hy⟩ : ∃ y, y = X j := ⟨_, rfl⟩
      have CY := Lib.hid (show wo.cell? ⟨g8, j, none⟩ = some (.int .u8 (y : Int)) by have := N.out.row.cell j hlt; rwa [← hy, Nat.zero_add] at this)
      rw [← hy] at xb
      obtain ⟨tp, htp⟩ : ∃ tp, tp = v / 33554432 := ⟨_, rfl⟩
      obtain ⟨lo, hlo⟩ : ∃ lo, lo = v % 33554432 * 32 := ⟨_, rfl⟩
      obtain ⟨z, hz⟩ : ∃ z, z = lo ^^^ y := ⟨_, rfl⟩
      obtain ⟨m5, hm5⟩ : ∃ m5, m5 = v * 32 % 4294967296 := ⟨_, rfl⟩
      have zb : z < 1073741824 := by rw [hz, hlo]; exact xor_lt (k := 30) (by show _ < 1073741824; omega) (by show _ < 1073741824; omega)
      have X1 := Lib.hid (show v / 2 ^ 25 = tp by rw [htp])
      have X2 := Lib.hid (show v * 2 ^ 5 % 4294967296 = m5 by rw [hm5])
      have X3 := Lib.hid (show m5 &&& 1073741823 = lo by
        have := Nat.and_two_pow_sub_one_eq_mod m5 30
        have e : (2 : Nat) ^ 30 - 1 = 1073741823 := by decide
        rw [e] at this
        rw [this, hm5, hlo]
        omega)
      have X4 := Lib.hid (show m5 < 4294967296 ∧ lo < 4294967296 ∧ y < 4294967296 ∧ y < 256 by rw [hm5, hlo]; omega)
      have X5 := Lib.hid hz.symm
      have tpb : tp < 32 := by omega
      have PS := Lib.hid (show gxs z tp 5 = pol 1 (tl X (j + 1)) by rw [← pol_step D.out, ← hy, hz, hlo, htp]; rfl)
      have LD := Lib.hid CL.out.load
      clear hy htp hlo hz hm5 D
      go_upto_region 8 with (first
        | ((with_reducible refine wpList_at 15 rfl ?_); refine wpList_ix (k := 1) (j := j) Tryd.underlying22 (by kernel_rfl) (.tmp 11) (.tmp 13) rfl rfl rfl rfl HLT.out rfl ?_; rw [Nat.mul_one, Nat.zero_add]; try simp only [Act.put, List.setIfInBounds_toArray, List.set_cons_zero, List.set_cons_succ])
        | ((with_reducible refine wpList_at 16 rfl ?_); refine wpList_ld1 5 (.tmp 15) rfl rfl rfl Tryd.underlying5 rfl CY.out ?_; try simp only [Act.put, List.setIfInBounds_toArray, List.set_cons_zero, List.set_cons_succ])
        | ((with_reducible refine wpList_at 18 rfl ?_); refine wpList_known4 rfl (.int .u32 (tp : Int)) _ (by exact exec_shr32c (n := v) (k := 25) (r := tp) rfl rfl rfl (by decide) X1.out) ?_; try simp only [Act.put, List.setIfInBounds_toArray, List.set_cons_zero, List.set_cons_succ])
        | ((with_reducible refine wpList_at 20 rfl ?_); refine wpList_known4 rfl (.int .u32 (m5 : Int)) _ (by exact exec_shl32c (n := v) (k := 5) (r := m5) rfl rfl rfl (by decide) X2.out) ?_; try simp only [Act.put, List.setIfInBounds_toArray, List.set_cons_zero, List.set_cons_succ])
        | ((with_reducible refine wpList_at 21 rfl ?_); refine wpList_known4 rfl (.int .u32 (lo : Int)) _ (by exact exec_and32v (a := m5) (b := 1073741823) (r := lo) rfl rfl rfl X4.out.1 (by decide) X3.out) ?_; try simp only [Act.put, List.setIfInBounds_toArray, List.set_cons_zero, List.set_cons_succ])
        | ((with_reducible refine wpList_at 23 rfl ?_); refine wpList_known4 rfl (.int .u32 (y : Int)) _ (by exact exec_cv832 (n := y) rfl rfl X4.out.2.2.2) ?_; try simp only [Act.put, List.setIfInBounds_toArray, List.set_cons_zero, List.set_cons_succ])
        | ((with_reducible refine wpList_at 24 rfl ?_); refine wpList_known4 rfl (.int .u32 (z : Int)) _ (by exact exec_xor32v (a := lo) (b := y) (r := z) rfl rfl rfl X4.out.2.1 X4.out.2.2.1 X5.out) ?_; try simp only [Act.put, List.setIfInBounds_toArray, List.set_cons_zero, List.set_cons_succ])
        | ((with_reducible refine wpList_at 25 rfl ?_); refine wpList_ld 76 (.global 2) rfl rfl rfl LD.out ?_; try simp only [Act.put, List.setIfInBounds_toArray, List.set_cons_zero, List.set_cons_succ]))
      clear X1 X2 X3 X4 X5 CY LD
      go_loopg [3, 26] 5 (fun k s i wr => ∃ q u : Nat, q + k = 5 ∧ u < 1073741824 ∧ i = .int .i64 (q : Int) ∧ s = .int .u32 (u : Int) ∧ Hid (u = gxs z tp q) ∧ Hid (wr = wo))
      case atStart => exact ⟨0, z, by omega, zb, rfl, rfl, Lib.hid rfl, Lib.hid rfl⟩
      case round =>
        obtain ⟨q, u, hq, hu, rfl, rfl, D, HW2⟩ := hrel
        obtain ⟨k2, rfl⟩ : ∃ kk : Nat, kk = gk := ⟨_, rfl⟩
        obtain rfl : wr = wo := HW2.out
        by_cases hlq : q < 5
        · obtain ⟨sh, hsh⟩ : ∃ sh, sh = tp / 2 ^ q := ⟨_, rfl⟩
          have shb : sh < 32 := by rw [hsh]; exact Nat.lt_of_le_of_lt (Nat.div_le_self _ _) tpb
          obtain ⟨bt, hbt⟩ : ∃ bt, bt = sh % 2 := ⟨_, rfl⟩
          obtain ⟨wd, hwd⟩ : ∃ wd, wd = gw q := ⟨_, rfl⟩
          have wdb : wd < 1073741824 := by rw [hwd]; exact gw_lt q
          have IX := Lib.hid (show (Instr.index 76 (.agg (arr 5 gwv)) (.int .i64 (q : Int))).run Tryd.prog wr = .ok (.int .u32 (wd : Int)) wr by rw [hwd]; exact gw_index q hlq wr)
          have Y1 := Lib.hid (show q < 32 ∧ tp / 2 ^ q = sh from ⟨by omega, hsh.symm⟩)
          have Y2 := Lib.hid (show sh < 4294967296 ∧ sh &&& 1 = bt by rw [Nat.and_one_is_mod]; omega)
          have Y3 := Lib.hid (show u < 4294967296 ∧ wd < 4294967296 by omega)
          by_cases hb1 : bt = 1
          · obtain ⟨u2, hu2⟩ : ∃ u2, u2 = u ^^^ wd := ⟨_, rfl⟩
            have u2b : u2 < 1073741824 := by rw [hu2]; exact xor_lt (k := 30) hu wdb
            have DD := Lib.hid (show u2 = gxs z tp (q + 1) by
              unfold gxs
              rw [← hsh, ← hbt, if_pos hb1, ← D.out, ← hwd, hu2])
            have Y4 := Lib.hid hu2.symm
            have Y5 := Lib.hid (show decide (bt = 1) = true by simp [hb1])
            clear hu2 D hsh hbt hwd hb1
            go_wp2_with (first
              | ((with_reducible refine wpList_at 29 rfl ?_); refine wpList_known4 rfl (.int .u32 (wd : Int)) _ (by exact exec_index rfl IX.out) ?_; try simp only [Act.put, List.setIfInBounds_toArray, List.set_cons_zero, List.set_cons_succ])
              | ((with_reducible refine wpList_at 32 rfl ?_); refine wpList_known4 rfl (.int .u32 (sh : Int)) _ (by exact exec_shr32v (n := tp) (k := q) (r := sh) rfl rfl rfl Y1.out.1 Y1.out.2) ?_; try simp only [Act.put, List.setIfInBounds_toArray, List.set_cons_zero, List.set_cons_succ])
              | ((with_reducible refine wpList_at 33 rfl ?_); refine wpList_known4 rfl (.int .u32 (bt : Int)) _ (by exact exec_and32v (a := sh) (b := 1) (r := bt) rfl rfl rfl Y2.out.1 (by decide) Y2.out.2) ?_; try simp only [Act.put, List.setIfInBounds_toArray, List.set_cons_zero, List.set_cons_succ])
              | ((with_reducible refine wpList_at 34 rfl ?_); refine wpList_known4 rfl (.bool true) _ (by exact exec_eq32v (a := bt) (b := 1) (q := true) rfl rfl rfl Y5.out) ?_; try simp only [Act.put, List.setIfInBounds_toArray, List.set_cons_zero, List.set_cons_succ])
              | ((with_reducible refine wpList_at 37 rfl ?_); refine wpList_known4 rfl (.int .u32 (u2 : Int)) _ (by exact exec_xor32v (a := u) (b := wd) (r := u2) rfl rfl rfl Y3.out.1 Y3.out.2 Y4.out) ?_; try simp only [Act.put, List.setIfInBounds_toArray, List.set_cons_zero, List.set_cons_succ]))
            go_roundg (5 - (q + 1))
            case measure => omega
            case rel => exact ⟨q + 1, u2, by omega, u2b, by go_num, rfl, DD, Lib.hid rfl⟩
          · have DD := Lib.hid (show u = gxs z tp (q + 1) by
              unfold gxs
              rw [← hsh, ← hbt, if_neg hb1, ← D.out])
            have Y5 := Lib.hid (show decide (bt = 1) = false by simp [hb1])
            clear D hsh hbt hwd hb1
            go_wp2_with (first
              | ((with_reducible refine wpList_at 29 rfl ?_); refine wpList_known4 rfl (.int .u32 (wd : Int)) _ (by exact exec_index rfl IX.out) ?_; try simp only [Act.put, List.setIfInBounds_toArray, List.set_cons_zero, List.set_cons_succ])
              | ((with_reducible refine wpList_at 32 rfl ?_); refine wpList_known4 rfl (.int .u32 (sh : Int)) _ (by exact exec_shr32v (n := tp) (k := q) (r := sh) rfl rfl rfl Y1.out.1 Y1.out.2) ?_; try simp only [Act.put, List.setIfInBounds_toArray, List.set_cons_zero, List.set_cons_succ])
              | ((with_reducible refine wpList_at 33 rfl ?_); refine wpList_known4 rfl (.int .u32 (bt : Int)) _ (by exact exec_and32v (a := sh) (b := 1) (r := bt) rfl rfl rfl Y2.out.1 (by decide) Y2.out.2) ?_; try simp only [Act.put, List.setIfInBounds_toArray, List.set_cons_zero, List.set_cons_succ])
              | ((with_reducible refine wpList_at 34 rfl ?_); refine wpList_known4 rfl (.bool false) _ (by exact exec_eq32v (a := bt) (b := 1) (q := false) rfl rfl rfl Y5.out) ?_; try simp only [Act.put, List.setIfInBounds_toArray, List.set_cons_zero, List.set_cons_succ]))
            go_roundg (5 - (q + 1))
            case measure => omega
            case rel => exact ⟨q + 1, u, by omega, hu, by go_num, rfl, DD, Lib.hid rfl⟩
        · obtain rfl : q = 5 := by omega
          have DD := Lib.hid (show u = pol 1 (tl X (j + 1)) by rw [D.out]; exact PS.out)
          clear D
          go_wp2
          go_roundg (m - (j + 1))
          case measure => omega
          case rel => exact ⟨j + 1, u, by omega, hu, by go_num, rfl, DD, Lib.hid rfl⟩
    · obtain rfl : j = m := by omega
      have HV := Lib.hid (show v = chk (tl x n) by rw [FE.out]; exact D.out)
      clear D
      go_wp2
      go_ret
      exact ⟨by rw [← HV.out]; rfl, BB.out⟩
end Go.Proofs.YtghjgkgfpblijaaDoor
