/- The document's bytesOf, upper, lower, kinds. -/
import Derived.Test.YtghjgkgfpblijaaDoorD1
set_option linter.unusedSimpArgs false
set_option linter.unusedVariables false
set_option maxRecDepth 100000
namespace Go.Proofs.YtghjgkgfpblijaaDoor
open Go.ChangeShapes Go.WideShapes Go.RowKit Go.Lib Go.Sort

theorem open_strz {H : Type} {enc : TypeId × Value → H} {W : World} {base : Nat} {v : Value} {d : DataW H} {p : List MemPlace} {ts : List TypeId} {ds : List (DataW H)} {j : Nat}
    (hv : Value.okWide Tryd.prog W .any base 9 v) (hd : DataW.Trod enc Tryd.prog W 0 (fun _ => true) true 9 v d p)
    (hsz : (DataW.weightsEach Tryd.prog ts ds).all (· ≤ reachBytes) = true) (hts : ts[j]? = some 9) (hds : ds[j]? = some d) : ∃ s : ByteArray, v = .string s ∧ s.size ≤ 140737488351232 := by
  obtain ⟨s, rfl⟩ := okWide_string Tryd.underlying9 hv
  obtain ⟨fuel, hf⟩ := hd
  obtain ⟨s', h, hx, hs⟩ := DataW.trod_string Tryd.underlying9 hf
  simp [Value.cells] at h
  subst h
  have hd' : d = .lit (.string s.data.toList) := by simpa using congrArg Prod.fst hx
  rw [hd'] at hds
  refine ⟨s, rfl, ?_⟩
  have hm := DataW.weights_mem_each (P := Tryd.prog) hts hds s.data.toList.length (by simp [DataW.weights])
  have h2 : s.data.toList.length ≤ reachBytes := of_decide_eq_true (List.all_eq_true.1 hsz _ hm)
  have hsl : s.data.toList.length = s.size := by rw [Array.length_toList]; rfl
  rw [hsl] at h2
  simpa [reachBytes] using h2
section
variable {o : Oper} {ev : Operand → Value} {W : World} {x y : Operand}
theorem exec_geq8v {a b : Nat} {q : Bool} (ho : o.op = .binOp .geq 5 x y 5) (hx : ev x = .int .u8 (a : Int)) (hy : ev y = .int .u8 (b : Int)) (hq : decide (b ≤ a) = q) : (execOp ev o).run Tryd.prog W = .ok (.value (.bool q)) W := by
  subst hq
  unfold execOp
  by_cases h : b ≤ a
  · simp [ho, hx, hy, go_sem, h]
  · simp [ho, hx, hy, go_sem, h]
theorem exec_leq8v {a b : Nat} {q : Bool} (ho : o.op = .binOp .leq 5 x y 5) (hx : ev x = .int .u8 (a : Int)) (hy : ev y = .int .u8 (b : Int)) (hq : decide (a ≤ b) = q) : (execOp ev o).run Tryd.prog W = .ok (.value (.bool q)) W := by
  subst hq
  unfold execOp
  by_cases h : a ≤ b
  · simp [ho, hx, hy, go_sem, h]
  · simp [ho, hx, hy, go_sem, h]
theorem exec_add8v {a b r : Nat} (ho : o.op = .binOp .add 5 x y 5) (hx : ev x = .int .u8 (a : Int)) (hy : ev y = .int .u8 (b : Int)) (hr : a + b = r) (hl : r < 256) : (execOp ev o).run Tryd.prog W = .ok (.value (.int .u8 (r : Int))) W := by
  have h : IntKind.u8.wrap ((a : Int) + (b : Int)) = (r : Int) := by rw [IntKind.wrap_u8']; omega
  unfold execOp
  simp [ho, hx, hy, go_sem, h]
end
set_option maxHeartbeats 16000000 in
theorem bytesof_any {w : World} {p : Option Addr} {g o n cc : Nat} {x : Nat → Nat} (R : Hid (VRow 1 w p g o n cc (iv x))) (hn : n ≤ 1000) (hx : Hid (∀ i, i < n → x i < 32)) :
    Calls Tryd.prog 53 #[.slice p n cc] w fun e w' => ∃ p2 g2 c2, e = .returned (.tuple #[.slice p2 (bO (tl x n)).length c2, .bool (bK (tl x n))]) ∧ Own w.heap.size w' p2 g2 (bO (tl x n)).length c2 (lf (bO (tl x n))) ∧ Below w.heap.size w w' := by
  go_enter Tryd.func53, Tryd.ntmps53
  go_upto_region 4 with fail
  have N0 := Lib.hid (own_nothing w w.heap.size (gI 8 0 0) (fun i => Nat.lt_of_lt_of_le (gI_lt 8 0 0 i) (by decide)) (Nat.le_refl _))
  have B0 := Lib.hid (Below.refl w.heap.size w)
  go_loopg [4, 5, 6, 11] n (fun k s4 s5 s6 i wr => ∃ (j L c H V T c1 g1 : Nat) (p1 : Option Addr), j + k = n ∧ L ≤ j ∧ c < 8 ∧ H < 256 ∧ i = .int .i64 (j : Int) ∧ s6 = .int .i64 (c : Int) ∧ s5 = .int .i64 (H : Int) ∧ s4 = .slice p1 L c1 ∧ Hid (V = acc 32 (tl x j) ∧ T = 5 * j ∧ T = 8 * L + c ∧ H = V % 2 ^ c) ∧ Hid (Own w.heap.size wr p1 g1 L c1 (gI 8 V T)) ∧ Hid (Below w.heap.size w wr))
  case atStart => exact ⟨0, 0, 0, 0, 0, 0, 0, 0, none, by omega, by omega, by omega, by omega, rfl, rfl, rfl, rfl, Lib.hid ⟨rfl, rfl, rfl, rfl⟩, N0, B0⟩
  case round =>
    clear N0 B0
    obtain ⟨j, L, c, H, V, T, c1, g1, p1, hj, hL, hc, hH, rfl, rfl, rfl, rfl, D, N, BB⟩ := hrel
    obtain ⟨kk, rfl⟩ : ∃ kk : Nat, kk = gk := ⟨_, rfl⟩
    obtain ⟨wo, rfl⟩ : ∃ wo : World, wo = wr := ⟨_, rfl⟩
    by_cases hlt : j < n
    · obtain rfl := R.out.head (by omega)
      have HLT := Lib.hid hlt
      have xb := hx.out j hlt
      obtain ⟨y, hy⟩ : ∃ y, y = x j := ⟨_, rfl⟩
      have CL := Lib.hid (show wo.cell? ⟨g, o + j, none⟩ = some (.int .i64 (y : Int)) by rw [hy]; exact irow_cell (R.out.below BB.out) hlt)
      rw [← hy] at xb
      obtain ⟨V2, hV2⟩ : ∃ V2, V2 = V * 32 + y := ⟨_, rfl⟩
      obtain ⟨T2, hT2⟩ : ∃ T2, T2 = T + 5 := ⟨_, rfl⟩
      obtain ⟨c2, hc2⟩ : ∃ c2, c2 = c + 5 := ⟨_, rfl⟩
      obtain ⟨H2, hH2⟩ : ∃ H2, H2 = H * 32 + y := ⟨_, rfl⟩
      have H2b : H2 < 65536 := by omega
      have D2 := Lib.hid (show V2 = acc 32 (tl x (j + 1)) ∧ T2 = 5 * (j + 1) ∧ T2 = 8 * L + c2 ∧ H2 = V2 % 2 ^ c2 from ⟨by rw [tl_succ, acc_snoc, ← D.out.1, ← hy, hV2], by have := D.out.2.1; omega, by have := D.out.2.2.1; omega, by
        rw [hH2, D.out.2.2.2, hV2, hc2]
        exact held_more (w := 5) xb⟩)
      have N2 := Lib.hid (Own.to (y := gI 8 V2 T2) N.out (fun i hi => by
        rw [hV2, hT2]
        refine (gI_more (w := 5) xb ?_).symm
        have h1 : 8 * (i + 1) ≤ 8 * L := Nat.mul_le_mul_left 8 hi
        have := D.out.2.2.1
        omega) (fun i => gI_lt 8 _ _ i))
      have X1 := Lib.hid (show H * 2 ^ 5 = H * 32 ∧ H * 32 < 9223372036854775808 from ⟨rfl, by omega⟩)
      have X2 := Lib.hid (show H * 32 ||| y = H2 by rw [hH2]; exact or_low (w := 5) xb)
      have X3 := Lib.hid (show H * 32 < 9223372036854775808 ∧ y < 9223372036854775808 by omega)
      have X4 := Lib.hid (show c + 5 = c2 ∧ c2 < 9223372036854775808 by omega)
      have hc2b : c2 ≤ 12 := by omega
      have Ln : L + 1 ≤ 1001 := by omega
      clear hy hV2 hT2 hH2 D N xb hH
      by_cases h8 : 8 ≤ c2
      · have H8 := Lib.hid (show decide (8 ≤ c2) = true by simp [h8])
        obtain ⟨c3, hc3⟩ : ∃ c3, c3 = c2 - 8 := ⟨_, rfl⟩
        obtain ⟨u, hu⟩ : ∃ u, u = H2 / 2 ^ c3 := ⟨_, rfl⟩
        have huv : u = gI 8 V2 T2 L := by
          have hd := held_deep (V := V2) (a := c2) (b := c3) (o := 8) (by omega)
          rw [← D2.out.2.2.2, ← hu] at hd
          unfold gI
          rw [show T2 - 8 * (L + 1) = c3 by have := D2.out.2.2.1; omega, ← hd]
          have hl : H2 < 2 ^ c2 := by rw [D2.out.2.2.2]; exact held_lt _ _
          have hs : (2 : Nat) ^ c2 = 2 ^ c3 * 2 ^ 8 := by rw [← Nat.pow_add]; congr 1; omega
          have : u < 2 ^ 8 := by
            rw [hu]
            exact Nat.div_lt_of_lt_mul (by rw [← hs]; exact hl)
          exact (Nat.mod_eq_of_lt this).symm
        have ub : u < 256 := by rw [huv]; exact gI_lt 8 _ _ _
        have Y1 := Lib.hid (show 8 ≤ c2 ∧ c2 < 9223372036854775808 ∧ c2 - 8 = c3 by omega)
        have Y2 := Lib.hid (show c3 < 64 ∧ H2 / 2 ^ c3 = u from ⟨by omega, hu.symm⟩)
        have HV := Lib.hid huv
        have HUB := Lib.hid ub
        have E3 := Lib.hid (show T2 = 8 * (L + 1) + c3 by have := D2.out.2.2.1; omega)
        obtain ⟨P, hP⟩ : ∃ P, P = 2 ^ c3 := ⟨_, rfl⟩
        obtain ⟨H3, hH3⟩ : ∃ H3, H3 = V2 % 2 ^ c3 := ⟨_, rfl⟩
        have p3 : 2 ^ c3 ≤ 2 ^ 8 := Nat.pow_le_pow_right (by omega) (by omega)
        have p4 : 0 < 2 ^ c3 := Nat.pow_pos (by omega)
        have H3b : H3 < 256 := by rw [hH3]; have := held_lt V2 c3; omega
        have Y4 := Lib.hid (show 1 * 2 ^ c3 = P ∧ P < 9223372036854775808 ∧ c3 < 64 ∧ 1 ≤ P by rw [hP]; omega)
        have Y6 := Lib.hid (show H2 &&& (P - 1) = H3 by
          rw [hP, Nat.and_two_pow_sub_one_eq_mod, hH3, D2.out.2.2.2]
          exact Nat.mod_mod_of_dvd _ (Nat.pow_dvd_pow 2 (by omega)))
        have Y7 := Lib.hid (show H2 < 9223372036854775808 ∧ P - 1 < 9223372036854775808 by have := Y4.out; omega)
        have D3 := Lib.hid (show V2 = acc 32 (tl x (j + 1)) ∧ T2 = 5 * (j + 1) ∧ T2 = 8 * (L + 1) + c3 ∧ H3 = V2 % 2 ^ c3 from ⟨D2.out.1, D2.out.2.1, E3.out, hH3⟩)
        have c3b : c3 < 8 := by omega
        obtain ⟨L1, hL1⟩ : ∃ L1, L1 = L + 1 := ⟨_, rfl⟩
        have HL1 := Lib.hid hL1.symm
        have L1j : L1 ≤ j + 1 := by omega
        rw [← hL1] at D3
        clear hu huv ub hP hH3 p3 p4 D2 h8 hc3 hL1 hc2
        go_wp2_with (first
          | ((with_reducible refine wpList_at 13 rfl ?_); refine wpList_ix (k := 1) (j := j) Tryd.underlying37 (by kernel_rfl) (.tmp 9) (.tmp 11) rfl rfl rfl rfl HLT.out rfl ?_; rw [Nat.mul_one]; try simp only [Act.put, List.setIfInBounds_toArray, List.set_cons_zero, List.set_cons_succ])
          | ((with_reducible refine wpList_at 14 rfl ?_); refine wpList_ld1 3 (.tmp 13) rfl rfl rfl Tryd.underlying3 rfl CL.out ?_; try simp only [Act.put, List.setIfInBounds_toArray, List.set_cons_zero, List.set_cons_succ])
          | ((with_reducible refine wpList_at 16 rfl ?_); refine wpList_known4 rfl (.int .i64 ((H * 32 : Nat) : Int)) _ (by exact exec_shlIc (n := H) (k := 5) (r := H * 32) rfl rfl rfl (by decide) X1.out.1 X1.out.2) ?_; try simp only [Act.put, List.setIfInBounds_toArray, List.set_cons_zero, List.set_cons_succ])
          | ((with_reducible refine wpList_at 18 rfl ?_); refine wpList_known4 rfl (.int .i64 (H2 : Int)) _ (by exact exec_orIv (a := H * 32) (b := y) (r := H2) rfl rfl rfl X3.out.1 X3.out.2 X2.out) ?_; try simp only [Act.put, List.setIfInBounds_toArray, List.set_cons_zero, List.set_cons_succ])
          | ((with_reducible refine wpList_at 20 rfl ?_); refine wpList_known4 rfl (.int .i64 (c2 : Int)) _ (by exact exec_add3v (a := c) (b := 5) (r := c2) rfl rfl rfl X4.out.1 X4.out.2) ?_; try simp only [Act.put, List.setIfInBounds_toArray, List.set_cons_zero, List.set_cons_succ])
          | ((with_reducible refine wpList_at 22 rfl ?_); refine wpList_known4 rfl (.bool true) _ (by exact exec_geq3v (a := c2) (b := 8) (q := true) rfl rfl rfl H8.out) ?_; try simp only [Act.put, List.setIfInBounds_toArray, List.set_cons_zero, List.set_cons_succ])
          | ((with_reducible refine wpList_at 24 rfl ?_); refine wpList_known4 rfl (.int .i64 (c3 : Int)) _ (by exact exec_sub3v (a := c2) (b := 8) (r := c3) rfl rfl rfl Y1.out.1 Y1.out.2.1 Y1.out.2.2) ?_; try simp only [Act.put, List.setIfInBounds_toArray, List.set_cons_zero, List.set_cons_succ])
          | ((with_reducible refine wpList_at 28 rfl ?_); refine wpList_known4 rfl (.int .i64 (u : Int)) _ (by exact exec_shrIv (n := H2) (k := c3) (r := u) rfl rfl rfl Y2.out.1 Y2.out.2) ?_; try simp only [Act.put, List.setIfInBounds_toArray, List.set_cons_zero, List.set_cons_succ])
          | ((with_reducible refine wpList_at 29 rfl ?_); refine wpList_known4 rfl (.int .u8 (u : Int)) _ (exec_cv rfl (conv_byte HUB.out _)) ?_; try simp only [Act.put, List.setIfInBounds_toArray, List.set_cons_zero, List.set_cons_succ])
          | ((with_reducible refine wpList_at 30 rfl ?_); refine wpList_b1o rfl _ rfl (.int .u8 (u : Int)) (v := u) (by kernel_rfl) rfl HUB.out ?_; intro p7 g7 w7 N7 hb7; have R7 := Lib.hid N7.out.row; replace N2 := Lib.hid (N2.out.below hb7.out); replace BB := Lib.hid (BB.out.trans (hb7.out.mono BB.out.size)); clear hb7 N7; try simp only [Act.put, List.setIfInBounds_toArray, List.set_cons_zero, List.set_cons_succ])
          | ((with_reducible refine wpList_at 31 rfl ?_); refine wpList_app (.inl rfl) (.tmp 25) (.tmp 30) rfl rfl N2 rfl R7 (by omega) ?_; clear N2 R7; intro p8 g8 c8 w8 N2 hb8; rw [HL1.out] at N2 ⊢; replace BB := Lib.hid (BB.out.trans hb8.out); clear hb8; try simp only [Act.put, List.setIfInBounds_toArray, List.set_cons_zero, List.set_cons_succ])
          | ((with_reducible refine wpList_at 34 rfl ?_); refine wpList_known4 rfl (.int .i64 (P : Int)) _ (by exact exec_shlIv (n := 1) (k := c3) (r := P) rfl rfl rfl Y4.out.2.2.1 Y4.out.1 Y4.out.2.1) ?_; try simp only [Act.put, List.setIfInBounds_toArray, List.set_cons_zero, List.set_cons_succ])
          | ((with_reducible refine wpList_at 35 rfl ?_); refine wpList_known4 rfl (.int .i64 ((P - 1 : Nat) : Int)) _ (by exact exec_sub3v (a := P) (b := 1) (r := P - 1) rfl rfl rfl Y4.out.2.2.2 Y4.out.2.1 rfl) ?_; try simp only [Act.put, List.setIfInBounds_toArray, List.set_cons_zero, List.set_cons_succ])
          | ((with_reducible refine wpList_at 36 rfl ?_); refine wpList_known4 rfl (.int .i64 (H3 : Int)) _ (by exact exec_andIv (a := H2) (b := P - 1) (r := H3) rfl rfl rfl Y7.out.1 Y7.out.2 Y6.out) ?_; try simp only [Act.put, List.setIfInBounds_toArray, List.set_cons_zero, List.set_cons_succ]))
        have N3 := Lib.hid (Own.to (y := gI 8 V2 T2) N2.out (fun i hi => by
          rw [← HL1.out] at hi
          unfold cat
          by_cases h : i < L
          · rw [if_pos h]
          · rw [if_neg h, show i = L by omega]; exact HV.out) (fun i => gI_lt 8 _ _ i))
        clear N2 HV
        go_roundg (n - (j + 1))
        case measure => omega
        case rel => exact ⟨j + 1, L1, c3, H3, V2, T2, c8, g8, p8, by omega, by omega, by omega, H3b, by go_num, rfl, rfl, rfl, D3, N3, BB⟩
      · have H8 := Lib.hid (show decide (8 ≤ c2) = false by simp; omega)
        obtain ⟨P, hP⟩ : ∃ P, P = 2 ^ c2 := ⟨_, rfl⟩
        obtain ⟨H3, hH3⟩ : ∃ H3, H3 = V2 % 2 ^ c2 := ⟨_, rfl⟩
        have p3 : 2 ^ c2 ≤ 2 ^ 8 := Nat.pow_le_pow_right (by omega) (by omega)
        have p4 : 0 < 2 ^ c2 := Nat.pow_pos (by omega)
        have H3b : H3 < 256 := by rw [hH3]; have := held_lt V2 c2; omega
        have Y4 := Lib.hid (show 1 * 2 ^ c2 = P ∧ P < 9223372036854775808 ∧ c2 < 64 ∧ 1 ≤ P by rw [hP]; omega)
        have Y6 := Lib.hid (show H2 &&& (P - 1) = H3 by
          rw [hP, Nat.and_two_pow_sub_one_eq_mod, hH3, D2.out.2.2.2]
          exact Nat.mod_mod_of_dvd _ (Nat.dvd_refl _))
        have Y7 := Lib.hid (show H2 < 9223372036854775808 ∧ P - 1 < 9223372036854775808 by have := Y4.out; omega)
        have D3 := Lib.hid (show V2 = acc 32 (tl x (j + 1)) ∧ T2 = 5 * (j + 1) ∧ T2 = 8 * L + c2 ∧ H3 = V2 % 2 ^ c2 from ⟨D2.out.1, D2.out.2.1, D2.out.2.2.1, hH3⟩)
        have c2b : c2 < 8 := by omega
        clear hP hH3 p3 p4 D2 h8 hc2
        go_wp2_with (first
          | ((with_reducible refine wpList_at 13 rfl ?_); refine wpList_ix (k := 1) (j := j) Tryd.underlying37 (by kernel_rfl) (.tmp 9) (.tmp 11) rfl rfl rfl rfl HLT.out rfl ?_; rw [Nat.mul_one]; try simp only [Act.put, List.setIfInBounds_toArray, List.set_cons_zero, List.set_cons_succ])
          | ((with_reducible refine wpList_at 14 rfl ?_); refine wpList_ld1 3 (.tmp 13) rfl rfl rfl Tryd.underlying3 rfl CL.out ?_; try simp only [Act.put, List.setIfInBounds_toArray, List.set_cons_zero, List.set_cons_succ])
          | ((with_reducible refine wpList_at 16 rfl ?_); refine wpList_known4 rfl (.int .i64 ((H * 32 : Nat) : Int)) _ (by exact exec_shlIc (n := H) (k := 5) (r := H * 32) rfl rfl rfl (by decide) X1.out.1 X1.out.2) ?_; try simp only [Act.put, List.setIfInBounds_toArray, List.set_cons_zero, List.set_cons_succ])
          | ((with_reducible refine wpList_at 18 rfl ?_); refine wpList_known4 rfl (.int .i64 (H2 : Int)) _ (by exact exec_orIv (a := H * 32) (b := y) (r := H2) rfl rfl rfl X3.out.1 X3.out.2 X2.out) ?_; try simp only [Act.put, List.setIfInBounds_toArray, List.set_cons_zero, List.set_cons_succ])
          | ((with_reducible refine wpList_at 20 rfl ?_); refine wpList_known4 rfl (.int .i64 (c2 : Int)) _ (by exact exec_add3v (a := c) (b := 5) (r := c2) rfl rfl rfl X4.out.1 X4.out.2) ?_; try simp only [Act.put, List.setIfInBounds_toArray, List.set_cons_zero, List.set_cons_succ])
          | ((with_reducible refine wpList_at 22 rfl ?_); refine wpList_known4 rfl (.bool false) _ (by exact exec_geq3v (a := c2) (b := 8) (q := false) rfl rfl rfl H8.out) ?_; try simp only [Act.put, List.setIfInBounds_toArray, List.set_cons_zero, List.set_cons_succ])
          | ((with_reducible refine wpList_at 34 rfl ?_); refine wpList_known4 rfl (.int .i64 (P : Int)) _ (by exact exec_shlIv (n := 1) (k := c2) (r := P) rfl rfl rfl Y4.out.2.2.1 Y4.out.1 Y4.out.2.1) ?_; try simp only [Act.put, List.setIfInBounds_toArray, List.set_cons_zero, List.set_cons_succ])
          | ((with_reducible refine wpList_at 35 rfl ?_); refine wpList_known4 rfl (.int .i64 ((P - 1 : Nat) : Int)) _ (by exact exec_sub3v (a := P) (b := 1) (r := P - 1) rfl rfl rfl Y4.out.2.2.2 Y4.out.2.1 rfl) ?_; try simp only [Act.put, List.setIfInBounds_toArray, List.set_cons_zero, List.set_cons_succ])
          | ((with_reducible refine wpList_at 36 rfl ?_); refine wpList_known4 rfl (.int .i64 (H3 : Int)) _ (by exact exec_andIv (a := H2) (b := P - 1) (r := H3) rfl rfl rfl Y7.out.1 Y7.out.2 Y6.out) ?_; try simp only [Act.put, List.setIfInBounds_toArray, List.set_cons_zero, List.set_cons_succ]))
        go_roundg (n - (j + 1))
        case measure => omega
        case rel => exact ⟨j + 1, L, c2, H3, V2, T2, c1, g1, p1, by omega, by omega, by omega, H3b, by go_num, rfl, rfl, rfl, D3, N2, BB⟩
    · obtain rfl : j = n := by omega
      have h1 : T / 8 = L ∧ T % 8 = c := by have := D.out.2.2.1; omega
      have hO : bO (tl x j) = tl (gI 8 V T) L := by
        unfold bO
        rw [tl_length, ← D.out.2.1, h1.1, show acc (2 ^ 5) (tl x j) = V from D.out.1.symm]
      have hK : bK (tl x j) = decide (c < 5 ∧ H = 0) := by
        unfold bK
        rw [tl_length, ← D.out.2.1, h1.2, show acc (2 ^ 5) (tl x j) = V from D.out.1.symm, ← D.out.2.2.2]
      have HO := Lib.hid hO
      have HLL := Lib.hid (show (bO (tl x j)).length = L by rw [hO, tl_length])
      have NF := Lib.hid (Own.to (y := lf (bO (tl x j))) N.out (fun i hi => by rw [hO, lf_tl _ hi]) (lf_lt (bO_lt _)))
      by_cases h5 : c < 5
      · by_cases h0 : H = 0
        · have Y1 := Lib.hid (show decide (c < 5) = true by simp [h5])
          have Y2 := Lib.hid (show decide (H = 0) = true by simp [h0])
          have HQ := Lib.hid (show bK (tl x j) = true by rw [hK]; simp [h5, h0])
          clear h5 h0 hK hO h1 D N HO
          go_wp2_with (first
            | ((with_reducible refine wpList_at 40 rfl ?_); refine wpList_known4 rfl (.bool true) _ (by exact exec_lss3v (a := c) (b := 5) (q := true) rfl rfl rfl Y1.out) ?_; try simp only [Act.put, List.setIfInBounds_toArray, List.set_cons_zero, List.set_cons_succ])
            | ((with_reducible refine wpList_at 43 rfl ?_); refine wpList_known4 rfl (.bool true) _ (by exact exec_eql3v (a := H) (b := 0) (q := true) rfl rfl rfl Y2.out) ?_; try simp only [Act.put, List.setIfInBounds_toArray, List.set_cons_zero, List.set_cons_succ]))
          go_ret2
          exact ⟨p1, g1, c1, by rw [HLL.out, HQ.out]; rfl, by rw [HLL.out]; exact NF.out, BB.out⟩
        · have Y1 := Lib.hid (show decide (c < 5) = true by simp [h5])
          have Y2 := Lib.hid (show decide (H = 0) = false by simp [h0])
          have HQ := Lib.hid (show bK (tl x j) = false by rw [hK]; simp [h5, h0])
          clear h5 h0 hK hO h1 D N HO
          go_wp2_with (first
            | ((with_reducible refine wpList_at 40 rfl ?_); refine wpList_known4 rfl (.bool true) _ (by exact exec_lss3v (a := c) (b := 5) (q := true) rfl rfl rfl Y1.out) ?_; try simp only [Act.put, List.setIfInBounds_toArray, List.set_cons_zero, List.set_cons_succ])
            | ((with_reducible refine wpList_at 43 rfl ?_); refine wpList_known4 rfl (.bool false) _ (by exact exec_eql3v (a := H) (b := 0) (q := false) rfl rfl rfl Y2.out) ?_; try simp only [Act.put, List.setIfInBounds_toArray, List.set_cons_zero, List.set_cons_succ]))
          go_ret2
          exact ⟨p1, g1, c1, by rw [HLL.out, HQ.out]; rfl, by rw [HLL.out]; exact NF.out, BB.out⟩
      · have Y1 := Lib.hid (show decide (c < 5) = false by simp [h5])
        have HQ := Lib.hid (show bK (tl x j) = false by rw [hK]; simp [h5])
        clear h5 hK hO h1 D N HO
        go_wp2_with (first
          | ((with_reducible refine wpList_at 40 rfl ?_); refine wpList_known4 rfl (.bool false) _ (by exact exec_lss3v (a := c) (b := 5) (q := false) rfl rfl rfl Y1.out) ?_; try simp only [Act.put, List.setIfInBounds_toArray, List.set_cons_zero, List.set_cons_succ]))
        go_ret2
        exact ⟨p1, g1, c1, by rw [HLL.out, HQ.out]; rfl, by rw [HLL.out]; exact NF.out, BB.out⟩
theorem kinds_any (w : World) : Calls Tryd.prog 28 #[] w fun e w' => ∃ p g, e = .returned (.slice p 5 5) ∧ IOwn w.heap.size w' p g 5 5 (fun i => i + 1) ∧ Below w.heap.size w w' := by
  go_enter Tryd.func28, Tryd.ntmps28
  go_wp2_with (first
    | ((with_reducible refine wpList_at 1 rfl ?_); refine wpList_ibs rfl 5 _ rfl (fun i => i + 1) (by unfold maxLen; omega) (fun W => by kernel_rfl) ?_; intro p4 g4 w4 N4 hb4; try simp only [Act.put, List.setIfInBounds_toArray, List.set_cons_zero, List.set_cons_succ]))
  go_ret
  exact ⟨p4, g4, rfl, N4.out, hb4.out⟩
end Go.Proofs.YtghjgkgfpblijaaDoor
