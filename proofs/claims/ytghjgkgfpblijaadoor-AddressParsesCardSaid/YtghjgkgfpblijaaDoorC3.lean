/- The document's segwit. -/
import Derived.Test.YtghjgkgfpblijaaDoorC2
set_option linter.unusedSimpArgs false
set_option linter.unusedVariables false
set_option maxRecDepth 100000
namespace Go.Proofs.YtghjgkgfpblijaaDoor
open Go.ChangeShapes Go.WideShapes Go.RowKit Go.Lib Go.Sort

set_option maxHeartbeats 16000000 in
theorem segwit_any {w : World} (v : Nat) (hv : v < 32) {p : Option Addr} {g o n c : Nat} {x : Nat → Nat} (R : Hid (Row w p g o n c x)) (hn : n ≤ 100) :
    Calls Tryd.prog 23 #[.int .i64 (v : Int), .slice p n c] w fun e w' => e = .returned (.string (bT v (tl x n))) ∧ Below w.heap.size w w' := by
  obtain ⟨G, hG⟩ : ∃ G, G = grp 8 5 (tl x n) := ⟨_, rfl⟩
  obtain ⟨gl, hgl⟩ : ∃ gl, gl = G.length := ⟨_, rfl⟩
  have glb : gl ≤ 161 := by
    have := grp_len (w := 8) (o := 5) (by omega) (tl x n)
    rw [← hG, ← hgl, tl_length] at this
    omega
  obtain ⟨m, hm⟩ : ∃ m, m = 1 + gl := ⟨_, rfl⟩
  obtain ⟨A, hA⟩ : ∃ A, A = cat (fun _ => v) 1 (lf G) := ⟨_, rfl⟩
  have AL : tl A m = v :: G := by rw [hA, hm, tl_cat, tl_one, hgl, tl_lf]; rfl
  have AB : ∀ y, y ∈ v :: G → y < 32 := fun y hy => by
    rcases List.mem_cons.1 hy with rfl | q
    · exact hv
    · rw [hG] at q; exact grpX_lt (o := 5) (by omega) y q
  have ALT : ∀ i, i < m → A i < 32 := fun i h => by
    have : lf (tl A m) i = A i := lf_tl A h
    rw [← this, AL]
    rw [lf_get (by rw [← AL, tl_length]; exact h)]
    exact AB _ (List.getElem_mem _)
  obtain ⟨X1, hX1⟩ : ∃ X1, X1 = cat (lf [3, 3, 0, 2, 3]) 5 A := ⟨_, rfl⟩
  obtain ⟨m5, hm5⟩ : ∃ m5, m5 = 5 + m := ⟨_, rfl⟩
  obtain ⟨X2, hX2⟩ : ∃ X2, X2 = cat X1 m5 (fun _ => 0) := ⟨_, rfl⟩
  obtain ⟨m11, hm11⟩ : ∃ m11, m11 = m5 + 6 := ⟨_, rfl⟩
  have X2L : tl X2 m11 = [3, 3, 0, 2, 3] ++ (v :: G ++ [0, 0, 0, 0, 0, 0]) := by
    rw [hX2, hm11, tl_cat, hX1, hm5, ahead5, AL, List.append_assoc]
    rfl
  have X2T : ∀ i, i < m11 → X2 i < 32 := fun i h => by
    rw [hX2]
    unfold cat
    split
    · rename_i h1
      rw [hX1]
      unfold cat
      split
      · rename_i h
        have : ∀ i : Fin 5, lf [3, 3, 0, 2, 3] i.1 < 32 := by decide
        exact this ⟨i, h⟩
      · exact ALT _ (by omega)
    · show 0 < 32; omega
  obtain ⟨ck, hck⟩ : ∃ ck, ck = pol 1 (tl X2 m11) := ⟨_, rfl⟩
  have hck2 : ck = chk (v :: G ++ [0, 0, 0, 0, 0, 0]) := by rw [hck, X2L]; rfl
  have ckb : ck < 1073741824 := by
    rw [hck2]
    refine chk_lt fun y hy => ?_
    rcases List.mem_append.1 hy with q | q
    · exact AB y q
    · simp at q; omega
  obtain ⟨ev, hev⟩ : ∃ ev, ev = endV v := ⟨_, rfl⟩
  have evb : ev < 1073741824 := by rw [hev]; exact endV_lt v
  obtain ⟨z, hz⟩ : ∃ z, z = ck ^^^ ev := ⟨_, rfl⟩
  have zb : z < 1073741824 := by rw [hz]; exact xor_lt (k := 30) ckb evb
  obtain ⟨Bf, hBf⟩ : ∃ Bf, Bf = cat A m (gI 5 z 30) := ⟨_, rfl⟩
  obtain ⟨m6, hm6⟩ : ∃ m6, m6 = m + 6 := ⟨_, rfl⟩
  have NS : tl Bf m6 = nsB v (tl x n) := by
    rw [hBf, hm6, tl_cat, AL]
    unfold nsB sum6
    rw [← hG, ← hck2, ← hev, ← hz, grp6_tl]
  have NB : ∀ i, i < m6 → Bf i < 32 := fun i hi => by
    rw [hBf]
    unfold cat
    split
    · rename_i h; exact ALT i h
    · exact gI_lt 5 z 30 _
  have BTE := Lib.hid (show SB ++ ltS SL (tl Bf m6) = bT v (tl x n) by unfold bT; rw [NS])
  have HNB := Lib.hid NB
  have HG := Lib.hid hG
  have HGL := Lib.hid hgl
  have HM := Lib.hid hm.symm
  have HA := Lib.hid hA.symm
  have HX1 := Lib.hid hX1.symm
  have HM5 := Lib.hid hm5.symm
  have HX2 := Lib.hid hX2.symm
  have HM11 := Lib.hid hm11.symm
  have HXT := Lib.hid X2T
  have HCK := Lib.hid hck.symm
  have HEV := Lib.hid hev.symm
  have Z1 := Lib.hid (show ck < 9223372036854775808 ∧ ev < 9223372036854775808 ∧ ck ^^^ ev = z from ⟨by omega, by omega, hz.symm⟩)
  have HM6 := Lib.hid hm6.symm
  have HB := Lib.hid hBf
  have mb : m ≤ 162 := by omega
  have m5b : m5 ≤ 167 := by omega
  have m11b : m11 ≤ 173 := by omega
  have m6b : m6 ≤ 168 := by omega
  clear hv hG hgl hm hA AL AB ALT hX1 hm5 hX2 hm11 X2L X2T hck hck2 ckb hev evb hz hBf hm6 NS NB
  go_enter Tryd.func23, Tryd.ntmps23
  go_upto_region 4 with (first
    | ((with_reducible refine wpList_at 12 rfl ?_); refine wpList_ibs1 rfl _ rfl (.int .i64 (v : Int)) (v := v) (by kernel_rfl) rfl ?_; intro p1 g1 w1 N hb; have BB := Lib.hid hb.out; replace R := Lib.hid (R.out.below hb.out); clear hb; try simp only [Act.put, List.setIfInBounds_toArray, List.set_cons_zero, List.set_cons_succ])
    | (go_at_call 44; ((with_reducible refine (fives_any R (by omega)).mono ?_); intro e w2 h2); rw [← HG.out] at h2; obtain ⟨p2, g2, c2, rfl, N2, hb2⟩ := h2; rw [← HGL.out] at N2 ⊢; have R2 := Lib.hid N2.row; replace N := Lib.hid (VOwn.below N.out hb2); replace BB := Lib.hid (BB.out.trans (hb2.mono BB.out.size)); clear N2 hb2 R)
    | ((with_reducible refine wpList_at 15 rfl ?_); refine wpList_iapp rfl (.tmp 12) (.tmp 14) rfl rfl N rfl R2 (by omega) ?_; clear N R2; intro p3 g3 c3 w3 N hb3; rw [HM.out, HA.out] at N; rw [HM.out]; replace BB := Lib.hid (BB.out.trans hb3.out); clear hb3; try simp only [Act.put, List.setIfInBounds_toArray, List.set_cons_zero, List.set_cons_succ])
    | ((with_reducible refine wpList_at 16 rfl ?_); refine wpList_ibs rfl 5 _ rfl (lf [3, 3, 0, 2, 3]) (by unfold maxLen; omega) (fun W => by kernel_rfl) ?_; intro p4 g4 w4 N4 hb4; have B4 := Lib.hid BB.out.size; have N40 := N; have CH := hb4; replace N := Lib.hid (VOwn.below N.out hb4.out); replace BB := Lib.hid (BB.out.trans (hb4.out.mono BB.out.size)); clear hb4; try simp only [Act.put, List.setIfInBounds_toArray, List.set_cons_zero, List.set_cons_succ])
    | ((with_reducible refine wpList_at 18 rfl ?_); refine wpList_iapp rfl (.tmp 16) (.tmp 17) rfl rfl N4 rfl (Lib.hid N.out.row) (by omega) ?_; clear N4; intro p5 g5 c5 w5 N5 hb5; rw [HM5.out, HX1.out] at N5; rw [HM5.out]; replace CH := Lib.hid (CH.out.trans hb5.out); replace N := Lib.hid (VOwn.below N40.out CH.out); replace BB := Lib.hid (BB.out.trans (hb5.out.mono B4.out)); clear hb5; try simp only [Act.put, List.setIfInBounds_toArray, List.set_cons_zero, List.set_cons_succ])
    | ((with_reducible refine wpList_at 19 rfl ?_); refine wpList_ibs rfl 6 _ rfl (fun _ => 0) (by unfold maxLen; omega) (fun W => by kernel_rfl) ?_; intro p6 g6 w6 N6 hb6; replace CH := Lib.hid (CH.out.trans (hb6.out.mono CH.out.size)); replace N := Lib.hid (VOwn.below N40.out CH.out); replace N5 := Lib.hid (VOwn.below N5.out hb6.out); replace BB := Lib.hid (BB.out.trans (hb6.out.mono BB.out.size)); clear hb6; try simp only [Act.put, List.setIfInBounds_toArray, List.set_cons_zero, List.set_cons_succ])
    | ((with_reducible refine wpList_at 20 rfl ?_); refine wpList_iapp rfl (.tmp 18) (.tmp 19) rfl rfl N5 rfl (Lib.hid N6.out.row) (by omega) ?_; clear N5 N6; intro p7 g7 c7 w7 N7 hb7; rw [HM11.out, HX2.out] at N7; rw [HM11.out]; have R7 := Lib.hid N7.out.row; replace CH := Lib.hid (CH.out.trans hb7.out); replace N := Lib.hid (VOwn.below N40.out CH.out); replace BB := Lib.hid (BB.out.trans (hb7.out.mono B4.out)); clear hb7 N7; try simp only [Act.put, List.setIfInBounds_toArray, List.set_cons_zero, List.set_cons_succ])
    | (go_at_call 45; ((with_reducible refine (polymod_any R7 (by omega) HXT).mono ?_); intro e w8 h8); obtain ⟨he8, hb8⟩ := h8; rw [HCK.out] at he8; subst he8; replace N := Lib.hid (VOwn.below N.out hb8); replace BB := Lib.hid (BB.out.trans (hb8.mono BB.out.size)); clear hb8 R7)
    | (go_at_call 46; ((with_reducible refine (want_any v _).mono ?_); rintro e w9 ⟨he9, rfl⟩); rw [HEV.out] at he9; subst he9)
    | ((with_reducible refine wpList_at 24 rfl ?_); refine wpList_known4 rfl (.int .i64 (z : Int)) _ (by exact exec_xorIv (a := ck) (b := ev) (r := z) rfl rfl rfl Z1.out.1 Z1.out.2.1 Z1.out.2.2) ?_; try simp only [Act.put, List.setIfInBounds_toArray, List.set_cons_zero, List.set_cons_succ]))
  have N0 := Lib.hid (IOwn.to (y := Bf) N.out (fun i hi => by rw [HB.out]; unfold cat; rw [if_pos hi]))
  clear N HXT HCK HEV Z1 HG HGL N40 B4 CH
  have B0 := BB
  clear BB
  go_loopg [5, 25] 6 (fun k s i wr => ∃ (j q c1 g1 : Nat) (p1 : Option Addr), j + k = 6 ∧ q = m + j ∧ i = .int .i64 (j : Int) ∧ s = .slice p1 q c1 ∧ Hid (IOwn w.heap.size wr p1 g1 q c1 Bf) ∧ Hid (Below w.heap.size w wr))
  case atStart => exact ⟨0, m, _, _, _, by omega, by omega, rfl, rfl, N0, B0⟩
  case round =>
    clear N0 B0
    obtain ⟨j, q, c1, g1, p1, hj, hq, rfl, rfl, N, BB⟩ := hrel
    obtain ⟨kk, rfl⟩ : ∃ kk : Nat, kk = gk := ⟨_, rfl⟩
    obtain ⟨wo, rfl⟩ : ∃ wo : World, wo = wr := ⟨_, rfl⟩
    by_cases hlt : j < 6
    · obtain ⟨j5, hj5⟩ : ∃ j5, j5 = 5 - j := ⟨_, rfl⟩
      obtain ⟨d, hd⟩ : ∃ d, d = 5 * j5 := ⟨_, rfl⟩
      obtain ⟨u, hu⟩ : ∃ u, u = z / 2 ^ d := ⟨_, rfl⟩
      obtain ⟨y, hy⟩ : ∃ y, y = u % 32 := ⟨_, rfl⟩
      have ub : u < 1073741824 := by rw [hu]; exact Nat.lt_of_le_of_lt (Nat.div_le_self _ _) zb
      have yb : y < 32 := by rw [hy]; omega
      have YG : Bf q = y := by
        rw [HB.out, hq]
        unfold cat gI
        rw [if_neg (by omega), show m + j - m = j by omega, hy, hu, hd, hj5, show 30 - 5 * (j + 1) = 5 * (5 - j) by omega]
      have Y1 := Lib.hid (show j ≤ 5 ∧ 5 < 9223372036854775808 ∧ 5 - j = j5 by omega)
      have Y2 := Lib.hid (show 5 * j5 = d ∧ d < 9223372036854775808 by omega)
      have Y3 := Lib.hid (show d < 64 ∧ z / 2 ^ d = u from ⟨by omega, hu.symm⟩)
      have Y4 := Lib.hid (show u < 9223372036854775808 ∧ u &&& 31 = y from ⟨by omega, by have := Nat.and_two_pow_sub_one_eq_mod u 5; rw [show (2 : Nat) ^ 5 - 1 = 31 by decide] at this; rw [this, hy]⟩)
      have HY := Lib.hid YG
      obtain ⟨q1, hq1⟩ : ∃ q1, q1 = q + 1 := ⟨_, rfl⟩
      have HQ1 := Lib.hid hq1.symm
      have hqb : q1 ≤ 170 := by omega
      clear hj5 hd hu hy ub yb YG
      go_wp2_with (first
        | ((with_reducible refine wpList_at 31 rfl ?_); refine wpList_known4 rfl (.int .i64 (j5 : Int)) _ (by exact exec_sub3v (a := 5) (b := j) (r := j5) rfl rfl rfl Y1.out.1 Y1.out.2.1 Y1.out.2.2) ?_; try simp only [Act.put, List.setIfInBounds_toArray, List.set_cons_zero, List.set_cons_succ])
        | ((with_reducible refine wpList_at 32 rfl ?_); refine wpList_known4 rfl (.int .i64 (d : Int)) _ (by exact exec_mul3v (a := 5) (b := j5) (r := d) rfl rfl rfl Y2.out.1 Y2.out.2) ?_; try simp only [Act.put, List.setIfInBounds_toArray, List.set_cons_zero, List.set_cons_succ])
        | ((with_reducible refine wpList_at 33 rfl ?_); refine wpList_known4 rfl (.int .i64 (u : Int)) _ (by exact exec_shrIv (n := z) (k := d) (r := u) rfl rfl rfl Y3.out.1 Y3.out.2) ?_; try simp only [Act.put, List.setIfInBounds_toArray, List.set_cons_zero, List.set_cons_succ])
        | ((with_reducible refine wpList_at 34 rfl ?_); refine wpList_known4 rfl (.int .i64 (y : Int)) _ (by exact exec_andIv (a := u) (b := 31) (r := y) rfl rfl rfl Y4.out.1 (by decide) Y4.out.2) ?_; try simp only [Act.put, List.setIfInBounds_toArray, List.set_cons_zero, List.set_cons_succ])
        | ((with_reducible refine wpList_at 35 rfl ?_); refine wpList_ibs1 rfl _ rfl (.int .i64 (y : Int)) (v := y) (by kernel_rfl) rfl ?_; intro p7 g7 w7 N7 hb7; have R7 := Lib.hid N7.out.row; replace N := Lib.hid (VOwn.below N.out hb7.out); replace BB := Lib.hid (BB.out.trans (hb7.out.mono BB.out.size)); clear hb7 N7; try simp only [Act.put, List.setIfInBounds_toArray, List.set_cons_zero, List.set_cons_succ])
        | ((with_reducible refine wpList_at 36 rfl ?_); refine wpList_iapp rfl (.tmp 28) (.tmp 35) rfl rfl N rfl R7 (by omega) ?_; clear N R7; intro p8 g8 c8 w8 N hb8; rw [HQ1.out] at N ⊢; replace BB := Lib.hid (BB.out.trans hb8.out); clear hb8; try simp only [Act.put, List.setIfInBounds_toArray, List.set_cons_zero, List.set_cons_succ]))
      have N2 := Lib.hid (IOwn.to (y := Bf) N.out (fun i hi => by
        rw [← HQ1.out] at hi
        unfold cat
        by_cases h : i < q
        · rw [if_pos h]
        · rw [if_neg h, show i = q by omega]; exact HY.out.symm))
      clear N HY Y1 Y2 Y3 Y4
      go_roundg (6 - (j + 1))
      case measure => omega
      case rel => exact ⟨j + 1, q1, c8, g8, p8, by omega, by omega, by go_num, rfl, N2, BB⟩
    · obtain rfl : q = m6 := by have := HM6.out; omega
      have S0 := Lib.hid (show (⟨#[98, 99, 49]⟩ : ByteArray) = SB ++ ltS SL (tl Bf 0) from by show _ = SB ++ ltS SL []; decide +kernel)
      have j6 : j = 6 := by omega
      subst j6
      clear hj hq hlt
      go_upto_region 10 with fail
      go_loopg [8, 40] q (fun k s i wr => ∃ (t : Nat) (S : ByteArray), t + k = q ∧ i = .int .i64 (t : Int) ∧ s = .string S ∧ Hid (S = SB ++ ltS SL (tl Bf t)) ∧ Hid (wr = wo))
      case atStart => exact ⟨0, _, by omega, rfl, rfl, S0, Lib.hid rfl⟩
      case round =>
        clear S0
        obtain ⟨t, S, ht, rfl, rfl, HS, HW⟩ := hrel
        obtain ⟨k2, rfl⟩ : ∃ kk : Nat, kk = gk := ⟨_, rfl⟩
        obtain rfl : wr = wo := HW.out
        by_cases hlt : t < q
        · have HLT := Lib.hid hlt
          obtain rfl := N.out.row.head (by omega)
          obtain ⟨y, hy⟩ : ∃ y, y = Bf t := ⟨_, rfl⟩
          have yb : y < 32 := by rw [hy]; exact HNB.out t hlt
          have HYB := Lib.hid yb
          have C2 := Lib.hid (show wr.cell? ⟨g1, t, none⟩ = some (.int .i64 (y : Int)) by have := irow_cell N.out.row hlt; rwa [Nat.zero_add, ← hy] at this)
          obtain ⟨D, hD⟩ : ∃ D, D = ltS SL [y] := ⟨_, rfl⟩
          obtain ⟨S2, hS2⟩ : ∃ S2, S2 = S ++ D := ⟨_, rfl⟩
          have HD := Lib.hid hD
          have HS2 := Lib.hid hS2
          have SZ := Lib.hid (show S.size + D.size ≤ 1000000 by rw [HS.out, hD, ByteArray.size_append, ltS_size, ltS_size, tl_length]; show 3 + t + 1 ≤ _; omega)
          have HS3 := Lib.hid (show S2 = SB ++ ltS SL (tl Bf (t + 1)) by
            rw [hS2, HS.out, hD, tl_succ, ltS_cat, ← hy, ByteArray.append_assoc])
          clear hy hD hS2 yb
          go_wp2_with (first
            | ((with_reducible refine wpList_at 42 rfl ?_); refine wpList_ix (k := 1) (j := t) Tryd.underlying37 (by kernel_rfl) (.tmp 38) (.tmp 40) rfl rfl rfl rfl HLT.out rfl ?_; rw [Nat.mul_one, Nat.zero_add]; try simp only [Act.put, List.setIfInBounds_toArray, List.set_cons_zero, List.set_cons_succ])
            | ((with_reducible refine wpList_at 43 rfl ?_); refine wpList_ld1 3 (.tmp 42) rfl rfl rfl Tryd.underlying3 rfl C2.out ?_; try simp only [Act.put, List.setIfInBounds_toArray, List.set_cons_zero, List.set_cons_succ])
            | ((with_reducible refine wpList_at 47 rfl ?_); refine wpList_known4 rfl (.int .i64 ((y : Int) + 1)) _ (by exact exec_add rfl rfl rfl (by rw [IntKind.wrap_i64]; have := HYB.out; omega)) ?_; try simp only [Act.put, List.setIfInBounds_toArray, List.set_cons_zero, List.set_cons_succ])
            | ((with_reducible refine wpList_at 48 rfl ?_); refine wpList_known4 rfl (.string D) _ (by exact exec_cutSL rfl rfl rfl rfl HYB.out HD.out) ?_; try simp only [Act.put, List.setIfInBounds_toArray, List.set_cons_zero, List.set_cons_succ])
            | ((with_reducible refine wpList_at 49 rfl ?_); refine wpList_known4 rfl (.string S2) _ (by exact by rw [HS2.out]; exact exec_cat rfl rfl rfl SZ.out) ?_; try simp only [Act.put, List.setIfInBounds_toArray, List.set_cons_zero, List.set_cons_succ]))
          clear HS
          go_roundg (q - (t + 1))
          case measure => omega
          case rel => exact ⟨t + 1, S2, by omega, by go_num, rfl, HS3, Lib.hid rfl⟩
        · obtain rfl : t = q := by omega
          have HE := Lib.hid (show S = bT v (tl x n) by rw [HS.out]; exact BTE.out)
          clear HS hlt
          go_wp2
          go_ret
          exact ⟨by rw [← HE.out]; rfl, BB.out⟩
end Go.Proofs.YtghjgkgfpblijaaDoor
