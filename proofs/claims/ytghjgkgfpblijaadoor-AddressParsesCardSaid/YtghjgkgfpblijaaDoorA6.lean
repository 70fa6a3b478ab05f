/- address.bitsText: an address of bits. -/
import Derived.Test.YtghjgkgfpblijaaDoorA5
set_option linter.unusedSimpArgs false
set_option linter.unusedVariables false
set_option maxRecDepth 100000
namespace Go.Proofs.YtghjgkgfpblijaaDoor
open Go.ChangeShapes Go.WideShapes Go.RowKit Go.Lib Go.Sort

section
variable {ops : Array Oper} {rest : List Oper} {Q : Exit → Act → World → Prop} {op : Oper} {a : Act} {w : World}
/-- Noughts. -/
theorem wpList_zs (hw : Region.wanted op (yielded ops a.tmps) = true) (x y : Operand) (ho : op.op = .makeSlice 22 x y) (m : Nat) (hm : m ≤ maxLen) {k : Int} (hx : a.eval x = .int .i64 k) (hy : a.eval y = .int .i64 k)
    (hr : ∀ w : World, (Instr.makeSlice 22 (.int .i64 k) (.int .i64 k)).run Tryd.prog w = .ok (.slice (some ⟨w.heap.size, 0, none⟩) m m) (w.alloc (.cells (fbs (fun _ => 0) m).toArray 5)))
    (k : ∀ p g w', Hid (Own w.heap.size w' p g m m fun _ => 0) → Hid (Below w.heap.size w w') → wpList Tryd.prog ops Q rest (a.put op.dst (.slice p m m)) w') : wpList Tryd.prog ops Q (op :: rest) a w := by
  refine wpList_known4 hw _ _ ?_ (k _ _ _ (Lib.hid (own_new w (fun _ => 0) m hm fun _ => by omega)) (Lib.hid (below_new w _)))
  unfold execOp
  simp only [ho, hx, hy, Sem.run_bind, hr w, Result.andThen_ok]
  rfl
end
theorem make6 (w : World) : (Instr.makeSlice 22 (.int .i64 6) (.int .i64 6)).run Tryd.prog w = .ok (.slice (some ⟨w.heap.size, 0, none⟩) 6 6) (w.alloc (.cells (fbs (fun _ => 0) 6).toArray 5)) := by kernel_rfl
def v2 (a b : Value) : Nat → Value | 0 => a | _ => b
theorem texts2 {w : World} {p1 p2 p : Option Addr} {g1 g2 g o1 o2 n1 n2 c1 c2 B : Nat} {x1 x2 : Nat → Nat} (R1 : Row w p1 g1 o1 n1 c1 x1) (R2 : Row w p2 g2 o2 n2 c2 x2)
    (h1 : n1 ≤ 140737488351232) (h2 : n2 ≤ 140737488351232) (N : VOwn 22 1 B w p g 2 2 (v2 (.slice p1 n1 c1) (.slice p2 n2 c2))) : TextsAt w (.slice p 2 2) [tl x1 n1, tl x2 n2] := by
  refine ⟨p, g, 0, 2, _, rfl, by simp, N.row, fun i hi => ?_⟩
  match i, hi with
  | 0, _ => exact ⟨p1, g1, o1, c1, by rw [show ([tl x1 n1, tl x2 n2])[0] = tl x1 n1 from rfl, tl_length]; rfl, by rw [show ([tl x1 n1, tl x2 n2])[0] = tl x1 n1 from rfl, tl_length]; exact h1, R1.tl⟩
  | 1, _ => exact ⟨p2, g2, o2, c2, by rw [show ([tl x1 n1, tl x2 n2])[1] = tl x2 n2 from rfl, tl_length]; rfl, by rw [show ([tl x1 n1, tl x2 n2])[1] = tl x2 n2 from rfl, tl_length]; exact h2, R2.tl⟩
set_option maxHeartbeats 16000000 in
theorem bitstext_any {w : World} (CL : Hid (S.CLaid w)) (v : Nat) (hv : v < 32) {p : Option Addr} {g o n c : Nat} {x : Nat → Nat} (R : Hid (Row w p g o n c x)) (hn : n ≤ 100) :
    Calls Tryd.prog 19 #[.int .u8 (v : Int), .slice p n c] w fun e w' => e = .returned (.string (bT v (tl x n))) ∧ Below w.heap.size w w' := by
  have HV := Lib.hid hv
  have hxb := Lib.hid (show ∀ i, i < n → x i < 256 from fun i _ => R.out.byte i)
  obtain ⟨G, hG⟩ : ∃ G, G = grp 8 5 (tl x n) := ⟨_, rfl⟩
  obtain ⟨gl, hgl⟩ : ∃ gl, gl = G.length := ⟨_, rfl⟩
  have glb : gl ≤ 161 := by
    have := grp_len (w := 8) (o := 5) (by omega) (tl x n)
    rw [← hG, ← hgl, tl_length] at this
    omega
  obtain ⟨m, hm⟩ : ∃ m, m = 1 + gl := ⟨_, rfl⟩
  obtain ⟨A, hA⟩ : ∃ A, A = cat (fun _ => v) 1 (lf G) := ⟨_, rfl⟩
  have AL : tl A m = v :: G := by rw [hA, hm, tl_cat, tl_one, hgl, tl_lf]; rfl
  have AB : ∀ y, y ∈ v :: G → y < 32 := fun y hy => by
    rcases List.mem_cons.1 hy with rfl | q
    · exact hv
    · rw [hG] at q; exact grpX_lt (o := 5) (by omega) y q
  obtain ⟨ZL, hZL⟩ : ∃ ZL, ZL = (v :: G) ++ [0, 0, 0, 0, 0, 0] := ⟨_, rfl⟩
  obtain ⟨zl, hzl⟩ : ∃ zl, zl = ZL.length := ⟨_, rfl⟩
  have zlb : zl ≤ 200 := by rw [hzl, hZL, List.length_append, List.length_cons, ← hgl]; simp; omega
  have ZB : ∀ y, y ∈ ZL → y < 32 := fun y hy => by
    rw [hZL] at hy
    rcases List.mem_append.1 hy with q | q
    · exact AB y q
    · simp at q; omega
  obtain ⟨ck, hck⟩ : ∃ ck, ck = chk ZL := ⟨_, rfl⟩
  have ckb : ck < 1073741824 := by rw [hck]; exact chk_lt ZB
  obtain ⟨ev, hev⟩ : ∃ ev, ev = endV v := ⟨_, rfl⟩
  have evb : ev < 1073741824 := by rw [hev]; exact endV_lt v
  obtain ⟨z, hz⟩ : ∃ z, z = ck ^^^ ev := ⟨_, rfl⟩
  have zb : z < 1073741824 := by rw [hz]; exact xor_lt (k := 30) ckb evb
  obtain ⟨Bf, hBf⟩ : ∃ Bf, Bf = cat A m (gI 5 z 30) := ⟨_, rfl⟩
  obtain ⟨m6, hm6⟩ : ∃ m6, m6 = m + 6 := ⟨_, rfl⟩
  have NS : tl Bf m6 = nsB v (tl x n) := by
    rw [hBf, hm6, tl_cat, AL]
    unfold nsB sum6
    rw [← hG, ← hZL, ← hck, ← hev, ← hz, grp6_tl]
  have NB : ∀ i, i < m6 → Bf i < 32 := fun i hi => by
    rw [hBf]
    unfold cat
    split
    · rename_i h
      have : lf (tl A m) i = A i := lf_tl A h
      rw [← this, AL]
      rw [lf_get (by rw [← AL, tl_length]; exact h)]
      exact AB _ (List.getElem_mem _)
    · exact gI_lt 5 z 30 _
  have BTE := Lib.hid (show SB ++ strX (fun i => byt SL (Bf i)) m6 = bT v (tl x n) by
    unfold bT ltS
    rw [← NS, tl_length]
    congr 1
    refine ba_ext (by rw [strX_size, strX_size]) fun i hi => ?_
    rw [strX_size] at hi
    rw [strX_byt (fun i => byt_lt _ _) hi, strX_byt (fun i => byt_lt _ _) hi, lf_tl _ hi])
  have HNB := Lib.hid NB
  have HG := Lib.hid hG
  have HGL := Lib.hid hgl
  have HM := Lib.hid hm.symm
  have HA := Lib.hid hA.symm
  have HZL := Lib.hid (show [tl A m, tl (fun _ => 0) 6].flatten = ZL by rw [AL, hZL]; rfl)
  have HZZ := Lib.hid hzl
  have HZB := Lib.hid (show ∀ i, i < zl → lf ZL i < 32 from fun i hi => by rw [hzl] at hi; rw [lf_get hi]; exact ZB _ (List.getElem_mem hi))
  have HCK := Lib.hid hck.symm
  have HEV := Lib.hid hev.symm
  have X1 := Lib.hid (show ck < 4294967296 ∧ ev < 4294967296 ∧ ck ^^^ ev = z from ⟨by omega, by omega, hz.symm⟩)
  have HM6 := Lib.hid hm6.symm
  have HB := Lib.hid hBf
  have AY := Lib.hid (show ∀ i, A i < 256 from fun i => by
    rw [hA]
    unfold cat
    split
    · show v < 256; omega
    · exact lf_lt (fun y hy => by have := AB y (List.mem_cons_of_mem _ hy); omega) _)
  have mb : m ≤ 162 := by omega
  have m6b : m6 ≤ 168 := by omega
  clear hv hG hgl hm hA AL AB hZL hzl ZB hck ckb hev evb hz hBf hm6 NS NB
  go_enter Tryd.func19, Tryd.ntmps19
  go_upto_region 4 with (first
    | ((with_reducible refine wpList_at 11 rfl ?_); refine wpList_b1o rfl _ rfl (.int .u8 (v : Int)) (v := v) (by kernel_rfl) rfl (by have := HV.out; omega) ?_; intro p1 g1 w1 N hb; have BB := Lib.hid hb.out; replace R := Lib.hid (R.out.below hb.out); clear hb; try simp only [Act.put, List.setIfInBounds_toArray, List.set_cons_zero, List.set_cons_succ])
    | (go_at_call 39; ((with_reducible refine (regroup85_any R (by omega) hxb).mono ?_); intro e w2 h2); obtain ⟨r2, p2, g2, c2, rfl, HR2, N2, hb2⟩ := getsL_var h2; obtain rfl : r2 = G := HR2.out.trans HG.out.symm; rw [← HGL.out] at N2 ⊢; have R2 := Lib.hid N2.row; replace N := Lib.hid (N.out.below hb2); replace BB := Lib.hid (BB.out.trans (hb2.mono BB.out.size)); clear h2 HR2 N2 hb2 R)
    | ((with_reducible refine wpList_at 14 rfl ?_); refine wpList_app (.inl rfl) (.tmp 11) (.tmp 13) rfl rfl N rfl R2 (by omega) ?_; clear N R2; intro p3 g3 c3 w3 N hb3; rw [HM.out, HA.out] at N; rw [HM.out]; replace BB := Lib.hid (BB.out.trans hb3.out); clear hb3; try simp only [Act.put, List.setIfInBounds_toArray, List.set_cons_zero, List.set_cons_succ])
    | ((with_reducible refine wpList_at 16 rfl ?_); refine wpList_zs rfl _ _ rfl 6 (by unfold maxLen; omega) rfl rfl make6 ?_; intro p4 g4 w4 N4 hb4; replace N := Lib.hid (N.out.below hb4.out); replace BB := Lib.hid (BB.out.trans (hb4.out.mono BB.out.size)); clear hb4; try simp only [Act.put, List.setIfInBounds_toArray, List.set_cons_zero, List.set_cons_succ])
    | ((with_reducible refine wpList_at 17 rfl ?_); refine wpList_vbs 70 22 1 2 rfl _ rfl (v2 (.slice p3 m c3) (.slice p4 6 6)) (fun i hi => by match i, hi with | 0, _ => rfl | 1, _ => rfl) (by unfold maxLen; omega) (ps := #[(0, .slice p3 m c3), (1, .slice p4 6 6)]) (by kernel_rfl) (fun W => run_bs2v Tryd.underlying70 infoText3 _ _ rfl rfl W) rfl ?_; intro p5 g5 w5 N5 hb5; replace N := Lib.hid (N.out.below hb5.out); replace N4 := Lib.hid (N4.out.below hb5.out); replace BB := Lib.hid (BB.out.trans (hb5.out.mono BB.out.size)); have TT := Lib.hid (texts2 N.out.row N4.out.row (by omega) (by omega) N5.out); clear N4 N5 hb5; try simp only [Act.put, List.setIfInBounds_toArray, List.set_cons_zero, List.set_cons_succ])
    | (go_at_call 34; refine (concat_any TT (by simp [sm, tl_length]; omega)).mono ?_; intro e w6 h6; obtain ⟨r6, p6, g6, c6, rfl, HR6, N6, hb6⟩ := getsL_var h6; obtain rfl : r6 = ZL := HR6.out.trans HZL.out; rw [← HZZ.out] at N6 ⊢; have R6 := Lib.hid N6.row; replace N := Lib.hid (N.out.below hb6); replace BB := Lib.hid (BB.out.trans (hb6.mono BB.out.size)); clear h6 HR6 N6 hb6 TT)
    | (go_at_call 40; ((with_reducible refine (check_any (Lib.hid (CL.out.below BB.out)) R6 (by omega) HZB).mono ?_); intro e w7 h7); obtain ⟨he7, hb7⟩ := h7; rw [HZZ.out, tl_lf, HCK.out] at he7; subst he7; replace N := Lib.hid (N.out.below hb7); replace BB := Lib.hid (BB.out.trans (hb7.mono BB.out.size)); clear hb7 R6)
    | (go_at_call 41; ((with_reducible refine (endof_any v _).mono ?_); rintro e w8 ⟨he8, rfl⟩); rw [HEV.out] at he8; subst he8)
    | ((with_reducible refine wpList_at 22 rfl ?_); refine wpList_known4 rfl (.int .u32 (z : Int)) _ (by exact exec_xor32v (a := ck) (b := ev) (r := z) rfl rfl rfl X1.out.1 X1.out.2.1 X1.out.2.2) ?_; try simp only [Act.put, List.setIfInBounds_toArray, List.set_cons_zero, List.set_cons_succ]))
  have N0 := Lib.hid (N.out.to (y := cat A m (gI 5 z 30)) (fun i hi => by unfold cat; rw [if_pos hi]) (fun i => cat_byte m AY.out (fun i => Nat.lt_of_lt_of_le (gI_lt 5 z 30 i) (by decide)) i))
  rw [← HB.out] at N0
  clear N CL HZL HZZ HZB HCK HEV X1 HV HG HGL
  have B0 := BB
  clear BB
  go_loopg [5, 23] 6 (fun k s i wr => ∃ (j q c1 g1 : Nat) (p1 : Option Addr), j + k = 6 ∧ q = m + j ∧ i = .int .i64 (j : Int) ∧ s = .slice p1 q c1 ∧ Hid (Own w.heap.size wr p1 g1 q c1 Bf) ∧ Hid (Below w.heap.size w wr))
  case atStart => exact ⟨0, m, _, _, _, by omega, by omega, rfl, rfl, N0, B0⟩
  case round =>
    clear N0 B0
    obtain ⟨j, q, c1, g1, p1, hj, hq, rfl, rfl, N, BB⟩ := hrel
    obtain ⟨kk, rfl⟩ : ∃ kk : Nat, kk = gk := ⟨_, rfl⟩
    obtain ⟨wo, rfl⟩ : ∃ wo : World, wo = wr := ⟨_, rfl⟩
    by_cases hlt : j < 6
    · obtain ⟨j5, hj5⟩ : ∃ j5, j5 = 5 * j := ⟨_, rfl⟩
      obtain ⟨d, hd⟩ : ∃ d, d = 25 - j5 := ⟨_, rfl⟩
      obtain ⟨u, hu⟩ : ∃ u, u = z / 2 ^ d := ⟨_, rfl⟩
      obtain ⟨y, hy⟩ : ∃ y, y = u % 32 := ⟨_, rfl⟩
      have ub : u < 1073741824 := by rw [hu]; exact Nat.lt_of_le_of_lt (Nat.div_le_self _ _) zb
      have yb : y < 32 := by rw [hy]; omega
      have YG : Bf q = y := by
        rw [HB.out, hq]
        unfold cat gI
        rw [if_neg (by omega), show m + j - m = j by omega, hy, hu, hd, hj5, show 30 - 5 * (j + 1) = 25 - 5 * j by omega]
      have Y1 := Lib.hid (show 5 * j = j5 ∧ j5 < 9223372036854775808 by omega)
      have Y2 := Lib.hid (show j5 ≤ 25 ∧ 25 < 9223372036854775808 ∧ 25 - j5 = d by omega)
      have Y3 := Lib.hid (show d < 32 ∧ z / 2 ^ d = u from ⟨by omega, hu.symm⟩)
      have Y4 := Lib.hid (show u < 4294967296 ∧ u &&& 31 = y from ⟨by omega, by have := Nat.and_two_pow_sub_one_eq_mod u 5; rw [show (2 : Nat) ^ 5 - 1 = 31 by decide] at this; rw [this, hy]⟩)
      have Y5 := Lib.hid (show y % 256 = y ∧ y < 256 by omega)
      have HY := Lib.hid YG
      obtain ⟨q1, hq1⟩ : ∃ q1, q1 = q + 1 := ⟨_, rfl⟩
      have HQ1 := Lib.hid hq1.symm
      have hqb : q1 ≤ 170 := by omega
      clear hj5 hd hu hy ub yb YG
      go_wp2_with (first
        | ((with_reducible refine wpList_at 29 rfl ?_); refine wpList_known4 rfl (.int .i64 (j5 : Int)) _ (by exact exec_mul3v (a := 5) (b := j) (r := j5) rfl rfl rfl Y1.out.1 Y1.out.2) ?_; try simp only [Act.put, List.setIfInBounds_toArray, List.set_cons_zero, List.set_cons_succ])
        | ((with_reducible refine wpList_at 30 rfl ?_); refine wpList_known4 rfl (.int .i64 (d : Int)) _ (by exact exec_sub3v (a := 25) (b := j5) (r := d) rfl rfl rfl Y2.out.1 Y2.out.2.1 Y2.out.2.2) ?_; try simp only [Act.put, List.setIfInBounds_toArray, List.set_cons_zero, List.set_cons_succ])
        | ((with_reducible refine wpList_at 31 rfl ?_); refine wpList_known4 rfl (.int .u32 (u : Int)) _ (by exact exec_shr32v (n := z) (k := d) (r := u) rfl rfl rfl Y3.out.1 Y3.out.2) ?_; try simp only [Act.put, List.setIfInBounds_toArray, List.set_cons_zero, List.set_cons_succ])
        | ((with_reducible refine wpList_at 32 rfl ?_); refine wpList_known4 rfl (.int .u32 (y : Int)) _ (by exact exec_and32v (a := u) (b := 31) (r := y) rfl rfl rfl Y4.out.1 (by decide) Y4.out.2) ?_; try simp only [Act.put, List.setIfInBounds_toArray, List.set_cons_zero, List.set_cons_succ])
        | ((with_reducible refine wpList_at 33 rfl ?_); refine wpList_known4 rfl (.int .u8 (y : Int)) _ (by exact exec_cv328 (n := y) (r := y) rfl rfl Y5.out.1) ?_; try simp only [Act.put, List.setIfInBounds_toArray, List.set_cons_zero, List.set_cons_succ])
        | ((with_reducible refine wpList_at 34 rfl ?_); refine wpList_b1 rfl _ rfl (.int .u8 (y : Int)) (v := y) (by kernel_rfl) rfl Y5.out.2 ?_; intro b7 w7 R7 hb7; replace N := Lib.hid (N.out.below hb7.out); replace BB := Lib.hid (BB.out.trans (hb7.out.mono BB.out.size)); clear hb7; try simp only [Act.put, List.setIfInBounds_toArray, List.set_cons_zero, List.set_cons_succ])
        | ((with_reducible refine wpList_at 35 rfl ?_); refine wpList_app (.inl rfl) (.tmp 26) (.tmp 34) rfl rfl N rfl R7 (by omega) ?_; clear N R7; intro p8 g8 c8 w8 N hb8; rw [HQ1.out] at N ⊢; replace BB := Lib.hid (BB.out.trans hb8.out); clear hb8; try simp only [Act.put, List.setIfInBounds_toArray, List.set_cons_zero, List.set_cons_succ]))
      have N2 := Lib.hid (N.out.to (y := Bf) (fun i hi => by
        rw [← HQ1.out] at hi
        unfold cat
        by_cases h : i < q
        · rw [if_pos h]
        · rw [if_neg h, show i = q by omega]; exact HY.out.symm) (fun i => by rw [HB.out]; exact cat_byte m AY.out (fun i => Nat.lt_of_lt_of_le (gI_lt 5 z 30 i) (by decide)) i))
      clear N HY Y1 Y2 Y3 Y4 Y5
      go_roundg (6 - (j + 1))
      case measure => omega
      case rel => exact ⟨j + 1, q1, c8, g8, p8, by omega, by omega, by go_num, rfl, N2, BB⟩
    · obtain rfl : q = m6 := by have := HM6.out; omega
      have N1 := Lib.hid (N.out.to (y := fun i => if i < 0 then byt SL (Bf i) else Bf i) (fun i _ => by rw [if_neg (by omega)]) (fun i => by split; exact byt_lt _ _; exact N.out.byte i))
      have j6 : j = 6 := by omega
      subst j6
      clear N hj hq hlt
      go_wp2
      go_loopg [39] q (fun k i wr => ∃ t : Nat, t + k = q ∧ i = .int .i64 (t : Int) ∧ Hid (Own w.heap.size wr p1 g1 q c1 (fun i => if i < t then byt SL (Bf i) else Bf i)) ∧ Hid (Below w.heap.size w wr))
      case atStart => exact ⟨0, by omega, rfl, N1, BB⟩
      case round =>
        clear N1 BB
        obtain ⟨t, ht, rfl, N, BB⟩ := hrel
        obtain ⟨k2, rfl⟩ : ∃ kk : Nat, kk = gk := ⟨_, rfl⟩
        by_cases hlt : t < q
        · have HLT := Lib.hid hlt
          obtain rfl := N.out.row.head (by omega)
          obtain ⟨y, hy⟩ : ∃ y, y = Bf t := ⟨_, rfl⟩
          have yb : y < 32 := by rw [hy]; exact HNB.out t hlt
          have C2 := Lib.hid (show wr.cell? ⟨g1, t, none⟩ = some (.int .u8 (y : Int)) by have := N.out.row.cell t hlt; rwa [if_neg (by omega), ← hy, Nat.zero_add] at this)
          have IX := Lib.hid (fun W : World => run_ixS SL y yb W)
          obtain ⟨zz, hzz⟩ : ∃ zz, zz = byt SL y := ⟨_, rfl⟩
          have zzb : zz < 256 := by rw [hzz]; exact byt_lt _ _
          rw [← hzz] at IX
          go_wp2_with (first
            | ((with_reducible refine wpList_at 42 rfl ?_); refine wpList_ix (k := 1) (j := t) Tryd.underlying22 (by kernel_rfl) (.tmp 37) (.tmp 39) rfl rfl rfl rfl HLT.out rfl ?_; rw [Nat.mul_one, Nat.zero_add]; try simp only [Act.put, List.setIfInBounds_toArray, List.set_cons_zero, List.set_cons_succ])
            | ((with_reducible refine wpList_at 43 rfl ?_); refine wpList_ld1 5 (.tmp 42) rfl rfl rfl Tryd.underlying5 rfl C2.out ?_; try simp only [Act.put, List.setIfInBounds_toArray, List.set_cons_zero, List.set_cons_succ])
            | ((with_reducible refine wpList_at 47 rfl ?_); refine wpList_known4 rfl _ _ (exec_index rfl (IX.out _)) ?_; try simp only [Act.put, List.setIfInBounds_toArray, List.set_cons_zero, List.set_cons_succ])
            | ((with_reducible refine wpList_at 48 rfl ?_); refine wpList_ix (k := 1) (j := t) Tryd.underlying22 (by kernel_rfl) (.tmp 44) (.tmp 45) rfl rfl rfl rfl HLT.out rfl ?_; rw [Nat.mul_one, Nat.zero_add]; try simp only [Act.put, List.setIfInBounds_toArray, List.set_cons_zero, List.set_cons_succ])
            | ((refine wpList_atn rfl ?_); refine wpList_bput0 rfl (.tmp 48) (.tmp 47) rfl N rfl rfl HLT.out zzb ?_; clear N; intro w8 N hb8; replace BB := Lib.hid (BB.out.trans hb8.out)))
          have N2 := Lib.hid (N.out.to (y := fun i => if i < t + 1 then byt SL (Bf i) else Bf i) (fun i _ => by
            rcases Nat.lt_trichotomy i t with h | h | h
            · rw [if_neg (by omega), if_pos h, if_pos (by omega)]
            · subst h; rw [if_pos rfl, if_pos (by omega), hzz, hy]
            · rw [if_neg (by omega), if_neg (by omega), if_neg (by omega)]) (fun i => by
            split
            · exact byt_lt _ _
            · rw [HB.out]; exact cat_byte m AY.out (fun i => Nat.lt_of_lt_of_le (gI_lt 5 z 30 i) (by decide)) i))
          clear hy hzz N IX
          go_roundg (q - (t + 1))
          case measure => omega
          case rel => exact ⟨t + 1, by omega, by go_num, N2, BB⟩
        · obtain rfl : t = q := by omega
          have CV := Lib.hid (show ∀ w0 : World, w0 = wr → (convert 22 9 (.slice p1 t c1)).run Tryd.prog w0 = .ok (.string (strX (fun i => byt SL (Bf i)) t)) w0 from fun w0 h => by
            subst h
            rw [row_strX N.out.row]
            congr 2
            refine ba_ext (by rw [strX_size, strX_size]) fun i hi => ?_
            rw [strX_size] at hi
            rw [strX_byt N.out.byte hi, strX_byt (fun i => byt_lt _ _) hi, if_pos hi])
          have SZ := Lib.hid (show SB.size + (strX (fun i => byt SL (Bf i)) t).size ≤ 1000000 by rw [strX_size]; show 3 + t ≤ _; omega)
          obtain ⟨S0, hS0⟩ : ∃ S0, S0 = strX (fun i => byt SL (Bf i)) t := ⟨_, rfl⟩
          rw [← hS0] at CV SZ BTE
          obtain ⟨S1, hS1⟩ : ∃ S1, S1 = SB ++ S0 := ⟨_, rfl⟩
          rw [← hS1] at BTE
          have HS1 := Lib.hid hS1
          clear hS0 hS1
          go_wp2_with (first
            | ((with_reducible refine wpList_at 51 rfl ?_); refine wpList_known4 rfl _ _ (exec_cv rfl (CV.out _ rfl)) ?_; try simp only [Act.put, List.setIfInBounds_toArray, List.set_cons_zero, List.set_cons_succ])
            | ((with_reducible refine wpList_at 52 rfl ?_); refine wpList_known4 rfl (.string S1) _ (by rw [HS1.out]; exact exec_cat rfl rfl rfl SZ.out) ?_; try simp only [Act.put, List.setIfInBounds_toArray, List.set_cons_zero, List.set_cons_succ]))
          go_ret
          exact ⟨by rw [← BTE.out]; rfl, BB.out⟩
end Go.Proofs.YtghjgkgfpblijaaDoor
