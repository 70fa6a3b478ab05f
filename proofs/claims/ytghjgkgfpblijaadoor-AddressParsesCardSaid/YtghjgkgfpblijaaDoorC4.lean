/- The document's Text. -/
import Derived.Test.YtghjgkgfpblijaaDoorC3
import Derived.Test.YtghjgkgfpblijaaDoorAj
set_option linter.unusedSimpArgs false
set_option linter.unusedVariables false
set_option maxRecDepth 100000
namespace Go.Proofs.YtghjgkgfpblijaaDoor
open Go.ChangeShapes Go.WideShapes Go.RowKit Go.Lib Go.Sort

theorem rdouble_k {w : World} {p : Option Addr} {g o n c : Nat} {x : Nat → Nat} (R : Hid (Row w p g o n c x)) (hn : n ≤ 140737488351232) :
    Calls Tryd.prog 21 #[.slice p n c] w fun e w' => e = .returned (.agg (arr 32 (bv (lf (dbl (tl x n)))))) ∧ Below w.heap.size w w' := by
  have R2 : Row w p g o (tl x n).length c (lf (tl x n)) := by rw [tl_length]; exact R.out.to (fun i hi => (lf_tl x hi).symm) (lf_lt (isB_tl R.out.byte n))
  have := ref_double_l (Lib.hid R2) (by rw [tl_length]; exact hn)
  rwa [tl_length] at this
set_option maxHeartbeats 16000000 in
theorem rtext_any {w : World} {p : Option Addr} {g o n c : Nat} {x : Nat → Nat} (R : Hid (Row w p g o n c x)) (hn : n ≤ 140737488355328) :
    Calls Tryd.prog 9 #[.slice p n c] w (TEnd w (tl x n)) := by
  have CX := Lib.hid (rclass_any R hn)
  obtain ⟨xs, hxs⟩ : ∃ xs, xs = tl x n := ⟨_, rfl⟩
  rw [← hxs] at CX ⊢
  clear hxs R hn
  go_enter Tryd.func9, Tryd.ntmps9
  go_upto_region 3 with (first
    | (go_at_call 20; refine CX.out.mono ?_; rintro e w4 ⟨k, b, p4, g4, c4, rfl, hc, N, hb⟩; have HC := Lib.hid hc; have N0 := Lib.hid N.row; have BB := Lib.hid hb; clear hc N hb))
  have BL := Lib.hid (fun (h1 : 1 ≤ k) (h2 : k ≤ 5) => cls_short HC.out h1 h2)
  have k6 := cls_le6 HC.out
  obtain ⟨m, hm⟩ : ∃ m, m = b.length := ⟨_, rfl⟩
  have HM := Lib.hid hm
  have HT := Lib.hid (show tl (lf b) m = b by rw [hm, tl_lf])
  rw [← hm] at N0 BL
  rw [← hm]
  clear hm CX
  have cases7 : k = 0 ∨ k = 1 ∨ k = 2 ∨ k = 3 ∨ k = 4 ∨ k = 5 ∨ k = 6 := by omega
  rcases cases7 with rfl | rfl | rfl | rfl | rfl | rfl | rfl
  · clear BL N0 k6 HT
    go_wp2
    go_ret2
    exact ⟨⟨0, b, HC.out, rfl⟩, BB.out⟩
  · have mb : m ≤ 32 := by rw [BL.out (by omega) (by omega)]; exact cC_le _
    have R := N0
    obtain ⟨q, hq⟩ : ∃ q, q = 1 + m := ⟨_, rfl⟩
    obtain ⟨X, hX⟩ : ∃ X, X = cat (fun _ => 0) 1 (lf b) := ⟨_, rfl⟩
    obtain ⟨d, hd⟩ : ∃ d, d = dbl (tl X q) := ⟨_, rfl⟩
    obtain ⟨Y, hY⟩ : ∃ Y, Y = cat X q (lf d) := ⟨_, rfl⟩
    have TKE := Lib.hid (show (tK 1 b).1 = b58 (tl Y (q + 4)) ∧ (tK 1 b).2 = 0 by
      rw [hd] at hY
      rw [sT_list hX hY hq, HT.out]
      exact ⟨rfl, rfl⟩)
    have HQ := Lib.hid hq.symm
    have HX := Lib.hid hX.symm
    have HY := Lib.hid hY.symm
    have HD := Lib.hid hd.symm
    have HDB := Lib.hid (show ∀ i, lf d i < 256 by rw [hd]; exact isH_bytes _)
    obtain ⟨q4, hq4⟩ : ∃ q4, q4 = q + 4 := ⟨_, rfl⟩
    have HQ4 := Lib.hid hq4.symm
    have qb : q ≤ 33 := by omega
    have q4b : q4 ≤ 37 := by omega
    rw [← hq4] at TKE
    clear hq hX hY hd hq4 BL N0 k6 HT
    go_wp2_with (first
      | ((with_reducible refine wpList_at 21 rfl ?_); refine wpList_b1o rfl _ rfl (.int .u8 0) (v := 0) (by kernel_rfl) rfl (by decide) ?_; intro p1 g1 w1 N hb; have B4 := Lib.hid BB.out.size; replace BB := Lib.hid (BB.out.trans (hb.out.mono BB.out.size)); replace R := Lib.hid (R.out.below hb.out); clear hb; try simp only [Act.put, List.setIfInBounds_toArray, List.set_cons_zero, List.set_cons_succ])
      | ((with_reducible refine wpList_at 23 rfl ?_); refine wpList_app (.inl rfl) (.tmp 21) (.tmp 22) rfl rfl N rfl R (by omega) ?_; clear N; intro p8 g8 c8 w8 N hb8; rw [HQ.out, HX.out] at N; rw [HQ.out]; replace BB := Lib.hid (BB.out.trans (hb8.out.mono B4.out)); clear hb8; try simp only [Act.put, List.setIfInBounds_toArray, List.set_cons_zero, List.set_cons_succ])
      | (go_at_call 21; ((with_reducible refine (rdouble_k (Lib.hid N.out.row) (by omega)).mono ?_); intro e w5 h5); obtain ⟨he5, hb⟩ := h5; rw [HD.out] at he5; subst he5; replace N := Lib.hid (N.out.below hb); replace BB := Lib.hid (BB.out.trans (hb.mono BB.out.size)); have E := Lib.hid (Mem.nil w5); clear hb)
      | ((with_reducible refine wpList_at 8 rfl ?_); refine mem_alloc E 43 rfl rfl infoHashA ?_; clear E; intro b3 w6 E; simp only [arr_cells'] at E)
      | ((with_reducible refine wpList_atn rfl ?_); refine mem_store_row 0 E 43 rfl (.tmp 8) (.tmp 25) rfl rfl rfl rfl (by kernel_rfl) (by simp only [arr_size]) (bv_one _ _) ?_; clear E; intro w7 E; simp only [List.set_cons_zero, List.set_cons_succ] at E; have RH := Lib.hid (show Row w7 (some ⟨b3, 0, none⟩) b3 0 4 32 (lf d) from ⟨by omega, by unfold maxLen; omega, fun h => (by cases h), fun _ => rfl, fun i hi => (by rw [Nat.zero_add]; exact cell_of_here (E.out.get List.mem_cons_self) i (arr_get 32 _ i (by omega))), HDB.out⟩); replace N := Lib.hid (N.out.below E.out.below); replace BB := Lib.hid (BB.out.trans (E.out.below.mono BB.out.size)))
      | ((with_reducible refine wpList_at 27 rfl ?_); refine mem_known rfl (.slice (some ⟨b3, 0, none⟩) 4 32) _ (exec_sl rfl (by exact run_h4a b3 _)) ?_)
      | ((with_reducible refine wpList_at 28 rfl ?_); refine wpList_app (.inl rfl) (.tmp 26) (.tmp 27) rfl rfl N rfl RH (by omega) ?_; clear N; intro p9 g9 c9 w9 N hb8; rw [HY.out, HQ4.out] at N; rw [HQ4.out]; replace BB := Lib.hid (BB.out.trans (hb8.out.mono B4.out)); clear hb8; try simp only [Act.put, List.setIfInBounds_toArray, List.set_cons_zero, List.set_cons_succ])
      | (go_at_call 22; refine (rb58_any (Lib.hid N.out.row) (by omega)).mono ?_; rintro e wa ⟨rfl, hb⟩; replace BB := Lib.hid (BB.out.trans (hb.mono BB.out.size)); clear hb))
    go_ret2
    exact ⟨⟨1, b, HC.out, by rw [TKE.out.1, TKE.out.2]; rfl⟩, BB.out⟩
  · have mb : m ≤ 32 := by rw [BL.out (by omega) (by omega)]; exact cC_le _
    have R := N0
    obtain ⟨q, hq⟩ : ∃ q, q = 1 + m := ⟨_, rfl⟩
    obtain ⟨X, hX⟩ : ∃ X, X = cat (fun _ => 5) 1 (lf b) := ⟨_, rfl⟩
    obtain ⟨d, hd⟩ : ∃ d, d = dbl (tl X q) := ⟨_, rfl⟩
    obtain ⟨Y, hY⟩ : ∃ Y, Y = cat X q (lf d) := ⟨_, rfl⟩
    have TKE := Lib.hid (show (tK 2 b).1 = b58 (tl Y (q + 4)) ∧ (tK 2 b).2 = 0 by
      rw [hd] at hY
      rw [sT_list hX hY hq, HT.out]
      exact ⟨rfl, rfl⟩)
    have HQ := Lib.hid hq.symm
    have HX := Lib.hid hX.symm
    have HY := Lib.hid hY.symm
    have HD := Lib.hid hd.symm
    have HDB := Lib.hid (show ∀ i, lf d i < 256 by rw [hd]; exact isH_bytes _)
    obtain ⟨q4, hq4⟩ : ∃ q4, q4 = q + 4 := ⟨_, rfl⟩
    have HQ4 := Lib.hid hq4.symm
    have qb : q ≤ 33 := by omega
    have q4b : q4 ≤ 37 := by omega
    rw [← hq4] at TKE
    clear hq hX hY hd hq4 BL N0 k6 HT
    go_wp2_with (first
      | ((with_reducible refine wpList_at 21 rfl ?_); refine wpList_b1o rfl _ rfl (.int .u8 5) (v := 5) (by kernel_rfl) rfl (by decide) ?_; intro p1 g1 w1 N hb; have B4 := Lib.hid BB.out.size; replace BB := Lib.hid (BB.out.trans (hb.out.mono BB.out.size)); replace R := Lib.hid (R.out.below hb.out); clear hb; try simp only [Act.put, List.setIfInBounds_toArray, List.set_cons_zero, List.set_cons_succ])
      | ((with_reducible refine wpList_at 23 rfl ?_); refine wpList_app (.inl rfl) (.tmp 21) (.tmp 22) rfl rfl N rfl R (by omega) ?_; clear N; intro p8 g8 c8 w8 N hb8; rw [HQ.out, HX.out] at N; rw [HQ.out]; replace BB := Lib.hid (BB.out.trans (hb8.out.mono B4.out)); clear hb8; try simp only [Act.put, List.setIfInBounds_toArray, List.set_cons_zero, List.set_cons_succ])
      | (go_at_call 21; ((with_reducible refine (rdouble_k (Lib.hid N.out.row) (by omega)).mono ?_); intro e w5 h5); obtain ⟨he5, hb⟩ := h5; rw [HD.out] at he5; subst he5; replace N := Lib.hid (N.out.below hb); replace BB := Lib.hid (BB.out.trans (hb.mono BB.out.size)); have E := Lib.hid (Mem.nil w5); clear hb)
      | ((with_reducible refine wpList_at 8 rfl ?_); refine mem_alloc E 43 rfl rfl infoHashA ?_; clear E; intro b3 w6 E; simp only [arr_cells'] at E)
      | ((with_reducible refine wpList_atn rfl ?_); refine mem_store_row 0 E 43 rfl (.tmp 8) (.tmp 25) rfl rfl rfl rfl (by kernel_rfl) (by simp only [arr_size]) (bv_one _ _) ?_; clear E; intro w7 E; simp only [List.set_cons_zero, List.set_cons_succ] at E; have RH := Lib.hid (show Row w7 (some ⟨b3, 0, none⟩) b3 0 4 32 (lf d) from ⟨by omega, by unfold maxLen; omega, fun h => (by cases h), fun _ => rfl, fun i hi => (by rw [Nat.zero_add]; exact cell_of_here (E.out.get List.mem_cons_self) i (arr_get 32 _ i (by omega))), HDB.out⟩); replace N := Lib.hid (N.out.below E.out.below); replace BB := Lib.hid (BB.out.trans (E.out.below.mono BB.out.size)))
      | ((with_reducible refine wpList_at 27 rfl ?_); refine mem_known rfl (.slice (some ⟨b3, 0, none⟩) 4 32) _ (exec_sl rfl (by exact run_h4a b3 _)) ?_)
      | ((with_reducible refine wpList_at 28 rfl ?_); refine wpList_app (.inl rfl) (.tmp 26) (.tmp 27) rfl rfl N rfl RH (by omega) ?_; clear N; intro p9 g9 c9 w9 N hb8; rw [HY.out, HQ4.out] at N; rw [HQ4.out]; replace BB := Lib.hid (BB.out.trans (hb8.out.mono B4.out)); clear hb8; try simp only [Act.put, List.setIfInBounds_toArray, List.set_cons_zero, List.set_cons_succ])
      | (go_at_call 22; refine (rb58_any (Lib.hid N.out.row) (by omega)).mono ?_; rintro e wa ⟨rfl, hb⟩; replace BB := Lib.hid (BB.out.trans (hb.mono BB.out.size)); clear hb))
    go_ret2
    exact ⟨⟨2, b, HC.out, by rw [TKE.out.1, TKE.out.2]; rfl⟩, BB.out⟩
  · have mb : m ≤ 32 := by rw [BL.out (by omega) (by omega)]; exact cC_le _
    have N4 := N0
    have TKE := Lib.hid (show (tK 3 b).1 = bT 0 (tl (lf b) m) ∧ (tK 3 b).2 = 0 by rw [HT.out]; exact ⟨rfl, rfl⟩)
    clear BL N0 k6 HT
    go_wp2_with (first
      | (go_at_call 23; refine (segwit_any 0 (by decide) N4 (by omega)).mono ?_; rintro e w5 ⟨rfl, hb⟩; replace BB := Lib.hid (BB.out.trans (hb.mono BB.out.size)); clear hb))
    go_ret2
    exact ⟨⟨3, b, HC.out, by rw [TKE.out.1, TKE.out.2]; rfl⟩, BB.out⟩
  · have mb : m ≤ 32 := by rw [BL.out (by omega) (by omega)]; exact cC_le _
    have N4 := N0
    have TKE := Lib.hid (show (tK 4 b).1 = bT 0 (tl (lf b) m) ∧ (tK 4 b).2 = 0 by rw [HT.out]; exact ⟨rfl, rfl⟩)
    clear BL N0 k6 HT
    go_wp2_with (first
      | (go_at_call 23; refine (segwit_any 0 (by decide) N4 (by omega)).mono ?_; rintro e w5 ⟨rfl, hb⟩; replace BB := Lib.hid (BB.out.trans (hb.mono BB.out.size)); clear hb))
    go_ret2
    exact ⟨⟨4, b, HC.out, by rw [TKE.out.1, TKE.out.2]; rfl⟩, BB.out⟩
  · have mb : m ≤ 32 := by rw [BL.out (by omega) (by omega)]; exact cC_le _
    have N4 := N0
    have TKE := Lib.hid (show (tK 5 b).1 = bT 1 (tl (lf b) m) ∧ (tK 5 b).2 = 0 by rw [HT.out]; exact ⟨rfl, rfl⟩)
    clear BL N0 k6 HT
    go_wp2_with (first
      | (go_at_call 23; refine (segwit_any 1 (by decide) N4 (by omega)).mono ?_; rintro e w5 ⟨rfl, hb⟩; replace BB := Lib.hid (BB.out.trans (hb.mono BB.out.size)); clear hb))
    go_ret2
    exact ⟨⟨5, b, HC.out, by rw [TKE.out.1, TKE.out.2]; rfl⟩, BB.out⟩
  · clear BL N0 k6 HT
    go_wp2
    go_ret2
    exact ⟨⟨6, b, HC.out, rfl⟩, BB.out⟩
end Go.Proofs.YtghjgkgfpblijaaDoor
