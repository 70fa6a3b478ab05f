/- address.parseSum: the script of an address with a sum. -/
import Derived.Test.YtghjgkgfpblijaaDoorA8
set_option linter.unusedSimpArgs false
set_option linter.unusedVariables false
set_option maxRecDepth 100000
namespace Go.Proofs.YtghjgkgfpblijaaDoor
open Go.ChangeShapes Go.WideShapes Go.RowKit Go.Lib Go.Sort

set_option maxHeartbeats 16000000 in
theorem psum_any {w : World} (L : Hid (S.Both w)) (PL : Hid (PLaid w)) (s : ByteArray) : Calls Tryd.prog 25 #[.string s] w (OEnd w (pS s)) := by
  by_cases h : 300 < s.size ∨ ¬ AllIn D58 s
  · have NO := Lib.hid (pS_bad h)
    have UB := Lib.hid (unb_bad h w)
    clear h L PL
    go_enter Tryd.func25, Tryd.ntmps25
    go_upto_region 2 with (first
      | (go_at_call 48; refine UB.out.mono ?_; rintro e w2 ⟨z, hz, rfl, hb⟩; have BB := Lib.hid hb; have HZ := Lib.hid (show decide (z ≠ 0) = true by simp [hz]); clear hb hz))
    go_wp2_with (first
      | ((with_reducible refine wpList_at 14 rfl ?_); refine wpList_known4 rfl (.bool true) _ (by exact exec_neqE3 (z := z) (q := true) rfl rfl rfl HZ.out) ?_; try simp only [Act.put, List.setIfInBounds_toArray, List.set_cons_zero, List.set_cons_succ]))
    go_ret2
    exact oEnd_no NO.out BB.out
  · obtain ⟨r, hr⟩ : ∃ r, r = reb 58 256 (plL D58 s) := ⟨_, rfl⟩
    have HP := Lib.hid (show pS s = psum r by unfold pS; rw [if_neg h, hr])
    have UG := Lib.hid (unb_good h r hr w)
    have LB := Lib.hid (show r.length < 100000 by
      rw [hr]
      have hs : s.size ≤ 300 := by
        rcases Nat.lt_or_ge 300 s.size with q | q
        · exact absurd (.inl q) h
        · exact q
      have := reb_len (b := 58) (c := 256) (by omega) (by omega) (by decide) (ps := plL D58 s) (fun x hx => by
        refine plL_lt ?_ x hx
        exact Decidable.byContradiction fun q => h (.inr q))
      have e : (plL D58 s).length = s.size := tl_length _ _
      omega)
    obtain ⟨n, hn⟩ : ∃ n, n = r.length := ⟨_, rfl⟩
    rw [← hn] at UG LB
    have HZ := Lib.hid (show decide ((0 : Int) ≠ 0) = false by decide)
    by_cases h25 : n = 25
    · subst h25
      have HN := Lib.hid hn
      have H25 := Lib.hid (show decide ((25 : Nat) ≠ 25) = false by decide)
      clear h hr hn LB
      go_enter Tryd.func25, Tryd.ntmps25
      go_upto_region 4 with (first
        | (go_at_call 48; refine UG.out.mono ?_; rintro e w2 ⟨p, g, c, rfl, N0, hb⟩; have N := Lib.hid N0; have BB := Lib.hid hb; clear hb N0)
        | ((with_reducible refine wpList_at 14 rfl ?_); refine wpList_known4 rfl (.bool false) _ (by exact exec_neqE3 (z := 0) (q := false) rfl rfl rfl HZ.out) ?_; try simp only [Act.put, List.setIfInBounds_toArray, List.set_cons_zero, List.set_cons_succ])
        | ((with_reducible refine wpList_at 18 rfl ?_); refine wpList_known4 rfl (.bool false) _ (by exact exec_neq3v (a := 25) (b := 25) (q := false) rfl rfl rfl H25.out) ?_; try simp only [Act.put, List.setIfInBounds_toArray, List.set_cons_zero, List.set_cons_succ]))
      obtain rfl := N.out.row.head (by omega)
      have hc : 25 ≤ c := N.out.row.le
      obtain ⟨p1, e1, R1⟩ := N.out.row.slice (l := 0) (h := 21) (m := c) (by omega) (by omega) (by omega) (Nat.le_refl _)
      obtain ⟨p2, e2, R2⟩ := N.out.row.slice (l := 21) (h := 25) (m := c) (by omega) (by omega) (by omega) (Nat.le_refl _)
      simp only [Nat.sub_zero, Nat.zero_add, Nat.reduceSub] at e1 e2 R1 R2
      have SL1 := Lib.hid (fun W : World => (run_sl (w := W) (bounds_h (n := 25) (h := 21) (c := c) (by omega))).trans (by rw [e1]))
      have SL2 := Lib.hid (fun W : World => (run_sl (w := W) (bounds_l (n := 25) (l := 21) (c := c) (by omega))).trans (by rw [e2]))
      have RR1 := Lib.hid R1
      have RR2 := Lib.hid R2
      obtain ⟨p3, e3, R3⟩ := R1.slice (l := 1) (h := 21) (m := c) (by omega) (by omega) (by omega) (Nat.le_refl _)
      simp only [Nat.reduceSub, Nat.zero_add] at e3 R3
      have SL3 := Lib.hid (fun W : World => (run_sl (w := W) (bounds_l (n := 21) (l := 1) (c := c) (by omega))).trans (by rw [e3]))
      have RR3 := Lib.hid R3
      obtain rfl := R1.head (by omega)
      have R0 := R1.cell 0 (by omega)
      obtain ⟨b0, hb0⟩ : ∃ b0, b0 = lf r 0 := ⟨_, rfl⟩
      rw [← hb0, Nat.add_zero] at R0
      have C0 := Lib.hid R0
      have hrt : tl (lf r) 25 = r := by rw [HN.out, tl_lf]
      have T21 : tl (lf r) 21 = r.take 21 := by rw [← tl_take (n := 25) (by omega), hrt]
      have D21 : tl (fun i => lf r (21 + i)) 4 = r.drop 21 := by rw [← hrt, tl_drop (by omega), hrt]
      have D1 : tl (fun i => lf r (1 + i)) 20 = (r.take 21).drop 1 := by rw [← T21, tl_drop (by omega)]
      have T4 : tl (lf (dbl (tl (lf r) 21))) 4 = (dbl (r.take 21)).take 4 := by rw [T21]; rfl
      obtain ⟨q, hq⟩ : ∃ q, q = decide ((dbl (r.take 21)).take 4 = r.drop 21) := ⟨_, rfl⟩
      have HQ := Lib.hid (show decide (tl (lf (dbl (tl (lf r) 21))) 4 = tl (fun i => lf r (21 + i)) 4) = q by rw [T4, D21, hq])
      have hl25 : r.length = 25 := HN.out.symm
      have PPF := Lib.hid (show q = false → psum r = none from fun h => by
        rw [hq] at h
        unfold psum
        rw [if_neg (by rw [hl25]; simp), if_pos (of_decide_eq_false h)])
      have PPT := Lib.hid (show q = true → psum r = if b0 = 0 then mkOf 1 (tl (fun i => lf r (1 + i)) 20) else if b0 = 5 then mkOf 2 (tl (fun i => lf r (1 + i)) 20) else none from fun h => by
        rw [hq] at h
        unfold psum
        rw [if_neg (by rw [hl25]; simp), D1, if_neg (fun k => k (of_decide_eq_true h)), hb0]
        rfl)
      clear e1 e2 R1 R2 e3 R3 R0 hb0 hrt T21 D21 D1 T4 hq hl25
      refine wp_region_T (Φ := fun X => Below w2.heap.size w2 X) (S := fun _ => True) (Lib.hid (Below.refl _ _)) (fun _ h => h.drew) (fun _ _ => trivial) (by kernel_rfl) ?_
      intro wx TT S0
      replace N := Lib.hid (N.out.below TT.out)
      replace RR1 := Lib.hid (RR1.out.below TT.out)
      replace RR2 := Lib.hid (RR2.out.below TT.out)
      replace RR3 := Lib.hid (RR3.out.below TT.out)
      replace C0 := Lib.hid ((TT.out.cell (cell_lt C0.out)).trans C0.out)
      replace BB := Lib.hid (BB.out.trans (TT.out.mono BB.out.size))
      clear TT
      refine hm_run 0 20 (.slice (some ⟨g, 0, none⟩) 25 c) rfl rfl (by kernel_rfl) (by kernel_rfl) (by kernel_rfl) (fun _ _ _ h => h) rfl (fun _ _ => rfl) S0.out ?_
      try simp only [Act.put, List.getElem_toArray, List.getElem_cons_succ, List.getElem_cons_zero, List.setIfInBounds_toArray, List.set_cons_zero, List.set_cons_succ]
      refine hm_run 1 21 (.slice (some ⟨g, 0, none⟩) 21 c) rfl rfl (by kernel_rfl) (by kernel_rfl) (by kernel_rfl) (fun _ _ _ h => h) rfl (fun W _ => exec_slH rfl rfl rfl (SL1.out W)) S0.out ?_
      try simp only [Act.put, List.getElem_toArray, List.getElem_cons_succ, List.getElem_cons_zero, List.setIfInBounds_toArray, List.set_cons_zero, List.set_cons_succ]
      refine hm_run 2 22 (.slice (some ⟨g, 0, none⟩) 25 c) rfl rfl (by kernel_rfl) (by kernel_rfl) (by kernel_rfl) (fun _ _ _ h => h) rfl (fun _ _ => rfl) S0.out ?_
      try simp only [Act.put, List.getElem_toArray, List.getElem_cons_succ, List.getElem_cons_zero, List.setIfInBounds_toArray, List.set_cons_zero, List.set_cons_succ]
      refine hm_run 3 23 (.slice p2 4 (c - 21)) rfl rfl (by kernel_rfl) (by kernel_rfl) (by kernel_rfl) (fun _ _ _ h => h) rfl (fun W _ => exec_slL rfl rfl rfl (SL2.out W)) S0.out ?_
      try simp only [Act.put, List.getElem_toArray, List.getElem_cons_succ, List.getElem_cons_zero, List.setIfInBounds_toArray, List.set_cons_zero, List.set_cons_succ]
      refine hm_run 4 6 (.slice (some ⟨g, 0, none⟩) 21 c) rfl rfl (by kernel_rfl) (by kernel_rfl) (by kernel_rfl) (fun _ _ _ h => h) rfl (fun _ _ => rfl) S0.out ?_
      try simp only [Act.put, List.getElem_toArray, List.getElem_cons_succ, List.getElem_cons_zero, List.setIfInBounds_toArray, List.set_cons_zero, List.set_cons_succ]
      refine hm_run 5 7 (.slice p2 4 (c - 21)) rfl rfl (by kernel_rfl) (by kernel_rfl) (by kernel_rfl) (fun _ _ _ h => h) rfl (fun _ _ => rfl) S0.out ?_
      try simp only [Act.put, List.getElem_toArray, List.getElem_cons_succ, List.getElem_cons_zero, List.setIfInBounds_toArray, List.set_cons_zero, List.set_cons_succ]
      refine wpAnyH_done (by kernel_rfl) ?_ _
      clear SL1 SL2
      cases q with
      | false =>
        have NO := Lib.hid (show pS s = none by rw [HP.out, PPF.out rfl])
        clear PPF PPT
        go_wp2_with (first
                | (go_at_call 38; refine (asumof_any RR1 (by omega) (Lib.hid (L.out.below BB.out))).mono ?_; rintro e w4 ⟨b4, rfl, R4, hb4⟩; have RR4 := Lib.hid R4; replace RR2 := Lib.hid (RR2.out.below hb4); replace RR3 := Lib.hid (RR3.out.below hb4); replace C0 := Lib.hid ((hb4.cell (cell_lt C0.out)).trans C0.out); replace BB := Lib.hid (BB.out.trans (hb4.mono BB.out.size)); clear R4 hb4)
                | (go_at_call 13; ((with_reducible refine (equal_dec RR4 RR2 false HQ.out).mono ?_); rintro e w5 ⟨rfl, rfl⟩)))
        go_ret2
        exact oEnd_no NO.out BB.out
      | true =>
        have PL2 := Lib.hid (fun W (h : Below w.heap.size w W) => PL.out.below h)
        by_cases h0 : b0 = 0
        · have NO := Lib.hid (show pS s = mkOf 1 (tl (fun i => lf r (1 + i)) 20) by rw [HP.out, PPT.out rfl, if_pos h0])
          have M0 := Lib.hid (show decide (b0 = 0) = true by simp [h0])
          clear PPF PPT h0
          go_wp2_with (first
                | (go_at_call 38; refine (asumof_any RR1 (by omega) (Lib.hid (L.out.below BB.out))).mono ?_; rintro e w4 ⟨b4, rfl, R4, hb4⟩; have RR4 := Lib.hid R4; replace RR2 := Lib.hid (RR2.out.below hb4); replace RR3 := Lib.hid (RR3.out.below hb4); replace C0 := Lib.hid ((hb4.cell (cell_lt C0.out)).trans C0.out); replace BB := Lib.hid (BB.out.trans (hb4.mono BB.out.size)); clear R4 hb4)
                | (go_at_call 13; ((with_reducible refine (equal_dec RR4 RR2 true HQ.out).mono ?_); rintro e w5 ⟨rfl, rfl⟩))
                | ((with_reducible refine wpList_at 31 rfl ?_); refine wpList_ld1 5 (.tmp 30) rfl rfl rfl Tryd.underlying5 rfl C0.out ?_; try simp only [Act.put, List.setIfInBounds_toArray, List.set_cons_zero, List.set_cons_succ])
                | ((with_reducible refine wpList_at 30 rfl ?_); refine wpList_ix (k := 1) (j := 0) Tryd.underlying22 (by kernel_rfl) (.tmp 29) (.const (.int .i64 0)) rfl rfl rfl rfl (by omega) rfl ?_; rw [Nat.mul_one]; try simp only [Act.put, List.setIfInBounds_toArray, List.set_cons_zero, List.set_cons_succ])
                | ((with_reducible refine wpList_at 33 rfl ?_); refine wpList_known4 rfl (.bool true) _ (by exact exec_eq8v (a := b0) (b := 0) (q := true) rfl rfl rfl M0.out) ?_; try simp only [Act.put, List.setIfInBounds_toArray, List.set_cons_zero, List.set_cons_succ])
                | ((with_reducible refine wpList_at 35 rfl ?_); refine wpList_known4 rfl (.slice p3 20 (c - 1)) _ (by exact exec_slL rfl rfl rfl (SL3.out _)) ?_; try simp only [Act.put, List.setIfInBounds_toArray, List.set_cons_zero, List.set_cons_succ])
                | (go_at_call 15; refine (make_any (PL2.out _ BB.out) 1 RR3 (by omega)).mono ?_; intro e w5 hE; obtain ⟨r5, ok5, p5, g5, c5, rfl, ho, hr, N5, hb5⟩ := hE; have N6 := Lib.hid N5; replace BB := Lib.hid (BB.out.trans (hb5.mono BB.out.size)); have HO := Lib.hid (And.intro ho hr); clear N5 hb5 ho hr))
          go_ret2
          exact ⟨r5, ok5, p5, g5, c5, rfl, by rw [NO.out]; exact HO.out.1, by rw [NO.out]; exact HO.out.2, N6.out, BB.out⟩
        · have M0 := Lib.hid (show decide (b0 = 0) = false by simp [h0])
          by_cases h5 : b0 = 5
          · have NO := Lib.hid (show pS s = mkOf 2 (tl (fun i => lf r (1 + i)) 20) by rw [HP.out, PPT.out rfl, if_neg h0, if_pos h5])
            have M5 := Lib.hid (show decide (b0 = 5) = true by simp [h5])
            clear PPF PPT h0 h5
            go_wp2_with (first
                | (go_at_call 38; refine (asumof_any RR1 (by omega) (Lib.hid (L.out.below BB.out))).mono ?_; rintro e w4 ⟨b4, rfl, R4, hb4⟩; have RR4 := Lib.hid R4; replace RR2 := Lib.hid (RR2.out.below hb4); replace RR3 := Lib.hid (RR3.out.below hb4); replace C0 := Lib.hid ((hb4.cell (cell_lt C0.out)).trans C0.out); replace BB := Lib.hid (BB.out.trans (hb4.mono BB.out.size)); clear R4 hb4)
                | (go_at_call 13; ((with_reducible refine (equal_dec RR4 RR2 true HQ.out).mono ?_); rintro e w5 ⟨rfl, rfl⟩))
                | ((with_reducible refine wpList_at 31 rfl ?_); refine wpList_ld1 5 (.tmp 30) rfl rfl rfl Tryd.underlying5 rfl C0.out ?_; try simp only [Act.put, List.setIfInBounds_toArray, List.set_cons_zero, List.set_cons_succ])
                | ((with_reducible refine wpList_at 30 rfl ?_); refine wpList_ix (k := 1) (j := 0) Tryd.underlying22 (by kernel_rfl) (.tmp 29) (.const (.int .i64 0)) rfl rfl rfl rfl (by omega) rfl ?_; rw [Nat.mul_one]; try simp only [Act.put, List.setIfInBounds_toArray, List.set_cons_zero, List.set_cons_succ])
                | ((with_reducible refine wpList_at 33 rfl ?_); refine wpList_known4 rfl (.bool false) _ (by exact exec_eq8v (a := b0) (b := 0) (q := false) rfl rfl rfl M0.out) ?_; try simp only [Act.put, List.setIfInBounds_toArray, List.set_cons_zero, List.set_cons_succ])
                | ((with_reducible refine wpList_at 40 rfl ?_); refine wpList_known4 rfl (.bool true) _ (by exact exec_eq8v (a := b0) (b := 5) (q := true) rfl rfl rfl M5.out) ?_; try simp only [Act.put, List.setIfInBounds_toArray, List.set_cons_zero, List.set_cons_succ])
                | ((with_reducible refine wpList_at 42 rfl ?_); refine wpList_known4 rfl (.slice p3 20 (c - 1)) _ (by exact exec_slL rfl rfl rfl (SL3.out _)) ?_; try simp only [Act.put, List.setIfInBounds_toArray, List.set_cons_zero, List.set_cons_succ])
                | (go_at_call 15; refine (make_any (PL2.out _ BB.out) 2 RR3 (by omega)).mono ?_; intro e w5 hE; obtain ⟨r5, ok5, p5, g5, c5, rfl, ho, hr, N5, hb5⟩ := hE; have N6 := Lib.hid N5; replace BB := Lib.hid (BB.out.trans (hb5.mono BB.out.size)); have HO := Lib.hid (And.intro ho hr); clear N5 hb5 ho hr))
            go_ret2
            exact ⟨r5, ok5, p5, g5, c5, rfl, by rw [NO.out]; exact HO.out.1, by rw [NO.out]; exact HO.out.2, N6.out, BB.out⟩
          · have NO := Lib.hid (show pS s = none by rw [HP.out, PPT.out rfl, if_neg h0, if_neg h5])
            have M5 := Lib.hid (show decide (b0 = 5) = false by simp [h5])
            clear PPF PPT h0 h5
            go_wp2_with (first
                | (go_at_call 38; refine (asumof_any RR1 (by omega) (Lib.hid (L.out.below BB.out))).mono ?_; rintro e w4 ⟨b4, rfl, R4, hb4⟩; have RR4 := Lib.hid R4; replace RR2 := Lib.hid (RR2.out.below hb4); replace RR3 := Lib.hid (RR3.out.below hb4); replace C0 := Lib.hid ((hb4.cell (cell_lt C0.out)).trans C0.out); replace BB := Lib.hid (BB.out.trans (hb4.mono BB.out.size)); clear R4 hb4)
                | (go_at_call 13; ((with_reducible refine (equal_dec RR4 RR2 true HQ.out).mono ?_); rintro e w5 ⟨rfl, rfl⟩))
                | ((with_reducible refine wpList_at 31 rfl ?_); refine wpList_ld1 5 (.tmp 30) rfl rfl rfl Tryd.underlying5 rfl C0.out ?_; try simp only [Act.put, List.setIfInBounds_toArray, List.set_cons_zero, List.set_cons_succ])
                | ((with_reducible refine wpList_at 30 rfl ?_); refine wpList_ix (k := 1) (j := 0) Tryd.underlying22 (by kernel_rfl) (.tmp 29) (.const (.int .i64 0)) rfl rfl rfl rfl (by omega) rfl ?_; rw [Nat.mul_one]; try simp only [Act.put, List.setIfInBounds_toArray, List.set_cons_zero, List.set_cons_succ])
                | ((with_reducible refine wpList_at 33 rfl ?_); refine wpList_known4 rfl (.bool false) _ (by exact exec_eq8v (a := b0) (b := 0) (q := false) rfl rfl rfl M0.out) ?_; try simp only [Act.put, List.setIfInBounds_toArray, List.set_cons_zero, List.set_cons_succ])
                | ((with_reducible refine wpList_at 40 rfl ?_); refine wpList_known4 rfl (.bool false) _ (by exact exec_eq8v (a := b0) (b := 5) (q := false) rfl rfl rfl M5.out) ?_; try simp only [Act.put, List.setIfInBounds_toArray, List.set_cons_zero, List.set_cons_succ]))
            go_ret2
            exact oEnd_no NO.out BB.out
    · have NO := Lib.hid (show pS s = none by rw [HP.out]; unfold psum; rw [if_pos (by rw [← hn]; exact h25)])
      have H25 := Lib.hid (show decide (n ≠ 25) = true by simp [h25])
      clear h hr hn h25 L PL
      go_enter Tryd.func25, Tryd.ntmps25
      go_upto_region 3 with (first
        | (go_at_call 48; refine UG.out.mono ?_; rintro e w2 ⟨p, g, c, rfl, N, hb⟩; have BB := Lib.hid hb; clear hb N)
        | ((with_reducible refine wpList_at 14 rfl ?_); refine wpList_known4 rfl (.bool false) _ (by exact exec_neqE3 (z := 0) (q := false) rfl rfl rfl HZ.out) ?_; try simp only [Act.put, List.setIfInBounds_toArray, List.set_cons_zero, List.set_cons_succ])
        | ((with_reducible refine wpList_at 18 rfl ?_); refine wpList_known4 rfl (.bool true) _ (by exact exec_neq3v (a := n) (b := 25) (q := true) rfl rfl rfl H25.out) ?_; try simp only [Act.put, List.setIfInBounds_toArray, List.set_cons_zero, List.set_cons_succ]))
      go_wp2
      go_ret2
      exact oEnd_no NO.out BB.out
end Go.Proofs.YtghjgkgfpblijaaDoor
