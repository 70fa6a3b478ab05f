/- The document's script.Make; a script of data is known. -/
import Derived.Test.YtghjgkgfpblijaaDoorPr
set_option linter.unusedSimpArgs false
set_option linter.unusedVariables false
set_option maxRecDepth 100000
namespace Go.Proofs.YtghjgkgfpblijaaDoor
open Go.ChangeShapes Go.WideShapes Go.ChangeAt Go.RowKit Go.Lib Go.Sort

theorem mkEnd_yes {w : World} {kind : Int} {b r : List Nat} (h : mkOf kind b = some r) {p : Option Addr} {g c n : Nat} (hn : n = r.length) {w' : World} (R : Row w' p g 0 n c (lf r)) (hb : Below w.heap.size w w') : MkEnd w kind b (.returned (.tuple #[.slice p n c, .bool true])) w' :=
  ⟨r, true, p, g, c, by rw [hn], by rw [h]; rfl, by rw [h]; rfl, by rw [← hn]; exact R, hb⟩
theorem row_lf {w : World} {p : Option Addr} {g o n c : Nat} {x : Nat → Nat} {r : List Nat} (R : Row w p g o n c x) (h : tl x n = r) : n = r.length ∧ Row w p g o n c (lf r) := by
  subst h
  exact ⟨(tl_length _ _).symm, by have := R.tl; rwa [tl_length] at this⟩
theorem cC_ok (j : Nat) (h : j < 5) (n : Nat) : okc j n = decide (n = cC j) := by
  have hc : cC j = 20 ∨ cC j = 32 := by
    match j, h with
    | 0, _ => exact .inl rfl | 1, _ => exact .inl rfl | 2, _ => exact .inl rfl | 3, _ => exact .inr rfl | 4, _ => exact .inr rfl
  unfold okc
  rw [cC_eq j h]
  unfold okI
  rw [if_neg (by omega)]
  by_cases e : n = cC j
  · rw [decide_eq_true e, decide_eq_true (by omega)]
  · rw [decide_eq_false e, decide_eq_false (by omega)]
set_option maxHeartbeats 8000000 in
theorem rmake_any {w : World} (kind : Int) {p : Option Addr} {g o n c : Nat} {x : Nat → Nat} (R : Hid (Row w p g o n c x)) (hn : n ≤ 140737488351232) : Calls Tryd.prog 29 #[.int .i64 kind, .slice p n c] w (MkEnd w kind (tl x n)) := by
  have E := Lib.hid (Mem.nil w)
  by_cases h6 : kind = 6
  · subst h6
    have YY := Lib.hid (show mkOf 6 (tl x n) = some ([106] ++ tl x n) by rw [mkOf_yes (j := 5) (kind := 6) (by omega) rfl (by unfold okc okI; rw [show cN 5 = -1 from rfl, if_pos rfl]; simp)]; simp [hL, tL])
    go_enter Tryd.func29, Tryd.ntmps29
    go_wp2_with (first
      | ((with_reducible refine wpList_at 12 rfl ?_); refine wpList_bs rfl 1 _ rfl E (fun _ => 106) (fun _ => by omega) (by unfold maxLen; omega) (fun W => by kernel_rfl) ?_; clear E; intro B1 p1 g1 w1 WK; try simp only [Act.put, List.setIfInBounds_toArray, List.set_cons_zero, List.set_cons_succ])
      | ((with_reducible refine wpList_at 14 rfl ?_); refine wpList_wapp (.inl rfl) (.tmp 12) (.tmp 13) rfl WK rfl rfl (Lib.hid (R.out.below WK.out.mem.below)) (by omega) ?_; clear WK; intro p2 g2 c2 w2 WK; try simp only [Act.put, List.setIfInBounds_toArray, List.set_cons_zero, List.set_cons_succ]))
    go_ret2
    obtain ⟨O1, B1b⟩ := WK.out.gets
    obtain ⟨e1, e2⟩ := row_lf (r := [106] ++ tl x n) O1.row (by rw [tl_cat]; rfl)
    have e3 := mkEnd_yes YY.out e1 e2 B1b
    exact e3
  · have b6 : (kind == 6) = false := by simpa using h6
    by_cases hj : ∃ j : Nat, j < 5 ∧ kind = ((j + 1 : Nat) : Int)
    · obtain ⟨j, hj, hk⟩ := hj
      have AR := Lib.hid (fun W : World => around_yes j hj W)
      have HS := hB_size j
      have TS := tB_size j
      have CB : cC j ≤ 32 := by unfold cC; split <;> omega
      rw [← hk] at AR
      by_cases ht : n = cC j
      · have YY := Lib.hid (show mkOf kind (tl x n) = some (bytL (hB j) ++ tl x n ++ bytL (tB j)) by rw [hB_bytes, tB_bytes]; exact mkOf_yes (by omega) hk (by rw [cC_ok j hj, tl_length]; simpa using ht))
        obtain ⟨H, hH⟩ : ∃ H, H = hB j := ⟨_, rfl⟩
        obtain ⟨T, hT⟩ : ∃ T, T = tB j := ⟨_, rfl⟩
        rw [← ht] at AR CB
        rw [← hH] at AR YY HS
        rw [← hT] at AR YY TS
        clear hH hT ht hk h6 hj
        go_enter Tryd.func29, Tryd.ntmps29
        go_wp2_with (first
          | (go_at_call 42; ((with_reducible refine (AR.out _).mono ?_); rintro e w7 ⟨rfl, rfl⟩))
          | ((with_reducible refine wpList_at 31 rfl ?_); refine wpList_cv rfl (.tmp 30) rfl rfl (by omega) ?_; intro p1 g1 c1 w1 N1 hb1; have BX := Lib.hid ((Below.refl w.heap.size w).trans hb1.out); clear hb1; try simp only [Act.put, List.setIfInBounds_toArray, List.set_cons_zero, List.set_cons_succ])
          | ((with_reducible refine wpList_at 33 rfl ?_); refine wpList_mapp rfl (.tmp 31) (.tmp 32) rfl rfl N1 rfl (src_row (R.out.below BX.out)) R.out.byte (by omega) ?_; intro p2 g2 c2 w2 N2 hb2; replace BX := Lib.hid (BX.out.trans hb2.out); clear hb2 N1; try simp only [Act.put, List.setIfInBounds_toArray, List.set_cons_zero, List.set_cons_succ])
          | ((with_reducible refine wpList_at 35 rfl ?_); refine wpList_mapp rfl (.tmp 33) (.tmp 34) rfl rfl N2 rfl (src_text _ T) (byt_lt T) (by omega) ?_; intro p3 g3 c3 w3 N3 hb3; replace BX := Lib.hid (BX.out.trans hb3.out); clear hb3 N2; try simp only [Act.put, List.setIfInBounds_toArray, List.set_cons_zero, List.set_cons_succ]))
        go_ret2
        obtain ⟨e1, e2⟩ := row_lf (r := bytL H ++ tl x n ++ bytL T) N3.out.row (by rw [tl_cat, tl_cat]; rfl)
        exact mkEnd_yes YY.out e1 e2 BX.out
      · have YtghjgkgfpblijaaDoor := Lib.hid (show mkOf kind (tl x n) = none from mkOf_no fun j' h' hk' => by
          obtain rfl : j' = j := by omega
          rw [cC_ok j' hj, tl_length]
          simpa using ht)
        obtain ⟨C, hC⟩ : ∃ C, C = cC j := ⟨_, rfl⟩
        rw [← hC] at AR ht
        have b1 : ((n : Int) == (C : Int)) = false := by simpa using (show ¬ (n : Int) = (C : Int) by omega)
        clear hk hj h6 hC ht CB
        go_enter Tryd.func29, Tryd.ntmps29
        go_wp2_with (go_at_call 42; ((with_reducible refine (AR.out _).mono ?_); rintro e w7 ⟨rfl, rfl⟩))
        go_ret2
        exact mkEnd_no YtghjgkgfpblijaaDoor.out (Below.refl _ _)
    · have AR := Lib.hid (fun W : World => around_no kind (fun j h1 h2 => hj ⟨j, h1, h2⟩) W)
      have YtghjgkgfpblijaaDoor := Lib.hid (show mkOf kind (tl x n) = none from mkOf_no fun j' h' hk' => by
        rcases Nat.lt_or_ge j' 5 with q | q
        · exact absurd ⟨j', q, hk'⟩ hj
        · exact absurd (show kind = 6 by omega) h6)
      clear hj h6
      go_enter Tryd.func29, Tryd.ntmps29
      go_wp2_with (go_at_call 42; ((with_reducible refine (AR.out _).mono ?_); rintro e w7 ⟨rfl, rfl⟩))
      go_ret2
      exact mkEnd_no YtghjgkgfpblijaaDoor.out (Below.refl _ _)
theorem cls_data {x : Nat → Nat} {k : Nat} {b : List Nat} (h0 : x 0 = 106) (h1 : x 1 = 5) (h : Cls (tl x 2) k b) : k = 6 ∧ b = [5] := by
  have h2 : Cls (tl x 2) 6 [5] := .inl ⟨5, by omega, rfl, by
    have := ofpat5_some (x := x) (n := 2) (by omega) h0
    have e : tl (fun i => x (1 + i)) (2 - 1) = [5] := by simp [tl, h1]
    rwa [e] at this⟩
  exact h.same h2
end Go.Proofs.YtghjgkgfpblijaaDoor

