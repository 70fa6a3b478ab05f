/- For every number, all slices of bytes (nil too) and all texts: the script of a kind has an address, which says it; an address says a script that has an address of that size; the call returns true. The four tables are laid as the program's text lays them; the card ties them to that text. No other condition. -/
import Derived.Test.YtghjgkgfpblijaaDoorB5
import Derived.Test.YtghjgkgfpblijaaDoorTie
import Derived.Test.YtghjgkgfpblijaaDoorCards
import Derived.ShutString
import Derived.ChangeOld
import Derived.Below
import Derived.SevenTiedAt
set_option linter.unusedVariables false
set_option linter.unusedSimpArgs false
namespace Go.Proofs.YtghjgkgfpblijaaDoor.addressBack
open Go.ChangeShapes Go.WideShapes Go.ChangeAt Go.RowKit Go.Lib Go.Sort Go.Proofs.YtghjgkgfpblijaaDoor

set_option maxRecDepth 100000
theorem pEnd (s : ByteArray) : ∀ z, pA s = some z → z.length ≤ 140737488355328 := fun z h => by
  obtain ⟨k, b, hc, h1, h5, _⟩ := pA_some h
  have hl := cls_short hc h1 h5
  obtain ⟨j, rfl⟩ : ∃ j, k = j + 1 := ⟨k - 1, by omega⟩
  have hm := mk_sizes (j := j) (b := b) (by omega) hl
  have e := mk_clsA hc (by omega)
  rw [hm.1] at e
  injection e with e
  rw [← e]
  omega
set_option maxHeartbeats 16000000 in
theorem one0 (W : World) (L : Hid (S.Both W)) (PL : Hid (PLaid W)) (CL : Hid (S.CLaid W)) (a0 u rv : Int) (x1 : IntKind.u64.wrap a0 = u) (x3 : u.tmod 5 = rv) (x4 : IntKind.i64.wrap rv = 0) (a1 : Option Addr) (g1 o1 n1 c1 : Nat) (x1' : Nat → Nat) (R : Hid (Row W a1 g1 o1 n1 c1 x1')) (hn : n1 ≤ 140737488351232) (s : ByteArray) :
    Calls Tryd.prog 5 #[.int .i64 a0, .slice a1 n1 c1, .string s] W fun e w' => e = .returned (.bool true) ∧ Below W.heap.size W w' := by
  obtain ⟨m, hm⟩ : ∃ m, m = n1 + 32 := ⟨_, rfl⟩
  obtain ⟨y, hy⟩ : ∃ y, y = cat x1' n1 (fun _ => 0) := ⟨_, rfl⟩
  have hbl : (tl y 20).length = cC 0 := tl_length _ _
  obtain ⟨h1, h2, h3⟩ := mk_sizes (j := 0) (by omega) hbl
  obtain ⟨r, hr⟩ : ∃ r, r = hL 0 ++ tl y 20 ++ tL 0 := ⟨_, rfl⟩
  rw [← hr] at h1 h2 h3
  obtain ⟨rl, hrl⟩ : ∃ rl, rl = r.length := ⟨_, rfl⟩
  have HRL := Lib.hid hrl
  have yb : ∀ i, y i < 256 := fun i => by rw [hy]; exact cat_byte n1 R.out.byte (fun _ => by omega) i
  obtain ⟨hp, he⟩ := pA_tK h2 (by omega) (by omega) (isB_tl yb 20)
  obtain ⟨T, hT⟩ : ∃ T, T = (tK (0 + 1) (tl y 20)).1 := ⟨_, rfl⟩
  rw [← hT] at hp
  have HT := Lib.hid hT.symm
  have HE := Lib.hid he
  have HPA := Lib.hid hp
  have HCL := Lib.hid h2
  have HMK := Lib.hid (show mkOf 1 (tl y 20) = some r from h1)
  have HM := Lib.hid hm.symm
  have HY := Lib.hid hy.symm
  have rb : rl ≤ 60 := by omega
  have mb : 32 ≤ m := by omega
  have Y0 := Lib.hid (show decide ((0 : Int) ≠ 0) = false by decide)
  clear hm hy hbl h1 h2 h3 hr hrl yb hp he hT
  go_enter Tryd.func5, Tryd.ntmps5
  go_upto_region 6 with (first
    | (go_at_call 14; refine (clone_any R (by omega)).mono ?_; rintro e w1 ⟨p1, g1, c1, rfl, N1, hb⟩; have N := Lib.hid N1; have BB := Lib.hid hb; clear N1 hb)
    | ((with_reducible refine wpList_at 23 rfl ?_); refine wpList_noughts rfl (.tmp 22) _ rfl rfl N rfl (m := 32) rfl (by omega) (by omega) ?_; clear N; intro p2 g2 c2 w2 N hb; rw [HY.out, HM.out] at N; rw [HM.out]; replace BB := Lib.hid (BB.out.trans hb.out); clear hb; try simp only [Act.put, List.setIfInBounds_toArray, List.set_cons_zero, List.set_cons_succ]))
  have hmc : m ≤ c2 := N.out.row.le
  obtain ⟨p3, e3, R3x⟩ := N.out.row.slice (l := 0) (h := 20) (m := c2) (by omega) (by omega) (by omega) (Nat.le_refl _)
  simp only [Nat.sub_zero, Nat.zero_add] at e3 R3x
  have SL := Lib.hid (fun W : World => (run_sl (w := W) (bounds_h (n := m) (h := 20) (c := c2) (by omega))).trans (by rw [e3]))
  have R3 := Lib.hid R3x
  clear e3 R3x N x1 x3 x4
  go_upto_region 9 with (first
    | ((with_reducible refine wpList_at 30 rfl ?_); refine wpList_known4 rfl (.slice p3 20 c2) _ (by exact exec_slH rfl rfl rfl (SL.out _)) ?_; try simp only [Act.put, List.setIfInBounds_toArray, List.set_cons_zero, List.set_cons_succ])
    | (go_at_call 15; refine (make_known (PL.out.below BB.out) R3 (by omega) HMK.out).mono ?_; rintro e w3 ⟨p4, g4, c4, rfl, R4, hb⟩; rw [← HRL.out] at R4 ⊢; have R5 := Lib.hid R4; replace BB := Lib.hid (BB.out.trans (hb.mono BB.out.size)); clear R4 hb)
    | (go_at_call 8; ((with_reducible refine (atext_known (Lib.hid (L.out.below BB.out)) (Lib.hid (PL.out.below BB.out)) (Lib.hid (CL.out.below BB.out)) R5 HRL (by omega) HCL.out).mono ?_); intro e w4 h4); obtain ⟨he4, hb⟩ := h4; rw [HT.out, HE.out] at he4; subst he4; replace R5 := Lib.hid (R5.out.below hb); replace BB := Lib.hid (BB.out.trans (hb.mono BB.out.size)); clear hb)
    | (go_at_call 11; ((with_reducible refine (aparse_any (Lib.hid (L.out.below BB.out)) (Lib.hid (PL.out.below BB.out)) (Lib.hid (CL.out.below BB.out)) T).mono ?_); intro e w5 h5); obtain ⟨r6, p6, g6, c6, he5, hr6, R6, hb⟩ := h5; rw [HPA.out] at he5 hr6; obtain rfl : r = r6 := hr6.symm; subst he5; rw [← HRL.out] at R6 ⊢; have R7 := Lib.hid R6; replace R5 := Lib.hid (R5.out.below hb); replace BB := Lib.hid (BB.out.trans (hb.mono BB.out.size)); clear R6 hb hr6))
  go_upto_region 11 with (first
    | ((with_reducible refine wpList_at 48 rfl ?_); refine wpList_known4 rfl (.bool false) _ (by exact exec_neqE3 (z := 0) (q := false) rfl rfl rfl Y0.out) ?_; try simp only [Act.put, List.setIfInBounds_toArray, List.set_cons_zero, List.set_cons_succ])
    | ((with_reducible refine wpList_at 52 rfl ?_); refine wpList_known4 rfl (.bool false) _ (by exact exec_neqE3 (z := 0) (q := false) rfl rfl rfl Y0.out) ?_; try simp only [Act.put, List.setIfInBounds_toArray, List.set_cons_zero, List.set_cons_succ])
    | (go_at_call 13; refine (equal_any R5 R7 rfl (Lib.hid fun _ _ => rfl)).mono ?_; rintro e w6 ⟨rfl, rfl⟩))
  have PS := pEnd s
  cases hz : pA s with
  | none =>
    have HZ := Lib.hid hz
    have Y1 := Lib.hid (show decide ((140 : Int) ≠ 0) = true by decide)
    clear hz R5 R7 PS
    go_wp2_with (first
      | (go_at_call 11; ((with_reducible refine (aparse_any (Lib.hid (L.out.below BB.out)) (Lib.hid (PL.out.below BB.out)) (Lib.hid (CL.out.below BB.out)) s).mono ?_); intro e w7 h7); obtain ⟨r8, p8, g8, c8, he7, hr8, R8, hb⟩ := h7; rw [HZ.out] at he7; subst he7; replace BB := Lib.hid (BB.out.trans (hb.mono BB.out.size)); clear R8 hb hr8)
      | ((with_reducible refine wpList_at 66 rfl ?_); refine wpList_known4 rfl (.bool true) _ (by exact exec_neqE3 (z := 140) (q := true) rfl rfl rfl Y1.out) ?_; try simp only [Act.put, List.setIfInBounds_toArray, List.set_cons_zero, List.set_cons_succ])
      | (go_at_call 10; refine (awake14_any _).mono ?_; rintro e w9 ⟨rfl, hb⟩; replace BB := Lib.hid (BB.out.trans (hb.mono BB.out.size)); clear hb))
    go_ret
    exact ⟨rfl, BB.out⟩
  | some z =>
    obtain ⟨k, b, hck, hk1, hk5, hke, hks⟩ := pA_some hz
    have HZ := Lib.hid hz
    have HCK := Lib.hid hck
    have HKE := Lib.hid hke
    obtain ⟨zl, hzl⟩ : ∃ zl, zl = z.length := ⟨_, rfl⟩
    have HZL := Lib.hid hzl
    have zb : zl ≤ 140737488355328 := by rw [hzl]; exact PS z hz
    obtain ⟨T2, hT2⟩ : ∃ T2, T2 = (tK k b).1 := ⟨_, rfl⟩
    have HT2 := Lib.hid hT2.symm
    obtain ⟨sz, hsz⟩ : ∃ sz, sz = s.size := ⟨_, rfl⟩
    have HS2 := Lib.hid (show T2.size = sz by rw [hT2, hks, hsz])
    have HS := Lib.hid hsz.symm
    have Y2 := Lib.hid (show decide ((0 : Int) = 0) = true by decide)
    have Y3 := Lib.hid (show decide (sz = sz) = true by simp)
    clear hz hck hke hks hzl hT2 hsz R5 R7 hk1 hk5 PS
    go_wp2_with (first
      | (go_at_call 11; ((with_reducible refine (aparse_any (Lib.hid (L.out.below BB.out)) (Lib.hid (PL.out.below BB.out)) (Lib.hid (CL.out.below BB.out)) s).mono ?_); intro e w7 h7); obtain ⟨r8, p8, g8, c8, he7, hr8, R8, hb⟩ := h7; rw [HZ.out] at he7 hr8; obtain rfl : z = r8 := hr8.symm; subst he7; rw [← HZL.out] at R8 ⊢; have R9 := Lib.hid R8; replace BB := Lib.hid (BB.out.trans (hb.mono BB.out.size)); clear R8 hb hr8)
      | ((with_reducible refine wpList_at 66 rfl ?_); refine wpList_known4 rfl (.bool false) _ (by exact exec_neqE3 (z := 0) (q := false) rfl rfl rfl Y0.out) ?_; try simp only [Act.put, List.setIfInBounds_toArray, List.set_cons_zero, List.set_cons_succ])
      | (go_at_call 8; ((with_reducible refine (atext_known (Lib.hid (L.out.below BB.out)) (Lib.hid (PL.out.below BB.out)) (Lib.hid (CL.out.below BB.out)) R9 HZL zb HCK.out).mono ?_); intro e wa ha); obtain ⟨hea, hb⟩ := ha; rw [HT2.out, HKE.out] at hea; subst hea; replace BB := Lib.hid (BB.out.trans (hb.mono BB.out.size)); clear hb)
      | ((with_reducible refine wpList_at 74 rfl ?_); refine wpList_known4 rfl (.bool true) _ (by exact exec_eqE3 (z := 0) (z2 := 0) (q := true) rfl rfl rfl Y2.out) ?_; try simp only [Act.put, List.setIfInBounds_toArray, List.set_cons_zero, List.set_cons_succ])
      | ((with_reducible refine wpList_at 77 rfl ?_); refine wpList_known4 rfl (.int .i64 (sz : Int)) _ (by exact by rw [← HS2.out]; exact exec_lenS rfl rfl) ?_; try simp only [Act.put, List.setIfInBounds_toArray, List.set_cons_zero, List.set_cons_succ])
      | ((with_reducible refine wpList_at 79 rfl ?_); refine wpList_known4 rfl (.int .i64 (sz : Int)) _ (by exact by rw [← HS.out]; exact exec_lenS rfl rfl) ?_; try simp only [Act.put, List.setIfInBounds_toArray, List.set_cons_zero, List.set_cons_succ])
      | ((with_reducible refine wpList_at 80 rfl ?_); refine wpList_known4 rfl (.bool true) _ (by exact exec_eql3v (a := sz) (b := sz) (q := true) rfl rfl rfl Y3.out) ?_; try simp only [Act.put, List.setIfInBounds_toArray, List.set_cons_zero, List.set_cons_succ]))
    go_ret
    exact ⟨rfl, BB.out⟩
set_option maxHeartbeats 16000000 in
theorem one1 (W : World) (L : Hid (S.Both W)) (PL : Hid (PLaid W)) (CL : Hid (S.CLaid W)) (a0 u rv : Int) (x1 : IntKind.u64.wrap a0 = u) (x3 : u.tmod 5 = rv) (x4 : IntKind.i64.wrap rv = 1) (a1 : Option Addr) (g1 o1 n1 c1 : Nat) (x1' : Nat → Nat) (R : Hid (Row W a1 g1 o1 n1 c1 x1')) (hn : n1 ≤ 140737488351232) (s : ByteArray) :
    Calls Tryd.prog 5 #[.int .i64 a0, .slice a1 n1 c1, .string s] W fun e w' => e = .returned (.bool true) ∧ Below W.heap.size W w' := by
  obtain ⟨m, hm⟩ : ∃ m, m = n1 + 32 := ⟨_, rfl⟩
  obtain ⟨y, hy⟩ : ∃ y, y = cat x1' n1 (fun _ => 0) := ⟨_, rfl⟩
  have hbl : (tl y 20).length = cC 1 := tl_length _ _
  obtain ⟨h1, h2, h3⟩ := mk_sizes (j := 1) (by omega) hbl
  obtain ⟨r, hr⟩ : ∃ r, r = hL 1 ++ tl y 20 ++ tL 1 := ⟨_, rfl⟩
  rw [← hr] at h1 h2 h3
  obtain ⟨rl, hrl⟩ : ∃ rl, rl = r.length := ⟨_, rfl⟩
  have HRL := Lib.hid hrl
  have yb : ∀ i, y i < 256 := fun i => by rw [hy]; exact cat_byte n1 R.out.byte (fun _ => by omega) i
  obtain ⟨hp, he⟩ := pA_tK h2 (by omega) (by omega) (isB_tl yb 20)
  obtain ⟨T, hT⟩ : ∃ T, T = (tK (1 + 1) (tl y 20)).1 := ⟨_, rfl⟩
  rw [← hT] at hp
  have HT := Lib.hid hT.symm
  have HE := Lib.hid he
  have HPA := Lib.hid hp
  have HCL := Lib.hid h2
  have HMK := Lib.hid (show mkOf 2 (tl y 20) = some r from h1)
  have HM := Lib.hid hm.symm
  have HY := Lib.hid hy.symm
  have rb : rl ≤ 60 := by omega
  have mb : 32 ≤ m := by omega
  have Y0 := Lib.hid (show decide ((0 : Int) ≠ 0) = false by decide)
  clear hm hy hbl h1 h2 h3 hr hrl yb hp he hT
  go_enter Tryd.func5, Tryd.ntmps5
  go_upto_region 6 with (first
    | (go_at_call 14; refine (clone_any R (by omega)).mono ?_; rintro e w1 ⟨p1, g1, c1, rfl, N1, hb⟩; have N := Lib.hid N1; have BB := Lib.hid hb; clear N1 hb)
    | ((with_reducible refine wpList_at 23 rfl ?_); refine wpList_noughts rfl (.tmp 22) _ rfl rfl N rfl (m := 32) rfl (by omega) (by omega) ?_; clear N; intro p2 g2 c2 w2 N hb; rw [HY.out, HM.out] at N; rw [HM.out]; replace BB := Lib.hid (BB.out.trans hb.out); clear hb; try simp only [Act.put, List.setIfInBounds_toArray, List.set_cons_zero, List.set_cons_succ]))
  have hmc : m ≤ c2 := N.out.row.le
  obtain ⟨p3, e3, R3x⟩ := N.out.row.slice (l := 0) (h := 20) (m := c2) (by omega) (by omega) (by omega) (Nat.le_refl _)
  simp only [Nat.sub_zero, Nat.zero_add] at e3 R3x
  have SL := Lib.hid (fun W : World => (run_sl (w := W) (bounds_h (n := m) (h := 20) (c := c2) (by omega))).trans (by rw [e3]))
  have R3 := Lib.hid R3x
  clear e3 R3x N x1 x3 x4
  go_upto_region 9 with (first
    | ((with_reducible refine wpList_at 30 rfl ?_); refine wpList_known4 rfl (.slice p3 20 c2) _ (by exact exec_slH rfl rfl rfl (SL.out _)) ?_; try simp only [Act.put, List.setIfInBounds_toArray, List.set_cons_zero, List.set_cons_succ])
    | (go_at_call 15; refine (make_known (PL.out.below BB.out) R3 (by omega) HMK.out).mono ?_; rintro e w3 ⟨p4, g4, c4, rfl, R4, hb⟩; rw [← HRL.out] at R4 ⊢; have R5 := Lib.hid R4; replace BB := Lib.hid (BB.out.trans (hb.mono BB.out.size)); clear R4 hb)
    | (go_at_call 8; ((with_reducible refine (atext_known (Lib.hid (L.out.below BB.out)) (Lib.hid (PL.out.below BB.out)) (Lib.hid (CL.out.below BB.out)) R5 HRL (by omega) HCL.out).mono ?_); intro e w4 h4); obtain ⟨he4, hb⟩ := h4; rw [HT.out, HE.out] at he4; subst he4; replace R5 := Lib.hid (R5.out.below hb); replace BB := Lib.hid (BB.out.trans (hb.mono BB.out.size)); clear hb)
    | (go_at_call 11; ((with_reducible refine (aparse_any (Lib.hid (L.out.below BB.out)) (Lib.hid (PL.out.below BB.out)) (Lib.hid (CL.out.below BB.out)) T).mono ?_); intro e w5 h5); obtain ⟨r6, p6, g6, c6, he5, hr6, R6, hb⟩ := h5; rw [HPA.out] at he5 hr6; obtain rfl : r = r6 := hr6.symm; subst he5; rw [← HRL.out] at R6 ⊢; have R7 := Lib.hid R6; replace R5 := Lib.hid (R5.out.below hb); replace BB := Lib.hid (BB.out.trans (hb.mono BB.out.size)); clear R6 hb hr6))
  go_upto_region 11 with (first
    | ((with_reducible refine wpList_at 48 rfl ?_); refine wpList_known4 rfl (.bool false) _ (by exact exec_neqE3 (z := 0) (q := false) rfl rfl rfl Y0.out) ?_; try simp only [Act.put, List.setIfInBounds_toArray, List.set_cons_zero, List.set_cons_succ])
    | ((with_reducible refine wpList_at 52 rfl ?_); refine wpList_known4 rfl (.bool false) _ (by exact exec_neqE3 (z := 0) (q := false) rfl rfl rfl Y0.out) ?_; try simp only [Act.put, List.setIfInBounds_toArray, List.set_cons_zero, List.set_cons_succ])
    | (go_at_call 13; refine (equal_any R5 R7 rfl (Lib.hid fun _ _ => rfl)).mono ?_; rintro e w6 ⟨rfl, rfl⟩))
  have PS := pEnd s
  cases hz : pA s with
  | none =>
    have HZ := Lib.hid hz
    have Y1 := Lib.hid (show decide ((140 : Int) ≠ 0) = true by decide)
    clear hz R5 R7 PS
    go_wp2_with (first
      | (go_at_call 11; ((with_reducible refine (aparse_any (Lib.hid (L.out.below BB.out)) (Lib.hid (PL.out.below BB.out)) (Lib.hid (CL.out.below BB.out)) s).mono ?_); intro e w7 h7); obtain ⟨r8, p8, g8, c8, he7, hr8, R8, hb⟩ := h7; rw [HZ.out] at he7; subst he7; replace BB := Lib.hid (BB.out.trans (hb.mono BB.out.size)); clear R8 hb hr8)
      | ((with_reducible refine wpList_at 66 rfl ?_); refine wpList_known4 rfl (.bool true) _ (by exact exec_neqE3 (z := 140) (q := true) rfl rfl rfl Y1.out) ?_; try simp only [Act.put, List.setIfInBounds_toArray, List.set_cons_zero, List.set_cons_succ])
      | (go_at_call 10; refine (awake14_any _).mono ?_; rintro e w9 ⟨rfl, hb⟩; replace BB := Lib.hid (BB.out.trans (hb.mono BB.out.size)); clear hb))
    go_ret
    exact ⟨rfl, BB.out⟩
  | some z =>
    obtain ⟨k, b, hck, hk1, hk5, hke, hks⟩ := pA_some hz
    have HZ := Lib.hid hz
    have HCK := Lib.hid hck
    have HKE := Lib.hid hke
    obtain ⟨zl, hzl⟩ : ∃ zl, zl = z.length := ⟨_, rfl⟩
    have HZL := Lib.hid hzl
    have zb : zl ≤ 140737488355328 := by rw [hzl]; exact PS z hz
    obtain ⟨T2, hT2⟩ : ∃ T2, T2 = (tK k b).1 := ⟨_, rfl⟩
    have HT2 := Lib.hid hT2.symm
    obtain ⟨sz, hsz⟩ : ∃ sz, sz = s.size := ⟨_, rfl⟩
    have HS2 := Lib.hid (show T2.size = sz by rw [hT2, hks, hsz])
    have HS := Lib.hid hsz.symm
    have Y2 := Lib.hid (show decide ((0 : Int) = 0) = true by decide)
    have Y3 := Lib.hid (show decide (sz = sz) = true by simp)
    clear hz hck hke hks hzl hT2 hsz R5 R7 hk1 hk5 PS
    go_wp2_with (first
      | (go_at_call 11; ((with_reducible refine (aparse_any (Lib.hid (L.out.below BB.out)) (Lib.hid (PL.out.below BB.out)) (Lib.hid (CL.out.below BB.out)) s).mono ?_); intro e w7 h7); obtain ⟨r8, p8, g8, c8, he7, hr8, R8, hb⟩ := h7; rw [HZ.out] at he7 hr8; obtain rfl : z = r8 := hr8.symm; subst he7; rw [← HZL.out] at R8 ⊢; have R9 := Lib.hid R8; replace BB := Lib.hid (BB.out.trans (hb.mono BB.out.size)); clear R8 hb hr8)
      | ((with_reducible refine wpList_at 66 rfl ?_); refine wpList_known4 rfl (.bool false) _ (by exact exec_neqE3 (z := 0) (q := false) rfl rfl rfl Y0.out) ?_; try simp only [Act.put, List.setIfInBounds_toArray, List.set_cons_zero, List.set_cons_succ])
      | (go_at_call 8; ((with_reducible refine (atext_known (Lib.hid (L.out.below BB.out)) (Lib.hid (PL.out.below BB.out)) (Lib.hid (CL.out.below BB.out)) R9 HZL zb HCK.out).mono ?_); intro e wa ha); obtain ⟨hea, hb⟩ := ha; rw [HT2.out, HKE.out] at hea; subst hea; replace BB := Lib.hid (BB.out.trans (hb.mono BB.out.size)); clear hb)
      | ((with_reducible refine wpList_at 74 rfl ?_); refine wpList_known4 rfl (.bool true) _ (by exact exec_eqE3 (z := 0) (z2 := 0) (q := true) rfl rfl rfl Y2.out) ?_; try simp only [Act.put, List.setIfInBounds_toArray, List.set_cons_zero, List.set_cons_succ])
      | ((with_reducible refine wpList_at 77 rfl ?_); refine wpList_known4 rfl (.int .i64 (sz : Int)) _ (by exact by rw [← HS2.out]; exact exec_lenS rfl rfl) ?_; try simp only [Act.put, List.setIfInBounds_toArray, List.set_cons_zero, List.set_cons_succ])
      | ((with_reducible refine wpList_at 79 rfl ?_); refine wpList_known4 rfl (.int .i64 (sz : Int)) _ (by exact by rw [← HS.out]; exact exec_lenS rfl rfl) ?_; try simp only [Act.put, List.setIfInBounds_toArray, List.set_cons_zero, List.set_cons_succ])
      | ((with_reducible refine wpList_at 80 rfl ?_); refine wpList_known4 rfl (.bool true) _ (by exact exec_eql3v (a := sz) (b := sz) (q := true) rfl rfl rfl Y3.out) ?_; try simp only [Act.put, List.setIfInBounds_toArray, List.set_cons_zero, List.set_cons_succ]))
    go_ret
    exact ⟨rfl, BB.out⟩
set_option maxHeartbeats 16000000 in
theorem one2 (W : World) (L : Hid (S.Both W)) (PL : Hid (PLaid W)) (CL : Hid (S.CLaid W)) (a0 u rv : Int) (x1 : IntKind.u64.wrap a0 = u) (x3 : u.tmod 5 = rv) (x4 : IntKind.i64.wrap rv = 2) (a1 : Option Addr) (g1 o1 n1 c1 : Nat) (x1' : Nat → Nat) (R : Hid (Row W a1 g1 o1 n1 c1 x1')) (hn : n1 ≤ 140737488351232) (s : ByteArray) :
    Calls Tryd.prog 5 #[.int .i64 a0, .slice a1 n1 c1, .string s] W fun e w' => e = .returned (.bool true) ∧ Below W.heap.size W w' := by
  obtain ⟨m, hm⟩ : ∃ m, m = n1 + 32 := ⟨_, rfl⟩
  obtain ⟨y, hy⟩ : ∃ y, y = cat x1' n1 (fun _ => 0) := ⟨_, rfl⟩
  have hbl : (tl y 20).length = cC 2 := tl_length _ _
  obtain ⟨h1, h2, h3⟩ := mk_sizes (j := 2) (by omega) hbl
  obtain ⟨r, hr⟩ : ∃ r, r = hL 2 ++ tl y 20 ++ tL 2 := ⟨_, rfl⟩
  rw [← hr] at h1 h2 h3
  obtain ⟨rl, hrl⟩ : ∃ rl, rl = r.length := ⟨_, rfl⟩
  have HRL := Lib.hid hrl
  have yb : ∀ i, y i < 256 := fun i => by rw [hy]; exact cat_byte n1 R.out.byte (fun _ => by omega) i
  obtain ⟨hp, he⟩ := pA_tK h2 (by omega) (by omega) (isB_tl yb 20)
  obtain ⟨T, hT⟩ : ∃ T, T = (tK (2 + 1) (tl y 20)).1 := ⟨_, rfl⟩
  rw [← hT] at hp
  have HT := Lib.hid hT.symm
  have HE := Lib.hid he
  have HPA := Lib.hid hp
  have HCL := Lib.hid h2
  have HMK := Lib.hid (show mkOf 3 (tl y 20) = some r from h1)
  have HM := Lib.hid hm.symm
  have HY := Lib.hid hy.symm
  have rb : rl ≤ 60 := by omega
  have mb : 32 ≤ m := by omega
  have Y0 := Lib.hid (show decide ((0 : Int) ≠ 0) = false by decide)
  clear hm hy hbl h1 h2 h3 hr hrl yb hp he hT
  go_enter Tryd.func5, Tryd.ntmps5
  go_upto_region 6 with (first
    | (go_at_call 14; refine (clone_any R (by omega)).mono ?_; rintro e w1 ⟨p1, g1, c1, rfl, N1, hb⟩; have N := Lib.hid N1; have BB := Lib.hid hb; clear N1 hb)
    | ((with_reducible refine wpList_at 23 rfl ?_); refine wpList_noughts rfl (.tmp 22) _ rfl rfl N rfl (m := 32) rfl (by omega) (by omega) ?_; clear N; intro p2 g2 c2 w2 N hb; rw [HY.out, HM.out] at N; rw [HM.out]; replace BB := Lib.hid (BB.out.trans hb.out); clear hb; try simp only [Act.put, List.setIfInBounds_toArray, List.set_cons_zero, List.set_cons_succ]))
  have hmc : m ≤ c2 := N.out.row.le
  obtain ⟨p3, e3, R3x⟩ := N.out.row.slice (l := 0) (h := 20) (m := c2) (by omega) (by omega) (by omega) (Nat.le_refl _)
  simp only [Nat.sub_zero, Nat.zero_add] at e3 R3x
  have SL := Lib.hid (fun W : World => (run_sl (w := W) (bounds_h (n := m) (h := 20) (c := c2) (by omega))).trans (by rw [e3]))
  have R3 := Lib.hid R3x
  clear e3 R3x N x1 x3 x4
  go_upto_region 9 with (first
    | ((with_reducible refine wpList_at 30 rfl ?_); refine wpList_known4 rfl (.slice p3 20 c2) _ (by exact exec_slH rfl rfl rfl (SL.out _)) ?_; try simp only [Act.put, List.setIfInBounds_toArray, List.set_cons_zero, List.set_cons_succ])
    | (go_at_call 15; refine (make_known (PL.out.below BB.out) R3 (by omega) HMK.out).mono ?_; rintro e w3 ⟨p4, g4, c4, rfl, R4, hb⟩; rw [← HRL.out] at R4 ⊢; have R5 := Lib.hid R4; replace BB := Lib.hid (BB.out.trans (hb.mono BB.out.size)); clear R4 hb)
    | (go_at_call 8; ((with_reducible refine (atext_known (Lib.hid (L.out.below BB.out)) (Lib.hid (PL.out.below BB.out)) (Lib.hid (CL.out.below BB.out)) R5 HRL (by omega) HCL.out).mono ?_); intro e w4 h4); obtain ⟨he4, hb⟩ := h4; rw [HT.out, HE.out] at he4; subst he4; replace R5 := Lib.hid (R5.out.below hb); replace BB := Lib.hid (BB.out.trans (hb.mono BB.out.size)); clear hb)
    | (go_at_call 11; ((with_reducible refine (aparse_any (Lib.hid (L.out.below BB.out)) (Lib.hid (PL.out.below BB.out)) (Lib.hid (CL.out.below BB.out)) T).mono ?_); intro e w5 h5); obtain ⟨r6, p6, g6, c6, he5, hr6, R6, hb⟩ := h5; rw [HPA.out] at he5 hr6; obtain rfl : r = r6 := hr6.symm; subst he5; rw [← HRL.out] at R6 ⊢; have R7 := Lib.hid R6; replace R5 := Lib.hid (R5.out.below hb); replace BB := Lib.hid (BB.out.trans (hb.mono BB.out.size)); clear R6 hb hr6))
  go_upto_region 11 with (first
    | ((with_reducible refine wpList_at 48 rfl ?_); refine wpList_known4 rfl (.bool false) _ (by exact exec_neqE3 (z := 0) (q := false) rfl rfl rfl Y0.out) ?_; try simp only [Act.put, List.setIfInBounds_toArray, List.set_cons_zero, List.set_cons_succ])
    | ((with_reducible refine wpList_at 52 rfl ?_); refine wpList_known4 rfl (.bool false) _ (by exact exec_neqE3 (z := 0) (q := false) rfl rfl rfl Y0.out) ?_; try simp only [Act.put, List.setIfInBounds_toArray, List.set_cons_zero, List.set_cons_succ])
    | (go_at_call 13; refine (equal_any R5 R7 rfl (Lib.hid fun _ _ => rfl)).mono ?_; rintro e w6 ⟨rfl, rfl⟩))
  have PS := pEnd s
  cases hz : pA s with
  | none =>
    have HZ := Lib.hid hz
    have Y1 := Lib.hid (show decide ((140 : Int) ≠ 0) = true by decide)
    clear hz R5 R7 PS
    go_wp2_with (first
      | (go_at_call 11; ((with_reducible refine (aparse_any (Lib.hid (L.out.below BB.out)) (Lib.hid (PL.out.below BB.out)) (Lib.hid (CL.out.below BB.out)) s).mono ?_); intro e w7 h7); obtain ⟨r8, p8, g8, c8, he7, hr8, R8, hb⟩ := h7; rw [HZ.out] at he7; subst he7; replace BB := Lib.hid (BB.out.trans (hb.mono BB.out.size)); clear R8 hb hr8)
      | ((with_reducible refine wpList_at 66 rfl ?_); refine wpList_known4 rfl (.bool true) _ (by exact exec_neqE3 (z := 140) (q := true) rfl rfl rfl Y1.out) ?_; try simp only [Act.put, List.setIfInBounds_toArray, List.set_cons_zero, List.set_cons_succ])
      | (go_at_call 10; refine (awake14_any _).mono ?_; rintro e w9 ⟨rfl, hb⟩; replace BB := Lib.hid (BB.out.trans (hb.mono BB.out.size)); clear hb))
    go_ret
    exact ⟨rfl, BB.out⟩
  | some z =>
    obtain ⟨k, b, hck, hk1, hk5, hke, hks⟩ := pA_some hz
    have HZ := Lib.hid hz
    have HCK := Lib.hid hck
    have HKE := Lib.hid hke
    obtain ⟨zl, hzl⟩ : ∃ zl, zl = z.length := ⟨_, rfl⟩
    have HZL := Lib.hid hzl
    have zb : zl ≤ 140737488355328 := by rw [hzl]; exact PS z hz
    obtain ⟨T2, hT2⟩ : ∃ T2, T2 = (tK k b).1 := ⟨_, rfl⟩
    have HT2 := Lib.hid hT2.symm
    obtain ⟨sz, hsz⟩ : ∃ sz, sz = s.size := ⟨_, rfl⟩
    have HS2 := Lib.hid (show T2.size = sz by rw [hT2, hks, hsz])
    have HS := Lib.hid hsz.symm
    have Y2 := Lib.hid (show decide ((0 : Int) = 0) = true by decide)
    have Y3 := Lib.hid (show decide (sz = sz) = true by simp)
    clear hz hck hke hks hzl hT2 hsz R5 R7 hk1 hk5 PS
    go_wp2_with (first
      | (go_at_call 11; ((with_reducible refine (aparse_any (Lib.hid (L.out.below BB.out)) (Lib.hid (PL.out.below BB.out)) (Lib.hid (CL.out.below BB.out)) s).mono ?_); intro e w7 h7); obtain ⟨r8, p8, g8, c8, he7, hr8, R8, hb⟩ := h7; rw [HZ.out] at he7 hr8; obtain rfl : z = r8 := hr8.symm; subst he7; rw [← HZL.out] at R8 ⊢; have R9 := Lib.hid R8; replace BB := Lib.hid (BB.out.trans (hb.mono BB.out.size)); clear R8 hb hr8)
      | ((with_reducible refine wpList_at 66 rfl ?_); refine wpList_known4 rfl (.bool false) _ (by exact exec_neqE3 (z := 0) (q := false) rfl rfl rfl Y0.out) ?_; try simp only [Act.put, List.setIfInBounds_toArray, List.set_cons_zero, List.set_cons_succ])
      | (go_at_call 8; ((with_reducible refine (atext_known (Lib.hid (L.out.below BB.out)) (Lib.hid (PL.out.below BB.out)) (Lib.hid (CL.out.below BB.out)) R9 HZL zb HCK.out).mono ?_); intro e wa ha); obtain ⟨hea, hb⟩ := ha; rw [HT2.out, HKE.out] at hea; subst hea; replace BB := Lib.hid (BB.out.trans (hb.mono BB.out.size)); clear hb)
      | ((with_reducible refine wpList_at 74 rfl ?_); refine wpList_known4 rfl (.bool true) _ (by exact exec_eqE3 (z := 0) (z2 := 0) (q := true) rfl rfl rfl Y2.out) ?_; try simp only [Act.put, List.setIfInBounds_toArray, List.set_cons_zero, List.set_cons_succ])
      | ((with_reducible refine wpList_at 77 rfl ?_); refine wpList_known4 rfl (.int .i64 (sz : Int)) _ (by exact by rw [← HS2.out]; exact exec_lenS rfl rfl) ?_; try simp only [Act.put, List.setIfInBounds_toArray, List.set_cons_zero, List.set_cons_succ])
      | ((with_reducible refine wpList_at 79 rfl ?_); refine wpList_known4 rfl (.int .i64 (sz : Int)) _ (by exact by rw [← HS.out]; exact exec_lenS rfl rfl) ?_; try simp only [Act.put, List.setIfInBounds_toArray, List.set_cons_zero, List.set_cons_succ])
      | ((with_reducible refine wpList_at 80 rfl ?_); refine wpList_known4 rfl (.bool true) _ (by exact exec_eql3v (a := sz) (b := sz) (q := true) rfl rfl rfl Y3.out) ?_; try simp only [Act.put, List.setIfInBounds_toArray, List.set_cons_zero, List.set_cons_succ]))
    go_ret
    exact ⟨rfl, BB.out⟩
set_option maxHeartbeats 16000000 in
theorem one3 (W : World) (L : Hid (S.Both W)) (PL : Hid (PLaid W)) (CL : Hid (S.CLaid W)) (a0 u rv : Int) (x1 : IntKind.u64.wrap a0 = u) (x3 : u.tmod 5 = rv) (x4 : IntKind.i64.wrap rv = 3) (a1 : Option Addr) (g1 o1 n1 c1 : Nat) (x1' : Nat → Nat) (R : Hid (Row W a1 g1 o1 n1 c1 x1')) (hn : n1 ≤ 140737488351232) (s : ByteArray) :
    Calls Tryd.prog 5 #[.int .i64 a0, .slice a1 n1 c1, .string s] W fun e w' => e = .returned (.bool true) ∧ Below W.heap.size W w' := by
  obtain ⟨m, hm⟩ : ∃ m, m = n1 + 32 := ⟨_, rfl⟩
  obtain ⟨y, hy⟩ : ∃ y, y = cat x1' n1 (fun _ => 0) := ⟨_, rfl⟩
  have hbl : (tl y 32).length = cC 3 := tl_length _ _
  obtain ⟨h1, h2, h3⟩ := mk_sizes (j := 3) (by omega) hbl
  obtain ⟨r, hr⟩ : ∃ r, r = hL 3 ++ tl y 32 ++ tL 3 := ⟨_, rfl⟩
  rw [← hr] at h1 h2 h3
  obtain ⟨rl, hrl⟩ : ∃ rl, rl = r.length := ⟨_, rfl⟩
  have HRL := Lib.hid hrl
  have yb : ∀ i, y i < 256 := fun i => by rw [hy]; exact cat_byte n1 R.out.byte (fun _ => by omega) i
  obtain ⟨hp, he⟩ := pA_tK h2 (by omega) (by omega) (isB_tl yb 32)
  obtain ⟨T, hT⟩ : ∃ T, T = (tK (3 + 1) (tl y 32)).1 := ⟨_, rfl⟩
  rw [← hT] at hp
  have HT := Lib.hid hT.symm
  have HE := Lib.hid he
  have HPA := Lib.hid hp
  have HCL := Lib.hid h2
  have HMK := Lib.hid (show mkOf 4 (tl y 32) = some r from h1)
  have HM := Lib.hid hm.symm
  have HY := Lib.hid hy.symm
  have rb : rl ≤ 60 := by omega
  have mb : 32 ≤ m := by omega
  have Y0 := Lib.hid (show decide ((0 : Int) ≠ 0) = false by decide)
  clear hm hy hbl h1 h2 h3 hr hrl yb hp he hT
  go_enter Tryd.func5, Tryd.ntmps5
  go_upto_region 6 with (first
    | (go_at_call 14; refine (clone_any R (by omega)).mono ?_; rintro e w1 ⟨p1, g1, c1, rfl, N1, hb⟩; have N := Lib.hid N1; have BB := Lib.hid hb; clear N1 hb)
    | ((with_reducible refine wpList_at 23 rfl ?_); refine wpList_noughts rfl (.tmp 22) _ rfl rfl N rfl (m := 32) rfl (by omega) (by omega) ?_; clear N; intro p2 g2 c2 w2 N hb; rw [HY.out, HM.out] at N; rw [HM.out]; replace BB := Lib.hid (BB.out.trans hb.out); clear hb; try simp only [Act.put, List.setIfInBounds_toArray, List.set_cons_zero, List.set_cons_succ]))
  have hmc : m ≤ c2 := N.out.row.le
  obtain ⟨p3, e3, R3x⟩ := N.out.row.slice (l := 0) (h := 32) (m := c2) (by omega) (by omega) (by omega) (Nat.le_refl _)
  simp only [Nat.sub_zero, Nat.zero_add] at e3 R3x
  have SL := Lib.hid (fun W : World => (run_sl (w := W) (bounds_h (n := m) (h := 32) (c := c2) (by omega))).trans (by rw [e3]))
  have R3 := Lib.hid R3x
  clear e3 R3x N x1 x3 x4
  go_upto_region 9 with (first
    | ((with_reducible refine wpList_at 30 rfl ?_); refine wpList_known4 rfl (.slice p3 32 c2) _ (by exact exec_slH rfl rfl rfl (SL.out _)) ?_; try simp only [Act.put, List.setIfInBounds_toArray, List.set_cons_zero, List.set_cons_succ])
    | (go_at_call 15; refine (make_known (PL.out.below BB.out) R3 (by omega) HMK.out).mono ?_; rintro e w3 ⟨p4, g4, c4, rfl, R4, hb⟩; rw [← HRL.out] at R4 ⊢; have R5 := Lib.hid R4; replace BB := Lib.hid (BB.out.trans (hb.mono BB.out.size)); clear R4 hb)
    | (go_at_call 8; ((with_reducible refine (atext_known (Lib.hid (L.out.below BB.out)) (Lib.hid (PL.out.below BB.out)) (Lib.hid (CL.out.below BB.out)) R5 HRL (by omega) HCL.out).mono ?_); intro e w4 h4); obtain ⟨he4, hb⟩ := h4; rw [HT.out, HE.out] at he4; subst he4; replace R5 := Lib.hid (R5.out.below hb); replace BB := Lib.hid (BB.out.trans (hb.mono BB.out.size)); clear hb)
    | (go_at_call 11; ((with_reducible refine (aparse_any (Lib.hid (L.out.below BB.out)) (Lib.hid (PL.out.below BB.out)) (Lib.hid (CL.out.below BB.out)) T).mono ?_); intro e w5 h5); obtain ⟨r6, p6, g6, c6, he5, hr6, R6, hb⟩ := h5; rw [HPA.out] at he5 hr6; obtain rfl : r = r6 := hr6.symm; subst he5; rw [← HRL.out] at R6 ⊢; have R7 := Lib.hid R6; replace R5 := Lib.hid (R5.out.below hb); replace BB := Lib.hid (BB.out.trans (hb.mono BB.out.size)); clear R6 hb hr6))
  go_upto_region 11 with (first
    | ((with_reducible refine wpList_at 48 rfl ?_); refine wpList_known4 rfl (.bool false) _ (by exact exec_neqE3 (z := 0) (q := false) rfl rfl rfl Y0.out) ?_; try simp only [Act.put, List.setIfInBounds_toArray, List.set_cons_zero, List.set_cons_succ])
    | ((with_reducible refine wpList_at 52 rfl ?_); refine wpList_known4 rfl (.bool false) _ (by exact exec_neqE3 (z := 0) (q := false) rfl rfl rfl Y0.out) ?_; try simp only [Act.put, List.setIfInBounds_toArray, List.set_cons_zero, List.set_cons_succ])
    | (go_at_call 13; refine (equal_any R5 R7 rfl (Lib.hid fun _ _ => rfl)).mono ?_; rintro e w6 ⟨rfl, rfl⟩))
  have PS := pEnd s
  cases hz : pA s with
  | none =>
    have HZ := Lib.hid hz
    have Y1 := Lib.hid (show decide ((140 : Int) ≠ 0) = true by decide)
    clear hz R5 R7 PS
    go_wp2_with (first
      | (go_at_call 11; ((with_reducible refine (aparse_any (Lib.hid (L.out.below BB.out)) (Lib.hid (PL.out.below BB.out)) (Lib.hid (CL.out.below BB.out)) s).mono ?_); intro e w7 h7); obtain ⟨r8, p8, g8, c8, he7, hr8, R8, hb⟩ := h7; rw [HZ.out] at he7; subst he7; replace BB := Lib.hid (BB.out.trans (hb.mono BB.out.size)); clear R8 hb hr8)
      | ((with_reducible refine wpList_at 66 rfl ?_); refine wpList_known4 rfl (.bool true) _ (by exact exec_neqE3 (z := 140) (q := true) rfl rfl rfl Y1.out) ?_; try simp only [Act.put, List.setIfInBounds_toArray, List.set_cons_zero, List.set_cons_succ])
      | (go_at_call 10; refine (awake14_any _).mono ?_; rintro e w9 ⟨rfl, hb⟩; replace BB := Lib.hid (BB.out.trans (hb.mono BB.out.size)); clear hb))
    go_ret
    exact ⟨rfl, BB.out⟩
  | some z =>
    obtain ⟨k, b, hck, hk1, hk5, hke, hks⟩ := pA_some hz
    have HZ := Lib.hid hz
    have HCK := Lib.hid hck
    have HKE := Lib.hid hke
    obtain ⟨zl, hzl⟩ : ∃ zl, zl = z.length := ⟨_, rfl⟩
    have HZL := Lib.hid hzl
    have zb : zl ≤ 140737488355328 := by rw [hzl]; exact PS z hz
    obtain ⟨T2, hT2⟩ : ∃ T2, T2 = (tK k b).1 := ⟨_, rfl⟩
    have HT2 := Lib.hid hT2.symm
    obtain ⟨sz, hsz⟩ : ∃ sz, sz = s.size := ⟨_, rfl⟩
    have HS2 := Lib.hid (show T2.size = sz by rw [hT2, hks, hsz])
    have HS := Lib.hid hsz.symm
    have Y2 := Lib.hid (show decide ((0 : Int) = 0) = true by decide)
    have Y3 := Lib.hid (show decide (sz = sz) = true by simp)
    clear hz hck hke hks hzl hT2 hsz R5 R7 hk1 hk5 PS
    go_wp2_with (first
      | (go_at_call 11; ((with_reducible refine (aparse_any (Lib.hid (L.out.below BB.out)) (Lib.hid (PL.out.below BB.out)) (Lib.hid (CL.out.below BB.out)) s).mono ?_); intro e w7 h7); obtain ⟨r8, p8, g8, c8, he7, hr8, R8, hb⟩ := h7; rw [HZ.out] at he7 hr8; obtain rfl : z = r8 := hr8.symm; subst he7; rw [← HZL.out] at R8 ⊢; have R9 := Lib.hid R8; replace BB := Lib.hid (BB.out.trans (hb.mono BB.out.size)); clear R8 hb hr8)
      | ((with_reducible refine wpList_at 66 rfl ?_); refine wpList_known4 rfl (.bool false) _ (by exact exec_neqE3 (z := 0) (q := false) rfl rfl rfl Y0.out) ?_; try simp only [Act.put, List.setIfInBounds_toArray, List.set_cons_zero, List.set_cons_succ])
      | (go_at_call 8; ((with_reducible refine (atext_known (Lib.hid (L.out.below BB.out)) (Lib.hid (PL.out.below BB.out)) (Lib.hid (CL.out.below BB.out)) R9 HZL zb HCK.out).mono ?_); intro e wa ha); obtain ⟨hea, hb⟩ := ha; rw [HT2.out, HKE.out] at hea; subst hea; replace BB := Lib.hid (BB.out.trans (hb.mono BB.out.size)); clear hb)
      | ((with_reducible refine wpList_at 74 rfl ?_); refine wpList_known4 rfl (.bool true) _ (by exact exec_eqE3 (z := 0) (z2 := 0) (q := true) rfl rfl rfl Y2.out) ?_; try simp only [Act.put, List.setIfInBounds_toArray, List.set_cons_zero, List.set_cons_succ])
      | ((with_reducible refine wpList_at 77 rfl ?_); refine wpList_known4 rfl (.int .i64 (sz : Int)) _ (by exact by rw [← HS2.out]; exact exec_lenS rfl rfl) ?_; try simp only [Act.put, List.setIfInBounds_toArray, List.set_cons_zero, List.set_cons_succ])
      | ((with_reducible refine wpList_at 79 rfl ?_); refine wpList_known4 rfl (.int .i64 (sz : Int)) _ (by exact by rw [← HS.out]; exact exec_lenS rfl rfl) ?_; try simp only [Act.put, List.setIfInBounds_toArray, List.set_cons_zero, List.set_cons_succ])
      | ((with_reducible refine wpList_at 80 rfl ?_); refine wpList_known4 rfl (.bool true) _ (by exact exec_eql3v (a := sz) (b := sz) (q := true) rfl rfl rfl Y3.out) ?_; try simp only [Act.put, List.setIfInBounds_toArray, List.set_cons_zero, List.set_cons_succ]))
    go_ret
    exact ⟨rfl, BB.out⟩
set_option maxHeartbeats 16000000 in
theorem one4 (W : World) (L : Hid (S.Both W)) (PL : Hid (PLaid W)) (CL : Hid (S.CLaid W)) (a0 u rv : Int) (x1 : IntKind.u64.wrap a0 = u) (x3 : u.tmod 5 = rv) (x4 : IntKind.i64.wrap rv = 4) (a1 : Option Addr) (g1 o1 n1 c1 : Nat) (x1' : Nat → Nat) (R : Hid (Row W a1 g1 o1 n1 c1 x1')) (hn : n1 ≤ 140737488351232) (s : ByteArray) :
    Calls Tryd.prog 5 #[.int .i64 a0, .slice a1 n1 c1, .string s] W fun e w' => e = .returned (.bool true) ∧ Below W.heap.size W w' := by
  obtain ⟨m, hm⟩ : ∃ m, m = n1 + 32 := ⟨_, rfl⟩
  obtain ⟨y, hy⟩ : ∃ y, y = cat x1' n1 (fun _ => 0) := ⟨_, rfl⟩
  have hbl : (tl y 32).length = cC 4 := tl_length _ _
  obtain ⟨h1, h2, h3⟩ := mk_sizes (j := 4) (by omega) hbl
  obtain ⟨r, hr⟩ : ∃ r, r = hL 4 ++ tl y 32 ++ tL 4 := ⟨_, rfl⟩
  rw [← hr] at h1 h2 h3
  obtain ⟨rl, hrl⟩ : ∃ rl, rl = r.length := ⟨_, rfl⟩
  have HRL := Lib.hid hrl
  have yb : ∀ i, y i < 256 := fun i => by rw [hy]; exact cat_byte n1 R.out.byte (fun _ => by omega) i
  obtain ⟨hp, he⟩ := pA_tK h2 (by omega) (by omega) (isB_tl yb 32)
  obtain ⟨T, hT⟩ : ∃ T, T = (tK (4 + 1) (tl y 32)).1 := ⟨_, rfl⟩
  rw [← hT] at hp
  have HT := Lib.hid hT.symm
  have HE := Lib.hid he
  have HPA := Lib.hid hp
  have HCL := Lib.hid h2
  have HMK := Lib.hid (show mkOf 5 (tl y 32) = some r from h1)
  have HM := Lib.hid hm.symm
  have HY := Lib.hid hy.symm
  have rb : rl ≤ 60 := by omega
  have mb : 32 ≤ m := by omega
  have Y0 := Lib.hid (show decide ((0 : Int) ≠ 0) = false by decide)
  clear hm hy hbl h1 h2 h3 hr hrl yb hp he hT
  go_enter Tryd.func5, Tryd.ntmps5
  go_upto_region 6 with (first
    | (go_at_call 14; refine (clone_any R (by omega)).mono ?_; rintro e w1 ⟨p1, g1, c1, rfl, N1, hb⟩; have N := Lib.hid N1; have BB := Lib.hid hb; clear N1 hb)
    | ((with_reducible refine wpList_at 23 rfl ?_); refine wpList_noughts rfl (.tmp 22) _ rfl rfl N rfl (m := 32) rfl (by omega) (by omega) ?_; clear N; intro p2 g2 c2 w2 N hb; rw [HY.out, HM.out] at N; rw [HM.out]; replace BB := Lib.hid (BB.out.trans hb.out); clear hb; try simp only [Act.put, List.setIfInBounds_toArray, List.set_cons_zero, List.set_cons_succ]))
  have hmc : m ≤ c2 := N.out.row.le
  obtain ⟨p3, e3, R3x⟩ := N.out.row.slice (l := 0) (h := 32) (m := c2) (by omega) (by omega) (by omega) (Nat.le_refl _)
  simp only [Nat.sub_zero, Nat.zero_add] at e3 R3x
  have SL := Lib.hid (fun W : World => (run_sl (w := W) (bounds_h (n := m) (h := 32) (c := c2) (by omega))).trans (by rw [e3]))
  have R3 := Lib.hid R3x
  clear e3 R3x N x1 x3 x4
  go_upto_region 9 with (first
    | ((with_reducible refine wpList_at 30 rfl ?_); refine wpList_known4 rfl (.slice p3 32 c2) _ (by exact exec_slH rfl rfl rfl (SL.out _)) ?_; try simp only [Act.put, List.setIfInBounds_toArray, List.set_cons_zero, List.set_cons_succ])
    | (go_at_call 15; refine (make_known (PL.out.below BB.out) R3 (by omega) HMK.out).mono ?_; rintro e w3 ⟨p4, g4, c4, rfl, R4, hb⟩; rw [← HRL.out] at R4 ⊢; have R5 := Lib.hid R4; replace BB := Lib.hid (BB.out.trans (hb.mono BB.out.size)); clear R4 hb)
    | (go_at_call 8; ((with_reducible refine (atext_known (Lib.hid (L.out.below BB.out)) (Lib.hid (PL.out.below BB.out)) (Lib.hid (CL.out.below BB.out)) R5 HRL (by omega) HCL.out).mono ?_); intro e w4 h4); obtain ⟨he4, hb⟩ := h4; rw [HT.out, HE.out] at he4; subst he4; replace R5 := Lib.hid (R5.out.below hb); replace BB := Lib.hid (BB.out.trans (hb.mono BB.out.size)); clear hb)
    | (go_at_call 11; ((with_reducible refine (aparse_any (Lib.hid (L.out.below BB.out)) (Lib.hid (PL.out.below BB.out)) (Lib.hid (CL.out.below BB.out)) T).mono ?_); intro e w5 h5); obtain ⟨r6, p6, g6, c6, he5, hr6, R6, hb⟩ := h5; rw [HPA.out] at he5 hr6; obtain rfl : r = r6 := hr6.symm; subst he5; rw [← HRL.out] at R6 ⊢; have R7 := Lib.hid R6; replace R5 := Lib.hid (R5.out.below hb); replace BB := Lib.hid (BB.out.trans (hb.mono BB.out.size)); clear R6 hb hr6))
  go_upto_region 11 with (first
    | ((with_reducible refine wpList_at 48 rfl ?_); refine wpList_known4 rfl (.bool false) _ (by exact exec_neqE3 (z := 0) (q := false) rfl rfl rfl Y0.out) ?_; try simp only [Act.put, List.setIfInBounds_toArray, List.set_cons_zero, List.set_cons_succ])
    | ((with_reducible refine wpList_at 52 rfl ?_); refine wpList_known4 rfl (.bool false) _ (by exact exec_neqE3 (z := 0) (q := false) rfl rfl rfl Y0.out) ?_; try simp only [Act.put, List.setIfInBounds_toArray, List.set_cons_zero, List.set_cons_succ])
    | (go_at_call 13; refine (equal_any R5 R7 rfl (Lib.hid fun _ _ => rfl)).mono ?_; rintro e w6 ⟨rfl, rfl⟩))
  have PS := pEnd s
  cases hz : pA s with
  | none =>
    have HZ := Lib.hid hz
    have Y1 := Lib.hid (show decide ((140 : Int) ≠ 0) = true by decide)
    clear hz R5 R7 PS
    go_wp2_with (first
      | (go_at_call 11; ((with_reducible refine (aparse_any (Lib.hid (L.out.below BB.out)) (Lib.hid (PL.out.below BB.out)) (Lib.hid (CL.out.below BB.out)) s).mono ?_); intro e w7 h7); obtain ⟨r8, p8, g8, c8, he7, hr8, R8, hb⟩ := h7; rw [HZ.out] at he7; subst he7; replace BB := Lib.hid (BB.out.trans (hb.mono BB.out.size)); clear R8 hb hr8)
      | ((with_reducible refine wpList_at 66 rfl ?_); refine wpList_known4 rfl (.bool true) _ (by exact exec_neqE3 (z := 140) (q := true) rfl rfl rfl Y1.out) ?_; try simp only [Act.put, List.setIfInBounds_toArray, List.set_cons_zero, List.set_cons_succ])
      | (go_at_call 10; refine (awake14_any _).mono ?_; rintro e w9 ⟨rfl, hb⟩; replace BB := Lib.hid (BB.out.trans (hb.mono BB.out.size)); clear hb))
    go_ret
    exact ⟨rfl, BB.out⟩
  | some z =>
    obtain ⟨k, b, hck, hk1, hk5, hke, hks⟩ := pA_some hz
    have HZ := Lib.hid hz
    have HCK := Lib.hid hck
    have HKE := Lib.hid hke
    obtain ⟨zl, hzl⟩ : ∃ zl, zl = z.length := ⟨_, rfl⟩
    have HZL := Lib.hid hzl
    have zb : zl ≤ 140737488355328 := by rw [hzl]; exact PS z hz
    obtain ⟨T2, hT2⟩ : ∃ T2, T2 = (tK k b).1 := ⟨_, rfl⟩
    have HT2 := Lib.hid hT2.symm
    obtain ⟨sz, hsz⟩ : ∃ sz, sz = s.size := ⟨_, rfl⟩
    have HS2 := Lib.hid (show T2.size = sz by rw [hT2, hks, hsz])
    have HS := Lib.hid hsz.symm
    have Y2 := Lib.hid (show decide ((0 : Int) = 0) = true by decide)
    have Y3 := Lib.hid (show decide (sz = sz) = true by simp)
    clear hz hck hke hks hzl hT2 hsz R5 R7 hk1 hk5 PS
    go_wp2_with (first
      | (go_at_call 11; ((with_reducible refine (aparse_any (Lib.hid (L.out.below BB.out)) (Lib.hid (PL.out.below BB.out)) (Lib.hid (CL.out.below BB.out)) s).mono ?_); intro e w7 h7); obtain ⟨r8, p8, g8, c8, he7, hr8, R8, hb⟩ := h7; rw [HZ.out] at he7 hr8; obtain rfl : z = r8 := hr8.symm; subst he7; rw [← HZL.out] at R8 ⊢; have R9 := Lib.hid R8; replace BB := Lib.hid (BB.out.trans (hb.mono BB.out.size)); clear R8 hb hr8)
      | ((with_reducible refine wpList_at 66 rfl ?_); refine wpList_known4 rfl (.bool false) _ (by exact exec_neqE3 (z := 0) (q := false) rfl rfl rfl Y0.out) ?_; try simp only [Act.put, List.setIfInBounds_toArray, List.set_cons_zero, List.set_cons_succ])
      | (go_at_call 8; ((with_reducible refine (atext_known (Lib.hid (L.out.below BB.out)) (Lib.hid (PL.out.below BB.out)) (Lib.hid (CL.out.below BB.out)) R9 HZL zb HCK.out).mono ?_); intro e wa ha); obtain ⟨hea, hb⟩ := ha; rw [HT2.out, HKE.out] at hea; subst hea; replace BB := Lib.hid (BB.out.trans (hb.mono BB.out.size)); clear hb)
      | ((with_reducible refine wpList_at 74 rfl ?_); refine wpList_known4 rfl (.bool true) _ (by exact exec_eqE3 (z := 0) (z2 := 0) (q := true) rfl rfl rfl Y2.out) ?_; try simp only [Act.put, List.setIfInBounds_toArray, List.set_cons_zero, List.set_cons_succ])
      | ((with_reducible refine wpList_at 77 rfl ?_); refine wpList_known4 rfl (.int .i64 (sz : Int)) _ (by exact by rw [← HS2.out]; exact exec_lenS rfl rfl) ?_; try simp only [Act.put, List.setIfInBounds_toArray, List.set_cons_zero, List.set_cons_succ])
      | ((with_reducible refine wpList_at 79 rfl ?_); refine wpList_known4 rfl (.int .i64 (sz : Int)) _ (by exact by rw [← HS.out]; exact exec_lenS rfl rfl) ?_; try simp only [Act.put, List.setIfInBounds_toArray, List.set_cons_zero, List.set_cons_succ])
      | ((with_reducible refine wpList_at 80 rfl ?_); refine wpList_known4 rfl (.bool true) _ (by exact exec_eql3v (a := sz) (b := sz) (q := true) rfl rfl rfl Y3.out) ?_; try simp only [Act.put, List.setIfInBounds_toArray, List.set_cons_zero, List.set_cons_succ]))
    go_ret
    exact ⟨rfl, BB.out⟩
theorem walk (W : World) (hL : laidMetH Tryd.prog S.adLaid W) (a0 : Int) (w0 : (Lit.int .i64 a0).wf = true) (a1 : Option Addr) (g1 o1 n1 c1 : Nat) (x1 : Nat → Nat) (w1 : Row W a1 g1 o1 n1 c1 x1) (m1 : c1 ≤ 140737488351232) (s : ByteArray) :
    Calls Tryd.prog 5 #[.int .i64 a0, .slice a1 n1 c1, .string s] W fun e w' => e = .returned (.bool true) ∧ Below W.heap.size W w' := by
  obtain ⟨hL1, hL2, hL3⟩ := S.of_ad hL
  have hn1 : n1 ≤ 140737488351232 := Nat.le_trans w1.le m1
  obtain ⟨j, hj, hj2⟩ := nth_of a0 5 (by omega) (by omega)
  have c5 : j = 0 ∨ j = 1 ∨ j = 2 ∨ j = 3 ∨ j = 4 := by omega
  rcases c5 with rfl | rfl | rfl | rfl | rfl
  · exact one0 W (Lib.hid hL1) (Lib.hid hL2) (Lib.hid hL3) a0 _ _ rfl rfl hj2 a1 g1 o1 n1 c1 x1 (Lib.hid w1) hn1 s
  · exact one1 W (Lib.hid hL1) (Lib.hid hL2) (Lib.hid hL3) a0 _ _ rfl rfl hj2 a1 g1 o1 n1 c1 x1 (Lib.hid w1) hn1 s
  · exact one2 W (Lib.hid hL1) (Lib.hid hL2) (Lib.hid hL3) a0 _ _ rfl rfl hj2 a1 g1 o1 n1 c1 x1 (Lib.hid w1) hn1 s
  · exact one3 W (Lib.hid hL1) (Lib.hid hL2) (Lib.hid hL3) a0 _ _ rfl rfl hj2 a1 g1 o1 n1 c1 x1 (Lib.hid w1) hn1 s
  · exact one4 W (Lib.hid hL1) (Lib.hid hL2) (Lib.hid hL3) a0 _ _ rfl rfl hj2 a1 g1 o1 n1 c1 x1 (Lib.hid w1) hn1 s

set_option maxRecDepth 100000 in
theorem lifted (os : Os) (started : os.Started) (H : Type) (enc : TypeId × Value → H) :
    ReturnsInHanded {} Tryd.checked os 5 .any (fun w args => (Rows.addressBackSpec.pre enc Tryd.prog Tryd.f5 [] false w args ∧ laidMetH Tryd.prog S.adLaid w) ∧ sizedMet enc Tryd.prog Tryd.f5 (OpenSpec.ofChange Rows.addressBackSpec) false w args)
      (Rows.addressBackSpec.post enc Tryd.prog Tryd.f5 false true false false) := by
  refine returnsInHanded_of_change_and (C := Tryd.checked) (X := fun w _ => laidMetH Tryd.prog S.adLaid w) (fun _ _ _ hh h => h.of_heap hh) own started (by kernel_rfl) Tryd.func5
    (ChangeSpec.witness_shaped (enc := enc) (C := Tryd.checked) (os := os) (X := fun w _ => laidMetH Tryd.prog S.adLaid w) false (World.doorLaid Tryd.prog 400 os) #[.int .i64 0, .slice none 0 0, .string ⟨#[]⟩] 8 rfl (World.shaped_of_RefB (by kernel_rfl) (by kernel_rfl)) (by kernel_rfl) (by kernel_rfl) (by kernel_rfl) (S.ad_door_met os _)) ?_
  intro W base args ds gs before hval0 hW _ hsz0 hL _
  have hval : ∀ (j : Nat) t v, Tryd.f5.params[j]? = some t → args[j]? = some v → Value.okWide Tryd.prog W .any base t v := hval0
  have hsz : (DataW.weightsEach Tryd.prog (Tryd.f5.params.toList ++ Rows.addressBackSpec.plain.varTypes Tryd.prog) (ds ++ gs)).all (· ≤ reachBytes) = true := hsz0
  have hW' := hW
  obtain ⟨p, q, hA0, hV, rfl, hfz, hnd⟩ := hW
  have hA : DataW.TrodAll enc Tryd.prog W 0 (fun _ => true) true Tryd.f5.params.toList args.toList ds p := hA0
  rw [Tryd.params5] at hA hval hsz
  obtain ⟨v0, vs0, d0, ds0, p0, q0, hargs, rfl, rfl, h0, r0⟩ := trodAll_cons hA
  obtain ⟨v1, vs1, d1, ds1, p1, q1, rfl, rfl, rfl, h1, r1⟩ := trodAll_cons r0
  obtain ⟨v2, vs2, d2, ds2, p2, q2, rfl, rfl, rfl, h2, r2⟩ := trodAll_cons r1
  obtain ⟨rfl, rfl, rfl⟩ := trodAll_nil r2
  obtain rfl : args = #[v0, v1, v2] := by cases args; simp_all
  obtain ⟨rfl, rfl⟩ := trodVars_none hV
  obtain ⟨a0, rfl, rfl, rfl, w0⟩ := open_int Tryd.underlying3 (hval 0 3 v0 rfl rfl) h0
  have k1 := h1
  have lt1 : ∀ x ∈ p1, x.block < W.heap.size := by obtain ⟨m, hm⟩ := k1; exact DataW.trod_lt m _ _ _ hm
  obtain ⟨a1, g1, o1, n1, c1, x1, rfl, w1, m1⟩ := open_row (j := 1) (hval 1 22 v1 rfl rfl) h1 hsz rfl rfl
  have k2 := h2
  have lt2 : ∀ x ∈ p2, x.block < W.heap.size := by obtain ⟨m, hm⟩ := k2; exact DataW.trod_lt m _ _ _ hm
  obtain ⟨s2, rfl⟩ := open_str (hval 2 9 v2 rfl rfl)
  clear hA0 hval0 hsz0
  simp only [List.append_nil] at hW'
  refine (walk W hL a0 w0 a1 g1 o1 n1 c1 x1 w1 m1 s2).mono fun e W' ⟨he, bel⟩ => ?_
  subst he
  exact ⟨_, rfl, _, _, _, [], _, [], hW', trodAll_mk1 (shut_bool Tryd.underlying4 _), (trodAll_cons_mk (shut_int Tryd.underlying3 w0) (trodAll_cons_mk (Below.trod laidOut (by kernel_rfl) (of_decide_eq_true (by kernel_rfl)) k1 bel lt1) (trodAll_cons_mk (Below.trod laidOut (by kernel_rfl) (of_decide_eq_true (by kernel_rfl)) k2 bel lt2) trodAll_mk0))), rfl, bel.frame _, fun h => by cases h⟩

theorem over : Rows.AddressBackSaid :=
  OpenClaim.holds_of_wide 5 Tryd.f5 rfl rfl rfl rfl rfl rfl rfl ⟨rfl, rfl, rfl, rfl, rfl⟩ rfl rfl rfl rfl rfl (by kernel_rfl) Tryd.func5 (by kernel_rfl)
    (of_decide_eq_true (by kernel_rfl)) (by unfold Func.isWrapper; first | (rw [if_pos (by decide +kernel)]; kernel_rfl) | (rw [if_neg (by decide +kernel)]; exact ⟨rfl, rfl⟩))
    (fun os started H enc _ => lifted os started H enc)

/-- The tied card. -/
theorem card_holds : Rows.AddressBackCardSaid :=
  Claim7.holds_tied_plain_at .later [] [.data, .data, .data, .data] true (true, "cebc64d560f048e6503ea368f248693ae0eb79a8a9687a36121a0726f7c6fcfa") false
    over (fun _ h => by cases h) (by kernel_rfl) (fun _ h => by cases h) addressBack_row_tie rfl ⟨rfl, rfl⟩ (by kernel_rfl) rfl
    (fun f fn hf hfn => by
      obtain rfl : f = 5 := Option.some.inj ((show Tryd.prog.funcNamed "sporran/sporranlaw14.AddressBack" = some 5 by kernel_rfl).symm.trans hf) |>.symm
      obtain rfl : fn = Tryd.f5 := (Option.some.inj (Tryd.func5.symm.trans hfn)).symm
      exact ⟨by kernel_rfl, fun j t ht => by
        rw [Tryd.params5] at ht
        have hm : t ∈ [3, 22, 9] := by simpa using Array.mem_of_getElem? ht
        have hall : ([3, 22, 9].all fun u => !Tryd.prog.wantsStandIn u) = true := by kernel_rfl
        exact (show Tryd.prog.wantsStandIn t = false by simpa using List.all_eq_true.1 hall t hm)⟩)
    (by kernel_rfl)
#print axioms card_holds
end Go.Proofs.YtghjgkgfpblijaaDoor.addressBack
