/- For all numbers and all slices of bytes (nil too): an address of bits with one letter turned is none, and with that letter as it was it says its script; the call returns true. The four tables are laid as the program's text lays them; the card ties them to that text. No other condition. -/
import Derived.Test.YtghjgkgfpblijaaDoorB6
import Derived.Test.YtghjgkgfpblijaaDoorTie
import Derived.Test.YtghjgkgfpblijaaDoorCards
import Derived.ShutString
import Derived.ChangeOld
import Derived.Below
import Derived.SevenTiedAt
set_option linter.unusedVariables false
set_option linter.unusedSimpArgs false
namespace Go.Proofs.YtghjgkgfpblijaaDoor.addressTurned
open Go.ChangeShapes Go.WideShapes Go.ChangeAt Go.RowKit Go.Lib Go.Sort Go.Proofs.YtghjgkgfpblijaaDoor

set_option maxRecDepth 100000
set_option maxHeartbeats 16000000 in
theorem one2 (W : World) (L : Hid (S.Both W)) (PL : Hid (PLaid W)) (CL : Hid (S.CLaid W)) (a0 u rv : Int) (x1 : IntKind.u64.wrap a0 = u) (x3 : u.tmod 3 = rv) (x4 : IntKind.i64.wrap rv = 0) (a1 : Option Addr) (g1 o1 n1 c1 : Nat) (x1' : Nat → Nat) (R : Hid (Row W a1 g1 o1 n1 c1 x1')) (hn : n1 ≤ 140737488351232)
    (a2 u2 rv2 : Int) (i : Nat) (hi : i < 39) (y1 : IntKind.u64.wrap a2 = u2) (y3 : u2.tmod 39 = rv2) (y4 : IntKind.i64.wrap rv2 = (i : Int)) (a3 u3 rv3 : Int) (d : Nat) (hd : d < 32) (z1 : IntKind.u64.wrap a3 = u3) (z3 : u3.tmod 32 = rv3) (z4 : IntKind.i64.wrap rv3 = (d : Int)) :
    Calls Tryd.prog 6 #[.int .i64 a0, .slice a1 n1 c1, .int .i64 a2, .int .i64 a3] W fun e w' => e = .returned (.bool true) ∧ Below W.heap.size W w' := by
  obtain ⟨m, hm⟩ : ∃ m, m = n1 + 32 := ⟨_, rfl⟩
  obtain ⟨y, hy⟩ : ∃ y, y = cat x1' n1 (fun _ => 0) := ⟨_, rfl⟩
  have hbl : (tl y 20).length = cC 2 := tl_length _ _
  obtain ⟨h1, h2, h3⟩ := mk_sizes (j := 2) (by omega) hbl
  obtain ⟨r, hr⟩ : ∃ r, r = hL 2 ++ tl y 20 ++ tL 2 := ⟨_, rfl⟩
  rw [← hr] at h1 h2 h3
  obtain ⟨rl, hrl⟩ : ∃ rl, rl = r.length := ⟨_, rfl⟩
  have HRL := Lib.hid hrl
  have yb : ∀ i, y i < 256 := fun i => by rw [hy]; exact cat_byte n1 R.out.byte (fun _ => by omega) i
  obtain ⟨hp, he⟩ := pA_tK h2 (by omega) (by omega) (isB_tl yb 20)
  obtain ⟨T, hT⟩ : ∃ T, T = (tK (2 + 1) (tl y 20)).1 := ⟨_, rfl⟩
  rw [← hT] at hp
  have HT := Lib.hid hT.symm
  have HE := Lib.hid he
  have HPA := Lib.hid hp
  have HCL := Lib.hid h2
  have HMK := Lib.hid (show mkOf 3 (tl y 20) = some r from h1)
  have HM := Lib.hid hm.symm
  have HY := Lib.hid hy.symm
  have rb : rl ≤ 60 := by omega
  have mb : 32 ≤ m := by omega
  have Y0 := Lib.hid (show decide ((0 : Int) ≠ 0) = false by decide)
  have hTn : T = nT (nsB 0 (tl y 20)) := hT
  have hnl : (nsB 0 (tl y 20)).length = 39 := by rw [nsB_len, grp_len20 (tl_length _ _)]
  have hbb : ∀ x, x ∈ tl y 20 → x < 256 := isB_tl yb 20
  obtain ⟨ns, hns⟩ : ∃ ns, ns = nsB 0 (tl y 20) := ⟨_, rfl⟩
  have hTU : d ≠ lf ns i → pA (nT (ns.set i d)) = none := fun h => by rw [hns] at h ⊢; exact pA_turned hbb (.inl ⟨rfl, tl_length _ _⟩) (by omega) hd h
  have hnb : lf ns i < 32 := by rw [hns, lf_get (by omega)]; exact nsB_lt (by omega) _ _ (List.getElem_mem _)
  rw [← hns] at hTn hnl
  have hsz : T.size = 42 := by rw [hTn, nT_size, hnl]
  obtain ⟨at', hat⟩ : ∃ at' : Nat, at' = 3 + i := ⟨_, rfl⟩
  have HAT := Lib.hid hat
  have y5 : 3 + (i : Int) = (at' : Int) := by omega
  have atb : at' < 42 := by omega
  obtain ⟨was, hwas⟩ : ∃ was, was = byt T at' := ⟨_, rfl⟩
  have hwas2 : was = byt SL (lf ns i) := by rw [hwas, hTn, hat, nT_byte (by omega)]
  have HWAS := Lib.hid hwas.symm
  obtain ⟨zz, hzz⟩ : ∃ zz, zz = byt SL d := ⟨_, rfl⟩
  have zzb : zz < 256 := by rw [hzz]; exact byt_lt _ _
  have HIX := Lib.hid (show ∀ W : World, (Instr.index 9 (.string ⟨#[113, 112, 122, 114, 121, 57, 120, 56, 103, 102, 50, 116, 118, 100, 119, 48, 115, 51, 106, 110, 53, 52, 107, 104, 99, 101, 54, 109, 117, 97, 55, 108]⟩) (.int .i64 (d : Int))).run Tryd.prog W = .ok (.int .u8 (zz : Int)) W from fun W => by rw [hzz]; exact run_ixS64 SL d hd W)
  obtain ⟨T2, hT2⟩ : ∃ T2, T2 = nT (ns.set i d) := ⟨_, rfl⟩
  have HT2 := Lib.hid (show strX (fun k => if k = at' then zz else byt T k) 42 = T2 by rw [hT2, hzz, hTn, hat]; exact nT_put (by omega) (by omega))
  have HSZ := Lib.hid hsz
  have tb : was < 256 := by rw [hwas]; exact byt_lt _ _
  have hsame : d = lf ns i → T2 = T ∧ zz = was := fun h => ⟨by
    rw [hT2, hTn, h]
    congr 1
    apply List.ext_getElem (by rw [List.length_set])
    intro k k1 k2
    by_cases e : k = i
    · subst e; rw [List.getElem_set_self, lf_get k2]
    · rw [List.getElem_set_ne (fun q => e q.symm)], by rw [hzz, hwas2, h]⟩
  have hoth : d ≠ lf ns i → pA T2 = none ∧ zz ≠ was := fun h => ⟨by rw [hT2]; exact hTU h, fun e => h (SL_inj hd hnb (by rw [← hzz, e, hwas2]))⟩
  have HBOTH := Lib.hid (And.intro hsame hoth)
  clear hTn hnl hbb hns hTU hnb hsz hat hwas hwas2 hzz hT2 hsame hoth
  clear hm hy hbl h1 h2 h3 hr hrl yb hp he hT
  have HYY := Lib.hid (And.intro y1 (And.intro y3 (And.intro y4 y5)))
  have HZZ := Lib.hid (And.intro z1 (And.intro z3 z4))
  clear y1 y3 y4 y5 z1 z3 z4
  have Y2 := Lib.hid (show decide ((42 : Nat) < 20) = false by decide)
  go_enter Tryd.func6, Tryd.ntmps6
  go_upto_region 1 with fail
  go_cut [0] (fun s0 wx => s0 = .int .i64 3 ∧ Hid (Below W.heap.size W wx))
  case first =>
    go_wp2_with fail
    go_meet
    exact ⟨rfl, Lib.hid (below_new W _)⟩
  case rest =>
  obtain ⟨rfl, BB⟩ := hcut
  clear x1 x3 x4
  replace R := Lib.hid (R.out.below BB.out)
  have BB0 := Lib.hid BB.out.size
  go_upto_region 6 with (first
    | (go_at_call 14; refine (clone_any R (by omega)).mono ?_; rintro e w1 ⟨p1, g1, c1, rfl, N1, hb⟩; have N := Lib.hid N1; replace BB := Lib.hid (BB.out.trans (hb.mono BB.out.size)); clear N1 hb)
    | ((with_reducible refine wpList_at 27 rfl ?_); refine wpList_noughts rfl (.tmp 26) _ rfl rfl N rfl (m := 32) rfl (by omega) (by omega) ?_; clear N; intro p2 g2 c2 w2 N hb; rw [HY.out, HM.out] at N; rw [HM.out]; replace BB := Lib.hid (BB.out.trans (hb.out.mono BB0.out)); clear hb; try simp only [Act.put, List.setIfInBounds_toArray, List.set_cons_zero, List.set_cons_succ]))
  have hmc : m ≤ c2 := N.out.row.le
  obtain ⟨p3, e3, R3x⟩ := N.out.row.slice (l := 0) (h := 20) (m := c2) (by omega) (by omega) (by omega) (Nat.le_refl _)
  simp only [Nat.sub_zero, Nat.zero_add] at e3 R3x
  have SLI := Lib.hid (fun W : World => (run_sl (w := W) (bounds_h (n := m) (h := 20) (c := c2) (by omega))).trans (by rw [e3]))
  have R3 := Lib.hid R3x
  clear e3 R3x N
  go_upto_region 10 with (first
    | ((with_reducible refine wpList_at 34 rfl ?_); refine wpList_known4 rfl (.slice p3 20 c2) _ (by exact exec_slH rfl rfl rfl (SLI.out _)) ?_; try simp only [Act.put, List.setIfInBounds_toArray, List.set_cons_zero, List.set_cons_succ])
    | (go_at_call 15; refine (make_known (PL.out.below BB.out) R3 (by omega) HMK.out).mono ?_; rintro e w3 ⟨p4, g4, c4, rfl, R4, hb⟩; rw [← HRL.out] at R4 ⊢; have R5 := Lib.hid R4; replace BB := Lib.hid (BB.out.trans (hb.mono BB.out.size)); clear R4 hb)
    | (go_at_call 8; ((with_reducible refine (atext_known (Lib.hid (L.out.below BB.out)) (Lib.hid (PL.out.below BB.out)) (Lib.hid (CL.out.below BB.out)) R5 HRL (by omega) HCL.out).mono ?_); intro e w4 h4); obtain ⟨he4, hb⟩ := h4; rw [HT.out, HE.out] at he4; subst he4; replace R5 := Lib.hid (R5.out.below hb); replace BB := Lib.hid (BB.out.trans (hb.mono BB.out.size)); clear hb)
    | ((with_reducible refine wpList_at 44 rfl ?_); refine wpList_known4 rfl (.bool false) _ (by exact exec_neqE3 (z := 0) (q := false) rfl rfl rfl Y0.out) ?_; try simp only [Act.put, List.setIfInBounds_toArray, List.set_cons_zero, List.set_cons_succ])
    | ((with_reducible refine wpList_at 47 rfl ?_); refine wpList_known4 rfl (.int .i64 ((42 : Nat) : Int)) _ (by exact by rw [← HSZ.out]; exact exec_lenS rfl rfl) ?_; try simp only [Act.put, List.setIfInBounds_toArray, List.set_cons_zero, List.set_cons_succ])
    | ((with_reducible refine wpList_at 48 rfl ?_); refine wpList_known4 rfl (.bool false) _ (by exact exec_lss3v (a := 42) (b := 20) (q := false) rfl rfl rfl Y2.out) ?_; try simp only [Act.put, List.setIfInBounds_toArray, List.set_cons_zero, List.set_cons_succ]))
  have sb : T.size ≤ 140737488355328 := by rw [HSZ.out]; omega
  go_upto_region 11 with (first
    | ((with_reducible refine wpList_at 51 rfl ?_); refine wpList_cv rfl (.tmp 50) rfl rfl sb ?_; intro p7 g7 c7 w7 N hb7; rw [HSZ.out] at N; rw [HSZ.out]; have R50 := R5; replace R5 := Lib.hid (R5.out.below hb7.out); have B7 := hb7; have BB7 := Lib.hid BB.out.size; replace BB := Lib.hid (BB.out.trans (hb7.out.mono BB.out.size)); clear hb7; try simp only [Act.put, List.setIfInBounds_toArray, List.set_cons_zero, List.set_cons_succ]))
  obtain rfl := N.out.hd
  have CW := Lib.hid (show w7.cell? ⟨g7, at', none⟩ = some (.int .u8 (was : Int)) by have := N.out.row.cell at' atb; rw [Nat.zero_add] at this; rw [← HWAS.out]; exact this)
  obtain ⟨y1, y3, y4, y5⟩ := HYY.out
  go_upto_region 13 with (first
    | ((with_reducible refine wpList_at 63 rfl ?_); refine wpList_ix (k := 1) (j := at') Tryd.underlying22 (by kernel_rfl) (.tmp 61) (.tmp 62) rfl rfl rfl rfl atb rfl ?_; rw [Nat.mul_one, Nat.zero_add]; try simp only [Act.put, List.setIfInBounds_toArray, List.set_cons_zero, List.set_cons_succ])
    | ((with_reducible refine wpList_at 64 rfl ?_); refine wpList_ld1 5 (.tmp 63) rfl rfl rfl Tryd.underlying5 rfl CW.out ?_; try simp only [Act.put, List.setIfInBounds_toArray, List.set_cons_zero, List.set_cons_succ]))
  clear y1 y3 y4 y5 CW
  obtain ⟨z1, z3, z4⟩ := HZZ.out
  have LOW := Lib.hid N.out.low
  go_upto_region 14 with (first
    | ((with_reducible refine wpList_at 71 rfl ?_); refine wpList_known4 rfl (.int .u8 (zz : Int)) _ (by exact exec_index rfl (HIX.out _)) ?_; try simp only [Act.put, List.setIfInBounds_toArray, List.set_cons_zero, List.set_cons_succ])
    | ((with_reducible refine wpList_at 72 rfl ?_); refine wpList_ix (k := 1) (j := at') Tryd.underlying22 (by kernel_rfl) (.tmp 65) (.tmp 66) rfl rfl rfl rfl atb rfl ?_; rw [Nat.mul_one, Nat.zero_add]; try simp only [Act.put, List.setIfInBounds_toArray, List.set_cons_zero, List.set_cons_succ])
    | ((with_reducible refine wpList_atn rfl ?_); refine wpList_mput0 rfl (.tmp 72) (.tmp 71) rfl N rfl rfl atb zzb ?_; clear N; intro w8 N hb8; replace R5 := Lib.hid (R50.out.below (B7.out.trans hb8.out)); replace BB := Lib.hid (BB.out.trans (hb8.out.mono BB7.out)); clear hb8; try simp only [Act.put, List.setIfInBounds_toArray, List.set_cons_zero, List.set_cons_succ]))
  clear z1 z3 z4
  have CV := Lib.hid ((row_strX N.out.row).trans (by rw [HT2.out]))
  obtain ⟨hsame, hoth⟩ := HBOTH.out
  by_cases hdd : d = lf ns i
  · obtain ⟨e1, e2⟩ := hsame hdd
    have HPA2 := Lib.hid (show pA T2 = some r by rw [e1]; exact HPA.out)
    have Y4 := Lib.hid (show decide (zz = was) = true by simp [e2])
    have Y5 := Lib.hid (show decide ((0 : Int) = 0) = true by decide)
    clear hsame hoth hdd e1 e2
    go_wp2_with (first
      | ((with_reducible refine wpList_at 75 rfl ?_); refine wpList_known4 rfl (.string T2) _ (by exact exec_cv rfl CV.out) ?_; try simp only [Act.put, List.setIfInBounds_toArray, List.set_cons_zero, List.set_cons_succ])
      | (go_at_call 11; ((with_reducible refine (aparse_any (Lib.hid (L.out.below BB.out)) (Lib.hid (PL.out.below BB.out)) (Lib.hid (CL.out.below BB.out)) T2).mono ?_); intro e w5 h5); obtain ⟨r6, p6, g6, c6, he5, hr6, R6, hb⟩ := h5; rw [HPA2.out] at he5 hr6; obtain rfl : r = r6 := hr6.symm; subst he5; rw [← HRL.out] at R6 ⊢; have R7 := Lib.hid R6; replace R5 := Lib.hid (R5.out.below hb); replace N := Lib.hid (N.out.below hb); replace BB := Lib.hid (BB.out.trans (hb.mono BB.out.size)); clear R6 hb hr6)
      | ((with_reducible refine wpList_at 81 rfl ?_); refine wpList_ix (k := 1) (j := at') Tryd.underlying22 (by kernel_rfl) (.tmp 79) (.tmp 80) rfl rfl rfl rfl atb rfl ?_; rw [Nat.mul_one, Nat.zero_add]; try simp only [Act.put, List.setIfInBounds_toArray, List.set_cons_zero, List.set_cons_succ])
      | ((with_reducible refine wpList_at 82 rfl ?_); refine wpList_ld1 5 (.tmp 81) rfl rfl rfl Tryd.underlying5 rfl (by have := N.out.row.cell at' atb; rw [Nat.zero_add, if_pos rfl] at this; exact this) ?_; try simp only [Act.put, List.setIfInBounds_toArray, List.set_cons_zero, List.set_cons_succ])
      | ((with_reducible refine wpList_at 84 rfl ?_); refine wpList_known4 rfl (.bool true) _ (by exact exec_eq8v (a := zz) (b := was) (q := true) rfl rfl rfl Y4.out) ?_; try simp only [Act.put, List.setIfInBounds_toArray, List.set_cons_zero, List.set_cons_succ])
      | ((with_reducible refine wpList_at 86 rfl ?_); refine wpList_known4 rfl (.bool true) _ (by exact exec_eqE3 (z := 0) (z2 := 0) (q := true) rfl rfl rfl Y5.out) ?_; try simp only [Act.put, List.setIfInBounds_toArray, List.set_cons_zero, List.set_cons_succ])
      | (go_at_call 13; refine (equal_any R5 R7 rfl (Lib.hid fun _ _ => rfl)).mono ?_; rintro e w6 ⟨rfl, rfl⟩))
    go_ret
    exact ⟨rfl, BB.out⟩
  · obtain ⟨e1, e2⟩ := hoth hdd
    have HPA2 := Lib.hid e1
    have Y4 := Lib.hid (show decide (zz = was) = false by simp [e2])
    have Y5 := Lib.hid (show decide ((140 : Int) = 140) = true by decide)
    have Y6 := Lib.hid (show decide ((0 : Nat) = 0) = true by decide)
    clear hsame hoth hdd e1 e2
    go_wp2_with (first
      | ((with_reducible refine wpList_at 75 rfl ?_); refine wpList_known4 rfl (.string T2) _ (by exact exec_cv rfl CV.out) ?_; try simp only [Act.put, List.setIfInBounds_toArray, List.set_cons_zero, List.set_cons_succ])
      | (go_at_call 11; ((with_reducible refine (aparse_any (Lib.hid (L.out.below BB.out)) (Lib.hid (PL.out.below BB.out)) (Lib.hid (CL.out.below BB.out)) T2).mono ?_); intro e w5 h5); obtain ⟨r6, p6, g6, c6, he5, hr6, R6, hb⟩ := h5; rw [HPA2.out] at he5 hr6; obtain rfl : [] = r6 := hr6.symm; subst he5; replace N := Lib.hid (N.out.below hb); replace BB := Lib.hid (BB.out.trans (hb.mono BB.out.size)); clear R6 hb hr6)
      | ((with_reducible refine wpList_at 81 rfl ?_); refine wpList_ix (k := 1) (j := at') Tryd.underlying22 (by kernel_rfl) (.tmp 79) (.tmp 80) rfl rfl rfl rfl atb rfl ?_; rw [Nat.mul_one, Nat.zero_add]; try simp only [Act.put, List.setIfInBounds_toArray, List.set_cons_zero, List.set_cons_succ])
      | ((with_reducible refine wpList_at 82 rfl ?_); refine wpList_ld1 5 (.tmp 81) rfl rfl rfl Tryd.underlying5 rfl (by have := N.out.row.cell at' atb; rw [Nat.zero_add, if_pos rfl] at this; exact this) ?_; try simp only [Act.put, List.setIfInBounds_toArray, List.set_cons_zero, List.set_cons_succ])
      | ((with_reducible refine wpList_at 84 rfl ?_); refine wpList_known4 rfl (.bool false) _ (by exact exec_eq8v (a := zz) (b := was) (q := false) rfl rfl rfl Y4.out) ?_; try simp only [Act.put, List.setIfInBounds_toArray, List.set_cons_zero, List.set_cons_succ])
      | ((with_reducible refine wpList_at 93 rfl ?_); refine wpList_known4 rfl (.bool true) _ (by exact exec_eqE3 (z := 140) (z2 := 140) (q := true) rfl rfl rfl Y5.out) ?_; try simp only [Act.put, List.setIfInBounds_toArray, List.set_cons_zero, List.set_cons_succ])
      | ((with_reducible refine wpList_at 97 rfl ?_); refine wpList_known4 rfl (.bool true) _ (by exact exec_eql3v (a := 0) (b := 0) (q := true) rfl rfl rfl Y6.out) ?_; try simp only [Act.put, List.setIfInBounds_toArray, List.set_cons_zero, List.set_cons_succ]))
    go_ret
    exact ⟨rfl, BB.out⟩
set_option maxHeartbeats 16000000 in
theorem one3 (W : World) (L : Hid (S.Both W)) (PL : Hid (PLaid W)) (CL : Hid (S.CLaid W)) (a0 u rv : Int) (x1 : IntKind.u64.wrap a0 = u) (x3 : u.tmod 3 = rv) (x4 : IntKind.i64.wrap rv = 1) (a1 : Option Addr) (g1 o1 n1 c1 : Nat) (x1' : Nat → Nat) (R : Hid (Row W a1 g1 o1 n1 c1 x1')) (hn : n1 ≤ 140737488351232)
    (a2 u2 rv2 : Int) (i : Nat) (hi : i < 59) (y1 : IntKind.u64.wrap a2 = u2) (y3 : u2.tmod 59 = rv2) (y4 : IntKind.i64.wrap rv2 = (i : Int)) (a3 u3 rv3 : Int) (d : Nat) (hd : d < 32) (z1 : IntKind.u64.wrap a3 = u3) (z3 : u3.tmod 32 = rv3) (z4 : IntKind.i64.wrap rv3 = (d : Int)) :
    Calls Tryd.prog 6 #[.int .i64 a0, .slice a1 n1 c1, .int .i64 a2, .int .i64 a3] W fun e w' => e = .returned (.bool true) ∧ Below W.heap.size W w' := by
  obtain ⟨m, hm⟩ : ∃ m, m = n1 + 32 := ⟨_, rfl⟩
  obtain ⟨y, hy⟩ : ∃ y, y = cat x1' n1 (fun _ => 0) := ⟨_, rfl⟩
  have hbl : (tl y 32).length = cC 3 := tl_length _ _
  obtain ⟨h1, h2, h3⟩ := mk_sizes (j := 3) (by omega) hbl
  obtain ⟨r, hr⟩ : ∃ r, r = hL 3 ++ tl y 32 ++ tL 3 := ⟨_, rfl⟩
  rw [← hr] at h1 h2 h3
  obtain ⟨rl, hrl⟩ : ∃ rl, rl = r.length := ⟨_, rfl⟩
  have HRL := Lib.hid hrl
  have yb : ∀ i, y i < 256 := fun i => by rw [hy]; exact cat_byte n1 R.out.byte (fun _ => by omega) i
  obtain ⟨hp, he⟩ := pA_tK h2 (by omega) (by omega) (isB_tl yb 32)
  obtain ⟨T, hT⟩ : ∃ T, T = (tK (3 + 1) (tl y 32)).1 := ⟨_, rfl⟩
  rw [← hT] at hp
  have HT := Lib.hid hT.symm
  have HE := Lib.hid he
  have HPA := Lib.hid hp
  have HCL := Lib.hid h2
  have HMK := Lib.hid (show mkOf 4 (tl y 32) = some r from h1)
  have HM := Lib.hid hm.symm
  have HY := Lib.hid hy.symm
  have rb : rl ≤ 60 := by omega
  have mb : 32 ≤ m := by omega
  have Y0 := Lib.hid (show decide ((0 : Int) ≠ 0) = false by decide)
  have hTn : T = nT (nsB 0 (tl y 32)) := hT
  have hnl : (nsB 0 (tl y 32)).length = 59 := by rw [nsB_len, grp_len32 (tl_length _ _)]
  have hbb : ∀ x, x ∈ tl y 32 → x < 256 := isB_tl yb 32
  obtain ⟨ns, hns⟩ : ∃ ns, ns = nsB 0 (tl y 32) := ⟨_, rfl⟩
  have hTU : d ≠ lf ns i → pA (nT (ns.set i d)) = none := fun h => by rw [hns] at h ⊢; exact pA_turned hbb (.inr (.inl ⟨rfl, tl_length _ _⟩)) (by omega) hd h
  have hnb : lf ns i < 32 := by rw [hns, lf_get (by omega)]; exact nsB_lt (by omega) _ _ (List.getElem_mem _)
  rw [← hns] at hTn hnl
  have hsz : T.size = 62 := by rw [hTn, nT_size, hnl]
  obtain ⟨at', hat⟩ : ∃ at' : Nat, at' = 3 + i := ⟨_, rfl⟩
  have HAT := Lib.hid hat
  have y5 : 3 + (i : Int) = (at' : Int) := by omega
  have atb : at' < 62 := by omega
  obtain ⟨was, hwas⟩ : ∃ was, was = byt T at' := ⟨_, rfl⟩
  have hwas2 : was = byt SL (lf ns i) := by rw [hwas, hTn, hat, nT_byte (by omega)]
  have HWAS := Lib.hid hwas.symm
  obtain ⟨zz, hzz⟩ : ∃ zz, zz = byt SL d := ⟨_, rfl⟩
  have zzb : zz < 256 := by rw [hzz]; exact byt_lt _ _
  have HIX := Lib.hid (show ∀ W : World, (Instr.index 9 (.string ⟨#[113, 112, 122, 114, 121, 57, 120, 56, 103, 102, 50, 116, 118, 100, 119, 48, 115, 51, 106, 110, 53, 52, 107, 104, 99, 101, 54, 109, 117, 97, 55, 108]⟩) (.int .i64 (d : Int))).run Tryd.prog W = .ok (.int .u8 (zz : Int)) W from fun W => by rw [hzz]; exact run_ixS64 SL d hd W)
  obtain ⟨T2, hT2⟩ : ∃ T2, T2 = nT (ns.set i d) := ⟨_, rfl⟩
  have HT2 := Lib.hid (show strX (fun k => if k = at' then zz else byt T k) 62 = T2 by rw [hT2, hzz, hTn, hat]; exact nT_put (by omega) (by omega))
  have HSZ := Lib.hid hsz
  have tb : was < 256 := by rw [hwas]; exact byt_lt _ _
  have hsame : d = lf ns i → T2 = T ∧ zz = was := fun h => ⟨by
    rw [hT2, hTn, h]
    congr 1
    apply List.ext_getElem (by rw [List.length_set])
    intro k k1 k2
    by_cases e : k = i
    · subst e; rw [List.getElem_set_self, lf_get k2]
    · rw [List.getElem_set_ne (fun q => e q.symm)], by rw [hzz, hwas2, h]⟩
  have hoth : d ≠ lf ns i → pA T2 = none ∧ zz ≠ was := fun h => ⟨by rw [hT2]; exact hTU h, fun e => h (SL_inj hd hnb (by rw [← hzz, e, hwas2]))⟩
  have HBOTH := Lib.hid (And.intro hsame hoth)
  clear hTn hnl hbb hns hTU hnb hsz hat hwas hwas2 hzz hT2 hsame hoth
  clear hm hy hbl h1 h2 h3 hr hrl yb hp he hT
  have HYY := Lib.hid (And.intro y1 (And.intro y3 (And.intro y4 y5)))
  have HZZ := Lib.hid (And.intro z1 (And.intro z3 z4))
  clear y1 y3 y4 y5 z1 z3 z4
  have Y2 := Lib.hid (show decide ((62 : Nat) < 20) = false by decide)
  go_enter Tryd.func6, Tryd.ntmps6
  go_upto_region 1 with fail
  go_cut [0] (fun s0 wx => s0 = .int .i64 4 ∧ Hid (Below W.heap.size W wx))
  case first =>
    go_wp2_with fail
    go_meet
    exact ⟨rfl, Lib.hid (below_new W _)⟩
  case rest =>
  obtain ⟨rfl, BB⟩ := hcut
  clear x1 x3 x4
  replace R := Lib.hid (R.out.below BB.out)
  have BB0 := Lib.hid BB.out.size
  go_upto_region 6 with (first
    | (go_at_call 14; refine (clone_any R (by omega)).mono ?_; rintro e w1 ⟨p1, g1, c1, rfl, N1, hb⟩; have N := Lib.hid N1; replace BB := Lib.hid (BB.out.trans (hb.mono BB.out.size)); clear N1 hb)
    | ((with_reducible refine wpList_at 27 rfl ?_); refine wpList_noughts rfl (.tmp 26) _ rfl rfl N rfl (m := 32) rfl (by omega) (by omega) ?_; clear N; intro p2 g2 c2 w2 N hb; rw [HY.out, HM.out] at N; rw [HM.out]; replace BB := Lib.hid (BB.out.trans (hb.out.mono BB0.out)); clear hb; try simp only [Act.put, List.setIfInBounds_toArray, List.set_cons_zero, List.set_cons_succ]))
  have hmc : m ≤ c2 := N.out.row.le
  obtain ⟨p3, e3, R3x⟩ := N.out.row.slice (l := 0) (h := 32) (m := c2) (by omega) (by omega) (by omega) (Nat.le_refl _)
  simp only [Nat.sub_zero, Nat.zero_add] at e3 R3x
  have SLI := Lib.hid (fun W : World => (run_sl (w := W) (bounds_h (n := m) (h := 32) (c := c2) (by omega))).trans (by rw [e3]))
  have R3 := Lib.hid R3x
  clear e3 R3x N
  go_upto_region 10 with (first
    | ((with_reducible refine wpList_at 34 rfl ?_); refine wpList_known4 rfl (.slice p3 32 c2) _ (by exact exec_slH rfl rfl rfl (SLI.out _)) ?_; try simp only [Act.put, List.setIfInBounds_toArray, List.set_cons_zero, List.set_cons_succ])
    | (go_at_call 15; refine (make_known (PL.out.below BB.out) R3 (by omega) HMK.out).mono ?_; rintro e w3 ⟨p4, g4, c4, rfl, R4, hb⟩; rw [← HRL.out] at R4 ⊢; have R5 := Lib.hid R4; replace BB := Lib.hid (BB.out.trans (hb.mono BB.out.size)); clear R4 hb)
    | (go_at_call 8; ((with_reducible refine (atext_known (Lib.hid (L.out.below BB.out)) (Lib.hid (PL.out.below BB.out)) (Lib.hid (CL.out.below BB.out)) R5 HRL (by omega) HCL.out).mono ?_); intro e w4 h4); obtain ⟨he4, hb⟩ := h4; rw [HT.out, HE.out] at he4; subst he4; replace R5 := Lib.hid (R5.out.below hb); replace BB := Lib.hid (BB.out.trans (hb.mono BB.out.size)); clear hb)
    | ((with_reducible refine wpList_at 44 rfl ?_); refine wpList_known4 rfl (.bool false) _ (by exact exec_neqE3 (z := 0) (q := false) rfl rfl rfl Y0.out) ?_; try simp only [Act.put, List.setIfInBounds_toArray, List.set_cons_zero, List.set_cons_succ])
    | ((with_reducible refine wpList_at 47 rfl ?_); refine wpList_known4 rfl (.int .i64 ((62 : Nat) : Int)) _ (by exact by rw [← HSZ.out]; exact exec_lenS rfl rfl) ?_; try simp only [Act.put, List.setIfInBounds_toArray, List.set_cons_zero, List.set_cons_succ])
    | ((with_reducible refine wpList_at 48 rfl ?_); refine wpList_known4 rfl (.bool false) _ (by exact exec_lss3v (a := 62) (b := 20) (q := false) rfl rfl rfl Y2.out) ?_; try simp only [Act.put, List.setIfInBounds_toArray, List.set_cons_zero, List.set_cons_succ]))
  have sb : T.size ≤ 140737488355328 := by rw [HSZ.out]; omega
  go_upto_region 11 with (first
    | ((with_reducible refine wpList_at 51 rfl ?_); refine wpList_cv rfl (.tmp 50) rfl rfl sb ?_; intro p7 g7 c7 w7 N hb7; rw [HSZ.out] at N; rw [HSZ.out]; have R50 := R5; replace R5 := Lib.hid (R5.out.below hb7.out); have B7 := hb7; have BB7 := Lib.hid BB.out.size; replace BB := Lib.hid (BB.out.trans (hb7.out.mono BB.out.size)); clear hb7; try simp only [Act.put, List.setIfInBounds_toArray, List.set_cons_zero, List.set_cons_succ]))
  obtain rfl := N.out.hd
  have CW := Lib.hid (show w7.cell? ⟨g7, at', none⟩ = some (.int .u8 (was : Int)) by have := N.out.row.cell at' atb; rw [Nat.zero_add] at this; rw [← HWAS.out]; exact this)
  obtain ⟨y1, y3, y4, y5⟩ := HYY.out
  go_upto_region 13 with (first
    | ((with_reducible refine wpList_at 63 rfl ?_); refine wpList_ix (k := 1) (j := at') Tryd.underlying22 (by kernel_rfl) (.tmp 61) (.tmp 62) rfl rfl rfl rfl atb rfl ?_; rw [Nat.mul_one, Nat.zero_add]; try simp only [Act.put, List.setIfInBounds_toArray, List.set_cons_zero, List.set_cons_succ])
    | ((with_reducible refine wpList_at 64 rfl ?_); refine wpList_ld1 5 (.tmp 63) rfl rfl rfl Tryd.underlying5 rfl CW.out ?_; try simp only [Act.put, List.setIfInBounds_toArray, List.set_cons_zero, List.set_cons_succ]))
  clear y1 y3 y4 y5 CW
  obtain ⟨z1, z3, z4⟩ := HZZ.out
  have LOW := Lib.hid N.out.low
  go_upto_region 14 with (first
    | ((with_reducible refine wpList_at 71 rfl ?_); refine wpList_known4 rfl (.int .u8 (zz : Int)) _ (by exact exec_index rfl (HIX.out _)) ?_; try simp only [Act.put, List.setIfInBounds_toArray, List.set_cons_zero, List.set_cons_succ])
    | ((with_reducible refine wpList_at 72 rfl ?_); refine wpList_ix (k := 1) (j := at') Tryd.underlying22 (by kernel_rfl) (.tmp 65) (.tmp 66) rfl rfl rfl rfl atb rfl ?_; rw [Nat.mul_one, Nat.zero_add]; try simp only [Act.put, List.setIfInBounds_toArray, List.set_cons_zero, List.set_cons_succ])
    | ((with_reducible refine wpList_atn rfl ?_); refine wpList_mput0 rfl (.tmp 72) (.tmp 71) rfl N rfl rfl atb zzb ?_; clear N; intro w8 N hb8; replace R5 := Lib.hid (R50.out.below (B7.out.trans hb8.out)); replace BB := Lib.hid (BB.out.trans (hb8.out.mono BB7.out)); clear hb8; try simp only [Act.put, List.setIfInBounds_toArray, List.set_cons_zero, List.set_cons_succ]))
  clear z1 z3 z4
  have CV := Lib.hid ((row_strX N.out.row).trans (by rw [HT2.out]))
  obtain ⟨hsame, hoth⟩ := HBOTH.out
  by_cases hdd : d = lf ns i
  · obtain ⟨e1, e2⟩ := hsame hdd
    have HPA2 := Lib.hid (show pA T2 = some r by rw [e1]; exact HPA.out)
    have Y4 := Lib.hid (show decide (zz = was) = true by simp [e2])
    have Y5 := Lib.hid (show decide ((0 : Int) = 0) = true by decide)
    clear hsame hoth hdd e1 e2
    go_wp2_with (first
      | ((with_reducible refine wpList_at 75 rfl ?_); refine wpList_known4 rfl (.string T2) _ (by exact exec_cv rfl CV.out) ?_; try simp only [Act.put, List.setIfInBounds_toArray, List.set_cons_zero, List.set_cons_succ])
      | (go_at_call 11; ((with_reducible refine (aparse_any (Lib.hid (L.out.below BB.out)) (Lib.hid (PL.out.below BB.out)) (Lib.hid (CL.out.below BB.out)) T2).mono ?_); intro e w5 h5); obtain ⟨r6, p6, g6, c6, he5, hr6, R6, hb⟩ := h5; rw [HPA2.out] at he5 hr6; obtain rfl : r = r6 := hr6.symm; subst he5; rw [← HRL.out] at R6 ⊢; have R7 := Lib.hid R6; replace R5 := Lib.hid (R5.out.below hb); replace N := Lib.hid (N.out.below hb); replace BB := Lib.hid (BB.out.trans (hb.mono BB.out.size)); clear R6 hb hr6)
      | ((with_reducible refine wpList_at 81 rfl ?_); refine wpList_ix (k := 1) (j := at') Tryd.underlying22 (by kernel_rfl) (.tmp 79) (.tmp 80) rfl rfl rfl rfl atb rfl ?_; rw [Nat.mul_one, Nat.zero_add]; try simp only [Act.put, List.setIfInBounds_toArray, List.set_cons_zero, List.set_cons_succ])
      | ((with_reducible refine wpList_at 82 rfl ?_); refine wpList_ld1 5 (.tmp 81) rfl rfl rfl Tryd.underlying5 rfl (by have := N.out.row.cell at' atb; rw [Nat.zero_add, if_pos rfl] at this; exact this) ?_; try simp only [Act.put, List.setIfInBounds_toArray, List.set_cons_zero, List.set_cons_succ])
      | ((with_reducible refine wpList_at 84 rfl ?_); refine wpList_known4 rfl (.bool true) _ (by exact exec_eq8v (a := zz) (b := was) (q := true) rfl rfl rfl Y4.out) ?_; try simp only [Act.put, List.setIfInBounds_toArray, List.set_cons_zero, List.set_cons_succ])
      | ((with_reducible refine wpList_at 86 rfl ?_); refine wpList_known4 rfl (.bool true) _ (by exact exec_eqE3 (z := 0) (z2 := 0) (q := true) rfl rfl rfl Y5.out) ?_; try simp only [Act.put, List.setIfInBounds_toArray, List.set_cons_zero, List.set_cons_succ])
      | (go_at_call 13; refine (equal_any R5 R7 rfl (Lib.hid fun _ _ => rfl)).mono ?_; rintro e w6 ⟨rfl, rfl⟩))
    go_ret
    exact ⟨rfl, BB.out⟩
  · obtain ⟨e1, e2⟩ := hoth hdd
    have HPA2 := Lib.hid e1
    have Y4 := Lib.hid (show decide (zz = was) = false by simp [e2])
    have Y5 := Lib.hid (show decide ((140 : Int) = 140) = true by decide)
    have Y6 := Lib.hid (show decide ((0 : Nat) = 0) = true by decide)
    clear hsame hoth hdd e1 e2
    go_wp2_with (first
      | ((with_reducible refine wpList_at 75 rfl ?_); refine wpList_known4 rfl (.string T2) _ (by exact exec_cv rfl CV.out) ?_; try simp only [Act.put, List.setIfInBounds_toArray, List.set_cons_zero, List.set_cons_succ])
      | (go_at_call 11; ((with_reducible refine (aparse_any (Lib.hid (L.out.below BB.out)) (Lib.hid (PL.out.below BB.out)) (Lib.hid (CL.out.below BB.out)) T2).mono ?_); intro e w5 h5); obtain ⟨r6, p6, g6, c6, he5, hr6, R6, hb⟩ := h5; rw [HPA2.out] at he5 hr6; obtain rfl : [] = r6 := hr6.symm; subst he5; replace N := Lib.hid (N.out.below hb); replace BB := Lib.hid (BB.out.trans (hb.mono BB.out.size)); clear R6 hb hr6)
      | ((with_reducible refine wpList_at 81 rfl ?_); refine wpList_ix (k := 1) (j := at') Tryd.underlying22 (by kernel_rfl) (.tmp 79) (.tmp 80) rfl rfl rfl rfl atb rfl ?_; rw [Nat.mul_one, Nat.zero_add]; try simp only [Act.put, List.setIfInBounds_toArray, List.set_cons_zero, List.set_cons_succ])
      | ((with_reducible refine wpList_at 82 rfl ?_); refine wpList_ld1 5 (.tmp 81) rfl rfl rfl Tryd.underlying5 rfl (by have := N.out.row.cell at' atb; rw [Nat.zero_add, if_pos rfl] at this; exact this) ?_; try simp only [Act.put, List.setIfInBounds_toArray, List.set_cons_zero, List.set_cons_succ])
      | ((with_reducible refine wpList_at 84 rfl ?_); refine wpList_known4 rfl (.bool false) _ (by exact exec_eq8v (a := zz) (b := was) (q := false) rfl rfl rfl Y4.out) ?_; try simp only [Act.put, List.setIfInBounds_toArray, List.set_cons_zero, List.set_cons_succ])
      | ((with_reducible refine wpList_at 93 rfl ?_); refine wpList_known4 rfl (.bool true) _ (by exact exec_eqE3 (z := 140) (z2 := 140) (q := true) rfl rfl rfl Y5.out) ?_; try simp only [Act.put, List.setIfInBounds_toArray, List.set_cons_zero, List.set_cons_succ])
      | ((with_reducible refine wpList_at 97 rfl ?_); refine wpList_known4 rfl (.bool true) _ (by exact exec_eql3v (a := 0) (b := 0) (q := true) rfl rfl rfl Y6.out) ?_; try simp only [Act.put, List.setIfInBounds_toArray, List.set_cons_zero, List.set_cons_succ]))
    go_ret
    exact ⟨rfl, BB.out⟩
set_option maxHeartbeats 16000000 in
theorem one4 (W : World) (L : Hid (S.Both W)) (PL : Hid (PLaid W)) (CL : Hid (S.CLaid W)) (a0 u rv : Int) (x1 : IntKind.u64.wrap a0 = u) (x3 : u.tmod 3 = rv) (x4 : IntKind.i64.wrap rv = 2) (a1 : Option Addr) (g1 o1 n1 c1 : Nat) (x1' : Nat → Nat) (R : Hid (Row W a1 g1 o1 n1 c1 x1')) (hn : n1 ≤ 140737488351232)
    (a2 u2 rv2 : Int) (i : Nat) (hi : i < 59) (y1 : IntKind.u64.wrap a2 = u2) (y3 : u2.tmod 59 = rv2) (y4 : IntKind.i64.wrap rv2 = (i : Int)) (a3 u3 rv3 : Int) (d : Nat) (hd : d < 32) (z1 : IntKind.u64.wrap a3 = u3) (z3 : u3.tmod 32 = rv3) (z4 : IntKind.i64.wrap rv3 = (d : Int)) :
    Calls Tryd.prog 6 #[.int .i64 a0, .slice a1 n1 c1, .int .i64 a2, .int .i64 a3] W fun e w' => e = .returned (.bool true) ∧ Below W.heap.size W w' := by
  obtain ⟨m, hm⟩ : ∃ m, m = n1 + 32 := ⟨_, rfl⟩
  obtain ⟨y, hy⟩ : ∃ y, y = cat x1' n1 (fun _ => 0) := ⟨_, rfl⟩
  have hbl : (tl y 32).length = cC 4 := tl_length _ _
  obtain ⟨h1, h2, h3⟩ := mk_sizes (j := 4) (by omega) hbl
  obtain ⟨r, hr⟩ : ∃ r, r = hL 4 ++ tl y 32 ++ tL 4 := ⟨_, rfl⟩
  rw [← hr] at h1 h2 h3
  obtain ⟨rl, hrl⟩ : ∃ rl, rl = r.length := ⟨_, rfl⟩
  have HRL := Lib.hid hrl
  have yb : ∀ i, y i < 256 := fun i => by rw [hy]; exact cat_byte n1 R.out.byte (fun _ => by omega) i
  obtain ⟨hp, he⟩ := pA_tK h2 (by omega) (by omega) (isB_tl yb 32)
  obtain ⟨T, hT⟩ : ∃ T, T = (tK (4 + 1) (tl y 32)).1 := ⟨_, rfl⟩
  rw [← hT] at hp
  have HT := Lib.hid hT.symm
  have HE := Lib.hid he
  have HPA := Lib.hid hp
  have HCL := Lib.hid h2
  have HMK := Lib.hid (show mkOf 5 (tl y 32) = some r from h1)
  have HM := Lib.hid hm.symm
  have HY := Lib.hid hy.symm
  have rb : rl ≤ 60 := by omega
  have mb : 32 ≤ m := by omega
  have Y0 := Lib.hid (show decide ((0 : Int) ≠ 0) = false by decide)
  have hTn : T = nT (nsB 1 (tl y 32)) := hT
  have hnl : (nsB 1 (tl y 32)).length = 59 := by rw [nsB_len, grp_len32 (tl_length _ _)]
  have hbb : ∀ x, x ∈ tl y 32 → x < 256 := isB_tl yb 32
  obtain ⟨ns, hns⟩ : ∃ ns, ns = nsB 1 (tl y 32) := ⟨_, rfl⟩
  have hTU : d ≠ lf ns i → pA (nT (ns.set i d)) = none := fun h => by rw [hns] at h ⊢; exact pA_turned hbb (.inr (.inr ⟨rfl, tl_length _ _⟩)) (by omega) hd h
  have hnb : lf ns i < 32 := by rw [hns, lf_get (by omega)]; exact nsB_lt (by omega) _ _ (List.getElem_mem _)
  rw [← hns] at hTn hnl
  have hsz : T.size = 62 := by rw [hTn, nT_size, hnl]
  obtain ⟨at', hat⟩ : ∃ at' : Nat, at' = 3 + i := ⟨_, rfl⟩
  have HAT := Lib.hid hat
  have y5 : 3 + (i : Int) = (at' : Int) := by omega
  have atb : at' < 62 := by omega
  obtain ⟨was, hwas⟩ : ∃ was, was = byt T at' := ⟨_, rfl⟩
  have hwas2 : was = byt SL (lf ns i) := by rw [hwas, hTn, hat, nT_byte (by omega)]
  have HWAS := Lib.hid hwas.symm
  obtain ⟨zz, hzz⟩ : ∃ zz, zz = byt SL d := ⟨_, rfl⟩
  have zzb : zz < 256 := by rw [hzz]; exact byt_lt _ _
  have HIX := Lib.hid (show ∀ W : World, (Instr.index 9 (.string ⟨#[113, 112, 122, 114, 121, 57, 120, 56, 103, 102, 50, 116, 118, 100, 119, 48, 115, 51, 106, 110, 53, 52, 107, 104, 99, 101, 54, 109, 117, 97, 55, 108]⟩) (.int .i64 (d : Int))).run Tryd.prog W = .ok (.int .u8 (zz : Int)) W from fun W => by rw [hzz]; exact run_ixS64 SL d hd W)
  obtain ⟨T2, hT2⟩ : ∃ T2, T2 = nT (ns.set i d) := ⟨_, rfl⟩
  have HT2 := Lib.hid (show strX (fun k => if k = at' then zz else byt T k) 62 = T2 by rw [hT2, hzz, hTn, hat]; exact nT_put (by omega) (by omega))
  have HSZ := Lib.hid hsz
  have tb : was < 256 := by rw [hwas]; exact byt_lt _ _
  have hsame : d = lf ns i → T2 = T ∧ zz = was := fun h => ⟨by
    rw [hT2, hTn, h]
    congr 1
    apply List.ext_getElem (by rw [List.length_set])
    intro k k1 k2
    by_cases e : k = i
    · subst e; rw [List.getElem_set_self, lf_get k2]
    · rw [List.getElem_set_ne (fun q => e q.symm)], by rw [hzz, hwas2, h]⟩
  have hoth : d ≠ lf ns i → pA T2 = none ∧ zz ≠ was := fun h => ⟨by rw [hT2]; exact hTU h, fun e => h (SL_inj hd hnb (by rw [← hzz, e, hwas2]))⟩
  have HBOTH := Lib.hid (And.intro hsame hoth)
  clear hTn hnl hbb hns hTU hnb hsz hat hwas hwas2 hzz hT2 hsame hoth
  clear hm hy hbl h1 h2 h3 hr hrl yb hp he hT
  have HYY := Lib.hid (And.intro y1 (And.intro y3 (And.intro y4 y5)))
  have HZZ := Lib.hid (And.intro z1 (And.intro z3 z4))
  clear y1 y3 y4 y5 z1 z3 z4
  have Y2 := Lib.hid (show decide ((62 : Nat) < 20) = false by decide)
  go_enter Tryd.func6, Tryd.ntmps6
  go_upto_region 1 with fail
  go_cut [0] (fun s0 wx => s0 = .int .i64 5 ∧ Hid (Below W.heap.size W wx))
  case first =>
    go_wp2_with fail
    go_meet
    exact ⟨rfl, Lib.hid (below_new W _)⟩
  case rest =>
  obtain ⟨rfl, BB⟩ := hcut
  clear x1 x3 x4
  replace R := Lib.hid (R.out.below BB.out)
  have BB0 := Lib.hid BB.out.size
  go_upto_region 6 with (first
    | (go_at_call 14; refine (clone_any R (by omega)).mono ?_; rintro e w1 ⟨p1, g1, c1, rfl, N1, hb⟩; have N := Lib.hid N1; replace BB := Lib.hid (BB.out.trans (hb.mono BB.out.size)); clear N1 hb)
    | ((with_reducible refine wpList_at 27 rfl ?_); refine wpList_noughts rfl (.tmp 26) _ rfl rfl N rfl (m := 32) rfl (by omega) (by omega) ?_; clear N; intro p2 g2 c2 w2 N hb; rw [HY.out, HM.out] at N; rw [HM.out]; replace BB := Lib.hid (BB.out.trans (hb.out.mono BB0.out)); clear hb; try simp only [Act.put, List.setIfInBounds_toArray, List.set_cons_zero, List.set_cons_succ]))
  have hmc : m ≤ c2 := N.out.row.le
  obtain ⟨p3, e3, R3x⟩ := N.out.row.slice (l := 0) (h := 32) (m := c2) (by omega) (by omega) (by omega) (Nat.le_refl _)
  simp only [Nat.sub_zero, Nat.zero_add] at e3 R3x
  have SLI := Lib.hid (fun W : World => (run_sl (w := W) (bounds_h (n := m) (h := 32) (c := c2) (by omega))).trans (by rw [e3]))
  have R3 := Lib.hid R3x
  clear e3 R3x N
  go_upto_region 10 with (first
    | ((with_reducible refine wpList_at 34 rfl ?_); refine wpList_known4 rfl (.slice p3 32 c2) _ (by exact exec_slH rfl rfl rfl (SLI.out _)) ?_; try simp only [Act.put, List.setIfInBounds_toArray, List.set_cons_zero, List.set_cons_succ])
    | (go_at_call 15; refine (make_known (PL.out.below BB.out) R3 (by omega) HMK.out).mono ?_; rintro e w3 ⟨p4, g4, c4, rfl, R4, hb⟩; rw [← HRL.out] at R4 ⊢; have R5 := Lib.hid R4; replace BB := Lib.hid (BB.out.trans (hb.mono BB.out.size)); clear R4 hb)
    | (go_at_call 8; ((with_reducible refine (atext_known (Lib.hid (L.out.below BB.out)) (Lib.hid (PL.out.below BB.out)) (Lib.hid (CL.out.below BB.out)) R5 HRL (by omega) HCL.out).mono ?_); intro e w4 h4); obtain ⟨he4, hb⟩ := h4; rw [HT.out, HE.out] at he4; subst he4; replace R5 := Lib.hid (R5.out.below hb); replace BB := Lib.hid (BB.out.trans (hb.mono BB.out.size)); clear hb)
    | ((with_reducible refine wpList_at 44 rfl ?_); refine wpList_known4 rfl (.bool false) _ (by exact exec_neqE3 (z := 0) (q := false) rfl rfl rfl Y0.out) ?_; try simp only [Act.put, List.setIfInBounds_toArray, List.set_cons_zero, List.set_cons_succ])
    | ((with_reducible refine wpList_at 47 rfl ?_); refine wpList_known4 rfl (.int .i64 ((62 : Nat) : Int)) _ (by exact by rw [← HSZ.out]; exact exec_lenS rfl rfl) ?_; try simp only [Act.put, List.setIfInBounds_toArray, List.set_cons_zero, List.set_cons_succ])
    | ((with_reducible refine wpList_at 48 rfl ?_); refine wpList_known4 rfl (.bool false) _ (by exact exec_lss3v (a := 62) (b := 20) (q := false) rfl rfl rfl Y2.out) ?_; try simp only [Act.put, List.setIfInBounds_toArray, List.set_cons_zero, List.set_cons_succ]))
  have sb : T.size ≤ 140737488355328 := by rw [HSZ.out]; omega
  go_upto_region 11 with (first
    | ((with_reducible refine wpList_at 51 rfl ?_); refine wpList_cv rfl (.tmp 50) rfl rfl sb ?_; intro p7 g7 c7 w7 N hb7; rw [HSZ.out] at N; rw [HSZ.out]; have R50 := R5; replace R5 := Lib.hid (R5.out.below hb7.out); have B7 := hb7; have BB7 := Lib.hid BB.out.size; replace BB := Lib.hid (BB.out.trans (hb7.out.mono BB.out.size)); clear hb7; try simp only [Act.put, List.setIfInBounds_toArray, List.set_cons_zero, List.set_cons_succ]))
  obtain rfl := N.out.hd
  have CW := Lib.hid (show w7.cell? ⟨g7, at', none⟩ = some (.int .u8 (was : Int)) by have := N.out.row.cell at' atb; rw [Nat.zero_add] at this; rw [← HWAS.out]; exact this)
  obtain ⟨y1, y3, y4, y5⟩ := HYY.out
  go_upto_region 13 with (first
    | ((with_reducible refine wpList_at 63 rfl ?_); refine wpList_ix (k := 1) (j := at') Tryd.underlying22 (by kernel_rfl) (.tmp 61) (.tmp 62) rfl rfl rfl rfl atb rfl ?_; rw [Nat.mul_one, Nat.zero_add]; try simp only [Act.put, List.setIfInBounds_toArray, List.set_cons_zero, List.set_cons_succ])
    | ((with_reducible refine wpList_at 64 rfl ?_); refine wpList_ld1 5 (.tmp 63) rfl rfl rfl Tryd.underlying5 rfl CW.out ?_; try simp only [Act.put, List.setIfInBounds_toArray, List.set_cons_zero, List.set_cons_succ]))
  clear y1 y3 y4 y5 CW
  obtain ⟨z1, z3, z4⟩ := HZZ.out
  have LOW := Lib.hid N.out.low
  go_upto_region 14 with (first
    | ((with_reducible refine wpList_at 71 rfl ?_); refine wpList_known4 rfl (.int .u8 (zz : Int)) _ (by exact exec_index rfl (HIX.out _)) ?_; try simp only [Act.put, List.setIfInBounds_toArray, List.set_cons_zero, List.set_cons_succ])
    | ((with_reducible refine wpList_at 72 rfl ?_); refine wpList_ix (k := 1) (j := at') Tryd.underlying22 (by kernel_rfl) (.tmp 65) (.tmp 66) rfl rfl rfl rfl atb rfl ?_; rw [Nat.mul_one, Nat.zero_add]; try simp only [Act.put, List.setIfInBounds_toArray, List.set_cons_zero, List.set_cons_succ])
    | ((with_reducible refine wpList_atn rfl ?_); refine wpList_mput0 rfl (.tmp 72) (.tmp 71) rfl N rfl rfl atb zzb ?_; clear N; intro w8 N hb8; replace R5 := Lib.hid (R50.out.below (B7.out.trans hb8.out)); replace BB := Lib.hid (BB.out.trans (hb8.out.mono BB7.out)); clear hb8; try simp only [Act.put, List.setIfInBounds_toArray, List.set_cons_zero, List.set_cons_succ]))
  clear z1 z3 z4
  have CV := Lib.hid ((row_strX N.out.row).trans (by rw [HT2.out]))
  obtain ⟨hsame, hoth⟩ := HBOTH.out
  by_cases hdd : d = lf ns i
  · obtain ⟨e1, e2⟩ := hsame hdd
    have HPA2 := Lib.hid (show pA T2 = some r by rw [e1]; exact HPA.out)
    have Y4 := Lib.hid (show decide (zz = was) = true by simp [e2])
    have Y5 := Lib.hid (show decide ((0 : Int) = 0) = true by decide)
    clear hsame hoth hdd e1 e2
    go_wp2_with (first
      | ((with_reducible refine wpList_at 75 rfl ?_); refine wpList_known4 rfl (.string T2) _ (by exact exec_cv rfl CV.out) ?_; try simp only [Act.put, List.setIfInBounds_toArray, List.set_cons_zero, List.set_cons_succ])
      | (go_at_call 11; ((with_reducible refine (aparse_any (Lib.hid (L.out.below BB.out)) (Lib.hid (PL.out.below BB.out)) (Lib.hid (CL.out.below BB.out)) T2).mono ?_); intro e w5 h5); obtain ⟨r6, p6, g6, c6, he5, hr6, R6, hb⟩ := h5; rw [HPA2.out] at he5 hr6; obtain rfl : r = r6 := hr6.symm; subst he5; rw [← HRL.out] at R6 ⊢; have R7 := Lib.hid R6; replace R5 := Lib.hid (R5.out.below hb); replace N := Lib.hid (N.out.below hb); replace BB := Lib.hid (BB.out.trans (hb.mono BB.out.size)); clear R6 hb hr6)
      | ((with_reducible refine wpList_at 81 rfl ?_); refine wpList_ix (k := 1) (j := at') Tryd.underlying22 (by kernel_rfl) (.tmp 79) (.tmp 80) rfl rfl rfl rfl atb rfl ?_; rw [Nat.mul_one, Nat.zero_add]; try simp only [Act.put, List.setIfInBounds_toArray, List.set_cons_zero, List.set_cons_succ])
      | ((with_reducible refine wpList_at 82 rfl ?_); refine wpList_ld1 5 (.tmp 81) rfl rfl rfl Tryd.underlying5 rfl (by have := N.out.row.cell at' atb; rw [Nat.zero_add, if_pos rfl] at this; exact this) ?_; try simp only [Act.put, List.setIfInBounds_toArray, List.set_cons_zero, List.set_cons_succ])
      | ((with_reducible refine wpList_at 84 rfl ?_); refine wpList_known4 rfl (.bool true) _ (by exact exec_eq8v (a := zz) (b := was) (q := true) rfl rfl rfl Y4.out) ?_; try simp only [Act.put, List.setIfInBounds_toArray, List.set_cons_zero, List.set_cons_succ])
      | ((with_reducible refine wpList_at 86 rfl ?_); refine wpList_known4 rfl (.bool true) _ (by exact exec_eqE3 (z := 0) (z2 := 0) (q := true) rfl rfl rfl Y5.out) ?_; try simp only [Act.put, List.setIfInBounds_toArray, List.set_cons_zero, List.set_cons_succ])
      | (go_at_call 13; refine (equal_any R5 R7 rfl (Lib.hid fun _ _ => rfl)).mono ?_; rintro e w6 ⟨rfl, rfl⟩))
    go_ret
    exact ⟨rfl, BB.out⟩
  · obtain ⟨e1, e2⟩ := hoth hdd
    have HPA2 := Lib.hid e1
    have Y4 := Lib.hid (show decide (zz = was) = false by simp [e2])
    have Y5 := Lib.hid (show decide ((140 : Int) = 140) = true by decide)
    have Y6 := Lib.hid (show decide ((0 : Nat) = 0) = true by decide)
    clear hsame hoth hdd e1 e2
    go_wp2_with (first
      | ((with_reducible refine wpList_at 75 rfl ?_); refine wpList_known4 rfl (.string T2) _ (by exact exec_cv rfl CV.out) ?_; try simp only [Act.put, List.setIfInBounds_toArray, List.set_cons_zero, List.set_cons_succ])
      | (go_at_call 11; ((with_reducible refine (aparse_any (Lib.hid (L.out.below BB.out)) (Lib.hid (PL.out.below BB.out)) (Lib.hid (CL.out.below BB.out)) T2).mono ?_); intro e w5 h5); obtain ⟨r6, p6, g6, c6, he5, hr6, R6, hb⟩ := h5; rw [HPA2.out] at he5 hr6; obtain rfl : [] = r6 := hr6.symm; subst he5; replace N := Lib.hid (N.out.below hb); replace BB := Lib.hid (BB.out.trans (hb.mono BB.out.size)); clear R6 hb hr6)
      | ((with_reducible refine wpList_at 81 rfl ?_); refine wpList_ix (k := 1) (j := at') Tryd.underlying22 (by kernel_rfl) (.tmp 79) (.tmp 80) rfl rfl rfl rfl atb rfl ?_; rw [Nat.mul_one, Nat.zero_add]; try simp only [Act.put, List.setIfInBounds_toArray, List.set_cons_zero, List.set_cons_succ])
      | ((with_reducible refine wpList_at 82 rfl ?_); refine wpList_ld1 5 (.tmp 81) rfl rfl rfl Tryd.underlying5 rfl (by have := N.out.row.cell at' atb; rw [Nat.zero_add, if_pos rfl] at this; exact this) ?_; try simp only [Act.put, List.setIfInBounds_toArray, List.set_cons_zero, List.set_cons_succ])
      | ((with_reducible refine wpList_at 84 rfl ?_); refine wpList_known4 rfl (.bool false) _ (by exact exec_eq8v (a := zz) (b := was) (q := false) rfl rfl rfl Y4.out) ?_; try simp only [Act.put, List.setIfInBounds_toArray, List.set_cons_zero, List.set_cons_succ])
      | ((with_reducible refine wpList_at 93 rfl ?_); refine wpList_known4 rfl (.bool true) _ (by exact exec_eqE3 (z := 140) (z2 := 140) (q := true) rfl rfl rfl Y5.out) ?_; try simp only [Act.put, List.setIfInBounds_toArray, List.set_cons_zero, List.set_cons_succ])
      | ((with_reducible refine wpList_at 97 rfl ?_); refine wpList_known4 rfl (.bool true) _ (by exact exec_eql3v (a := 0) (b := 0) (q := true) rfl rfl rfl Y6.out) ?_; try simp only [Act.put, List.setIfInBounds_toArray, List.set_cons_zero, List.set_cons_succ]))
    go_ret
    exact ⟨rfl, BB.out⟩
theorem walk (W : World) (hL : laidMetH Tryd.prog S.adLaid W) (a0 : Int) (w0 : (Lit.int .i64 a0).wf = true) (a1 : Option Addr) (g1 o1 n1 c1 : Nat) (x1 : Nat → Nat) (w1 : Row W a1 g1 o1 n1 c1 x1) (m1 : c1 ≤ 140737488351232) (a2 : Int) (w2 : (Lit.int .i64 a2).wf = true) (a3 : Int) (w3 : (Lit.int .i64 a3).wf = true) :
    Calls Tryd.prog 6 #[.int .i64 a0, .slice a1 n1 c1, .int .i64 a2, .int .i64 a3] W fun e w' => e = .returned (.bool true) ∧ Below W.heap.size W w' := by
  obtain ⟨hL1, hL2, hL3⟩ := S.of_ad hL
  have hn1 : n1 ≤ 140737488351232 := Nat.le_trans w1.le m1
  obtain ⟨j, hj, hj2⟩ := nth_of a0 3 (by omega) (by omega)
  obtain ⟨i, hi, hi2⟩ := nth_of a2 39 (by omega) (by omega)
  obtain ⟨k, hk, hk2⟩ := nth_of a2 59 (by omega) (by omega)
  obtain ⟨d, hd, hd2⟩ := nth_of a3 32 (by omega) (by omega)
  have c3 : j = 0 ∨ j = 1 ∨ j = 2 := by omega
  rcases c3 with rfl | rfl | rfl
  · exact one2 W (Lib.hid hL1) (Lib.hid hL2) (Lib.hid hL3) a0 _ _ rfl rfl hj2 a1 g1 o1 n1 c1 x1 (Lib.hid w1) hn1 a2 _ _ i hi rfl rfl hi2 a3 _ _ d hd rfl rfl hd2
  · exact one3 W (Lib.hid hL1) (Lib.hid hL2) (Lib.hid hL3) a0 _ _ rfl rfl hj2 a1 g1 o1 n1 c1 x1 (Lib.hid w1) hn1 a2 _ _ k hk rfl rfl hk2 a3 _ _ d hd rfl rfl hd2
  · exact one4 W (Lib.hid hL1) (Lib.hid hL2) (Lib.hid hL3) a0 _ _ rfl rfl hj2 a1 g1 o1 n1 c1 x1 (Lib.hid w1) hn1 a2 _ _ k hk rfl rfl hk2 a3 _ _ d hd rfl rfl hd2

set_option maxRecDepth 100000 in
theorem lifted (os : Os) (started : os.Started) (H : Type) (enc : TypeId × Value → H) :
    ReturnsInHanded {} Tryd.checked os 6 .any (fun w args => (Rows.addressTurnedSpec.pre enc Tryd.prog Tryd.f6 [] false w args ∧ laidMetH Tryd.prog S.adLaid w) ∧ sizedMet enc Tryd.prog Tryd.f6 (OpenSpec.ofChange Rows.addressTurnedSpec) false w args)
      (Rows.addressTurnedSpec.post enc Tryd.prog Tryd.f6 false true false false) := by
  refine returnsInHanded_of_change_and (C := Tryd.checked) (X := fun w _ => laidMetH Tryd.prog S.adLaid w) (fun _ _ _ hh h => h.of_heap hh) own started (by kernel_rfl) Tryd.func6
    (ChangeSpec.witness_shaped (enc := enc) (C := Tryd.checked) (os := os) (X := fun w _ => laidMetH Tryd.prog S.adLaid w) false (World.doorLaid Tryd.prog 400 os) #[.int .i64 0, .slice none 0 0, .int .i64 0, .int .i64 0] 8 rfl (World.shaped_of_RefB (by kernel_rfl) (by kernel_rfl)) (by kernel_rfl) (by kernel_rfl) (by kernel_rfl) (S.ad_door_met os _)) ?_
  intro W base args ds gs before hval0 hW _ hsz0 hL _
  have hval : ∀ (j : Nat) t v, Tryd.f6.params[j]? = some t → args[j]? = some v → Value.okWide Tryd.prog W .any base t v := hval0
  have hsz : (DataW.weightsEach Tryd.prog (Tryd.f6.params.toList ++ Rows.addressTurnedSpec.plain.varTypes Tryd.prog) (ds ++ gs)).all (· ≤ reachBytes) = true := hsz0
  have hW' := hW
  obtain ⟨p, q, hA0, hV, rfl, hfz, hnd⟩ := hW
  have hA : DataW.TrodAll enc Tryd.prog W 0 (fun _ => true) true Tryd.f6.params.toList args.toList ds p := hA0
  rw [Tryd.params6] at hA hval hsz
  obtain ⟨v0, vs0, d0, ds0, p0, q0, hargs, rfl, rfl, h0, r0⟩ := trodAll_cons hA
  obtain ⟨v1, vs1, d1, ds1, p1, q1, rfl, rfl, rfl, h1, r1⟩ := trodAll_cons r0
  obtain ⟨v2, vs2, d2, ds2, p2, q2, rfl, rfl, rfl, h2, r2⟩ := trodAll_cons r1
  obtain ⟨v3, vs3, d3, ds3, p3, q3, rfl, rfl, rfl, h3, r3⟩ := trodAll_cons r2
  obtain ⟨rfl, rfl, rfl⟩ := trodAll_nil r3
  obtain rfl : args = #[v0, v1, v2, v3] := by cases args; simp_all
  obtain ⟨rfl, rfl⟩ := trodVars_none hV
  obtain ⟨a0, rfl, rfl, rfl, w0⟩ := open_int Tryd.underlying3 (hval 0 3 v0 rfl rfl) h0
  have k1 := h1
  have lt1 : ∀ x ∈ p1, x.block < W.heap.size := by obtain ⟨m, hm⟩ := k1; exact DataW.trod_lt m _ _ _ hm
  obtain ⟨a1, g1, o1, n1, c1, x1, rfl, w1, m1⟩ := open_row (j := 1) (hval 1 22 v1 rfl rfl) h1 hsz rfl rfl
  obtain ⟨a2, rfl, rfl, rfl, w2⟩ := open_int Tryd.underlying3 (hval 2 3 v2 rfl rfl) h2
  obtain ⟨a3, rfl, rfl, rfl, w3⟩ := open_int Tryd.underlying3 (hval 3 3 v3 rfl rfl) h3
  clear hA0 hval0 hsz0
  simp only [List.append_nil] at hW'
  refine (walk W hL a0 w0 a1 g1 o1 n1 c1 x1 w1 m1 a2 w2 a3 w3).mono fun e W' ⟨he, bel⟩ => ?_
  subst he
  exact ⟨_, rfl, _, _, _, [], _, [], hW', trodAll_mk1 (shut_bool Tryd.underlying4 _), (trodAll_cons_mk (shut_int Tryd.underlying3 w0) (trodAll_cons_mk (Below.trod laidOut (by kernel_rfl) (of_decide_eq_true (by kernel_rfl)) k1 bel lt1) (trodAll_cons_mk (shut_int Tryd.underlying3 w2) (trodAll_cons_mk (shut_int Tryd.underlying3 w3) trodAll_mk0)))), rfl, bel.frame _, fun h => by cases h⟩

theorem over : Rows.AddressTurnedSaid :=
  OpenClaim.holds_of_wide 6 Tryd.f6 rfl rfl rfl rfl rfl rfl rfl ⟨rfl, rfl, rfl, rfl, rfl⟩ rfl rfl rfl rfl rfl (by kernel_rfl) Tryd.func6 (by kernel_rfl)
    (of_decide_eq_true (by kernel_rfl)) (by unfold Func.isWrapper; first | (rw [if_pos (by decide +kernel)]; kernel_rfl) | (rw [if_neg (by decide +kernel)]; exact ⟨rfl, rfl⟩))
    (fun os started H enc _ => lifted os started H enc)

/-- The tied card. -/
theorem card_holds : Rows.AddressTurnedCardSaid :=
  Claim7.holds_tied_plain_at .later [] [.data, .data, .data, .data] true (true, "cebc64d560f048e6503ea368f248693ae0eb79a8a9687a36121a0726f7c6fcfa") false
    over (fun _ h => by cases h) (by kernel_rfl) (fun _ h => by cases h) addressTurned_row_tie rfl ⟨rfl, rfl⟩ (by kernel_rfl) rfl
    (fun f fn hf hfn => by
      obtain rfl : f = 6 := Option.some.inj ((show Tryd.prog.funcNamed "sporran/sporranlaw14.AddressTurned" = some 6 by kernel_rfl).symm.trans hf) |>.symm
      obtain rfl : fn = Tryd.f6 := (Option.some.inj (Tryd.func6.symm.trans hfn)).symm
      exact ⟨by kernel_rfl, fun j t ht => by
        rw [Tryd.params6] at ht
        have hm : t ∈ [3, 22, 3, 3] := by simpa using Array.mem_of_getElem? ht
        have hall : ([3, 22, 3, 3].all fun u => !Tryd.prog.wantsStandIn u) = true := by kernel_rfl
        exact (show Tryd.prog.wantsStandIn t = false by simpa using List.all_eq_true.1 hall t hm)⟩)
    (by kernel_rfl)
#print axioms card_holds
end Go.Proofs.YtghjgkgfpblijaaDoor.addressTurned
