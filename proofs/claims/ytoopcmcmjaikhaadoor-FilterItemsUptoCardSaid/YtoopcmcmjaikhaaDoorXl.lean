/- The numbers in a filter, the program's: all of it. -/
import Derived.Test.YtoopcmcmjaikhaaDoorXk
set_option linter.unusedSimpArgs false
set_option linter.unusedVariables false
set_option maxRecDepth 100000
namespace Go.Proofs.YtoopcmcmjaikhaaDoor
open Go.RowKit Go.Lib Go.Sort

theorem infoL64 : (Tryd.prog.info? 59).map (fun i => (i.zero, i.size, i.bytes)) = some (some (.int .u64 0), 1, 8) := by kernel_rfl
set_option maxHeartbeats 16000000 in
theorem fival_good {w : World} {p : Option Addr} {g o n c : Nat} {x : Nat → Nat} (R : Hid (Row w p g o n c x)) (hd : dec n x = 0) (hn : n ≤ 140737488351232) (hv : val x ≤ 20000) : Calls Tryd.prog 27 #[.slice p n c] w (VEnd w (vbody (val x) (tl (fun i => x (wOf (x 0) + i)) (n - wOf (x 0))))) := by
  have S := Lib.hid (decode_good R (Lib.hid hd) (Lib.hid (by omega)))
  unfold DecGood at S
  obtain ⟨y, hy⟩ : ∃ y, y = fun i => x (wOf (x 0) + i) := ⟨_, rfl⟩
  obtain ⟨v, hv2⟩ : ∃ v, v = val x := ⟨_, rfl⟩
  obtain ⟨m, hm⟩ : ∃ m, m = n - wOf (x 0) := ⟨_, rfl⟩
  rw [← hv2, ← hm, ← hy] at S
  rw [← hv2, ← hm, ← hy]
  have HMM := Lib.hid (show m ≤ 140737488351232 by omega)
  have HV := Lib.hid (show v ≤ 20000 by omega)
  clear hd R hv hv2 hm hn hy
  obtain ⟨xs, hxs⟩ : ∃ xs, xs = tl y m := ⟨_, rfl⟩
  rw [← hxs]
  have HX := Lib.hid hxs
  clear hxs
  obtain ⟨E, hE⟩ : ∃ E, E = v * 784931 := ⟨_, rfl⟩
  obtain ⟨M, hM⟩ : ∃ M, M = E / 2 ^ 19 := ⟨_, rfl⟩
  obtain ⟨RES, hRES⟩ : ∃ RES, RES = aV (bitAt xs) (8 * xs.length) E M [] v 0 0 := ⟨_, rfl⟩
  obtain ⟨VR, hVR⟩ : ∃ VR, VR = vbody v xs := ⟨_, rfl⟩
  have F0 := Lib.hid (show RES = none → VR = none from fun h => by
    rw [hVR]; unfold vbody; rw [← hE, ← hM, ← hRES, h])
  have F1 := Lib.hid (show ∀ l t, RES = some (l, t) → VR = if 8 * xs.length - t < 8 ∧ valFrom xs t (8 * xs.length - t) = 0 then some l else none from fun l t h => by
    rw [hVR]; unfold vbody; rw [← hE, ← hM, ← hRES, h])
  rw [← hVR]
  have HE := Lib.hid hE
  have HM := Lib.hid hM
  have HR := Lib.hid hRES.symm
  have ME := Lib.hid (show E ≤ 20000 * 784931 ∧ M < 2147483648 ∧ (M + 1) * 2 ^ 19 ≤ 2 * (20000 * 784931) by have := HV.out; omega)
  have K := Lib.hid (show decide ((20000 : Int) < ((v : Nat) : Int)) = false from decide_eq_false (by have := HV.out; omega))
  clear hE hM hRES hVR
  go_enter Tryd.func27, Tryd.ntmps27
  go_wp2_with (first
    | (go_at_call 54; refine S.out.mono ?_; rintro e w3 ⟨p3, g3, c3, rfl, hR, hb⟩; have HB3 := Lib.hid hb; have R3 := Lib.hid hR; clear hb hR)
    | ((with_reducible refine wpL_at 20 rfl ?_); refine wpList_known rfl (.bool false) _ (exec_neqR rfl rfl rfl (by decide)) ?_)
    | ((with_reducible refine wpL_at 23 rfl ?_); refine wpList_known rfl (.bool false) _ (exec_gtu rfl rfl rfl K.out) ?_)
    | (go_at_call 55; refine (ropen_any R3 HMM.out).mono ?_; rintro e w4 ⟨b, p4, g4, c4, rfl, hR, hb⟩; rw [← HX.out] at hR; have RD := Lib.hid hR; have SZ := Lib.hid HB3.out.size; have HB := Lib.hid (HB3.out.trans (hb.mono HB3.out.size)); clear hb hR)
    | ((with_reducible refine wpL_at 28 rfl ?_); refine wpList_known rfl (.int .u64 (E : Int)) _ (by rw [HE.out]; exact exec_mulE (b := 784931) rfl rfl rfl (by have := HV.out; omega)) ?_))
  have VN := Lib.hid (vown_nothing w4 59 1 w.heap.size (wv (lf [])) HB.out.size)
  go_loopg [9, 10, 30] v (fun k l a i wr => ∃ (j t last : Nat) (acc : List Nat) (p : Option Addr) (g c : Nat), j + k = v ∧ l = .slice p j c ∧ a = .int .u64 (last : Int) ∧ i = .int .u64 (j : Int) ∧ Hid (acc.length = j ∧ last ≤ E) ∧ Hid (VOwn 59 1 w.heap.size wr p g j c (wv (lf acc))) ∧ Hid (Rdr w3 wr b p4 g4 c4 xs t) ∧ Hid (Below w.heap.size w wr) ∧ Hid (aV (bitAt xs) (8 * xs.length) E M acc k t last = RES))
  case atStart => exact ⟨0, 0, 0, [], none, 0, 0, by omega, rfl, rfl, rfl, Lib.hid ⟨rfl, Nat.zero_le _⟩, VN, RD, HB, HR⟩
  case round =>
    clear VN RD HB HR HB3 S
    obtain ⟨j, t, last, acc, p, g, c, hj, rfl, rfl, rfl, HA, VN, RD, HB, HR⟩ := hrel
    obtain ⟨k, hk⟩ : ∃ k : Nat, k = gk := ⟨_, rfl⟩
    rw [← hk] at hj HR
    by_cases hlt : j < v
    · have HLT := Lib.hid hlt
      have LT := Lib.hid (show decide ((j : Int) < (v : Int)) = true from decide_eq_true (by omega))
      obtain ⟨k', hk'⟩ : ∃ k', k = k' + 1 := ⟨k - 1, by omega⟩
      have HK := Lib.hid hk'
      rw [hk'] at HR
      obtain ⟨R5, hR5⟩ : ∃ R5, R5 = rr (bitAt xs) (8 * xs.length) 19 M (8 * xs.length + 1) t 0 := ⟨_, rfl⟩
      have RI := Lib.hid (rrice_any RD.out 19 M (by omega) (by have := ME.out; omega))
      rw [← hR5] at RI
      obtain ⟨v5, er5, t5⟩ := R5
      have HR5 := Lib.hid hR5.symm
      clear hR5 hk' hlt
      by_cases he : er5 = 0
      · subst he
        have VB := Lib.hid (show v5 < (M + 1) * 2 ^ 19 ∧ last + v5 < 18446744073709551616 by
          have h1 := (rr_val _ _ _ _ (by omega) ME.out.2.1 _ _ _ _ _ (Nat.zero_le _) HR5.out).2
          have h2 := ME.out
          have h3 := HA.out
          exact ⟨h1, by omega⟩)
        by_cases hg : E ≤ last + v5
        · have GE := Lib.hid (show decide ((E : Int) ≤ ((last + v5 : Nat) : Int)) = true from decide_eq_true (by omega))
          have Z := Lib.hid (F0.out (HR.out.symm.trans (aV_bad HR5.out (.inr hg))))
          rw [Z.out]
          clear hg HR F0 F1
          go_wp2_with (first
          | ((with_reducible refine wpL_at 31 rfl ?_); refine wpList_known rfl (.bool true) _ (exec_ltu rfl rfl rfl LT.out) ?_)
          | ((with_reducible refine wpL_at 35 rfl ?_); refine wpList_known rfl (.int .u64 (M : Int)) _ (by rw [HM.out]; exact exec_shr19 rfl rfl rfl) ?_)
          | (go_at_call 56; refine RI.out.mono ?_; rintro e w5 ⟨v6, er6, t6, h5, rfl, hR, hO⟩; injection h5 with e1 e2; injection e2 with e2 e3; subst e1 e2 e3; have RD5 := Lib.hid hR; have VN5 := Lib.hid (VN.out.only RD.out.box hO (by decide)); have HB5 := Lib.hid (HB.out.trans (hO.below (Nat.le_trans SZ.out RD.out.lo) HB.out.size)); clear hR hO)
          | ((with_reducible refine wpL_at 40 rfl ?_); refine wpList_known rfl (.bool false) _ (exec_neqR rfl rfl rfl (by decide)) ?_)
          | ((with_reducible refine wpL_at 44 rfl ?_); refine wpList_known rfl (.int .u64 ((last + v5 : Nat) : Int)) _ (exec_addE rfl rfl rfl VB.out.2) ?_)
          | ((with_reducible refine wpL_at 46 rfl ?_); refine wpList_known rfl (.bool true) _ (exec_gequ rfl rfl rfl GE.out) ?_))
          go_ret2
          exact ⟨rfl, HB5.out⟩
        · have GE := Lib.hid (show decide ((E : Int) ≤ ((last + v5 : Nat) : Int)) = false from decide_eq_false (by omega))
          have HR2 := Lib.hid ((aV_good (acc := acc) HR5.out hg).symm.trans HR.out)
          have HL := Lib.hid (show last + v5 ≤ E by omega)
          clear hg HR
          go_wp2_with (first
          | ((with_reducible refine wpL_at 31 rfl ?_); refine wpList_known rfl (.bool true) _ (exec_ltu rfl rfl rfl LT.out) ?_)
          | ((with_reducible refine wpL_at 35 rfl ?_); refine wpList_known rfl (.int .u64 (M : Int)) _ (by rw [HM.out]; exact exec_shr19 rfl rfl rfl) ?_)
          | (go_at_call 56; refine RI.out.mono ?_; rintro e w5 ⟨v6, er6, t6, h5, rfl, hR, hO⟩; injection h5 with e1 e2; injection e2 with e2 e3; subst e1 e2 e3; have RD5 := Lib.hid hR; have VN5 := Lib.hid (VN.out.only RD.out.box hO (by decide)); have HB5 := Lib.hid (HB.out.trans (hO.below (Nat.le_trans SZ.out RD.out.lo) HB.out.size)); clear hR hO)
          | ((with_reducible refine wpL_at 40 rfl ?_); refine wpList_known rfl (.bool false) _ (exec_neqR rfl rfl rfl (by decide)) ?_)
          | ((with_reducible refine wpL_at 44 rfl ?_); refine wpList_known rfl (.int .u64 ((last + v5 : Nat) : Int)) _ (exec_addE rfl rfl rfl VB.out.2) ?_)
          | ((with_reducible refine wpL_at 46 rfl ?_); refine wpList_known rfl (.bool false) _ (exec_gequ rfl rfl rfl GE.out) ?_)
          | ((with_reducible refine wpL_at 50 rfl ?_); refine wpList_known rfl (.int .u64 ((last + v5 : Nat) : Int)) _ (exec_addE rfl rfl rfl VB.out.2) ?_)
          | ((with_reducible refine wpL_at 53 rfl ?_); refine wpList_vbs 54 59 1 1 rfl _ rfl (wv (fun _ => last + v5)) (fun i _ => rfl) (by unfold maxLen; omega) (ps := #[(0, .int .u64 ((last + v5 : Nat) : Int))]) (by kernel_rfl) (fun W => run_bs1v Tryd.underlying54 infoL64 _ rfl W) rfl ?_; intro p7 g7 w7 N7 hb7; have VN7 := Lib.hid (VN5.out.below hb7.out); have RD7 := Lib.hid (RD5.out.call hb7.out); have HB7 := Lib.hid (HB5.out.trans (hb7.out.mono HB5.out.size)))
          | ((with_reducible refine wpL_at 54 rfl ?_); refine wpList_vapp 54 59 1 8 Tryd.underlying54 infoL64 rfl (by omega) rfl (.tmp 51) (.tmp 53) rfl rfl VN7 rfl (Lib.hid N7.out.row) (by unfold maxLen; have := HV.out; have := HLT.out; omega) (by have := HV.out; have := HLT.out; omega) ?_; intro p8 g8 c8 w8 N8 hg8; have HB8 := Lib.hid (HB7.out.trans (VN7.out.under hg8.out (Nat.le_refl _) VN7.out.low)); have RD8 := Lib.hid (RD7.out.other VN7.out hg8.out (by decide) (by decide)))
          | ((with_reducible refine wpL_at 55 rfl ?_); refine wpList_known rfl (.int .u64 ((j + 1 : Nat) : Int)) _ (exec_addE (b := 1) rfl rfl rfl (by have := HV.out; have := HLT.out; omega)) ?_))
          have VN9 : Hid (VOwn 59 1 w.heap.size w8 p8 g8 (j + 1) c8 (wv (lf (acc ++ [last + v5])))) := Lib.hid (by
            have hA := HA.out.1
            subst hA
            exact N8.out.to fun i hi => wv_one acc (last + v5) i hi)
          go_roundg k'
          case measure => have := HK.out; omega
          case rel => exact ⟨j + 1, t5, last + v5, acc ++ [last + v5], p8, g8, c8, by have := HK.out; omega, by go_num, by go_num, by go_num, Lib.hid ⟨by rw [List.length_append, HA.out.1]; rfl, HL.out⟩, VN9, RD8, HB8, HR2⟩
      · have Z := Lib.hid (F0.out (HR.out.symm.trans (aV_bad HR5.out (.inl he))))
        rw [Z.out]
        have HE5 := Lib.hid (show decide (er5 = 0) = !true from decide_eq_false he)
        clear he HR F0 F1
        go_wp2_with (first
          | ((with_reducible refine wpL_at 31 rfl ?_); refine wpList_known rfl (.bool true) _ (exec_ltu rfl rfl rfl LT.out) ?_)
          | ((with_reducible refine wpL_at 35 rfl ?_); refine wpList_known rfl (.int .u64 (M : Int)) _ (by rw [HM.out]; exact exec_shr19 rfl rfl rfl) ?_)
          | (go_at_call 56; refine RI.out.mono ?_; rintro e w5 ⟨v6, er6, t6, h5, rfl, hR, hO⟩; injection h5 with e1 e2; injection e2 with e2 e3; subst e1 e2 e3; have RD5 := Lib.hid hR; have VN5 := Lib.hid (VN.out.only RD.out.box hO (by decide)); have HB5 := Lib.hid (HB.out.trans (hO.below (Nat.le_trans SZ.out RD.out.lo) HB.out.size)); clear hR hO)
          | ((with_reducible refine wpL_at 40 rfl ?_); refine wpList_known rfl (.bool true) _ (exec_neqR rfl rfl rfl HE5.out) ?_))
        go_ret2
        exact ⟨rfl, HB5.out⟩
    · obtain rfl : j = v := by omega
      obtain rfl : k = 0 := by omega
      have LT := Lib.hid (show decide ((j : Int) < (j : Int)) = false from decide_eq_false (by omega))
      have RS := Lib.hid (show RES = some (acc, t) by rw [← HR.out]; unfold aV pV; simp)
      have VV := Lib.hid (F1.out _ _ RS.out)
      have PAD := Lib.hid (pad_any RD.out)
      clear F0 F1 HR hlt hk hj
      by_cases hp : 8 * xs.length - t < 8 ∧ valFrom xs t (8 * xs.length - t) = 0
      · rw [decide_eq_true hp] at PAD
        have VZ := Lib.hid (VV.out.trans (if_pos hp))
        clear hp VV
        go_wp2_with (first
          | ((with_reducible refine wpL_at 31 rfl ?_); refine wpList_known rfl (.bool false) _ (exec_ltu rfl rfl rfl LT.out) ?_)
          | (go_at_call 57; refine PAD.out.mono ?_; rintro e w5 ⟨rfl, hO⟩; have VN5 := Lib.hid (VN.out.only RD.out.box hO (by decide)); have HB5 := Lib.hid (HB.out.trans (hO.below (Nat.le_trans SZ.out RD.out.lo) HB.out.size)); clear hO))
        go_ret2
        rw [VZ.out]
        exact ⟨p, g, c, by rw [HA.out.1]; rfl, by rw [HA.out.1]; exact VN5.out, HB5.out⟩
      · rw [decide_eq_false hp] at PAD
        have VZ := Lib.hid (VV.out.trans (if_neg hp))
        clear hp VV
        go_wp2_with (first
          | ((with_reducible refine wpL_at 31 rfl ?_); refine wpList_known rfl (.bool false) _ (exec_ltu rfl rfl rfl LT.out) ?_)
          | (go_at_call 57; refine PAD.out.mono ?_; rintro e w5 ⟨rfl, hO⟩; have HB5 := Lib.hid (HB.out.trans (hO.below (Nat.le_trans SZ.out RD.out.lo) HB.out.size)); clear hO))
        go_ret2
        rw [VZ.out]
        exact ⟨rfl, HB5.out⟩
theorem fival_any {w : World} {p : Option Addr} {g o n c : Nat} {x : Nat → Nat} (R : Hid (Row w p g o n c x)) (hn : n ≤ 140737488351232) : Calls Tryd.prog 27 #[.slice p n c] w (VEnd w (vres n x)) := by
  unfold vres
  by_cases hd : dec n x = 0
  · by_cases hv : 20000 < val x
    · rw [if_pos (.inr hv)]
      exact fival_many R hd hn hv
    · rw [if_neg (by rintro (q | q); exact q hd; exact hv q)]
      exact fival_good R hd hn (by omega)
  · rw [if_pos (.inl hd)]
    exact fival_bad R hd
end Go.Proofs.YtoopcmcmjaikhaaDoor

