/- A reader: its calls of more than one bit. -/
import Derived.Test.YtoopcmcmjaikhaaDoorWz
set_option linter.unusedSimpArgs false
set_option linter.unusedVariables false
set_option maxRecDepth 100000
namespace Go.Proofs.YtoopcmcmjaikhaaDoor
open Go.RowKit Go.Lib Go.Sort

theorem exec_dbl {o : Oper} {ev : Operand → Value} {W : World} {x y : Operand} {n : Nat} (ho : o.op = .binOp .shl 59 x y 50) (hx : ev x = .int .u64 (n : Int)) (hy : ev y = .int .u64 1) (hn : n < 9223372036854775808) : (execOp ev o).run Tryd.prog W = .ok (.value (.int .u64 ((2 * n : Nat) : Int))) W := by
  unfold execOp
  simp [ho, hx, hy, go_sem, IntKind.wrap_u64]
  omega
theorem exec_or1 {o : Oper} {ev : Operand → Value} {W : World} {x y : Operand} {n : Nat} (ho : o.op = .binOp .or 59 x y 59) (hx : ev x = .int .u64 ((2 * n : Nat) : Int)) (hy : ev y = .int .u64 1) (hn : n < 9223372036854775808) : (execOp ev o).run Tryd.prog W = .ok (.value (.int .u64 ((2 * n + 1 : Nat) : Int))) W := by
  have h : bits .or .u64 ((2 * n : Nat) : Int) 1 = ((2 * n + 1 : Nat) : Int) := by
    have h1 : bits .or .u64 ((2 * n : Nat) : Int) 1 = (((2 * n) ||| 1 : Nat) : Int) := bits_or_u64_nat (2 * n) 1 (by omega) (by omega)
    have h2 : (2 * n) ||| 1 = 2 * n + 1 := by
      have := Nat.two_pow_add_eq_or_of_lt (i := 1) (b := 1) (by omega) n
      simpa using this.symm
    rw [h1, h2]
  unfold execOp
  simp only [ho, hx, hy]
  simp [go_sem, h]
  simpa using h
theorem valFrom_lt63 (xs : List Nat) (t : Nat) {j : Nat} (h : j < 64) : valFrom xs t j < 9223372036854775808 := Nat.lt_of_lt_of_le (vF_lt _ _) (Nat.le_trans (Nat.pow_le_pow_right (by omega) (by omega : j ≤ 63)) (by decide))
section
variable {D w : World} {b : Nat} {p : Option Addr} {g c : Nat} {xs : List Nat} {t : Nat}
theorem rbits_bad (h : Rdr D w b p g c xs t) (m : Int) (hm : ¬ (0 ≤ m ∧ m ≤ 64)) : Calls Tryd.prog 89 #[.pointer (some ⟨b, 0, none⟩), .int .i64 m] w fun e w' => e = .returned (.tuple #[.int .u64 0, .int .i64 1]) ∧ w = w' := by
  have M := Lib.hid (rmade_any h)
  clear h
  by_cases h1 : m < 0
  · clear hm
    go_enter Tryd.func89, Tryd.ntmps89
    go_wp2
    go_step3
    go_wp2_with (go_at_call 87; refine M.out.mono ?_; rintro e w2 ⟨rfl, rfl⟩)
    try rw [Exit.noGoto_ret]
    go_ret2
    exact ⟨rfl, rfl⟩
  · have h2 : m > 64 := by omega
    clear hm
    go_enter Tryd.func89, Tryd.ntmps89
    go_wp2
    go_step3
    go_wp2_with (go_at_call 87; refine M.out.mono ?_; rintro e w2 ⟨rfl, rfl⟩)
    try rw [Exit.noGoto_ret]
    go_ret2
    exact ⟨rfl, rfl⟩
theorem rbits_short (h : Rdr D w b p g c xs t) (m : Nat) (hm : m ≤ 64) (hs : 8 * xs.length - t < m) : Calls Tryd.prog 89 #[.pointer (some ⟨b, 0, none⟩), .int .i64 (m : Int)] w fun e w' => e = .returned (.tuple #[.int .u64 0, .int .i64 50]) ∧ Below w.heap.size w w' := by
  have M := Lib.hid (rmade_any h)
  have LF := Lib.hid (rleft_any h)
  obtain ⟨d, hd⟩ : ∃ d, d = 8 * xs.length - t := ⟨_, rfl⟩
  rw [← hd] at LF hs
  have h1 : ¬ (m : Int) < 0 := by omega
  have h2 : ¬ (m : Int) > 64 := by omega
  have h3 : (m : Int) > (d : Int) := by omega
  clear h hd hs hm
  go_enter Tryd.func89, Tryd.ntmps89
  go_wp2
  go_step3
  go_wp2_with (first
    | (go_at_call 87; refine M.out.mono ?_; rintro e w2 ⟨rfl, rfl⟩)
    | (go_at_call 90; refine LF.out.mono ?_; rintro e w3 ⟨rfl, hb⟩; have HB := Lib.hid hb; clear hb))
  try rw [Exit.noGoto_ret]
  go_ret2
  exact ⟨rfl, HB.out⟩
set_option maxHeartbeats 4000000 in
theorem rbits_any (h : Rdr D w b p g c xs t) (m : Nat) (hm : m ≤ 64) (hs : t + m ≤ 8 * xs.length) : Calls Tryd.prog 89 #[.pointer (some ⟨b, 0, none⟩), .int .i64 (m : Int)] w (RrPost D w b p g c xs (t + m) (.tuple #[.int .u64 ((valFrom xs t m : Nat) : Int), .int .i64 0])) := by
  have M := Lib.hid (rmade_any h)
  have LF := Lib.hid (rleft_any h)
  obtain ⟨d, hd⟩ : ∃ d, d = 8 * xs.length - t := ⟨_, rfl⟩
  rw [← hd] at LF
  have h1 : ¬ (m : Int) < 0 := by omega
  have h2 : ¬ (m : Int) > 64 := by omega
  have h3 : ¬ (m : Int) > (d : Int) := by omega
  have H := Lib.hid h
  have HM := Lib.hid (And.intro hm hs)
  clear h hd hm hs
  go_enter Tryd.func89, Tryd.ntmps89
  go_wp2
  refine wp_scope_jumps 0 (fun a' w' => ∃ (k j v : Nat) (u2 u3 u4 u5 u7 u8 u9 u10 u11 u12 u13 u14 u15 u16 u17 u18 u19 u20 u21 u22 u23 u24 u25 u26 u27 u28 u29 u30 : Value), a' = { tmps := #[.pointer (some ⟨b, 0, none⟩), .int .i64 (k : Int), u2, u3, u4, u5, .int .u64 (v : Int), u7, u8, u9, u10, u11, u12, u13, u14, u15, u16, u17, u18, u19, u20, u21, u22, u23, u24, u25, u26, u27, u28, u29, u30], defers := [] } ∧ Hid (Rdr D w' b p g c xs (t + j)) ∧ Hid (k + j = m) ∧ Hid (Only b w w') ∧ Hid (v = valFrom xs t j)) (fun a' _ => (intOfV (a'.tmps.getD 1 undef)).toNat) rfl ?_ ?_
  · have OB := Lib.hid (Only.refl b w)
    have HK := Lib.hid (show m + 0 = m from rfl)
    rcases Nat.eq_zero_or_pos m with hk0 | hk0
    · subst hk0
      skip
      go_wp2_with (first
        | (go_at_call 87; refine M.out.mono ?_; rintro e w2 ⟨rfl, rfl⟩)
        | (go_at_call 90; refine LF.out.mono ?_; rintro e w3 ⟨rfl, hb⟩; replace OB := Lib.hid (OB.out.trans (only_of_below (b := b) hb)); replace H := Lib.hid (H.out.call hb); clear hb))
      go_step3
      go_wp2
      try simp only [Exit.jump]
      try rw [Exit.noGoto_ret]
      go_ret2
      exact ⟨rfl, H.out, OB.out⟩
    · obtain ⟨k', hk1⟩ : ∃ k', m = k' + 1 := ⟨m - 1, by omega⟩
      have HK1 := Lib.hid hk1
      have HJ := Lib.hid (show t + 0 < 8 * xs.length ∧ 0 < 64 by have := HK.out; have := HM.out; omega)
      obtain ⟨x, hx⟩ : ∃ x, x = bitAt xs t := ⟨_, rfl⟩
      have HX := Lib.hid hx
      skip
      have cj : (m : Int) - 1 = (k' : Int) := by omega
      have cw := Lib.hid (show wrap64 (k' : Int) = (k' : Int) by have := HK.out; have := HK1.out; have := HM.out; unfold wrap64; omega)
      have cg : (m : Int) > 0 := by omega
      clear hk0 hk1 hx
      go_wp2_with (first
        | (go_at_call 87; refine M.out.mono ?_; rintro e w2 ⟨rfl, rfl⟩)
        | (go_at_call 90; refine LF.out.mono ?_; rintro e w3 ⟨rfl, hb⟩; replace OB := Lib.hid (OB.out.trans (only_of_below (b := b) hb)); replace H := Lib.hid (H.out.call hb); clear hb))
      go_step3
      go_wp2_with (first
        | (go_at_call 114; refine (rtake_any H.out HJ.out.1).mono ?_; rintro e w4 ⟨rfl, hR, hO⟩; have HR := Lib.hid hR; have HO := Lib.hid (OB.out.trans hO); rw [← HX.out]; clear hR hO; cases x))
      all_goals go_step3
      all_goals try rw [cw.out]
      · have VE : valFrom xs t (0 + 1) = 0 := by show 2 * 0 + (bitAt xs t).toNat = _; rw [← HX.out]; rfl
        exact ⟨rfl, k', 0 + 1, 0, _, _, _, _, _, _, _, _, _, _, _, _, _, _, _, _, _, _, _, _, _, _, _, _, _, _, _, _, rfl, HR, Lib.hid (by have := HK.out; have := HK1.out; omega), HO, Lib.hid VE.symm⟩
      · have VE : valFrom xs t (0 + 1) = 1 := by show 2 * 0 + (bitAt xs t).toNat = _; rw [← HX.out]; rfl
        exact ⟨rfl, k', 0 + 1, 1, _, _, _, _, _, _, _, _, _, _, _, _, _, _, _, _, _, _, _, _, _, _, _, _, _, _, _, _, rfl, HR, Lib.hid (by have := HK.out; have := HK1.out; omega), HO, Lib.hid VE.symm⟩
  · rintro a' w' ⟨k, j, v, u2, u3, u4, u5, u7, u8, u9, u10, u11, u12, u13, u14, u15, u16, u17, u18, u19, u20, u21, u22, u23, u24, u25, u26, u27, u28, u29, u30, rfl, H2, HK, OB, HV⟩
    clear M LF H h1 h2 h3
    have H := H2
    clear H2
    rcases Nat.eq_zero_or_pos k with hk0 | hk0
    · subst hk0
      obtain rfl : j = m := by have := HK.out; omega
      go_wp2
      try simp only [Exit.jump]
      try rw [Exit.noGoto_ret]
      go_ret2
      rw [← HV.out]; exact ⟨rfl, H.out, OB.out⟩
    · obtain ⟨k', hk1⟩ : ∃ k', k = k' + 1 := ⟨k - 1, by omega⟩
      have HK1 := Lib.hid hk1
      have HJ := Lib.hid (show t + j < 8 * xs.length ∧ j < 64 by have := HK.out; have := HM.out; omega)
      obtain ⟨x, hx⟩ : ∃ x, x = bitAt xs (t + j) := ⟨_, rfl⟩
      have HX := Lib.hid hx
      have VB := Lib.hid (show v < 9223372036854775808 by rw [HV.out]; exact valFrom_lt63 xs t HJ.out.2)
      have cj : (k : Int) - 1 = (k' : Int) := by omega
      have cw := Lib.hid (show wrap64 (k' : Int) = (k' : Int) by have := HK.out; have := HK1.out; have := HM.out; unfold wrap64; omega)
      have cg : (k : Int) > 0 := by omega
      clear hk0 hk1 hx
      go_wp2_with (first
        | (refine wpList_known rfl (.int .u64 ((2 * v : Nat) : Int)) _ (exec_dbl rfl rfl rfl VB.out) ?_)
        | (refine wpList_known rfl (.int .u64 ((2 * v + 1 : Nat) : Int)) _ (exec_or1 rfl rfl rfl VB.out) ?_)
        | (go_at_call 114; refine (rtake_any H.out HJ.out.1).mono ?_; rintro e w4 ⟨rfl, hR, hO⟩; have HR := Lib.hid hR; have HO := Lib.hid (OB.out.trans hO); rw [← HX.out]; clear hR hO; cases x))
      all_goals go_step3
      all_goals try rw [cw.out]
      · have VE : valFrom xs t (j + 1) = 2 * v := by show 2 * vF _ j + (bitAt xs (t + j)).toNat = _; rw [← HX.out, HV.out]; rfl
        exact ⟨rfl, ⟨k', j + 1, 2 * v, _, _, _, _, _, _, _, _, _, _, _, _, _, _, _, _, _, _, _, _, _, _, _, _, _, _, _, _, rfl, HR, Lib.hid (by have := HK.out; have := HK1.out; omega), HO, Lib.hid VE.symm⟩, by have := HK1.out; simp [intOfV]; omega⟩
      · have VE : valFrom xs t (j + 1) = 2 * v + 1 := by show 2 * vF _ j + (bitAt xs (t + j)).toNat = _; rw [← HX.out, HV.out]; rfl
        exact ⟨rfl, ⟨k', j + 1, 2 * v + 1, _, _, _, _, _, _, _, _, _, _, _, _, _, _, _, _, _, _, _, _, _, _, _, _, _, _, _, _, rfl, HR, Lib.hid (by have := HK.out; have := HK1.out; omega), HO, Lib.hid VE.symm⟩, by have := HK1.out; simp [intOfV]; omega⟩
end
end Go.Proofs.YtoopcmcmjaikhaaDoor

