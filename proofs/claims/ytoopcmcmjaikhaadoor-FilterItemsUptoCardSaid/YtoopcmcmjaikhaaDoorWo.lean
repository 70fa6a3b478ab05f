/- A reader: a new one; the number of the next code. -/
import Derived.Test.YtoopcmcmjaikhaaDoorWq
set_option linter.unusedSimpArgs false
set_option linter.unusedVariables false
set_option maxRecDepth 100000
namespace Go.Proofs.YtoopcmcmjaikhaaDoor
open Go.RowKit Go.Lib Go.Sort

theorem own_typed {w : World} {B : Nat} {p : Option Addr} {g n c : Nat} {x : Nat → Nat} (N : Own B w p g n c x) (h : 0 < n) : ∃ cs, w.heap[g]? = some (.cells cs 5 (0, 0)) := by
  obtain ⟨_, _, _, _, cur, hc, _⟩ := own_set N h 0 (by omega)
  exact ⟨cur, hc⟩
theorem ropen_any {w : World} {p : Option Addr} {g o n c : Nat} {x : Nat → Nat} (R : Hid (Row w p g o n c x)) (hn : n ≤ 140737488351232) : Calls Tryd.prog 55 #[.slice p n c] w fun e w' => ∃ b p2 g2 c2, e = .returned (.pointer (some ⟨b, 0, none⟩)) ∧ Rdr w w' b p2 g2 c2 (tl x n) 0 ∧ Below w.heap.size w w' := by
  have E := Lib.hid (Mem.nil w)
  have HN := Lib.hid hn
  clear hn
  go_enter Tryd.func55, Tryd.ntmps55
  go_wp2_with (first
    | (go_at_call 32; refine (clone_any R (by have := HN.out; omega)).mono ?_; rintro e w2 ⟨p2, g2, c2, rfl, N2, hb2⟩; have N := Lib.hid (Wb.start E.out (fun q hq => by cases hq) (N2.tl) hb2); clear N2 hb2 E)
    | (refine wpList_bld 129 _ rfl rfl (ps := #[(0, .bool true), (1, .slice p2 n c2)]) (by kernel_rfl) (cells := #[.bool true, .slice p2 n c2, .int .i64 0]) (by kernel_rfl) ?_)
    | (refine wb_box (cs := #[.bool true, .slice p2 n c2, .int .i64 0]) N 129 (by decide) rfl (.tmp 5) rfl rfl rfl ?_; clear N; intro b w3 N))
  go_ret
  refine ⟨b, p2, g2, c2, rfl, ⟨?_, N.out.row, fun h0 => own_typed N.out.own h0, N.out.mem.ge _ List.mem_cons_self, Nat.zero_le _, by rw [tl_length]; exact HN.out⟩, N.out.mem.below⟩
  have h := N.out.mem.get List.mem_cons_self
  rw [tl_length]
  exact h
/-- The next code: its number, or the error; and how many bits are taken then. -/
def rr (f : Nat → Bool) (N r most : Nat) : Nat → Nat → Nat → Nat × Int × Nat
  | 0, t, _ => (0, 50, t)
  | fuel + 1, t, k => if N ≤ t then (0, 50, t) else if f t then (if k = most then (0, 51, t + 1) else rr f N r most fuel (t + 1) (k + 1)) else if t + 1 + r ≤ N then ((k * 2 ^ r % 18446744073709551616) ||| vF (fun i => f (t + 1 + i)) r, 0, t + 1 + r) else (0, 50, t + 1)
theorem exec_shlv {o : Oper} {ev : Operand → Value} {W : World} {x y : Operand} {n k : Nat} (ho : o.op = .binOp .shl 59 x y 3) (hx : ev x = .int .u64 (n : Int)) (hy : ev y = .int .i64 (k : Int)) (hk : k < 64) : (execOp ev o).run Tryd.prog W = .ok (.value (.int .u64 ((n * 2 ^ k % 18446744073709551616 : Nat) : Int))) W := by
  have h1 : min k 64 = k := by omega
  unfold execOp
  simp [ho, hx, hy, go_sem, IntKind.bits, h1, IntKind.wrap_u64]
theorem exec_or64 {o : Oper} {ev : Operand → Value} {W : World} {x y : Operand} {a b : Nat} (ho : o.op = .binOp .or 59 x y 59) (hx : ev x = .int .u64 (a : Int)) (hy : ev y = .int .u64 (b : Int)) (ha : a < 18446744073709551616) (hb : b < 18446744073709551616) : (execOp ev o).run Tryd.prog W = .ok (.value (.int .u64 ((a ||| b : Nat) : Int))) W := by
  have h := bits_or_u64_nat a b ha hb
  unfold execOp
  simp [ho, hx, hy, go_sem, h]
theorem exec_equ {o : Oper} {ev : Operand → Value} {W : World} {x y : Operand} {a b : Nat} {q : Bool} (ho : o.op = .binOp .eql 59 x y 59) (hx : ev x = .int .u64 (a : Int)) (hy : ev y = .int .u64 (b : Int)) (hq : decide (a = b) = q) : (execOp ev o).run Tryd.prog W = .ok (.value (.bool q)) W := by
  subst hq
  unfold execOp
  by_cases h : a = b
  · subst h
    simp [ho, hx, hy, go_sem, Tryd.underlying59]
  · have h2 : ¬ ((a : Int) = (b : Int)) := by omega
    simp [ho, hx, hy, go_sem, Tryd.underlying59, h, h2]
theorem exec_inc {o : Oper} {ev : Operand → Value} {W : World} {x y : Operand} {n : Nat} (ho : o.op = .binOp .add 59 x y 59) (hx : ev x = .int .u64 (n : Int)) (hy : ev y = .int .u64 1) (hw : IntKind.u64.wrap ((n : Int) + 1) = ((n + 1 : Nat) : Int)) : (execOp ev o).run Tryd.prog W = .ok (.value (.int .u64 ((n + 1 : Nat) : Int))) W := by
  unfold execOp
  simp only [ho, hx, hy]
  simp [go_sem, hw]
def rdAt (b : Nat) (w : World) : Nat := match w.cell? ⟨b, 2, none⟩ with | some (.int _ q) => q.toNat | _ => 0
theorem Rdr.rdAt {D w : World} {b : Nat} {p : Option Addr} {g c : Nat} {xs : List Nat} {t : Nat} (h : Rdr D w b p g c xs t) : rdAt b w = t := by
  unfold Go.Proofs.YtoopcmcmjaikhaaDoor.rdAt
  rw [cell_of_here h.box 2 (v := .int .i64 (t : Int)) rfl]
  simp
section
variable {D w : World} {b : Nat} {p : Option Addr} {g c : Nat} {xs : List Nat} {t : Nat}
theorem rrice_bad (h : Rdr D w b p g c xs t) (r : Int) (most : Int) (hr : ¬ (0 ≤ r ∧ r ≤ 32)) : Calls Tryd.prog 56 #[.pointer (some ⟨b, 0, none⟩), .int .i64 r, .int .u64 most] w fun e w' => e = .returned (.tuple #[.int .u64 0, .int .i64 1]) ∧ w = w' := by
  have M := Lib.hid (rmade_any h)
  have R := Lib.hid (fun w => isrest_any r w)
  rw [decide_eq_false hr] at R
  clear h hr
  go_enter Tryd.func56, Tryd.ntmps56
  go_wp2
  go_step3
  go_wp2_with (first
    | (go_at_call 87; refine M.out.mono ?_; rintro e w2 ⟨rfl, rfl⟩)
    | (go_at_call 72; refine (R.out _).mono ?_; rintro e w2 ⟨rfl, rfl⟩))
  try rw [Exit.noGoto_ret]
  go_ret2
  exact ⟨rfl, rfl⟩
set_option maxHeartbeats 8000000 in
theorem rrice_any (h : Rdr D w b p g c xs t) (r most : Nat) (hr : r ≤ 32) (hm : most < 18446744073709551616) : Calls Tryd.prog 56 #[.pointer (some ⟨b, 0, none⟩), .int .i64 (r : Int), .int .u64 (most : Int)] w fun e w' => ∃ v er t', rr (bitAt xs) (8 * xs.length) r most (8 * xs.length + 1) t 0 = (v, er, t') ∧ e = .returned (.tuple #[.int .u64 (v : Int), .int .i64 er]) ∧ Rdr D w' b p g c xs t' ∧ Only b w w' := by
  have M := Lib.hid (rmade_any h)
  have R := Lib.hid (fun w => isrest_any (r : Int) w)
  rw [decide_eq_true (show 0 ≤ (r : Int) ∧ (r : Int) ≤ 32 by omega)] at R
  obtain ⟨RES, hres⟩ : ∃ RES, RES = rr (bitAt xs) (8 * xs.length) r most (8 * xs.length + 1) t 0 := ⟨_, rfl⟩
  rw [← hres]
  have H := Lib.hid h
  have HR := Lib.hid (And.intro hr hm)
  have HL := Lib.hid h.len
  have HS := Lib.hid hres.symm
  have HF : Hid (8 * xs.length < t + (8 * xs.length + 1)) := Lib.hid (by omega)
  clear h hr hm hres
  go_enter Tryd.func56, Tryd.ntmps56
  go_wp2
  refine wp_scope_jumps 0 (fun a' w' => ∃ (k t' fuel : Nat) (u3 u4 u5 u6 u7 u9 u10 u11 u12 u13 u14 u15 u16 u17 u18 u19 u20 u21 u22 u23 u24 u25 u26 u27 u28 u29 u30 u31 u32 u33 u34 u35 u36 u37 u38 u39 u40 u41 u42 u43 u44 u45 : Value), a' = { tmps := #[.pointer (some ⟨b, 0, none⟩), .int .i64 (r : Int), .int .u64 (most : Int), u3, u4, u5, u6, u7, .int .u64 (k : Int), u9, u10, u11, u12, u13, u14, u15, u16, u17, u18, u19, u20, u21, u22, u23, u24, u25, u26, u27, u28, u29, u30, u31, u32, u33, u34, u35, u36, u37, u38, u39, u40, u41, u42, u43, u44, u45], defers := [] } ∧ Hid (Rdr D w' b p g c xs t') ∧ Hid (rr (bitAt xs) (8 * xs.length) r most fuel t' k = RES) ∧ Hid (8 * xs.length < t' + fuel) ∧ Hid (Only b w w') ∧ Hid (k ≤ t')) (fun a' w' => 8 * xs.length - rdAt b w') rfl ?_ ?_
  · have OB := Lib.hid (Only.refl b w)
    obtain ⟨f, hf⟩ : ∃ f, (8 * xs.length + 1) = f + 1 := ⟨(8 * xs.length + 1) - 1, by have := HF.out; have := H.out.le; omega⟩
    rw [hf] at HS HF
    clear hf
    unfold rr at HS
    by_cases hA : 8 * xs.length ≤ t
    · have e0 : t = 8 * xs.length := by have := H.out.le; omega
      have HS2 := HS.out
      rw [if_pos hA] at HS2
      have HRE := Lib.hid HS2
      have HE := Lib.hid e0
      clear hA e0 HS2 HS
      go_wp2_with (first
        | (go_at_call 87; refine M.out.mono ?_; rintro e w2 ⟨rfl, rfl⟩)
        | (go_at_call 72; refine (R.out _).mono ?_; rintro e w2 ⟨rfl, rfl⟩))
      go_step3
      go_wp2_with (go_at_call 88; refine (rbit_end H.out HE.out).mono ?_; rintro e w4 ⟨rfl, hb⟩; have HO := Lib.hid (OB.out.trans (only_of_below (b := b) hb)); replace H := Lib.hid (H.out.call hb); clear hb)
      try simp only [Exit.jump]
      try rw [Exit.noGoto_ret]
      go_ret2
      exact ⟨0, 50, _, HRE.out.symm, rfl, H.out, HO.out⟩
    · have HT := Lib.hid (show t < 8 * xs.length by omega)
      rw [if_neg hA] at HS
      clear hA
      obtain ⟨x, hx⟩ : ∃ x, x = bitAt xs t := ⟨_, rfl⟩
      have HX := Lib.hid hx
      rw [← hx] at HS
      clear hx
      have BIT := Lib.hid (rbit_any H.out HT.out)
      rw [← HX.out] at BIT
      cases x
      · by_cases hD : t + 1 + r ≤ 8 * xs.length
        · rw [if_neg (by decide), if_pos hD] at HS
          have HD := Lib.hid hD
          obtain ⟨v, hv⟩ : ∃ v, v = valFrom xs (t + 1) r := ⟨_, rfl⟩
          have HV := Lib.hid hv
          obtain ⟨s, hs⟩ : ∃ s, s = 0 * 2 ^ r % 18446744073709551616 := ⟨_, rfl⟩
          have HSH := Lib.hid hs
          have VB := Lib.hid (show v < 18446744073709551616 ∧ s < 18446744073709551616 from ⟨by rw [hv]; exact Nat.lt_of_lt_of_le (valFrom_lt63 xs _ (by have := HR.out.1; omega)) (by decide), by rw [hs]; exact Nat.mod_lt _ (by omega)⟩)
          clear hD hv hs
          go_wp2_with (first
            | (go_at_call 87; refine M.out.mono ?_; rintro e w2 ⟨rfl, rfl⟩)
            | (go_at_call 72; refine (R.out _).mono ?_; rintro e w2 ⟨rfl, rfl⟩))
          go_step3
          go_wp2_with (first
            | (go_at_call 88; refine BIT.out.mono ?_; rintro e w4 ⟨rfl, hR, hO⟩; have HR4 := Lib.hid hR; have HO4 := Lib.hid (OB.out.trans hO); clear hR hO)
            | (go_at_call 89; refine (rbits_any HR4.out r (by have := HR.out.1; omega) HD.out).mono ?_; rintro e w5 ⟨rfl, hR, hO⟩; have HR5 := Lib.hid hR; have HO5 := Lib.hid (HO4.out.trans hO); rw [← HV.out]; clear hR hO)
            | (refine wpList_known rfl (.int .u64 (s : Int)) _ (by rw [HSH.out]; exact exec_shlv rfl rfl rfl (by have := HR.out.1; omega)) ?_)
            | (refine wpList_known rfl (.int .u64 ((s ||| v : Nat) : Int)) _ (exec_or64 rfl rfl rfl VB.out.2 VB.out.1) ?_))
          try simp only [Exit.jump]
          try rw [Exit.noGoto_ret]
          go_ret2
          refine ⟨_, _, _, HS.out.symm, ?_, HR5.out, HO5.out⟩
          rw [HSH.out, HV.out]
          rfl
        · rw [if_neg (by decide), if_neg hD] at HS
          have HD := Lib.hid (show 8 * xs.length - (t + 1) < r by have := HT.out; omega)
          clear hD
          go_wp2_with (first
            | (go_at_call 87; refine M.out.mono ?_; rintro e w2 ⟨rfl, rfl⟩)
            | (go_at_call 72; refine (R.out _).mono ?_; rintro e w2 ⟨rfl, rfl⟩))
          go_step3
          go_wp2_with (first
            | (go_at_call 88; refine BIT.out.mono ?_; rintro e w4 ⟨rfl, hR, hO⟩; have HR4 := Lib.hid hR; have HO4 := Lib.hid (OB.out.trans hO); clear hR hO)
            | (go_at_call 89; refine (rbits_short HR4.out r (by have := HR.out.1; omega) HD.out).mono ?_; rintro e w5 ⟨rfl, hb⟩; have HR5 := Lib.hid (HR4.out.call hb); have HO5 := Lib.hid (HO4.out.trans (only_of_below (b := b) hb)); clear hb))
          try simp only [Exit.jump]
          try rw [Exit.noGoto_ret]
          go_ret2
          exact ⟨0, 50, _, HS.out.symm, rfl, HR5.out, HO5.out⟩
      · by_cases hk : 0 = most
        · rw [if_pos rfl, if_pos hk] at HS
          have HK := Lib.hid (decide_eq_true hk)
          clear hk
          go_wp2_with (first
            | (go_at_call 87; refine M.out.mono ?_; rintro e w2 ⟨rfl, rfl⟩)
            | (go_at_call 72; refine (R.out _).mono ?_; rintro e w2 ⟨rfl, rfl⟩))
          go_step3
          go_wp2_with (first
            | (go_at_call 88; refine BIT.out.mono ?_; rintro e w4 ⟨rfl, hR, hO⟩; have HR4 := Lib.hid hR; have HO4 := Lib.hid (OB.out.trans hO); clear hR hO)
            | (refine wpList_known rfl (.bool true) _ (exec_equ rfl rfl rfl HK.out) ?_))
          try simp only [Exit.jump]
          try rw [Exit.noGoto_ret]
          go_ret2
          exact ⟨0, 51, _, HS.out.symm, rfl, HR4.out, HO4.out⟩
        · rw [if_pos rfl, if_neg hk] at HS
          have HK := Lib.hid (decide_eq_false hk)
          clear hk
          go_wp2_with (first
            | (go_at_call 87; refine M.out.mono ?_; rintro e w2 ⟨rfl, rfl⟩)
            | (go_at_call 72; refine (R.out _).mono ?_; rintro e w2 ⟨rfl, rfl⟩))
          go_step3
          go_wp2_with (first
            | (go_at_call 88; refine BIT.out.mono ?_; rintro e w4 ⟨rfl, hR, hO⟩; have HR4 := Lib.hid hR; have HO4 := Lib.hid (OB.out.trans hO); clear hR hO)
            | (refine wpList_known rfl (.bool false) _ (exec_equ rfl rfl rfl HK.out) ?_))
          go_step3
          exact ⟨rfl, 1, t + 1, f, _, _, _, _, _, _, _, _, _, _, _, _, _, _, _, _, _, _, _, _, _, _, _, _, _, _, _, _, _, _, _, _, _, _, _, _, _, _, _, _, _, _, rfl, HR4, HS, Lib.hid (by have := HF.out; omega), HO4, Lib.hid (by omega)⟩
  · rintro a' w' ⟨k, t', fuel, u3, u4, u5, u6, u7, u9, u10, u11, u12, u13, u14, u15, u16, u17, u18, u19, u20, u21, u22, u23, u24, u25, u26, u27, u28, u29, u30, u31, u32, u33, u34, u35, u36, u37, u38, u39, u40, u41, u42, u43, u44, u45, rfl, H2, HS2, HF2, OB, HKT⟩
    clear M R H HS HF
    have H := H2
    have HS := HS2
    have HF := HF2
    have MU := Lib.hid H2.out.rdAt
    clear H2 HS2 HF2
    obtain ⟨f, hf⟩ : ∃ f, fuel = f + 1 := ⟨fuel - 1, by have := HF.out; have := H.out.le; omega⟩
    rw [hf] at HS HF
    clear hf
    unfold rr at HS
    by_cases hA : 8 * xs.length ≤ t'
    · have e0 : t' = 8 * xs.length := by have := H.out.le; omega
      have HS2 := HS.out
      rw [if_pos hA] at HS2
      have HRE := Lib.hid HS2
      have HE := Lib.hid e0
      clear hA e0 HS2 HS
      go_wp2_with (go_at_call 88; refine (rbit_end H.out HE.out).mono ?_; rintro e w4 ⟨rfl, hb⟩; have HO := Lib.hid (OB.out.trans (only_of_below (b := b) hb)); replace H := Lib.hid (H.out.call hb); clear hb)
      try simp only [Exit.jump]
      try rw [Exit.noGoto_ret]
      go_ret2
      exact ⟨0, 50, _, HRE.out.symm, rfl, H.out, HO.out⟩
    · have HT := Lib.hid (show t' < 8 * xs.length by omega)
      rw [if_neg hA] at HS
      clear hA
      obtain ⟨x, hx⟩ : ∃ x, x = bitAt xs t' := ⟨_, rfl⟩
      have HX := Lib.hid hx
      rw [← hx] at HS
      clear hx
      have BIT := Lib.hid (rbit_any H.out HT.out)
      rw [← HX.out] at BIT
      cases x
      · by_cases hD : t' + 1 + r ≤ 8 * xs.length
        · rw [if_neg (by decide), if_pos hD] at HS
          have HD := Lib.hid hD
          obtain ⟨v, hv⟩ : ∃ v, v = valFrom xs (t' + 1) r := ⟨_, rfl⟩
          have HV := Lib.hid hv
          obtain ⟨s, hs⟩ : ∃ s, s = k * 2 ^ r % 18446744073709551616 := ⟨_, rfl⟩
          have HSH := Lib.hid hs
          have VB := Lib.hid (show v < 18446744073709551616 ∧ s < 18446744073709551616 from ⟨by rw [hv]; exact Nat.lt_of_lt_of_le (valFrom_lt63 xs _ (by have := HR.out.1; omega)) (by decide), by rw [hs]; exact Nat.mod_lt _ (by omega)⟩)
          clear hD hv hs
          go_wp2_with (first
            | (go_at_call 88; refine BIT.out.mono ?_; rintro e w4 ⟨rfl, hR, hO⟩; have HR4 := Lib.hid hR; have HO4 := Lib.hid (OB.out.trans hO); clear hR hO)
            | (go_at_call 89; refine (rbits_any HR4.out r (by have := HR.out.1; omega) HD.out).mono ?_; rintro e w5 ⟨rfl, hR, hO⟩; have HR5 := Lib.hid hR; have HO5 := Lib.hid (HO4.out.trans hO); rw [← HV.out]; clear hR hO)
            | (refine wpList_known rfl (.int .u64 (s : Int)) _ (by rw [HSH.out]; exact exec_shlv rfl rfl rfl (by have := HR.out.1; omega)) ?_)
            | (refine wpList_known rfl (.int .u64 ((s ||| v : Nat) : Int)) _ (exec_or64 rfl rfl rfl VB.out.2 VB.out.1) ?_))
          try simp only [Exit.jump]
          try rw [Exit.noGoto_ret]
          go_ret2
          refine ⟨_, _, _, HS.out.symm, ?_, HR5.out, HO5.out⟩
          rw [HSH.out, HV.out]
          rfl
        · rw [if_neg (by decide), if_neg hD] at HS
          have HD := Lib.hid (show 8 * xs.length - (t' + 1) < r by have := HT.out; omega)
          clear hD
          go_wp2_with (first
            | (go_at_call 88; refine BIT.out.mono ?_; rintro e w4 ⟨rfl, hR, hO⟩; have HR4 := Lib.hid hR; have HO4 := Lib.hid (OB.out.trans hO); clear hR hO)
            | (go_at_call 89; refine (rbits_short HR4.out r (by have := HR.out.1; omega) HD.out).mono ?_; rintro e w5 ⟨rfl, hb⟩; have HR5 := Lib.hid (HR4.out.call hb); have HO5 := Lib.hid (HO4.out.trans (only_of_below (b := b) hb)); clear hb))
          try simp only [Exit.jump]
          try rw [Exit.noGoto_ret]
          go_ret2
          exact ⟨0, 50, _, HS.out.symm, rfl, HR5.out, HO5.out⟩
      · by_cases hk : k = most
        · rw [if_pos rfl, if_pos hk] at HS
          have HK := Lib.hid (decide_eq_true hk)
          clear hk
          go_wp2_with (first
            | (go_at_call 88; refine BIT.out.mono ?_; rintro e w4 ⟨rfl, hR, hO⟩; have HR4 := Lib.hid hR; have HO4 := Lib.hid (OB.out.trans hO); clear hR hO)
            | (refine wpList_known rfl (.bool true) _ (exec_equ rfl rfl rfl HK.out) ?_))
          try simp only [Exit.jump]
          try rw [Exit.noGoto_ret]
          go_ret2
          exact ⟨0, 51, _, HS.out.symm, rfl, HR4.out, HO4.out⟩
        · rw [if_pos rfl, if_neg hk] at HS
          have HK := Lib.hid (decide_eq_false hk)
          have cw := Lib.hid (show IntKind.u64.wrap ((k : Int) + 1) = ((k + 1 : Nat) : Int) by have := HKT.out; have := HT.out; have := HL.out; rw [IntKind.wrap_u64]; omega)
          clear hk
          go_wp2_with (first
            | (go_at_call 88; refine BIT.out.mono ?_; rintro e w4 ⟨rfl, hR, hO⟩; have HR4 := Lib.hid hR; have HO4 := Lib.hid (OB.out.trans hO); clear hR hO)
            | (refine wpList_known rfl (.bool false) _ (exec_equ rfl rfl rfl HK.out) ?_)
            | (refine wpList_known rfl (.int .u64 ((k + 1 : Nat) : Int)) _ (exec_inc rfl rfl rfl cw.out) ?_))
          go_step3
          exact ⟨rfl, ⟨k + 1, t' + 1, f, _, _, _, _, _, _, _, _, _, _, _, _, _, _, _, _, _, _, _, _, _, _, _, _, _, _, _, _, _, _, _, _, _, _, _, _, _, _, _, _, _, _, rfl, HR4, HS, Lib.hid (by have := HF.out; omega), HO4, Lib.hid (by have := HKT.out; omega)⟩, by rw [HR4.out.rdAt, MU.out]; have := HT.out; omega⟩
end
end Go.Proofs.YtoopcmcmjaikhaaDoor

