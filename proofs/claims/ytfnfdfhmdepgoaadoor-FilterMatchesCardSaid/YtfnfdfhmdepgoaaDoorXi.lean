/- The document's reader of bits: the next code. -/
import Derived.Test.YtfnfdfhmdepgoaaDoorXh
set_option linter.unusedSimpArgs false
set_option linter.unusedVariables false
set_option maxRecDepth 100000
namespace Go.Proofs.YtfnfdfhmdepgoaaDoor
open Go.RowKit Go.Lib Go.Sort

theorem exec_gtu {o : Oper} {ev : Operand → Value} {W : World} {x y : Operand} {a b : Int} {q : Bool} (ho : o.op = .binOp .gtr 57 x y 57) (hx : ev x = .int .u64 a) (hy : ev y = .int .u64 b) (hq : decide (b < a) = q) : (execOp ev o).run Tryd.prog W = .ok (.value (.bool q)) W := by
  subst hq
  unfold execOp
  by_cases h : b < a
  · simp [ho, hx, hy, go_sem, Tryd.underlying57, h]
  · simp [ho, hx, hy, go_sem, Tryd.underlying57, h]
section
variable {D w : World} {b : Nat} {p : Option Addr} {g c : Nat} {xs : List Nat} {t : Nat}
set_option maxHeartbeats 8000000 in
theorem xrice_any (h : Xdr D w b p g c xs t) (r most : Nat) (hr : r ≤ 32) : Calls Tryd.prog 81 #[.pointer (some ⟨b, 0, none⟩), .int .i64 (r : Int), .int .u64 (most : Int)] w fun e w' => ∃ v er t', rr (bitAt xs) (8 * xs.length) r most (8 * xs.length + 1) t 0 = (v, er, t') ∧ e = .returned (.tuple #[.int .u64 (v : Int), .int .i64 er]) ∧ Xdr D w' b p g c xs t' ∧ Only b w w' := by
  obtain ⟨RES, hres⟩ : ∃ RES, RES = rr (bitAt xs) (8 * xs.length) r most (8 * xs.length + 1) t 0 := ⟨_, rfl⟩
  rw [← hres]
  have H := Lib.hid h
  have HR0 := Lib.hid hr
  have HL := Lib.hid h.len
  have HS := Lib.hid hres.symm
  have OB := Lib.hid (Only.refl b w)
  obtain ⟨m0, hm0⟩ : ∃ m0, t + m0 = 8 * xs.length + 1 := ⟨8 * xs.length + 1 - t, by have := h.le; omega⟩
  have M0 := Lib.hid hm0
  have h1 : ¬ (r : Int) < 0 := by omega
  have h2 : ¬ (32 : Int) < (r : Int) := by omega
  clear h hres hr hm0
  go_enter Tryd.func81, Tryd.ntmps81
  go_wp2
  go_loopg [8] m0 (fun z q wr => ∃ k t' fuel : Nat, q = .int .u64 (k : Int) ∧ Hid (Xdr D wr b p g c xs t') ∧ Hid (rr (bitAt xs) (8 * xs.length) r most fuel t' k = RES) ∧ Hid (8 * xs.length < t' + fuel ∧ t' + z = 8 * xs.length + 1 ∧ k ≤ t' ∧ k ≤ most) ∧ Hid (Only b w wr))
  case atStart => exact ⟨0, t, _, rfl, H, HS, Lib.hid ⟨by omega, M0.out, Nat.zero_le _, Nat.zero_le _⟩, OB⟩
  case round =>
    clear H HS OB h1 h2
    obtain ⟨k, t', fuel, rfl, H, HS, HI, OB⟩ := hrel
    obtain ⟨f, hf⟩ : ∃ f, fuel = f + 1 := ⟨fuel - 1, by have := HI.out; have := H.out.le; omega⟩
    subst hf
    have HS1 := HS.out
    unfold rr at HS1
    clear HS
    by_cases hA : 8 * xs.length ≤ t'
    · have HE := Lib.hid (show t' = 8 * xs.length by have := H.out.le; omega)
      rw [if_pos hA] at HS1
      have HS := Lib.hid HS1
      clear hA HS1
      go_wp2_with (go_at_call 107; refine (xbit_end H.out HE.out).mono ?_; rintro e w4 ⟨rfl, hb⟩; have HO := Lib.hid (OB.out.trans (only_of_below (b := b) hb)); have HR := Lib.hid (H.out.call hb); clear hb)
      go_ret2
      exact ⟨0, 50, t', HS.out.symm, rfl, HR.out, HO.out⟩
    · have HT := Lib.hid (show t' < 8 * xs.length by omega)
      rw [if_neg hA] at HS1
      clear hA
      obtain ⟨x, hx⟩ : ∃ x, x = bitAt xs t' := ⟨_, rfl⟩
      have BIT := Lib.hid (fun w' (q : Xdr D w' b p g c xs t') => xbit_any q HT.out)
      rw [← hx] at BIT HS1
      clear hx
      cases x
      · rw [if_neg (by decide)] at HS1
        by_cases hD : t' + 1 + r ≤ 8 * xs.length
        · rw [if_pos hD] at HS1
          have HD := Lib.hid hD
          have HS := Lib.hid HS1
          clear hD HS1
          obtain ⟨v, hv⟩ : ∃ v, v = valFrom xs (t' + 1) r := ⟨_, rfl⟩
          obtain ⟨s, hs⟩ : ∃ s, s = k * 2 ^ r % 18446744073709551616 := ⟨_, rfl⟩
          have HSH := Lib.hid hs
          have HV := Lib.hid hv
          have VB := Lib.hid (show v < 18446744073709551616 ∧ s < 18446744073709551616 from ⟨by rw [hv]; exact Nat.lt_of_lt_of_le (valFrom_lt63 xs _ (by have := HR0.out; omega)) (by decide), by rw [hs]; exact Nat.mod_lt _ (by omega)⟩)
          have BITS := Lib.hid (fun w' (q : Xdr D w' b p g c xs (t' + 1)) => xbits_any q r (by have := HR0.out; omega) HD.out)
          rw [← hv] at BITS
          clear hv hs
          go_wp2_with (first
            | (go_at_call 107; refine (BIT.out _ H.out).mono ?_; rintro e w4 ⟨rfl, hR, hO⟩; have HR := Lib.hid hR; have HO := Lib.hid (OB.out.trans hO); clear hR hO)
            | (go_at_call 83; refine (BITS.out _ HR.out).mono ?_; rintro e w5 ⟨rfl, hR, hO⟩; have HR5 := Lib.hid hR; have HO5 := Lib.hid (HO.out.trans hO); clear hR hO)
            | ((with_reducible refine wpL_at 45 rfl ?_); refine wpList_known rfl (.int .u64 (s : Int)) _ (by rw [HSH.out]; exact exec_shlv rfl rfl rfl (by have := HR0.out; omega)) ?_)
            | ((with_reducible refine wpL_at 47 rfl ?_); refine wpList_known rfl (.int .u64 ((s ||| v : Nat) : Int)) _ (exec_or64 rfl rfl rfl VB.out.2 VB.out.1) ?_))
          go_ret2
          refine ⟨_, _, _, HS.out.symm, ?_, HR5.out, HO5.out⟩
          rw [HSH.out, HV.out]
          rfl
        · rw [if_neg hD] at HS1
          have HD := Lib.hid hD
          have HS := Lib.hid HS1
          clear hD HS1
          go_wp2_with (first
            | (go_at_call 107; refine (BIT.out _ H.out).mono ?_; rintro e w4 ⟨rfl, hR, hO⟩; have HR := Lib.hid hR; have HO := Lib.hid (OB.out.trans hO); clear hR hO)
            | (go_at_call 83; refine (xbits_short HR.out r (by have := HR0.out; omega) (by have := HD.out; have := HT.out; omega)).mono ?_; rintro e w5 ⟨rfl, hb⟩; have HO5 := Lib.hid (HO.out.trans (only_of_below (b := b) hb)); have HR5 := Lib.hid (HR.out.call hb); clear hb))
          go_ret2
          exact ⟨0, 50, _, HS.out.symm, rfl, HR5.out, HO5.out⟩
      · rw [if_pos rfl] at HS1
        have HW := Lib.hid (show IntKind.u64.wrap ((k : Int) + 1) = ((k + 1 : Nat) : Int) by
          have := HI.out
          have := HL.out
          have := HT.out
          rw [IntKind.wrap_u64]
          omega)
        by_cases hK : k = most
        · rw [if_pos hK] at HS1
          have HS := Lib.hid HS1
          have HQ := Lib.hid (show decide ((most : Int) < ((k + 1 : Nat) : Int)) = true from decide_eq_true (by omega))
          clear hK HS1
          go_wp2_with (first
            | (go_at_call 107; refine (BIT.out _ H.out).mono ?_; rintro e w4 ⟨rfl, hR, hO⟩; have HR := Lib.hid hR; have HO := Lib.hid (OB.out.trans hO); clear hR hO)
            | ((with_reducible refine wpL_at 30 rfl ?_); refine wpList_known rfl (.int .u64 ((k + 1 : Nat) : Int)) _ (exec_inc rfl rfl rfl HW.out) ?_)
            | ((with_reducible refine wpL_at 33 rfl ?_); refine wpList_known rfl (.bool true) _ (exec_gtu rfl rfl rfl HQ.out) ?_))
          go_ret2
          exact ⟨0, 51, _, HS.out.symm, rfl, HR.out, HO.out⟩
        · rw [if_neg hK] at HS1
          have HS := Lib.hid HS1
          have HQ := Lib.hid (show decide ((most : Int) < ((k + 1 : Nat) : Int)) = false from decide_eq_false (by have := HI.out; omega))
          have HI2 := Lib.hid (show 8 * xs.length < t' + 1 + f ∧ t' + 1 + (gk - 1) = 8 * xs.length + 1 ∧ k + 1 ≤ t' + 1 ∧ k + 1 ≤ most ∧ 0 < gk by have := HI.out; have := HT.out; omega)
          clear hK HS1
          go_wp2_with (first
            | (go_at_call 107; refine (BIT.out _ H.out).mono ?_; rintro e w4 ⟨rfl, hR, hO⟩; have HR := Lib.hid hR; have HO := Lib.hid (OB.out.trans hO); clear hR hO)
            | ((with_reducible refine wpL_at 30 rfl ?_); refine wpList_known rfl (.int .u64 ((k + 1 : Nat) : Int)) _ (exec_inc rfl rfl rfl HW.out) ?_)
            | ((with_reducible refine wpL_at 33 rfl ?_); refine wpList_known rfl (.bool false) _ (exec_gtu rfl rfl rfl HQ.out) ?_))
          go_roundg (gk - 1)
          case measure => have := HI2.out; omega
          case rel => exact ⟨k + 1, t' + 1, f, by go_num, HR, HS, Lib.hid ⟨HI2.out.1, HI2.out.2.1, HI2.out.2.2.1, HI2.out.2.2.2.1⟩, HO⟩
end
end Go.Proofs.YtfnfdfhmdepgoaaDoor

