/- The document's reader of bits: some bits; the next code; a new one. -/
import Derived.Test.YtfnfdfhmdepgoaaDoorXg
import Derived.Test.YtfnfdfhmdepgoaaDoorWo
import Derived.Test.YtfnfdfhmdepgoaaDoorZA
set_option linter.unusedSimpArgs false
set_option linter.unusedVariables false
set_option maxRecDepth 100000
namespace Go.Proofs.YtfnfdfhmdepgoaaDoor
open Go.RowKit Go.Lib Go.Sort

section
variable {D w : World} {b : Nat} {p : Option Addr} {g c : Nat} {xs : List Nat} {t : Nat}
theorem exec_lsn {o : Oper} {ev : Operand → Value} {W : World} {x y : Operand} {a b : Int} {q : Bool} (ho : o.op = .binOp .lss 3 x y 3) (hx : ev x = .int .i64 a) (hy : ev y = .int .i64 b) (hq : decide (a < b) = q) : (execOp ev o).run Tryd.prog W = .ok (.value (.bool q)) W := by
  subst hq
  unfold execOp
  by_cases h : a < b
  · simp [ho, hx, hy, go_sem, Tryd.underlying3, h]
  · simp [ho, hx, hy, go_sem, Tryd.underlying3, h]
theorem xbits_short (h : Xdr D w b p g c xs t) (m : Nat) (hm : m ≤ 64) (hs : 8 * xs.length - t < m) : Calls Tryd.prog 83 #[.pointer (some ⟨b, 0, none⟩), .int .i64 (m : Int)] w fun e w' => e = .returned (.tuple #[.int .u64 0, .int .i64 50]) ∧ Below w.heap.size w w' := by
  have LF := Lib.hid (xleft_any h)
  obtain ⟨d, hd⟩ : ∃ d, d = 8 * xs.length - t := ⟨_, rfl⟩
  rw [← hd] at LF hs
  have h1 : ¬ (m : Int) < 0 := by omega
  have h2 : ¬ (64 : Int) < (m : Int) := by omega
  have h3 : (d : Int) < (m : Int) := by omega
  clear h hd hs hm
  go_enter Tryd.func83, Tryd.ntmps83
  go_wp2_with (go_at_call 82; refine LF.out.mono ?_; rintro e w3 ⟨rfl, hb⟩; have HB := Lib.hid hb; clear hb)
  go_ret2
  exact ⟨rfl, HB.out⟩
set_option maxHeartbeats 4000000 in
theorem xbits_any (h : Xdr D w b p g c xs t) (m : Nat) (hm : m ≤ 64) (hs : t + m ≤ 8 * xs.length) : Calls Tryd.prog 83 #[.pointer (some ⟨b, 0, none⟩), .int .i64 (m : Int)] w (XrPost D w b p g c xs (t + m) (.tuple #[.int .u64 ((valFrom xs t m : Nat) : Int), .int .i64 0])) := by
  have LF := Lib.hid (xleft_any h)
  obtain ⟨d, hd⟩ : ∃ d, d = 8 * xs.length - t := ⟨_, rfl⟩
  rw [← hd] at LF
  have h1 : ¬ (m : Int) < 0 := by omega
  have h2 : ¬ (64 : Int) < (m : Int) := by omega
  have H3 := Lib.hid (show decide ((d : Int) < (m : Int)) = false from decide_eq_false (by omega))
  have H := Lib.hid h
  have HM := Lib.hid (And.intro hm hs)
  clear h hd hm hs
  go_enter Tryd.func83, Tryd.ntmps83
  go_wp2_with (first
    | ((with_reducible refine wpL_at 18 rfl ?_); refine wpList_known rfl (.bool false) _ (exec_lsn rfl rfl rfl H3.out) ?_)
    | (go_at_call 82; refine LF.out.mono ?_; rintro e w3 ⟨rfl, hb⟩; have OB := Lib.hid (only_of_below (b := b) hb); replace H := Lib.hid (H.out.call hb); clear hb))
  go_loopg [6, 20] m (fun k vl i wr => ∃ j v : Nat, j + k = m ∧ i = .int .i64 (j : Int) ∧ vl = .int .u64 (v : Int) ∧ Hid (Xdr D wr b p g c xs (t + j)) ∧ Hid (Only b w wr) ∧ Hid (v = valFrom xs t j))
  case atStart => exact ⟨0, 0, by omega, rfl, rfl, H, OB, Lib.hid rfl⟩
  case round =>
    clear H OB LF h1 h2 H3
    obtain ⟨j, v, hj, rfl, rfl, H, OB, HV⟩ := hrel
    obtain ⟨kk, hkk⟩ : ∃ kk : Nat, kk = gk := ⟨_, rfl⟩
    rw [← hkk] at hj
    by_cases hlt : j < m
    · have cl : (j : Int) < (m : Int) := by omega
      have HJ := Lib.hid (show t + j < 8 * xs.length ∧ j < 64 by have := HM.out; omega)
      obtain ⟨x, hx⟩ : ∃ x, x = bitAt xs (t + j) := ⟨_, rfl⟩
      have HX := Lib.hid hx
      have VB := Lib.hid (show v < 9223372036854775808 by rw [HV.out]; exact valFrom_lt63 xs t HJ.out.2)
      have VE := Lib.hid (show valFrom xs t (j + 1) = 2 * v + x.toNat by show 2 * vF _ j + (bitAt xs (t + j)).toNat = _; rw [← HX.out, HV.out])
      have BIT := Lib.hid (fun w' (q : Xdr D w' b p g c xs (t + j)) => xbit_any q HJ.out.1)
      rw [← hx] at BIT
      clear hx
      cases x
      · go_wp2_with (first
          | ((with_reducible refine wpL_at 28 rfl ?_); refine wpList_known rfl (.int .u64 ((2 * v : Nat) : Int)) _ (exec_dbl rfl rfl rfl VB.out) ?_)
          | (go_at_call 107; refine (BIT.out _ H.out).mono ?_; rintro e w4 ⟨rfl, hR, hO⟩; have HR := Lib.hid hR; have HO := Lib.hid (OB.out.trans hO); clear hR hO))
        go_roundg (kk - 1)
        case measure => omega
        case rel => exact ⟨j + 1, 2 * v, by omega, (by have h9 := HJ.out; congr 1; unfold wrap64; omega), by go_num, HR, HO, Lib.hid VE.out.symm⟩
      · go_wp2_with (first
          | ((with_reducible refine wpL_at 28 rfl ?_); refine wpList_known rfl (.int .u64 ((2 * v : Nat) : Int)) _ (exec_dbl rfl rfl rfl VB.out) ?_)
          | ((with_reducible refine wpL_at 31 rfl ?_); refine wpList_known rfl (.int .u64 ((2 * v + 1 : Nat) : Int)) _ (exec_or1 rfl rfl rfl VB.out) ?_)
          | (go_at_call 107; refine (BIT.out _ H.out).mono ?_; rintro e w4 ⟨rfl, hR, hO⟩; have HR := Lib.hid hR; have HO := Lib.hid (OB.out.trans hO); clear hR hO))
        go_roundg (kk - 1)
        case measure => omega
        case rel => exact ⟨j + 1, 2 * v + 1, by omega, (by have h9 := HJ.out; congr 1; unfold wrap64; omega), by go_num, HR, HO, Lib.hid VE.out.symm⟩
    · obtain rfl : j = m := by omega
      have cl : ¬ (j : Int) < (j : Int) := by omega
      go_wp2
      go_ret2
      rw [← HV.out]
      exact ⟨rfl, H.out, OB.out⟩
end
end Go.Proofs.YtfnfdfhmdepgoaaDoor

