/- The document's reading of a frame: numbers, the command. -/
import Derived.Test.YtkjcljobcidhfaaDoorGb
import Derived.Test.YtkjcljobcidhfaaDoorGc
set_option linter.unusedSimpArgs false
set_option linter.unusedVariables false
set_option maxRecDepth 100000
namespace Go.Proofs.YtkjcljobcidhfaaDoor
open Go.RowKit Go.Lib Go.Sort

set_option maxHeartbeats 2000000 in
theorem ref_number_any {w : World} {p : Option Addr} {g o n c : Nat} {x : Nat → Nat} (R : Hid (Row w p g o n c x)) (hn : n ≤ 8) : Calls Tryd.prog 32 #[.slice p n c] w fun e w' => e = .returned (.int .u64 ((ofBytes x n : Nat) : Int)) ∧ w = w' := by
  rcases Nat.eq_zero_or_pos n with h0 | h0
  · subst h0
    go_enter Tryd.func32, Tryd.ntmps32
    go_wp2
    go_loop [3, 8] (fun s i => s = .int .u64 0 ∧ i = .int .i64 0) (fun _ _ => 0)
    case atStart => exact ⟨rfl, rfl⟩
    case round =>
      obtain ⟨rfl, rfl⟩ := hrel
      go_wp2
      go_ret
      exact ⟨rfl, rfl⟩
  · obtain rfl := R.out.head h0
    go_enter Tryd.func32, Tryd.ntmps32
    go_wp2
    go_loop [3, 8] (fun s i => ∃ k : Nat, k ≤ n ∧ i = .int .i64 (k : Int) ∧ s = .int .u64 ((ofBytes x k : Nat) : Int)) (fun _ i => n - (RowKit.intOf i).toNat)
    case atStart => exact ⟨0, by omega, rfl, rfl⟩
    case round =>
      obtain ⟨k, hk, rfl, rfl⟩ := hrel
      by_cases hlt : k < n
      · have c0 := R.out.cell k hlt
        have fl := R.out.byte k
        have OR := Lib.hid (or_byte64 (a := ofBytes x k) (f := x k) (k := k) (by omega) (ofBytes_lt fun i _ => R.out.byte i) fl)
        have t8 : (8 * (k : Int)).toNat = 8 * k := by omega
        have ol : ofBytes x k < 18446744073709551616 := by
          have h1 := ofBytes_lt (f := x) (m := k) fun i _ => R.out.byte i
          have h2 : 2 ^ (8 * k) ≤ 2 ^ 64 := Nat.pow_le_pow_right (by decide) (by omega)
          omega
        go_wp2
        go_round
        case rel => exact ⟨k + 1, by omega, by go_num, by rw [OR.out, ofBytes]⟩
        case measure => simp [RowKit.intOf]; omega
      · obtain rfl : k = n := by omega
        go_wp2
        go_ret
        exact ⟨rfl, rfl⟩

theorem exec_eq5 {o : Oper} {ev : Operand → Value} {W : World} {x y : Operand} {a b : Int} {q : Bool} (ho : o.op = .binOp .eql 5 x y 5) (hx : ev x = .int .u8 a) (hy : ev y = .int .u8 b) (hq : decide (a = b) = q) : (execOp ev o).run Tryd.prog W = .ok (.value (.bool q)) W := by
  subst hq
  unfold execOp
  by_cases h : a = b
  · subst h
    simp [ho, hx, hy, go_sem, Tryd.underlying5]
  · simp [ho, hx, hy, go_sem, Tryd.underlying5, h]
theorem exec_gtrc {o : Oper} {ev : Operand → Value} {W : World} {x y : Operand} {a b : Int} {q : Bool} (ho : o.op = .binOp .gtr 3 x y 3) (hx : ev x = .int .i64 a) (hy : ev y = .int .i64 b) (hq : decide (b < a) = q) : (execOp ev o).run Tryd.prog W = .ok (.value (.bool q)) W := by
  subst hq
  unfold execOp
  by_cases h : b < a
  · simp [ho, hx, hy, go_sem, Tryd.underlying3, h]
  · simp [ho, hx, hy, go_sem, Tryd.underlying3, h]
/-- The command that twelve bytes hold, or nothing. -/
def comS (x : Nat → Nat) : ByteArray := if isCom x (trimLen x 12) = true then strX x (trimLen x 12) else ⟨#[]⟩
set_option maxHeartbeats 4000000 in
theorem rcom_any {w : World} {p : Option Addr} {g o c : Nat} {x : Nat → Nat} (R : Hid (Row w p g o 12 c x)) : Calls Tryd.prog 31 #[.slice p 12 c] w fun e w' => e = .returned (.string (comS x)) ∧ w = w' := by
  have hp := R.out.head (by omega)
  have FIN := Lib.hid (show ∀ k, k ≤ 12 → trimLen x 12 = k → ∃ p', (∀ W, (Instr.sliceAt 26 (.slice p 12 c) none (some (.int .i64 (k : Int))) none).run Tryd.prog W = .ok (.slice p' k c) W) ∧ (convert 26 9 (.slice p' k c)).run Tryd.prog w = .ok (.string (strX x k)) w ∧ (Calls Tryd.prog 39 #[.string (strX x k)] w fun e w' => e = .returned (.bool (isCom x k)) ∧ w = w') from fun k hk he => by
    obtain ⟨p', S0, R0⟩ := sl_of0 R.out k hk
    refine ⟨p', S0, row_strX R0, ?_⟩
    have h := ref_iscom_any w (strX x k) (by rw [strX_size]; omega)
    have ci : isCom (sb (strX x k)) (strX x k).size = isCom x k := by
      rw [strX_size]
      exact isCom_congr fun i hi => strX_sb R0.byte hi
    rwa [ci] at h)
  subst hp
  go_enter Tryd.func31, Tryd.ntmps31
  go_wp2
  go_loop [3] (fun i => ∃ k : Nat, k ≤ 12 ∧ i = .int .i64 (k : Int) ∧ Hid (trimLen x 12 = trimLen x k)) (fun i => (RowKit.intOf i).toNat)
  case atStart => exact ⟨12, by omega, rfl, Lib.hid rfl⟩
  case round =>
    obtain ⟨k, hk, rfl, HT⟩ := hrel
    rcases Nat.eq_zero_or_pos k with h0 | h0
    · subst h0
      have HE := Lib.hid (show trimLen x 12 = 0 from HT.out)
      have HG := Lib.hid (show decide ((0 : Int) < ((0 : Nat) : Int)) = false from rfl)
      obtain ⟨p', S0, CV, IC⟩ := FIN.out (0) (by omega) HE.out
      have S0 := Lib.hid S0
      have CV := Lib.hid CV
      have IC := Lib.hid IC
      by_cases hc : isCom x (0) = true
      · rw [hc] at IC
        have HC := Lib.hid (show comS x = strX x (0) from by unfold comS; rw [HE.out, if_pos hc])
        clear hc
        go_wp2_with (first
          | ((with_reducible refine wpList_at 5 rfl ?_); refine wpList_kn rfl (.bool false) (by exact exec_gtrc rfl rfl rfl HG.out) ?_)
          | ((with_reducible refine wpList_at 18 rfl ?_); refine wpList_kn rfl (.slice p' (0) c) (by exact exec_sl rfl (S0.out _)) ?_)
          | ((with_reducible refine wpList_at 19 rfl ?_); refine wpList_kn rfl (.string (strX x (0))) (by exact exec_cvs rfl CV.out) ?_)
          | (go_at_call 39; refine IC.out.mono ?_; rintro e w2 ⟨rfl, rfl⟩)
          | ((with_reducible refine wpList_at 24 rfl ?_); refine wpList_kn rfl (.slice p' (0) c) (by exact exec_sl rfl (S0.out _)) ?_)
          | ((with_reducible refine wpList_at 25 rfl ?_); refine wpList_kn rfl (.string (strX x (0))) (by exact exec_cvs rfl CV.out) ?_))
        go_ret
        exact ⟨by (rw [HC.out]); try rfl, rfl⟩
      · have hc := Bool.eq_false_iff.2 hc
        rw [hc] at IC
        have HC := Lib.hid (show comS x = ⟨#[]⟩ from by unfold comS; rw [HE.out, if_neg (by rw [hc]; decide)])
        clear hc
        go_wp2_with (first
          | ((with_reducible refine wpList_at 5 rfl ?_); refine wpList_kn rfl (.bool false) (by exact exec_gtrc rfl rfl rfl HG.out) ?_)
          | ((with_reducible refine wpList_at 18 rfl ?_); refine wpList_kn rfl (.slice p' (0) c) (by exact exec_sl rfl (S0.out _)) ?_)
          | ((with_reducible refine wpList_at 19 rfl ?_); refine wpList_kn rfl (.string (strX x (0))) (by exact exec_cvs rfl CV.out) ?_)
          | (go_at_call 39; refine IC.out.mono ?_; rintro e w2 ⟨rfl, rfl⟩)
          | ((with_reducible refine wpList_at 24 rfl ?_); refine wpList_kn rfl (.slice p' (0) c) (by exact exec_sl rfl (S0.out _)) ?_)
          | ((with_reducible refine wpList_at 25 rfl ?_); refine wpList_kn rfl (.string (strX x (0))) (by exact exec_cvs rfl CV.out) ?_))
        go_ret
        exact ⟨by (rw [HC.out]); try rfl, rfl⟩
    · obtain ⟨m, rfl⟩ : ∃ m, k = m + 1 := ⟨k - 1, by omega⟩
      have c0 := Lib.hid (R.out.cell m (by omega))
      have HG := Lib.hid (show decide ((0 : Int) < ((m + 1 : Nat) : Int)) = true from decide_eq_true (by omega))
      have HS := Lib.hid (show IntKind.i64.wrap (((m + 1 : Nat) : Int) - 1) = (m : Int) by rw [IntKind.wrap_i64]; omega)
      have hm : m < 12 := by omega
      by_cases hx : x m = 0
      · have HX := Lib.hid (show decide (((x m : Nat) : Int) = 0) = true from by rw [hx]; rfl)
        have HT2 := Lib.hid (show trimLen x 12 = trimLen x m from HT.out.trans (by rw [trimLen, if_pos hx]))
        clear hx
        go_wp2_with (first
            | ((with_reducible refine wpList_at 5 rfl ?_); refine wpList_kn rfl (.bool true) (by exact exec_gtrc rfl rfl rfl HG.out) ?_)
            | ((with_reducible refine wpList_at 9 rfl ?_); refine wpList_kn rfl (.int .i64 (m : Int)) (by exact exec_sub rfl rfl rfl HS.out) ?_)
            | ((with_reducible refine wpList_at 10 rfl ?_); refine wpList_ix (k := 1) (j := m) Tryd.underlying26 (by kernel_rfl) (.tmp 7) (.tmp 9) rfl rfl rfl rfl hm rfl ?_)
            | ((with_reducible refine wpList_at 11 rfl ?_); refine wpList_ld1 5 (.tmp 10) rfl rfl rfl Tryd.underlying5 rfl (by rw [Nat.mul_one]; exact c0.out) ?_)
            | ((with_reducible refine wpList_at 12 rfl ?_); refine wpList_kn rfl (.bool true) (by exact exec_eq5 rfl rfl rfl HX.out) ?_)
            | ((with_reducible refine wpList_at 15 rfl ?_); refine wpList_kn rfl (.int .i64 (m : Int)) (by exact exec_sub rfl rfl rfl HS.out) ?_))
        go_round
        case rel => exact ⟨m, by omega, rfl, HT2⟩
        case measure => simp [RowKit.intOf]
      · have HX := Lib.hid (show decide (((x m : Nat) : Int) = 0) = false from decide_eq_false (by omega))
        have HE := Lib.hid (show trimLen x 12 = m + 1 from HT.out.trans (by rw [trimLen, if_neg hx]))
        clear hx
        obtain ⟨p', S0, CV, IC⟩ := FIN.out (m + 1) (by omega) HE.out
        have S0 := Lib.hid S0
        have CV := Lib.hid CV
        have IC := Lib.hid IC
        by_cases hc : isCom x (m + 1) = true
        · rw [hc] at IC
          have HC := Lib.hid (show comS x = strX x (m + 1) from by unfold comS; rw [HE.out, if_pos hc])
          clear hc
          go_wp2_with (first
            | ((with_reducible refine wpList_at 5 rfl ?_); refine wpList_kn rfl (.bool true) (by exact exec_gtrc rfl rfl rfl HG.out) ?_)
            | ((with_reducible refine wpList_at 9 rfl ?_); refine wpList_kn rfl (.int .i64 (m : Int)) (by exact exec_sub rfl rfl rfl HS.out) ?_)
            | ((with_reducible refine wpList_at 10 rfl ?_); refine wpList_ix (k := 1) (j := m) Tryd.underlying26 (by kernel_rfl) (.tmp 7) (.tmp 9) rfl rfl rfl rfl hm rfl ?_)
            | ((with_reducible refine wpList_at 11 rfl ?_); refine wpList_ld1 5 (.tmp 10) rfl rfl rfl Tryd.underlying5 rfl (by rw [Nat.mul_one]; exact c0.out) ?_)
            | ((with_reducible refine wpList_at 12 rfl ?_); refine wpList_kn rfl (.bool false) (by exact exec_eq5 rfl rfl rfl HX.out) ?_)
            | ((with_reducible refine wpList_at 18 rfl ?_); refine wpList_kn rfl (.slice p' (m + 1) c) (by exact exec_sl rfl (S0.out _)) ?_)
            | ((with_reducible refine wpList_at 19 rfl ?_); refine wpList_kn rfl (.string (strX x (m + 1))) (by exact exec_cvs rfl CV.out) ?_)
            | (go_at_call 39; refine IC.out.mono ?_; rintro e w2 ⟨rfl, rfl⟩)
            | ((with_reducible refine wpList_at 24 rfl ?_); refine wpList_kn rfl (.slice p' (m + 1) c) (by exact exec_sl rfl (S0.out _)) ?_)
            | ((with_reducible refine wpList_at 25 rfl ?_); refine wpList_kn rfl (.string (strX x (m + 1))) (by exact exec_cvs rfl CV.out) ?_))
          go_ret
          exact ⟨by (rw [HC.out]); try rfl, rfl⟩
        · have hc := Bool.eq_false_iff.2 hc
          rw [hc] at IC
          have HC := Lib.hid (show comS x = ⟨#[]⟩ from by unfold comS; rw [HE.out, if_neg (by rw [hc]; decide)])
          clear hc
          go_wp2_with (first
            | ((with_reducible refine wpList_at 5 rfl ?_); refine wpList_kn rfl (.bool true) (by exact exec_gtrc rfl rfl rfl HG.out) ?_)
            | ((with_reducible refine wpList_at 9 rfl ?_); refine wpList_kn rfl (.int .i64 (m : Int)) (by exact exec_sub rfl rfl rfl HS.out) ?_)
            | ((with_reducible refine wpList_at 10 rfl ?_); refine wpList_ix (k := 1) (j := m) Tryd.underlying26 (by kernel_rfl) (.tmp 7) (.tmp 9) rfl rfl rfl rfl hm rfl ?_)
            | ((with_reducible refine wpList_at 11 rfl ?_); refine wpList_ld1 5 (.tmp 10) rfl rfl rfl Tryd.underlying5 rfl (by rw [Nat.mul_one]; exact c0.out) ?_)
            | ((with_reducible refine wpList_at 12 rfl ?_); refine wpList_kn rfl (.bool false) (by exact exec_eq5 rfl rfl rfl HX.out) ?_)
            | ((with_reducible refine wpList_at 18 rfl ?_); refine wpList_kn rfl (.slice p' (m + 1) c) (by exact exec_sl rfl (S0.out _)) ?_)
            | ((with_reducible refine wpList_at 19 rfl ?_); refine wpList_kn rfl (.string (strX x (m + 1))) (by exact exec_cvs rfl CV.out) ?_)
            | (go_at_call 39; refine IC.out.mono ?_; rintro e w2 ⟨rfl, rfl⟩)
            | ((with_reducible refine wpList_at 24 rfl ?_); refine wpList_kn rfl (.slice p' (m + 1) c) (by exact exec_sl rfl (S0.out _)) ?_)
            | ((with_reducible refine wpList_at 25 rfl ?_); refine wpList_kn rfl (.string (strX x (m + 1))) (by exact exec_cvs rfl CV.out) ?_))
          go_ret
          exact ⟨by (rw [HC.out]); try rfl, rfl⟩
end Go.Proofs.YtkjcljobcidhfaaDoor
