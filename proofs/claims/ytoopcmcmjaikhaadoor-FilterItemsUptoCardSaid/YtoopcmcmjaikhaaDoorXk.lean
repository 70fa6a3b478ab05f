/- The numbers in a filter, the program's. -/
import Derived.Test.YtoopcmcmjaikhaaDoorXj
import Derived.Test.YtoopcmcmjaikhaaDoorSk
set_option linter.unusedSimpArgs false
set_option linter.unusedVariables false
set_option maxRecDepth 100000
namespace Go.Proofs.YtoopcmcmjaikhaaDoor
open Go.RowKit Go.Lib Go.Sort

theorem exec_geq3 {o : Oper} {ev : Operand → Value} {W : World} {x y : Operand} {a b : Int} {q : Bool} (ho : o.op = .binOp .geq 3 x y 3) (hx : ev x = .int .i64 a) (hy : ev y = .int .i64 b) (hq : decide (b ≤ a) = q) : (execOp ev o).run Tryd.prog W = .ok (.value (.bool q)) W := by
  subst hq
  unfold execOp
  by_cases h : b ≤ a
  · simp [ho, hx, hy, go_sem, Tryd.underlying3, h]
  · simp [ho, hx, hy, go_sem, Tryd.underlying3, h]
theorem exec_gequ {o : Oper} {ev : Operand → Value} {W : World} {x y : Operand} {a b : Int} {q : Bool} (ho : o.op = .binOp .geq 59 x y 59) (hx : ev x = .int .u64 a) (hy : ev y = .int .u64 b) (hq : decide (b ≤ a) = q) : (execOp ev o).run Tryd.prog W = .ok (.value (.bool q)) W := by
  subst hq
  unfold execOp
  by_cases h : b ≤ a
  · simp [ho, hx, hy, go_sem, Tryd.underlying59, h]
  · simp [ho, hx, hy, go_sem, Tryd.underlying59, h]
theorem exec_ltu {o : Oper} {ev : Operand → Value} {W : World} {x y : Operand} {a b : Int} {q : Bool} (ho : o.op = .binOp .lss 59 x y 59) (hx : ev x = .int .u64 a) (hy : ev y = .int .u64 b) (hq : decide (a < b) = q) : (execOp ev o).run Tryd.prog W = .ok (.value (.bool q)) W := by
  subst hq
  unfold execOp
  by_cases h : a < b
  · simp [ho, hx, hy, go_sem, Tryd.underlying59, h]
  · simp [ho, hx, hy, go_sem, Tryd.underlying59, h]
theorem exec_neqR {o : Oper} {ev : Operand → Value} {W : World} {x y : Operand} {a b : Int} {q : Bool} (ho : o.op = .binOp .neq 33 x y 33) (hx : ev x = .int .i64 a) (hy : ev y = .int .i64 b) (hq : decide (a = b) = !q) : (execOp ev o).run Tryd.prog W = .ok (.value (.bool q)) W := by
  obtain rfl : q = !decide (a = b) := by rw [hq]; simp
  unfold execOp
  by_cases h : a = b
  · subst h
    simp [ho, hx, hy, go_sem, Tryd.underlying33]
  · simp [ho, hx, hy, go_sem, Tryd.underlying33, h]
theorem exec_mulE {o : Oper} {ev : Operand → Value} {W : World} {x y : Operand} {a b : Nat} (ho : o.op = .binOp .mul 59 x y 59) (hx : ev x = .int .u64 (a : Int)) (hy : ev y = .int .u64 (b : Int)) (hl : a * b < 18446744073709551616) : (execOp ev o).run Tryd.prog W = .ok (.value (.int .u64 ((a * b : Nat) : Int))) W := by
  have e : IntKind.u64.wrap ((a : Int) * (b : Int)) = ((a * b : Nat) : Int) := by
    rw [IntKind.wrap_u64, ← Int.natCast_mul]
    omega
  unfold execOp
  simp [ho, hx, hy, go_sem, e]
theorem exec_addE {o : Oper} {ev : Operand → Value} {W : World} {x y : Operand} {a b : Nat} (ho : o.op = .binOp .add 59 x y 59) (hx : ev x = .int .u64 (a : Int)) (hy : ev y = .int .u64 (b : Int)) (hl : a + b < 18446744073709551616) : (execOp ev o).run Tryd.prog W = .ok (.value (.int .u64 ((a + b : Nat) : Int))) W := by
  have e : IntKind.u64.wrap ((a : Int) + (b : Int)) = ((a + b : Nat) : Int) := by
    rw [IntKind.wrap_u64]
    omega
  unfold execOp
  simp only [ho, hx, hy]
  simp [go_sem, e]
theorem exec_shr19 {o : Oper} {ev : Operand → Value} {W : World} {x y : Operand} {n : Nat} (ho : o.op = .binOp .shr 59 x y 50) (hx : ev x = .int .u64 (n : Int)) (hy : ev y = .int .u64 19) : (execOp ev o).run Tryd.prog W = .ok (.value (.int .u64 ((n / 2 ^ 19 : Nat) : Int))) W := by
  unfold execOp
  simp [ho, hx, hy, go_sem, IntKind.bits]
theorem wv_one (l : List Nat) (y : Nat) (i : Nat) (hi : i < (l.length + 1) * 1) : vcat (wv (lf l)) (l.length * 1) (wv fun _ => y) i = wv (lf (l ++ [y])) i := by
  unfold vcat wv
  rw [← lf_cat]
  unfold cat
  by_cases h : i < l.length * 1
  · rw [if_pos h, if_pos (by omega)]
  · rw [if_neg h, if_neg (by omega), show i - l.length = 0 by omega]
    rfl
section
variable {D w : World} {b : Nat} {p : Option Addr} {g c : Nat} {xs : List Nat} {t : Nat}
theorem pad_any (h : Rdr D w b p g c xs t) : Calls Tryd.prog 57 #[.pointer (some ⟨b, 0, none⟩)] w fun e w' => e = .returned (.bool (decide (8 * xs.length - t < 8 ∧ valFrom xs t (8 * xs.length - t) = 0))) ∧ Only b w w' := by
  have LF := Lib.hid (rleft_any h)
  have HB := Lib.hid (show t + (8 * xs.length - t) ≤ 8 * xs.length by have := h.le; omega)
  obtain ⟨d, hd⟩ : ∃ d, d = 8 * xs.length - t := ⟨_, rfl⟩
  rw [← hd] at LF HB ⊢
  have H := Lib.hid h
  clear h hd
  by_cases h8 : d < 8
  · have Q := Lib.hid (show decide ((8 : Int) ≤ (d : Int)) = false from decide_eq_false (by omega))
    obtain ⟨v, hv⟩ : ∃ v, v = valFrom xs t d := ⟨_, rfl⟩
    have BITS := Lib.hid (fun w' (q : Rdr D w' b p g c xs t) => rbits_any q d (by omega) HB.out)
    rw [← hv] at BITS ⊢
    have R := Lib.hid (show decide (d < 8 ∧ v = 0) = decide (v = 0) by simp [h8])
    rw [R.out]
    clear h8 hv
    go_enter Tryd.func57, Tryd.ntmps57
    go_wp2_with (first
      | (go_at_call 90; refine LF.out.mono ?_; rintro e w3 ⟨rfl, hb⟩; have OB := Lib.hid (only_of_below (b := b) hb); replace H := Lib.hid (H.out.call hb); clear hb)
      | ((with_reducible refine wpL_at 9 rfl ?_); refine wpList_known rfl (.bool false) _ (exec_geq3 rfl rfl rfl Q.out) ?_)
      | (go_at_call 89; refine (BITS.out _ H.out).mono ?_; rintro e w5 ⟨rfl, hR, hO⟩; have HO := Lib.hid (OB.out.trans hO); clear hR hO)
      | ((with_reducible refine wpL_at 20 rfl ?_); refine wpList_known rfl (.bool (decide (v = 0))) _ (exec_equ (b := 0) rfl rfl rfl rfl) ?_))
    go_ret
    exact ⟨rfl, HO.out⟩
  · have Q := Lib.hid (show decide ((8 : Int) ≤ (d : Int)) = true from decide_eq_true (by omega))
    have R := Lib.hid (show decide (d < 8 ∧ valFrom xs t d = 0) = false from decide_eq_false fun q => h8 q.1)
    rw [R.out]
    clear h8
    go_enter Tryd.func57, Tryd.ntmps57
    go_wp2_with (first
      | (go_at_call 90; refine LF.out.mono ?_; rintro e w3 ⟨rfl, hb⟩; have OB := Lib.hid (only_of_below (b := b) hb); clear hb)
      | ((with_reducible refine wpL_at 9 rfl ?_); refine wpList_known rfl (.bool true) _ (exec_geq3 rfl rfl rfl Q.out) ?_))
    go_ret
    exact ⟨rfl, OB.out⟩
end
theorem fival_bad {w : World} {p : Option Addr} {g o n c : Nat} {x : Nat → Nat} (R : Hid (Row w p g o n c x)) (hd : dec n x ≠ 0) : Calls Tryd.prog 27 #[.slice p n c] w (VEnd w none) := by
  obtain ⟨k, hk⟩ : ∃ k, dec n x = k := ⟨_, rfl⟩
  have S := Lib.hid (decode_bad R (Lib.hid hk) (by rw [← hk]; exact hd))
  have K := Lib.hid (show decide (((k : Nat) : Int) = 0) = !true from decide_eq_false (by rw [hk] at hd; omega))
  clear hd hk R
  go_enter Tryd.func27, Tryd.ntmps27
  go_wp2_with (first
    | (go_at_call 54; refine S.out.mono ?_; rintro e w3 ⟨rfl, hb⟩; have HB := Lib.hid hb; clear hb; unfold noCount)
    | ((with_reducible refine wpL_at 20 rfl ?_); refine wpList_known rfl (.bool true) _ (exec_neqR rfl rfl rfl K.out) ?_))
  go_ret2
  exact ⟨rfl, HB.out⟩
theorem fival_many {w : World} {p : Option Addr} {g o n c : Nat} {x : Nat → Nat} (R : Hid (Row w p g o n c x)) (hd : dec n x = 0) (hn : n ≤ 140737488351232) (hv : 20000 < val x) : Calls Tryd.prog 27 #[.slice p n c] w (VEnd w none) := by
  have S := Lib.hid (decode_good R (Lib.hid hd) (Lib.hid (by omega)))
  unfold DecGood at S
  obtain ⟨v, hv2⟩ : ∃ v, v = val x := ⟨_, rfl⟩
  obtain ⟨m, hm⟩ : ∃ m, m = n - wOf (x 0) := ⟨_, rfl⟩
  rw [← hv2, ← hm] at S
  have K := Lib.hid (show decide ((20000 : Int) < ((v : Nat) : Int)) = true from decide_eq_true (by omega))
  clear hd R hv hv2 hm hn
  go_enter Tryd.func27, Tryd.ntmps27
  go_wp2_with (first
    | (go_at_call 54; refine S.out.mono ?_; rintro e w3 ⟨p3, g3, c3, rfl, hR, hb⟩; have HB := Lib.hid hb; clear hb hR)
    | ((with_reducible refine wpL_at 20 rfl ?_); refine wpList_known rfl (.bool false) _ (exec_neqR rfl rfl rfl (by decide)) ?_)
    | ((with_reducible refine wpL_at 23 rfl ?_); refine wpList_known rfl (.bool true) _ (exec_gtu rfl rfl rfl K.out) ?_))
  go_ret2
  exact ⟨rfl, HB.out⟩
end Go.Proofs.YtoopcmcmjaikhaaDoor

