/- A writer: its calls of more than one bit; its bytes; a new one. -/
import Derived.Test.YtoopcmcmjaikhaaDoorWv
set_option linter.unusedSimpArgs false
set_option linter.unusedVariables false
set_option maxRecDepth 100000
namespace Go.Proofs.YtoopcmcmjaikhaaDoor
open Go.RowKit Go.Lib Go.Sort

theorem isrest_any (r : Int) (w : World) : Calls Tryd.prog 72 #[.int .i64 r] w fun e w' => e = .returned (.bool (decide (0 ≤ r ∧ r ≤ 32))) ∧ w = w' := by
  by_cases h1 : r ≥ 0
  · by_cases h2 : r ≤ 32
    · rw [decide_eq_true (⟨h1, h2⟩ : 0 ≤ r ∧ r ≤ 32)]
      go_enter Tryd.func72, Tryd.ntmps72
      go_wp2
      go_ret
      exact ⟨rfl, rfl⟩
    · rw [decide_eq_false (show ¬ (0 ≤ r ∧ r ≤ 32) by omega)]
      go_enter Tryd.func72, Tryd.ntmps72
      go_wp2
      go_ret
      exact ⟨rfl, rfl⟩
  · rw [decide_eq_false (show ¬ (0 ≤ r ∧ r ≤ 32) by omega)]
    go_enter Tryd.func72, Tryd.ntmps72
    go_wp2
    go_ret
    exact ⟨rfl, rfl⟩
section
variable {D w : World} {b bf bw : Nat} {l : List Bool}
theorem wrice_bad1 (h : Wtr D w b bf bw l) (n : Int) (r : Int) (hr : ¬ (0 ≤ r ∧ r ≤ 32)) : Calls Tryd.prog 37 #[.pointer (some ⟨b, 0, none⟩), .int .u64 n, .int .i64 r] w fun e w' => e = .returned (.int .i64 1) ∧ w = w' := by
  have M := Lib.hid (wmade_any h)
  have R := Lib.hid (fun w => isrest_any r w)
  rw [decide_eq_false hr] at R
  clear h hr
  go_enter Tryd.func37, Tryd.ntmps37
  go_wp2
  go_step3
  go_wp2_with (first
    | (go_at_call 71; refine M.out.mono ?_; rintro e w2 ⟨rfl, rfl⟩)
    | (go_at_call 72; refine (R.out _).mono ?_; rintro e w2 ⟨rfl, rfl⟩))
  try rw [Exit.noGoto_ret]
  go_ret
  exact ⟨rfl, rfl⟩
theorem wrice_bad2 (h : Wtr D w b bf bw l) (n r : Nat) (hr : r ≤ 32) (hq : 65535 < n / 2 ^ r) : Calls Tryd.prog 37 #[.pointer (some ⟨b, 0, none⟩), .int .u64 (n : Int), .int .i64 (r : Int)] w fun e w' => e = .returned (.int .i64 1) ∧ w = w' := by
  have M := Lib.hid (wmade_any h)
  have R := Lib.hid (fun w => isrest_any (r : Int) w)
  rw [decide_eq_true (show 0 ≤ (r : Int) ∧ (r : Int) ≤ 32 by omega)] at R
  have HR := Lib.hid (show r < 64 by omega)
  obtain ⟨q, hq1⟩ : ∃ q, q = n / 2 ^ r := ⟨_, rfl⟩
  rw [← hq1] at hq
  have HQ := Lib.hid hq1
  have cq : (q : Int) > 65535 := by omega
  clear h hr hq hq1
  go_enter Tryd.func37, Tryd.ntmps37
  go_wp2
  go_step3
  go_wp2_with (first
    | (refine wpList_known rfl (.int .u64 (q : Int)) _ (by rw [HQ.out]; exact exec_shr64 rfl rfl rfl HR.out) ?_)
    | (go_at_call 71; refine M.out.mono ?_; rintro e w2 ⟨rfl, rfl⟩)
    | (go_at_call 72; refine (R.out _).mono ?_; rintro e w2 ⟨rfl, rfl⟩))
  try rw [Exit.noGoto_ret]
  go_ret
  exact ⟨rfl, rfl⟩
/-- A number's code. -/
def codeOf (n r : Nat) : List Bool := List.replicate (n / 2 ^ r) true ++ (false :: bitsOf n r)
set_option maxHeartbeats 4000000 in
theorem wrice_any (h : Wtr D w b bf bw l) (n r : Nat) (hn : n < 18446744073709551616) (hr : r ≤ 32) (hq : n / 2 ^ r ≤ 65535) (hl : l.length + 65535 + 33 ≤ 1000000000000) : Calls Tryd.prog 37 #[.pointer (some ⟨b, 0, none⟩), .int .u64 (n : Int), .int .i64 (r : Int)] w (WtPost D w b bf bw (l ++ codeOf n r) (.int .i64 0)) := by
  have M := Lib.hid (wmade_any h)
  have R := Lib.hid (fun w => isrest_any (r : Int) w)
  rw [decide_eq_true (show 0 ≤ (r : Int) ∧ (r : Int) ≤ 32 by omega)] at R
  have HR := Lib.hid (show r < 64 ∧ r ≤ 32 by omega)
  obtain ⟨L, hL⟩ : ∃ L, L = l ++ codeOf n r := ⟨_, rfl⟩
  unfold codeOf at hL
  rw [show codeOf n r = List.replicate (n / 2 ^ r) true ++ (false :: bitsOf n r) from rfl, ← hL]
  obtain ⟨q, hq1⟩ : ∃ q, q = n / 2 ^ r := ⟨_, rfl⟩
  rw [← hq1] at hq hL
  have HQ := Lib.hid hq1
  have LL := Lib.hid (show L.length ≤ 1000000000000 by rw [hL]; simp [bitsOf_length]; omega)
  have HC := Lib.hid hq
  have LE := Lib.hid hL.symm
  have cq : ¬ (q : Int) > 65535 := by omega
  have I := Lib.hid h
  have HN := Lib.hid hn
  clear h hr hq hq1 hL hn hl
  go_enter Tryd.func37, Tryd.ntmps37
  go_wp2
  refine wp_scope_jumps 0 (fun a' w' => ∃ (k : Nat) (l' : List Bool) (u8 u9 u10 u11 u12 u13 u14 u15 u16 u17 u18 u19 u20 u21 u22 u23 u24 u25 u26 u27 u28 u29 u30 u31 u32 u33 u34 u35 u36 u37 u38 u39 u40 : Value), a' = { tmps := #[.pointer (some ⟨b, 0, none⟩), .int .u64 (n : Int), .int .i64 (r : Int), undef, undef, undef, .int .i64 0, .int .u64 (k : Int), u8, u9, u10, u11, u12, u13, u14, u15, u16, u17, u18, u19, u20, u21, u22, u23, u24, u25, u26, u27, u28, u29, u30, u31, u32, u33, u34, u35, u36, u37, u38, u39, u40], defers := [] } ∧ Hid (Wtr D w' b bf bw l') ∧ Hid (l' ++ (List.replicate k true ++ (false :: bitsOf n r)) = L) ∧ Hid (k ≤ 65535) ∧ Hid (Below D.heap.size w w' ∧ Kw w w')) (fun a' _ => (intOfV (a'.tmps.getD 7 undef)).toNat) rfl ?_ ?_
  · have H := I
    have HB := Lib.hid (And.intro (Below.refl D.heap.size w) (Kw.refl w))
    obtain ⟨k, hk⟩ : ∃ k, k = q := ⟨_, rfl⟩
    rw [← hk] at HQ LE HC cq
    clear hk
    have c0 := cell_of_here H.out.box 0 (v := .func (.func 69) #[] #[.pointer (some ⟨bf, 0, none⟩), .pointer (some ⟨bw, 0, none⟩)]) rfl
    rcases Nat.eq_zero_or_pos k with hk0 | hk0
    · subst hk0
      have HJ := Lib.hid (show l.length + [false].length ≤ 1000000000000 by have h1 := LE.out; have h2 := LL.out; rw [← h1] at h2; simp [bitsOf_length] at h2 ⊢; omega)
      have HJ2 := Lib.hid (show (l ++ [false]).length + r ≤ 1000000000000 by have h1 := LE.out; have h2 := LL.out; rw [← h1] at h2; simp [bitsOf_length] at h2 ⊢; omega)
      have HE := Lib.hid (show (l ++ [false]) ++ bitsOf n r = L by have h1 := LE.out; rw [← h1]; simp)
      go_wp2_with (first
        | (refine wpList_known rfl (.int .u64 ((0 : Nat) : Int)) _ (by rw [HQ.out]; exact exec_shr64 rfl rfl rfl HR.out.1) ?_)
        | (go_at_call 71; refine M.out.mono ?_; rintro e w2 ⟨rfl, rfl⟩)
        | (go_at_call 72; refine (R.out _).mono ?_; rintro e w2 ⟨rfl, rfl⟩))
      go_step3
      go_wp2_with (first
        | (go_at_call 69; refine (put_any H.out.at' false H.out.len).mono ?_; rintro e w5 ⟨rfl, hA, hb5, hk5⟩; have H5 := Lib.hid (H.out.put hA hk5 (by rw [List.length_append]; exact HJ.out)); have B5 := Lib.hid (And.intro (HB.out.1.trans hb5) (HB.out.2.trans hk5)); have c5 := cell_of_here H5.out.box 0 (v := .func (.func 69) #[] #[.pointer (some ⟨bf, 0, none⟩), .pointer (some ⟨bw, 0, none⟩)]) rfl; clear hA hb5 hk5)
        | (go_at_call 73; refine (wlow_any H5.out n r HN.out (by have := HR.out; omega) HJ2.out).mono ?_; rintro e w6 ⟨rfl, hA, hb6, hk6⟩; have H6 := Lib.hid hA; have B6 := Lib.hid (And.intro (B5.out.1.trans hb6) (B5.out.2.trans hk6)); clear hA hb6 hk6))
      try simp only [Exit.jump]
      try rw [Exit.noGoto_ret]
      go_ret
      exact ⟨rfl, HE.out ▸ H6.out, B6.out⟩
    · obtain ⟨j, hj0⟩ : ∃ j, k = j + 1 := ⟨k - 1, by omega⟩
      have HJ0 := Lib.hid hj0
      have HJ := Lib.hid (show l.length + [true].length ≤ 1000000000000 by have h1 := LE.out; have h2 := LL.out; rw [← h1] at h2; simp [bitsOf_length] at h2 ⊢; omega)
      have HE := Lib.hid (show (l ++ [true]) ++ (List.replicate j true ++ (false :: bitsOf n r)) = L by have h1 := LE.out; rw [← h1, HJ0.out, List.replicate_succ, List.append_assoc]; rfl)
      have cj : (k : Int) - 1 = (j : Int) := by omega
      have cw := Lib.hid (show IntKind.u64.wrap (j : Int) = (j : Int) by have := HC.out; have := HJ0.out; rw [IntKind.wrap_u64]; omega)
      have cw2 : IntKind.u64.wrap (j : Int) = (j : Int) := cw.out
      have cg : ((k : Int) > 0) := by omega
      clear hj0 hk0
      go_wp2_with (first
        | (refine wpList_known rfl (.int .u64 (k : Int)) _ (by rw [HQ.out]; exact exec_shr64 rfl rfl rfl HR.out.1) ?_)
        | (go_at_call 71; refine M.out.mono ?_; rintro e w2 ⟨rfl, rfl⟩)
        | (go_at_call 72; refine (R.out _).mono ?_; rintro e w2 ⟨rfl, rfl⟩))
      go_step3
      go_wp2_with (first
        | (go_at_call 69; refine (put_any H.out.at' true H.out.len).mono ?_; rintro e w5 ⟨rfl, hA, hb5, hk5⟩; have H5 := Lib.hid (H.out.put hA hk5 (by rw [List.length_append]; exact HJ.out)); have B5 := Lib.hid (And.intro (HB.out.1.trans hb5) (HB.out.2.trans hk5)); have c5 := cell_of_here H5.out.box 0 (v := .func (.func 69) #[] #[.pointer (some ⟨bf, 0, none⟩), .pointer (some ⟨bw, 0, none⟩)]) rfl; clear hA hb5 hk5))
      go_step3
      try rw [cw.out]
      exact ⟨rfl, j, _, _, _, _, _, _, _, _, _, _, _, _, _, _, _, _, _, _, _, _, _, _, _, _, _, _, _, _, _, _, _, _, _, _, rfl, H5, HE, Lib.hid (by have := HC.out; have := HJ0.out; omega), B5⟩
  · rintro a' w' ⟨k, l', u8, u9, u10, u11, u12, u13, u14, u15, u16, u17, u18, u19, u20, u21, u22, u23, u24, u25, u26, u27, u28, u29, u30, u31, u32, u33, u34, u35, u36, u37, u38, u39, u40, rfl, H, LE2, HC2, HB⟩
    clear LE HC I M R HQ cq
    have LE := LE2
    have HC := HC2
    clear LE2 HC2
    have c0 := cell_of_here H.out.box 0 (v := .func (.func 69) #[] #[.pointer (some ⟨bf, 0, none⟩), .pointer (some ⟨bw, 0, none⟩)]) rfl
    rcases Nat.eq_zero_or_pos k with hk0 | hk0
    · subst hk0
      have HJ := Lib.hid (show l'.length + [false].length ≤ 1000000000000 by have h1 := LE.out; have h2 := LL.out; rw [← h1] at h2; simp [bitsOf_length] at h2 ⊢; omega)
      have HJ2 := Lib.hid (show (l' ++ [false]).length + r ≤ 1000000000000 by have h1 := LE.out; have h2 := LL.out; rw [← h1] at h2; simp [bitsOf_length] at h2 ⊢; omega)
      have HE := Lib.hid (show (l' ++ [false]) ++ bitsOf n r = L by have h1 := LE.out; rw [← h1]; simp)
      go_wp2_with (first
        | (go_at_call 69; refine (put_any H.out.at' false H.out.len).mono ?_; rintro e w5 ⟨rfl, hA, hb5, hk5⟩; have H5 := Lib.hid (H.out.put hA hk5 (by rw [List.length_append]; exact HJ.out)); have B5 := Lib.hid (And.intro (HB.out.1.trans hb5) (HB.out.2.trans hk5)); have c5 := cell_of_here H5.out.box 0 (v := .func (.func 69) #[] #[.pointer (some ⟨bf, 0, none⟩), .pointer (some ⟨bw, 0, none⟩)]) rfl; clear hA hb5 hk5)
        | (go_at_call 73; refine (wlow_any H5.out n r HN.out (by have := HR.out; omega) HJ2.out).mono ?_; rintro e w6 ⟨rfl, hA, hb6, hk6⟩; have H6 := Lib.hid hA; have B6 := Lib.hid (And.intro (B5.out.1.trans hb6) (B5.out.2.trans hk6)); clear hA hb6 hk6))
      try simp only [Exit.jump]
      try rw [Exit.noGoto_ret]
      go_ret
      exact ⟨rfl, HE.out ▸ H6.out, B6.out⟩
    · obtain ⟨j, hj0⟩ : ∃ j, k = j + 1 := ⟨k - 1, by omega⟩
      have HJ0 := Lib.hid hj0
      have HJ := Lib.hid (show l'.length + [true].length ≤ 1000000000000 by have h1 := LE.out; have h2 := LL.out; rw [← h1] at h2; simp [bitsOf_length] at h2 ⊢; omega)
      have HE := Lib.hid (show (l' ++ [true]) ++ (List.replicate j true ++ (false :: bitsOf n r)) = L by have h1 := LE.out; rw [← h1, HJ0.out, List.replicate_succ, List.append_assoc]; rfl)
      have cj : (k : Int) - 1 = (j : Int) := by omega
      have cw := Lib.hid (show IntKind.u64.wrap (j : Int) = (j : Int) by have := HC.out; have := HJ0.out; rw [IntKind.wrap_u64]; omega)
      have cw2 : IntKind.u64.wrap (j : Int) = (j : Int) := cw.out
      have cg : ((k : Int) > 0) := by omega
      clear hj0 hk0
      go_wp2_with (first
        | (go_at_call 69; refine (put_any H.out.at' true H.out.len).mono ?_; rintro e w5 ⟨rfl, hA, hb5, hk5⟩; have H5 := Lib.hid (H.out.put hA hk5 (by rw [List.length_append]; exact HJ.out)); have B5 := Lib.hid (And.intro (HB.out.1.trans hb5) (HB.out.2.trans hk5)); have c5 := cell_of_here H5.out.box 0 (v := .func (.func 69) #[] #[.pointer (some ⟨bf, 0, none⟩), .pointer (some ⟨bw, 0, none⟩)]) rfl; clear hA hb5 hk5))
      go_step3
      try rw [cw.out]
      exact ⟨rfl, ⟨j, _, _, _, _, _, _, _, _, _, _, _, _, _, _, _, _, _, _, _, _, _, _, _, _, _, _, _, _, _, _, _, _, _, _, rfl, H5, HE, Lib.hid (by have := HC.out; have := HJ0.out; omega), B5⟩, by have := HJ0.out; simp [intOfV]; omega⟩
end
end Go.Proofs.YtoopcmcmjaikhaaDoor

