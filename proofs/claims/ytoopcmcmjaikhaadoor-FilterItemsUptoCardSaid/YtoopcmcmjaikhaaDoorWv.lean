/- A writer: a number's lowest bits. -/
import Derived.Test.YtoopcmcmjaikhaaDoorWu
set_option linter.unusedSimpArgs false
set_option linter.unusedVariables false
set_option maxRecDepth 100000
namespace Go.Proofs.YtoopcmcmjaikhaaDoor
open Go.RowKit Go.Lib Go.Sort

def intOfV : Value → Int | .int _ q => q | _ => 0
theorem exec_shr64 {o : Oper} {ev : Operand → Value} {W : World} {x y : Operand} {n k : Nat} (ho : o.op = .binOp .shr 59 x y 3) (hx : ev x = .int .u64 (n : Int)) (hy : ev y = .int .i64 (k : Int)) (hk : k < 64) : (execOp ev o).run Tryd.prog W = .ok (.value (.int .u64 ((n / 2 ^ k : Nat) : Int))) W := by
  have h1 : min k 64 = k := by omega
  unfold execOp
  simp [ho, hx, hy, go_sem, IntKind.bits, h1]
theorem exec_and1 {o : Oper} {ev : Operand → Value} {W : World} {x y : Operand} {n : Nat} (ho : o.op = .binOp .and 59 x y 59) (hx : ev x = .int .u64 (n : Int)) (hy : ev y = .int .u64 1) (hn : n < 18446744073709551616) : (execOp ev o).run Tryd.prog W = .ok (.value (.int .u64 ((n % 2 : Nat) : Int))) W := by
  have h : bits .and .u64 (n : Int) 1 = ((n % 2 : Nat) : Int) := by
    have := bits_and_u64_nat n 1 hn (by omega)
    rw [Nat.and_one_is_mod] at this
    exact this
  unfold execOp
  simp [ho, hx, hy, go_sem, h]
theorem exec_eq1 {o : Oper} {ev : Operand → Value} {W : World} {x y : Operand} {n : Nat} {r : Bool} (ho : o.op = .binOp .eql 59 x y 59) (hx : ev x = .int .u64 (n : Int)) (hy : ev y = .int .u64 1) (hr : decide (n = 1) = r) : (execOp ev o).run Tryd.prog W = .ok (.value (.bool r)) W := by
  subst hr
  unfold execOp
  by_cases h : n = 1
  · subst h
    simp [ho, hx, hy, go_sem, Tryd.underlying59]
  · have h2 : ¬ ((n : Int) = 1) := by omega
    simp [ho, hx, hy, go_sem, Tryd.underlying59, h, h2]
theorem bit_of (n j : Nat) : decide (n / 2 ^ j % 2 = 1) = n.testBit j := (Nat.testBit_eq_decide_div_mod_eq).symm
theorem WAt.call {D w w' : World} {bf bw : Nat} {l : List Bool} (h : WAt D w bf bw l) (hb : Below w.heap.size w w') : WAt D w' bf bw l := by
  obtain ⟨p, g, c, K⟩ := h
  exact ⟨p, g, c, K.call hb⟩
theorem WAt.size {D w : World} {bf bw : Nat} {l : List Bool} (h : WAt D w bf bw l) : D.heap.size ≤ w.heap.size := by
  obtain ⟨p, g, c, K⟩ := h
  exact K.mem.below.size
theorem Wtr.call {D w w' : World} {b bf bw : Nat} {l : List Bool} (h : Wtr D w b bf bw l) (hb : Below w.heap.size w w') : Wtr D w' b bf bw l := h.put (h.at'.call hb) (Kw.below hb) h.len
theorem below_trans_call {D w w1 w2 : World} (h : Below D.heap.size w w1) (hs : D.heap.size ≤ w1.heap.size) (k : Below w1.heap.size w1 w2) : Below D.heap.size w w2 := h.trans (k.mono hs)
set_option maxHeartbeats 4000000 in
theorem wlow_any {D w : World} {b bf bw : Nat} {l : List Bool} (h : Wtr D w b bf bw l) (n c : Nat) (hn : n < 18446744073709551616) (hc : c ≤ 64) (hl : l.length + c ≤ 1000000000000) :
    Calls Tryd.prog 73 #[.pointer (some ⟨b, 0, none⟩), .int .u64 (n : Int), .int .i64 (c : Int)] w (WtPost D w b bf bw (l ++ bitsOf n c) (.tuple #[])) := by
  have HN := Lib.hid hn
  obtain ⟨L, hL⟩ : ∃ L, L = l ++ bitsOf n c := ⟨_, rfl⟩
  have LL := Lib.hid (show L.length ≤ 1000000000000 by rw [hL, List.length_append, bitsOf_length]; exact hl)
  rw [← hL]
  have I := Lib.hid h
  have LE := Lib.hid hL.symm
  have HC := Lib.hid hc
  clear h hL hn hc hl
  go_enter Tryd.func73, Tryd.ntmps73
  go_wp2
  refine wp_scope_jumps 0 (fun a' w' => ∃ (k : Nat) (l' : List Bool) (u3 u4 u5 u6 u7 u8 u9 u10 u11 u12 u13 u14 u15 u16 u17 u18 u19 : Value), a' = { tmps := #[.pointer (some ⟨b, 0, none⟩), .int .u64 (n : Int), .int .i64 (k : Int), u3, u4, u5, u6, u7, u8, u9, u10, u11, u12, u13, u14, u15, u16, u17, u18, u19], defers := [] } ∧ Hid (Wtr D w' b bf bw l') ∧ Hid (l' ++ bitsOf n k = L) ∧ Hid (k ≤ 64) ∧ Hid (Below D.heap.size w w' ∧ Kw w w')) (fun a' _ => (intOfV (a'.tmps.getD 2 undef)).toNat) rfl ?_ ?_
  · have H := I
    have HB := Lib.hid (And.intro (Below.refl D.heap.size w) (Kw.refl w))
    have HD := Lib.hid I.out.at'.size
    cases c with
    | zero =>
      have e : l = L := by have := LE.out; simpa [bitsOf] using this
      go_wp2
      go_step3
      go_wp2
      all_goals try simp only [Exit.jump]
      go_end0
      subst e
      exact ⟨rfl, H.out, HB.out.1, HB.out.2⟩
    | succ j =>
      have HJ := Lib.hid (show j < 64 ∧ l.length + 1 ≤ 1000000000000 by have h1 := LE.out; have h2 := LL.out; rw [← h1, List.length_append, bitsOf_length] at h2; have := HC.out; omega)
      have HJ2 := Lib.hid (show (l ++ [n.testBit j]) ++ bitsOf n j = L by have h1 := LE.out; rw [bitsOf_succ] at h1; rw [← h1, List.append_assoc]; rfl)
      have cj : ((j + 1 : Nat) : Int) - 1 = (j : Int) := by omega
      have cw := Lib.hid (show wrap64 (j : Int) = (j : Int) by have := HJ.out.1; unfold wrap64; omega)
      have cg : (((j + 1 : Nat) : Int) > 0) := by omega
      go_wp2
      go_step3
      go_upto_region 2 with fail
      rw [cw.out]
      have E1 := Lib.hid (Mem.nil w)
      refine wp_region_memS (S := fun W' => W'.heap[b]? = some (.cells #[.func (.func 69) #[] #[.pointer (some ⟨bf, 0, none⟩), .pointer (some ⟨bw, 0, none⟩)], .func (.func 70) #[] #[.pointer (some ⟨bw, 0, none⟩)]] 111 (0, 0))) E1 (by kernel_rfl) ?_
      clear E1
      intro wx E0
      have HX := Lib.hid (H.out.call E0.out.below)
      have BX := Lib.hid (And.intro (below_trans_call HB.out.1 HD.out E0.out.below) (HB.out.2.trans (Kw.below E0.out.below)))
      have S0 := Lib.hid HX.out.box
      clear E0
      try simp only [Act.put, List.getElem_toArray, List.getElem_cons_succ, List.getElem_cons_zero, List.setIfInBounds_toArray, List.set_cons_zero, List.set_cons_succ]
      refine hm_run 0 10 (.pointer (some ⟨b, 0, none⟩)) rfl rfl (by kernel_rfl) (by kernel_rfl) (by kernel_rfl) (fun _ _ _ h => h) rfl (fun W' hW => rfl) S0.out ?_
      try simp only [Act.put, List.getElem_toArray, List.getElem_cons_succ, List.getElem_cons_zero, List.setIfInBounds_toArray, List.set_cons_zero, List.set_cons_succ]
      refine hm_run 1 11 (.pointer (some ⟨b, 0, none⟩)) rfl rfl (by kernel_rfl) (by kernel_rfl) (by kernel_rfl) (fun _ _ _ h => h) rfl (fun W' hW => rfl) S0.out ?_
      try simp only [Act.put, List.getElem_toArray, List.getElem_cons_succ, List.getElem_cons_zero, List.setIfInBounds_toArray, List.set_cons_zero, List.set_cons_succ]
      refine hm_run 2 12 (.pointer (some ⟨b, 0, none⟩)) rfl rfl (by kernel_rfl) (by kernel_rfl) (by kernel_rfl) (fun _ _ _ h => h) rfl (fun W' hW => rfl) S0.out ?_
      try simp only [Act.put, List.getElem_toArray, List.getElem_cons_succ, List.getElem_cons_zero, List.setIfInBounds_toArray, List.set_cons_zero, List.set_cons_succ]
      refine hm_run 3 13 (.func (.func 69) #[] #[.pointer (some ⟨bf, 0, none⟩), .pointer (some ⟨bw, 0, none⟩)]) rfl rfl (by kernel_rfl) (by kernel_rfl) (by kernel_rfl) (fun _ _ _ h => h) rfl (fun W' hW => exec_load rfl (run_load_one Tryd.underlying109 rfl (cell_of_here hW 0 rfl))) S0.out ?_
      try simp only [Act.put, List.getElem_toArray, List.getElem_cons_succ, List.getElem_cons_zero, List.setIfInBounds_toArray, List.set_cons_zero, List.set_cons_succ]
      refine hm_run 4 14 (.int .u64 (n : Int)) rfl rfl (by kernel_rfl) (by kernel_rfl) (by kernel_rfl) (fun _ _ _ h => h) rfl (fun W' hW => rfl) S0.out ?_
      try simp only [Act.put, List.getElem_toArray, List.getElem_cons_succ, List.getElem_cons_zero, List.setIfInBounds_toArray, List.set_cons_zero, List.set_cons_succ]
      refine hm_run 5 15 (.int .i64 (j : Int)) rfl rfl (by kernel_rfl) (by kernel_rfl) (by kernel_rfl) (fun _ _ _ h => h) rfl (fun W' hW => rfl) S0.out ?_
      try simp only [Act.put, List.getElem_toArray, List.getElem_cons_succ, List.getElem_cons_zero, List.setIfInBounds_toArray, List.set_cons_zero, List.set_cons_succ]
      refine hm_run 6 16 (.int .u64 ((n / 2 ^ j : Nat) : Int)) rfl rfl (by kernel_rfl) (by kernel_rfl) (by kernel_rfl) (fun _ _ _ h => h) rfl (fun W' hW => exec_shr64 rfl rfl rfl HJ.out.1) S0.out ?_
      try simp only [Act.put, List.getElem_toArray, List.getElem_cons_succ, List.getElem_cons_zero, List.setIfInBounds_toArray, List.set_cons_zero, List.set_cons_succ]
      refine hm_run 7 17 (.int .u64 ((n / 2 ^ j % 2 : Nat) : Int)) rfl rfl (by kernel_rfl) (by kernel_rfl) (by kernel_rfl) (fun _ _ _ h => h) rfl (fun W' hW => exec_and1 rfl rfl rfl (Nat.lt_of_le_of_lt (Nat.div_le_self _ _) HN.out)) S0.out ?_
      try simp only [Act.put, List.getElem_toArray, List.getElem_cons_succ, List.getElem_cons_zero, List.setIfInBounds_toArray, List.set_cons_zero, List.set_cons_succ]
      refine hm_run 8 18 (.bool (n.testBit j)) rfl rfl (by kernel_rfl) (by kernel_rfl) (by kernel_rfl) (fun _ _ _ h => h) rfl (fun W' hW => exec_eq1 rfl rfl rfl (bit_of n j)) S0.out ?_
      try simp only [Act.put, List.getElem_toArray, List.getElem_cons_succ, List.getElem_cons_zero, List.setIfInBounds_toArray, List.set_cons_zero, List.set_cons_succ]
      refine hm_one (i := 9) (by kernel_rfl) ?_
      refine hm_step 9 rfl (by kernel_rfl) fun K hK => ?_
      try simp only [Act.put, List.getElem_toArray, List.getElem_cons_succ, List.getElem_cons_zero, List.setIfInBounds_toArray, List.set_cons_zero, List.set_cons_succ]
      go_simp
      go_at_call 69
      refine (put_any HX.out.at' (n.testBit j) HX.out.len).mono ?_
      rintro e w5 ⟨rfl, hA, hb5, hk5⟩
      have H5 := Lib.hid (HX.out.put hA hk5 (by rw [List.length_append]; exact HJ.out.2))
      have B5 := Lib.hid (And.intro (BX.out.1.trans hb5) (BX.out.2.trans hk5))
      have S5 := Lib.hid H5.out.box
      clear hA hb5 hk5
      refine hK _ _ S5.out ?_
      clear hK K S0
      try simp only [Act.put, List.getElem_toArray, List.getElem_cons_succ, List.getElem_cons_zero, List.setIfInBounds_toArray, List.set_cons_zero, List.set_cons_succ]
      refine wpAnyH_done (by kernel_rfl) ?_ _
      go_wp2
      go_step3
      refine ⟨rfl, j, _, _, _, _, _, _, _, _, _, _, _, _, _, _, _, _, _, _, rfl, H5, Lib.hid HJ2.out, Lib.hid (by have := HJ.out.1; omega), B5⟩
  · rintro a' w' ⟨k, l', u3, u4, u5, u6, u7, u8, u9, u10, u11, u12, u13, u14, u15, u16, u17, u18, u19, rfl, H, LE2, HC2, HB⟩
    clear LE HC I
    have LE := LE2
    have HC := HC2
    have HD := Lib.hid H.out.at'.size
    clear LE2 HC2
    cases k with
    | zero =>
      have e : l' = L := by have := LE.out; simpa [bitsOf] using this
      go_wp2
      skip
      go_wp2
      all_goals try simp only [Exit.jump]
      go_end0
      subst e
      exact ⟨rfl, H.out, HB.out.1, HB.out.2⟩
    | succ j =>
      have HJ := Lib.hid (show j < 64 ∧ l'.length + 1 ≤ 1000000000000 by have h1 := LE.out; have h2 := LL.out; rw [← h1, List.length_append, bitsOf_length] at h2; have := HC.out; omega)
      have HJ2 := Lib.hid (show (l' ++ [n.testBit j]) ++ bitsOf n j = L by have h1 := LE.out; rw [bitsOf_succ] at h1; rw [← h1, List.append_assoc]; rfl)
      have cj : ((j + 1 : Nat) : Int) - 1 = (j : Int) := by omega
      have cw := Lib.hid (show wrap64 (j : Int) = (j : Int) by have := HJ.out.1; unfold wrap64; omega)
      have cg : (((j + 1 : Nat) : Int) > 0) := by omega
      skip
      skip
      go_upto_region 2 with fail
      rw [cw.out]
      have E1 := Lib.hid (Mem.nil w')
      refine wp_region_memS (S := fun W' => W'.heap[b]? = some (.cells #[.func (.func 69) #[] #[.pointer (some ⟨bf, 0, none⟩), .pointer (some ⟨bw, 0, none⟩)], .func (.func 70) #[] #[.pointer (some ⟨bw, 0, none⟩)]] 111 (0, 0))) E1 (by kernel_rfl) ?_
      clear E1
      intro wx E0
      have HX := Lib.hid (H.out.call E0.out.below)
      have BX := Lib.hid (And.intro (below_trans_call HB.out.1 HD.out E0.out.below) (HB.out.2.trans (Kw.below E0.out.below)))
      have S0 := Lib.hid HX.out.box
      clear E0
      try simp only [Act.put, List.getElem_toArray, List.getElem_cons_succ, List.getElem_cons_zero, List.setIfInBounds_toArray, List.set_cons_zero, List.set_cons_succ]
      refine hm_run 0 10 (.pointer (some ⟨b, 0, none⟩)) rfl rfl (by kernel_rfl) (by kernel_rfl) (by kernel_rfl) (fun _ _ _ h => h) rfl (fun W' hW => rfl) S0.out ?_
      try simp only [Act.put, List.getElem_toArray, List.getElem_cons_succ, List.getElem_cons_zero, List.setIfInBounds_toArray, List.set_cons_zero, List.set_cons_succ]
      refine hm_run 1 11 (.pointer (some ⟨b, 0, none⟩)) rfl rfl (by kernel_rfl) (by kernel_rfl) (by kernel_rfl) (fun _ _ _ h => h) rfl (fun W' hW => rfl) S0.out ?_
      try simp only [Act.put, List.getElem_toArray, List.getElem_cons_succ, List.getElem_cons_zero, List.setIfInBounds_toArray, List.set_cons_zero, List.set_cons_succ]
      refine hm_run 2 12 (.pointer (some ⟨b, 0, none⟩)) rfl rfl (by kernel_rfl) (by kernel_rfl) (by kernel_rfl) (fun _ _ _ h => h) rfl (fun W' hW => rfl) S0.out ?_
      try simp only [Act.put, List.getElem_toArray, List.getElem_cons_succ, List.getElem_cons_zero, List.setIfInBounds_toArray, List.set_cons_zero, List.set_cons_succ]
      refine hm_run 3 13 (.func (.func 69) #[] #[.pointer (some ⟨bf, 0, none⟩), .pointer (some ⟨bw, 0, none⟩)]) rfl rfl (by kernel_rfl) (by kernel_rfl) (by kernel_rfl) (fun _ _ _ h => h) rfl (fun W' hW => exec_load rfl (run_load_one Tryd.underlying109 rfl (cell_of_here hW 0 rfl))) S0.out ?_
      try simp only [Act.put, List.getElem_toArray, List.getElem_cons_succ, List.getElem_cons_zero, List.setIfInBounds_toArray, List.set_cons_zero, List.set_cons_succ]
      refine hm_run 4 14 (.int .u64 (n : Int)) rfl rfl (by kernel_rfl) (by kernel_rfl) (by kernel_rfl) (fun _ _ _ h => h) rfl (fun W' hW => rfl) S0.out ?_
      try simp only [Act.put, List.getElem_toArray, List.getElem_cons_succ, List.getElem_cons_zero, List.setIfInBounds_toArray, List.set_cons_zero, List.set_cons_succ]
      refine hm_run 5 15 (.int .i64 (j : Int)) rfl rfl (by kernel_rfl) (by kernel_rfl) (by kernel_rfl) (fun _ _ _ h => h) rfl (fun W' hW => rfl) S0.out ?_
      try simp only [Act.put, List.getElem_toArray, List.getElem_cons_succ, List.getElem_cons_zero, List.setIfInBounds_toArray, List.set_cons_zero, List.set_cons_succ]
      refine hm_run 6 16 (.int .u64 ((n / 2 ^ j : Nat) : Int)) rfl rfl (by kernel_rfl) (by kernel_rfl) (by kernel_rfl) (fun _ _ _ h => h) rfl (fun W' hW => exec_shr64 rfl rfl rfl HJ.out.1) S0.out ?_
      try simp only [Act.put, List.getElem_toArray, List.getElem_cons_succ, List.getElem_cons_zero, List.setIfInBounds_toArray, List.set_cons_zero, List.set_cons_succ]
      refine hm_run 7 17 (.int .u64 ((n / 2 ^ j % 2 : Nat) : Int)) rfl rfl (by kernel_rfl) (by kernel_rfl) (by kernel_rfl) (fun _ _ _ h => h) rfl (fun W' hW => exec_and1 rfl rfl rfl (Nat.lt_of_le_of_lt (Nat.div_le_self _ _) HN.out)) S0.out ?_
      try simp only [Act.put, List.getElem_toArray, List.getElem_cons_succ, List.getElem_cons_zero, List.setIfInBounds_toArray, List.set_cons_zero, List.set_cons_succ]
      refine hm_run 8 18 (.bool (n.testBit j)) rfl rfl (by kernel_rfl) (by kernel_rfl) (by kernel_rfl) (fun _ _ _ h => h) rfl (fun W' hW => exec_eq1 rfl rfl rfl (bit_of n j)) S0.out ?_
      try simp only [Act.put, List.getElem_toArray, List.getElem_cons_succ, List.getElem_cons_zero, List.setIfInBounds_toArray, List.set_cons_zero, List.set_cons_succ]
      refine hm_one (i := 9) (by kernel_rfl) ?_
      refine hm_step 9 rfl (by kernel_rfl) fun K hK => ?_
      try simp only [Act.put, List.getElem_toArray, List.getElem_cons_succ, List.getElem_cons_zero, List.setIfInBounds_toArray, List.set_cons_zero, List.set_cons_succ]
      go_simp
      go_at_call 69
      refine (put_any HX.out.at' (n.testBit j) HX.out.len).mono ?_
      rintro e w5 ⟨rfl, hA, hb5, hk5⟩
      have H5 := Lib.hid (HX.out.put hA hk5 (by rw [List.length_append]; exact HJ.out.2))
      have B5 := Lib.hid (And.intro (BX.out.1.trans hb5) (BX.out.2.trans hk5))
      have S5 := Lib.hid H5.out.box
      clear hA hb5 hk5
      refine hK _ _ S5.out ?_
      clear hK K S0
      try simp only [Act.put, List.getElem_toArray, List.getElem_cons_succ, List.getElem_cons_zero, List.setIfInBounds_toArray, List.set_cons_zero, List.set_cons_succ]
      refine wpAnyH_done (by kernel_rfl) ?_ _
      go_wp2
      go_step3
      refine ⟨rfl, ⟨j, _, _, _, _, _, _, _, _, _, _, _, _, _, _, _, _, _, _, rfl, H5, Lib.hid HJ2.out, Lib.hid (by have := HJ.out.1; omega), B5⟩, ?_⟩
      simp [intOfV]
end Go.Proofs.YtoopcmcmjaikhaaDoor

