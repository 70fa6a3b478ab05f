/- For every slice of calls: numbers written by bits are read back, as far as they were written, fewer than eight bits are left, and a bit can be written still; the call returns true. No condition. -/
import Derived.Test.YtmjaimiehhgidaaRdo
import Derived.ShutString
import Derived.ChangeOld
import Derived.Below
import Derived.SizedLaws
set_option linter.unusedVariables false
set_option linter.unusedSimpArgs false
namespace Go.Proofs.Ytmjaimiehhgidaa.riceBits
open Go.ChangeShapes Go.WideShapes Go.ChangeAt Go.RowKit Go.Lib Go.Sort Go.Proofs.Ytmjaimiehhgidaa

set_option maxRecDepth 100000
theorem sizeDo (w : World) : (sizeOf 31).run Try.prog w = .ok 3 w := by kernel_rfl
theorem exec_lt64 {o : Oper} {ev : Operand → Value} {W : World} {x y : Operand} {n : Nat} {q : Bool} (ho : o.op = .binOp .lss 3 x y 3) (hx : ev x = .int .i64 (n : Int)) (hy : ev y = .int .i64 64) (hq : decide ((n : Int) < 64) = q) : (execOp ev o).run Try.prog W = .ok (.value (.bool q)) W := by
  subst hq
  unfold execOp
  simp [ho, hx, hy, go_sem]
theorem exec_eq64i {o : Oper} {ev : Operand → Value} {W : World} {x y : Operand} {n : Nat} {q : Bool} (ho : o.op = .binOp .eql 3 x y 3) (hx : ev x = .int .i64 (n : Int)) (hy : ev y = .int .i64 64) (hq : decide ((n : Int) = 64) = q) : (execOp ev o).run Try.prog W = .ok (.value (.bool q)) W := by
  subst hq
  unfold execOp
  by_cases h : (n : Int) = 64
  · simp [ho, hx, hy, go_sem, Try.underlying3, h]
  · simp [ho, hx, hy, go_sem, Try.underlying3, h]
theorem pow64 {c : Nat} (h : c < 64) : 1 ≤ 2 ^ c ∧ 2 ^ c ≤ 9223372036854775808 := ⟨Nat.two_pow_pos c, Nat.le_trans (Nat.pow_le_pow_right (by omega) (by omega : c ≤ 63)) (by decide)⟩
theorem exec_shl1 {o : Oper} {ev : Operand → Value} {W : World} {x y : Operand} {k : Nat} (ho : o.op = .binOp .shl 29 x y 3) (hx : ev x = .int .u64 1) (hy : ev y = .int .i64 (k : Int)) (hk : k < 64) : (execOp ev o).run Try.prog W = .ok (.value (.int .u64 ((2 ^ k : Nat) : Int))) W := by
  have h := exec_shlv (n := 1) ho hx hy hk (W := W)
  have h2 := pow64 hk
  rw [Nat.one_mul, Nat.mod_eq_of_lt (by omega)] at h
  exact h
theorem exec_dec {o : Oper} {ev : Operand → Value} {W : World} {x y : Operand} {n : Nat} (ho : o.op = .binOp .sub 29 x y 29) (hx : ev x = .int .u64 (n : Int)) (hy : ev y = .int .u64 1) (hn : 1 ≤ n ∧ n ≤ 9223372036854775808) : (execOp ev o).run Try.prog W = .ok (.value (.int .u64 ((n - 1 : Nat) : Int))) W := by
  have h : IntKind.u64.wrap ((n : Int) - 1) = ((n - 1 : Nat) : Int) := by rw [IntKind.wrap_u64]; omega
  unfold execOp
  simp only [ho, hx, hy]
  simp [go_sem, h]
theorem exec_mask {o : Oper} {ev : Operand → Value} {W : World} {x y : Operand} {n c : Nat} (ho : o.op = .binOp .and 29 x y 29) (hx : ev x = .int .u64 (n : Int)) (hy : ev y = .int .u64 ((2 ^ c - 1 : Nat) : Int)) (hn : n < 18446744073709551616) (hc : c < 64) : (execOp ev o).run Try.prog W = .ok (.value (.int .u64 ((n % 2 ^ c : Nat) : Int))) W := by
  have h2 := pow64 hc
  have h := bits_and_u64_nat n (2 ^ c - 1) hn (by omega)
  rw [Nat.and_two_pow_sub_one_eq_mod] at h
  unfold execOp
  simp only [ho, hx, hy]
  simp only [go_sem, h]
  rfl
theorem exec_ne64 {o : Oper} {ev : Operand → Value} {W : World} {x y : Operand} {n : Nat} (ho : o.op = .binOp .neq 29 x y 29) (hx : ev x = .int .u64 (n : Int)) (hy : ev y = .int .u64 (n : Int)) : (execOp ev o).run Try.prog W = .ok (.value (.bool false)) W := by
  unfold execOp
  simp [ho, hx, hy, go_sem, Try.underlying29]
theorem ct_of (a1 : Int) : ∃ r : Nat, r ≤ 64 ∧ IntKind.i64.wrap ((IntKind.u64.wrap a1).tmod 65) = (r : Int) ∧ r = (a1 % 18446744073709551616 % 65).toNat := by
  have h2 : 0 ≤ (a1 % 18446744073709551616) % 65 := Int.emod_nonneg _ (by omega)
  have h3 : (a1 % 18446744073709551616) % 65 < 65 := Int.emod_lt_of_pos _ (by omega)
  refine ⟨((a1 % 18446744073709551616) % 65).toNat, by omega, ?_, rfl⟩
  rw [IntKind.wrap_u64, Int.tmod_eq_emod_of_nonneg (by omega), Int.toNat_of_nonneg h2, IntKind.wrap_i64]
  omega
/-- How many bits are written. -/
def ct (d : Dos) (j : Nat) : Nat := (d.cnt j % 18446744073709551616 % 65).toNat
theorem ct_le (d : Dos) (j : Nat) : ct d j ≤ 64 := by
  have h3 : (d.cnt j % 18446744073709551616) % 65 < 65 := Int.emod_lt_of_pos _ (by omega)
  unfold ct
  omega
abbrev BB (d : Dos) : Nat → List Bool := cats fun j => bitsOf (d.num j) (ct d j)
theorem BB_le (d : Dos) (j : Nat) : (BB d j).length ≤ j * 64 := cats_le _ 64 (fun i => by rw [bitsOf_length]; exact ct_le d i) j
theorem row_do {W w : World} {g o n c j : Nat} {d : Dos} (R : VRow 3 w (some ⟨g, o, none⟩) g o n c (dv d)) (hj : j < n) : (Instr.loadAt 31 (.pointer (some ⟨g, o + j * 3, none⟩))).run Try.prog w = .ok (.agg (arr 3 (dv1 (d.op j) (d.cnt j) (d.num j)))) w := by
  have h := R.load (P := Try.prog) (ty := 31) hj Try.underlying31 rfl (by kernel_rfl)
  rw [arr_congr (g := dv1 (d.op j) (d.cnt j) (d.num j)) (fun i hi => dv_at d j i hi)] at h
  exact h
set_option maxHeartbeats 16000000 in
theorem walk (W : World) (a0 : Option Addr) (g0 o0 n0 c0 : Nat) (x0 : Dos) (w0 : VRow 3 W a0 g0 o0 n0 c0 (dv x0) ∧ x0.Ok) (m0 : c0 * 24 ≤ 140737488351232) :
    Calls Try.prog 5 #[.slice a0 n0 c0] W fun e w' => e = .returned (.bool true) ∧ Below W.heap.size W w' := by
  have le := w0.1.le
  obtain ⟨m, hm⟩ : ∃ m, m = min n0 40 := ⟨_, rfl⟩
  have hm1 : m ≤ n0 := by omega
  have hm2 : m ≤ 40 := by omega
  have MIN : Hid (min n0 40 = m) := Lib.hid hm.symm
  obtain ⟨p0, hp0, R0⟩ := w0.1.slice (l := 0) (h := m) (m := c0) (by omega) hm1 (by omega) (Nat.le_refl _)
  have R := Lib.hid (R0.to (U := dv x0) fun i _ => by rw [Nat.zero_mul, Nat.zero_add])
  simp only [Nat.sub_zero, Nat.zero_mul, Nat.add_zero] at R hp0
  have SL := Lib.hid (fun w : World => run_cut (S := 22) (n := n0) Try.underlying22 sizeDo hp0 (by omega) w)
  have OK := Lib.hid w0.2
  have HM := Lib.hid hm2
  clear hm w0 m0 R0 hp0 le hm2
  go_enter Try.func5, Try.ntmps5
  go_upto_region 3 with (first
    | (refine wpList_known rfl (.int .i64 ((m : Nat) : Int)) _ (exec_min rfl rfl rfl rfl (by have := MIN.out; omega)) ?_)
    | (refine wpList_known rfl (.slice p0 m c0) _ (exec_sl rfl (SL.out _)) ?_)
    | (go_at_call 7; refine (rinew_any W).mono ?_; rintro e w2 ⟨b, bf, bw, rfl, hT, hb⟩; have WT := Lib.hid hT; have AA := Lib.hid hb; clear hT hb))
  go_wp2
  go_loopg [20] m (fun k i wr => ∃ (j : Nat), j + k = m ∧ i = .int .i64 (j : Int) ∧ Hid (Wtr W wr b bf bw (BB x0 j)) ∧ Hid (Below W.heap.size W wr))
  case atStart => exact ⟨0, by omega, rfl, WT, AA⟩
  case round =>
    clear WT AA
    obtain ⟨j, hj, rfl, WT, AA⟩ := hrel
    obtain ⟨kk, rfl⟩ : ∃ kk : Nat, kk = gk := ⟨_, rfl⟩
    by_cases hlt : j < m
    · have HLT := Lib.hid hlt
      have RR := Lib.hid (R.out.below AA.out)
      obtain rfl := R.out.head (by omega)
      obtain ⟨cc, hc1, hc2, hc3⟩ := ct_of (x0.cnt j)
      have HC := Lib.hid (show cc = ct x0 j from hc3)
      obtain ⟨N, hN⟩ : ∃ N, N = x0.num j := ⟨_, rfl⟩
      have HN := Lib.hid hN
      have YB := Lib.hid (show N < 18446744073709551616 ∧ cc ≤ 64 ∧ (BB x0 j).length + cc ≤ 1000000000000 from ⟨by rw [hN]; exact OK.out.num j, hc1, by have := BB_le x0 j; have := HM.out; omega⟩)
      obtain ⟨C, hC⟩ : ∃ C, C = x0.cnt j := ⟨_, rfl⟩
      obtain ⟨A, hA⟩ : ∃ A, A = x0.op j := ⟨_, rfl⟩
      have LD := Lib.hid (fun (w : World) (h : VRow 3 w (some ⟨g0, o0, none⟩) g0 o0 m c0 (dv x0)) => row_do (W := W) h hlt)
      rw [← hC, ← hA, ← hN] at LD
      obtain ⟨u, hu⟩ : ∃ u, u = IntKind.u64.wrap C := ⟨_, rfl⟩
      obtain ⟨rv, hrv⟩ : ∃ rv, rv = u.tmod 65 := ⟨_, rfl⟩
      have x1 : IntKind.u64.wrap C = u := hu.symm
      have x3 : u.tmod 65 = rv := hrv.symm
      have x4 : IntKind.i64.wrap rv = (cc : Int) := by rw [hrv, hu, hC]; exact hc2
      clear hN hC hA hu hrv hc1 hc2 hc3
      go_wp2_with (first
        | (refine wpList_ix (k := 3) (j := j) Try.underlying22 (by kernel_rfl) (.tmp 18) (.tmp 20) rfl rfl rfl rfl HLT.out rfl ?_)
        | (refine wpList_ld 31 (.tmp 22) rfl rfl rfl (LD.out _ RR.out) ?_)
        | (refine do_alloc rfl rfl ?_; intro b5 w5 A5; have WT5 := Lib.hid (WT.out.call A5.out.1); have AA5 := Lib.hid (AA.out.trans (A5.out.1.mono AA.out.size)))
        | (refine do_store A5 (arr_size _ _) rfl (.tmp 5) (.tmp 23) rfl rfl rfl ?_; intro w6 S6; have WT6 := Lib.hid (WT5.out.only A5.out.2.2 S6.out.2 (Nat.le_trans AA.out.size A5.out.2.1) (by decide) (by decide) (by decide) (by decide)); have AA6 := Lib.hid (AA5.out.trans (S6.out.2.below (Nat.le_trans AA.out.size A5.out.2.1) AA5.out.size)))
        | (refine wpList_ld1 29 (.tmp 25) rfl rfl rfl Try.underlying29 rfl (cell_of_here S6.out.1 2 (v := .int .u64 (N : Int)) rfl) ?_)
        | (refine wpList_ld1 3 (.tmp 27) rfl rfl rfl Try.underlying3 rfl (cell_of_here S6.out.1 1 (v := .int .i64 C) rfl) ?_)
        | (go_at_call 10; refine (wbits_any WT6.out N cc YB.out.1 YB.out.2.1 YB.out.2.2).mono ?_; rintro e w7 ⟨rfl, hT, hb, hk⟩; have WT7 := Lib.hid hT; have AA7 := Lib.hid (AA6.out.trans hb); clear hT hb hk))
      have WT9 : Hid (Wtr W w7 b bf bw (BB x0 (j + 1))) := Lib.hid (by have := WT7.out; rw [HN.out, HC.out] at this; exact this)
      go_roundg (m - (j + 1))
      case measure => omega
      case rel => exact ⟨j + 1, by omega, congrArg (Value.int .i64) (show wrap64 ((j : Int) + 1) = ((j + 1 : Nat) : Int) by have := HM.out; have := HLT.out; unfold wrap64; omega), WT9, AA7⟩
    · obtain rfl : j = m := by omega
      obtain ⟨xs, hxs⟩ : ∃ xs, xs = pk (BB x0 j) := ⟨_, rfl⟩
      have HX := Lib.hid hxs
      have XL := Lib.hid (show xs.length = nB (BB x0 j).length ∧ (BB x0 j).length ≤ 4000 by rw [hxs, pk_length]; exact ⟨rfl, by have := BB_le x0 j; have := HM.out; omega⟩)
      have WB := Lib.hid (wbytes_any WT.out)
      rw [← hxs] at WB
      clear hxs
      go_wp2_with (first
        | (go_at_call 15; refine WB.out.mono ?_; rintro e w3 ⟨p3, g3, c3, rfl, hN, hb⟩; have R3 := Lib.hid hN.row; have AA3 := Lib.hid (AA.out.trans (hb.mono AA.out.size)); have WT3 := Lib.hid (WT.out.call hb); clear hN hb)
        | (go_at_call 17; refine (ropen_any R3 (by have := XL.out; unfold nB at this; omega)).mono ?_; rintro e w4 ⟨b2, p4, g4, c4, rfl, hR, hb⟩; rw [tl_lf xs] at hR; have RD := Lib.hid hR; have AA4 := Lib.hid (AA3.out.trans (hb.mono AA3.out.size)); have WT4 := Lib.hid (WT3.out.call hb); clear hR hb))
      clear WB WT AA WT3
      have SZ := Lib.hid AA3.out.size
      go_loopg [40] j (fun k i wr => ∃ (q : Nat), q + k = j ∧ i = .int .i64 (q : Int) ∧ Hid (Rdr w3 wr b2 p4 g4 c4 xs (BB x0 q).length) ∧ Hid (Wtr W wr b bf bw (BB x0 j)) ∧ Hid (Below W.heap.size W wr))
      case atStart => exact ⟨0, by omega, rfl, RD, WT4, AA4⟩
      case round =>
        clear RD WT4 AA4
        obtain ⟨q, hq, rfl, RD, WT, AA⟩ := hrel
        obtain ⟨kk2, rfl⟩ : ∃ kk : Nat, kk = gk := ⟨_, rfl⟩
        by_cases hlt2 : q < j
        · have HLT := Lib.hid hlt2
          have RR := Lib.hid (R.out.below AA.out)
          obtain rfl := R.out.head (by omega)
          obtain ⟨cc, hc1, hc2, hc3⟩ := ct_of (x0.cnt q)
          have hc4 : cc = ct x0 q := hc3
          obtain ⟨N, hN⟩ : ∃ N, N = x0.num q := ⟨_, rfl⟩
          have NB := Lib.hid (show N < 18446744073709551616 by rw [hN]; exact OK.out.num q)
          have CC := Lib.hid hc1
          obtain ⟨B, hB⟩ := cats_split (fun j => bitsOf (x0.num j) (ct x0 j)) j q hlt2
          obtain ⟨v, hv⟩ : ∃ v, v = valFrom xs (BB x0 q).length cc := ⟨_, rfl⟩
          have HV := Lib.hid (show v = N % 2 ^ cc by
            have := read_bits (BB x0 q) B N cc
            have e : pk (BB x0 q ++ (bitsOf N cc ++ B)) = xs := by rw [HX.out]; unfold BB; rw [hB, hN, hc4]
            rw [e] at this
            rw [hv, this])
          have VQ := Lib.hid hv
          have TE := Lib.hid (show (BB x0 q).length + cc ≤ 8 * xs.length ∧ (BB x0 (q + 1)).length = (BB x0 q).length + cc by
            have h1 : (BB x0 (q + 1)).length = (BB x0 q).length + cc := by show (cats _ q ++ bitsOf _ _).length = _; rw [List.length_append, bitsOf_length, hc4]
            have h2 : (BB x0 j).length = (BB x0 q).length + (cc + B.length) := by unfold BB; rw [hB, List.length_append, List.length_append, bitsOf_length, hc4]
            have := XL.out
            unfold nB at this
            exact ⟨by omega, h1⟩)
          obtain ⟨C, hC⟩ : ∃ C, C = x0.cnt q := ⟨_, rfl⟩
          obtain ⟨A, hA⟩ : ∃ A, A = x0.op q := ⟨_, rfl⟩
          have LD := Lib.hid (fun (w : World) (h : VRow 3 w (some ⟨g0, o0, none⟩) g0 o0 j c0 (dv x0)) => row_do (W := W) h hlt2)
          rw [← hC, ← hA, ← hN] at LD
          obtain ⟨u, hu⟩ : ∃ u, u = IntKind.u64.wrap C := ⟨_, rfl⟩
          obtain ⟨rv, hrv⟩ : ∃ rv, rv = u.tmod 65 := ⟨_, rfl⟩
          have x1 : IntKind.u64.wrap C = u := hu.symm
          have x3 : u.tmod 65 = rv := hrv.symm
          have x4 : IntKind.i64.wrap rv = (cc : Int) := by rw [hrv, hu, hC]; exact hc2
          clear hN hC hA hu hrv hc1 hc2 hc3 hc4 hB hv
          go_upto_region 15 with (first
            | (refine wpList_ix (k := 3) (j := q) Try.underlying22 (by kernel_rfl) (.tmp 38) (.tmp 40) rfl rfl rfl rfl HLT.out rfl ?_)
            | (refine wpList_ld 31 (.tmp 42) rfl rfl rfl (LD.out _ RR.out) ?_)
            | (refine do_alloc rfl rfl ?_; intro b8 w5 A5; have WT5 := Lib.hid (WT.out.call A5.out.1); have RD5 := Lib.hid (RD.out.call A5.out.1); have AA5 := Lib.hid (AA.out.trans (A5.out.1.mono AA.out.size)))
            | (refine do_store A5 (arr_size _ _) rfl (.tmp 8) (.tmp 43) rfl rfl rfl ?_; intro w6 S6; have WT6 := Lib.hid (WT5.out.only A5.out.2.2 S6.out.2 (Nat.le_trans AA.out.size A5.out.2.1) (by decide) (by decide) (by decide) (by decide)); have RD6 := Lib.hid (RD5.out.only A5.out.2.2 S6.out.2 (by decide) (by decide)); have AA6 := Lib.hid (AA5.out.trans (S6.out.2.below (Nat.le_trans AA.out.size A5.out.2.1) AA5.out.size)))
            | (refine wpList_ld1 3 (.tmp 44) rfl rfl rfl Try.underlying3 rfl (cell_of_here S6.out.1 1 (v := .int .i64 C) rfl) ?_)
            | (go_at_call 20; refine (rbits_any RD6.out cc CC.out TE.out.1).mono ?_; rintro e w7 ⟨rfl, hR, hO⟩; rw [← VQ.out]; have BX := Lib.hid (heap_only RD6.out.box hO S6.out.1 (by decide)); have RD7 := Lib.hid hR; have WT7 := Lib.hid (WT6.out.only RD6.out.box hO (Nat.le_trans SZ.out RD6.out.lo) (by decide) (by decide) (by decide) (by decide)); have AA7 := Lib.hid (AA6.out.trans (hO.below (Nat.le_trans SZ.out RD6.out.lo) AA6.out.size)); clear hR hO))
          clear x1 x3 x4
          have E1 := Lib.hid (Mem.nil w7)
          refine wp_region_memS (S := fun W' => W'.heap[b8]? = some (.cells (arr 3 (dv1 A C N)) 31 (0, 0))) E1 (by kernel_rfl) ?_
          clear E1
          intro wx E0
          have S0 := Lib.hid (show wx.heap[b8]? = some (.cells (arr 3 (dv1 A C N)) 31 (0, 0)) by rw [E0.out.below.block b8 (heap_lt BX.out)]; exact BX.out)
          have RD8 := Lib.hid (RD7.out.call E0.out.below)
          have WT8 := Lib.hid (WT7.out.call E0.out.below)
          have AA8 := Lib.hid (AA7.out.trans (E0.out.below.mono AA7.out.size))
          clear E0
          try simp only [Act.put, List.getElem_toArray, List.getElem_cons_succ, List.getElem_cons_zero, List.setIfInBounds_toArray, List.set_cons_zero, List.set_cons_succ]
          by_cases hcl : cc < 64
          · have LT := Lib.hid hcl
            clear hcl
            refine hm_run 0 55 (.int .i64 0) rfl rfl (by kernel_rfl) (by kernel_rfl) (by kernel_rfl) (fun _ _ _ h => h) rfl (fun W' hW => rfl) S0.out ?_
            try simp only [Act.put, List.getElem_toArray, List.getElem_cons_succ, List.getElem_cons_zero, List.setIfInBounds_toArray, List.set_cons_zero, List.set_cons_succ]
            refine hm_run 1 56 (.bool false) rfl rfl (by kernel_rfl) (by kernel_rfl) (by kernel_rfl) (fun _ _ _ h => h) rfl (fun W' hW => rfl) S0.out ?_
            try simp only [Act.put, List.getElem_toArray, List.getElem_cons_succ, List.getElem_cons_zero, List.setIfInBounds_toArray, List.set_cons_zero, List.set_cons_succ]
            refine hm_run 2 57 (.bool false) rfl rfl (by kernel_rfl) (by kernel_rfl) (by kernel_rfl) (fun _ _ _ h => h) rfl (fun W' hW => rfl) S0.out ?_
            try simp only [Act.put, List.getElem_toArray, List.getElem_cons_succ, List.getElem_cons_zero, List.setIfInBounds_toArray, List.set_cons_zero, List.set_cons_succ]
            refine hm_run 3 58 (.int .i64 (cc : Int)) rfl rfl (by kernel_rfl) (by kernel_rfl) (by kernel_rfl) (fun _ _ _ h => h) rfl (fun W' hW => rfl) S0.out ?_
            try simp only [Act.put, List.getElem_toArray, List.getElem_cons_succ, List.getElem_cons_zero, List.setIfInBounds_toArray, List.set_cons_zero, List.set_cons_succ]
            refine hm_run 4 59 (.bool true) rfl rfl (by kernel_rfl) (by kernel_rfl) (by kernel_rfl) (fun _ _ _ h => h) rfl (fun W' hW => exec_lt64 rfl rfl rfl (by first | (simp; done) | (simp; have := LT.out; omega))) S0.out ?_
            try simp only [Act.put, List.getElem_toArray, List.getElem_cons_succ, List.getElem_cons_zero, List.setIfInBounds_toArray, List.set_cons_zero, List.set_cons_succ]
            refine hm_run 5 60 (.bool true) rfl rfl (by kernel_rfl) (by kernel_rfl) (by kernel_rfl) (fun _ _ _ h => h) rfl (fun W' hW => rfl) S0.out ?_
            try simp only [Act.put, List.getElem_toArray, List.getElem_cons_succ, List.getElem_cons_zero, List.setIfInBounds_toArray, List.set_cons_zero, List.set_cons_succ]
            refine hm_run 6 61 (.int .u64 (v : Int)) rfl rfl (by kernel_rfl) (by kernel_rfl) (by kernel_rfl) (fun _ _ _ h => h) rfl (fun W' hW => rfl) S0.out ?_
            try simp only [Act.put, List.getElem_toArray, List.getElem_cons_succ, List.getElem_cons_zero, List.setIfInBounds_toArray, List.set_cons_zero, List.set_cons_succ]
            refine hm_run 7 62 (.pointer (some ⟨b8, 2, none⟩)) rfl rfl (by kernel_rfl) (by kernel_rfl) (by kernel_rfl) (fun _ _ _ h => h) rfl (fun W' hW => rfl) S0.out ?_
            try simp only [Act.put, List.getElem_toArray, List.getElem_cons_succ, List.getElem_cons_zero, List.setIfInBounds_toArray, List.set_cons_zero, List.set_cons_succ]
            refine hm_run 8 63 (.int .u64 (N : Int)) rfl rfl (by kernel_rfl) (by kernel_rfl) (by kernel_rfl) (fun _ _ _ h => h) rfl (fun W' hW => exec_load rfl (run_load_one Try.underlying29 rfl (cell_of_here hW 2 rfl))) S0.out ?_
            try simp only [Act.put, List.getElem_toArray, List.getElem_cons_succ, List.getElem_cons_zero, List.setIfInBounds_toArray, List.set_cons_zero, List.set_cons_succ]
            refine hm_run 9 64 (.int .i64 (cc : Int)) rfl rfl (by kernel_rfl) (by kernel_rfl) (by kernel_rfl) (fun _ _ _ h => h) rfl (fun W' hW => rfl) S0.out ?_
            try simp only [Act.put, List.getElem_toArray, List.getElem_cons_succ, List.getElem_cons_zero, List.setIfInBounds_toArray, List.set_cons_zero, List.set_cons_succ]
            refine hm_run 10 65 (.int .u64 ((2 ^ cc : Nat) : Int)) rfl rfl (by kernel_rfl) (by kernel_rfl) (by kernel_rfl) (fun _ _ _ h => h) rfl (fun W' hW => exec_shl1 rfl rfl rfl LT.out) S0.out ?_
            try simp only [Act.put, List.getElem_toArray, List.getElem_cons_succ, List.getElem_cons_zero, List.setIfInBounds_toArray, List.set_cons_zero, List.set_cons_succ]
            refine hm_run 11 66 (.int .u64 ((2 ^ cc - 1 : Nat) : Int)) rfl rfl (by kernel_rfl) (by kernel_rfl) (by kernel_rfl) (fun _ _ _ h => h) rfl (fun W' hW => exec_dec rfl rfl rfl (pow64 LT.out)) S0.out ?_
            try simp only [Act.put, List.getElem_toArray, List.getElem_cons_succ, List.getElem_cons_zero, List.setIfInBounds_toArray, List.set_cons_zero, List.set_cons_succ]
            refine hm_run 12 67 (.int .u64 (v : Int)) rfl rfl (by kernel_rfl) (by kernel_rfl) (by kernel_rfl) (fun _ _ _ h => h) rfl (fun W' hW => by rw [HV.out]; exact exec_mask rfl rfl rfl NB.out LT.out) S0.out ?_
            try simp only [Act.put, List.getElem_toArray, List.getElem_cons_succ, List.getElem_cons_zero, List.setIfInBounds_toArray, List.set_cons_zero, List.set_cons_succ]
            refine hm_run 13 68 (.bool false) rfl rfl (by kernel_rfl) (by kernel_rfl) (by kernel_rfl) (fun _ _ _ h => h) rfl (fun W' hW => exec_ne64 rfl rfl rfl) S0.out ?_
            try simp only [Act.put, List.getElem_toArray, List.getElem_cons_succ, List.getElem_cons_zero, List.setIfInBounds_toArray, List.set_cons_zero, List.set_cons_succ]
            refine hm_run 14 69 (.bool false) rfl rfl (by kernel_rfl) (by kernel_rfl) (by kernel_rfl) (fun _ _ _ h => h) rfl (fun W' hW => rfl) S0.out ?_
            try simp only [Act.put, List.getElem_toArray, List.getElem_cons_succ, List.getElem_cons_zero, List.setIfInBounds_toArray, List.set_cons_zero, List.set_cons_succ]
            refine hm_run 15 70 (.bool false) rfl rfl (by kernel_rfl) (by kernel_rfl) (by kernel_rfl) (fun _ _ _ h => h) rfl (fun W' hW => rfl) S0.out ?_
            try simp only [Act.put, List.getElem_toArray, List.getElem_cons_succ, List.getElem_cons_zero, List.setIfInBounds_toArray, List.set_cons_zero, List.set_cons_succ]
            refine hm_run 16 71 (.bool false) rfl rfl (by kernel_rfl) (by kernel_rfl) (by kernel_rfl) (fun _ _ _ h => h) rfl (fun W' hW => rfl) S0.out ?_
            try simp only [Act.put, List.getElem_toArray, List.getElem_cons_succ, List.getElem_cons_zero, List.setIfInBounds_toArray, List.set_cons_zero, List.set_cons_succ]
            refine hm_run 17 72 (.int .i64 (cc : Int)) rfl rfl (by kernel_rfl) (by kernel_rfl) (by kernel_rfl) (fun _ _ _ h => h) rfl (fun W' hW => rfl) S0.out ?_
            try simp only [Act.put, List.getElem_toArray, List.getElem_cons_succ, List.getElem_cons_zero, List.setIfInBounds_toArray, List.set_cons_zero, List.set_cons_succ]
            refine hm_run 18 73 (.bool false) rfl rfl (by kernel_rfl) (by kernel_rfl) (by kernel_rfl) (fun _ _ _ h => h) rfl (fun W' hW => exec_eq64i rfl rfl rfl (by first | (simp; done) | (simp; have := LT.out; omega))) S0.out ?_
            try simp only [Act.put, List.getElem_toArray, List.getElem_cons_succ, List.getElem_cons_zero, List.setIfInBounds_toArray, List.set_cons_zero, List.set_cons_succ]
            refine hm_run 19 74 (.bool false) rfl rfl (by kernel_rfl) (by kernel_rfl) (by kernel_rfl) (fun _ _ _ h => h) rfl (fun W' hW => rfl) S0.out ?_
            try simp only [Act.put, List.getElem_toArray, List.getElem_cons_succ, List.getElem_cons_zero, List.setIfInBounds_toArray, List.set_cons_zero, List.set_cons_succ]
            refine hm_off 20 75 rfl rfl (by kernel_rfl) (by kernel_rfl) (by kernel_rfl) (fun _ _ _ h => h) rfl S0.out ?_
            try simp only [Act.put, List.getElem_toArray, List.getElem_cons_succ, List.getElem_cons_zero, List.setIfInBounds_toArray, List.set_cons_zero, List.set_cons_succ]
            refine hm_off 21 76 rfl rfl (by kernel_rfl) (by kernel_rfl) (by kernel_rfl) (fun _ _ _ h => h) rfl S0.out ?_
            try simp only [Act.put, List.getElem_toArray, List.getElem_cons_succ, List.getElem_cons_zero, List.setIfInBounds_toArray, List.set_cons_zero, List.set_cons_succ]
            refine hm_off 22 77 rfl rfl (by kernel_rfl) (by kernel_rfl) (by kernel_rfl) (fun _ _ _ h => h) rfl S0.out ?_
            try simp only [Act.put, List.getElem_toArray, List.getElem_cons_succ, List.getElem_cons_zero, List.setIfInBounds_toArray, List.set_cons_zero, List.set_cons_succ]
            refine hm_off 23 78 rfl rfl (by kernel_rfl) (by kernel_rfl) (by kernel_rfl) (fun _ _ _ h => h) rfl S0.out ?_
            try simp only [Act.put, List.getElem_toArray, List.getElem_cons_succ, List.getElem_cons_zero, List.setIfInBounds_toArray, List.set_cons_zero, List.set_cons_succ]
            refine hm_run 24 79 (.bool false) rfl rfl (by kernel_rfl) (by kernel_rfl) (by kernel_rfl) (fun _ _ _ h => h) rfl (fun W' hW => rfl) S0.out ?_
            try simp only [Act.put, List.getElem_toArray, List.getElem_cons_succ, List.getElem_cons_zero, List.setIfInBounds_toArray, List.set_cons_zero, List.set_cons_succ]
            refine hm_run 25 80 (.bool false) rfl rfl (by kernel_rfl) (by kernel_rfl) (by kernel_rfl) (fun _ _ _ h => h) rfl (fun W' hW => rfl) S0.out ?_
            try simp only [Act.put, List.getElem_toArray, List.getElem_cons_succ, List.getElem_cons_zero, List.setIfInBounds_toArray, List.set_cons_zero, List.set_cons_succ]
            refine wpAnyH_done (by kernel_rfl) ?_ _
            go_wp2
            go_roundg (j - (q + 1))
            case measure => omega
            case rel => exact ⟨q + 1, by omega, congrArg (Value.int .i64) (show wrap64 ((q : Int) + 1) = ((q + 1 : Nat) : Int) by have := HM.out; have := HLT.out; unfold wrap64; omega), by rw [TE.out.2]; exact RD8, WT8, AA8⟩
          · have LT := Lib.hid hcl
            obtain rfl : cc = 64 := by have := CC.out; omega
            have VN64 := Lib.hid (show v = N by rw [HV.out]; exact Nat.mod_eq_of_lt (by have := NB.out; omega))
            clear hcl
            refine hm_run 0 55 (.int .i64 0) rfl rfl (by kernel_rfl) (by kernel_rfl) (by kernel_rfl) (fun _ _ _ h => h) rfl (fun W' hW => rfl) S0.out ?_
            try simp only [Act.put, List.getElem_toArray, List.getElem_cons_succ, List.getElem_cons_zero, List.setIfInBounds_toArray, List.set_cons_zero, List.set_cons_succ]
            refine hm_run 1 56 (.bool false) rfl rfl (by kernel_rfl) (by kernel_rfl) (by kernel_rfl) (fun _ _ _ h => h) rfl (fun W' hW => rfl) S0.out ?_
            try simp only [Act.put, List.getElem_toArray, List.getElem_cons_succ, List.getElem_cons_zero, List.setIfInBounds_toArray, List.set_cons_zero, List.set_cons_succ]
            refine hm_run 2 57 (.bool false) rfl rfl (by kernel_rfl) (by kernel_rfl) (by kernel_rfl) (fun _ _ _ h => h) rfl (fun W' hW => rfl) S0.out ?_
            try simp only [Act.put, List.getElem_toArray, List.getElem_cons_succ, List.getElem_cons_zero, List.setIfInBounds_toArray, List.set_cons_zero, List.set_cons_succ]
            refine hm_run 3 58 (.int .i64 64) rfl rfl (by kernel_rfl) (by kernel_rfl) (by kernel_rfl) (fun _ _ _ h => h) rfl (fun W' hW => rfl) S0.out ?_
            try simp only [Act.put, List.getElem_toArray, List.getElem_cons_succ, List.getElem_cons_zero, List.setIfInBounds_toArray, List.set_cons_zero, List.set_cons_succ]
            refine hm_run 4 59 (.bool false) rfl rfl (by kernel_rfl) (by kernel_rfl) (by kernel_rfl) (fun _ _ _ h => h) rfl (fun W' hW => exec_lt64 rfl rfl rfl (by first | (simp; done) | (simp; have := LT.out; omega))) S0.out ?_
            try simp only [Act.put, List.getElem_toArray, List.getElem_cons_succ, List.getElem_cons_zero, List.setIfInBounds_toArray, List.set_cons_zero, List.set_cons_succ]
            refine hm_run 5 60 (.bool false) rfl rfl (by kernel_rfl) (by kernel_rfl) (by kernel_rfl) (fun _ _ _ h => h) rfl (fun W' hW => rfl) S0.out ?_
            try simp only [Act.put, List.getElem_toArray, List.getElem_cons_succ, List.getElem_cons_zero, List.setIfInBounds_toArray, List.set_cons_zero, List.set_cons_succ]
            refine hm_off 6 61 rfl rfl (by kernel_rfl) (by kernel_rfl) (by kernel_rfl) (fun _ _ _ h => h) rfl S0.out ?_
            try simp only [Act.put, List.getElem_toArray, List.getElem_cons_succ, List.getElem_cons_zero, List.setIfInBounds_toArray, List.set_cons_zero, List.set_cons_succ]
            refine hm_off 7 62 rfl rfl (by kernel_rfl) (by kernel_rfl) (by kernel_rfl) (fun _ _ _ h => h) rfl S0.out ?_
            try simp only [Act.put, List.getElem_toArray, List.getElem_cons_succ, List.getElem_cons_zero, List.setIfInBounds_toArray, List.set_cons_zero, List.set_cons_succ]
            refine hm_off 8 63 rfl rfl (by kernel_rfl) (by kernel_rfl) (by kernel_rfl) (fun _ _ _ h => h) rfl S0.out ?_
            try simp only [Act.put, List.getElem_toArray, List.getElem_cons_succ, List.getElem_cons_zero, List.setIfInBounds_toArray, List.set_cons_zero, List.set_cons_succ]
            refine hm_off 9 64 rfl rfl (by kernel_rfl) (by kernel_rfl) (by kernel_rfl) (fun _ _ _ h => h) rfl S0.out ?_
            try simp only [Act.put, List.getElem_toArray, List.getElem_cons_succ, List.getElem_cons_zero, List.setIfInBounds_toArray, List.set_cons_zero, List.set_cons_succ]
            refine hm_off 10 65 rfl rfl (by kernel_rfl) (by kernel_rfl) (by kernel_rfl) (fun _ _ _ h => h) rfl S0.out ?_
            try simp only [Act.put, List.getElem_toArray, List.getElem_cons_succ, List.getElem_cons_zero, List.setIfInBounds_toArray, List.set_cons_zero, List.set_cons_succ]
            refine hm_off 11 66 rfl rfl (by kernel_rfl) (by kernel_rfl) (by kernel_rfl) (fun _ _ _ h => h) rfl S0.out ?_
            try simp only [Act.put, List.getElem_toArray, List.getElem_cons_succ, List.getElem_cons_zero, List.setIfInBounds_toArray, List.set_cons_zero, List.set_cons_succ]
            refine hm_off 12 67 rfl rfl (by kernel_rfl) (by kernel_rfl) (by kernel_rfl) (fun _ _ _ h => h) rfl S0.out ?_
            try simp only [Act.put, List.getElem_toArray, List.getElem_cons_succ, List.getElem_cons_zero, List.setIfInBounds_toArray, List.set_cons_zero, List.set_cons_succ]
            refine hm_off 13 68 rfl rfl (by kernel_rfl) (by kernel_rfl) (by kernel_rfl) (fun _ _ _ h => h) rfl S0.out ?_
            try simp only [Act.put, List.getElem_toArray, List.getElem_cons_succ, List.getElem_cons_zero, List.setIfInBounds_toArray, List.set_cons_zero, List.set_cons_succ]
            refine hm_run 14 69 (.bool false) rfl rfl (by kernel_rfl) (by kernel_rfl) (by kernel_rfl) (fun _ _ _ h => h) rfl (fun W' hW => rfl) S0.out ?_
            try simp only [Act.put, List.getElem_toArray, List.getElem_cons_succ, List.getElem_cons_zero, List.setIfInBounds_toArray, List.set_cons_zero, List.set_cons_succ]
            refine hm_run 15 70 (.bool false) rfl rfl (by kernel_rfl) (by kernel_rfl) (by kernel_rfl) (fun _ _ _ h => h) rfl (fun W' hW => rfl) S0.out ?_
            try simp only [Act.put, List.getElem_toArray, List.getElem_cons_succ, List.getElem_cons_zero, List.setIfInBounds_toArray, List.set_cons_zero, List.set_cons_succ]
            refine hm_run 16 71 (.bool false) rfl rfl (by kernel_rfl) (by kernel_rfl) (by kernel_rfl) (fun _ _ _ h => h) rfl (fun W' hW => rfl) S0.out ?_
            try simp only [Act.put, List.getElem_toArray, List.getElem_cons_succ, List.getElem_cons_zero, List.setIfInBounds_toArray, List.set_cons_zero, List.set_cons_succ]
            refine hm_run 17 72 (.int .i64 64) rfl rfl (by kernel_rfl) (by kernel_rfl) (by kernel_rfl) (fun _ _ _ h => h) rfl (fun W' hW => rfl) S0.out ?_
            try simp only [Act.put, List.getElem_toArray, List.getElem_cons_succ, List.getElem_cons_zero, List.setIfInBounds_toArray, List.set_cons_zero, List.set_cons_succ]
            refine hm_run 18 73 (.bool true) rfl rfl (by kernel_rfl) (by kernel_rfl) (by kernel_rfl) (fun _ _ _ h => h) rfl (fun W' hW => exec_eq64i rfl rfl rfl (by first | (simp; done) | (simp; have := LT.out; omega))) S0.out ?_
            try simp only [Act.put, List.getElem_toArray, List.getElem_cons_succ, List.getElem_cons_zero, List.setIfInBounds_toArray, List.set_cons_zero, List.set_cons_succ]
            refine hm_run 19 74 (.bool true) rfl rfl (by kernel_rfl) (by kernel_rfl) (by kernel_rfl) (fun _ _ _ h => h) rfl (fun W' hW => rfl) S0.out ?_
            try simp only [Act.put, List.getElem_toArray, List.getElem_cons_succ, List.getElem_cons_zero, List.setIfInBounds_toArray, List.set_cons_zero, List.set_cons_succ]
            refine hm_run 20 75 (.int .u64 (v : Int)) rfl rfl (by kernel_rfl) (by kernel_rfl) (by kernel_rfl) (fun _ _ _ h => h) rfl (fun W' hW => rfl) S0.out ?_
            try simp only [Act.put, List.getElem_toArray, List.getElem_cons_succ, List.getElem_cons_zero, List.setIfInBounds_toArray, List.set_cons_zero, List.set_cons_succ]
            refine hm_run 21 76 (.pointer (some ⟨b8, 2, none⟩)) rfl rfl (by kernel_rfl) (by kernel_rfl) (by kernel_rfl) (fun _ _ _ h => h) rfl (fun W' hW => rfl) S0.out ?_
            try simp only [Act.put, List.getElem_toArray, List.getElem_cons_succ, List.getElem_cons_zero, List.setIfInBounds_toArray, List.set_cons_zero, List.set_cons_succ]
            refine hm_run 22 77 (.int .u64 (N : Int)) rfl rfl (by kernel_rfl) (by kernel_rfl) (by kernel_rfl) (fun _ _ _ h => h) rfl (fun W' hW => exec_load rfl (run_load_one Try.underlying29 rfl (cell_of_here hW 2 rfl))) S0.out ?_
            try simp only [Act.put, List.getElem_toArray, List.getElem_cons_succ, List.getElem_cons_zero, List.setIfInBounds_toArray, List.set_cons_zero, List.set_cons_succ]
            refine hm_run 23 78 (.bool false) rfl rfl (by kernel_rfl) (by kernel_rfl) (by kernel_rfl) (fun _ _ _ h => h) rfl (fun W' hW => by rw [VN64.out]; exact exec_ne64 rfl rfl rfl) S0.out ?_
            try simp only [Act.put, List.getElem_toArray, List.getElem_cons_succ, List.getElem_cons_zero, List.setIfInBounds_toArray, List.set_cons_zero, List.set_cons_succ]
            refine hm_run 24 79 (.bool false) rfl rfl (by kernel_rfl) (by kernel_rfl) (by kernel_rfl) (fun _ _ _ h => h) rfl (fun W' hW => rfl) S0.out ?_
            try simp only [Act.put, List.getElem_toArray, List.getElem_cons_succ, List.getElem_cons_zero, List.setIfInBounds_toArray, List.set_cons_zero, List.set_cons_succ]
            refine hm_run 25 80 (.bool false) rfl rfl (by kernel_rfl) (by kernel_rfl) (by kernel_rfl) (fun _ _ _ h => h) rfl (fun W' hW => rfl) S0.out ?_
            try simp only [Act.put, List.getElem_toArray, List.getElem_cons_succ, List.getElem_cons_zero, List.setIfInBounds_toArray, List.set_cons_zero, List.set_cons_succ]
            refine wpAnyH_done (by kernel_rfl) ?_ _
            go_wp2
            go_roundg (j - (q + 1))
            case measure => omega
            case rel => exact ⟨q + 1, by omega, congrArg (Value.int .i64) (show wrap64 ((q : Int) + 1) = ((q + 1 : Nat) : Int) by have := HM.out; have := HLT.out; unfold wrap64; omega), by rw [TE.out.2]; exact RD8, WT8, AA8⟩
        · obtain rfl : q = j := by omega
          obtain ⟨d, hd⟩ : ∃ d, d = 8 * xs.length - (BB x0 q).length := ⟨_, rfl⟩
          have HD := Lib.hid (show d < 8 by have := XL.out; unfold nB at this; omega)
          have LF := Lib.hid (rleft_any RD.out)
          rw [← hd] at LF
          have cd : (d : Int) < 8 := by have := HD.out; omega
          clear hd
          go_wp2_with (first
            | (go_at_call 19; refine LF.out.mono ?_; rintro e w5 ⟨rfl, hb⟩; have WT5 := Lib.hid (WT.out.call hb); have AA5 := Lib.hid (AA.out.trans (hb.mono AA.out.size)); clear hb)
            | (go_at_call 8; refine (wbit_any WT5.out true (by have := XL.out; omega)).mono ?_; rintro e w7 ⟨rfl, hT, hb, hk⟩; have AA7 := Lib.hid (AA5.out.trans hb); clear hT hb hk))
          go_ret
          exact ⟨rfl, AA7.out⟩

set_option maxRecDepth 100000 in
theorem lifted (os : Os) (started : os.Started) (H : Type) (enc : TypeId × Value → H) :
    ReturnsInHanded {} Try.checked os 5 .any (Rows.riceBitsSpec.pre6 enc Try.prog Try.f5 Rows.riceBitsRow.domain false) (Rows.riceBitsSpec.post enc Try.prog Try.f5 false true false false) := by
  refine returnsInHanded_of_change_sized (C := Try.checked) own started (by kernel_rfl) Try.func5
    (ChangeSpec.witness6 (enc := enc) (C := Try.checked) false ⟨#[], #[.slice none 0 0], []⟩ 8 (by kernel_rfl) (by kernel_rfl) (by kernel_rfl) (by kernel_rfl)) ?_
  intro W base args ds gs before hval0 hW hcnd hsz0 _
  have hval : ∀ (j : Nat) t v, Try.f5.params[j]? = some t → args[j]? = some v → Value.okWide Try.prog W .any base t v := hval0
  have hsz : (DataW.weightsEach Try.prog (Try.f5.params.toList ++ Rows.riceBitsSpec.plain.varTypes Try.prog) (ds ++ gs)).all (· ≤ reachBytes) = true := hsz0
  have hW' := hW
  obtain ⟨p, q, hA0, hV, rfl, hfz, hnd⟩ := hW
  have hA : DataW.TrodAll enc Try.prog W 0 (fun _ => true) true Try.f5.params.toList args.toList ds p := hA0
  rw [Try.params5] at hA hval hsz
  obtain ⟨v0, vs0, d0, ds0, p0, q0, hargs, rfl, rfl, h0, r0⟩ := trodAll_cons hA
  obtain ⟨rfl, rfl, rfl⟩ := trodAll_nil r0
  obtain rfl : args = #[v0] := by cases args; simp_all
  obtain ⟨rfl, rfl⟩ := trodVars_none hV
  have k0 := h0
  have lt0 : ∀ x ∈ p0, x.block < W.heap.size := by obtain ⟨m, hm⟩ := k0; exact DataW.trod_lt m _ _ _ hm
  obtain ⟨a0, g0, o0, n0, c0, x0, rfl, w0, m0⟩ := open_dos (j := 0) (hval 0 22 v0 rfl rfl) h0 hsz rfl rfl
  clear hA0 hval0 hsz0
  simp only [List.append_nil] at hW'
  refine (walk W a0 g0 o0 n0 c0 x0 w0 m0).mono fun e W' ⟨he, bel⟩ => ?_
  subst he
  exact ⟨_, rfl, _, _, _, [], _, [], hW', trodAll_mk1 (shut_bool Try.underlying4 _), (trodAll_cons_mk (Below.trod laidOut (by kernel_rfl) (of_decide_eq_true (by kernel_rfl)) k0 bel lt0) trodAll_mk0), rfl, bel.frame _, fun h => by cases h⟩

theorem over : Rows.riceBitsRow.holds Try.pinned (OpenSpec.ofChange Rows.riceBitsSpec) :=
  OpenClaim.holds_of_wide 5 Try.f5 rfl rfl rfl rfl rfl rfl rfl ⟨rfl, rfl, rfl, rfl, rfl⟩ rfl rfl rfl rfl rfl (by kernel_rfl) Try.func5 (by kernel_rfl)
    (of_decide_eq_true (by kernel_rfl)) (by unfold Func.isWrapper; first | (rw [if_pos (by decide +kernel)]; kernel_rfl) | (rw [if_neg (by decide +kernel)]; exact ⟨rfl, rfl⟩))
    (fun os started H enc _ => lifted os started H enc)

/-- The statement. -/
theorem proved : Rows.RiceBitsSaid :=
  over
#print axioms proved
end Go.Proofs.Ytmjaimiehhgidaa.riceBits
