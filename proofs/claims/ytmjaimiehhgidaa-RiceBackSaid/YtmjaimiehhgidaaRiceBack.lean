/- For every slice of numbers and every rest: numbers written by codes are read back, fewer than eight bits are left, all noughts, and a bit can be written still; the call returns true. No condition. -/
import Derived.Test.YtmjaimiehhgidaaRcd
import Derived.Test.YtmjaimiehhgidaaRop
import Derived.ShutString
import Derived.ChangeOld
import Derived.Below
import Derived.SizedLaws
set_option linter.unusedVariables false
set_option linter.unusedSimpArgs false
namespace Go.Proofs.Ytmjaimiehhgidaa.riceBack
open Go.ChangeShapes Go.WideShapes Go.ChangeAt Go.RowKit Go.Lib Go.Sort Go.Proofs.Ytmjaimiehhgidaa

set_option maxRecDepth 100000
theorem infoL64 : (Try.prog.info? 29).map (fun i => (i.zero, i.size, i.bytes)) = some (some (.int .u64 0), 1, 8) := by kernel_rfl
theorem size64 (w : World) : (sizeOf 29).run Try.prog w = .ok 1 w := by kernel_rfl
theorem rest_of (a1 : Int) : ∃ r : Nat, r ≤ 32 ∧ IntKind.i64.wrap ((IntKind.u64.wrap a1).tmod 33) = (r : Int) := by
  have h2 : 0 ≤ (a1 % 18446744073709551616) % 33 := Int.emod_nonneg _ (by omega)
  have h3 : (a1 % 18446744073709551616) % 33 < 33 := Int.emod_lt_of_pos _ (by omega)
  refine ⟨((a1 % 18446744073709551616) % 33).toNat, by omega, ?_⟩
  rw [IntKind.wrap_u64, Int.tmod_eq_emod_of_nonneg (by omega), Int.toNat_of_nonneg h2, IntKind.wrap_i64]
  omega
theorem exec_shl60 {o : Oper} {ev : Operand → Value} {W : World} {x y : Operand} {k : Nat} (ho : o.op = .binOp .shl 29 x y 3) (hx : ev x = .int .u64 60) (hy : ev y = .int .i64 (k : Int)) (hk : k ≤ 32) : (execOp ev o).run Try.prog W = .ok (.value (.int .u64 ((60 * 2 ^ k : Nat) : Int))) W := by
  have h := exec_shlv (n := 60) ho hx hy (by omega) (W := W)
  have h2 : 2 ^ k ≤ 2 ^ 32 := Nat.pow_le_pow_right (by omega) hk
  have h3 : (2 : Nat) ^ 32 = 4294967296 := by decide
  rw [Nat.mod_eq_of_lt (by omega)] at h
  exact h
theorem exec_mod64 {o : Oper} {ev : Operand → Value} {W : World} {x y : Operand} {n m : Nat} (ho : o.op = .binOp .rem 29 x y 29) (hx : ev x = .int .u64 (n : Int)) (hy : ev y = .int .u64 (m : Int)) (hm : 0 < m) (hn : n < 18446744073709551616) : (execOp ev o).run Try.prog W = .ok (.value (.int .u64 ((n % m : Nat) : Int))) W := by
  have h0 : ¬ ((m : Int) = 0) := by omega
  have h1 : (n : Int).tmod (m : Int) = ((n % m : Nat) : Int) := by rw [Int.tmod_eq_emod_of_nonneg (by omega)]; rfl
  have h2 : n % m < 18446744073709551616 := Nat.lt_of_le_of_lt (Nat.mod_le _ _) hn
  unfold execOp
  simp only [ho, hx, hy]
  simp [go_sem, h0, h1]
  omega
theorem exec_ne64 {o : Oper} {ev : Operand → Value} {W : World} {x y : Operand} {n : Nat} (ho : o.op = .binOp .neq 29 x y 29) (hx : ev x = .int .u64 (n : Int)) (hy : ev y = .int .u64 (n : Int)) : (execOp ev o).run Try.prog W = .ok (.value (.bool false)) W := by
  unfold execOp
  simp [ho, hx, hy, go_sem, Try.underlying29]
/-- The numbers that are written. -/
def num (x : Nat → Nat) (r : Nat) (j : Nat) : Nat := x j % (60 * 2 ^ r)
theorem num_lt {x : Nat → Nat} (h : ∀ i, x i < 18446744073709551616) (r j : Nat) : num x r j < 18446744073709551616 := Nat.lt_of_le_of_lt (Nat.mod_le _ _) (h j)
theorem num_q (x : Nat → Nat) (r j : Nat) : num x r j / 2 ^ r < 60 := by
  have h : num x r j < 60 * 2 ^ r := Nat.mod_lt _ (Nat.mul_pos (by omega) (Nat.two_pow_pos r))
  exact (Nat.div_lt_iff_lt_mul (Nat.two_pow_pos r)).2 h
abbrev LL (x : Nat → Nat) (r : Nat) : Nat → List Bool := cats fun j => codeOf (num x r j) r
theorem LL_le (x : Nat → Nat) (r : Nat) (hr : r ≤ 32) (j : Nat) : (LL x r j).length ≤ j * 93 := cats_le _ 93 (fun i => by rw [codeOf_length]; have := num_q x r i; omega) j
set_option maxHeartbeats 16000000 in
theorem walk (W : World) (a0 : Option Addr) (g0 o0 n0 c0 : Nat) (x0 : Nat → Nat) (w0 : VRow 1 W a0 g0 o0 n0 c0 (wv x0) ∧ ∀ i, x0 i < 18446744073709551616) (m0 : c0 * 8 ≤ 140737488351232) (a1 : Int) (w1 : (Lit.int .i64 a1).wf = true) :
    Calls Try.prog 4 #[.slice a0 n0 c0, .int .i64 a1] W fun e w' => e = .returned (.bool true) ∧ Below W.heap.size W w' := by
  have le := w0.1.le
  obtain ⟨m, hm⟩ : ∃ m, m = min n0 20 := ⟨_, rfl⟩
  have hm1 : m ≤ n0 := by omega
  have hm2 : m ≤ 20 := by omega
  have MIN : Hid (min n0 20 = m) := Lib.hid hm.symm
  obtain ⟨r, hr, hr2⟩ := rest_of a1
  obtain ⟨p0, hp0, R0⟩ := w0.1.slice (l := 0) (h := m) (m := c0) (by omega) hm1 (by omega) (Nat.le_refl _)
  have R := Lib.hid (R0.to (U := wv x0) fun i _ => by rw [Nat.zero_mul, Nat.zero_add])
  simp only [Nat.sub_zero, Nat.zero_mul, Nat.add_zero] at R hp0
  have SL := Lib.hid (fun w : World => run_cut (S := 41) (n := n0) Try.underlying41 size64 hp0 (by omega) w)
  have XB := Lib.hid w0.2
  have HR := Lib.hid hr
  have HM := Lib.hid hm2
  obtain ⟨u, hu⟩ : ∃ u, u = IntKind.u64.wrap a1 := ⟨_, rfl⟩
  obtain ⟨rv, hrv⟩ : ∃ rv, rv = u.tmod 33 := ⟨_, rfl⟩
  have x1 : IntKind.u64.wrap a1 = u := hu.symm
  have x3 : u.tmod 33 = rv := hrv.symm
  have x4 : IntKind.i64.wrap rv = (r : Int) := by rw [hrv, hu]; exact hr2
  have N1 := Lib.hid (Lib.hid rinew_any)
  clear hm w0 m0 R0 hp0 w1 le hr hr2 hu hrv hm2
  go_enter Try.func4, Try.ntmps4
  go_upto_region 5 with (first
    | (refine wpList_known rfl (.int .i64 ((m : Nat) : Int)) _ (exec_min rfl rfl rfl rfl (by have := MIN.out; omega)) ?_)
    | (refine wpList_known rfl (.slice p0 m c0) _ (exec_sl rfl (SL.out _)) ?_)
    | (go_at_call 7; refine (rinew_any W).mono ?_; rintro e w2 ⟨b, bf, bw, rfl, hT, hb⟩; have WT := Lib.hid hT; have AA := Lib.hid hb; clear hT hb))
  clear x1 x3 x4 N1
  go_wp2
  have VN := Lib.hid (vown_nothing w2 29 1 W.heap.size (wv (num x0 r)) AA.out.size)
  go_loopg [6, 29] m (fun k s i wr => ∃ (j : Nat) (p : Option Addr) (g c : Nat), j + k = m ∧ s = .slice p j c ∧ i = .int .i64 (j : Int) ∧ Hid (VOwn 29 1 W.heap.size wr p g j c (wv (num x0 r))) ∧ Hid (Wtr W wr b bf bw (LL x0 r j)) ∧ Hid (Below W.heap.size W wr))
  case atStart => exact ⟨0, none, 0, 0, by omega, rfl, rfl, VN, WT, AA⟩
  case round =>
    clear WT AA VN
    obtain ⟨j, p, g, c, hj, rfl, rfl, VN, WT, AA⟩ := hrel
    obtain ⟨kk, rfl⟩ : ∃ kk : Nat, kk = gk := ⟨_, rfl⟩
    by_cases hlt : j < m
    · have HLT := Lib.hid hlt
      have RR := Lib.hid (R.out.below AA.out)
      obtain rfl := R.out.head (by omega)
      obtain ⟨y, hy⟩ : ∃ y, y = num x0 r j := ⟨_, rfl⟩
      have HY := Lib.hid hy
      have YB := Lib.hid (show y < 18446744073709551616 ∧ y / 2 ^ r ≤ 65535 ∧ (LL x0 r j).length + 65535 + 33 ≤ 1000000000000 from ⟨by rw [hy]; exact num_lt XB.out r j, by rw [hy]; have := num_q x0 r j; omega, by have := LL_le x0 r HR.out j; have := HM.out; omega⟩)
      have CL := Lib.hid (show wr.cell? ⟨g0, o0 + j * 1, none⟩ = some (.int .u64 (x0 j : Int)) by have := RR.out.cell j (by omega); rw [Nat.mul_one]; exact this)
      clear hy
      go_wp2_with (first
        | (refine wpList_ix (k := 1) (j := j) Try.underlying41 (by kernel_rfl) (.tmp 27) (.tmp 29) rfl rfl rfl rfl HLT.out rfl ?_)
        | (refine wpList_ld1 29 (.tmp 31) rfl rfl rfl Try.underlying29 rfl CL.out ?_)
        | (refine wpList_known rfl (.int .u64 ((60 * 2 ^ r : Nat) : Int)) _ (exec_shl60 rfl rfl rfl HR.out) ?_)
        | (refine wpList_known rfl (.int .u64 (y : Int)) _ (by rw [HY.out]; exact exec_mod64 rfl rfl rfl (Nat.mul_pos (by omega) (Nat.two_pow_pos r)) (XB.out j)) ?_)
        | (go_at_call 12; refine (wrice_any WT.out y r YB.out.1 HR.out YB.out.2.1 YB.out.2.2).mono ?_; rintro e w3 ⟨rfl, hT, hb, hk⟩; have WT3 := Lib.hid hT; have AA3 := Lib.hid (AA.out.trans hb); have VN3 := Lib.hid (VN.out.kw hk (by decide) (by decide) (by decide)); clear hT hb hk)
        | (refine wpList_vbs 41 29 1 1 rfl _ rfl (wv (fun _ => y)) (fun i _ => rfl) (by unfold maxLen; omega) (ps := #[(0, .int .u64 (y : Int))]) (by kernel_rfl) (fun W => run_bs1v Try.underlying41 infoL64 _ rfl W) rfl ?_; intro p7 g7 w7 N7 hb7; have VN7 := Lib.hid (VN3.out.below hb7.out); have WT7 := Lib.hid (WT3.out.call hb7.out); have AA7 := Lib.hid (AA3.out.trans (hb7.out.mono AA3.out.size)))
        | (refine wpList_vapp 41 29 1 8 Try.underlying41 infoL64 rfl (by omega) rfl (.tmp 42) (.tmp 44) rfl rfl VN7 rfl (Lib.hid N7.out.row) (by unfold maxLen; have := HM.out; have := HLT.out; omega) (by have := HM.out; have := HLT.out; omega) ?_; intro p8 g8 c8 w8 N8 hg8; have AA8 := Lib.hid (AA7.out.trans (VN7.out.under hg8.out (Nat.le_refl _) VN7.out.low)); have WT8 := Lib.hid (WT7.out.other VN7.out hg8.out (by decide) (by decide) (by decide) (by decide))))
      have VN9 : Hid (VOwn 29 1 W.heap.size w8 p8 g8 (j + 1) c8 (wv (num x0 r))) := Lib.hid (N8.out.to fun i hi => by
        unfold vcat wv
        by_cases h : i < j * 1
        · rw [if_pos h]
        · rw [if_neg h, HY.out, show i = j by omega])
      have WT9 : Hid (Wtr W w8 b bf bw (LL x0 r (j + 1))) := Lib.hid (by have := WT8.out; rw [HY.out] at this; exact this)
      go_roundg (m - (j + 1))
      case measure => omega
      case rel => exact ⟨j + 1, p8, g8, c8, by omega, rfl, congrArg (Value.int .i64) (show wrap64 ((j : Int) + 1) = ((j + 1 : Nat) : Int) by have := HM.out; have := HLT.out; unfold wrap64; omega), VN9, WT9, AA8⟩
    · obtain rfl : j = m := by omega
      obtain ⟨xs, hxs⟩ : ∃ xs, xs = pk (LL x0 r j) := ⟨_, rfl⟩
      have HX := Lib.hid hxs
      have XL := Lib.hid (show xs.length = nB (LL x0 r j).length ∧ (LL x0 r j).length ≤ 2000 by rw [hxs, pk_length]; exact ⟨rfl, by have := LL_le x0 r HR.out j; have := HM.out; omega⟩)
      have WB := Lib.hid (wbytes_any WT.out)
      rw [← hxs] at WB
      clear hxs
      go_wp2_with (first
        | (go_at_call 15; refine WB.out.mono ?_; rintro e w3 ⟨p3, g3, c3, rfl, hN, hb⟩; have R3 := Lib.hid hN.row; have AA3 := Lib.hid (AA.out.trans (hb.mono AA.out.size)); have WT3 := Lib.hid (WT.out.call hb); have VN3 := Lib.hid (VN.out.below hb); clear hN hb)
        | (go_at_call 17; refine (ropen_any R3 (by have := XL.out; unfold nB at this; omega)).mono ?_; rintro e w4 ⟨b2, p4, g4, c4, rfl, hR, hb⟩; rw [tl_lf xs] at hR; have RD := Lib.hid hR; have AA4 := Lib.hid (AA3.out.trans (hb.mono AA3.out.size)); have WT4 := Lib.hid (WT3.out.call hb); have VN4 := Lib.hid (VN3.out.below hb); clear hR hb))
      clear WB WT VN AA WT3 VN3
      have SZ := Lib.hid AA3.out.size
      go_loopg [52] j (fun k i wr => ∃ (q : Nat), q + k = j ∧ i = .int .i64 (q : Int) ∧ Hid (Rdr w3 wr b2 p4 g4 c4 xs (LL x0 r q).length) ∧ Hid (VOwn 29 1 W.heap.size wr p g j c (wv (num x0 r))) ∧ Hid (Wtr W wr b bf bw (LL x0 r j)) ∧ Hid (Below W.heap.size W wr))
      case atStart => exact ⟨0, by omega, rfl, RD, VN4, WT4, AA4⟩
      case round =>
        clear RD VN4 WT4 AA4
        obtain ⟨q, hq, rfl, RD, VN, WT, AA⟩ := hrel
        obtain ⟨kk2, rfl⟩ : ∃ kk : Nat, kk = gk := ⟨_, rfl⟩
        by_cases hlt2 : q < j
        · have HLT := Lib.hid hlt2
          obtain ⟨y, hy⟩ : ∃ y, y = num x0 r q := ⟨_, rfl⟩
          obtain ⟨B, hB⟩ := cats_split (fun j => codeOf (num x0 r j) r) j q hlt2
          have RC := Lib.hid (show rr (bitAt xs) (8 * xs.length) r 60 (8 * xs.length + 1) (LL x0 r q).length 0 = (y, 0, (LL x0 r (q + 1)).length) by
            have := read_code (LL x0 r q) B y r 60 (by rw [hy]; exact num_lt XB.out r q) (by rw [hy]; have := num_q x0 r q; omega) (8 * xs.length) (by rw [HX.out]; unfold LL; rw [hB, hy])
            have e : pk (LL x0 r q ++ (codeOf y r ++ B)) = xs := by rw [HX.out]; unfold LL; rw [hB, hy]
            rw [e] at this
            rw [this]
            show _ = (y, 0, (cats (fun j => codeOf (num x0 r j) r) q ++ codeOf (num x0 r q) r).length)
            rw [hy])
          have CL := Lib.hid (show wr.cell? ⟨g, 0 + q * 1, none⟩ = some (.int .u64 (y : Int)) by have := VN.out.row.cell q (by omega); rw [Nat.mul_one, hy]; exact this)
          obtain rfl := VN.out.row.head (by omega)
          have RI := Lib.hid (rrice_any RD.out r 60 HR.out (by omega))
          clear hy hB
          go_wp2_with (first
            | (refine wpList_ix (k := 1) (j := q) Try.underlying41 (by kernel_rfl) (.tmp 50) (.tmp 52) rfl rfl rfl rfl HLT.out rfl ?_)
            | (refine wpList_ld1 29 (.tmp 54) rfl rfl rfl Try.underlying29 rfl CL.out ?_)
            | (go_at_call 18; refine RI.out.mono ?_; rintro e w5 ⟨v5, er5, t5, h5, rfl, hR, hO⟩; rw [RC.out] at h5; injection h5 with e1 e2; injection e2 with e2 e3; subst e1 e2 e3; have RD5 := Lib.hid hR; have VN5 := Lib.hid (VN.out.only RD.out.box hO (by decide)); have WT5 := Lib.hid (WT.out.only RD.out.box hO (Nat.le_trans SZ.out RD.out.lo) (by decide) (by decide) (by decide) (by decide)); have AA5 := Lib.hid (AA.out.trans (hO.below (Nat.le_trans SZ.out RD.out.lo) AA.out.size)); clear hR hO)
            | (refine wpList_known rfl (.bool false) _ (exec_ne64 rfl rfl rfl) ?_))
          go_roundg (j - (q + 1))
          case measure => omega
          case rel => exact ⟨q + 1, by omega, congrArg (Value.int .i64) (show wrap64 ((q : Int) + 1) = ((q + 1 : Nat) : Int) by have := HM.out; have := HLT.out; unfold wrap64; omega), RD5, VN5, WT5, AA5⟩
        · obtain rfl : q = j := by omega
          obtain ⟨d, hd⟩ : ∃ d, d = 8 * xs.length - (LL x0 r q).length := ⟨_, rfl⟩
          have HD := Lib.hid (show d < 8 ∧ (LL x0 r q).length + d ≤ 8 * xs.length by have := XL.out; unfold nB at this; omega)
          have LF := Lib.hid (rleft_any RD.out)
          rw [← hd] at LF
          have VZ := Lib.hid (show valFrom xs (LL x0 r q).length d = 0 by rw [hd, HX.out, pk_length]; exact read_end _)
          have cd : (d : Int) < 8 := by have := HD.out; omega
          clear hd
          go_wp2_with (first
            | (go_at_call 19; refine LF.out.mono ?_; rintro e w5 ⟨rfl, hb⟩; have RD5 := Lib.hid (RD.out.call hb); have WT5 := Lib.hid (WT.out.call hb); have AA5 := Lib.hid (AA.out.trans (hb.mono AA.out.size)); clear hb)
            | (go_at_call 20; refine (rbits_any RD5.out d (by have := HD.out; omega) HD.out.2).mono ?_; rintro e w6 ⟨rfl, hR, hO⟩; rw [VZ.out]; have WT6 := Lib.hid (WT5.out.only RD5.out.box hO (Nat.le_trans SZ.out RD5.out.lo) (by decide) (by decide) (by decide) (by decide)); have AA6 := Lib.hid (AA5.out.trans (hO.below (Nat.le_trans SZ.out RD5.out.lo) AA5.out.size)); clear hR hO)
            | (go_at_call 8; refine (wbit_any WT6.out true (by have := XL.out; omega)).mono ?_; rintro e w7 ⟨rfl, hT, hb, hk⟩; have AA7 := Lib.hid (AA6.out.trans hb); clear hT hb hk))
          go_ret
          exact ⟨rfl, AA7.out⟩

set_option maxRecDepth 100000 in
theorem lifted (os : Os) (started : os.Started) (H : Type) (enc : TypeId × Value → H) :
    ReturnsInHanded {} Try.checked os 4 .any (Rows.riceBackSpec.pre6 enc Try.prog Try.f4 Rows.riceBackRow.domain false) (Rows.riceBackSpec.post enc Try.prog Try.f4 false true false false) := by
  refine returnsInHanded_of_change_sized (C := Try.checked) own started (by kernel_rfl) Try.func4
    (ChangeSpec.witness6 (enc := enc) (C := Try.checked) false ⟨#[], #[.slice none 0 0, .int .i64 0], []⟩ 8 (by kernel_rfl) (by kernel_rfl) (by kernel_rfl) (by kernel_rfl)) ?_
  intro W base args ds gs before hval0 hW hcnd hsz0 _
  have hval : ∀ (j : Nat) t v, Try.f4.params[j]? = some t → args[j]? = some v → Value.okWide Try.prog W .any base t v := hval0
  have hsz : (DataW.weightsEach Try.prog (Try.f4.params.toList ++ Rows.riceBackSpec.plain.varTypes Try.prog) (ds ++ gs)).all (· ≤ reachBytes) = true := hsz0
  have hW' := hW
  obtain ⟨p, q, hA0, hV, rfl, hfz, hnd⟩ := hW
  have hA : DataW.TrodAll enc Try.prog W 0 (fun _ => true) true Try.f4.params.toList args.toList ds p := hA0
  rw [Try.params4] at hA hval hsz
  obtain ⟨v0, vs0, d0, ds0, p0, q0, hargs, rfl, rfl, h0, r0⟩ := trodAll_cons hA
  obtain ⟨v1, vs1, d1, ds1, p1, q1, rfl, rfl, rfl, h1, r1⟩ := trodAll_cons r0
  obtain ⟨rfl, rfl, rfl⟩ := trodAll_nil r1
  obtain rfl : args = #[v0, v1] := by cases args; simp_all
  obtain ⟨rfl, rfl⟩ := trodVars_none hV
  have k0 := h0
  have lt0 : ∀ x ∈ p0, x.block < W.heap.size := by obtain ⟨m, hm⟩ := k0; exact DataW.trod_lt m _ _ _ hm
  obtain ⟨a0, g0, o0, n0, c0, x0, rfl, w0, m0⟩ := open_u64s (j := 0) (hval 0 41 v0 rfl rfl) h0 hsz rfl rfl
  obtain ⟨a1, rfl, rfl, rfl, w1⟩ := open_int Try.underlying3 (hval 1 3 v1 rfl rfl) h1
  clear hA0 hval0 hsz0
  simp only [List.append_nil] at hW'
  refine (walk W a0 g0 o0 n0 c0 x0 w0 m0 a1 w1).mono fun e W' ⟨he, bel⟩ => ?_
  subst he
  exact ⟨_, rfl, _, _, _, [], _, [], hW', trodAll_mk1 (shut_bool Try.underlying4 _), (trodAll_cons_mk (Below.trod laidOut (by kernel_rfl) (of_decide_eq_true (by kernel_rfl)) k0 bel lt0) (trodAll_cons_mk (shut_int Try.underlying3 w1) trodAll_mk0)), rfl, bel.frame _, fun h => by cases h⟩

theorem over : Rows.riceBackRow.holds Try.pinned (OpenSpec.ofChange Rows.riceBackSpec) :=
  OpenClaim.holds_of_wide 4 Try.f4 rfl rfl rfl rfl rfl rfl rfl ⟨rfl, rfl, rfl, rfl, rfl⟩ rfl rfl rfl rfl rfl (by kernel_rfl) Try.func4 (by kernel_rfl)
    (of_decide_eq_true (by kernel_rfl)) (by unfold Func.isWrapper; first | (rw [if_pos (by decide +kernel)]; kernel_rfl) | (rw [if_neg (by decide +kernel)]; exact ⟨rfl, rfl⟩))
    (fun os started H enc _ => lifted os started H enc)

/-- The statement. -/
theorem proved : Rows.RiceBackSaid :=
  over
#print axioms proved
end Go.Proofs.Ytmjaimiehhgidaa.riceBack
