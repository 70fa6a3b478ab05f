/- For every slice of calls: what is written by them, bit by bit, by numbers or by codes, has the answers and the bytes that the document says, and more can be written then; the call returns true. No condition. -/
import Derived.Test.YtmjaimiehhgidaaXv
import Derived.ShutString
import Derived.ChangeOld
import Derived.Below
import Derived.SizedLaws
set_option linter.unusedVariables false
set_option linter.unusedSimpArgs false
namespace Go.Proofs.Ytmjaimiehhgidaa.riceWrites
open Go.ChangeShapes Go.WideShapes Go.ChangeAt Go.RowKit Go.Lib Go.Sort Go.Proofs.Ytmjaimiehhgidaa

set_option maxRecDepth 100000
theorem row_do {W w : World} {g o n c j : Nat} {d : Dos} (R : VRow 3 w (some ⟨g, o, none⟩) g o n c (dv d)) (hj : j < n) : (Instr.loadAt 31 (.pointer (some ⟨g, o + j * 3, none⟩))).run Try.prog w = .ok (.agg (arr 3 (dv1 (d.op j) (d.cnt j) (d.num j)))) w := by
  have h := R.load (P := Try.prog) (ty := 31) hj Try.underlying31 rfl (by kernel_rfl)
  rw [arr_congr (g := dv1 (d.op j) (d.cnt j) (d.num j)) (fun i hi => dv_at d j i hi)] at h
  exact h
theorem exec_mod2 {o : Oper} {ev : Operand → Value} {W : World} {x y : Operand} {n : Nat} (ho : o.op = .binOp .rem 29 x y 29) (hx : ev x = .int .u64 (n : Int)) (hy : ev y = .int .u64 2) (hn : n < 18446744073709551616) : (execOp ev o).run Try.prog W = .ok (.value (.int .u64 ((n % 2 : Nat) : Int))) W := by
  have h1 : (n : Int).tmod 2 = ((n % 2 : Nat) : Int) := by rw [Int.tmod_eq_emod_of_nonneg (by omega)]; rfl
  unfold execOp
  simp only [ho, hx, hy]
  simp [go_sem, h1]
theorem exec_neerr {o : Oper} {ev : Operand → Value} {W : World} {x y : Operand} {e : Int} (ho : o.op = .binOp .neq 32 x y 32) (hx : ev x = .int .i64 e) (hy : ev y = .int .i64 e) : (execOp ev o).run Try.prog W = .ok (.value (.bool false)) W := by
  unfold execOp
  simp [ho, hx, hy, go_sem, Try.underlying32]
theorem op_of (a1 : Int) : ∃ r : Nat, r < 6 ∧ IntKind.i64.wrap ((IntKind.u64.wrap a1).tmod 6) = (r : Int) := by
  have h2 : 0 ≤ (a1 % 18446744073709551616) % 6 := Int.emod_nonneg _ (by omega)
  have h3 : (a1 % 18446744073709551616) % 6 < 6 := Int.emod_lt_of_pos _ (by omega)
  refine ⟨((a1 % 18446744073709551616) % 6).toNat, by omega, ?_⟩
  rw [IntKind.wrap_u64, Int.tmod_eq_emod_of_nonneg (by omega), Int.toNat_of_nonneg h2, IntKind.wrap_i64]
  omega
section
variable {W : World} {b bf bw bx : Nat} {l : List Bool}
/-- The same call of both writers. -/
def Both (W : World) (b bf bw bx : Nat) (l : List Bool) (FW FX : Nat) (args : Array Value) : Prop := ∃ (L2 : List Bool) (er : Int), L2.length ≤ l.length + 65600 ∧
  (∀ w, Wtr W w b bf bw l → Calls Try.prog FW (#[.pointer (some ⟨b, 0, none⟩)] ++ args) w fun e w' => e = .returned (.int .i64 er) ∧ Wtr W w' b bf bw L2 ∧ Below W.heap.size w w' ∧ Kw w w') ∧
  (∀ w, Xtr W w bx l → Calls Try.prog FX (#[.pointer (some ⟨bx, 0, none⟩)] ++ args) w fun e w' => e = .returned (.int .i64 er) ∧ Xtr W w' bx L2 ∧ Below W.heap.size w w' ∧ Kx w w')
theorem both_bits (N : Nat) (hN : N < 18446744073709551616) (C : Int) (hl : l.length ≤ 10000000) : Both W b bf bw bx l 10 11 #[.int .u64 (N : Int), .int .i64 C] := by
  by_cases h : 0 ≤ C ∧ C ≤ 64
  · obtain ⟨c, rfl⟩ : ∃ c : Nat, C = (c : Int) := ⟨C.toNat, by omega⟩
    exact ⟨l ++ bitsOf N c, 0, by simp [bitsOf_length]; omega, fun w hw => wbits_any hw N c hN (by omega) (by omega), fun w hw => xbits_any hw N c hN (by omega) (by omega)⟩
  · exact ⟨l, 1, by omega, fun w hw => (wbits_bad hw (N : Int) C h).mono fun e w' ⟨h1, h2⟩ => by subst h2; exact ⟨h1, hw, Below.refl _ _, Kw.refl _⟩, fun w hw => (xbits_bad (N : Int) C h _).mono fun e w' ⟨h1, h2⟩ => by subst h2; exact ⟨h1, hw, Below.refl _ _, Kx.refl _⟩⟩
theorem both_rice (N : Nat) (hN : N < 18446744073709551616) (C : Int) (hl : l.length ≤ 10000000) : Both W b bf bw bx l 12 13 #[.int .u64 (N : Int), .int .i64 C] := by
  by_cases h : 0 ≤ C ∧ C ≤ 32
  · obtain ⟨c, rfl⟩ : ∃ c : Nat, C = (c : Int) := ⟨C.toNat, by omega⟩
    by_cases hq : N / 2 ^ c ≤ 65535
    · exact ⟨l ++ codeOf N c, 0, by rw [List.length_append, codeOf_length]; omega, fun w hw => wrice_any hw N c hN (by omega) hq (by omega), fun w hw => xrice_any hw N c hN (by omega) hq (by omega)⟩
    · exact ⟨l, 1, by omega, fun w hw => (wrice_bad2 hw N c (by omega) (by omega)).mono fun e w' ⟨h1, h2⟩ => by subst h2; exact ⟨h1, hw, Below.refl _ _, Kw.refl _⟩, fun w hw => (xrice_bad2 N c (by omega) (by omega) _).mono fun e w' ⟨h1, h2⟩ => by subst h2; exact ⟨h1, hw, Below.refl _ _, Kx.refl _⟩⟩
  · exact ⟨l, 1, by omega, fun w hw => (wrice_bad1 hw (N : Int) C h).mono fun e w' ⟨h1, h2⟩ => by subst h2; exact ⟨h1, hw, Below.refl _ _, Kw.refl _⟩, fun w hw => (xrice_bad1 (N : Int) C h _).mono fun e w' ⟨h1, h2⟩ => by subst h2; exact ⟨h1, hw, Below.refl _ _, Kx.refl _⟩⟩
end
theorem built_xw : Try.prog.built 28 (#[] : Array (Nat × Value)).toList = some #[.slice none 0 0] := by kernel_rfl
set_option maxHeartbeats 16000000 in
theorem walk (W : World) (a0 : Option Addr) (g0 o0 n0 c0 : Nat) (x0 : Dos) (w0 : VRow 3 W a0 g0 o0 n0 c0 (dv x0) ∧ x0.Ok) (m0 : c0 * 24 ≤ 140737488351232) :
    Calls Try.prog 3 #[.slice a0 n0 c0] W fun e w' => e = .returned (.bool true) ∧ Below W.heap.size W w' := by
  have R := Lib.hid w0.1
  have OK := Lib.hid w0.2
  have NL := Lib.hid (show n0 ≤ 140737488351232 by have := w0.1.le; omega)
  clear w0 m0
  go_enter Try.func3, Try.ntmps3
  go_upto_region 2 with (first
    | (go_at_call 7; refine (rinew_any W).mono ?_; rintro e w2 ⟨b, bf, bw, rfl, hT, hb⟩; have WT2 := Lib.hid hT; have E := Lib.hid ((Mem.nil W).call hb); clear hT hb)
    | (refine wpList_bld 28 _ rfl rfl (ps := #[]) (by kernel_rfl) built_xw ?_)
    | (refine do_box rfl (.tmp 10) rfl rfl ?_; intro bx w3 BX; have WT := Lib.hid (WT2.out.call BX.out.1); have AA := Lib.hid (E.out.below.trans (BX.out.1.mono E.out.below.size)); have XT := Lib.hid (show Xtr W w3 bx [] from ⟨⟨none, 0, 0, BX.out.2.2, vown_nothing _ _ _ _ _ AA.out.size⟩, Nat.le_trans E.out.below.size BX.out.2.1, by simp⟩)))
  go_wp2
  go_loopg [14] n0 (fun k i wr => ∃ (j : Nat) (L1 : List Bool), j + k = n0 ∧ i = .int .i64 (j : Int) ∧ Hid (Wtr W wr b bf bw L1) ∧ Hid (Xtr W wr bx L1) ∧ Hid (Below W.heap.size W wr) ∧ Hid (L1.length ≤ j * 65600 ∧ j ≤ 61))
  case atStart => exact ⟨0, [], by omega, rfl, WT, XT, AA, Lib.hid (by simp)⟩
  case round =>
    clear WT XT AA
    obtain ⟨j, L1, hj, rfl, WT, XT, AA, LN⟩ := hrel
    obtain ⟨kk, rfl⟩ : ∃ kk : Nat, kk = gk := ⟨_, rfl⟩
    by_cases hlt : j < n0
    · have HLT := Lib.hid hlt
      have RR := Lib.hid (R.out.below AA.out)
      obtain rfl := R.out.head (by omega)
      obtain ⟨o6, ho1, ho2⟩ := op_of (x0.op j)
      obtain ⟨N, hN⟩ : ∃ N, N = x0.num j := ⟨_, rfl⟩
      have NB := Lib.hid (show N < 18446744073709551616 by rw [hN]; exact OK.out.num j)
      obtain ⟨C, hC⟩ : ∃ C, C = x0.cnt j := ⟨_, rfl⟩
      obtain ⟨A, hA⟩ : ∃ A, A = x0.op j := ⟨_, rfl⟩
      have LD := Lib.hid (fun (w : World) (h : VRow 3 w (some ⟨g0, o0, none⟩) g0 o0 n0 c0 (dv x0)) => row_do (W := W) h hlt)
      rw [← hC, ← hA, ← hN] at LD
      obtain ⟨u, hu⟩ : ∃ u, u = IntKind.u64.wrap A := ⟨_, rfl⟩
      obtain ⟨rv, hrv⟩ : ∃ rv, rv = u.tmod 6 := ⟨_, rfl⟩
      have x1 : IntKind.u64.wrap A = u := hu.symm
      have x3 : u.tmod 6 = rv := hrv.symm
      have x4 : IntKind.i64.wrap rv = (o6 : Int) := by rw [hrv, hu, hA]; exact ho2
      have O6 := Lib.hid ho1
      clear hN hC hA hu hrv ho1 ho2
      go_upto_region 5 with (first
        | (refine wpList_ix (k := 3) (j := j) Try.underlying22 (by kernel_rfl) (.tmp 12) (.tmp 14) rfl rfl rfl rfl HLT.out rfl ?_)
        | (refine wpList_ld 31 (.tmp 17) rfl rfl rfl (LD.out _ RR.out) ?_)
        | (refine do_alloc rfl rfl ?_; intro b6 w5 A5; have WT5 := Lib.hid (WT.out.call A5.out.1); have XT5 := Lib.hid (XT.out.call A5.out.1); have AA5 := Lib.hid (AA.out.trans (A5.out.1.mono AA.out.size)))
        | (refine do_store A5 (arr_size _ _) rfl (.tmp 6) (.tmp 18) rfl rfl rfl ?_; intro w6 S6; have WT6 := Lib.hid (WT5.out.only A5.out.2.2 S6.out.2 (Nat.le_trans AA.out.size A5.out.2.1) (by decide) (by decide) (by decide) (by decide)); have XT6 := Lib.hid (XT5.out.only A5.out.2.2 S6.out.2 (by decide) (by decide)); have AA6 := Lib.hid (AA5.out.trans (S6.out.2.below (Nat.le_trans AA.out.size A5.out.2.1) AA5.out.size))))
      by_cases h60 : j > 60
      · have JJ := Lib.hid (show j ≤ 61 from LN.out.2)
        have c60 : (j : Int) > 60 := by omega
        clear x1 x3 x4
        obtain ⟨xs, hxs⟩ : ∃ xs, xs = pk L1 := ⟨_, rfl⟩
        have HXS := Lib.hid hxs
        have L1L := Lib.hid (show L1.length ≤ 5000000 by have := LN.out; have := JJ.out; omega)
        have XSL := Lib.hid (show xs.length ≤ 140737488355328 by rw [hxs, pk_length]; unfold nB; have := L1L.out; omega)
        have WB := Lib.hid (fun (w : World) (h : Wtr W w b bf bw L1) => wbytes_any h)
        have XB := Lib.hid (fun (w : World) (h : Xtr W w bx L1) => xbytes_any h)
        rw [← hxs] at WB XB
        have WB2 := Lib.hid (fun (w : World) (h : Wtr W w b bf bw (L1 ++ bitsOf 5 3)) => wbytes_any h)
        obtain ⟨ys, hys⟩ : ∃ ys, ys = pk (L1 ++ bitsOf 5 3) := ⟨_, rfl⟩
        have YL := Lib.hid (show 0 < ys.length by rw [hys, pk_length]; simp [bitsOf_length]; unfold nB; omega)
        rw [← hys] at WB2
        have cy : (ys.length : Int) > 0 := by have := YL.out; omega
        clear hxs hys
        go_wp2_with (first
          | (go_at_call 15; refine (WB.out _ WT6.out).mono ?_; rintro e wA ⟨pA, gA, cA, rfl, hN, hb⟩; have RA := Lib.hid hN.row; have XTA := Lib.hid (XT6.out.call hb); have WTA := Lib.hid (WT6.out.call hb); have AAA := Lib.hid (AA6.out.trans (hb.mono AA6.out.size)); clear hN hb WB)
          | (go_at_call 16; refine (XB.out _ XTA.out).mono ?_; rintro e wB ⟨pB, gB, cB, rfl, hN, hb⟩; have RB := Lib.hid hN.row; have RA2 := Lib.hid (RA.out.below hb); have WTB := Lib.hid (WTA.out.call hb); have AAB := Lib.hid (AAA.out.trans (hb.mono AAA.out.size)); clear hN hb)
          | (go_at_call 14; refine (equal_any RA2 RB rfl (Lib.hid fun i _ => rfl)).mono ?_; rintro e wC ⟨rfl, rfl⟩)
          | (go_at_call 10; refine (wbits_any WTB.out 5 3 (by omega) (by omega) (by have := L1L.out; omega)).mono ?_; rintro e wD ⟨rfl, hT, hb, hk⟩; have WTD := Lib.hid hT; have AAD := Lib.hid (AAB.out.trans hb); clear hT hb hk)
          | (go_at_call 15; refine (WB2.out _ WTD.out).mono ?_; rintro e wE ⟨pE, gE, cE, rfl, hN, hb⟩; have AAE := Lib.hid (AAD.out.trans (hb.mono AAD.out.size)); clear hN hb))
        go_ret
        refine ⟨?_, AAE.out⟩
        show Ending.returned (.bool (decide (0 < ys.length))) = _
        rw [decide_eq_true YL.out]
      · have J60 := Lib.hid (show j ≤ 60 by omega)
        have c60 : ¬ (j : Int) > 60 := by omega
        have LL := Lib.hid (show L1.length ≤ 10000000 by have := LN.out; have := J60.out; omega)
        clear h60
        have h6 : o6 = 0 ∨ o6 = 1 ∨ o6 = 2 ∨ 3 ≤ o6 := by omega
        rcases h6 with rfl | rfl | rfl | h6
        · obtain ⟨y, hy⟩ : ∃ y, y = decide (N % 2 = 1) := ⟨_, rfl⟩
          have HY := Lib.hid hy
          clear hy
          go_wp2_with (first
            | (refine wpList_ld1 3 (.tmp 21) rfl rfl rfl Try.underlying3 rfl (cell_of_here S6.out.1 0 (v := .int .i64 A) rfl) ?_)
            | (refine wpList_ld1 29 (.tmp 41) rfl rfl rfl Try.underlying29 rfl (cell_of_here S6.out.1 2 (v := .int .u64 (N : Int)) rfl) ?_)
            | (refine wpList_ld1 29 (.tmp 47) rfl rfl rfl Try.underlying29 rfl (cell_of_here BX7.out 2 (v := .int .u64 (N : Int)) rfl) ?_)
            | (refine wpList_known rfl (.int .u64 ((N % 2 : Nat) : Int)) _ (exec_mod2 rfl rfl rfl NB.out) ?_)
            | (refine wpList_known rfl (.bool y) _ (exec_eq1 rfl rfl rfl HY.out.symm) ?_)
            | (go_at_call 8; refine (wbit_any WT6.out y (by have := LL.out; omega)).mono ?_; rintro e w7 ⟨rfl, hT, hb, hk⟩; have WT7 := Lib.hid hT; have XT7 := Lib.hid (XT6.out.kw hk); have AA7 := Lib.hid (AA6.out.trans hb); have BX7 := Lib.hid (hk.keep _ _ _ (by decide) (by decide) (by decide) S6.out.1); clear hT hb hk)
            | (go_at_call 9; refine (xbit_any XT7.out y (by have := LL.out; omega)).mono ?_; rintro e w8 ⟨rfl, hT, hb, hk⟩; have XT8 := Lib.hid hT; have WT8 := Lib.hid (WT7.out.kx hk hb); have AA8 := Lib.hid (AA7.out.trans hb); clear hT hb hk))
          go_roundg (n0 - (j + 1))
          case measure => omega
          case rel => exact ⟨j + 1, L1 ++ [y], by omega, by first | exact congrArg (Value.int .i64) (show wrap64 ((j : Int) + 1) = ((j + 1 : Nat) : Int) by have := J60.out; unfold wrap64; omega) | exact congrArg (Value.int .i64) (show (j : Int) + 1 = ((j + 1 : Nat) : Int) by omega), WT8, XT8, AA8, Lib.hid (by have := LN.out; have := J60.out; simp; omega)⟩
        · obtain ⟨L2, er, hl2, cw, cx⟩ := both_bits (W := W) (b := b) (bf := bf) (bw := bw) (bx := bx) N NB.out C LL.out
          have H2 := Lib.hid hl2
          have CW := Lib.hid cw
          have CX := Lib.hid cx
          clear cw cx hl2
          go_upto_region 14 with (first
            | (refine wpList_ld1 3 (.tmp 21) rfl rfl rfl Try.underlying3 rfl (cell_of_here S6.out.1 0 (v := .int .i64 A) rfl) ?_))
          clear x1 x3 x4 c60
          have E1 := Lib.hid (Mem.nil w6)
          refine wp_region_memS (S := fun W' => W'.heap[b6]? = some (.cells (arr 3 (dv1 A C N)) 31 (0, 0))) E1 (by kernel_rfl) ?_
          clear E1
          intro wx E0
          have S0 := Lib.hid (show wx.heap[b6]? = some (.cells (arr 3 (dv1 A C N)) 31 (0, 0)) by rw [E0.out.below.block b6 (heap_lt S6.out.1)]; exact S6.out.1)
          have WX := Lib.hid (WT6.out.call E0.out.below)
          have XX := Lib.hid (XT6.out.call E0.out.below)
          have AX := Lib.hid (AA6.out.trans (E0.out.below.mono AA6.out.size))
          clear E0
          try simp only [Act.put, List.getElem_toArray, List.getElem_cons_succ, List.getElem_cons_zero, List.setIfInBounds_toArray, List.set_cons_zero, List.set_cons_succ]
          refine hm_run 0 55 (.pointer (some ⟨b, 0, none⟩)) rfl rfl (by kernel_rfl) (by kernel_rfl) (by kernel_rfl) (fun _ _ _ h => h) rfl (fun W' hW => rfl) S0.out ?_
          try simp only [Act.put, List.getElem_toArray, List.getElem_cons_succ, List.getElem_cons_zero, List.setIfInBounds_toArray, List.set_cons_zero, List.set_cons_succ]
          refine hm_run 1 56 (.pointer (some ⟨b6, 2, none⟩)) rfl rfl (by kernel_rfl) (by kernel_rfl) (by kernel_rfl) (fun _ _ _ h => h) rfl (fun W' hW => rfl) S0.out ?_
          try simp only [Act.put, List.getElem_toArray, List.getElem_cons_succ, List.getElem_cons_zero, List.setIfInBounds_toArray, List.set_cons_zero, List.set_cons_succ]
          refine hm_run 2 57 (.int .u64 (N : Int)) rfl rfl (by kernel_rfl) (by kernel_rfl) (by kernel_rfl) (fun _ _ _ h => h) rfl (fun W' hW => exec_load rfl (run_load_one Try.underlying29 rfl (cell_of_here hW 2 rfl))) S0.out ?_
          try simp only [Act.put, List.getElem_toArray, List.getElem_cons_succ, List.getElem_cons_zero, List.setIfInBounds_toArray, List.set_cons_zero, List.set_cons_succ]
          refine hm_run 3 58 (.pointer (some ⟨b6, 1, none⟩)) rfl rfl (by kernel_rfl) (by kernel_rfl) (by kernel_rfl) (fun _ _ _ h => h) rfl (fun W' hW => rfl) S0.out ?_
          try simp only [Act.put, List.getElem_toArray, List.getElem_cons_succ, List.getElem_cons_zero, List.setIfInBounds_toArray, List.set_cons_zero, List.set_cons_succ]
          refine hm_run 4 59 (.int .i64 C) rfl rfl (by kernel_rfl) (by kernel_rfl) (by kernel_rfl) (fun _ _ _ h => h) rfl (fun W' hW => exec_load rfl (run_load_one Try.underlying3 rfl (cell_of_here hW 1 rfl))) S0.out ?_
          try simp only [Act.put, List.getElem_toArray, List.getElem_cons_succ, List.getElem_cons_zero, List.setIfInBounds_toArray, List.set_cons_zero, List.set_cons_succ]
          refine hm_run 6 61 (.pointer (some ⟨bx, 0, none⟩)) rfl rfl (by kernel_rfl) (by kernel_rfl) (by kernel_rfl) (fun _ _ _ h => h) rfl (fun W' hW => rfl) S0.out ?_
          try simp only [Act.put, List.getElem_toArray, List.getElem_cons_succ, List.getElem_cons_zero, List.setIfInBounds_toArray, List.set_cons_zero, List.set_cons_succ]
          refine hm_run 7 62 (.pointer (some ⟨b6, 2, none⟩)) rfl rfl (by kernel_rfl) (by kernel_rfl) (by kernel_rfl) (fun _ _ _ h => h) rfl (fun W' hW => rfl) S0.out ?_
          try simp only [Act.put, List.getElem_toArray, List.getElem_cons_succ, List.getElem_cons_zero, List.setIfInBounds_toArray, List.set_cons_zero, List.set_cons_succ]
          refine hm_run 8 63 (.int .u64 (N : Int)) rfl rfl (by kernel_rfl) (by kernel_rfl) (by kernel_rfl) (fun _ _ _ h => h) rfl (fun W' hW => exec_load rfl (run_load_one Try.underlying29 rfl (cell_of_here hW 2 rfl))) S0.out ?_
          try simp only [Act.put, List.getElem_toArray, List.getElem_cons_succ, List.getElem_cons_zero, List.setIfInBounds_toArray, List.set_cons_zero, List.set_cons_succ]
          refine hm_run 9 64 (.pointer (some ⟨b6, 1, none⟩)) rfl rfl (by kernel_rfl) (by kernel_rfl) (by kernel_rfl) (fun _ _ _ h => h) rfl (fun W' hW => rfl) S0.out ?_
          try simp only [Act.put, List.getElem_toArray, List.getElem_cons_succ, List.getElem_cons_zero, List.setIfInBounds_toArray, List.set_cons_zero, List.set_cons_succ]
          refine hm_run 10 65 (.int .i64 C) rfl rfl (by kernel_rfl) (by kernel_rfl) (by kernel_rfl) (fun _ _ _ h => h) rfl (fun W' hW => exec_load rfl (run_load_one Try.underlying3 rfl (cell_of_here hW 1 rfl))) S0.out ?_
          try simp only [Act.put, List.getElem_toArray, List.getElem_cons_succ, List.getElem_cons_zero, List.setIfInBounds_toArray, List.set_cons_zero, List.set_cons_succ]
          refine hm_one (i := 5) (by kernel_rfl) ?_
          refine hm_step 5 rfl (by kernel_rfl) fun K hK => ?_
          try simp only [Act.put, List.getElem_toArray, List.getElem_cons_succ, List.getElem_cons_zero, List.setIfInBounds_toArray, List.set_cons_zero, List.set_cons_succ]
          go_simp
          go_at_call 10
          refine (CW.out _ WX.out).mono ?_
          rintro e w7 ⟨rfl, hT, hb, hk⟩
          have W7 := Lib.hid hT
          have X7 := Lib.hid (XX.out.kw hk)
          have A7 := Lib.hid (AX.out.trans hb)
          have S7 := Lib.hid (hk.keep _ _ _ (by decide) (by decide) (by decide) S0.out)
          clear hT hb hk
          refine hK _ _ S7.out ?_
          clear hK K
          try simp only [Act.put, List.getElem_toArray, List.getElem_cons_succ, List.getElem_cons_zero, List.setIfInBounds_toArray, List.set_cons_zero, List.set_cons_succ]
          refine hm_one (i := 11) (by kernel_rfl) ?_
          refine hm_step 11 rfl (by kernel_rfl) fun K hK => ?_
          try simp only [Act.put, List.getElem_toArray, List.getElem_cons_succ, List.getElem_cons_zero, List.setIfInBounds_toArray, List.set_cons_zero, List.set_cons_succ]
          go_simp
          go_at_call 11
          refine (CX.out _ X7.out).mono ?_
          rintro e w8 ⟨rfl, hT, hb, hk⟩
          have X8 := Lib.hid hT
          have W8 := Lib.hid (W7.out.kx hk hb)
          have A8 := Lib.hid (A7.out.trans hb)
          have S8 := Lib.hid (hk.keep _ _ _ (by decide) (by decide) S7.out)
          clear hT hb hk
          refine hK _ _ S8.out ?_
          clear hK K
          try simp only [Act.put, List.getElem_toArray, List.getElem_cons_succ, List.getElem_cons_zero, List.setIfInBounds_toArray, List.set_cons_zero, List.set_cons_succ]
          refine hm_run 12 7 (.int .i64 er) rfl rfl (by kernel_rfl) (by kernel_rfl) (by kernel_rfl) (fun _ _ _ h => h) rfl (fun W' hW => rfl) S8.out ?_
          try simp only [Act.put, List.getElem_toArray, List.getElem_cons_succ, List.getElem_cons_zero, List.setIfInBounds_toArray, List.set_cons_zero, List.set_cons_succ]
          refine hm_run 13 8 (.int .i64 er) rfl rfl (by kernel_rfl) (by kernel_rfl) (by kernel_rfl) (fun _ _ _ h => h) rfl (fun W' hW => rfl) S8.out ?_
          try simp only [Act.put, List.getElem_toArray, List.getElem_cons_succ, List.getElem_cons_zero, List.setIfInBounds_toArray, List.set_cons_zero, List.set_cons_succ]
          refine wpAnyH_done (by kernel_rfl) ?_ _
          go_wp2_with (refine wpList_known rfl (.bool false) _ (exec_neerr rfl rfl rfl) ?_)
          go_roundg (n0 - (j + 1))
          case measure => omega
          case rel => exact ⟨j + 1, L2, by omega, by first | exact congrArg (Value.int .i64) (show wrap64 ((j : Int) + 1) = ((j + 1 : Nat) : Int) by have := J60.out; unfold wrap64; omega) | exact congrArg (Value.int .i64) (show (j : Int) + 1 = ((j + 1 : Nat) : Int) by omega), W8, X8, A8, Lib.hid (by have := LN.out; have := H2.out; have := J60.out; omega)⟩
        · obtain ⟨L2, er, hl2, cw, cx⟩ := both_bits (W := W) (b := b) (bf := bf) (bw := bw) (bx := bx) N NB.out C LL.out
          have H2 := Lib.hid hl2
          have CW := Lib.hid cw
          have CX := Lib.hid cx
          clear cw cx hl2
          go_upto_region 14 with (first
            | (refine wpList_ld1 3 (.tmp 21) rfl rfl rfl Try.underlying3 rfl (cell_of_here S6.out.1 0 (v := .int .i64 A) rfl) ?_))
          clear x1 x3 x4 c60
          have E1 := Lib.hid (Mem.nil w6)
          refine wp_region_memS (S := fun W' => W'.heap[b6]? = some (.cells (arr 3 (dv1 A C N)) 31 (0, 0))) E1 (by kernel_rfl) ?_
          clear E1
          intro wx E0
          have S0 := Lib.hid (show wx.heap[b6]? = some (.cells (arr 3 (dv1 A C N)) 31 (0, 0)) by rw [E0.out.below.block b6 (heap_lt S6.out.1)]; exact S6.out.1)
          have WX := Lib.hid (WT6.out.call E0.out.below)
          have XX := Lib.hid (XT6.out.call E0.out.below)
          have AX := Lib.hid (AA6.out.trans (E0.out.below.mono AA6.out.size))
          clear E0
          try simp only [Act.put, List.getElem_toArray, List.getElem_cons_succ, List.getElem_cons_zero, List.setIfInBounds_toArray, List.set_cons_zero, List.set_cons_succ]
          refine hm_run 0 55 (.pointer (some ⟨b, 0, none⟩)) rfl rfl (by kernel_rfl) (by kernel_rfl) (by kernel_rfl) (fun _ _ _ h => h) rfl (fun W' hW => rfl) S0.out ?_
          try simp only [Act.put, List.getElem_toArray, List.getElem_cons_succ, List.getElem_cons_zero, List.setIfInBounds_toArray, List.set_cons_zero, List.set_cons_succ]
          refine hm_run 1 56 (.pointer (some ⟨b6, 2, none⟩)) rfl rfl (by kernel_rfl) (by kernel_rfl) (by kernel_rfl) (fun _ _ _ h => h) rfl (fun W' hW => rfl) S0.out ?_
          try simp only [Act.put, List.getElem_toArray, List.getElem_cons_succ, List.getElem_cons_zero, List.setIfInBounds_toArray, List.set_cons_zero, List.set_cons_succ]
          refine hm_run 2 57 (.int .u64 (N : Int)) rfl rfl (by kernel_rfl) (by kernel_rfl) (by kernel_rfl) (fun _ _ _ h => h) rfl (fun W' hW => exec_load rfl (run_load_one Try.underlying29 rfl (cell_of_here hW 2 rfl))) S0.out ?_
          try simp only [Act.put, List.getElem_toArray, List.getElem_cons_succ, List.getElem_cons_zero, List.setIfInBounds_toArray, List.set_cons_zero, List.set_cons_succ]
          refine hm_run 3 58 (.pointer (some ⟨b6, 1, none⟩)) rfl rfl (by kernel_rfl) (by kernel_rfl) (by kernel_rfl) (fun _ _ _ h => h) rfl (fun W' hW => rfl) S0.out ?_
          try simp only [Act.put, List.getElem_toArray, List.getElem_cons_succ, List.getElem_cons_zero, List.setIfInBounds_toArray, List.set_cons_zero, List.set_cons_succ]
          refine hm_run 4 59 (.int .i64 C) rfl rfl (by kernel_rfl) (by kernel_rfl) (by kernel_rfl) (fun _ _ _ h => h) rfl (fun W' hW => exec_load rfl (run_load_one Try.underlying3 rfl (cell_of_here hW 1 rfl))) S0.out ?_
          try simp only [Act.put, List.getElem_toArray, List.getElem_cons_succ, List.getElem_cons_zero, List.setIfInBounds_toArray, List.set_cons_zero, List.set_cons_succ]
          refine hm_run 6 61 (.pointer (some ⟨bx, 0, none⟩)) rfl rfl (by kernel_rfl) (by kernel_rfl) (by kernel_rfl) (fun _ _ _ h => h) rfl (fun W' hW => rfl) S0.out ?_
          try simp only [Act.put, List.getElem_toArray, List.getElem_cons_succ, List.getElem_cons_zero, List.setIfInBounds_toArray, List.set_cons_zero, List.set_cons_succ]
          refine hm_run 7 62 (.pointer (some ⟨b6, 2, none⟩)) rfl rfl (by kernel_rfl) (by kernel_rfl) (by kernel_rfl) (fun _ _ _ h => h) rfl (fun W' hW => rfl) S0.out ?_
          try simp only [Act.put, List.getElem_toArray, List.getElem_cons_succ, List.getElem_cons_zero, List.setIfInBounds_toArray, List.set_cons_zero, List.set_cons_succ]
          refine hm_run 8 63 (.int .u64 (N : Int)) rfl rfl (by kernel_rfl) (by kernel_rfl) (by kernel_rfl) (fun _ _ _ h => h) rfl (fun W' hW => exec_load rfl (run_load_one Try.underlying29 rfl (cell_of_here hW 2 rfl))) S0.out ?_
          try simp only [Act.put, List.getElem_toArray, List.getElem_cons_succ, List.getElem_cons_zero, List.setIfInBounds_toArray, List.set_cons_zero, List.set_cons_succ]
          refine hm_run 9 64 (.pointer (some ⟨b6, 1, none⟩)) rfl rfl (by kernel_rfl) (by kernel_rfl) (by kernel_rfl) (fun _ _ _ h => h) rfl (fun W' hW => rfl) S0.out ?_
          try simp only [Act.put, List.getElem_toArray, List.getElem_cons_succ, List.getElem_cons_zero, List.setIfInBounds_toArray, List.set_cons_zero, List.set_cons_succ]
          refine hm_run 10 65 (.int .i64 C) rfl rfl (by kernel_rfl) (by kernel_rfl) (by kernel_rfl) (fun _ _ _ h => h) rfl (fun W' hW => exec_load rfl (run_load_one Try.underlying3 rfl (cell_of_here hW 1 rfl))) S0.out ?_
          try simp only [Act.put, List.getElem_toArray, List.getElem_cons_succ, List.getElem_cons_zero, List.setIfInBounds_toArray, List.set_cons_zero, List.set_cons_succ]
          refine hm_one (i := 5) (by kernel_rfl) ?_
          refine hm_step 5 rfl (by kernel_rfl) fun K hK => ?_
          try simp only [Act.put, List.getElem_toArray, List.getElem_cons_succ, List.getElem_cons_zero, List.setIfInBounds_toArray, List.set_cons_zero, List.set_cons_succ]
          go_simp
          go_at_call 10
          refine (CW.out _ WX.out).mono ?_
          rintro e w7 ⟨rfl, hT, hb, hk⟩
          have W7 := Lib.hid hT
          have X7 := Lib.hid (XX.out.kw hk)
          have A7 := Lib.hid (AX.out.trans hb)
          have S7 := Lib.hid (hk.keep _ _ _ (by decide) (by decide) (by decide) S0.out)
          clear hT hb hk
          refine hK _ _ S7.out ?_
          clear hK K
          try simp only [Act.put, List.getElem_toArray, List.getElem_cons_succ, List.getElem_cons_zero, List.setIfInBounds_toArray, List.set_cons_zero, List.set_cons_succ]
          refine hm_one (i := 11) (by kernel_rfl) ?_
          refine hm_step 11 rfl (by kernel_rfl) fun K hK => ?_
          try simp only [Act.put, List.getElem_toArray, List.getElem_cons_succ, List.getElem_cons_zero, List.setIfInBounds_toArray, List.set_cons_zero, List.set_cons_succ]
          go_simp
          go_at_call 11
          refine (CX.out _ X7.out).mono ?_
          rintro e w8 ⟨rfl, hT, hb, hk⟩
          have X8 := Lib.hid hT
          have W8 := Lib.hid (W7.out.kx hk hb)
          have A8 := Lib.hid (A7.out.trans hb)
          have S8 := Lib.hid (hk.keep _ _ _ (by decide) (by decide) S7.out)
          clear hT hb hk
          refine hK _ _ S8.out ?_
          clear hK K
          try simp only [Act.put, List.getElem_toArray, List.getElem_cons_succ, List.getElem_cons_zero, List.setIfInBounds_toArray, List.set_cons_zero, List.set_cons_succ]
          refine hm_run 12 7 (.int .i64 er) rfl rfl (by kernel_rfl) (by kernel_rfl) (by kernel_rfl) (fun _ _ _ h => h) rfl (fun W' hW => rfl) S8.out ?_
          try simp only [Act.put, List.getElem_toArray, List.getElem_cons_succ, List.getElem_cons_zero, List.setIfInBounds_toArray, List.set_cons_zero, List.set_cons_succ]
          refine hm_run 13 8 (.int .i64 er) rfl rfl (by kernel_rfl) (by kernel_rfl) (by kernel_rfl) (fun _ _ _ h => h) rfl (fun W' hW => rfl) S8.out ?_
          try simp only [Act.put, List.getElem_toArray, List.getElem_cons_succ, List.getElem_cons_zero, List.setIfInBounds_toArray, List.set_cons_zero, List.set_cons_succ]
          refine wpAnyH_done (by kernel_rfl) ?_ _
          go_wp2_with (refine wpList_known rfl (.bool false) _ (exec_neerr rfl rfl rfl) ?_)
          go_roundg (n0 - (j + 1))
          case measure => omega
          case rel => exact ⟨j + 1, L2, by omega, by first | exact congrArg (Value.int .i64) (show wrap64 ((j : Int) + 1) = ((j + 1 : Nat) : Int) by have := J60.out; unfold wrap64; omega) | exact congrArg (Value.int .i64) (show (j : Int) + 1 = ((j + 1 : Nat) : Int) by omega), W8, X8, A8, Lib.hid (by have := LN.out; have := H2.out; have := J60.out; omega)⟩
        · obtain ⟨L2, er, hl2, cw, cx⟩ := both_rice (W := W) (b := b) (bf := bf) (bw := bw) (bx := bx) N NB.out C LL.out
          have H2 := Lib.hid hl2
          have CW := Lib.hid cw
          have CX := Lib.hid cx
          have d0 : ¬ (o6 : Int) = 0 := by omega
          have d1 : ¬ (o6 : Int) = 1 := by omega
          have d2 : ¬ (o6 : Int) = 2 := by omega
          clear cw cx hl2 h6
          go_upto_region 8 with (first
            | (refine wpList_ld1 3 (.tmp 21) rfl rfl rfl Try.underlying3 rfl (cell_of_here S6.out.1 0 (v := .int .i64 A) rfl) ?_))
          clear x1 x3 x4 d0 d1 d2 c60
          have E1 := Lib.hid (Mem.nil w6)
          refine wp_region_memS (S := fun W' => W'.heap[b6]? = some (.cells (arr 3 (dv1 A C N)) 31 (0, 0))) E1 (by kernel_rfl) ?_
          clear E1
          intro wx E0
          have S0 := Lib.hid (show wx.heap[b6]? = some (.cells (arr 3 (dv1 A C N)) 31 (0, 0)) by rw [E0.out.below.block b6 (heap_lt S6.out.1)]; exact S6.out.1)
          have WX := Lib.hid (WT6.out.call E0.out.below)
          have XX := Lib.hid (XT6.out.call E0.out.below)
          have AX := Lib.hid (AA6.out.trans (E0.out.below.mono AA6.out.size))
          clear E0
          try simp only [Act.put, List.getElem_toArray, List.getElem_cons_succ, List.getElem_cons_zero, List.setIfInBounds_toArray, List.set_cons_zero, List.set_cons_succ]
          refine hm_run 0 26 (.pointer (some ⟨b, 0, none⟩)) rfl rfl (by kernel_rfl) (by kernel_rfl) (by kernel_rfl) (fun _ _ _ h => h) rfl (fun W' hW => rfl) S0.out ?_
          try simp only [Act.put, List.getElem_toArray, List.getElem_cons_succ, List.getElem_cons_zero, List.setIfInBounds_toArray, List.set_cons_zero, List.set_cons_succ]
          refine hm_run 1 27 (.pointer (some ⟨b6, 2, none⟩)) rfl rfl (by kernel_rfl) (by kernel_rfl) (by kernel_rfl) (fun _ _ _ h => h) rfl (fun W' hW => rfl) S0.out ?_
          try simp only [Act.put, List.getElem_toArray, List.getElem_cons_succ, List.getElem_cons_zero, List.setIfInBounds_toArray, List.set_cons_zero, List.set_cons_succ]
          refine hm_run 2 28 (.int .u64 (N : Int)) rfl rfl (by kernel_rfl) (by kernel_rfl) (by kernel_rfl) (fun _ _ _ h => h) rfl (fun W' hW => exec_load rfl (run_load_one Try.underlying29 rfl (cell_of_here hW 2 rfl))) S0.out ?_
          try simp only [Act.put, List.getElem_toArray, List.getElem_cons_succ, List.getElem_cons_zero, List.setIfInBounds_toArray, List.set_cons_zero, List.set_cons_succ]
          refine hm_run 3 29 (.pointer (some ⟨b6, 1, none⟩)) rfl rfl (by kernel_rfl) (by kernel_rfl) (by kernel_rfl) (fun _ _ _ h => h) rfl (fun W' hW => rfl) S0.out ?_
          try simp only [Act.put, List.getElem_toArray, List.getElem_cons_succ, List.getElem_cons_zero, List.setIfInBounds_toArray, List.set_cons_zero, List.set_cons_succ]
          refine hm_run 4 30 (.int .i64 C) rfl rfl (by kernel_rfl) (by kernel_rfl) (by kernel_rfl) (fun _ _ _ h => h) rfl (fun W' hW => exec_load rfl (run_load_one Try.underlying3 rfl (cell_of_here hW 1 rfl))) S0.out ?_
          try simp only [Act.put, List.getElem_toArray, List.getElem_cons_succ, List.getElem_cons_zero, List.setIfInBounds_toArray, List.set_cons_zero, List.set_cons_succ]
          refine hm_run 6 32 (.pointer (some ⟨bx, 0, none⟩)) rfl rfl (by kernel_rfl) (by kernel_rfl) (by kernel_rfl) (fun _ _ _ h => h) rfl (fun W' hW => rfl) S0.out ?_
          try simp only [Act.put, List.getElem_toArray, List.getElem_cons_succ, List.getElem_cons_zero, List.setIfInBounds_toArray, List.set_cons_zero, List.set_cons_succ]
          refine hm_run 7 33 (.pointer (some ⟨b6, 2, none⟩)) rfl rfl (by kernel_rfl) (by kernel_rfl) (by kernel_rfl) (fun _ _ _ h => h) rfl (fun W' hW => rfl) S0.out ?_
          try simp only [Act.put, List.getElem_toArray, List.getElem_cons_succ, List.getElem_cons_zero, List.setIfInBounds_toArray, List.set_cons_zero, List.set_cons_succ]
          refine hm_run 8 34 (.int .u64 (N : Int)) rfl rfl (by kernel_rfl) (by kernel_rfl) (by kernel_rfl) (fun _ _ _ h => h) rfl (fun W' hW => exec_load rfl (run_load_one Try.underlying29 rfl (cell_of_here hW 2 rfl))) S0.out ?_
          try simp only [Act.put, List.getElem_toArray, List.getElem_cons_succ, List.getElem_cons_zero, List.setIfInBounds_toArray, List.set_cons_zero, List.set_cons_succ]
          refine hm_run 9 35 (.pointer (some ⟨b6, 1, none⟩)) rfl rfl (by kernel_rfl) (by kernel_rfl) (by kernel_rfl) (fun _ _ _ h => h) rfl (fun W' hW => rfl) S0.out ?_
          try simp only [Act.put, List.getElem_toArray, List.getElem_cons_succ, List.getElem_cons_zero, List.setIfInBounds_toArray, List.set_cons_zero, List.set_cons_succ]
          refine hm_run 10 36 (.int .i64 C) rfl rfl (by kernel_rfl) (by kernel_rfl) (by kernel_rfl) (fun _ _ _ h => h) rfl (fun W' hW => exec_load rfl (run_load_one Try.underlying3 rfl (cell_of_here hW 1 rfl))) S0.out ?_
          try simp only [Act.put, List.getElem_toArray, List.getElem_cons_succ, List.getElem_cons_zero, List.setIfInBounds_toArray, List.set_cons_zero, List.set_cons_succ]
          refine hm_one (i := 5) (by kernel_rfl) ?_
          refine hm_step 5 rfl (by kernel_rfl) fun K hK => ?_
          try simp only [Act.put, List.getElem_toArray, List.getElem_cons_succ, List.getElem_cons_zero, List.setIfInBounds_toArray, List.set_cons_zero, List.set_cons_succ]
          go_simp
          go_at_call 12
          refine (CW.out _ WX.out).mono ?_
          rintro e w7 ⟨rfl, hT, hb, hk⟩
          have W7 := Lib.hid hT
          have X7 := Lib.hid (XX.out.kw hk)
          have A7 := Lib.hid (AX.out.trans hb)
          have S7 := Lib.hid (hk.keep _ _ _ (by decide) (by decide) (by decide) S0.out)
          clear hT hb hk
          refine hK _ _ S7.out ?_
          clear hK K
          try simp only [Act.put, List.getElem_toArray, List.getElem_cons_succ, List.getElem_cons_zero, List.setIfInBounds_toArray, List.set_cons_zero, List.set_cons_succ]
          refine hm_one (i := 11) (by kernel_rfl) ?_
          refine hm_step 11 rfl (by kernel_rfl) fun K hK => ?_
          try simp only [Act.put, List.getElem_toArray, List.getElem_cons_succ, List.getElem_cons_zero, List.setIfInBounds_toArray, List.set_cons_zero, List.set_cons_succ]
          go_simp
          go_at_call 13
          refine (CX.out _ X7.out).mono ?_
          rintro e w8 ⟨rfl, hT, hb, hk⟩
          have X8 := Lib.hid hT
          have W8 := Lib.hid (W7.out.kx hk hb)
          have A8 := Lib.hid (A7.out.trans hb)
          have S8 := Lib.hid (hk.keep _ _ _ (by decide) (by decide) S7.out)
          clear hT hb hk
          refine hK _ _ S8.out ?_
          clear hK K
          try simp only [Act.put, List.getElem_toArray, List.getElem_cons_succ, List.getElem_cons_zero, List.setIfInBounds_toArray, List.set_cons_zero, List.set_cons_succ]
          refine hm_run 12 7 (.int .i64 er) rfl rfl (by kernel_rfl) (by kernel_rfl) (by kernel_rfl) (fun _ _ _ h => h) rfl (fun W' hW => rfl) S8.out ?_
          try simp only [Act.put, List.getElem_toArray, List.getElem_cons_succ, List.getElem_cons_zero, List.setIfInBounds_toArray, List.set_cons_zero, List.set_cons_succ]
          refine hm_run 13 8 (.int .i64 er) rfl rfl (by kernel_rfl) (by kernel_rfl) (by kernel_rfl) (fun _ _ _ h => h) rfl (fun W' hW => rfl) S8.out ?_
          try simp only [Act.put, List.getElem_toArray, List.getElem_cons_succ, List.getElem_cons_zero, List.setIfInBounds_toArray, List.set_cons_zero, List.set_cons_succ]
          refine wpAnyH_done (by kernel_rfl) ?_ _
          go_wp2_with (refine wpList_known rfl (.bool false) _ (exec_neerr rfl rfl rfl) ?_)
          go_roundg (n0 - (j + 1))
          case measure => omega
          case rel => exact ⟨j + 1, L2, by omega, by first | exact congrArg (Value.int .i64) (show wrap64 ((j : Int) + 1) = ((j + 1 : Nat) : Int) by have := J60.out; unfold wrap64; omega) | exact congrArg (Value.int .i64) (show (j : Int) + 1 = ((j + 1 : Nat) : Int) by omega), W8, X8, A8, Lib.hid (by have := LN.out; have := H2.out; have := J60.out; omega)⟩
    · obtain rfl : j = n0 := by omega
      have JJ := Lib.hid (show j ≤ 61 from LN.out.2)
      obtain ⟨xs, hxs⟩ : ∃ xs, xs = pk L1 := ⟨_, rfl⟩
      have HXS := Lib.hid hxs
      have L1L := Lib.hid (show L1.length ≤ 5000000 by have := LN.out; have := JJ.out; omega)
      have XSL := Lib.hid (show xs.length ≤ 140737488355328 by rw [hxs, pk_length]; unfold nB; have := L1L.out; omega)
      have WB := Lib.hid (fun (w : World) (h : Wtr W w b bf bw L1) => wbytes_any h)
      have XB := Lib.hid (fun (w : World) (h : Xtr W w bx L1) => xbytes_any h)
      rw [← hxs] at WB XB
      have WB2 := Lib.hid (fun (w : World) (h : Wtr W w b bf bw (L1 ++ bitsOf 5 3)) => wbytes_any h)
      obtain ⟨ys, hys⟩ : ∃ ys, ys = pk (L1 ++ bitsOf 5 3) := ⟨_, rfl⟩
      have YL := Lib.hid (show 0 < ys.length by rw [hys, pk_length]; simp [bitsOf_length]; unfold nB; omega)
      rw [← hys] at WB2
      have cy : (ys.length : Int) > 0 := by have := YL.out; omega
      clear hxs hys
      go_wp2_with (first
        | (go_at_call 15; refine (WB.out _ WT.out).mono ?_; rintro e wA ⟨pA, gA, cA, rfl, hN, hb⟩; have RA := Lib.hid hN.row; have XTA := Lib.hid (XT.out.call hb); have WTA := Lib.hid (WT.out.call hb); have AAA := Lib.hid (AA.out.trans (hb.mono AA.out.size)); clear hN hb WB)
        | (go_at_call 16; refine (XB.out _ XTA.out).mono ?_; rintro e wB ⟨pB, gB, cB, rfl, hN, hb⟩; have RB := Lib.hid hN.row; have RA2 := Lib.hid (RA.out.below hb); have WTB := Lib.hid (WTA.out.call hb); have AAB := Lib.hid (AAA.out.trans (hb.mono AAA.out.size)); clear hN hb)
        | (go_at_call 14; refine (equal_any RA2 RB rfl (Lib.hid fun i _ => rfl)).mono ?_; rintro e wC ⟨rfl, rfl⟩)
        | (go_at_call 10; refine (wbits_any WTB.out 5 3 (by omega) (by omega) (by have := L1L.out; omega)).mono ?_; rintro e wD ⟨rfl, hT, hb, hk⟩; have WTD := Lib.hid hT; have AAD := Lib.hid (AAB.out.trans hb); clear hT hb hk)
        | (go_at_call 15; refine (WB2.out _ WTD.out).mono ?_; rintro e wE ⟨pE, gE, cE, rfl, hN, hb⟩; have AAE := Lib.hid (AAD.out.trans (hb.mono AAD.out.size)); clear hN hb))
      go_ret
      refine ⟨?_, AAE.out⟩
      show Ending.returned (.bool (decide (0 < ys.length))) = _
      rw [decide_eq_true YL.out]

set_option maxRecDepth 100000 in
theorem lifted (os : Os) (started : os.Started) (H : Type) (enc : TypeId × Value → H) :
    ReturnsInHanded {} Try.checked os 3 .any (Rows.riceWritesSpec.pre6 enc Try.prog Try.f3 Rows.riceWritesRow.domain false) (Rows.riceWritesSpec.post enc Try.prog Try.f3 false true false false) := by
  refine returnsInHanded_of_change_sized (C := Try.checked) own started (by kernel_rfl) Try.func3
    (ChangeSpec.witness6 (enc := enc) (C := Try.checked) false ⟨#[], #[.slice none 0 0], []⟩ 8 (by kernel_rfl) (by kernel_rfl) (by kernel_rfl) (by kernel_rfl)) ?_
  intro W base args ds gs before hval0 hW hcnd hsz0 _
  have hval : ∀ (j : Nat) t v, Try.f3.params[j]? = some t → args[j]? = some v → Value.okWide Try.prog W .any base t v := hval0
  have hsz : (DataW.weightsEach Try.prog (Try.f3.params.toList ++ Rows.riceWritesSpec.plain.varTypes Try.prog) (ds ++ gs)).all (· ≤ reachBytes) = true := hsz0
  have hW' := hW
  obtain ⟨p, q, hA0, hV, rfl, hfz, hnd⟩ := hW
  have hA : DataW.TrodAll enc Try.prog W 0 (fun _ => true) true Try.f3.params.toList args.toList ds p := hA0
  rw [Try.params3] at hA hval hsz
  obtain ⟨v0, vs0, d0, ds0, p0, q0, hargs, rfl, rfl, h0, r0⟩ := trodAll_cons hA
  obtain ⟨rfl, rfl, rfl⟩ := trodAll_nil r0
  obtain rfl : args = #[v0] := by cases args; simp_all
  obtain ⟨rfl, rfl⟩ := trodVars_none hV
  have k0 := h0
  have lt0 : ∀ x ∈ p0, x.block < W.heap.size := by obtain ⟨m, hm⟩ := k0; exact DataW.trod_lt m _ _ _ hm
  obtain ⟨a0, g0, o0, n0, c0, x0, rfl, w0, m0⟩ := open_dos (j := 0) (hval 0 22 v0 rfl rfl) h0 hsz rfl rfl
  clear hA0 hval0 hsz0
  simp only [List.append_nil] at hW'
  refine (walk W a0 g0 o0 n0 c0 x0 w0 m0).mono fun e W' ⟨he, bel⟩ => ?_
  subst he
  exact ⟨_, rfl, _, _, _, [], _, [], hW', trodAll_mk1 (shut_bool Try.underlying4 _), (trodAll_cons_mk (Below.trod laidOut (by kernel_rfl) (of_decide_eq_true (by kernel_rfl)) k0 bel lt0) trodAll_mk0), rfl, bel.frame _, fun h => by cases h⟩

theorem over : Rows.riceWritesRow.holds Try.pinned (OpenSpec.ofChange Rows.riceWritesSpec) :=
  OpenClaim.holds_of_wide 3 Try.f3 rfl rfl rfl rfl rfl rfl rfl ⟨rfl, rfl, rfl, rfl, rfl⟩ rfl rfl rfl rfl rfl (by kernel_rfl) Try.func3 (by kernel_rfl)
    (of_decide_eq_true (by kernel_rfl)) (by unfold Func.isWrapper; first | (rw [if_pos (by decide +kernel)]; kernel_rfl) | (rw [if_neg (by decide +kernel)]; exact ⟨rfl, rfl⟩))
    (fun os started H enc _ => lifted os started H enc)

/-- The statement. -/
theorem proved : Rows.RiceWritesSaid :=
  over
#print axioms proved
end Go.Proofs.Ytmjaimiehhgidaa.riceWrites
